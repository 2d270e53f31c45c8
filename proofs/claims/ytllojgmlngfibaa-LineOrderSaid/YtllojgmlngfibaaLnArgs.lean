/-
  A slice of calls that came in as an argument, each with a slice of damages, opened at every index. No condition of its own.
-/
import Derived.Test.YtllojgmlngfibaaArgs
import Derived.Test.YtllojgmlngfibaaLnVal
namespace Go.Proofs.Ytllojgmlngfibaa.Ln
set_option maxRecDepth 20000
open Go.ChangeShapes Go.WideShapes Go.ChangeAt Go.ChangeMaps Go.RowKit Go.Proofs.Ytllojgmlngfibaa.Mem Go.Deep
/-- A call. -/
structure Cl where
  kind : Int
  l : List UInt8
  da : Option Addr
  dn : Nat
  dcap : Nat
  D : Nat → Dm
  N : Int
/-- Its cells. -/
def cc (x : Cl) : List Value := [.int .i64 x.kind, .string ⟨x.l.toArray⟩, .slice x.da x.dn x.dcap, .int .i64 x.N]
def Fits (w : World) (x : Cl) : Prop := x.l.length ≤ maxLen ∧ x.dn ≤ maxLen ∧ ArgS 4 dc DFits w x.da x.dn x.D
section
variable {H : Type} {enc : TypeId × Value → H} {w : World}
theorem cellsU8 : Try.prog.cellsOf 5 = 1 := by kernel_rfl
theorem cellsInt : Try.prog.cellsOf 3 = 1 := by kernel_rfl
theorem cellsStr : Try.prog.cellsOf 9 = 1 := by kernel_rfl
theorem cellsDs : Try.prog.cellsOf 28 = 1 := by kernel_rfl
theorem cellsDm : Try.prog.cellsOf 33 = 4 := by kernel_rfl
theorem cellsCl : Try.prog.cellsOf 30 = 4 := by kernel_rfl
/-- A slice within something that came in. -/
theorem open_in {α : Type} {E S z : Nat} {fc : α → List Value} {P : α → Prop} (hu : Try.prog.underlying S = some (.slice E)) (hc : Try.prog.cellsOf E = z) (hz : 0 < z) (hl : ∀ x, (fc x).length = z) (a0 : α)
    (h1 : ∀ (n : Nat) (cs : List Value) (x : DataW H × List MemPlace), cs.length = z → DataW.trod enc Try.prog w 0 (fun _ => true) true n E cs = some x → ∃ a : α, cs = fc a ∧ P a)
    {fuel : Nat} {cs : List Value} {x : DataW H × List MemPlace} (hf : DataW.trod enc Try.prog w 0 (fun _ => true) true fuel S cs = some x) :
    ∃ (oa : Option Addr) (n cap : Nat) (F : Nat → α), cs = [.slice oa n cap] ∧ n ≤ maxLen ∧ ArgS z fc P w oa n F := by
  rcases open_slice hu hf with ⟨e, _⟩ | ⟨a, n, cap, m, n', D, Pl, e, _, hle, hm, hmm, _, hx⟩
  · exact ⟨none, 0, 0, fun _ => a0, e, Nat.zero_le _, ⟨fun h => absurd h (by decide), fun k hk => absurd hk (by omega), fun a h => by cases h⟩⟩
  · have hnm : n ≤ m := by rw [hmm]; simp; omega
    rw [hc] at hx
    haveI : Inhabited α := ⟨a0⟩
    obtain ⟨F, hF⟩ := choose_lt (α := α) (p := fun i f => P f ∧ ∀ j, j < z → w.cell? ((a.add (i * z)).add j) = (fc f)[j]?) (fun i hi => by
      obtain ⟨cs', g1, g2⟩ := hx i hi
      obtain ⟨_, hz', hc'⟩ := World.cells?_some g1
      obtain ⟨f, rfl, f1⟩ := h1 _ _ _ hz' g2
      exact ⟨f, f1, fun j hj => hc' j hj⟩)
    refine ⟨some a, n, cap, F, e, Nat.le_trans hle hm, fun h0 => ⟨a, rfl, ?_⟩, fun k hk => (hF k (by omega)).1, fun a' e k hk j hj => ?_⟩
    · have h7 := (hF 0 (by omega)).2 0 hz
      rw [List.getElem?_eq_getElem (by rw [hl]; exact hz)] at h7
      have := World.block_lt_of_cell? w _ h7
      rw [add_block, add_block] at this
      exact this
    · injection e with e
      subst e
      exact (hF k (by omega)).2 j hj
theorem open_dc {n : Nat} {cs : List Value} {x : DataW H × List MemPlace} (hz : cs.length = 4) (hf : DataW.trod enc Try.prog w 0 (fun _ => true) true n 33 cs = some x) : ∃ f : Dm, cs = dc f ∧ DFits f := by
  obtain ⟨ys, n, _, hx, _, hlen, hg⟩ := DataW.trod_struct Try.underlying33 hf
  match cs, hz, ys, hlen with
  | [c0, c1, c2, c3], _, [y0, y1, y2, y3], _ =>
    have g0 : DataW.trod enc Try.prog w 0 (fun _ => true) true n 5 ((([c0, c1, c2, c3] : List Value).drop 0).take (Try.prog.cellsOf 5)) = some y0 := hg 0 _ rfl
    rw [cellsU8] at g0
    have g1 : DataW.trod enc Try.prog w 0 (fun _ => true) true n 3 ((([c0, c1, c2, c3] : List Value).drop 1).take (Try.prog.cellsOf 3)) = some y1 := hg 1 _ rfl
    rw [cellsInt] at g1
    have g2 : DataW.trod enc Try.prog w 0 (fun _ => true) true n 5 ((([c0, c1, c2, c3] : List Value).drop 2).take (Try.prog.cellsOf 5)) = some y2 := hg 2 _ rfl
    rw [cellsU8] at g2
    have g3 : DataW.trod enc Try.prog w 0 (fun _ => true) true n 3 ((([c0, c1, c2, c3] : List Value).drop 3).take (Try.prog.cellsOf 3)) = some y3 := hg 3 _ rfl
    rw [cellsInt] at g3
    obtain ⟨n0, e0, rfl, k0⟩ := DataW.trod_int Try.underlying5 g0
    obtain ⟨n1, e1, rfl, k1⟩ := DataW.trod_int Try.underlying3 g1
    obtain ⟨n2, e2, rfl, k2⟩ := DataW.trod_int Try.underlying5 g2
    obtain ⟨n3, e3, rfl, k3⟩ := DataW.trod_int Try.underlying3 g3
    obtain ⟨m0, rfl, l0⟩ := Base.wf_u8 k0
    obtain ⟨m2, rfl, l2⟩ := Base.wf_u8 k2
    obtain rfl : c0 = _ := List.head_eq_of_cons_eq e0
    obtain rfl : c1 = _ := List.head_eq_of_cons_eq e1
    obtain rfl : c2 = _ := List.head_eq_of_cons_eq e2
    obtain rfl : c3 = _ := List.head_eq_of_cons_eq e3
    exact ⟨⟨m0, n1, m2, n3⟩, rfl, l0, l2⟩
theorem open_cc {n : Nat} {cs : List Value} {x : DataW H × List MemPlace} (hz : cs.length = 4) (hf : DataW.trod enc Try.prog w 0 (fun _ => true) true n 30 cs = some x) : ∃ f : Cl, cs = cc f ∧ Fits w f := by
  obtain ⟨ys, n, _, hx, _, hlen, hg⟩ := DataW.trod_struct Try.underlying30 hf
  match cs, hz, ys, hlen with
  | [c0, c1, c2, c3], _, [y0, y1, y2, y3], _ =>
    have g0 : DataW.trod enc Try.prog w 0 (fun _ => true) true n 3 ((([c0, c1, c2, c3] : List Value).drop 0).take (Try.prog.cellsOf 3)) = some y0 := hg 0 _ rfl
    rw [cellsInt] at g0
    have g1 : DataW.trod enc Try.prog w 0 (fun _ => true) true n 9 ((([c0, c1, c2, c3] : List Value).drop 1).take (Try.prog.cellsOf 9)) = some y1 := hg 1 _ rfl
    rw [cellsStr] at g1
    have g2 : DataW.trod enc Try.prog w 0 (fun _ => true) true n 28 ((([c0, c1, c2, c3] : List Value).drop 2).take (Try.prog.cellsOf 28)) = some y2 := hg 2 _ rfl
    rw [cellsDs] at g2
    have g3 : DataW.trod enc Try.prog w 0 (fun _ => true) true n 3 ((([c0, c1, c2, c3] : List Value).drop 3).take (Try.prog.cellsOf 3)) = some y3 := hg 3 _ rfl
    rw [cellsInt] at g3
    obtain ⟨n0, e0, rfl, k0⟩ := DataW.trod_int Try.underlying3 g0
    obtain ⟨s1, e1, rfl, k1⟩ := DataW.trod_string Try.underlying9 g1
    obtain ⟨oa, dn, dcap, D, e2, k2, hD⟩ := open_in Try.underlying28 cellsDm (by decide) (fun _ => rfl) ⟨0, 0, 0, 0⟩ (fun _ _ _ hz hf => open_dc hz hf) g2
    obtain ⟨n3, e3, rfl, k3⟩ := DataW.trod_int Try.underlying3 g3
    obtain rfl : c0 = _ := List.head_eq_of_cons_eq e0
    obtain rfl : c1 = _ := List.head_eq_of_cons_eq e1
    obtain rfl : c2 = _ := List.head_eq_of_cons_eq e2
    obtain rfl : c3 = _ := List.head_eq_of_cons_eq e3
    refine ⟨⟨n0, s1.data.toList, oa, dn, dcap, D, n3⟩, ?_, ?_, k2, hD⟩
    · unfold cc
      rw [Array.toArray_toList]
    · exact k1
theorem open_calls {r : Reach} {b0 : Nat} {v : Value} {d : DataW H} {p : List MemPlace} (hv : Value.okWide Try.prog w r b0 22 v) (h : DataW.Trod enc Try.prog w 0 (fun _ => true) true 22 v d p) :
    ∃ (oa : Option Addr) (n cap : Nat) (F : Nat → Cl), v = .slice oa n cap ∧ n ≤ maxLen ∧ ArgS 4 cc (Fits w) w oa n F :=
  open_any Try.underlying22 cellsCl (by decide) (fun _ => rfl) ⟨0, [], none, 0, 0, fun _ => ⟨0, 0, 0, 0⟩, 0⟩ (fun _ _ _ hz hf => open_cc hz hf) hv h
end
/-- Where a call lies. -/
theorem carg_at {w : World} {oa : Option Addr} {n : Nat} {F : Nat → Cl} (h : ArgS 4 cc (Fits w) w oa n F) {k : Nat} (hk : k < n) : ∃ a gb go, oa = some a ∧ a.add (k * 4) = ⟨gb, go, none⟩ ∧ gb < w.heap.size ∧
    ∀ w', Below w.heap.size w w' → w'.cell? ⟨gb, go, none⟩ = some (.int .i64 (F k).kind) ∧ w'.cell? ⟨gb, go + 1, none⟩ = some (.string ⟨(F k).l.toArray⟩) ∧ w'.cell? ⟨gb, go + 2, none⟩ = some (.slice (F k).da (F k).dn (F k).dcap) ∧ w'.cell? ⟨gb, go + 3, none⟩ = some (.int .i64 (F k).N) := by
  obtain ⟨a, rfl, gb, go, ha, hgb, hrw⟩ := ArgS.at' (z := 4) (fc := cc) (by decide) (fun _ => rfl) h hk
  exact ⟨a, gb, go, rfl, ha, hgb, fun w' hb => ⟨(hb.cell (p := ⟨gb, go, none⟩) hgb).trans (hrw 0 (by decide)), (hb.cell (p := ⟨gb, go + 1, none⟩) hgb).trans (hrw 1 (by decide)), (hb.cell (p := ⟨gb, go + 2, none⟩) hgb).trans (hrw 2 (by decide)), (hb.cell (p := ⟨gb, go + 3, none⟩) hgb).trans (hrw 3 (by decide))⟩⟩
/-- What few answers. -/
def Few (n : Nat) (F : Nat → Cl) (e : Ending) : Prop := ∃ b, e = .returned (.bool b) ∧ (b = true → n ≤ 40 ∧ ∀ i, i < n → (F i).l.length ≤ 100 ∧ (F i).dn ≤ 5)
set_option maxHeartbeats 1000000 in
/-- Whether there are few. -/
theorem ffew (oa : Option Addr) (n cap : Nat) (F : Nat → Cl) (hn : n ≤ maxLen) (w : World) (hA : ArgS 4 cc (Fits w) w oa n F) :
    Calls Try.prog 5 #[.slice oa n cap] w fun e w' => Few n F e ∧ w' = w := by
  have HA := Lib.hid hA
  have hn63 : n ≤ 9223372036854775807 := by unfold maxLen at hn; omega
  clear hA hn
  by_cases h1 : 40 < n
  · have h2 : (40 : Int) < (n : Int) := by omega
    have h3 : decide ((40 : Int) < (n : Int)) = true := decide_eq_true h2
    go_enter Try.func5, Try.ntmps5
    go_wp2
    go_ret
    exact ⟨⟨false, rfl, fun h => by cases h⟩, rfl⟩
  · have h2 : ¬ (40 : Int) < (n : Int) := by omega
    have h3 : decide ((40 : Int) < (n : Int)) = false := decide_eq_false h2
    go_enter Try.func5, Try.ntmps5
    go_wp2
    go_loopw [3] (fun i wr => ∃ k : Nat, k ≤ n ∧ i = .int .i64 (k : Int) ∧ wr = w ∧ Hid (∀ i, i < k → (F i).l.length ≤ 100 ∧ (F i).dn ≤ 5)) (fun i _ => n - (intOf i).toNat)
    case atStart => exact ⟨0, Nat.zero_le _, rfl, rfl, Lib.hid fun i hi => absurd hi (by omega)⟩
    case round =>
      obtain ⟨k, hk, rfl, rfl, HK⟩ := hrel
      by_cases hlt : k < n
      · have t1 : (k : Int) < (n : Int) := by omega
        have t2 : decide ((k : Int) < (n : Int)) = true := decide_eq_true t1
        obtain ⟨a, gb, go, rfl, ha, hgb, hrw⟩ := carg_at HA.out hlt
        obtain ⟨q0, q1, q2, q3⟩ := hrw _ (Below.refl _ _)
        obtain ⟨S, hS⟩ : ∃ S : ByteArray, S = ⟨(F k).l.toArray⟩ := ⟨_, rfl⟩
        rw [← hS] at q1
        have hsz : S.size = (F k).l.length := by rw [hS]; exact size_of _
        obtain ⟨y, hy⟩ : ∃ y, (F k).l.length = y := ⟨_, rfl⟩
        obtain ⟨x, hx⟩ : ∃ x, (F k).dn = x := ⟨_, rfl⟩
        rw [hy] at hsz
        rw [hx] at q2
        have HN : Hid (y ≤ 100 ∧ x ≤ 5 → ∀ i, i < k + 1 → (F i).l.length ≤ 100 ∧ (F i).dn ≤ 5) := fun h i hi => by
          by_cases e : i = k
          · subst e; rw [hy, hx]; exact h
          · exact HK.out i (by omega)
        have hin := (HA.out.inb k hlt).2.1
        have hin1 := (HA.out.inb k hlt).1
        unfold maxLen at hin hin1
        have hx63 : x ≤ 9223372036854775807 := by omega
        have hy63 : y ≤ 9223372036854775807 := by omega
        clear hy hx hS hrw hin hin1 HK
        by_cases hc1 : 100 < y
        · have d1 : (100 : Int) < (y : Int) := by omega
          have d1' : decide ((100 : Int) < (y : Int)) = true := decide_eq_true d1
          go_wp2
          go_ret
          exact ⟨⟨false, rfl, fun h => by cases h⟩, rfl⟩
        · have d1 : ¬ (100 : Int) < (y : Int) := by omega
          have d1' : decide ((100 : Int) < (y : Int)) = false := decide_eq_false d1
          by_cases hc2 : 5 < x
          · have d2 : (5 : Int) < (x : Int) := by omega
            have d2' : decide ((5 : Int) < (x : Int)) = true := decide_eq_true d2
            go_wp2
            go_ret
            exact ⟨⟨false, rfl, fun h => by cases h⟩, rfl⟩
          · have d2 : ¬ (5 : Int) < (x : Int) := by omega
            have d2' : decide ((5 : Int) < (x : Int)) = false := decide_eq_false d2
            have HN2 := Lib.hid (HN.out ⟨by omega, by omega⟩)
            go_wp2
            go_roundw
            case rel => exact ⟨k + 1, by omega, by go_num, by first | rfl | trivial, HN2⟩
            case measure => simp [intOf]; omega
      · obtain rfl : k = n := by omega
        have t1 : ¬ (k : Int) < (k : Int) := by omega
        have hk40 : k ≤ 40 := by omega
        go_wp2
        go_ret
        exact ⟨⟨true, rfl, fun _ => ⟨hk40, HK.out⟩⟩, rfl⟩
end Go.Proofs.Ytllojgmlngfibaa.Ln
