/-
  A slice of calls that came in as an argument, opened at every index; whether there are few of them. No condition of its own.
-/
import Derived.Test.YthocanbbonikiaaArgs
import Derived.Test.YthocanbbonikiaaQuSmall
import Derived.Deep.LoopGhost
namespace Go.Proofs.Ythocanbbonikiaa.Qu
open Go.ChangeShapes Go.WideShapes Go.ChangeAt Go.ChangeMaps Go.RowKit Go.Proofs.Ythocanbbonikiaa.Mem Go.Proofs.Ythocanbbonikiaa.Cr
/-- A call: its kind, its text, its number. -/
structure Ct where
  k : Int
  s : ByteArray
  n : Int
/-- A call's cells. -/
def cc (x : Ct) : List Value := [im x.k, .string x.s, im x.n]
def CFit (_ : Ct) : Prop := True
section
variable {H : Type} {enc : TypeId × Value → H} {w : World}
theorem cellsC : Try.prog.cellsOf 31 = 3 := by kernel_rfl
theorem open_cc {n : Nat} {cs : List Value} {x : DataW H × List MemPlace} (hz : cs.length = 3) (hf : DataW.trod enc Try.prog w 0 (fun _ => true) true n 31 cs = some x) : ∃ f : Ct, cs = cc f ∧ CFit f := by
  obtain ⟨ys, n, _, hx, _, hlen, hg⟩ := DataW.trod_struct Try.underlying31 hf
  match cs, hz, ys, hlen with
  | [c0, c1, c2], _, [y0, y1, y2], _ =>
    have g0 : DataW.trod enc Try.prog w 0 (fun _ => true) true n 3 ((([c0, c1, c2] : List Value).drop 0).take (Try.prog.cellsOf 3)) = some y0 := hg 0 _ rfl
    rw [cellsI] at g0
    have g1 : DataW.trod enc Try.prog w 0 (fun _ => true) true n 9 ((([c0, c1, c2] : List Value).drop 1).take (Try.prog.cellsOf 9)) = some y1 := hg 1 _ rfl
    rw [cellsS] at g1
    have g2 : DataW.trod enc Try.prog w 0 (fun _ => true) true n 3 ((([c0, c1, c2] : List Value).drop 2).take (Try.prog.cellsOf 3)) = some y2 := hg 2 _ rfl
    rw [cellsI] at g2
    obtain ⟨n0, e0, rfl, _⟩ := DataW.trod_int Try.underlying3 g0
    obtain ⟨s1, e1, rfl, _⟩ := DataW.trod_string Try.underlying9 g1
    obtain ⟨n2, e2, rfl, _⟩ := DataW.trod_int Try.underlying3 g2
    obtain rfl : c0 = _ := List.head_eq_of_cons_eq e0
    obtain rfl : c1 = _ := List.head_eq_of_cons_eq e1
    obtain rfl : c2 = _ := List.head_eq_of_cons_eq e2
    exact ⟨⟨n0, s1, n2⟩, rfl, trivial⟩
theorem open_calls {r : Reach} {b0 : Nat} {v : Value} {d : DataW H} {p : List MemPlace} (hv : Value.okWide Try.prog w r b0 22 v) (h : DataW.Trod enc Try.prog w 0 (fun _ => true) true 22 v d p) :
    ∃ (oa : Option Addr) (n cap : Nat) (F : Nat → Ct), v = .slice oa n cap ∧ n ≤ maxLen ∧ ArgS 3 cc CFit w oa n F :=
  open_any Try.underlying22 cellsC (by decide) (fun _ => rfl) ⟨0, ⟨#[]⟩, 0⟩ (fun _ _ _ hz hf => open_cc hz hf) hv h
end
/-- An element that came in, at some world since. -/
theorem arg_at {w : World} {oa : Option Addr} {n : Nat} {F : Nat → Ct} (h : ArgS 3 cc CFit w oa n F) {k : Nat} (hk : k < n) : ∃ a gb go, oa = some a ∧ a.add (k * 3) = ⟨gb, go, none⟩ ∧ gb < w.heap.size ∧
    ∀ w', Below w.heap.size w w' → w'.cell? ⟨gb, go, none⟩ = some (im (F k).k) ∧ w'.cell? ⟨gb, go + 1, none⟩ = some (.string (F k).s) ∧ w'.cell? ⟨gb, go + 2, none⟩ = some (im (F k).n) := by
  obtain ⟨a, rfl, gb, go, ha, hgb, hrw⟩ := ArgS.at' (z := 3) (fc := cc) (by decide) (fun _ => rfl) h hk
  exact ⟨a, gb, go, rfl, ha, hgb, fun w' hb => ⟨(hb.cell (p := ⟨gb, go, none⟩) hgb).trans (hrw 0 (by decide)), (hb.cell (p := ⟨gb, go + 1, none⟩) hgb).trans (hrw 1 (by decide)), (hb.cell (p := ⟨gb, go + 2, none⟩) hgb).trans (hrw 2 (by decide))⟩⟩
theorem wrap_nat (n : Nat) (h : n ≤ 9223372036854775807) : IntKind.i64.wrap (n : Int) = (n : Int) := by rw [IntKind.wrap_i64]; omega
/-- What few answers: if true, they are at most a hundred. -/
def FewB (n : Nat) (w : World) (e : Ending) (w' : World) : Prop := ∃ b : Bool, e = .returned (.bool b) ∧ w = w' ∧ (b = true → n ≤ 100)
set_option maxHeartbeats 4000000 in
theorem ffew (oa : Option Addr) (n cap : Nat) (F : Nat → Ct) (w : World) (hA : ArgS 3 cc CFit w oa n F) :
    Calls Try.prog 7 #[.slice oa n cap] w (FewB n w) := by
  have HA := Lib.hid hA
  clear hA
  by_cases h : 100 < n
  · have h1 : (100 : Int) < (n : Int) := by omega
    have h2 : decide ((100 : Int) < (n : Int)) = true := decide_eq_true h1
    go_enter Try.func7, Try.ntmps7
    go_wp2
    go_ret
    exact ⟨false, rfl, rfl, fun e => by cases e⟩
  have h0 : n ≤ 100 := by omega
  have h1 : ¬ (100 : Int) < (n : Int) := by omega
  have h2 : decide ((100 : Int) < (n : Int)) = false := decide_eq_false h1
  clear h
  go_enter Try.func7, Try.ntmps7
  go_wp2_with fail
  go_loopg [3] n (fun gm s wr => ∃ (k : Nat), s = nm k ∧ n - k ≤ gm ∧ k ≤ n ∧ w = wr)
  case atStart => exact ⟨0, rfl, by omega, by omega, rfl⟩
  case round =>
    obtain ⟨k, rfl, hgm, hkn, rfl⟩ := hrel
    by_cases hlt : k < n
    · have t1 : decide ((k : Int) < (n : Int)) = true := decide_eq_true (by omega)
      have t2 : (k : Int) < (n : Int) := by omega
      have j0 : (0 : Int) ≤ (k : Int) := by omega
      have vk := wrap_nat (k + 1) (by omega)
      obtain ⟨a, gb, go, rfl, ha, hgb, hrw⟩ := arg_at HA.out hlt
      obtain ⟨_, c1, _⟩ := hrw w (Below.refl _ _)
      clear hrw
      generalize (F k).s = s at c1
      by_cases g1 : 300 < s.size
      · have s1 : decide ((300 : Int) < (s.size : Int)) = true := decide_eq_true (by omega)
        have s2 : (300 : Int) < (s.size : Int) := by omega
        by_cases g2 : s.size ≤ 4096
        · have s3 : decide ((s.size : Int) ≤ (4096 : Int)) = true := decide_eq_true (by omega)
          have s4 : (s.size : Int) ≤ (4096 : Int) := by omega
          go_wp2
          go_ret
          exact ⟨false, rfl, rfl, fun e => by cases e⟩
        · have s3 : decide ((s.size : Int) ≤ (4096 : Int)) = false := decide_eq_false (by omega)
          have s4 : ¬ (s.size : Int) ≤ (4096 : Int) := by omega
          go_wp2
          go_roundg (n - (k + 1))
          case measure => omega
          case rel => exact ⟨k + 1, by first | rfl | go_num, Nat.le_refl _, by omega, rfl⟩
      · have s1 : decide ((300 : Int) < (s.size : Int)) = false := decide_eq_false (by omega)
        have s2 : ¬ (300 : Int) < (s.size : Int) := by omega
        go_wp2
        go_roundg (n - (k + 1))
        case measure => omega
        case rel => exact ⟨k + 1, by first | rfl | go_num, Nat.le_refl _, by omega, rfl⟩
    · have t1 : decide ((k : Int) < (n : Int)) = false := decide_eq_false (by omega)
      have t2 : ¬ (k : Int) < (n : Int) := by omega
      go_wp2
      go_ret
      exact ⟨true, rfl, rfl, fun _ => h0⟩
end Go.Proofs.Ythocanbbonikiaa.Qu
