/-
  A slice of calls that came in as an argument, opened at every index; whether there are few of them. No condition of its own.
-/
import Derived.Test.YtjhkjnammpblgaaArgs
import Derived.Test.YtjhkjnammpblgaaBfGet
import Derived.Deep.LoopGhost
namespace Go.Proofs.Ytjhkjnammpblgaa.Bf
open Go.ChangeShapes Go.WideShapes Go.ChangeAt Go.ChangeMaps Go.RowKit Go.Proofs.Ytjhkjnammpblgaa.Mem Go.Proofs.Ytjhkjnammpblgaa.Cr
/-- A call: is it a Get, its number, its text. -/
structure Ct where
  g : Bool
  n : Int
  s : ByteArray
/-- A call's cells. -/
def cc (x : Ct) : List Value := [.bool x.g, im x.n, .string x.s]
def CFit (_ : Ct) : Prop := True
section
variable {H : Type} {enc : TypeId × Value → H} {w : World}
theorem cellsC : Try.prog.cellsOf 30 = 3 := by kernel_rfl
theorem open_cc {n : Nat} {cs : List Value} {x : DataW H × List MemPlace} (hz : cs.length = 3) (hf : DataW.trod enc Try.prog w 0 (fun _ => true) true n 30 cs = some x) : ∃ f : Ct, cs = cc f ∧ CFit f := by
  obtain ⟨ys, n, _, hx, _, hlen, hg⟩ := DataW.trod_struct Try.underlying30 hf
  match cs, hz, ys, hlen with
  | [c0, c1, c2], _, [y0, y1, y2], _ =>
    have g0 : DataW.trod enc Try.prog w 0 (fun _ => true) true n 4 ((([c0, c1, c2] : List Value).drop 0).take (Try.prog.cellsOf 4)) = some y0 := hg 0 _ rfl
    rw [cellsB] at g0
    have g1 : DataW.trod enc Try.prog w 0 (fun _ => true) true n 3 ((([c0, c1, c2] : List Value).drop 1).take (Try.prog.cellsOf 3)) = some y1 := hg 1 _ rfl
    rw [cellsI] at g1
    have g2 : DataW.trod enc Try.prog w 0 (fun _ => true) true n 9 ((([c0, c1, c2] : List Value).drop 2).take (Try.prog.cellsOf 9)) = some y2 := hg 2 _ rfl
    rw [cellsS] at g2
    obtain ⟨n0, e0, _⟩ := DataW.trod_bool Try.underlying4 g0
    obtain ⟨n1, e1, rfl, _⟩ := DataW.trod_int Try.underlying3 g1
    obtain ⟨s2, e2, rfl, _⟩ := DataW.trod_string Try.underlying9 g2
    obtain rfl : c0 = _ := List.head_eq_of_cons_eq e0
    obtain rfl : c1 = _ := List.head_eq_of_cons_eq e1
    obtain rfl : c2 = _ := List.head_eq_of_cons_eq e2
    exact ⟨⟨n0, n1, s2⟩, rfl, trivial⟩
theorem open_calls {r : Reach} {b0 : Nat} {v : Value} {d : DataW H} {p : List MemPlace} (hv : Value.okWide Try.prog w r b0 22 v) (h : DataW.Trod enc Try.prog w 0 (fun _ => true) true 22 v d p) :
    ∃ (oa : Option Addr) (n cap : Nat) (F : Nat → Ct), v = .slice oa n cap ∧ n ≤ maxLen ∧ ArgS 3 cc CFit w oa n F :=
  open_any Try.underlying22 cellsC (by decide) (fun _ => rfl) ⟨false, 0, ⟨#[]⟩⟩ (fun _ _ _ hz hf => open_cc hz hf) hv h
end
/-- An element that came in, at some world since. -/
theorem arg_at {w : World} {oa : Option Addr} {n : Nat} {F : Nat → Ct} (h : ArgS 3 cc CFit w oa n F) {k : Nat} (hk : k < n) : ∃ a gb go, oa = some a ∧ a.add (k * 3) = ⟨gb, go, none⟩ ∧ gb < w.heap.size ∧
    ∀ w', Below w.heap.size w w' → w'.cell? ⟨gb, go, none⟩ = some (.bool (F k).g) ∧ w'.cell? ⟨gb, go + 1, none⟩ = some (im (F k).n) ∧ w'.cell? ⟨gb, go + 2, none⟩ = some (.string (F k).s) := by
  obtain ⟨a, rfl, gb, go, ha, hgb, hrw⟩ := ArgS.at' (z := 3) (fc := cc) (by decide) (fun _ => rfl) h hk
  exact ⟨a, gb, go, rfl, ha, hgb, fun w' hb => ⟨(hb.cell (p := ⟨gb, go, none⟩) hgb).trans (hrw 0 (by decide)), (hb.cell (p := ⟨gb, go + 1, none⟩) hgb).trans (hrw 1 (by decide)), (hb.cell (p := ⟨gb, go + 2, none⟩) hgb).trans (hrw 2 (by decide))⟩⟩
theorem wrap_nat (n : Nat) (h : n ≤ 9223372036854775807) : IntKind.i64.wrap (n : Int) = (n : Int) := by rw [IntKind.wrap_i64]; omega
/-- What few answers: if true, they are at most a hundred. -/
def FewB (n : Nat) (w : World) (e : Ending) (w' : World) : Prop := ∃ b : Bool, e = .returned (.bool b) ∧ w = w' ∧ (b = true → n ≤ 100)
set_option maxHeartbeats 4000000 in
theorem ffew_at (oa : Option Addr) (n cap : Nat) (F : Nat → Ct) (w0 w : World) (hA : ArgS 3 cc CFit w0 oa n F) (hB : Below w0.heap.size w0 w) :
    Calls Try.prog 7 #[.slice oa n cap] w (FewB n w) := by
  have HA := Lib.hid hA
  have HB := Lib.hid hB
  clear hA hB
  by_cases h : 100 < n
  · have h1 : (100 : Int) < (n : Int) := by omega
    have h2 : decide ((100 : Int) < (n : Int)) = true := decide_eq_true h1
    go_enter Try.func7, Try.ntmps7
    go_wp2
    go_ret
    exact ⟨false, rfl, rfl, fun e => by cases e⟩
  have h0 : n ≤ 100 := by omega
  have h1 : ¬ (100 : Int) < (n : Int) := by omega
  have h2 : decide ((100 : Int) < (n : Int)) = false := decide_eq_false h1
  clear h
  go_enter Try.func7, Try.ntmps7
  go_wp2_with fail
  go_loopg [3] n (fun gm s wr => ∃ (k : Nat), s = nm k ∧ n - k ≤ gm ∧ k ≤ n ∧ w = wr)
  case atStart => exact ⟨0, rfl, by omega, by omega, rfl⟩
  case round =>
    obtain ⟨k, rfl, hgm, hkn, rfl⟩ := hrel
    by_cases hlt : k < n
    · have t1 : decide ((k : Int) < (n : Int)) = true := decide_eq_true (by omega)
      have t2 : (k : Int) < (n : Int) := by omega
      have j0 : (0 : Int) ≤ (k : Int) := by omega
      have vk := wrap_nat (k + 1) (by omega)
      obtain ⟨a, gb, go, rfl, ha, hgb, hrw⟩ := arg_at HA.out hlt
      obtain ⟨_, _, c2⟩ := hrw w HB.out
      clear hrw
      generalize (F k).s = s at c2
      by_cases g1 : 200 < s.size
      · have s1 : decide ((200 : Int) < (s.size : Int)) = true := decide_eq_true (by omega)
        have s2 : (200 : Int) < (s.size : Int) := by omega
        go_wp2
        go_ret
        exact ⟨false, rfl, rfl, fun e => by cases e⟩
      · have s1 : decide ((200 : Int) < (s.size : Int)) = false := decide_eq_false (by omega)
        have s2 : ¬ (200 : Int) < (s.size : Int) := by omega
        go_wp2
        go_roundg (n - (k + 1))
        case measure => omega
        case rel => exact ⟨k + 1, by first | rfl | go_num, Nat.le_refl _, by omega, rfl⟩
    · have t1 : decide ((k : Int) < (n : Int)) = false := decide_eq_false (by omega)
      have t2 : ¬ (k : Int) < (n : Int) := by omega
      go_wp2
      go_ret
      exact ⟨true, rfl, rfl, fun _ => h0⟩
theorem ffew (oa : Option Addr) (n cap : Nat) (F : Nat → Ct) (w : World) (hA : ArgS 3 cc CFit w oa n F) :
    Calls Try.prog 7 #[.slice oa n cap] w (FewB n w) := ffew_at oa n cap F w w hA (Below.refl _ _)
end Go.Proofs.Ytjhkjnammpblgaa.Bf
