/-
  A block that holds a row of cells; the program's own struct in memory, and the document's; what New, SetClass, Class, SetReady, Ready, least and May of the program answer. Condition: it lies where it says.
-/
import Derived.Test.YtiicgfkcjpeiiaaPiMath
import Derived.Lib.MinMax
import Derived.Laws.MakeOwn
import Derived.Laws.OwnMore
import Derived.Laws.Tables
import Derived.Deep.LoopGhost
namespace Go.Proofs.Ytiicgfkcjpeiiaa.Pi
open Go.RowKit Go.Proofs.Ytiicgfkcjpeiiaa.Base Go.Proofs.Ytiicgfkcjpeiiaa.Mem Go.Proofs.Ytiicgfkcjpeiiaa.Cr
abbrev oc (n : Nat) : Value := .int .u8 (n : Int)
abbrev nm (n : Nat) : Value := .int .i64 (n : Int)
abbrev PT : TypeId := 46
/-- A block whose first n cells are these. -/
def Ar (w : World) (b : Nat) (T : TypeId) (n : Nat) (g : Nat → Value) : Prop := ∃ cs, At w b cs T ∧ n ≤ cs.size ∧ ∀ d, d < n → cs[d]? = some (g d)
section
variable {w w' : World} {b n : Nat} {T : TypeId} {g g' : Nat → Value}
theorem Ar.lt (h : Ar w b T n g) : b < w.heap.size := let ⟨_, h, _⟩ := h; h.lt
theorem Ar.free (h : Ar w b T n g) : ∀ i, w.frozen? ⟨b, i, none⟩ = false := let ⟨_, h, _⟩ := h; h.free
theorem Ar.cell (h : Ar w b T n g) {i : Nat} (hi : i < n) : w.cell? ⟨b, i, none⟩ = some (g i) := let ⟨_, h, _, hg⟩ := h; h.cell i _ (hg i hi)
theorem Ar.other {S : Nat → Prop} (h : Ar w b T n g) (hc : Chg S w w') (hn : ¬ S b) : Ar w' b T n g := let ⟨cs, h, hs⟩ := h; ⟨cs, h.other hc hn, hs⟩
theorem Ar.below (h : Ar w b T n g) (hb : Below w.heap.size w w') : Ar w' b T n g := let ⟨cs, h, hs⟩ := h; ⟨cs, h.below hb, hs⟩
theorem Ar.set (h : Ar w b T n g) (i : Nat) (v : Value) (hg : ∀ d, d < n → g' d = if d = i then v else g d) : Ar (w.setCell ⟨b, i, none⟩ v) b T n g' := by
  obtain ⟨cs, h, hs, hc⟩ := h
  refine ⟨_, h.set i v, by simpa using hs, fun d hd => ?_⟩
  rw [Array.getElem?_setIfInBounds, hg d hd]
  by_cases e : i = d
  · subst e
    rw [if_pos rfl, if_pos rfl, if_pos (by omega)]
  · rw [if_neg e, if_neg fun e' => e e'.symm]
    exact hc d hd
end
/-- The program's cells: classes, who is ready, who took a turn last. -/
def pg (x : St) (k : Nat) : Value := if k < 64 then oc (x.cl k) else if k < 128 then .bool (x.rd (k - 64)) else oc (x.la (k - 128))
/-- The program's own lies there. -/
structure P (w : World) (b : Nat) (x : St) : Prop where
  ar : Ar w b PT 192 (pg x)
  ok : x.Ok
abbrev Bs (b : Nat) : Nat → Prop := fun k => k = b
section
variable {w w' : World} {b : Nat} {x : St}
theorem P.lt (h : P w b x) : b < w.heap.size := h.ar.lt
theorem P.free (h : P w b x) : ∀ i, w.frozen? ⟨b, i, none⟩ = false := h.ar.free
theorem P.other {S : Nat → Prop} (h : P w b x) (hc : Chg S w w') (hn : ¬ S b) : P w' b x := ⟨h.ar.other hc hn, h.ok⟩
theorem P.below (h : P w b x) (hb : Below w.heap.size w w') : P w' b x := ⟨h.ar.below hb, h.ok⟩
theorem P.drewN (h : P w b x) (n : Nat) : P (w.drewN n) b x := h.below ⟨rfl, rfl, rfl, Nat.le_refl _, fun _ _ => rfl⟩
theorem P.drew (h : P w b x) : P w.drew b x := h.below ⟨rfl, rfl, rfl, Nat.le_refl _, fun _ _ => rfl⟩
theorem P.cl (h : P w b x) {d : Nat} (hd : d < 64) : w.cell? ⟨b, d, none⟩ = some (oc (x.cl d)) := by
  have := h.ar.cell (i := d) (by omega)
  unfold pg at this; rwa [if_pos hd] at this
theorem P.rd (h : P w b x) {d : Nat} (hd : d < 64) : w.cell? ⟨b, 64 + d, none⟩ = some (.bool (x.rd d)) := by
  have := h.ar.cell (i := 64 + d) (by omega)
  unfold pg at this; rwa [if_neg (by omega), if_pos (by omega), Nat.add_sub_cancel_left] at this
theorem P.la (h : P w b x) {d : Nat} (hd : d < 64) : w.cell? ⟨b, 128 + d, none⟩ = some (oc (x.la d)) := by
  have := h.ar.cell (i := 128 + d) (by omega)
  unfold pg at this; rwa [if_neg (by omega), if_neg (by omega), Nat.add_sub_cancel_left] at this
theorem P.setC (h : P w b x) {d c : Nat} (hd : d < 64) (hc : c < 64) : P (w.setCell ⟨b, d, none⟩ (oc c)) b (x.setC d c) :=
  ⟨h.ar.set d _ fun k _ => by
    unfold pg
    by_cases e : k = d
    · subst e
      rw [if_pos hd, if_pos rfl]
      show oc (upd x.cl k c k) = _
      rw [upd_at]
    · rw [if_neg e]
      show (if k < 64 then oc (upd x.cl d c k) else _) = _
      rw [upd_ne e]; rfl, h.ok.setC d hc⟩
theorem P.setR (h : P w b x) {d : Nat} (o : Bool) (hd : d < 64) : P (w.setCell ⟨b, 64 + d, none⟩ (.bool o)) b (x.setR d o) :=
  ⟨h.ar.set (64 + d) _ fun k _ => by
    unfold pg
    by_cases e : k = 64 + d
    · subst e
      rw [if_neg (by omega), if_pos (by omega), if_pos rfl, Nat.add_sub_cancel_left]
      show Value.bool (upd x.rd d o d) = _
      rw [upd_at]
    · rw [if_neg e]
      show (if k < 64 then _ else if k < 128 then Value.bool (upd x.rd d o (k - 64)) else _) = _
      split
      · rfl
      · rw [upd_ne (by omega)]; rfl, h.ok.setR d o⟩
theorem P.tak (h : P w b x) {d : Nat} (hd : d < 64) : P (w.setCell ⟨b, 128 + x.cl d, none⟩ (oc (d + 1))) b (x.tak d) :=
  ⟨h.ar.set (128 + x.cl d) _ fun k _ => by
    unfold pg
    by_cases e : k = 128 + x.cl d
    · rw [if_pos e, e, if_neg (by omega), if_neg (by omega), Nat.add_sub_cancel_left]
      show oc (upd x.la (x.cl d) (d + 1) (x.cl d)) = _
      rw [upd_at]
    · rw [if_neg e]
      by_cases h1 : k < 64
      · rw [if_pos h1, if_pos h1]; rfl
      rw [if_neg h1, if_neg h1]
      by_cases h2 : k < 128
      · rw [if_pos h2, if_pos h2]; rfl
      rw [if_neg h2, if_neg h2]
      have e2 : (x.tak d).la = upd x.la (x.cl d) (d + 1) := rfl
      rw [e2, upd_ne (by omega)], h.ok.tak hd⟩
end
theorem or7 (d : Nat) (h : d < 64) (h0 : d ≠ 0) : min (bits .or .u8 (d : Int) 7) 61 = ((firstC d : Nat) : Int) := by
  have : ∀ j : Fin 64, j.val ≠ 0 → min (bits .or .u8 (j.val : Int) 7) 61 = ((firstC j.val : Nat) : Int) := by decide +kernel
  exact this ⟨d, h⟩ h0
theorem fatFirst (d : Nat) (hd : d < 64) (w : World) : Calls Try.prog 20 #[oc d] w fun e w' => e = .returned (oc (firstC d)) ∧ w = w' := by
  by_cases h0 : d = 0
  · subst h0
    go_enter Try.func20, Try.ntmps20
    go_wp2
    go_ret
    exact ⟨rfl, rfl⟩
  · have t0 : ((d : Int) == 0) = false := beq_false (by omega)
    have t1 : ¬ (d : Int) = 0 := by omega
    have H := Lib.hid (or7 d hd h0)
    go_enter Try.func20, Try.ntmps20
    go_wp2
    go_ret
    exact ⟨by rw [H.out]; rfl, rfl⟩
section
variable {w : World} {b : Nat} {x : St}
theorem fclass (h : P w b x) (d : Nat) (hd : d < 64) : Calls Try.prog 16 #[ptr b, oc d] w fun e w' => e = .returned (oc (x.cl d)) ∧ w = w' := by
  have c := h.cl hd
  have t0 : decide ((64 : Int) ≤ (d : Int)) = false := decide_eq_false (by omega)
  have t1 : ¬ (64 : Int) ≤ (d : Int) := by omega
  have t2 : ¬ 64 ≤ d := by omega
  have t3 : (d : Int) < 64 := by omega
  clear h
  go_enter Try.func16, Try.ntmps16
  go_wp2
  go_ret
  exact ⟨rfl, rfl⟩
theorem fready (h : P w b x) (d : Nat) (hd : d < 64) : Calls Try.prog 15 #[ptr b, oc d] w fun e w' => e = .returned (.bool (x.rd d)) ∧ w = w' := by
  have c := h.rd hd
  have t0 : decide ((d : Int) < (64 : Int)) = true := decide_eq_true (by omega)
  have t3 : (d : Int) < 64 := by omega
  have t2 : d < 64 := by omega
  clear h
  go_enter Try.func15, Try.ntmps15
  go_wp2
  go_ret
  exact ⟨rfl, rfl⟩
theorem fsetC (h : P w b x) (d c : Nat) (hd : d < 64) (hc : c < 64) : Calls Try.prog 18 #[ptr b, oc d, oc c] w fun e w' => e = .returned (nm 0) ∧ P w' b (x.setC d c) ∧ Chg (Bs b) w w' := by
  have H := Lib.hid (And.intro (h.setC hd hc) (Chg.set (S := Bs b) b d (oc c) rfl w))
  have f := h.free
  have c0 := h.cl hd
  have t0 : decide ((64 : Int) ≤ (d : Int)) = false := decide_eq_false (by omega)
  have t1 : ¬ (64 : Int) ≤ (d : Int) := by omega
  have t2 : ¬ 64 ≤ d := by omega
  have t3 : (d : Int) < 64 := by omega
  have s0 : decide ((64 : Int) ≤ (c : Int)) = false := decide_eq_false (by omega)
  have s1 : ¬ (64 : Int) ≤ (c : Int) := by omega
  have s2 : ¬ 64 ≤ c := by omega
  clear h
  go_enter Try.func18, Try.ntmps18
  go_wp2
  go_ret
  exact ⟨rfl, H.out⟩
theorem fsetR (h : P w b x) (d : Nat) (o : Bool) (hd : d < 64) : Calls Try.prog 17 #[ptr b, oc d, .bool o] w fun e w' => e = .returned (nm 0) ∧ P w' b (x.setR d o) ∧ Chg (Bs b) w w' := by
  have H := Lib.hid (And.intro (h.setR o hd) (Chg.set (S := Bs b) b (64 + d) (.bool o) rfl w))
  have f := h.free
  have c0 := h.rd hd
  have t0 : decide ((64 : Int) ≤ (d : Int)) = false := decide_eq_false (by omega)
  have t1 : ¬ (64 : Int) ≤ (d : Int) := by omega
  have t2 : ¬ 64 ≤ d := by omega
  have t3 : (d : Int) < 64 := by omega
  clear h
  go_enter Try.func17, Try.ntmps17
  go_wp2
  go_ret
  exact ⟨rfl, H.out⟩
end
end Go.Proofs.Ytiicgfkcjpeiiaa.Pi
