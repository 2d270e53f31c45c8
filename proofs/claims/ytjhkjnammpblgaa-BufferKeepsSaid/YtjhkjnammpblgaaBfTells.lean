/-
  A buffer tells what the document's own one is, where both hold the same bytes. No condition of its own.
-/
import Derived.Test.YtjhkjnammpblgaaBfArgs
import Derived.Test.YtjhkjnammpblgaaBfWorks
namespace Go.Proofs.Ytjhkjnammpblgaa.Bf
open Go.RowKit Go.Proofs.Ytjhkjnammpblgaa.Base Go.Proofs.Ytjhkjnammpblgaa.Mem Go.Proofs.Ytjhkjnammpblgaa.Cr
/-- A buffer and the document's own one, with the same bytes, both made since w0. -/
structure Duo (w0 : World) (b ub r m : Nat) (t t2 : ByteArray) (w : World) : Prop where
  one : Bn w0 b r m t w
  two : At w ub (rcs r m t2) RT
  n1 : ub ≠ b
  lo : w0.heap.size ≤ ub
section
variable {w0 w w' : World} {b ub r m : Nat} {t t2 t' : ByteArray}
theorem Duo.on (h : Duo w0 b ub r m t t2 w) (hb : Below w.heap.size w w') : Duo w0 b ub r m t t2 w' := ⟨h.one.on hb, h.two.below hb, h.n1, h.lo⟩
theorem Duo.drewN (h : Duo w0 b ub r m t t2 w) (n : Nat) : Duo w0 b ub r m t t2 (w.drewN n) := h.on ⟨rfl, rfl, rfl, Nat.le_refl _, fun _ _ => rfl⟩
theorem Duo.drew (h : Duo w0 b ub r m t t2 w) : Duo w0 b ub r m t t2 w.drew := h.on ⟨rfl, rfl, rfl, Nat.le_refl _, fun _ _ => rfl⟩
theorem Duo.doA (h : Duo w0 b ub r m t t2 w) (hq : B w' b r m t') (hc : Chg (Bs b) w w') : Duo w0 b ub r m t' t2 w' :=
  ⟨h.one.step hq hc, h.two.other hc h.n1, h.n1, h.lo⟩
theorem Duo.doB (h : Duo w0 b ub r m t t2 w) (hd : Do ub (rcs r m t') RT w w') : Duo w0 b ub r m t t' w' :=
  ⟨⟨h.one.q.other hd.chg (fun e => h.n1 e.symm), h.one.lo, hd.chg.below h.one.below h.one.below.size fun k e => by rw [e]; exact h.lo⟩, hd.at_, h.n1, h.lo⟩
end
set_option maxHeartbeats 4000000 in
theorem ftells (w : World) (b ub r m : Nat) (t : ByteArray) (h : B w b r m t) (hu : At w ub (rcs r m t) RT) : Calls Try.prog 15 #[ptr b, ptr ub] w fun e w' => e = .returned (.bool true) ∧ ∃ k, w' = w.drewN k := by
  have hr := h.room
  have C1 := Lib.hid (fun k => flen (h.drewN k))
  have C2 := Lib.hid (fun k => ffree (h.drewN k))
  have C3 := Lib.hid (fun k => fhigh (h.drewN k))
  have C4 := Lib.hid (fun k => flow (h.drewN k))
  have C5 := Lib.hid (fun k => rhigh (w.drewN k) ub r m t (hu : At (w.drewN k) ub (rcs r m t) RT) hr.1 hr.2.2.1)
  have C6 := Lib.hid (fun k => rlow (w.drewN k) ub r m t (hu : At (w.drewN k) ub (rcs r m t) RT) hr.1 hr.2.2.1 hr.2.2.2)
  have c0 := hu.cell 0 (nm r) rfl
  have c2 := hu.cell 2 (.string t) rfl
  have hlt := hu.lt
  obtain ⟨d, hd⟩ : ∃ d, r - t.size = d := ⟨_, rfl⟩
  have vd : IntKind.i64.wrap ((r : Int) - (t.size : Int)) = (d : Int) := by rw [IntKind.wrap_i64]; omega
  rw [hd] at C2
  generalize highB r m t.size = x at C3 C5
  generalize lowB r m t.size = y at C4 C6
  have zx : (x == x) = true := beq_self_eq_true _
  have zy : (y == y) = true := beq_self_eq_true _
  clear h hu hr hd
  go_enter Try.func15, Try.ntmps15
  go_wp2_with fail
  go_quiet (first
    | (go_at_call 17; exact quiet_left (C1.out _))
    | (go_at_call 16; exact quiet_drew (C2.out _))
    | (go_at_call 19; exact quiet_drew (C3.out _))
    | (go_at_call 18; exact quiet_drew (C4.out _))
    | (go_at_call 22; exact quiet_drew (C5.out _))
    | (go_at_call 23; exact quiet_drew (C6.out _)))
  go_wp2
  go_ret
  exact ⟨rfl, nq, rfl⟩
end Go.Proofs.Ytjhkjnammpblgaa.Bf
