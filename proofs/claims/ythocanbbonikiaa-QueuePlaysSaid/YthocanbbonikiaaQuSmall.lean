/-
  The program's queue in memory; what New, Len, Free, place, drop and Clear answer. Condition: it lies where it says.
-/
import Derived.Test.YthocanbbonikiaaQuMath
import Derived.Lib.MinMax
import Derived.Laws.MakeOwn
import Derived.Laws.OwnMore
namespace Go.Proofs.Ythocanbbonikiaa.Qu
open Go.RowKit Go.Proofs.Ythocanbbonikiaa.Base Go.Proofs.Ythocanbbonikiaa.Mem Go.Proofs.Ythocanbbonikiaa.Cr
abbrev nm (n : Nat) : Value := .int .i64 (n : Int)
abbrev QT : TypeId := 42
abbrev BT : TypeId := 5
abbrev ring (rb r : Nat) : Value := .slice (some ⟨rb, 0, none⟩) r r
abbrev qcs (rb r f c : Nat) : Array Value := #[ring rb r, nm f, nm c]
/-- A queue of the room r, with these bytes, in the blocks qb and rb. -/
def Qat (w : World) (qb rb r f : Nat) (t : ByteArray) : Prop := At w qb (qcs rb r f t.size) QT ∧ ∃ cs, At w rb cs BT ∧ Rg r f t cs
def Q (w : World) (qb rb r : Nat) (t : ByteArray) : Prop := qb ≠ rb ∧ ∃ f, Qat w qb rb r f t
/-- What a call may turn: the queue's two blocks. -/
abbrev Qs (qb rb : Nat) : Nat → Prop := fun k => k = qb ∨ k = rb
section
variable {w w' w1 : World} {qb rb r f : Nat} {t : ByteArray}
theorem Qat.other {S : Nat → Prop} (h : Qat w qb rb r f t) (hc : Chg S w w') (h1 : ¬ S qb) (h2 : ¬ S rb) : Qat w' qb rb r f t :=
  let ⟨a, cs, b, c⟩ := h
  ⟨a.other hc h1, cs, b.other hc h2, c⟩
theorem Q.other {S : Nat → Prop} (h : Q w qb rb r t) (hc : Chg S w w') (h1 : ¬ S qb) (h2 : ¬ S rb) : Q w' qb rb r t :=
  let ⟨a, f, b⟩ := h
  ⟨a, f, b.other hc h1 h2⟩
theorem Q.below (h : Q w qb rb r t) (hb : Below w.heap.size w w') : Q w' qb rb r t := h.other (S := fun _ => False) (Chg.mono (S := fun _ => False) (Chg.of_below hb) fun _ x => x) (fun x => x) (fun x => x)
theorem Q.drewN (h : Q w qb rb r t) (n : Nat) : Q (w.drewN n) qb rb r t := h.below ⟨rfl, rfl, rfl, Nat.le_refl _, fun _ _ => rfl⟩
theorem Q.room (h : Q w qb rb r t) : t.size ≤ r ∧ 0 < r ∧ r ≤ 4096 := by
  obtain ⟨_, f, _, cs, _, h⟩ := h
  exact ⟨h.few, Nat.lt_of_le_of_lt (Nat.zero_le _) h.lt, h.max⟩
theorem Q.lt (h : Q w qb rb r t) : qb < w.heap.size ∧ rb < w.heap.size := by
  obtain ⟨_, f, a, cs, b, h⟩ := h
  exact ⟨a.lt, b.lt⟩
end
def roomN (n : Int) : Nat := (roomOf n).toNat
theorem roomN_eq (n : Int) : roomOf n = (roomN n : Int) ∧ 0 < roomN n ∧ roomN n ≤ 4096 := by
  have := roomOf_ok n
  unfold roomN
  omega
def zeroV (n : Nat) : Array Value := (List.replicate n (Value.int .u8 0)).toArray
theorem infoB : (Try.prog.info? 5).map (fun i => (i.zero, i.size, i.bytes)) = some (some (.int .u8 0), 1, 1) := by kernel_rfl
theorem make_zeros (n : Nat) (hn : n ≤ 100000) (w : World) : (Instr.makeSlice 39 (.int .i64 (n : Int)) (.int .i64 (n : Int))).run Try.prog w = .ok (.slice (some ⟨w.heap.size, 0, none⟩) n n) (w.alloc (.cells (zeroV n) 5)) := by
  obtain ⟨i, hi, hz0, hz1, hz2⟩ := info_parts infoB
  have h := run_make (P := Try.prog) w 39 5 i (.int .u8 0) Try.underlying39 hi hz0 .i64 .i64 (n : Int) (n : Int) (by omega) (Int.le_refl _) (by rw [hz2]; omega) (by omega)
  rw [h, hz1]
  simp only [Int.toNat_natCast, Nat.mul_one]
  have e : madeCells (Value.cells (.int .u8 0)) n = zeroV n := by
    apply Array.ext'
    show (madeCells #[.int .u8 0] n).toList = _
    rw [toList_madeCells_one]
    rfl
  exact congrArg (fun c => Result.ok _ (w.alloc (.cells c 5))) e
theorem fnew (n : Int) (w : World) : Calls Try.prog 9 #[im n] w fun e w' => e = .returned (ptr (w.heap.size + 1)) ∧ Q w' (w.heap.size + 1) w.heap.size (roomN n) ⟨#[]⟩ ∧ Below w.heap.size w w' := by
  obtain ⟨e, h0, h1⟩ := roomN_eq n
  generalize roomN n = r at e h0 h1 ⊢
  unfold roomOf at e
  have HR := Lib.hid (And.intro h0 h1)
  have M := make_zeros r (by omega) w
  have z1 : (zeroV r).size = r := by simp [zeroV]
  generalize zeroV r = zs at M z1
  have HZ := Lib.hid z1
  clear z1
  go_enter Try.func9, Try.ntmps9
  go_wp2
  go_ret
  refine ⟨rfl, ⟨by omega, 0, nest w [.cells zs BT, _] 1 _ rfl, zs, nest w [.cells zs BT, _] 0 _ rfl, rg_new r HR.out.1 HR.out.2 zs HZ.out⟩, nest_below w [_, _]⟩
theorem flen_nil (w : World) : Calls Try.prog 20 #[.pointer none] w fun e w' => e = .returned (im 0) ∧ w = w' := by
  go_enter Try.func20, Try.ntmps20
  go_wp2
  go_ret
  exact ⟨rfl, rfl⟩
theorem ffree_nil (w : World) : Calls Try.prog 21 #[.pointer none] w fun e w' => e = .returned (im 0) ∧ w = w' := by
  go_enter Try.func21, Try.ntmps21
  go_wp2
  go_ret
  exact ⟨rfl, rfl⟩
section
variable (w : World) (qb rb r f c : Nat)
theorem flen0 (h : At w qb (qcs rb r f c) QT) : Calls Try.prog 20 #[ptr qb] w fun e w' => e = .returned (nm c) ∧ w = w' := by
  have c2 := h.cell 2 (nm c) rfl
  clear h
  go_enter Try.func20, Try.ntmps20
  go_wp2
  go_ret
  exact ⟨rfl, rfl⟩
theorem ffree0 (h : At w qb (qcs rb r f c) QT) (v : Nat) (hv : IntKind.i64.wrap ((r : Int) - (c : Int)) = (v : Int)) : Calls Try.prog 21 #[ptr qb] w fun e w' => e = .returned (nm v) ∧ ∃ k, w' = w.drewN k := by
  have c0 := h.cell 0 (ring rb r) rfl
  have c2 := h.cell 2 (nm c) rfl
  have hlt := h.lt
  clear h
  go_enter Try.func21, Try.ntmps21
  go_wp2_with fail
  go_quiet (fail)
  go_wp2
  go_ret
  exact ⟨rfl, nq, rfl⟩
/-- The place of the byte ahead of which n others stand. -/
theorem fplace (h : At w qb (qcs rb r f c) QT) (n p : Nat) (hp : pl r (f + n) = p) (hm : f + n ≤ 100000) (hr : r ≤ 4096) : Calls Try.prog 26 #[ptr qb, nm n] w fun e w' => e = .returned (nm p) ∧ w = w' := by
  have c0 := h.cell 0 (ring rb r) rfl
  have c1 := h.cell 1 (nm f) rfl
  have hlt := h.lt
  obtain ⟨s, hs⟩ : ∃ s, f + n = s := ⟨_, rfl⟩
  rw [hs] at hp hm
  have v0 : IntKind.i64.wrap ((f : Int) + (n : Int)) = (s : Int) := by rw [IntKind.wrap_i64]; omega
  clear hs
  clear h
  by_cases hlow : s < r
  · rw [pl_low hlow] at hp
    subst hp
    have t0 : decide ((r : Int) ≤ (s : Int)) = false := decide_eq_false (by omega)
    have t1 : ¬ (r : Int) ≤ (s : Int) := by omega
    have t2 : ¬ r ≤ s := by omega
    clear hlow hm hr
    go_enter Try.func26, Try.ntmps26
    go_wp2
    go_ret
    exact ⟨rfl, rfl⟩
  · rw [pl_high hlow] at hp
    have t0 : decide ((r : Int) ≤ (s : Int)) = true := decide_eq_true (by omega)
    have t1 : (r : Int) ≤ (s : Int) := by omega
    have t2 : r ≤ s := by omega
    have v1 : IntKind.i64.wrap ((s : Int) - (r : Int)) = (p : Int) := by rw [IntKind.wrap_i64]; omega
    clear hp hlow hm hr
    go_enter Try.func26, Try.ntmps26
    go_wp2
    go_ret
    exact ⟨rfl, rfl⟩
theorem fdrop_none (v : Value) : Calls Try.prog 22 #[v, nm 0] w fun e w' => e = .returned (.tuple #[]) ∧ w = w' := by
  go_enter Try.func22, Try.ntmps22
  go_wp2
  refine bodyPost_ret (results_none rfl _ _ _) rfl ?_
  exact ⟨rfl, rfl⟩
theorem fdrop0 (h : At w qb (qcs rb r f c) QT) (n p d : Nat) (h0 : 0 < n) (hp : pl r (f + n) = p) (hm : f + n ≤ 100000) (hr : r ≤ 4096) (hd : c - n = d) (hn : n ≤ c) (hc : c ≤ 4096) : Calls Try.prog 22 #[ptr qb, nm n] w fun e w' => e = .returned (.tuple #[]) ∧ Do qb (qcs rb r p d) QT w w' := by
  have C := Lib.hid (fplace w qb rb r f c h n p hp hm hr)
  have c1 := h.cell 1 (nm f) rfl
  have c2 := h.cell 2 (nm c) rfl
  have hf := h.free
  have hlt := h.lt
  have H := Lib.hid (Do.refl h)
  have t0 : ((n : Int) == 0) = false := by rw [beq_eq_false_iff_ne]; omega
  have t1 : ¬ (n : Int) = 0 := by omega
  have v0 : IntKind.i64.wrap ((c : Int) - (n : Int)) = (d : Int) := by rw [IntKind.wrap_i64]; omega
  clear h h0 hp hm hr hd hn hc
  go_enter Try.func22, Try.ntmps22
  go_wp2_with (go_at_call 26; ((with_reducible refine C.out.mono ?_); rintro e v ⟨rfl, rfl⟩))
  go_end0
  exact ⟨rfl, (H.out.set 1 (nm p)).set 2 (nm d)⟩
end
end Go.Proofs.Ythocanbbonikiaa.Qu
