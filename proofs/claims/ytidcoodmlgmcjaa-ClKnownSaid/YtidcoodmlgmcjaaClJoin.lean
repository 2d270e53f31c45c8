/-
  What New, Put and Within of layer 16 answer, and the document's own Put: a joiner is a block of one bool. Condition: a piece of at most a million bytes.
-/
import Derived.Test.YtidcoodmlgmcjaaClPiece
import Derived.Test.YtidcoodmlgmcjaaChg
import Derived.Deep.QuietTactic
import Derived.BigQuiet
namespace Go.Proofs.Ytidcoodmlgmcjaa.Cl
open Go.RowKit Go.Proofs.Ytidcoodmlgmcjaa.Base Go.Proofs.Ytidcoodmlgmcjaa.Mem
/-- What a piece does to a joiner. -/
structure Jr where
  d : ByteArray
  ends : Bool
  er : Nat
  i : Bool
abbrev e0 : ByteArray := ⟨#[]⟩
def h0 (p : ByteArray) : Nat := if h : 0 < p.size then p[0].toNat else 0
def put (i : Bool) (p : ByteArray) : Jr :=
  if 0 < p.size ∧ h0 p % 64 = 1 then
    if decide (128 ≤ h0 p) = i then ⟨e0, false, 4, i⟩
    else ⟨p.extract 1 p.size, decide (h0 p / 64 % 2 = 1), 0, !decide (h0 p / 64 % 2 = 1)⟩
  else ⟨e0, false, 70, i⟩
/-- A joiner's block. -/
abbrev JAt (T : TypeId) (w : World) (b : Nat) (i : Bool) : Prop := w.heap[b]? = some (.cells #[.bool i] T)
abbrev jv (r : Jr) : Value := .tuple #[.string r.d, .bool r.ends, .int .i64 (r.er : Int)]
theorem JAt.set {T : TypeId} {w : World} {b : Nat} {i : Bool} (h : JAt T w b i) (k : Bool) : JAt T (w.setCell ⟨b, 0, none⟩ (.bool k)) b k := block_set (i := 0) h _
theorem and128 (c : Nat) (hc : c < 256) : bits .and .u8 (c : Int) 128 = ((c / 128 * 128 : Nat) : Int) := by
  have : ∀ j : Fin 256, bits .and .u8 (j.val : Int) 128 = ((j.val / 128 * 128 : Nat) : Int) := by decide +kernel
  exact this ⟨c, hc⟩
theorem and64 (c : Nat) (hc : c < 256) : bits .and .u8 (c : Int) 64 = ((c / 64 % 2 * 64 : Nat) : Int) := by
  have : ∀ j : Fin 256, bits .and .u8 (j.val : Int) 64 = ((j.val / 64 % 2 * 64 : Nat) : Int) := by decide +kernel
  exact this ⟨c, hc⟩
theorem not192 (c : Nat) (hc : c < 256) : bits .andNot .u8 (c : Int) 192 = ((c % 64 : Nat) : Int) := by
  have : ∀ j : Fin 256, bits .andNot .u8 (j.val : Int) 192 = ((j.val % 64 : Nat) : Int) := by decide +kernel
  exact this ⟨c, hc⟩
theorem fisHead (c : Nat) (hc : c < 256) (b : Bool) (hb : decide (c % 64 = 1) = b) (w : World) :
    Calls Try.prog 17 #[oc c] w fun e w' => e = .returned (.bool b) ∧ w' = w := by
  obtain ⟨r, hr⟩ : ∃ r, c % 64 = r := ⟨_, rfl⟩
  have q := not192 c hc
  rw [hr] at q hb
  have t : ((r : Int) == 1) = b := by
    rw [← hb]
    by_cases h : r = 1
    · subst h; rfl
    · rw [decide_eq_false h, beq_eq_false_iff_ne]; omega
  clear hr hb
  go_enter Try.func17, Try.ntmps17
  go_wp2
  go_ret
  exact ⟨rfl, rfl⟩
theorem fhas (c : Nat) (m : Int) (x : Nat) (b : Bool) (hx : bits .and .u8 (c : Int) m = (x : Int)) (hb : decide (x ≠ 0) = b) (w : World) :
    Calls Try.prog 18 #[oc c, .int .u8 m] w fun e w' => e = .returned (.bool b) ∧ w' = w := by
  have t : ((x : Int) != 0) = b := by
    rw [← hb]
    by_cases h : x = 0
    · subst h; rfl
    · rw [decide_eq_true h]
      simpa using h
  clear hb
  go_enter Try.func18, Try.ntmps18
  go_wp2
  go_ret
  exact ⟨rfl, rfl⟩
theorem fhas128 (c : Nat) (hc : c < 256) (b : Bool) (hb : decide (128 ≤ c) = b) (w : World) :
    Calls Try.prog 18 #[oc c, .int .u8 128] w fun e w' => e = .returned (.bool b) ∧ w' = w := by
  refine fhas c 128 _ b (and128 c hc) ?_ w
  rw [← hb, decide_eq_decide]
  omega
theorem fhas64 (c : Nat) (hc : c < 256) (b : Bool) (hb : decide (c / 64 % 2 = 1) = b) (w : World) :
    Calls Try.prog 18 #[oc c, .int .u8 64] w fun e w' => e = .returned (.bool b) ∧ w' = w := by
  refine fhas c 64 _ b (and64 c hc) ?_ w
  rw [← hb, decide_eq_decide]
  omega
theorem fNew (w : World) : Calls Try.prog 12 #[] w fun e w' => e = .returned (ptr w.heap.size) ∧ w' = w.alloc (.cells #[.bool false] 45) := by
  go_enter Try.func12, Try.ntmps12
  go_wp2
  go_ret
  exact ⟨rfl, rfl⟩
theorem fWithin (w : World) (jb : Nat) (i : Bool) (h : JAt 45 w jb i) : Calls Try.prog 15 #[ptr jb] w fun e w' => e = .returned (.bool i) ∧ w' = w := by
  have c1 : w.cell? ⟨jb, 0, none⟩ = some (.bool i) := cell_of h rfl
  clear h
  go_enter Try.func15, Try.ntmps15
  go_wp2
  go_ret
  exact ⟨rfl, rfl⟩
theorem fWithin_nil (w : World) : Calls Try.prog 15 #[.pointer none] w fun e w' => e = .returned (.bool false) ∧ w' = w := by
  go_enter Try.func15, Try.ntmps15
  go_wp2
  go_ret
  exact ⟨rfl, rfl⟩
theorem fclone (s : ByteArray) (w : World) (hs : s.size ≤ 1000000) : Calls Try.prog 19 #[.string s] w fun e w' => e = .returned (.string s) ∧ Below w.heap.size w w' := by
  have hc := Lib.hid (Try.stringslite_Clone s w (by omega))
  clear hs
  go_enter Try.func19, Try.ntmps19
  go_wp2_with (go_at_call 22; ((with_reducible refine hc.out.mono ?_); rintro e w1 ⟨rfl, hb⟩; have HB := Lib.hid hb; clear hb))
  go_ret
  exact ⟨rfl, HB.out⟩
theorem fPut_nil (s : ByteArray) (w : World) : Calls Try.prog 13 #[.pointer none, .string s] w fun e w' => e = .returned (.tuple #[.string e0, .bool false, .int .i64 1]) ∧ w' = w := by
  go_enter Try.func13, Try.ntmps13
  go_wp2
  refine bodyPost_ret (results_tmp3 rfl _ _ _) rfl ?_
  exact ⟨rfl, rfl⟩
/-- What the call changes: the joiner's block alone. -/
abbrev Only (jb : Nat) : World → World → Prop := Chg (fun k => k = jb)
theorem h0_eq {p : ByteArray} (h : 0 < p.size) : p[0].toNat = h0 p := by unfold h0; rw [dif_pos h]
theorem h0_lt (p : ByteArray) : h0 p < 256 := by
  unfold h0
  split
  · exact oct_lt _
  · omega
theorem fPut_empty (p : ByteArray) (hp : p.size = 0) (w : World) (jb : Nat) : Calls Try.prog 13 #[ptr jb, .string p] w fun e w' => e = .returned (.tuple #[.string e0, .bool false, .int .i64 70]) ∧ w' = w := by
  have t1 : p.toList = [] := by rw [ByteArray.toList_eq]; exact List.eq_nil_of_length_eq_zero hp
  have t2 : p.toList.isEmpty = true := by rw [t1]; rfl
  clear hp
  go_enter Try.func13, Try.ntmps13
  go_wp2
  refine bodyPost_ret (results_tmp3 rfl _ _ _) rfl ?_
  exact ⟨rfl, rfl⟩
section
variable (p : ByteArray) (hp : 0 < p.size) (c : Nat) (hc : p[0].toNat = c)
include hp hc
theorem fPut_bad (hb : decide (c % 64 = 1) = false) (w : World) (jb : Nat) : Calls Try.prog 13 #[ptr jb, .string p] w fun e w' => e = .returned (.tuple #[.string e0, .bool false, .int .i64 70]) ∧ w' = w := by
  have hc8 : c < 256 := hc ▸ oct_lt _
  have C1 := Lib.hid (fun w => fisHead c hc8 false hb w)
  have t1 := toList_ne hp
  have t2 : p.toList.isEmpty = false := by simpa using t1
  have t3 : (1 : Int) ≤ p.size := by omega
  clear hb
  go_enter Try.func13, Try.ntmps13
  go_wp2_with (go_at_call 17; ((with_reducible refine (C1.out _).mono ?_); rintro e w' ⟨rfl, rfl⟩))
  refine bodyPost_ret (results_tmp3 rfl _ _ _) rfl ?_
  exact ⟨rfl, rfl⟩
theorem fPut_state (hb : decide (c % 64 = 1) = true) (i : Bool) (hi : decide (128 ≤ c) = i) (w : World) (jb : Nat) (hj : JAt 45 w jb i) : Calls Try.prog 13 #[ptr jb, .string p] w fun e w' => e = .returned (.tuple #[.string e0, .bool false, .int .i64 4]) ∧ Below w.heap.size w w' := by
  have hc8 : c < 256 := hc ▸ oct_lt _
  have C1 := Lib.hid (fun w => fisHead c hc8 true hb w)
  have C2 := Lib.hid (fun w => fhas128 c hc8 i hi w)
  have t1 := toList_ne hp
  have t2 : p.toList.isEmpty = false := by simpa using t1
  have t3 : (1 : Int) ≤ p.size := by omega
  have t4 : (i == i) = true := beq_self_eq_true _
  have c1 : w.cell? ⟨jb, 0, none⟩ = some (.bool i) := cell_of hj rfl
  clear hb hi hj
  go_enter Try.func13, Try.ntmps13
  go_wp2_with (go_at_call 17; ((with_reducible refine (C1.out _).mono ?_); rintro e w' ⟨rfl, rfl⟩))
  go_quiet (first
    | (go_at_call 18; ((with_reducible refine (C2.out _).mono ?_); rintro e w' ⟨rfl, rfl⟩; exact ⟨rfl, _, rfl⟩)))
  go_wp2
  refine bodyPost_ret (results_tmp3 rfl _ _ _) rfl ?_
  exact ⟨rfl, below_drewN (Below.refl _ _) _⟩
theorem fPut_ok (hs : p.size ≤ 1000000) (hb : decide (c % 64 = 1) = true) (f i : Bool) (hf : decide (128 ≤ c) = f) (hi : (f == i) = false) (b : Bool) (he : decide (c / 64 % 2 = 1) = b) (w : World) (jb : Nat) (hj : JAt 45 w jb i) :
    Calls Try.prog 13 #[ptr jb, .string p] w fun e w' => e = .returned (.tuple #[.string (p.extract 1 p.size), .bool b, .int .i64 0]) ∧ JAt 45 w' jb (!b) ∧ Only jb w w' := by
  have hc8 : c < 256 := hc ▸ oct_lt _
  obtain ⟨d, hd⟩ : ∃ d, p.extract 1 p.size = d := ⟨_, rfl⟩
  have C1 := Lib.hid (fun w => fisHead c hc8 true hb w)
  have C2 := Lib.hid (fun w => fhas128 c hc8 f hf w)
  have C3 := Lib.hid (fun w => fhas64 c hc8 b he w)
  have C4 := Lib.hid (fun w => fclone d w (by rw [← hd, ByteArray.size_extract]; omega))
  have t1 := toList_ne hp
  have t2 : p.toList.isEmpty = false := by simpa using t1
  have t3 : (1 : Int) ≤ p.size := by omega
  have c1 : w.cell? ⟨jb, 0, none⟩ = some (.bool i) := cell_of hj rfl
  have f1 : w.frozen? ⟨jb, 0, none⟩ = false := free_of hj
  have HJ : Hid (∀ m, JAt 45 (w.drewN m) jb i) := Lib.hid (fun _ => hj)
  clear hb hf he hj
  rw [hd]
  go_enter Try.func13, Try.ntmps13
  go_wp2_with (go_at_call 17; ((with_reducible refine (C1.out _).mono ?_); rintro e w' ⟨rfl, rfl⟩))
  go_quiet (first
    | (go_at_call 18; ((with_reducible refine (C2.out _).mono ?_); rintro e w' ⟨rfl, rfl⟩; exact ⟨rfl, _, rfl⟩)))
  have c2 : (w'.drewN nq).cell? ⟨jb, 0, none⟩ = some (.bool i) := cell_of (HJ.out nq) rfl
  have f2 : (w'.drewN nq).frozen? ⟨jb, 0, none⟩ = false := free_of (HJ.out nq)
  go_wp2_with (first
    | (go_at_call 18; ((with_reducible refine (C3.out _).mono ?_); rintro e w' ⟨rfl, rfl⟩))
    | (go_at_call 19; ((with_reducible refine (C4.out _).mono ?_); rintro e w3 ⟨rfl, hb⟩; have HB := Lib.hid hb; clear hb)))
  refine bodyPost_ret (results_tmp3 rfl _ _ _) rfl ?_
  exact ⟨rfl, stays ((HJ.out nq).set (!b)) HB.out, ((((Chg.refl (fun k => k = jb) _).drewN nq).setCell jb 0 _ fun _ => rfl).on HB.out)⟩
end
end Go.Proofs.Ytidcoodmlgmcjaa.Cl
