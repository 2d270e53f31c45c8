/-
  A side that was made since a world, and blocks beside it that hold what they hold; values compared with themselves; the law's own 'works'. No condition but that the side's numbers are small.
  The law's own 'works' answers true. No condition.
-/
import Derived.Test.YtkoaplmlabagnaaAqPm8
import Derived.Test.YtkoaplmlabagnaaAqPm10
import Derived.Test.YtkoaplmlabagnaaAqPm2
namespace Go.Proofs.Ytkoaplmlabagnaa.Aq
open Go.RowKit Go.Proofs.Ytkoaplmlabagnaa.Base Go.Proofs.Ytkoaplmlabagnaa.Mem
theorem frm_eq (d k ns nr : Int) (c pf : Bool) (s : ByteArray) (w : World) : (binOp .eql 25 (.agg #[.int .u8 d, .bool c, .int .u8 k, .bool pf, .int .u8 ns, .int .u8 nr, .string s]) (.agg #[.int .u8 d, .bool c, .int .u8 k, .bool pf, .int .u8 ns, .int .u8 nr, .string s])).run Try.prog w = .ok (.bool true) w := by
  have hF : (Op.equalIn 10000 25 (.agg #[.int .u8 d, .bool c, .int .u8 k, .bool pf, .int .u8 ns, .int .u8 nr, .string s]) (.agg #[.int .u8 d, .bool c, .int .u8 k, .bool pf, .int .u8 ns, .int .u8 nr, .string s])).run Try.prog w = .ok true w := by
    have u4 := Try.underlying4
    have u5 := Try.underlying5
    have u3 := Try.underlying3
    have u9 := Try.underlying9
    have a4 := Try.isAgg4
    have a5 := Try.isAgg5
    have a3 := Try.isAgg3
    have a9 := Try.isAgg9
    have z4 := Try.sizeOf4
    have z5 := Try.sizeOf5
    have z3 := Try.sizeOf3
    have z9 := Try.sizeOf9
    have hS : Try.prog.underlying 25 = some (.struct (Try.prog.fieldsOf 25)) := by kernel_rfl
    have hp : Try.prog.stoodInHeld 25 = false := by kernel_rfl
    rw [show (10000 : Nat) = 9999 + 1 from rfl, run_equalIn_agg w 9999 25 _ _ hS hp]
    simp only [Program.fieldsOf, Try.underlying25]
    go_simp
    try simp_all
  rw [run_eql_struct, hF]; rfl
theorem frm_ne (d k ns nr : Int) (c pf : Bool) (s : ByteArray) (w : World) : (binOp .neq 25 (.agg #[.int .u8 d, .bool c, .int .u8 k, .bool pf, .int .u8 ns, .int .u8 nr, .string s]) (.agg #[.int .u8 d, .bool c, .int .u8 k, .bool pf, .int .u8 ns, .int .u8 nr, .string s])).run Try.prog w = .ok (.bool false) w := by
  have h := frm_eq d k ns nr c pf s w
  rw [run_eql_struct] at h
  rw [run_neq_struct]
  revert h
  cases (Op.equalIn 10000 25 (.agg #[.int .u8 d, .bool c, .int .u8 k, .bool pf, .int .u8 ns, .int .u8 nr, .string s]) (.agg #[.int .u8 d, .bool c, .int .u8 k, .bool pf, .int .u8 ns, .int .u8 nr, .string s])).run Try.prog w <;> simp
theorem act_eq (s : ByteArray) (a : Bool) (n : Int) (f : Bool) (w : World) : (binOp .eql 56 (.agg #[.string s, .bool a, .int .i64 n, .bool f]) (.agg #[.string s, .bool a, .int .i64 n, .bool f])).run Try.prog w = .ok (.bool true) w := by
  have hF : (Op.equalIn 10000 56 (.agg #[.string s, .bool a, .int .i64 n, .bool f]) (.agg #[.string s, .bool a, .int .i64 n, .bool f])).run Try.prog w = .ok true w := by
    have u4 := Try.underlying4
    have u5 := Try.underlying5
    have u3 := Try.underlying3
    have u9 := Try.underlying9
    have a4 := Try.isAgg4
    have a5 := Try.isAgg5
    have a3 := Try.isAgg3
    have a9 := Try.isAgg9
    have z4 := Try.sizeOf4
    have z5 := Try.sizeOf5
    have z3 := Try.sizeOf3
    have z9 := Try.sizeOf9
    have hS : Try.prog.underlying 56 = some (.struct (Try.prog.fieldsOf 56)) := by kernel_rfl
    have hp : Try.prog.stoodInHeld 56 = false := by kernel_rfl
    rw [show (10000 : Nat) = 9999 + 1 from rfl, run_equalIn_agg w 9999 56 _ _ hS hp]
    simp only [Program.fieldsOf, Try.underlying56]
    go_simp
    try simp_all
  rw [run_eql_struct, hF]; rfl
theorem act_ne (s : ByteArray) (a : Bool) (n : Int) (f : Bool) (w : World) : (binOp .neq 56 (.agg #[.string s, .bool a, .int .i64 n, .bool f]) (.agg #[.string s, .bool a, .int .i64 n, .bool f])).run Try.prog w = .ok (.bool false) w := by
  have h := act_eq s a n f w
  rw [run_eql_struct] at h
  rw [run_neq_struct]
  revert h
  cases (Op.equalIn 10000 56 (.agg #[.string s, .bool a, .int .i64 n, .bool f]) (.agg #[.string s, .bool a, .int .i64 n, .bool f])).run Try.prog w <;> simp
theorem vew_eq (a b c n1 n2 n3 n4 : Int) (b1 b2 b3 b4 b5 b6 : Bool) (w : World) : (binOp .eql 35 (.agg #[.int .u8 a, .int .u8 b, .int .u8 c, .int .i64 n1, .int .i64 n2, .int .i64 n3, .int .i64 n4, .bool b1, .bool b2, .bool b3, .bool b4, .bool b5, .bool b6]) (.agg #[.int .u8 a, .int .u8 b, .int .u8 c, .int .i64 n1, .int .i64 n2, .int .i64 n3, .int .i64 n4, .bool b1, .bool b2, .bool b3, .bool b4, .bool b5, .bool b6])).run Try.prog w = .ok (.bool true) w := by
  have hF : (Op.equalIn 10000 35 (.agg #[.int .u8 a, .int .u8 b, .int .u8 c, .int .i64 n1, .int .i64 n2, .int .i64 n3, .int .i64 n4, .bool b1, .bool b2, .bool b3, .bool b4, .bool b5, .bool b6]) (.agg #[.int .u8 a, .int .u8 b, .int .u8 c, .int .i64 n1, .int .i64 n2, .int .i64 n3, .int .i64 n4, .bool b1, .bool b2, .bool b3, .bool b4, .bool b5, .bool b6])).run Try.prog w = .ok true w := by
    have u4 := Try.underlying4
    have u5 := Try.underlying5
    have u3 := Try.underlying3
    have u9 := Try.underlying9
    have a4 := Try.isAgg4
    have a5 := Try.isAgg5
    have a3 := Try.isAgg3
    have a9 := Try.isAgg9
    have z4 := Try.sizeOf4
    have z5 := Try.sizeOf5
    have z3 := Try.sizeOf3
    have z9 := Try.sizeOf9
    have hS : Try.prog.underlying 35 = some (.struct (Try.prog.fieldsOf 35)) := by kernel_rfl
    have hp : Try.prog.stoodInHeld 35 = false := by kernel_rfl
    rw [show (10000 : Nat) = 9999 + 1 from rfl, run_equalIn_agg w 9999 35 _ _ hS hp]
    simp only [Program.fieldsOf, Try.underlying35]
    go_simp
    try simp_all
  rw [run_eql_struct, hF]; rfl
theorem vew_ne (a b c n1 n2 n3 n4 : Int) (b1 b2 b3 b4 b5 b6 : Bool) (w : World) : (binOp .neq 35 (.agg #[.int .u8 a, .int .u8 b, .int .u8 c, .int .i64 n1, .int .i64 n2, .int .i64 n3, .int .i64 n4, .bool b1, .bool b2, .bool b3, .bool b4, .bool b5, .bool b6]) (.agg #[.int .u8 a, .int .u8 b, .int .u8 c, .int .i64 n1, .int .i64 n2, .int .i64 n3, .int .i64 n4, .bool b1, .bool b2, .bool b3, .bool b4, .bool b5, .bool b6])).run Try.prog w = .ok (.bool false) w := by
  have h := vew_eq a b c n1 n2 n3 n4 b1 b2 b3 b4 b5 b6 w
  rw [run_eql_struct] at h
  rw [run_neq_struct]
  revert h
  cases (Op.equalIn 10000 35 (.agg #[.int .u8 a, .int .u8 b, .int .u8 c, .int .i64 n1, .int .i64 n2, .int .i64 n3, .int .i64 n4, .bool b1, .bool b2, .bool b3, .bool b4, .bool b5, .bool b6]) (.agg #[.int .u8 a, .int .u8 b, .int .u8 c, .int .i64 n1, .int .i64 n2, .int .i64 n3, .int .i64 n4, .bool b1, .bool b2, .bool b3, .bool b4, .bool b5, .bool b6])).run Try.prog w <;> simp
theorem ftick (w : World) (pb : Nat) (y : Ps) (v : Value) (h : PAt w pb y v) (hf : PFit y) :
    Calls Try.prog 20 #[ptr pb] w fun e w' => e = .returned (amv (Ps.tick y).2) ∧ ADo pb (Ps.tick y).1 v w w' := by
  unfold Ps.tick
  by_cases hl : y.fl = true
  · rw [if_pos (Or.inl hl)]; exact ftick_fl w pb y v h hl
  have hl : y.fl = false := by simpa using hl
  by_cases hz : y.lf = 0
  · rw [if_pos (Or.inr hz)]; exact ftick_no w pb y v h hl hz
  rw [if_neg (by simp [hl, hz])]
  by_cases h1 : 1 < y.lf
  · rw [if_pos h1]; exact ftick_less w pb y v h hl hf.lf h1
  rw [if_neg h1]
  have hz : y.lf = 1 := by omega
  dsimp only
  by_cases ho : 0 < y.out
  · rw [show (if 0 < y.out ∨ y.ak = true then y.tr + 1 else y.tr) = y.tr + 1 from if_pos (Or.inl ho)]
    by_cases hn : y.n2 < y.tr + 1
    · rw [if_pos hn]; exact ftick_out_y w pb y v h hf.tr hl hz ho hn
    · rw [if_neg hn]; exact ftick_out_n w pb y v h hf.tr hl hz ho hn
  by_cases hk : y.ak = true
  · rw [show (if 0 < y.out ∨ y.ak = true then y.tr + 1 else y.tr) = y.tr + 1 from if_pos (Or.inr hk)]
    by_cases hn : y.n2 < y.tr + 1
    · rw [if_pos hn]; exact ftick_ask_y w pb y v h hf.tr hl hz ho hk hn
    · rw [if_neg hn]; exact ftick_ask_n w pb y v h hf.tr hl hz ho hk hn
  rw [show (if 0 < y.out ∨ y.ak = true then y.tr + 1 else y.tr) = y.tr from if_neg (by simp [ho, hk])]
  have hk : y.ak = false := by simpa using hk
  by_cases hn : y.n2 < y.tr
  · rw [if_pos hn]; exact ftick_none_y w pb y v h hf.tr hl hz ho hk hn
  · rw [if_neg hn]; exact ftick_none_n w pb y v h hf.tr hl hz ho hk hn
/-- A side that was made since w0, and blocks of m beside it. -/
structure One (m : List (Nat × Obj)) (w0 : World) (pb : Nat) (y : Ps) (w : World) : Prop where
  ex : ∃ v, PAt w pb y v ∧ ∀ x ∈ m, v.ownBlock ≠ some x.1
  m : ∀ x ∈ m, w.heap[x.1]? = some x.2 ∧ x.1 ≠ pb
  lo : w0.heap.size ≤ pb
  below : Below w0.heap.size w0 w
section
variable {m : List (Nat × Obj)} {w0 w w' : World} {pb b : Nat} {y x : Ps} {o : Obj}
theorem One.q (h : One m w0 pb x w) {v u : Value} (hv : PAt w pb x v) (hm : ∀ x ∈ m, v.ownBlock ≠ some x.1) (hd : QDo pb y v u w w') : One m w0 pb y w' :=
  ⟨⟨u, hd.at_, fun z hz e => by
      rcases hd.own with ho | ⟨k, hk, hl⟩
      · exact hm z hz (ho ▸ e)
      · rw [hk] at e
        have := lt_heap (h.m z hz).1
        have : k = z.1 := Option.some.inj e
        omega⟩,
    fun z hz => ⟨hd.chg.stays (h.m z hz).1 (fun e => by
      rcases e with e | e
      · exact (h.m z hz).2 e
      · exact hm z hz e), (h.m z hz).2⟩, h.lo, hd.chg.below h.below h.below.size fun k e => by
      rcases e with e | e
      · have := h.lo; omega
      · have := (hv.q.lt k e).1; have := h.lo; omega⟩
theorem One.on (h : One m w0 pb y w) (hb : Below w.heap.size w w') : One m w0 pb y w' := by
  obtain ⟨v, h1, h2⟩ := h.ex
  exact ⟨⟨v, h1.below hb, h2⟩, fun z hz => ⟨stays (h.m z hz).1 hb, (h.m z hz).2⟩, h.lo, below_on h.below hb⟩
theorem One.alloc (h : One m w0 pb y w) (o : Obj) : One ((w.heap.size, o) :: m) w0 pb y (w.alloc o) := by
  obtain ⟨v, h1, h2⟩ := h.ex
  have hb : Below w.heap.size w (w.alloc o) := (Below.refl _ _).alloc (Nat.le_refl _) o
  refine ⟨⟨v, h1.below hb, fun z hz => ?_⟩, fun z hz => ?_, h.lo, below_on h.below hb⟩
  · rcases List.mem_cons.1 hz with rfl | hz
    · exact fun e => by have := (h1.q.lt _ e).2; dsimp only at this; omega
    · exact h2 z hz
  · rcases List.mem_cons.1 hz with rfl | hz
    · exact ⟨nest w [_] 0 _ rfl, fun e => by have := h1.lt; dsimp only at e; omega⟩
    · exact ⟨stays (h.m z hz).1 hb, (h.m z hz).2⟩
theorem One.at0 (h : One ((b, o) :: m) w0 pb y w) : w.heap[b]? = some o := (h.m _ (List.mem_cons_self ..)).1
theorem One.tail (h : One ((b, o) :: m) w0 pb y w) : One m w0 pb y w := by
  obtain ⟨v, h1, h2⟩ := h.ex
  exact ⟨⟨v, h1, fun z hz => h2 z (List.mem_cons_of_mem _ hz)⟩, fun z hz => h.m z (List.mem_cons_of_mem _ hz), h.lo, h.below⟩
theorem One.all (h : One m w0 pb y w) : One [] w0 pb y w := by
  obtain ⟨v, h1, _⟩ := h.ex
  exact ⟨⟨v, h1, fun z hz => by cases hz⟩, (fun z hz => by cases hz), h.lo, h.below⟩
end
theorem oNew (k n2 t1 : Nat) (h : mayN k n2 t1) (w : World) :
    Calls Try.prog 8 #[nm k, nm n2, nm t1] w fun e w' => e = .returned (ptr w.heap.size) ∧ One [] w w.heap.size (Ps.new k n2 t1) w' :=
  (fnew_ok k n2 t1 h w).mono fun _ _ ⟨h1, h2, h3⟩ => ⟨h1, ⟨⟨_, h2, fun z hz => by cases hz⟩, (fun z hz => by cases hz), Nat.le_refl _, h3⟩⟩
section
variable {m : List (Nat × Obj)} {w0 w : World} {pb : Nat} {y : Ps}
theorem oPush (h : One m w0 pb y w) (hf : PFit y) (i : ByteArray) :
    Calls Try.prog 18 #[ptr pb, .string i] w fun e w' => e = .returned (nm (Ps.push i y).2) ∧ One m w0 pb (Ps.push i y).1 w' := by
  obtain ⟨v, h1, h2⟩ := h.ex
  exact (fpush w pb y v i h1 hf.q).mono fun _ _ ⟨e1, u, e2⟩ => ⟨e1, h.q h1 h2 e2⟩
theorem oNext (h : One m w0 pb y w) (hf : PFit y) :
    Calls Try.prog 19 #[ptr pb] w fun e w' => e = .returned (.tuple #[fmv (Ps.next y).2.1, .bool (Ps.next y).2.2]) ∧ One m w0 pb (Ps.next y).1 w' := by
  obtain ⟨v, h1, h2⟩ := h.ex
  exact (fnext w pb y v h1 hf).mono fun _ _ ⟨e1, e2⟩ => ⟨e1, h.q h1 h2 (QDo.of e2)⟩
theorem oHear (h : One m w0 pb y w) (hf : PFit y) (d : Nat) (f : Fm) (hns : f.ns < 256) (hnr : f.nr < 256) :
    Calls Try.prog 24 #[ptr pb, fmvd d f] w fun e w' => e = .returned (amv (Ps.hear f y).2) ∧ One m w0 pb (Ps.hear f y).1 w' := by
  obtain ⟨v, h1, h2⟩ := h.ex
  exact (fhear w pb d y v f h1 hf hns hnr).mono fun _ _ ⟨e1, u, e2⟩ => ⟨e1, h.q h1 h2 e2⟩
theorem oTick (h : One m w0 pb y w) (hf : PFit y) :
    Calls Try.prog 20 #[ptr pb] w fun e w' => e = .returned (amv (Ps.tick y).2) ∧ One m w0 pb (Ps.tick y).1 w' := by
  obtain ⟨v, h1, h2⟩ := h.ex
  exact (ftick w pb y v h1 hf).mono fun _ _ ⟨e1, e2⟩ => ⟨e1, h.q h1 h2 (QDo.of e2)⟩
theorem oView (h : One m w0 pb y w) (hf : PFit y) :
    Calls Try.prog 12 #[ptr pb] w fun e w' => e = .returned (vwv y) ∧ One m w0 pb y w' := by
  obtain ⟨v, h1, h2⟩ := h.ex
  exact (fview w pb y v h1 hf).mono fun _ _ ⟨e1, e2⟩ => ⟨e1, h.on e2⟩
end
def wa : ByteArray := ⟨#[97]⟩
def wb : ByteArray := ⟨#[98]⟩
def wc : ByteArray := ⟨#[99]⟩
def wd : ByteArray := ⟨#[100]⟩
abbrev st0 : Ps := ⟨0, 0, 0, 0, 0, false, false, false, false, false, false, 2, 1, 3, [], 0, false, false, false, false⟩
abbrev st1 : Ps := ⟨0, 0, 0, 0, 0, false, false, false, false, false, false, 2, 1, 3, [wa], 0, false, false, false, false⟩
abbrev st2 : Ps := ⟨0, 0, 0, 0, 0, false, false, false, false, false, false, 2, 1, 3, [wa, wb], 0, false, false, false, false⟩
abbrev st3 : Ps := ⟨0, 0, 1, 0, 3, false, false, false, false, false, false, 2, 1, 3, [wa, wb], 1, false, false, false, false⟩
abbrev st4 : Ps := ⟨0, 0, 2, 0, 3, false, false, false, false, false, false, 2, 1, 3, [wa, wb], 2, false, false, false, false⟩
abbrev st5 : Ps := ⟨1, 0, 1, 0, 3, false, false, false, false, false, false, 2, 1, 3, [wb], 1, false, false, false, false⟩
abbrev st6 : Ps := ⟨1, 0, 1, 0, 2, false, false, false, false, false, false, 2, 1, 3, [wb], 1, false, false, false, false⟩
abbrev st7 : Ps := ⟨1, 0, 1, 0, 1, false, false, false, false, false, false, 2, 1, 3, [wb], 1, false, false, false, false⟩
abbrev st8 : Ps := ⟨1, 0, 1, 1, 3, false, false, false, true, false, false, 2, 1, 3, [wb], 1, false, false, false, true⟩
abbrev st9 : Ps := ⟨1, 0, 1, 1, 3, false, false, false, true, false, false, 2, 1, 3, [wb], 1, false, false, false, false⟩
abbrev st10 : Ps := ⟨1, 0, 1, 1, 2, false, false, false, true, false, false, 2, 1, 3, [wb], 1, false, false, false, false⟩
abbrev st11 : Ps := ⟨1, 0, 1, 1, 1, false, false, false, true, false, false, 2, 1, 3, [wb], 1, false, false, false, false⟩
abbrev st12 : Ps := ⟨1, 0, 1, 2, 0, false, false, false, true, false, true, 2, 1, 3, [wb], 1, false, false, false, false⟩
theorem fits : PFit st0 ∧ PFit st1 ∧ PFit st2 ∧ PFit st3 ∧ PFit st4 ∧ PFit st5 ∧ PFit st6 ∧ PFit st7 ∧ PFit st8 ∧ PFit st9 ∧ PFit st10 ∧ PFit st11 ∧ PFit st12 := by
  refine ⟨?_, ?_, ?_, ?_, ?_, ?_, ?_, ?_, ?_, ?_, ?_, ?_, ?_⟩ <;> (constructor <;> decide)
theorem wk0 : ∀ (m : List (Nat × Obj)) (w0 w : World) (pb : Nat), One m w0 pb st0 w → Calls Try.prog 18 #[ptr pb, .string ⟨#[97]⟩] w fun e w' => e = .returned (.int .i64 0) ∧ One m w0 pb st1 w' := fun _ _ _ _ h => oPush h fits.1 wa
theorem wk1 : ∀ (m : List (Nat × Obj)) (w0 w : World) (pb : Nat), One m w0 pb st1 w → Calls Try.prog 18 #[ptr pb, .string ⟨#[98]⟩] w fun e w' => e = .returned (.int .i64 0) ∧ One m w0 pb st2 w' := fun _ _ _ _ h => oPush h fits.2.1 wb
theorem wk2 : ∀ (m : List (Nat × Obj)) (w0 w : World) (pb : Nat), One m w0 pb st2 w → Calls Try.prog 18 #[ptr pb, .string ⟨#[99]⟩] w fun e w' => e = .returned (.int .i64 3) ∧ One m w0 pb st2 w' := fun _ _ _ _ h => oPush h fits.2.2.1 wc
theorem wk3 : ∀ (m : List (Nat × Obj)) (w0 w : World) (pb : Nat), One m w0 pb st2 w → Calls Try.prog 19 #[ptr pb] w fun e w' => e = .returned (.tuple #[.agg #[.int .u8 0, .bool true, .int .u8 7, .bool false, .int .u8 0, .int .u8 0, .string ⟨#[97]⟩], .bool true]) ∧ One m w0 pb st3 w' := fun _ _ _ _ h => oNext h fits.2.2.1
theorem wk4 : ∀ (m : List (Nat × Obj)) (w0 w : World) (pb : Nat), One m w0 pb st3 w → Calls Try.prog 19 #[ptr pb] w fun e w' => e = .returned (.tuple #[.agg #[.int .u8 0, .bool true, .int .u8 7, .bool false, .int .u8 1, .int .u8 0, .string ⟨#[98]⟩], .bool true]) ∧ One m w0 pb st4 w' := fun _ _ _ _ h => oNext h fits.2.2.2.1
theorem wk5 : ∀ (m : List (Nat × Obj)) (w0 w : World) (pb : Nat), One m w0 pb st4 w → Calls Try.prog 19 #[ptr pb] w fun e w' => e = .returned (.tuple #[.agg #[.int .u8 0, .bool false, .int .u8 0, .bool false, .int .u8 0, .int .u8 0, .string ⟨#[]⟩], .bool false]) ∧ One m w0 pb st4 w' := fun _ _ _ _ h => oNext h fits.2.2.2.2.1
theorem wk6 : ∀ (m : List (Nat × Obj)) (w0 w : World) (pb : Nat), One m w0 pb st4 w → Calls Try.prog 24 #[ptr pb, .agg #[.int .u8 0, .bool false, .int .u8 8, .bool false, .int .u8 0, .int .u8 1, .string ⟨#[]⟩]] w fun e w' => e = .returned (.agg #[.string ⟨#[]⟩, .bool false, .int .i64 1, .bool false]) ∧ One m w0 pb st5 w' := fun _ _ _ _ h => oHear h fits.2.2.2.2.1 0 ⟨false, 8, false, 0, 1, bE⟩ (by decide) (by decide)
theorem wk7 : ∀ (m : List (Nat × Obj)) (w0 w : World) (pb : Nat), One m w0 pb st5 w → Calls Try.prog 12 #[ptr pb] w fun e w' => e = .returned (.agg #[.int .u8 1, .int .u8 2, .int .u8 0, .int .i64 1, .int .i64 1, .int .i64 0, .int .i64 3, .bool false, .bool false, .bool false, .bool false, .bool false, .bool false]) ∧ One m w0 pb st5 w' := fun _ _ _ _ h => oView h fits.2.2.2.2.2.1
theorem wk8 : ∀ (m : List (Nat × Obj)) (w0 w : World) (pb : Nat), One m w0 pb st5 w → Calls Try.prog 20 #[ptr pb] w fun e w' => e = .returned (.agg #[.string ⟨#[]⟩, .bool false, .int .i64 0, .bool false]) ∧ One m w0 pb st6 w' := fun _ _ _ _ h => oTick h fits.2.2.2.2.2.1
theorem wk9 : ∀ (m : List (Nat × Obj)) (w0 w : World) (pb : Nat), One m w0 pb st6 w → Calls Try.prog 20 #[ptr pb] w fun e w' => e = .returned (.agg #[.string ⟨#[]⟩, .bool false, .int .i64 0, .bool false]) ∧ One m w0 pb st7 w' := fun _ _ _ _ h => oTick h fits.2.2.2.2.2.2.1
theorem wk10 : ∀ (m : List (Nat × Obj)) (w0 w : World) (pb : Nat), One m w0 pb st7 w → Calls Try.prog 20 #[ptr pb] w fun e w' => e = .returned (.agg #[.string ⟨#[]⟩, .bool false, .int .i64 0, .bool false]) ∧ One m w0 pb st8 w' := fun _ _ _ _ h => oTick h fits.2.2.2.2.2.2.2.1
theorem wk11 : ∀ (m : List (Nat × Obj)) (w0 w : World) (pb : Nat), One m w0 pb st8 w → Calls Try.prog 19 #[ptr pb] w fun e w' => e = .returned (.tuple #[.agg #[.int .u8 0, .bool true, .int .u8 8, .bool true, .int .u8 0, .int .u8 0, .string ⟨#[]⟩], .bool true]) ∧ One m w0 pb st9 w' := fun _ _ _ _ h => oNext h fits.2.2.2.2.2.2.2.2.1
theorem wk12 : ∀ (m : List (Nat × Obj)) (w0 w : World) (pb : Nat), One m w0 pb st9 w → Calls Try.prog 20 #[ptr pb] w fun e w' => e = .returned (.agg #[.string ⟨#[]⟩, .bool false, .int .i64 0, .bool false]) ∧ One m w0 pb st10 w' := fun _ _ _ _ h => oTick h fits.2.2.2.2.2.2.2.2.2.1
theorem wk13 : ∀ (m : List (Nat × Obj)) (w0 w : World) (pb : Nat), One m w0 pb st10 w → Calls Try.prog 20 #[ptr pb] w fun e w' => e = .returned (.agg #[.string ⟨#[]⟩, .bool false, .int .i64 0, .bool false]) ∧ One m w0 pb st11 w' := fun _ _ _ _ h => oTick h fits.2.2.2.2.2.2.2.2.2.2.1
theorem wk14 : ∀ (m : List (Nat × Obj)) (w0 w : World) (pb : Nat), One m w0 pb st11 w → Calls Try.prog 20 #[ptr pb] w fun e w' => e = .returned (.agg #[.string ⟨#[]⟩, .bool false, .int .i64 0, .bool true]) ∧ One m w0 pb st12 w' := fun _ _ _ _ h => oTick h fits.2.2.2.2.2.2.2.2.2.2.2.1
theorem wk15 : ∀ (m : List (Nat × Obj)) (w0 w : World) (pb : Nat), One m w0 pb st12 w → Calls Try.prog 18 #[ptr pb, .string ⟨#[100]⟩] w fun e w' => e = .returned (.int .i64 4) ∧ One m w0 pb st12 w' := fun _ _ _ _ h => oPush h fits.2.2.2.2.2.2.2.2.2.2.2.2 wd
theorem wk_new (w : World) : Calls Try.prog 8 #[.int .i64 2, .int .i64 1, .int .i64 3] w fun e w' => e = .returned (ptr w.heap.size) ∧ One [] w w.heap.size st0 w' := oNew 2 1 3 (by unfold mayN; omega) w
set_option maxHeartbeats 8000000 in
set_option maxRecDepth 100000 in
theorem fworks (w : World) : Calls Try.prog 7 #[] w fun e w' => e = .returned (.bool true) ∧ Below w.heap.size w w' := by
  have fne := frm_ne
  have feq := frm_eq
  have ane := act_ne
  have aeq := act_eq
  go_enter Try.func7, Try.ntmps7
  go_wp2_with fail
  refine (wk_new w).mono ?_
  rintro _ w1 ⟨rfl, h1⟩
  have HP := Lib.hid (show One [] w w.heap.size st0 w1 from h1)
  clear h1
  generalize hpb : w.heap.size = pb at HP ⊢
  have HB := Lib.hid hpb
  clear hpb
  go_wp2_with fail
  refine (wk0 _ _ _ _ HP.out).mono ?_
  rintro _ w2 ⟨rfl, h⟩
  have HQ := Lib.hid h
  clear h HP
  have HP := HQ
  clear HQ
  go_wp2_with fail
  refine (wk1 _ _ _ _ HP.out).mono ?_
  rintro _ w3 ⟨rfl, h⟩
  have HQ := Lib.hid h
  clear h HP
  have HP := HQ
  clear HQ
  go_wp2_with fail
  refine (wk2 _ _ _ _ HP.out).mono ?_
  rintro _ w4 ⟨rfl, h⟩
  have HQ := Lib.hid h
  clear h HP
  have HP := HQ
  clear HQ
  go_wp2_with fail
  refine (wk3 _ _ _ _ HP.out).mono ?_
  rintro _ w5 ⟨rfl, h⟩
  have HQ := Lib.hid h
  clear h HP
  have HP := HQ
  clear HQ
  have HQ := Lib.hid (HP.out.alloc (.cells #[.int .u8 0, .bool true, .int .u8 7, .bool false, .int .u8 0, .int .u8 0, .string ⟨#[97]⟩] TF (0, 0)))
  clear HP
  have HP := HQ
  clear HQ
  go_wp2_with fail
  refine (wk4 _ _ _ _ HP.out).mono ?_
  rintro _ w6 ⟨rfl, h⟩
  have HQ := Lib.hid h
  clear h HP
  have HP := HQ
  clear HQ
  generalize w5.heap.size = bf at HP ⊢
  have HQ := Lib.hid (HP.out.alloc (.cells #[.int .u8 0, .bool true, .int .u8 7, .bool false, .int .u8 1, .int .u8 0, .string ⟨#[98]⟩] TF (0, 0)))
  clear HP
  have HP := HQ
  clear HQ
  go_wp2_with fail
  refine (wk5 _ _ _ _ HP.out).mono ?_
  rintro _ w7 ⟨rfl, h⟩
  have HQ := Lib.hid h
  clear h HP
  have HP := HQ
  clear HQ
  generalize w6.heap.size = bg at HP ⊢
  have HQ := Lib.hid (HP.out.alloc (.cells #[.int .u8 0, .bool false, .int .u8 0, .bool false, .int .u8 0, .int .u8 0, .string ⟨#[]⟩] TF (0, 0)))
  clear HP
  have HP := HQ
  clear HQ
  go_wp2_with fail
  refine (wk6 _ _ _ _ HP.out).mono ?_
  rintro _ w8 ⟨rfl, h⟩
  have HQ := Lib.hid h
  clear h HP
  have HP := HQ
  clear HQ
  generalize w7.heap.size = bn at HP ⊢
  have HQ := Lib.hid (HP.out.alloc (.cells #[.string ⟨#[]⟩, .bool false, .int .i64 1, .bool false] TA (0, 0)))
  clear HP
  have HP := HQ
  clear HQ
  go_wp2_with fail
  refine (wk7 _ _ _ _ HP.out).mono ?_
  rintro _ w9 ⟨rfl, h⟩
  have HQ := Lib.hid h
  clear h HP
  have HP := HQ
  clear HQ
  generalize w8.heap.size = bx at HP ⊢
  obtain ⟨⟨x0, x1, x2, x3⟩, -⟩ := cells4 HP.out.at0
  have ltx := lt_heap HP.out.at0
  obtain ⟨⟨g0, g1, g2, g3, g4, g5, g6⟩, -⟩ := cells7 HP.out.tail.tail.at0
  have ltg := lt_heap HP.out.tail.tail.at0
  obtain ⟨⟨f0, f1, f2, f3, f4, f5, f6⟩, -⟩ := cells7 HP.out.tail.tail.tail.at0
  have ltf := lt_heap HP.out.tail.tail.tail.at0
  have HQ := Lib.hid (HP.out.alloc (.cells #[.int .u8 1, .int .u8 2, .int .u8 0, .int .i64 1, .int .i64 1, .int .i64 0, .int .i64 3, .bool false, .bool false, .bool false, .bool false, .bool false, .bool false] TV (0, 0)))
  clear HP
  have HP := HQ
  clear HQ
  go_wp2_with fail
  refine (wk8 _ _ _ _ HP.out).mono ?_
  rintro _ w10 ⟨rfl, h⟩
  have HQ := Lib.hid h
  clear h HP
  have HP := HQ
  clear HQ
  clear x0 x1 x2 x3 g0 g1 g2 g3 g4 g5 g6 f0 f1 f2 f3 f4 f5 f6 ltx ltg ltf
  have HQ := Lib.hid HP.out.all
  clear HP
  have HP := HQ
  clear HQ
  go_wp2_with fail
  refine (wk9 _ _ _ _ HP.out).mono ?_
  rintro _ w11 ⟨rfl, h⟩
  have HQ := Lib.hid h
  clear h HP
  have HP := HQ
  clear HQ
  go_wp2_with fail
  refine (wk10 _ _ _ _ HP.out).mono ?_
  rintro _ w12 ⟨rfl, h⟩
  have HQ := Lib.hid h
  clear h HP
  have HP := HQ
  clear HQ
  go_wp2_with fail
  refine (wk11 _ _ _ _ HP.out).mono ?_
  rintro _ w13 ⟨rfl, h⟩
  have HQ := Lib.hid h
  clear h HP
  have HP := HQ
  clear HQ
  have HQ := Lib.hid (HP.out.alloc (.cells #[.int .u8 0, .bool true, .int .u8 8, .bool true, .int .u8 0, .int .u8 0, .string ⟨#[]⟩] TF (0, 0)))
  clear HP
  have HP := HQ
  clear HQ
  go_wp2_with fail
  refine (wk12 _ _ _ _ HP.out).mono ?_
  rintro _ w14 ⟨rfl, h⟩
  have HQ := Lib.hid h
  clear h HP
  have HP := HQ
  clear HQ
  generalize w13.heap.size = bp at HP ⊢
  go_wp2_with fail
  refine (wk13 _ _ _ _ HP.out).mono ?_
  rintro _ w15 ⟨rfl, h⟩
  have HQ := Lib.hid h
  clear h HP
  have HP := HQ
  clear HQ
  obtain ⟨⟨f0, f1, f2, f3, f4, f5, f6⟩, -⟩ := cells7 HP.out.at0
  go_wp2_with fail
  refine (wk14 _ _ _ _ HP.out).mono ?_
  rintro _ w16 ⟨rfl, h⟩
  have HQ := Lib.hid h
  clear h HP
  have HP := HQ
  clear HQ
  clear f0 f1 f2 f3 f4 f5 f6
  go_wp2_with fail
  refine (wk15 _ _ _ _ HP.out).mono ?_
  rintro _ w17 ⟨rfl, h⟩
  have HQ := Lib.hid h
  clear h HP
  have HP := HQ
  clear HQ
  go_wp2
  go_ret
  exact ⟨rfl, HP.out.below⟩
end Go.Proofs.Ytkoaplmlabagnaa.Aq
