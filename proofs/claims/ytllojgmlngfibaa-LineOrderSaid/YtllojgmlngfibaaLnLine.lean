/-
  A line in memory; what New, Pieces, Waits, Apply and the copy of a string answer. Conditions: at most ten damages, ten thousand bytes a text; a thousand million bytes that wait.
-/
import Derived.Test.YtllojgmlngfibaaLnDmgd
import Derived.Test.YtllojgmlngfibaaShelf
namespace Go.Proofs.Ytllojgmlngfibaa.Ln
open Go.RowKit Go.Proofs.Ytllojgmlngfibaa.Base Go.Proofs.Ytllojgmlngfibaa.Mem
/-- The line at pb, in memory from block 'base' on, has these pieces. -/
structure LnAt (w : World) (base pb : Nat) (ps : List (List UInt8)) : Prop where
  obj : ∃ v, w.heap[pb]? = some (.cells #[v] 40) ∧ SlS w base v ps
  lb : base ≤ pb
theorem LnAt.below {w w' : World} {base pb : Nat} {ps : List (List UInt8)} (h : LnAt w base pb ps) (hb : Below w.heap.size w w') : LnAt w' base pb ps := by
  obtain ⟨v, h1, h2⟩ := h.obj
  exact ⟨⟨v, stays h1 hb, h2.below hb⟩, h.lb⟩
theorem ln_ne {w : World} {base pb g : Nat} {v u : Value} {ps : List (List UInt8)} (h : w.heap[pb]? = some (.cells #[u] 40)) (hs : SlS w base v ps) (hg : v.ownBlock = some g) : g ≠ pb := by
  rintro rfl
  rcases hs with ⟨rfl, _⟩ | ⟨g', off, cap, rfl, _, hR⟩
  · cases hg
  · cases hg
    obtain ⟨k, hk⟩ := hR.shape
    unfold World.shape? at hk
    rw [h] at hk
    injection hk with hk
    injection hk with hk _
    exact absurd hk (by decide)
theorem fnew (w : World) : Calls Try.prog 7 #[] w fun e w' => ∃ pb, e = .returned (ptr pb) ∧ LnAt w' w.heap.size pb [] ∧ Below w.heap.size w w' := by
  go_enter Try.func7, Try.ntmps7
  go_wp2
  go_ret
  exact ⟨w.heap.size, rfl, ⟨⟨_, nest w [_] 0 _ rfl, sl_nil _ _⟩, Nat.le_refl _⟩, nest_below w [_]⟩
theorem fpieces_nil (w : World) : Calls Try.prog 13 #[.pointer none] w fun e w' => e = .returned (.int .i64 0) ∧ w' = w := by
  go_enter Try.func13, Try.ntmps13
  go_wp2
  go_ret
  exact ⟨rfl, rfl⟩
theorem fpieces (w : World) (base pb : Nat) (ps : List (List UInt8)) (h : LnAt w base pb ps) : Calls Try.prog 13 #[ptr pb] w fun e w' => e = .returned (.int .i64 (ps.length : Int)) ∧ w' = w := by
  obtain ⟨v, h1, h2⟩ := h.obj
  obtain ⟨oa, cap, hv⟩ := h2.form
  subst hv
  have c0 := cell_of (i := 0) h1 rfl
  clear h1 h2 h
  obtain ⟨n, hn⟩ : ∃ n, ps.length = n := ⟨_, rfl⟩
  rw [hn] at c0 ⊢
  clear hn
  go_enter Try.func13, Try.ntmps13
  go_wp2
  go_ret
  exact ⟨rfl, rfl⟩
theorem fwaits_nil (w : World) : Calls Try.prog 11 #[.pointer none] w fun e w' => e = .returned (.int .i64 0) ∧ w' = w := by
  go_enter Try.func11, Try.ntmps11
  go_wp2
  go_ret
  exact ⟨rfl, rfl⟩
theorem waits_take (ps : List (List UInt8)) (k : Nat) (p : List UInt8) (h : ps[k]? = some p) : waits (ps.take (k + 1)) = waits (ps.take k) + p.length := by
  unfold waits
  rw [List.take_add_one, h]
  simp
theorem waits_take_le (ps : List (List UInt8)) (k : Nat) : waits (ps.take k) ≤ waits ps := by
  unfold waits
  have := congrArg List.length (congrArg List.flatten (List.take_append_drop k ps))
  rw [List.flatten_append, List.length_append] at this
  omega
set_option maxHeartbeats 1000000 in
theorem fwaits (w : World) (base pb : Nat) (ps : List (List UInt8)) (h : LnAt w base pb ps) (hw : waits ps ≤ 1000000000) : Calls Try.prog 11 #[ptr pb] w fun e w' => e = .returned (.int .i64 (waits ps : Int)) ∧ w' = w := by
  obtain ⟨v, h1, h2⟩ := h.obj
  have c0 := cell_of (i := 0) h1 rfl
  clear h1 h
  rcases h2 with ⟨rfl, rfl⟩ | ⟨g, off, cap, rfl, hbg, hR⟩
  · go_enter Try.func11, Try.ntmps11
    go_wp2
    go_loopw [3, 5, 13] (fun s _ i wr => s = .int .i64 0 ∧ i = .int .i64 0 ∧ wr = w) (fun _ _ _ _ => 0)
    case atStart => exact ⟨rfl, rfl, rfl⟩
    case round =>
      obtain ⟨rfl, rfl, rfl⟩ := hrel
      go_wp2
      go_ret
      exact ⟨rfl, rfl⟩
  · obtain ⟨n, hn⟩ : ∃ n, Hid (ps.length = n) := ⟨_, Lib.hid rfl⟩
    have HR := Lib.hid hR
    have HW := Lib.hid hw
    have hn63 : n ≤ 9223372036854775807 := by have h1 := hR.len; have h2 := hR.max; have h3 := hn.out; omega
    rw [hn.out] at c0
    clear hR hw
    go_enter Try.func11, Try.ntmps11
    go_wp2
    go_loopw [3, 5, 13] (fun s _ i wr => ∃ k z : Nat, k ≤ n ∧ s = .int .i64 (z : Int) ∧ i = .int .i64 (k : Int) ∧ wr = w ∧ Hid (waits (ps.take k) = z)) (fun _ _ i _ => n - (intOf i).toNat)
    case atStart => exact ⟨0, 0, Nat.zero_le _, rfl, rfl, rfl, Lib.hid rfl⟩
    case round =>
      obtain ⟨k, z, hk, rfl, rfl, rfl, HZ⟩ := hrel
      by_cases hlt : k < n
      · have t1 : (k : Int) < (n : Int) := by omega
        have t2 : decide ((k : Int) < (n : Int)) = true := decide_eq_true t1
        have hlt2 : k < ps.length := by rw [hn.out]; exact hlt
        obtain ⟨p, hp⟩ : ∃ p, ps[k]? = some p := ⟨ps[k], List.getElem?_eq_getElem hlt2⟩
        have c1 := HR.out.cell k p hp
        unfold valS at c1
        have h3 := waits_take ps k p hp
        have h4 := waits_take_le ps (k + 1)
        have h5 := HZ.out
        have h6 := HW.out
        obtain ⟨y, hy⟩ : ∃ y, p.length = y := ⟨_, rfl⟩
        have hs : (⟨p.toArray⟩ : ByteArray).size = y := by rw [← hy]; show p.toArray.size = _; simp
        obtain ⟨S, hS⟩ : ∃ S : ByteArray, S = ⟨p.toArray⟩ := ⟨_, rfl⟩
        rw [← hS] at hs c1
        have HN : Hid (waits (ps.take (k + 1)) = z + y) := by show _ = _; omega
        have hz : IntKind.i64.wrap ((z : Int) + (y : Int)) = (z : Int) + (y : Int) := by rw [IntKind.wrap_i64]; omega
        clear h3 h4 h5 h6 hS hp hy hlt2
        go_wp2
        go_roundw
        case rel => exact ⟨k + 1, z + y, by omega, by go_num, by go_num, by first | rfl | trivial, HN⟩
        case measure => simp [intOf]; omega
      · obtain rfl : k = n := by omega
        have t1 : ¬ (k : Int) < (k : Int) := by omega
        have HF : Hid (waits ps = z) := by
          show waits ps = z
          rw [← HZ.out, List.take_of_length_le (by rw [hn.out]; exact Nat.le_refl _)]
        go_wp2
        go_ret
        exact ⟨by rw [HF.out]; rfl, rfl⟩
theorem fclone (s : ByteArray) (w : World) (hs : s.size ≤ 1000000000) : Calls Try.prog 15 #[.string s] w fun e w' => e = .returned (.string s) ∧ Below w.heap.size w w' := by
  have hc := Lib.hid (Try.stringslite_Clone s w (by omega))
  clear hs
  go_enter Try.func15, Try.ntmps15
  go_wp2_with (go_at_call 17; ((with_reducible refine hc.out.mono ?_); rintro e w1 ⟨rfl, hb⟩; have HB := Lib.hid hb; clear hb))
  go_ret
  exact ⟨rfl, HB.out⟩
/-- One damage that was just laid. -/
theorem arg_one (w1 : World) (d : Dm) (hd : DFits d) (b : Nat) (h : w1.heap[b]? = some (.cells #[.int .u8 (d.k : Int), .int .i64 d.i, .int .u8 (d.b : Int), .int .i64 d.n] 33)) : ArgS 4 dc DFits w1 (some ⟨b, 0, none⟩) 1 (fun _ => d) :=
  ⟨fun _ => ⟨_, rfl, lt_heap h⟩, fun _ _ => hd, fun a ha k hk j hj => by
    cases ha
    obtain rfl : k = 0 := by omega
    rw [add_off, add_off, Nat.zero_mul]
    match j, hj with
    | 0, _ => exact cell_of h rfl
    | 1, _ => exact cell_of h rfl
    | 2, _ => exact cell_of h rfl
    | 3, _ => exact cell_of h rfl⟩
set_option maxHeartbeats 1000000 in
theorem fapply (l : List UInt8) (hl : l.length ≤ 10000) (d : Dm) (hd : DFits d) (w : World) :
    Calls Try.prog 9 #[.string ⟨l.toArray⟩, .agg #[.int .u8 (d.k : Int), .int .i64 d.i, .int .u8 (d.b : Int), .int .i64 d.n]] w fun e w' => e = .returned (.string ⟨(dmg d l).toArray⟩) ∧ Below w.heap.size w w' := by
  obtain ⟨p, hp⟩ : ∃ p, Hid (dmg d l = p) := ⟨_, Lib.hid rfl⟩
  rw [hp.out]
  have hnb := nest_below w [.cells #[.int .u8 (d.k : Int), .int .i64 d.i, .int .u8 (d.b : Int), .int .i64 d.n] 33, .cells #[.int .u8 (d.k : Int), .int .i64 d.i, .int .u8 (d.b : Int), .int .i64 d.n] 33]
  have HNB : Hid (Below w.heap.size w ((w.alloc (.cells #[.int .u8 (d.k : Int), .int .i64 d.i, .int .u8 (d.b : Int), .int .i64 d.n] 33)).alloc (.cells #[.int .u8 (d.k : Int), .int .i64 d.i, .int .u8 (d.b : Int), .int .i64 d.n] 33))) := hnb
  have CD : Hid (Calls Try.prog 14 #[.string ⟨l.toArray⟩, .slice (some ⟨w.heap.size + 1, 0, none⟩) 1 1] ((w.alloc (.cells #[.int .u8 (d.k : Int), .int .i64 d.i, .int .u8 (d.b : Int), .int .i64 d.n] 33)).alloc (.cells #[.int .u8 (d.k : Int), .int .i64 d.i, .int .u8 (d.b : Int), .int .i64 d.n] 33)) fun e w' => e = .returned (.string ⟨p.toArray⟩) ∧ Below w.heap.size w w') := by
    have hA := arg_one ((w.alloc (.cells #[.int .u8 (d.k : Int), .int .i64 d.i, .int .u8 (d.b : Int), .int .i64 d.n] 33)).alloc (.cells #[.int .u8 (d.k : Int), .int .i64 d.i, .int .u8 (d.b : Int), .int .i64 d.n] 33)) d hd (w.heap.size + 1) (nest w [_, _] 1 _ rfl)
    have := fdamaged l (some ⟨w.heap.size + 1, 0, none⟩) 1 1 (fun _ => d) _ hA (by decide) hl
    refine this.mono ?_
    rintro e w' ⟨rfl, hb⟩
    refine ⟨?_, below_on HNB.out hb⟩
    have e1 : dmgs (ds (fun _ => d) 1) l = p := by rw [← hp.out]; rfl
    rw [e1]
  clear hnb hl
  go_enter Try.func9, Try.ntmps9
  go_wp2_with (go_at_call 14; ((with_reducible refine CD.out.mono ?_); rintro e w1 ⟨rfl, hb⟩; have HB := Lib.hid hb; clear hb))
  go_ret
  exact ⟨rfl, HB.out⟩
end Go.Proofs.Ytllojgmlngfibaa.Ln
