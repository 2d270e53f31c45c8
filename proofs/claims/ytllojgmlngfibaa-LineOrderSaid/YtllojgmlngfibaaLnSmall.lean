/-
  What each kind of damage answers, but for an insertion. Conditions: at most a million bytes; the number lies between 0 and 255.
-/
import Derived.Test.YtllojgmlngfibaaLnDel
import Derived.Test.YtllojgmlngfibaaLnInsert
import Derived.Lib.MinMax
namespace Go.Proofs.Ytllojgmlngfibaa.Ln
open Go.RowKit Go.Proofs.Ytllojgmlngfibaa.Base Go.Proofs.Ytllojgmlngfibaa.Mem
theorem Sl.form {α : Type} {E : TypeId} {enc : α → Value} {w : World} {base : Nat} {v : Value} {l : List α} (h : Sl E enc w base v l) : ∃ oa cap, v = .slice oa l.length cap := by
  rcases h with ⟨rfl, rfl⟩ | ⟨g, off, cap, rfl, _⟩
  · exact ⟨none, 0, rfl⟩
  · exact ⟨_, cap, rfl⟩
section
variable (w : World) (base : Nat) (v : Value) (l : List UInt8) (k : Nat) (i : Int) (b : Nat) (n : Int)
theorem fstay (h : SlB w base v l) :
    Calls Try.prog 18 #[v, .agg #[.int .u8 (k : Int), .int .i64 i, .int .u8 (b : Int), .int .i64 n]] w (Ins w base v l) := by
  have H := Lib.hid h
  clear h
  go_enter Try.func18, Try.ntmps18
  go_wp2
  go_ret
  exact ⟨v, rfl, H.out.below ((Below.refl _ _).alloc (Nat.le_refl _) _), gr_alloc (gr_refl _ _) _⟩
theorem flose :
    Calls Try.prog 22 #[v, .agg #[.int .u8 (k : Int), .int .i64 i, .int .u8 (b : Int), .int .i64 n]] w (Ins w base v []) := by
  go_enter Try.func22, Try.ntmps22
  go_wp2
  go_ret
  exact ⟨_, rfl, sl_nil _ _, gr_alloc (gr_refl _ _) _⟩
set_option maxHeartbeats 1000000 in
theorem fdrop (h : SlB w base v l) (m : Nat) (hm : m ≤ 255) (hl : l.length ≤ 1000000) :
    Calls Try.prog 19 #[v, .agg #[.int .u8 (k : Int), .int .i64 i, .int .u8 (b : Int), .int .i64 (m : Int)]] w (Ins w base v (if i < 0 ∨ (l.length : Int) ≤ i then l else cut l i.toNat (min m (l.length - i.toNat)))) := by
  have H := Lib.hid h
  by_cases h1 : i < 0
  · obtain ⟨oa, cap, hv⟩ := h.form
    have d1 : decide (i < 0) = true := decide_eq_true h1
    rw [if_pos (Or.inl h1)]
    rw [hv] at H ⊢
    clear h hv
    go_enter Try.func19, Try.ntmps19
    go_wp2
    go_ret
    exact ⟨_, rfl, H.out.below ((Below.refl _ _).alloc (Nat.le_refl _) _), gr_alloc (gr_refl _ _) _⟩
  · have d1 : decide (i < 0) = false := decide_eq_false h1
    by_cases h2 : (l.length : Int) ≤ i
    · obtain ⟨oa, cap, hv⟩ := h.form
      have d2 : decide ((l.length : Int) ≤ i) = true := decide_eq_true h2
      rw [if_pos (Or.inr h2)]
      rw [hv] at H ⊢
      clear h hv
      go_enter Try.func19, Try.ntmps19
      go_wp2
      go_ret
      exact ⟨_, rfl, H.out.below ((Below.refl _ _).alloc (Nat.le_refl _) _), gr_alloc (gr_refl _ _) _⟩
    · have d2 : decide ((l.length : Int) ≤ i) = false := decide_eq_false h2
      rw [if_neg (by omega)]
      obtain ⟨a, rfl⟩ : ∃ a : Nat, i = a := ⟨i.toNat, by omega⟩
      rw [Int.toNat_natCast]
      rcases h with ⟨rfl, rfl⟩ | ⟨g, off, cap, rfl, hbg, hR⟩
      · exfalso; simp at h2 <;> omega
      obtain ⟨z, hz⟩ : ∃ z, l.length = z := ⟨_, rfl⟩
      have w1 : IntKind.i64.wrap ((z : Int) - (a : Int)) = ((z - a : Nat) : Int) := by rw [IntKind.wrap_i64]; omega
      have w2 : min (m : Int) ((z - a : Nat) : Int) = ((min m (z - a) : Nat) : Int) := by omega
      obtain ⟨q, hq⟩ : ∃ q, min m (z - a) = q := ⟨_, rfl⟩
      obtain ⟨e, he⟩ : ∃ e, a + q = e := ⟨_, rfl⟩
      have w3 : IntKind.i64.wrap ((a : Int) + (q : Int)) = (e : Int) := by rw [IntKind.wrap_i64]; omega
      rw [hz] at h2 d2 hl H ⊢
      rw [hq] at w2 ⊢
      have CD := Lib.hid (fdelete (w.alloc (.cells #[.int .u8 (k : Int), .int .i64 (a : Int), .int .u8 (b : Int), .int .i64 (m : Int)] 33)) g off cap z a e l hz (hR.below ((Below.refl _ _).alloc (Nat.le_refl _) _)) (by omega) (by omega))
      have HL : Hid ((cut l a q).length = z - (e - a)) := by
        show (cut l a q).length = _
        unfold cut
        rw [List.length_append, List.length_take, List.length_drop]; omega
      have HC : Hid (l.take a ++ l.drop e = cut l a q) := by
        show _ = cut l a q
        unfold cut; rw [he]
      have wr1 : wrap64 ((z : Int) - (a : Int)) = ((z - a : Nat) : Int) := by unfold wrap64; omega
      have wr2 : wrap64 ((a : Int) + (q : Int)) = (e : Int) := by unfold wrap64; omega
      clear hz hq he hR
      go_enter Try.func19, Try.ntmps19
      go_wp2_with (go_at_call 23; ((with_reducible refine CD.out.mono ?_); rintro e2 w2 ⟨rfl, hr, hb2⟩; have HR := Lib.hid hr; have HB := Lib.hid hb2; clear hr hb2))
      go_ret
      refine ⟨_, rfl, Sl.of hbg (by rw [← HC.out]; exact HR.out) HL.out, gr_then (gr_alloc (gr_refl _ _) _) HB.out⟩
theorem val8_of (x : Nat) (h : x < 256) : val8 (UInt8.ofNat x) = .int .u8 (x : Int) := by
  unfold val8
  simp [Nat.mod_eq_of_lt h]
set_option maxHeartbeats 1000000 in
theorem fflip (h : SlB w base v l) (hb8 : b < 256) :
    Calls Try.prog 20 #[v, .agg #[.int .u8 (k : Int), .int .i64 i, .int .u8 (b : Int), .int .i64 n]] w (Ins w base v (if 0 ≤ i ∧ i < (l.length : Int) then turn l i.toNat b else l)) := by
  have H := Lib.hid h
  by_cases h1 : i < 0
  · obtain ⟨oa, cap, hv⟩ := h.form
    have d1 : decide (0 ≤ i) = false := decide_eq_false (by omega)
    have d1' : ¬ 0 ≤ i := by omega
    rw [if_neg (by omega)]
    rw [hv] at H ⊢
    clear h hv
    go_enter Try.func20, Try.ntmps20
    go_wp2
    go_ret
    exact ⟨_, rfl, H.out.below ((Below.refl _ _).alloc (Nat.le_refl _) _), gr_alloc (gr_refl _ _) _⟩
  · have d1 : decide (0 ≤ i) = true := decide_eq_true (by omega)
    have d1' : 0 ≤ i := by omega
    by_cases h2 : (l.length : Int) ≤ i
    · obtain ⟨oa, cap, hv⟩ := h.form
      have d2 : decide (i < (l.length : Int)) = false := decide_eq_false (by omega)
      have d2' : ¬ i < (l.length : Int) := by omega
      rw [if_neg (by omega)]
      rw [hv] at H ⊢
      clear h hv
      go_enter Try.func20, Try.ntmps20
      go_wp2
      go_ret
      exact ⟨_, rfl, H.out.below ((Below.refl _ _).alloc (Nat.le_refl _) _), gr_alloc (gr_refl _ _) _⟩
    · rw [if_pos (by omega)]
      obtain ⟨a, rfl⟩ : ∃ a : Nat, i = a := ⟨i.toNat, by omega⟩
      rw [Int.toNat_natCast]
      rcases h with ⟨rfl, rfl⟩ | ⟨g, off, cap, rfl, hbg, hR⟩
      · exfalso; simp at h2 <;> omega
      obtain ⟨z, hz⟩ : ∃ z, l.length = z := ⟨_, rfl⟩
      have haz : a < z := by omega
      have d2 : decide ((a : Int) < (z : Int)) = true := decide_eq_true (by omega)
      have d2' : (a : Int) < (z : Int) := by omega
      obtain ⟨c, hc⟩ : ∃ c, l.getD a 0 = c := ⟨_, rfl⟩
      obtain ⟨y, hy⟩ : ∃ y, c.toNat = y := ⟨_, rfl⟩
      have hy8 : y < 256 := by rw [← hy]; exact c.toNat_lt
      have hx := u8_xor_nat y b hy8 hb8
      have hgw : g < w.heap.size := hR.lt
      have hcell : w.cell? ⟨g, off + a, none⟩ = some (.int .u8 (y : Int)) := by
        rw [hR.cell a c (by rw [← hc]; simp [List.getD, show a < l.length by omega])]
        unfold val8; rw [hy]
      have hfree : w.frozen? ⟨g, off + a, none⟩ = false := hR.free a (by have := hR.len; omega)
      have HF : Hid (RwB (w.setCell ⟨g, off + a, none⟩ (.int .u8 ((y ^^^ b : Nat) : Int))) g off cap (turn l a b)) := by
        show RwB _ g off cap (turn l a b)
        have h9 := hR.set a (UInt8.ofNat (y ^^^ b)) (by omega)
        rw [val8_of _ (Nat.xor_lt_two_pow (n := 8) hy8 hb8)] at h9
        have e2 : turn l a b = l.set a (UInt8.ofNat (y ^^^ b)) := by unfold turn; rw [hc, hy]
        rw [e2]; exact h9
      have HL : Hid ((turn l a b).length = z) := by show (turn l a b).length = z; unfold turn; rw [List.length_set, hz]
      rw [hz]
      clear hz hc hy hR H h2
      go_enter Try.func20, Try.ntmps20
      go_wp2_with fail
      go_region
      all_goals
        go_wp2
        go_ret
        refine ⟨_, rfl, Sl.of hbg (HF.out.below (((Below.refl _ _).alloc (Nat.le_refl _) _).drew)) HL.out, gr_end (gr_alloc (grown_sc w g (off + a) [_]) _)⟩
end
end Go.Proofs.Ytllojgmlngfibaa.Ln
