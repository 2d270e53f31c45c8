/-
  FcsNear answers true for every bytes ahead and behind, every two bytes, bits and place, and turns nothing that was there. Condition: the table of sixteen numbers lies where the program lays it.
-/
import Derived.Test.YtfkmneohdkjheaaDoorFcsCalls
import Derived.Test.YtfkmneohdkjheaaDoorConv
namespace Go.Proofs.YtfkmneohdkjheaaDoor.fcsNear
open Go.RowKit Go.Proofs.YtfkmneohdkjheaaDoor.Fcs Go.Proofs.YtfkmneohdkjheaaDoor.Base

theorem small (p q : ByteArray) (one two bs fr : Nat) (w : World) (ht : Tab w) (h : 1000 < p.size ∨ 1000 < q.size) :
    Calls Tryd.prog 7 #[.string p, .string q, .int .u8 (one : Int), .int .u8 (two : Int), .int .u8 (bs : Int), .int .u8 (fr : Int)] w fun e w' => e = .returned (.bool true) ∧ Below w.heap.size w w' := by
  have HT := Lib.hid ht
  clear ht
  by_cases h2 : 1000 < p.size
  · clear h
    go_enter Tryd.func7, Tryd.ntmps7
    go_wp2_with (go_at_call 12; ((with_reducible refine (works _ HT.out).mono ?_); rintro e w' ⟨rfl, rfl⟩))
    go_ret
    exact ⟨rfl, Below.refl _ _⟩
  · have h3 : 1000 < q.size := by omega
    clear h
    go_enter Tryd.func7, Tryd.ntmps7
    go_wp2_with (go_at_call 12; ((with_reducible refine (works _ HT.out).mono ?_); rintro e w' ⟨rfl, rfl⟩))
    go_ret
    exact ⟨rfl, Below.refl _ _⟩
theorem near_iff (b f : Nat) (hb : b < 256) (hf : f < 8) : T (T (b * 2 ^ f % 256) ^^^ (b * 2 ^ f / 256)) = 0 ↔ b = 0 := by
  have : ∀ (i : Fin 256) (j : Fin 8), T (T (i.val * 2 ^ j.val % 256) ^^^ (i.val * 2 ^ j.val / 256)) = 0 ↔ i.val = 0 := by decide +kernel
  exact this ⟨b, hb⟩ ⟨f, hf⟩
theorem shifted_lt (b f : Nat) (hb : b < 256) (hf : f < 8) : b * 2 ^ f < 65536 := by
  have : ∀ (j : Fin 8), 2 ^ j.val ≤ 128 := by decide
  have h := this ⟨f, hf⟩
  exact Nat.lt_of_le_of_lt (Nat.mul_le_mul (show b ≤ 255 by omega) h) (by decide)
theorem toNat_of (b : Nat) (h : b < 256) : (UInt8.ofNat b).toNat = b := by rw [UInt8.toNat_ofNat']; exact Nat.mod_eq_of_lt h
/-- The register behind bytes of which some are turned. -/
theorem reg_near (p q : List UInt8) (one two lo hi : Nat) (h1 : one < 256) (h2 : two < 256) (h3 : lo < 256) (h4 : hi < 256) :
    reg (p ++ [UInt8.ofNat (one ^^^ lo), UInt8.ofNat (two ^^^ hi)] ++ q) = reg (p ++ [UInt8.ofNat one, UInt8.ofNat two] ++ q) ^^^ Tn q.length (T (T lo ^^^ hi)) := by
  unfold reg
  rw [regFrom_append, regFrom_append, regFrom_append, regFrom_append]
  generalize regFrom 255 p = r
  have e : regFrom r [UInt8.ofNat (one ^^^ lo), UInt8.ofNat (two ^^^ hi)] = regFrom r [UInt8.ofNat one, UInt8.ofNat two] ^^^ T (T lo ^^^ hi) := by
    show Fcs.step (Fcs.step r (UInt8.ofNat (one ^^^ lo)).toNat) (UInt8.ofNat (two ^^^ hi)).toNat = Fcs.step (Fcs.step r (UInt8.ofNat one).toNat) (UInt8.ofNat two).toNat ^^^ T (T lo ^^^ hi)
    rw [toNat_of _ (xor_lt _ _ h1 h3), toNat_of _ (xor_lt _ _ h2 h4), toNat_of _ h1, toNat_of _ h2]
    unfold Fcs.step
    rw [← Nat.xor_assoc r one lo, T_lin (r ^^^ one) lo, xor4, T_lin]
  rw [e, regFrom_diff]
theorem sum_inj (l m : List UInt8) : sum l = sum m ↔ reg l = reg m := by
  have := reg_lt l
  have := reg_lt m
  unfold sum
  omega
theorem xor_eq_self (a b : Nat) : a = a ^^^ b ↔ b = 0 := by
  constructor
  · intro h
    have := xor_self_left a b
    rw [← h, Nat.xor_self] at this
    exact this.symm
  · intro h; rw [h, Nat.xor_zero]
theorem near (p q : List UInt8) (one two b f : Nat) (h1 : one < 256) (h2 : two < 256) (hb : b < 256) (hf : f < 8) :
    sum (p ++ [UInt8.ofNat one, UInt8.ofNat two] ++ q) = sum (p ++ [UInt8.ofNat (one ^^^ (b * 2 ^ f % 256)), UInt8.ofNat (two ^^^ (b * 2 ^ f / 256))] ++ q) ↔ b = 0 := by
  have hl := shifted_lt b f hb hf
  have h3 : b * 2 ^ f % 256 < 256 := Nat.mod_lt _ (by decide)
  have h4 : b * 2 ^ f / 256 < 256 := by omega
  rw [sum_inj, reg_near p q one two _ _ h1 h2 h3 h4, xor_eq_self, Tn_zero_iff _ _ (T_lt _ (xor_lt _ _ (T_lt _ h3) h4)), near_iff b f hb hf]
/-- All that the walk needs of the two rows. -/
theorem rows (p q : ByteArray) (one two b f : Nat) (h1 : one < 256) (h2 : two < 256) (hb : b < 256) (hf : f < 8) (hp : p.size ≤ 1000) (hq : q.size ≤ 1000) (o1 o2 : Nat) (e1 : o1 = one ^^^ (b * 2 ^ f % 256)) (e2 : o2 = two ^^^ (b * 2 ^ f / 256)) :
    ∃ sS sT : Nat, sS < 256 ∧ sT < 256 ∧ ((sS : Int) == (sT : Int)) = ((b : Int) == 0) ∧
      Hid (∀ w, Tab w → Calls Tryd.prog 13 #[.string (p ++ ⟨#[UInt8.ofNat one, UInt8.ofNat two]⟩ ++ q)] w fun e w' => e = .returned (.int .u8 (sS : Int)) ∧ w = w') ∧
      Hid (∀ w, Tab w → Calls Tryd.prog 13 #[.string (p ++ ⟨#[UInt8.ofNat o1, UInt8.ofNat o2]⟩ ++ q)] w fun e w' => e = .returned (.int .u8 (sT : Int)) ∧ w = w') ∧
      Hid (∀ w, Tab w → Calls Tryd.prog 15 #[.string (p ++ ⟨#[UInt8.ofNat one, UInt8.ofNat two]⟩ ++ q ++ ⟨#[UInt8.ofNat sS]⟩)] w fun e w' => e = .returned (.bool true) ∧ w = w') ∧
      Hid (∀ w, Tab w → Calls Tryd.prog 15 #[.string (p ++ ⟨#[UInt8.ofNat o1, UInt8.ofNat o2]⟩ ++ q ++ ⟨#[UInt8.ofNat sS]⟩)] w fun e w' => e = .returned (.bool ((b : Int) == 0)) ∧ w = w') := by
  have hS : (p ++ (⟨#[UInt8.ofNat one, UInt8.ofNat two]⟩ : ByteArray) ++ q).data.toList = p.data.toList ++ [UInt8.ofNat one, UInt8.ofNat two] ++ q.data.toList := by simp
  have hT : (p ++ (⟨#[UInt8.ofNat o1, UInt8.ofNat o2]⟩ : ByteArray) ++ q).data.toList = p.data.toList ++ [UInt8.ofNat o1, UInt8.ofNat o2] ++ q.data.toList := by simp
  have zS : (p ++ (⟨#[UInt8.ofNat one, UInt8.ofNat two]⟩ : ByteArray) ++ q).size ≤ 2002 := by
    rw [ByteArray.size_append, ByteArray.size_append]
    have : (⟨#[UInt8.ofNat one, UInt8.ofNat two]⟩ : ByteArray).size = 2 := rfl
    omega
  have zT : (p ++ (⟨#[UInt8.ofNat o1, UInt8.ofNat o2]⟩ : ByteArray) ++ q).size ≤ 2002 := by
    rw [ByteArray.size_append, ByteArray.size_append]
    have : (⟨#[UInt8.ofNat o1, UInt8.ofNat o2]⟩ : ByteArray).size = 2 := rfl
    omega
  have hn := near p.data.toList q.data.toList one two b f h1 h2 hb hf
  rw [← e1, ← e2, ← hS, ← hT] at hn
  generalize p ++ (⟨#[UInt8.ofNat one, UInt8.ofNat two]⟩ : ByteArray) ++ q = S at *
  generalize p ++ (⟨#[UInt8.ofNat o1, UInt8.ofNat o2]⟩ : ByteArray) ++ q = R at *
  have g : ∀ X : ByteArray, X.size ≤ 2002 → ∀ w, Tab w → Calls Tryd.prog 15 #[.string (X ++ ⟨#[UInt8.ofNat (sum S.data.toList)]⟩)] w fun e w' => e = .returned (.bool (decide (sum S.data.toList = sum X.data.toList))) ∧ w = w' := by
    intro X hX w ht
    have hz : (X ++ (⟨#[UInt8.ofNat (sum S.data.toList)]⟩ : ByteArray)).size ≤ maxLen := by
      rw [ByteArray.size_append]
      have : (⟨#[UInt8.ofNat (sum S.data.toList)]⟩ : ByteArray).size = 1 := rfl
      unfold maxLen; omega
    have h := fgood _ hz w ht
    have e : (X ++ (⟨#[UInt8.ofNat (sum S.data.toList)]⟩ : ByteArray)).data.toList = X.data.toList ++ [UInt8.ofNat (sum S.data.toList)] := by simp
    have hg : goodB (X.data.toList ++ [UInt8.ofNat (sum S.data.toList)]) = decide (sum S.data.toList = sum X.data.toList) := by
      unfold goodB
      rw [Bool.eq_iff_iff, decide_eq_true_iff, decide_eq_true_iff, good_iff, toNat_of _ (sum_lt _)]
    rw [e, hg] at h
    exact h
  have ebool : decide (sum S.data.toList = sum R.data.toList) = ((b : Int) == 0) := by
    rw [Bool.eq_iff_iff, decide_eq_true_iff, hn, beq_iff_eq]
    omega
  refine ⟨sum S.data.toList, sum R.data.toList, sum_lt _, sum_lt _, ?_, Lib.hid fun w ht => fsum S (by unfold maxLen; omega) w ht, Lib.hid fun w ht => fsum R (by unfold maxLen; omega) w ht, Lib.hid fun w ht => ?_, Lib.hid fun w ht => ?_⟩
  · rw [← ebool, Bool.eq_iff_iff, decide_eq_true_iff, beq_iff_eq]
    omega
  · have h := g S zS w ht
    simp only [decide_true] at h
    exact h
  · have h := g R zT w ht
    rw [ebool] at h
    exact h
theorem wrap16 (b f : Nat) (hb : b < 256) : IntKind.u16.wrap ((b : Int) * 2 ^ (f % 8)) = ((b * 2 ^ (f % 8) : Nat) : Int) := by
  have hl := shifted_lt b (f % 8) hb (Nat.mod_lt _ (by decide))
  rw [IntKind.wrap_u16]
  have e : (b : Int) * 2 ^ (f % 8) = ((b * 2 ^ (f % 8) : Nat) : Int) := by simp
  rw [e]
  omega
theorem large (p q : ByteArray) (one two bs fr : Nat) (h1 : one < 256) (h2 : two < 256) (h3 : bs < 256) (w : World) (ht : Tab w) (hp : p.size ≤ 1000) (hq : q.size ≤ 1000) :
    Calls Tryd.prog 7 #[.string p, .string q, .int .u8 (one : Int), .int .u8 (two : Int), .int .u8 (bs : Int), .int .u8 (fr : Int)] w fun e w' => e = .returned (.bool true) ∧ Below w.heap.size w w' := by
  have hf : fr % 8 < 8 := Nat.mod_lt _ (by decide)
  have hl := shifted_lt bs (fr % 8) h3 hf
  have hw := wrap16 bs fr h3
  have he1 : bits .xor .u8 (one : Int) ((bs * 2 ^ (fr % 8) : Nat) % 256 : Int) = ((one ^^^ (bs * 2 ^ (fr % 8) % 256) : Nat) : Int) := u8_xor_nat one _ h1 (Nat.mod_lt _ (by decide))
  have he2 : bits .xor .u8 (two : Int) ((bs * 2 ^ (fr % 8) : Nat) / 256 : Int) = ((two ^^^ (bs * 2 ^ (fr % 8) / 256) : Nat) : Int) := u8_xor_nat two _ h2 (Nat.div_lt_of_lt_mul hl)
  obtain ⟨o1, ho1⟩ : ∃ o1, o1 = one ^^^ (bs * 2 ^ (fr % 8) % 256) := ⟨_, rfl⟩
  obtain ⟨o2, ho2⟩ : ∃ o2, o2 = two ^^^ (bs * 2 ^ (fr % 8) / 256) := ⟨_, rfl⟩
  obtain ⟨sS, sT, b1, b2, hbool, C1, C2, C3, C4⟩ := rows p q one two bs (fr % 8) h1 h2 h3 hf hp hq o1 o2 ho1 ho2
  rw [← ho1] at he1
  rw [← ho2] at he2
  clear ho1 ho2
  generalize bs * 2 ^ (fr % 8) = tt at *
  have H1 := Lib.hid (tab_below ht ((Below.refl _ _).alloc (Nat.le_refl _) (.cells #[.int .u8 (one : Int), .int .u8 (two : Int)] 5)))
  have H2 := Lib.hid (tab_below H1.out ((Below.refl _ _).alloc (Nat.le_refl _) (.cells #[.int .u8 (o1 : Int), .int .u8 (o2 : Int)] 5)))
  have H3 := Lib.hid (tab_below H2.out ((Below.refl _ _).alloc (Nat.le_refl _) (.cells #[.int .u8 (sS : Int)] 5)))
  clear ht
  have hc1 := conv_two w one two
  have hc2 := conv_two (w.alloc (.cells #[.int .u8 (one : Int), .int .u8 (two : Int)] 5)) o1 o2
  have hc3 := conv_one ((w.alloc (.cells #[.int .u8 (one : Int), .int .u8 (two : Int)] 5)).alloc (.cells #[.int .u8 (o1 : Int), .int .u8 (o2 : Int)] 5)) sS
  have z1 : ∀ (w : World) o, (w.alloc o).heap.size = w.heap.size + 1 := fun w o => by show (w.heap.push o).size = _; simp
  rw [z1] at hc2
  rw [z1, z1] at hc3
  clear z1
  go_enter Tryd.func7, Tryd.ntmps7
  go_wp2_with (first
    | (go_at_call 13; ((with_reducible refine (C1.out _ H2.out).mono ?_); rintro e w' ⟨rfl, rfl⟩))
    | (go_at_call 13; ((with_reducible refine (C1.out _ H3.out).mono ?_); rintro e w' ⟨rfl, rfl⟩))
    | (go_at_call 13; ((with_reducible refine (C2.out _ H3.out).mono ?_); rintro e w' ⟨rfl, rfl⟩))
    | (go_at_call 15; ((with_reducible refine (C3.out _ H3.out).mono ?_); rintro e w' ⟨rfl, rfl⟩))
    | (go_at_call 15; ((with_reducible refine (C4.out _ H3.out).mono ?_); rintro e w' ⟨rfl, rfl⟩))
    | (go_at_call 12; ((with_reducible refine (works _ H3.out).mono ?_); rintro e w' ⟨rfl, rfl⟩)))
  go_ret
  exact ⟨rfl, (((Below.refl _ _).alloc (Nat.le_refl _) _).alloc (by simp) _).alloc (by simp; omega) _⟩
theorem law (p : ByteArray) (_hp : p.size ≤ maxLen) (q : ByteArray) (_hq : q.size ≤ maxLen) (one : Nat) (h1 : one < 256) (two : Nat) (h2 : two < 256) (bs : Nat) (h3 : bs < 256) (fr : Nat) (_h4 : fr < 256) (w : World) (ht : Tab w) :
    Calls Tryd.prog 7 #[.string p, .string q, .int .u8 (one : Int), .int .u8 (two : Int), .int .u8 (bs : Int), .int .u8 (fr : Int)] w fun e w' => e = .returned (.bool true) ∧ Below w.heap.size w w' := by
  by_cases h : 1000 < p.size ∨ 1000 < q.size
  · exact small p q one two bs fr w ht h
  · exact large p q one two bs fr h1 h2 h3 w ht (by omega) (by omega)
end Go.Proofs.YtfkmneohdkjheaaDoor.fcsNear
