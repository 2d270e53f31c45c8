/-
  What layer 5's own small functions answer: may an octet not stand as it is; octets, written behind a slice of the call's own; Stuff. Condition: at most 300000 octets.
-/
import Derived.Test.YthlciaomfpephaaDoorOwn
import Derived.Test.YthlciaomfpephaaDoorAdvMath
namespace Go.Proofs.YthlciaomfpephaaDoor.Adv
open Go.RowKit Go.Proofs.YthlciaomfpephaaDoor.Base Go.Proofs.YthlciaomfpephaaDoor.Ea Go.Proofs.YthlciaomfpephaaDoor.Field Go.Proofs.YthlciaomfpephaaDoor.Basic
theorem isSpecial (c : Nat) (w : World) :
    Calls Tryd.prog 40 #[.int .u8 (c : Int)] w fun e w' => e = .returned (.bool (isSp c)) ∧ w = w' := by
  by_cases h : c = 126
  · have h1 : ((c : Int) == 126) = true := by rw [beq_iff_eq]; omega
    have HR : Hid (isSp c = true) := Lib.hid (by simp [isSp, h])
    clear h
    go_enter Tryd.func40, Tryd.ntmps40
    go_wp2
    go_ret
    exact ⟨ret_bool HR.out.symm, rfl⟩
  · have h1 : ((c : Int) == 126) = false := by rw [beq_eq_false_iff_ne]; omega
    have HR : Hid (isSp c = ((c : Int) == 125)) := Lib.hid (by simp only [isSp, h, decide_false, Bool.false_or]; rw [Bool.eq_iff_iff]; simp; omega)
    clear h
    go_enter Tryd.func40, Tryd.ntmps40
    go_wp2
    go_ret
    exact ⟨ret_bool HR.out.symm, rfl⟩
theorem special126 (w : World) : Calls Tryd.prog 40 #[.int .u8 126] w fun e w' => e = .returned (.bool true) ∧ w = w' := isSpecial 126 w
theorem special125 (w : World) : Calls Tryd.prog 40 #[.int .u8 125] w fun e w' => e = .returned (.bool true) ∧ w = w' := isSpecial 125 w
theorem special_no {c : UInt8} (h : c ≠ 126) (h1 : c ≠ 125) (w : World) : Calls Tryd.prog 40 #[.int .u8 (c.toNat : Int)] w fun e w' => e = .returned (.bool false) ∧ w = w' := by
  have e : isSp c.toNat = false := by
    have h' : c.toNat ≠ 126 := fun k => h (UInt8.toNat_inj.1 k)
    have h1' : c.toNat ≠ 125 := fun k => h1 (UInt8.toNat_inj.1 k)
    simp [isSp, h', h1']
  have p := isSpecial c.toNat w
  rw [e] at p
  exact p
/-- Where a slice of the call's own lies. -/
def Lies (w : World) (v v' : Value) : Prop := v'.ownBlock = v.ownBlock ∨ ∀ k, v'.ownBlock = some k → w.heap.size ≤ k
theorem Lies.ne {w : World} {v v' : Value} {b : Nat} (h : Lies w v v') (hb : b < w.heap.size) (hne : some b ≠ v.ownBlock) : some b ≠ v'.ownBlock := by
  rcases h with h | h
  · rw [h]; exact hne
  · intro e; have := h b e.symm; omega
/-- What a round of writing does. -/
theorem put_step {w wr w1 w2 : World} {v vr v2 : Value} (hl : Lies w v vr) (hg : w.grownBy wr v.ownBlock) (hA : Below wr.heap.size wr w1) (h2 : w1.grownBy w2 vr.ownBlock) (h3 : v2.ownBlock = vr.ownBlock ∨ v2.ownBlock = some w1.heap.size) :
    w.grownBy w2 v.ownBlock ∧ Lies w v v2 := by
  have s1 := hg.size
  have s2 := hA.size
  refine ⟨grown_on (grown_on hg (grown_below hA) (Or.inl rfl)) h2 hl, ?_⟩
  rcases h3 with h3 | h3
  · unfold Lies; rw [h3]; exact hl
  · exact Or.inr fun k hk => by rw [h3] at hk; injection hk with hk; omega
theorem st_take (L : List UInt8) (k : Nat) (h : k < L.length) : st (L.take (k + 1)) = st (L.take k) ++ st1 (L.getD k 0) := by
  rw [List.take_succ_eq_append_getElem h, st_app]
  congr 1
  have : L.getD k 0 = L[k] := by simp [List.getD, h]
  rw [this, st_cons]; simp [st]
theorem st_take_len (L : List UInt8) (k : Nat) : (st (L.take k)).length ≤ 2 * L.length := by
  have h := (st_len (L.take k)).2
  have e : (L.take k).length ≤ L.length := by simp; omega
  omega
set_option maxHeartbeats 1000000 in
theorem put (base : Nat) (v : Value) (l L : List UInt8) (b m c : Nat) (w : World) (hO : Own w base v l) (hb : base ≤ w.heap.size) (hm : L.length = m) (hC : Cells w b L) (hbw : b < w.heap.size) (hne : some b ≠ v.ownBlock) (hz : l.length ≤ 100000) (hL : m ≤ 100000) :
    Calls Tryd.prog 22 #[v, .slice (some ⟨b, 0, none⟩) m c] w fun e w' => ∃ v', e = .returned v' ∧ Own w' base v' (l ++ st L) ∧ w.grownBy w' v.ownBlock ∧ Lies w v v' := by
  have HC := Lib.hid hC
  have HO := Lib.hid hO
  clear hC hO
  go_enter Tryd.func22, Tryd.ntmps22
  go_wp2
  go_loopw [0, 9] (fun t i wr => ∃ k : Nat, k ≤ m ∧ i = .int .i64 (k : Int) ∧ Hid (Own wr base t (l ++ st (L.take k))) ∧ Hid (w.grownBy wr v.ownBlock) ∧ Hid (Lies w v t)) (fun _ i _ => m - (intOf i).toNat)
  case atStart => exact ⟨0, by omega, rfl, Lib.hid (by simpa [st] using HO.out), Lib.hid (grown_refl _ _), Lib.hid (Or.inl rfl)⟩
  case round =>
    obtain ⟨k, hk, rfl, HR, HG, HL⟩ := hrel
    by_cases hlt : k < m
    · have HT := Lib.hid (st_take L k (by omega))
      have HZ : Hid ((st (L.take k)).length ≤ 2 * m) := Lib.hid (by have := st_take_len L k; omega)
      have hcell : wr.cell? ⟨b, k, none⟩ = some (val8 (L.getD k 0)) := (HC.out.grown HG.out hne) k (by omega)
      have hbr := Nat.lt_of_lt_of_le hbw HG.out.size
      obtain ⟨x, hx⟩ : ∃ x, L.getD k 0 = x := ⟨_, rfl⟩
      rw [hx] at hcell HT
      clear hx
      by_cases h6 : x = 126
      · subst h6
        have hc : wr.cell? ⟨b, k, none⟩ = some (.int .u8 126) := hcell
        have hxor : bits .xor .u8 126 32 = 94 := by decide
        clear hcell
        go_wp2_with (first
          | (go_at_call 40; ((with_reducible refine (special126 _).mono ?_); rintro e w' ⟨rfl, rfl⟩))
          | (at_builtin; refine wpList_append_bytes _ rfl _ _ rfl base _ rfl _ (HR.out.alloc _) _ _ _ rfl [125, 94] rfl (fun i hi => by match i, hi with | 0, _ => exact cell_new _ _ _ 0 | 1, _ => exact cell_new _ _ _ 1) (by have := HZ.out; simp only [List.length_append]; omega) (by have := HG.out.size; simp; omega) ?_; intro v2 w2 ho hg hv; obtain ⟨p1, p2⟩ := put_step HL.out HG.out ((Below.refl _ _).alloc (Nat.le_refl _) _) hg hv; have HR2 := Lib.hid ho; have HG2 := Lib.hid p1; have HL2 := Lib.hid p2; clear ho hg hv p1 p2))
        go_roundw
        case rel => exact ⟨k + 1, by omega, by go_num, Lib.hid (by rw [HT.out, ← List.append_assoc]; exact HR2.out), HG2, HL2⟩
        case measure => simp [intOf]; omega
      by_cases h5 : x = 125
      · subst h5
        have hc : wr.cell? ⟨b, k, none⟩ = some (.int .u8 125) := hcell
        have hxor : bits .xor .u8 125 32 = 93 := by decide
        clear hcell
        go_wp2_with (first
          | (go_at_call 40; ((with_reducible refine (special125 _).mono ?_); rintro e w' ⟨rfl, rfl⟩))
          | (at_builtin; refine wpList_append_bytes _ rfl _ _ rfl base _ rfl _ (HR.out.alloc _) _ _ _ rfl [125, 93] rfl (fun i hi => by match i, hi with | 0, _ => exact cell_new _ _ _ 0 | 1, _ => exact cell_new _ _ _ 1) (by have := HZ.out; simp only [List.length_append]; omega) (by have := HG.out.size; simp; omega) ?_; intro v2 w2 ho hg hv; obtain ⟨p1, p2⟩ := put_step HL.out HG.out ((Below.refl _ _).alloc (Nat.le_refl _) _) hg hv; have HR2 := Lib.hid ho; have HG2 := Lib.hid p1; have HL2 := Lib.hid p2; clear ho hg hv p1 p2))
        go_roundw
        case rel => exact ⟨k + 1, by omega, by go_num, Lib.hid (by rw [HT.out, ← List.append_assoc]; exact HR2.out), HG2, HL2⟩
        case measure => simp [intOf]; omega
      · have HN := Lib.hid (special_no h6 h5)
        have HP := Lib.hid (st1_plain h6 h5)
        have hc : wr.cell? ⟨b, k, none⟩ = some (.int .u8 (x.toNat : Int)) := hcell
        clear hcell h5 h6
        go_wp2_with (first
          | (go_at_call 40; ((with_reducible refine (HN.out _).mono ?_); rintro e w' ⟨rfl, rfl⟩))
          | (at_builtin; refine wpList_append_bytes _ rfl _ _ rfl base _ rfl _ (HR.out.alloc _) _ _ _ rfl [x] rfl (fun i hi => by match i, hi with | 0, _ => exact cell_new _ _ _ 0) (by have := HZ.out; simp only [List.length_append]; omega) (by have := HG.out.size; simp; omega) ?_; intro v2 w2 ho hg hv; obtain ⟨p1, p2⟩ := put_step HL.out HG.out ((Below.refl _ _).alloc (Nat.le_refl _) _) hg hv; have HR2 := Lib.hid ho; have HG2 := Lib.hid p1; have HL2 := Lib.hid p2; clear ho hg hv p1 p2))
        go_roundw
        case rel => exact ⟨k + 1, by omega, by go_num, Lib.hid (by rw [HT.out, HP.out, ← List.append_assoc]; exact HR2.out), HG2, HL2⟩
        case measure => simp [intOf]; omega
    · have HE : Hid (L.take k = L) := Lib.hid (List.take_of_length_le (by omega))
      go_wp2
      go_ret
      exact ⟨_, rfl, by rw [← HE.out]; exact HR.out, HG.out, HL.out⟩
end Go.Proofs.YthlciaomfpephaaDoor.Adv
