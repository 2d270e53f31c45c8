/-
  What layer 5's Encode answers. Condition: the tables of layers 1 and 3 lie where the program lays them.
-/
import Derived.Test.YthlciaomfpephaaDoorAdvSmall
namespace Go.Proofs.YthlciaomfpephaaDoor.Adv
open Go.RowKit Go.Proofs.YthlciaomfpephaaDoor.Base Go.Proofs.YthlciaomfpephaaDoor.Ea Go.Proofs.YthlciaomfpephaaDoor.Field Go.Proofs.YthlciaomfpephaaDoor.Basic
theorem fenc_arg (f : Fr) (hf : f.In) (ini : Bool) (n1 : Int) (w : World) (ht : Tabs w) (h : f.mayR = false) :
    Calls Tryd.prog 15 #[fv f, .bool ini, .int .i64 n1] w fun e w' => e = .returned (.tuple #[.string ⟨#[]⟩, .int .i64 2]) ∧ Below w.heap.size w w' := by
  have HF := Lib.hid hf
  have HT := Lib.hid ht
  have HM := Lib.hid h
  clear hf ht h
  go_enter Tryd.func15, Tryd.ntmps15
  go_wp2_with (go_at_call 19; ((with_reducible refine (mayBe_no _ HF.out HM.out _ ?_).mono ?_); (· exact (tabs1 HT.out (Below.refl _ _)).1); rintro e w1 ⟨rfl, hb⟩; have HB := Lib.hid (on0 hb); clear hb))
  go_ret2
  exact ⟨rfl, HB.out⟩
theorem fenc_limit (f : Fr) (hf : f.In) (ini : Bool) (n1 : Int) (w : World) (ht : Tabs w) (h : f.mayR = true) (hn : room n1 < f.info.size) :
    Calls Tryd.prog 15 #[fv f, .bool ini, .int .i64 n1] w fun e w' => e = .returned (.tuple #[.string ⟨#[]⟩, .int .i64 3]) ∧ Below w.heap.size w w' := by
  have HF := Lib.hid hf
  have HT := Lib.hid ht
  have HM := Lib.hid h
  clear hf ht h
  go_enter Tryd.func15, Tryd.ntmps15
  go_wp2_with (go_at_call 19; ((with_reducible refine (mayBe_ok _ HF.out HM.out _ ?_).mono ?_); (· exact (tabs1 HT.out (Below.refl _ _)).1); rintro e w1 ⟨rfl, hb⟩; have hF1 : FrAt w1 w.heap.size f := fresh0 hb; obtain ⟨g0, g1, g2, g3, g4, g5, g6⟩ := hF1.cells; have HB := Lib.hid (on0 hb); clear hb hF1))
  go_quiet ((go_at_call 20; exact quiet_left (flimit _ _)))
  go_wp2
  go_ret2
  exact ⟨rfl, below_drewN HB.out _⟩
theorem own_flag (w : World) (base : Nat) (hb : base ≤ w.heap.size) : Own (w.alloc (.cells #[.int .u8 126] 5)) base (.slice (some ⟨w.heap.size, 0, none⟩) 1 1) [126] := own_lit1 w base hb 126
theorem cells_one (w : World) (a : Nat) (ha : a < 256) : Cells (w.alloc (.cells #[.int .u8 (a : Int)] 5)) w.heap.size [UInt8.ofNat a] := fun i hi => by
  match i, hi with
  | 0, _ =>
    rw [cell_new]
    show some (Value.int .u8 (a : Int)) = some (.int .u8 (((UInt8.ofNat a).toNat : Nat) : Int))
    rw [nat_oct _ ha]
theorem cells_two (w : World) (a c : Nat) (ha : a < 256) (hc : c < 256) : Cells (w.alloc (.cells #[.int .u8 (a : Int), .int .u8 (c : Int)] 5)) w.heap.size [UInt8.ofNat a, UInt8.ofNat c] := fun i hi => by
  match i, hi with
  | 0, _ =>
    rw [cell_new]
    show some (Value.int .u8 (a : Int)) = some (.int .u8 (((UInt8.ofNat a).toNat : Nat) : Int))
    rw [nat_oct _ ha]
  | 1, _ =>
    rw [cell_new]
    show some (Value.int .u8 (c : Int)) = some (.int .u8 (((UInt8.ofNat c).toNat : Nat) : Int))
    rw [nat_oct _ hc]
theorem cells_flag (w : World) : Cells (w.alloc (.cells #[.int .u8 126] 5)) w.heap.size [126] := cells_one w 126 (by decide)
theorem adv_list (f : Fr) (ini : Bool) : (Fr.adv f ini).data.toList = 126 :: (st (Fr.inner f ini).data.toList ++ [126]) := by
  unfold Fr.adv
  rw [app_list, app_list, stB_list]; rfl
theorem enc_bytes (f : Fr) (ini : Bool) (a o y : Nat) (ha : f.a ini = a) (ho : f.o = o) (hy : Fr.y f ini = y) : (⟨([126] ++ st [UInt8.ofNat a, UInt8.ofNat o] ++ st f.info.data.toList ++ st [UInt8.ofNat y] ++ [126]).toArray⟩ : ByteArray) = Fr.adv f ini := by
  apply bext
  rw [adv_list]
  unfold Fr.inner
  rw [ha, ho, hy, inn_list]
  rw [show UInt8.ofNat a :: UInt8.ofNat o :: (f.info.data.toList ++ [UInt8.ofNat y]) = [UInt8.ofNat a, UInt8.ofNat o] ++ f.info.data.toList ++ [UInt8.ofNat y] by simp, st_app, st_app]
  simp
/-- Octets are written behind a slice of the call's own. -/
theorem put_on {W : World} {B : Nat} {v : Value} {l L : List UInt8} {b m c : Nat} (hO : Own W B v l) (hB : B ≤ W.heap.size) (hm : L.length = m) (hC : Cells W b L) (hb : b < W.heap.size) (hne : ∀ k, v.ownBlock = some k → k < b) (hz : l.length ≤ 100000) (hL : m ≤ 100000) :
    Calls Tryd.prog 22 #[v, .slice (some ⟨b, 0, none⟩) m c] W fun e w' => ∃ v', e = .returned v' ∧ Own w' B v' (l ++ st L) ∧ Below B W w' :=
  (put B v l L b m c W hO hB hm hC hb (fun e => by have := hne b e.symm; omega) hz hL).mono fun _ _ ⟨v', h1, h2, h3, _⟩ => ⟨v', h1, h2, (Below.refl B W).grown h3 hB fun k hk => (hO.lt k hk).1⟩
theorem put_head (v : World) (B : Nat) (hB : B ≤ v.heap.size) (a o : Nat) (ha : a < 256) (ho : o < 256) :
    Calls Tryd.prog 22 #[.slice (some ⟨v.heap.size + 1, 0, none⟩) 1 1, .slice (some ⟨v.heap.size + 1 + 1, 0, none⟩) 2 2] (((v.alloc (.cells #[.int .u8 (a : Int), .int .u8 (o : Int)] 5)).alloc (.cells #[.int .u8 126] 5)).alloc (.cells #[.int .u8 (a : Int), .int .u8 (o : Int)] 5)) fun e w' => ∃ v', e = .returned v' ∧ Own w' B v' ([126] ++ st [UInt8.ofNat a, UInt8.ofNat o]) ∧ Below B v w' := by
  have h1 := (own_flag (v.alloc (.cells #[.int .u8 (a : Int), .int .u8 (o : Int)] 5)) B (by simp; omega)).alloc (.cells #[.int .u8 (a : Int), .int .u8 (o : Int)] 5)
  have h2 := cells_two ((v.alloc (.cells #[.int .u8 (a : Int), .int .u8 (o : Int)] 5)).alloc (.cells #[.int .u8 126] 5)) a o ha ho
  have e1 : (v.alloc (.cells #[.int .u8 (a : Int), .int .u8 (o : Int)] 5)).heap.size = v.heap.size + 1 := by simp
  have e2 : ((v.alloc (.cells #[.int .u8 (a : Int), .int .u8 (o : Int)] 5)).alloc (.cells #[.int .u8 126] 5)).heap.size = v.heap.size + 1 + 1 := by simp
  rw [e1] at h1
  rw [e2] at h2
  exact (put_on h1 (by simp; omega) rfl h2 (by simp) (fun k hk => by simp [Value.ownBlock] at hk; omega) (by simp) (by simp)).mono fun _ _ ⟨v', g1, g2, g3⟩ => ⟨v', g1, g2, ((((Below.refl B v).alloc hB _).alloc (by simp; omega) _).alloc (by simp; omega) _).trans g3⟩
theorem put_check {W : World} {B : Nat} {v : Value} {l : List UInt8} (hO : Own W B v l) (hB : B ≤ W.heap.size) (y : Nat) (hy : y < 256) (hz : l.length ≤ 100000) :
    Calls Tryd.prog 22 #[v, .slice (some ⟨W.heap.size, 0, none⟩) 1 1] (W.alloc (.cells #[.int .u8 (y : Int)] 5)) fun e w' => ∃ v', e = .returned v' ∧ Own w' B v' (l ++ st [UInt8.ofNat y]) ∧ Below B W w' :=
  (put_on (hO.alloc _) (by simp; omega) rfl (cells_one W y hy) (by simp) (fun k hk => (hO.lt k hk).2) hz (show 1 ≤ 100000 by decide)).mono fun _ _ ⟨v', g1, g2, g3⟩ => ⟨v', g1, g2, ((Below.refl B W).alloc hB _).trans g3⟩
theorem frAt_belowB {w w' : World} {F B : Nat} {f : Fr} (h : FrAt w F f) (hb : Below B w w') (hF : F < B) : FrAt w' F f := (hb.block F hF).trans h
theorem tabs_belowB {w w' : World} {B : Nat} (h : Tabs w) (hw : w.heap.size ≤ B) (hb : Below B w w') : Tabs w' := tabs_below h (hb.mono hw)
theorem st_le (L : List UInt8) (n : Nat) (h : L.length ≤ n) : (st L).length ≤ 2 * n := by have := (st_len L).2; omega
set_option maxHeartbeats 2000000 in
theorem fenc_ok (f : Fr) (hf : f.In) (ini : Bool) (n1 : Int) (w : World) (ht : Tabs w) (h : f.mayR = true) (hn : f.info.size ≤ room n1) :
    Calls Tryd.prog 15 #[fv f, .bool ini, .int .i64 n1] w fun e w' => e = .returned (.tuple #[.string (Fr.adv f ini), .int .i64 0]) ∧ Below w.heap.size w w' := by
  have hr := room_le n1
  have hz : f.info.size ≤ 128 := by omega
  have hd := hf.d
  have CM := Lib.hid (fun w ht => mayBe_ok f hf h w ht)
  have HT := Lib.hid ht
  have CA := Lib.hid (fun w => address f.d hd (f.c == ini) w)
  obtain ⟨a, ha⟩ : ∃ a, addr f.d (f.c == ini) = a := ⟨_, rfl⟩
  obtain ⟨o, ho⟩ : ∃ o, f.o = o := ⟨_, rfl⟩
  have ha' : a < 256 := by rw [← ha]; exact addr_lt _ _
  have ho' : o < 256 := by rw [← ho]; exact f.o_lt
  rw [ha] at CA
  rw [ho] at CM
  have CC := Lib.hid (fun w ht => fcheck f.k (two a o ++ f.info) (by rw [ByteArray.size_append]; show 2 + _ ≤ _; unfold maxLen; omega) (by rw [ByteArray.size_append]; show 2 ≤ 2 + _; omega) w ht)
  obtain ⟨y, hy⟩ : ∃ y, Fcs.sum (ck f.k (two a o ++ f.info)).data.toList = y := ⟨_, rfl⟩
  rw [hy] at CC
  have hy' : y < 256 := by rw [← hy]; exact Fcs.sum_lt _
  have HE := Lib.hid (enc_bytes f ini a o y ha ho (by unfold Fr.y; rw [← hy, ck_two, show f.a ini = a from ha, ho]))
  have hz2 : (two a o).size = 2 := rfl
  clear hf h ht hy ha ho
  go_enter Tryd.func15, Tryd.ntmps15
  go_wp2_with (go_at_call 19; ((with_reducible refine (CM.out _ ?_).mono ?_); (· exact (tabs1 HT.out (Below.refl _ _)).1); rintro e w1 ⟨rfl, hb⟩; have HF1 : Hid (FrAt w1 w.heap.size f) := Lib.hid (fresh0 hb); obtain ⟨g0, g1, g2, g3, g4, g5, g6⟩ := HF1.out.cells; have HB := Lib.hid (on0 hb); clear hb))
  go_quiet ((go_at_call 20; exact quiet_left (flimit _ _)))
  rename_i nq
  have hB1 : w.heap.size < w1.heap.size := lt_heap HF1.out
  have HF2 : Hid (FrAt (w1.drewN nq) w.heap.size f) := HF1
  have HB2 : Hid (Below w.heap.size w (w1.drewN nq)) := Lib.hid (below_drewN HB.out nq)
  have hv2 : w1.heap.size = (w1.drewN nq).heap.size := rfl
  generalize World.drewN w1 nq = v at HF2 HB2 hv2 ⊢
  rw [hv2] at hB1
  clear g0 g1 g2 g3 g4 g5 g6 hv2 HF1 HB
  obtain ⟨g0, g1, g2, g3, g4, g5, g6⟩ := HF2.out.cells
  have hcv : (convert 42 9 (.slice (some ⟨v.heap.size, 0, none⟩) 2 2)).run Tryd.prog (v.alloc (.cells #[.int .u8 (a : Int), .int .u8 (o : Int)] 5)) = .ok (.string (two a o)) (v.alloc (.cells #[.int .u8 (a : Int), .int .u8 (o : Int)] 5)) := conv_two v a o
  go_wp2_with (first
    | (go_at_call 21; ((with_reducible refine (CA.out _).mono ?_); rintro e w' ⟨rfl, rfl⟩))
    | (go_at_call 22; ((with_reducible refine (put_head v (w.heap.size + 1) (by omega) a o ha' ho').mono ?_); rintro e w2 ⟨v2, rfl, hO, hb⟩; have HO2 := Lib.hid hO; have HV2 := Lib.hid hb; clear hO hb hcv g0 g1 g2 g3 g4 g5 g6; obtain ⟨g0, g1, g2, g3, g4, g5, g6⟩ := (frAt_belowB HF2.out HV2.out (by omega)).cells; have hs2 : w.heap.size + 1 ≤ w2.heap.size := (by have := HV2.out.size; omega); obtain ⟨w3, cap, hcv2, HC3, HB3, HL3⟩ := bytes_new w2 f.info f.info.size rfl))
    | (go_at_call 22; ((with_reducible refine (put_on (HO2.out.below HB3.out) (by have := HB3.out.size; omega) (size_toList f.info) HC3.out HL3.out (fun k hk => (HO2.out.lt k hk).2) (by have := st_le [UInt8.ofNat a, UInt8.ofNat o] 2 (Nat.le_refl _); simp only [List.length_append, List.length_cons, List.length_nil]; omega) (by omega)).mono ?_); rintro e w4 ⟨v4, rfl, hO, hb⟩; have HO4 := Lib.hid hO; have HV4 := Lib.hid (HV2.out.trans ((HB3.out.mono hs2).trans hb)); clear hO hb hcv2 g0 g1 g2 g3 g4 g5 g6; obtain ⟨g0, g1, g2, g3, g4, g5, g6⟩ := (frAt_belowB HF2.out HV4.out (by omega)).cells; have hs4 : w.heap.size + 1 ≤ w4.heap.size := (by have := HV4.out.size; omega)))
    | (go_at_call 23; ((with_reducible refine (CC.out _ ?_).mono ?_); (· exact (tabs_below HT.out (HB2.out.trans (HV4.out.mono (by omega)))).2); rintro e w' ⟨rfl, rfl⟩))
    | (go_at_call 22; ((with_reducible refine (put_check HO4.out hs4 y hy' (by have := st_le [UInt8.ofNat a, UInt8.ofNat o] 2 (Nat.le_refl _); have := st_le f.info.data.toList 128 (by rw [size_toList]; omega); simp only [List.length_append, List.length_cons, List.length_nil]; omega)).mono ?_); rintro e w5 ⟨v5, rfl, hO, hb⟩; have HO5 := Lib.hid hO; have HV5 := Lib.hid (HV4.out.trans hb); clear hO hb g0 g1 g2 g3 g4 g5 g6; have hs5 : w.heap.size + 1 ≤ w5.heap.size := (by have := HV5.out.size; omega)))
    | (at_builtin; refine wpList_append_bytes _ rfl _ _ rfl (w.heap.size + 1) _ rfl _ (HO5.out.alloc _) _ _ _ rfl [126] rfl (cells_flag _) (by have := st_le [UInt8.ofNat a, UInt8.ofNat o] 2 (Nat.le_refl _); have := st_le f.info.data.toList 128 (by rw [size_toList]; omega); have := st_le [UInt8.ofNat y] 1 (Nat.le_refl _); simp only [List.length_append, List.length_cons, List.length_nil]; omega) (by simp; omega) ?_; intro v6 w6 ho hg _; have hcv6 := ho.conv; have HV6 := Lib.hid (((HV5.out).alloc hs5 (.cells #[.int .u8 126] 5)).grown hg (by simp; omega) (fun k hk => (HO5.out.lt k hk).1)); clear ho hg))
  go_ret2
  exact ⟨ret_si ((congrArg (fun l : List UInt8 => (⟨l.toArray⟩ : ByteArray)) (by simp)).trans HE.out) rfl, HB2.out.trans (HV6.out.mono (by omega))⟩
theorem fenc_no (f : Fr) (hf : f.In) (ini : Bool) (n1 : Int) (w : World) (ht : Tabs w) (h : Fr.ae f n1 ≠ 0) :
    Calls Tryd.prog 15 #[fv f, .bool ini, .int .i64 n1] w fun e w' => e = .returned (.tuple #[.string ⟨#[]⟩, .int .i64 (Fr.ae f n1 : Int)]) ∧ Below w.heap.size w w' := by
  cases hm : f.mayR
  · rw [show Fr.ae f n1 = 2 by simp [Fr.ae, hm]]
    exact fenc_arg f hf ini n1 w ht hm
  · by_cases hn : room n1 < f.info.size
    · rw [show Fr.ae f n1 = 3 by simp [Fr.ae, hm, hn]]
      exact fenc_limit f hf ini n1 w ht hm hn
    · exact absurd (show Fr.ae f n1 = 0 by simp [Fr.ae, hm, hn]) h
theorem fenc_yes (f : Fr) (hf : f.In) (ini : Bool) (n1 : Int) (w : World) (ht : Tabs w) (h : Fr.ae f n1 = 0) :
    Calls Tryd.prog 15 #[fv f, .bool ini, .int .i64 n1] w fun e w' => e = .returned (.tuple #[.string (Fr.adv f ini), .int .i64 0]) ∧ Below w.heap.size w w' := by
  obtain ⟨h1, h2, h3, h4⟩ := ae_ok h
  exact fenc_ok f hf ini n1 w ht (by simp [Fr.mayR, Fr.may, h1, h2, h3]) h4
end Go.Proofs.YthlciaomfpephaaDoor.Adv
