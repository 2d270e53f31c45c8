/-
  What the small functions of layer 5, and of the document's own, answer: a limit, the check, may a frame be. Conditions: the bounds of octets; the tables of layers 1 and 3 lie where the program lays them.
-/
import Derived.Test.YthlciaomfpephaaDoorAdvRefUn
import Derived.Test.YthlciaomfpephaaDoorEaAddr
import Derived.Lib.MinMax
namespace Go.Proofs.YthlciaomfpephaaDoor.Adv
open Go.RowKit Go.Proofs.YthlciaomfpephaaDoor.Base Go.Proofs.YthlciaomfpephaaDoor.Ea Go.Proofs.YthlciaomfpephaaDoor.Field Go.Proofs.YthlciaomfpephaaDoor.Basic
theorem flimit (n : Int) (w : World) :
    Calls Tryd.prog 20 #[.int .i64 n] w fun e w' => e = .returned (.int .i64 (room n : Int)) ∧ w = w' := by
  rcases (by omega : n < 0 ∨ (0 ≤ n ∧ n ≤ 128) ∨ 128 < n) with h | ⟨h, h'⟩ | h
  · have HR : Hid (room n = 0) := Lib.hid (if_pos h)
    go_enter Tryd.func20, Tryd.ntmps20
    go_wp2
    go_ret
    exact ⟨ret_int (by rw [HR.out]; omega), rfl⟩
  · have HR : Hid (room n = n.toNat) := Lib.hid (by rw [room, if_neg (by omega), if_neg (by omega)])
    go_enter Tryd.func20, Tryd.ntmps20
    go_wp2
    all_goals go_ret
    all_goals exact ⟨ret_int (by rw [HR.out]; omega), rfl⟩
  · have HR : Hid (room n = 128) := Lib.hid (by rw [room, if_neg (by omega), if_pos h])
    have h1 : ¬ n < 0 := by omega
    have h2 : ¬ n ≤ 128 := by omega
    go_enter Tryd.func20, Tryd.ntmps20
    go_wp2
    all_goals go_ret
    all_goals exact ⟨ret_int (by rw [HR.out]; omega), rfl⟩
/-- What the check is of. -/
def ck (k : Nat) (o : ByteArray) : ByteArray := if k = 5 then o.extract 0 2 else o
theorem ck_two (k a c : Nat) (i : ByteArray) : ck k (two a c ++ i) = ckB k (two a c) i := by
  unfold ck ckB
  split
  · apply bext
    rw [ext_list, app_list]; rfl
  · rfl
theorem fcheck (k : Nat) (o : ByteArray) (ho : o.size ≤ maxLen) (h2 : 2 ≤ o.size) (w : World) (hu : Fcs.Tab w) :
    Calls Tryd.prog 23 #[.int .u8 (k : Int), .string o] w fun e w' => e = .returned (.int .u8 (Fcs.sum (ck k o).data.toList : Int)) ∧ w = w' := by
  have HU := Lib.hid hu
  have HO := Lib.hid ho
  clear hu
  unfold maxLen at ho
  by_cases hk : k = 5
  · have HK : Hid (ck k o = o.extract 0 2) := Lib.hid (if_pos hk)
    have hd : ((k : Int) == 5) = true := by rw [beq_iff_eq]; omega
    have HZ : Hid ((o.extract 0 2).size ≤ maxLen) := Lib.hid (by simp; have := HO.out; omega)
    rw [HK.out]
    clear hk
    go_enter Tryd.func23, Tryd.ntmps23
    go_wp2_with (go_at_call 34; ((with_reducible refine (Fcs.fsum _ HZ.out _ HU.out).mono ?_); rintro e w' ⟨rfl, rfl⟩))
    go_ret
    exact ⟨ret_int (by simp), rfl⟩
  · have HK : Hid (ck k o = o) := Lib.hid (if_neg hk)
    have hd : ((k : Int) == 5) = false := by rw [beq_eq_false_iff_ne]; omega
    rw [HK.out]
    clear hk
    go_enter Tryd.func23, Tryd.ntmps23
    go_wp2_with (go_at_call 34; ((with_reducible refine (Fcs.fsum _ HO.out _ HU.out).mono ?_); rintro e w' ⟨rfl, rfl⟩))
    go_ret
    exact ⟨rfl, rfl⟩
theorem mayBe_no (f : Fr) (hf : f.In) (h : f.mayR = false) (w : World) (ht : Field.Tab w) :
    Calls Tryd.prog 19 #[fv f] w fun e w' => e = .returned (.tuple #[.int .u8 0, .bool false]) ∧ Below w.heap.size w w' := by
  obtain ⟨hd0, hk, hns, hnr⟩ := hf
  have HT := Lib.hid ht
  clear ht
  by_cases hd : f.d ≤ 63
  · have hd1 : decide ((63 : Int) < f.d) = false := by simp; omega
    cases hp : okP f.k f.ns f.nr
    · clear h
      go_enter Tryd.func19, Tryd.ntmps19
      go_wp2_with (first | (go_at_call 24; ((with_reducible refine (fput_no _ _ _ _ hk hns hnr hp _).mono ?_);  rintro e w' ⟨rfl, rfl⟩)))
      go_ret2
      exact ⟨rfl, (Below.refl _ _).alloc (Nat.le_refl _) _⟩
    · cases hm : mayB f.k f.c
      · clear h
        go_enter Tryd.func19, Tryd.ntmps19
        go_wp2_with (first | (go_at_call 24; ((with_reducible refine (fput_ok _ _ _ _ hk hns hnr hp _ ?_).mono ?_); (· exact Field.tab_below HT.out (nest_below w [_])); rintro e w' ⟨rfl, rfl⟩)) | (go_at_call 38; ((with_reducible refine (fmay _ _ hk _).mono ?_); rintro e w' ⟨rfl, rfl⟩)))
        go_ret2
        exact ⟨rfl, (Below.refl _ _).alloc (Nat.le_refl _) _⟩
      · by_cases hi : f.info.size = 0
        · exact absurd h (by simp [Fr.mayR, Fr.may, mayF, hm, hi, hp, hd])
        · have hc : carryB f.k = false := by simpa [Fr.mayR, Fr.may, mayF, hm, hi, hp, hd] using h
          have he : ¬ f.info.toList = [] := toList_ne (by omega)
          have he' : f.info.toList.isEmpty = false := by simpa using he
          clear hi h
          go_enter Tryd.func19, Tryd.ntmps19
          go_wp2_with (first | (go_at_call 24; ((with_reducible refine (fput_ok _ _ _ _ hk hns hnr hp _ ?_).mono ?_); (· exact Field.tab_below HT.out (nest_below w [_])); rintro e w' ⟨rfl, rfl⟩)) | (go_at_call 38; ((with_reducible refine (fmay _ _ hk _).mono ?_); rintro e w' ⟨rfl, rfl⟩)) | (go_at_call 39; ((with_reducible refine (fcarries _ hk _).mono ?_); rintro e w' ⟨rfl, rfl⟩)))
          go_ret2
          exact ⟨rfl, (Below.refl _ _).alloc (Nat.le_refl _) _⟩
  · have hd1 : decide ((63 : Int) < f.d) = true := by simp; omega
    clear h hd
    cases hp : okP f.k f.ns f.nr
    · go_enter Tryd.func19, Tryd.ntmps19
      go_wp2_with (first | (go_at_call 24; ((with_reducible refine (fput_no _ _ _ _ hk hns hnr hp _).mono ?_);  rintro e w' ⟨rfl, rfl⟩)))
      go_ret2
      exact ⟨rfl, (Below.refl _ _).alloc (Nat.le_refl _) _⟩
    · go_enter Tryd.func19, Tryd.ntmps19
      go_wp2_with (first | (go_at_call 24; ((with_reducible refine (fput_ok _ _ _ _ hk hns hnr hp _ ?_).mono ?_); (· exact Field.tab_below HT.out (nest_below w [_])); rintro e w' ⟨rfl, rfl⟩)))
      go_ret2
      exact ⟨rfl, (Below.refl _ _).alloc (Nat.le_refl _) _⟩

theorem mayBe_ok (f : Fr) (hf : f.In) (h : f.mayR = true) (w : World) (ht : Field.Tab w) :
    Calls Tryd.prog 19 #[fv f] w fun e w' => e = .returned (.tuple #[.int .u8 (f.o : Int), .bool true]) ∧ Below w.heap.size w w' := by
  obtain ⟨hd0, hk, hns, hnr⟩ := hf
  have HT := Lib.hid ht
  clear ht
  simp only [Fr.mayR, Fr.may, mayF, Bool.and_eq_true, decide_eq_true_eq, Bool.or_eq_true] at h
  obtain ⟨hd, hp, hm, hi⟩ := h
  have hd1 : decide ((63 : Int) < f.d) = false := by simp; omega
  have HO : Hid (f.o = oct f.k f.pf f.ns f.nr) := Lib.hid (pC_ok _ hp)
  by_cases hz : f.info.size = 0
  · have he : f.info.toList = [] := by rw [ByteArray.toList_eq, nil_of_size hz]
    have he' : f.info.toList.isEmpty = true := by rw [he]; rfl
    clear hz hi
    go_enter Tryd.func19, Tryd.ntmps19
    go_wp2_with (first | (go_at_call 24; ((with_reducible refine (fput_ok _ _ _ _ hk hns hnr hp _ ?_).mono ?_); (· exact Field.tab_below HT.out (nest_below w [_])); rintro e w' ⟨rfl, rfl⟩)) | (go_at_call 38; ((with_reducible refine (fmay _ _ hk _).mono ?_); rintro e w' ⟨rfl, rfl⟩)))
    go_ret2
    exact ⟨by rw [HO.out]; rfl, (Below.refl _ _).alloc (Nat.le_refl _) _⟩
  · have hc : carryB f.k = true := by rcases hi with hi | hi; exact absurd hi hz; exact hi
    have he : ¬ f.info.toList = [] := toList_ne (by omega)
    have he' : f.info.toList.isEmpty = false := by simpa using he
    clear hi hz
    go_enter Tryd.func19, Tryd.ntmps19
    go_wp2_with (first | (go_at_call 24; ((with_reducible refine (fput_ok _ _ _ _ hk hns hnr hp _ ?_).mono ?_); (· exact Field.tab_below HT.out (nest_below w [_])); rintro e w' ⟨rfl, rfl⟩)) | (go_at_call 38; ((with_reducible refine (fmay _ _ hk _).mono ?_); rintro e w' ⟨rfl, rfl⟩)) | (go_at_call 39; ((with_reducible refine (fcarries _ hk _).mono ?_); rintro e w' ⟨rfl, rfl⟩)))
    go_ret2
    exact ⟨by rw [HO.out]; rfl, (Below.refl _ _).alloc (Nat.le_refl _) _⟩
end Go.Proofs.YthlciaomfpephaaDoor.Adv
