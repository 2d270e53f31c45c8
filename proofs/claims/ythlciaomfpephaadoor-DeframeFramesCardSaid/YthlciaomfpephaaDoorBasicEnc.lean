/-
  What layer 4's Encode answers. Condition: the tables of layers 1 and 3 lie where the program lays them.
-/
import Derived.Test.YthlciaomfpephaaDoorBasicClos
import Derived.Deep.RegionHeld3
namespace Go.Proofs.YthlciaomfpephaaDoor.Basic
open Go.RowKit Go.Proofs.YthlciaomfpephaaDoor.Base Go.Proofs.YthlciaomfpephaaDoor.Ea Go.Proofs.YthlciaomfpephaaDoor.Field
theorem asks1 {w : World} {H E A a : Nat} {v : Int} (hh : w.cell? ⟨H, 0, none⟩ = some (.func (.func 27) #[] #[ptr A])) (he : w.cell? ⟨E, 0, none⟩ = some (.int .i64 v)) (ha : a < 256) (hA : w.cell? ⟨A, 0, none⟩ = some (.int .u8 (a : Int))) : Asks w H E (if okA a = true then 0 else v) := by
  intro w' hb
  have hc := c1 A a ha w' (cell_below hA hb)
  cases hk : okA a
  · rw [hk] at hc; exact must_no_1 H E v _ w' (cell_below hh hb) (cell_below he hb) hc
  · rw [hk] at hc; exact must_yes_1 H E _ w' (cell_below hh hb) hc
theorem asks2 {w : World} {H E A : Nat} {v p : Int} (hh : w.cell? ⟨H, 0, none⟩ = some (.func (.func 29) #[] #[ptr A])) (he : w.cell? ⟨E, 0, none⟩ = some (.int .i64 v)) (hA : w.cell? ⟨A, 0, none⟩ = some (.int .i64 p)) : Asks w H E (if (p == 0) = true then 0 else v) := by
  intro w' hb
  have hc := c2 A p w' (cell_below hA hb)
  cases hk : (p == 0)
  · rw [hk] at hc; exact must_no_2 H E v _ w' (cell_below hh hb) (cell_below he hb) hc
  · rw [hk] at hc; exact must_yes_2 H E _ w' (cell_below hh hb) hc
theorem asks3 {w : World} {H E F : Nat} {v : Int} {f : Fr} (hf : f.In) (hh : w.cell? ⟨H, 0, none⟩ = some (.func (.func 30) #[] #[ptr F])) (he : w.cell? ⟨E, 0, none⟩ = some (.int .i64 v)) (hF : FrAt w F f) : Asks w H E (if mayF f.k f.c f.info = true then 0 else v) := by
  intro w' hb
  have hc := c3 F f hf w' (hF.below hb)
  cases hk : mayF f.k f.c f.info
  · rw [hk] at hc; exact must_no_3 H E v _ w' (cell_below hh hb) (cell_below he hb) hc
  · rw [hk] at hc; exact must_yes_3 H E _ w' (cell_below hh hb) hc
theorem asks4 {w : World} {H E F N : Nat} {v n1 : Int} {f : Fr} (hl : f.info.size ≤ maxLen) (hn : w.cell? ⟨N, 0, none⟩ = some (.int .i64 n1)) (hh : w.cell? ⟨H, 0, none⟩ = some (.func (.func 32) #[] #[ptr F, ptr N])) (he : w.cell? ⟨E, 0, none⟩ = some (.int .i64 v)) (hF : FrAt w F f) : Asks w H E (if decide (f.info.size ≤ room n1) = true then 0 else v) := by
  intro w' hb
  have hc := c4 F N f n1 hl w' (hF.below hb) (cell_below hn hb)
  cases hk : decide (f.info.size ≤ room n1)
  · rw [hk] at hc; exact must_no_4 H E v _ _ w' (cell_below hh hb) (cell_below he hb) hc
  · rw [hk] at hc; exact must_yes_4 H E _ _ w' (cell_below hh hb) hc
theorem first_e (f : Fr) (ini : Bool) (n1 : Int) : first4 (if okA (addr f.d (f.c == ini)) = true then 0 else 2) (if (((pE f.k f.ns f.nr : Nat) : Int) == 0) = true then 0 else 2) (if mayF f.k f.c f.info = true then 0 else 2) (if decide (f.info.size ≤ room n1) = true then 0 else 3) = (f.e ini n1 : Int) := by
  unfold first4 Fr.e Fr.may Fr.a
  cases okA (addr f.d (f.c == ini)) <;> cases hp : okP f.k f.ns f.nr <;> cases mayF f.k f.c f.info <;> by_cases hl : f.info.size ≤ room n1 <;> simp [pE, hp, hl] <;> (try split) <;> (try rfl) <;> omega
set_option maxHeartbeats 1000000 in
theorem feEnc (f : Fr) (hf : f.In) (ini : Bool) (n1 : Int) (hl : f.info.size ≤ maxLen) (W : World) (b : Nat)
    (hW : ∀ (i : Nat) (o : Obj), ([.cells #[.int .u8 (f.d : Int), .bool f.c, .int .u8 (f.k : Int), .bool f.pf, .int .u8 (f.ns : Int), .int .u8 (f.nr : Int), .string f.info] 30, .cells #[.int .i64 n1] 3, .cells #[.int .u8 ((addr f.d (f.c == ini) : Nat) : Int)] 5, .cells #[.int .i64 ((pE f.k f.ns f.nr : Nat) : Int)] 45, .cells #[.int .i64 2] 45, .cells #[.func (.func 27) #[] #[ptr (b + 2)]] 26, .cells #[.int .i64 2] 45, .cells #[.func (.func 29) #[] #[ptr (b + 3)]] 26, .cells #[.int .i64 2] 45, .cells #[.func (.func 30) #[] #[ptr b]] 26, .cells #[.int .i64 3] 45, .cells #[.func (.func 32) #[] #[ptr b, ptr (b + 1)]] 26, .cells #[.func (.func 43) #[] #[ptr (b + 5), ptr (b + 4)], .func (.func 43) #[] #[ptr (b + 7), ptr (b + 6)], .func (.func 43) #[] #[ptr (b + 9), ptr (b + 8)], .func (.func 43) #[] #[ptr (b + 11), ptr (b + 10)]] 58] : List Obj)[i]? = some o → W.heap[b + i]? = some o) :
    Calls Tryd.prog 25 #[.slice (some ⟨b + 12, 0, none⟩) 4 4] W fun e w' => e = .returned (.int .i64 (f.e ini n1 : Int)) ∧ Below W.heap.size W w' := by
  have hF : FrAt W b f := hW 0 _ rfl
  have hN : W.cell? ⟨b + 1, 0, none⟩ = some (.int .i64 n1) := cell_of (hW 1 _ rfl) rfl
  have hA : W.cell? ⟨b + 2, 0, none⟩ = some (.int .u8 ((addr f.d (f.c == ini) : Nat) : Int)) := cell_of (hW 2 _ rfl) rfl
  have hP : W.cell? ⟨b + 3, 0, none⟩ = some (.int .i64 ((pE f.k f.ns f.nr : Nat) : Int)) := cell_of (hW 3 _ rfl) rfl
  have h := feE (b + 12) (b + 5) (b + 4) (b + 7) (b + 6) (b + 9) (b + 8) (b + 11) (b + 10) _ _ _ _ W (cell_of (hW 12 _ rfl) rfl) (cell_of (hW 12 _ rfl) rfl) (cell_of (hW 12 _ rfl) rfl) (cell_of (hW 12 _ rfl) rfl)
    (asks1 (cell_of (hW 5 _ rfl) rfl) (cell_of (hW 4 _ rfl) rfl) (addr_lt _ _) hA) (asks2 (cell_of (hW 7 _ rfl) rfl) (cell_of (hW 6 _ rfl) rfl) hP) (asks3 hf (cell_of (hW 9 _ rfl) rfl) (cell_of (hW 8 _ rfl) rfl) hF) (asks4 hl hN (cell_of (hW 11 _ rfl) rfl) (cell_of (hW 10 _ rfl) rfl) hF)
  rw [first_e] at h
  exact h
set_option maxHeartbeats 1000000 in
theorem fenc_no (f : Fr) (hf : f.In) (ini : Bool) (n1 : Int) (w : World) (ht : Field.Tab w) (hl : f.info.size ≤ maxLen) (h : f.e ini n1 ≠ 0) :
    Calls Tryd.prog 16 #[fv f, .bool ini, .int .i64 n1] w fun e w' => e = .returned (.tuple #[.string ⟨#[]⟩, .int .i64 (f.e ini n1 : Int)]) ∧ Below w.heap.size w w' := by
  have HF := Lib.hid hf
  obtain ⟨hd, hk, hns, hnr⟩ := hf
  have HT : Hid (Field.Tab w) := Lib.hid ht
  have n0 : ((f.e ini n1 : Int) == 0) = false := by rw [beq_eq_false_iff_ne]; omega
  have n2 : ((f.e ini n1 : Int) != 0) = true := by rw [bne_iff_ne]; omega
  clear ht h
  have HL := Lib.hid hl
  unfold maxLen at hl
  go_enter Tryd.func16, Tryd.ntmps16
  go_wp2_with (first | (go_at_call 21; ((with_reducible refine (address _ hd _ _).mono ?_); rintro e w' ⟨rfl, rfl⟩)) | (go_at_call 24; ((with_reducible refine (fput _ _ _ _ hk hns hnr _ ?_).mono ?_); (· exact Field.tab_below HT.out (nest_below w [_, _, _])); rintro e w' ⟨rfl, rfl⟩)) | (go_at_call 26; ((with_reducible refine (must_any _ _ _ _ _).mono ?_); rintro e w' ⟨rfl, rfl⟩)))
  refine (feEnc f HF.out ini n1 HL.out _ w.heap.size (fun i o h => nest w _ i o h)).mono ?_
  rintro e w1 ⟨rfl, hb⟩
  have HB := Lib.hid (below_on' (nest_below w [_, _, _, _, _, _, _, _, _, _, _, _, _]) hb)
  clear hb
  go_wp2
  go_ret2
  exact ⟨rfl, HB.out⟩
theorem bytes_eq (f : Fr) (ini : Bool) (hd0 : ByteArray) (h : hd0 = f.hd ini) : one 249 ++ hd0 ++ f.info ++ two (Fcs.sum (ckB f.k hd0 f.info).data.toList) 249 = f.bytes ini := by
  subst h
  apply bext
  unfold Fr.bytes Fr.body bdB Fr.x
  simp only [app_list]
  show _ ++ _ ++ _ ++ [UInt8.ofNat _, UInt8.ofNat 249] = _ ++ ((Fr.hd f ini).data.toList ++ _ ++ [UInt8.ofNat _]) ++ [UInt8.ofNat 249]
  simp
set_option maxHeartbeats 1000000 in
theorem fenc_ok (f : Fr) (hf : f.In) (ini : Bool) (n1 : Int) (w : World) (ht : Field.Tab w) (hu : Fcs.Tab w) (hl : f.info.size ≤ maxLen) (h : f.e ini n1 = 0) :
    Calls Tryd.prog 16 #[fv f, .bool ini, .int .i64 n1] w fun e w' => e = .returned (.tuple #[.string (f.bytes ini), .int .i64 0]) ∧ Below w.heap.size w w' := by
  have HF := Lib.hid hf
  obtain ⟨hd, hk, hns, hnr⟩ := hf
  have HT : Hid (Field.Tab w) := Lib.hid ht
  have HU : Hid (Fcs.Tab w) := Lib.hid hu
  have HE := Lib.hid h
  have h128 : f.info.size ≤ 128 := Nat.le_trans (e_ok h).2.2.2 (room_le n1)
  clear ht hu h
  have HL := Lib.hid hl
  clear hl
  go_enter Tryd.func16, Tryd.ntmps16
  go_wp2_with (first | (go_at_call 21; ((with_reducible refine (address _ hd _ _).mono ?_); rintro e w' ⟨rfl, rfl⟩)) | (go_at_call 24; ((with_reducible refine (fput _ _ _ _ hk hns hnr _ ?_).mono ?_); (· exact Field.tab_below HT.out (nest_below w [_, _, _])); rintro e w' ⟨rfl, rfl⟩)) | (go_at_call 26; ((with_reducible refine (must_any _ _ _ _ _).mono ?_); rintro e w' ⟨rfl, rfl⟩)))
  refine (feEnc f HF.out ini n1 HL.out _ w.heap.size (fun i o h => nest w _ i o h)).mono ?_
  rw [HE.out]
  rintro e w1 ⟨rfl, hb⟩
  have HB := Lib.hid (below_on' (nest_below w [_, _, _, _, _, _, _, _, _, _, _, _, _]) hb)
  have HFr : Hid (FrAt w1 w.heap.size f) := Lib.hid (FrAt.below (nest w _ 0 _ rfl : FrAt _ _ _) hb)
  have hA : w1.cell? ⟨w.heap.size + 2, 0, none⟩ = some (.int .u8 ((addr f.d (f.c == ini) : Nat) : Int)) := cell_below (cell_of (nest w _ 2 _ rfl) rfl) hb
  obtain ⟨g0, g1, g2, g3, g4, g5, g6⟩ := HFr.out.cells
  clear hb
  have hcv : ∀ (W : World) (b : Nat), W.cell? ⟨b, 0, none⟩ = some (.int .u8 ((addr f.d (f.c == ini) : Nat) : Int)) → W.cell? ⟨b, 1, none⟩ = some (.int .u8 ((pC f.k f.pf f.ns f.nr : Nat) : Int)) → (convert 42 9 (.slice (some ⟨b, 0, none⟩) 2 2)).run Tryd.prog W = .ok (.string (two (addr f.d (f.c == ini)) (pC f.k f.pf f.ns f.nr))) W := fun W b h0 h1 => conv_at2 W b _ _ h0 h1
  go_wp2
  have hz : (len (f.info.size : Int)).size ≤ 2 := by rw [len_sz _ (by omega)]; split <;> omega
  have hz2 : (two (addr f.d (f.c == ini)) (pC f.k f.pf f.ns f.nr)).size + (len (f.info.size : Int)).size ≤ 9223372036854775807 := by
    show 2 + _ ≤ _
    omega
  go_region_held (fun w' => w'.cell? ⟨w.heap.size + 2, 0, none⟩ = some (.int .u8 ((addr f.d (f.c == ini) : Nat) : Int)) ∧ w'.cell? ⟨w.heap.size, 6, none⟩ = some (.string f.info) ∧ Below w1.heap.size w1 w')
    (first
      | exact ⟨hA, g6, (Below.refl _ _).drew⟩
      | exact ⟨cell_below hA (((Below.refl _ _).alloc (Nat.le_refl _) _).drew), cell_below g6 (((Below.refl _ _).alloc (Nat.le_refl _) _).drew), ((Below.refl _ _).alloc (Nat.le_refl _) _).drew⟩
      | exact ⟨cell_below hA HB2.out, cell_below g6 HB2.out, HB2.out⟩
      | exact ⟨cell_below hA (HB2.out.alloc HB2.out.size _), cell_below g6 (HB2.out.alloc HB2.out.size _), HB2.out.alloc HB2.out.size _⟩)
    (first | (go_at_call 33; ((with_reducible refine (length _ (by omega) _).mono ?_); rintro e w2 ⟨rfl, hb⟩; (first
      | (have k0 := cell_below (w := (w1.alloc (.cells #[.int .u8 ((addr f.d (f.c == ini) : Nat) : Int), .int .u8 ((pC f.k f.pf f.ns f.nr : Nat) : Int)] 5)).drew) (cell_new w1 _ _ 0) hb; have k1 := cell_below (w := (w1.alloc (.cells #[.int .u8 ((addr f.d (f.c == ini) : Nat) : Int), .int .u8 ((pC f.k f.pf f.ns f.nr : Nat) : Int)] 5)).drew) (cell_new w1 _ _ 1) hb; have HB2 := Lib.hid (below_on' (((Below.refl w1.heap.size w1).alloc (Nat.le_refl _) _).drew) hb); clear hb)
      | (have HB2 := Lib.hid (below_on' ((Below.refl w1.heap.size w1).drew) hb); clear hb)))))
  all_goals
    rename_i hX
    obtain ⟨x1, x2, hbx⟩ := hX
    have HX := Lib.hid hbx
    clear x1 x2 hbx hcv hA g0 g1 g2 g3 g4 g5 g6 hz2
    (first | (clear k0 k1; generalize w2 = v at HX ⊢) | generalize w2.alloc (.cells #[.int .u8 ((addr f.d (f.c == ini) : Nat) : Int), .int .u8 ((pC f.k f.pf f.ns f.nr : Nat) : Int)] 5) = v at HX ⊢)
    obtain ⟨g0, g1, g2, g3, g4, g5, g6⟩ := (HFr.out.below HX.out).cells
    have hlt : w.heap.size < v.heap.size := lt_heap (HFr.out.below HX.out)
    have g6' : ∀ o : Obj, (v.alloc o).cell? ⟨w.heap.size, 6, none⟩ = some (.string f.info) := fun o => cell_below g6 ((Below.refl _ _).alloc (Nat.le_refl _) _)
    have HU2 := Lib.hid (Fcs.tab_below HU.out (below_on' HB.out HX.out))
    have hs : (two (addr f.d (f.c == ini)) (pC f.k f.pf f.ns f.nr) ++ len (f.info.size : Int)).size ≤ 4 := by
      rw [ByteArray.size_append]
      show 2 + _ ≤ _
      omega
    have HH : Hid (two (addr f.d (f.c == ini)) (pC f.k f.pf f.ns f.nr) ++ len (f.info.size : Int) = f.hd ini) := Lib.hid rfl
    generalize two (addr f.d (f.c == ini)) (pC f.k f.pf f.ns f.nr) ++ len (f.info.size : Int) = hd0 at hs HH ⊢
    have HCK : Hid ((ckB f.k hd0 f.info).size ≤ maxLen) := Lib.hid (by unfold ckB maxLen; split <;> (try simp only [ByteArray.size_append]) <;> omega)
    have hc1 : ∀ (W : World) (b : Nat), W.cell? ⟨b, 0, none⟩ = some (.int .u8 249) → (convert 42 9 (.slice (some ⟨b, 0, none⟩) 1 1)).run Tryd.prog W = .ok (.string (one 249)) W := fun W b h0 => conv_at1 W b _ h0
    have hc2 : ∀ (W : World) (b : Nat), W.cell? ⟨b, 0, none⟩ = some (.int .u8 ((Fcs.sum (ckB f.k hd0 f.info).data.toList : Nat) : Int)) → W.cell? ⟨b, 1, none⟩ = some (.int .u8 249) → (convert 42 9 (.slice (some ⟨b, 0, none⟩) 2 2)).run Tryd.prog W = .ok (.string (two (Fcs.sum (ckB f.k hd0 f.info).data.toList) 249)) W := fun W b h0 h1 => conv_at2 W b _ _ h0 h1
    have z1 : (one 249).size ≤ 1 := Nat.le_refl _
    have z2 : (two (Fcs.sum (ckB f.k hd0 f.info).data.toList) 249).size ≤ 2 := Nat.le_refl _
    go_wp2_with (first | (go_at_call 35; ((with_reducible refine (checked _ _ _ ?_ _).mono ?_); (· unfold maxLen; omega); rintro e w' ⟨rfl, rfl⟩)) | (go_at_call 34; ((with_reducible refine (Fcs.fsum _ HCK.out _ HU2.out).mono ?_); rintro e w' ⟨rfl, rfl⟩)))
    go_ret2
    exact ⟨ret_si (bytes_eq f ini hd0 HH.out) rfl, below_on' HB.out (below_on' HX.out ((((Below.refl _ _).alloc (Nat.le_refl _) _).alloc (by simp) _)))⟩
end Go.Proofs.YthlciaomfpephaaDoor.Basic
