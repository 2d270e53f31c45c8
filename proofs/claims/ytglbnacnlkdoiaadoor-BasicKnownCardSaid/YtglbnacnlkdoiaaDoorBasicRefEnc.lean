/-
  What the document's own Encode of layer 4 answers. Conditions: octets within their bounds, information of at most 1000 bytes.
-/
import Derived.Test.YtglbnacnlkdoiaaDoorBasicEnc
namespace Go.Proofs.YtglbnacnlkdoiaaDoor.Basic
open Go.RowKit Go.Proofs.YtglbnacnlkdoiaaDoor.Base Go.Proofs.YtglbnacnlkdoiaaDoor.Ea Go.Proofs.YtglbnacnlkdoiaaDoor.Field
theorem body_eq (f : Fr) (ini : Bool) (hd0 : ByteArray) (h : hd0 = f.hd ini) (x : Nat) (hx : x = Fcs.sum (ckB f.k hd0 f.info).data.toList) : hd0 ++ f.info ++ one x = f.body ini := by
  subst h hx
  rfl
set_option maxHeartbeats 2000000 in
theorem rbody (f : Fr) (hf : f.In) (ini : Bool) (hl : f.info.size ≤ 1000) (w : World) :
    Calls Tryd.prog 17 #[fv f, .bool ini] w fun e w' => e = .returned (.string (f.body ini)) ∧ Below w.heap.size w w' := by
  obtain ⟨hd, hk, hns, hnr⟩ := hf
  have hz : (len (f.info.size : Int)).size ≤ 2 := by rw [len_sz _ (by omega)]; split <;> omega
  have hz2 : (two (addr f.d (f.c == ini)) (pC f.k f.pf f.ns f.nr)).size + (len (f.info.size : Int)).size ≤ 9223372036854775807 := by
    show 2 + _ ≤ _
    omega
  by_cases h5 : f.k = 5
  all_goals
    (first | (have c5 : ((f.k : Int) == 5) = true := by rw [beq_iff_eq]; omega) | (have c5 : ((f.k : Int) == 5) = false := by rw [beq_eq_false_iff_ne]; omega))
    have H5 := Lib.hid h5
    clear h5
    go_enter Tryd.func17, Tryd.ntmps17
    go_wp2_with (go_at_call 45; ((with_reducible refine (rput _ _ _ _ hk hns hnr _).mono ?_); rintro e w' ⟨rfl, rfl⟩))
    have hF0 : FrAt (w.alloc (.cells #[.int .u8 (f.d : Int), .bool f.c, .int .u8 (f.k : Int), .bool f.pf, .int .u8 (f.ns : Int), .int .u8 (f.nr : Int), .string f.info] 23)) w.heap.size f := nest w [_] 0 _ rfl
    have HB : Hid (Below w.heap.size w (w.alloc (.cells #[.int .u8 (f.d : Int), .bool f.c, .int .u8 (f.k : Int), .bool f.pf, .int .u8 (f.ns : Int), .int .u8 (f.nr : Int), .string f.info] 23))) := Lib.hid (nest_below w [_])
    generalize w.alloc (.cells #[.int .u8 (f.d : Int), .bool f.c, .int .u8 (f.k : Int), .bool f.pf, .int .u8 (f.ns : Int), .int .u8 (f.nr : Int), .string f.info] 23) = w1 at hF0 HB ⊢
    have HFr := Lib.hid hF0
    obtain ⟨g0, g1, g2, g3, g4, g5, g6⟩ := hF0.cells
    clear hF0
    have hcv : ∀ (W : World) (b : Nat), W.cell? ⟨b, 0, none⟩ = some (.int .u8 ((addr f.d (f.c == ini) : Nat) : Int)) → W.cell? ⟨b, 1, none⟩ = some (.int .u8 ((pC f.k f.pf f.ns f.nr : Nat) : Int)) → (convert 34 9 (.slice (some ⟨b, 0, none⟩) 2 2)).run Tryd.prog W = .ok (.string (two (addr f.d (f.c == ini)) (pC f.k f.pf f.ns f.nr))) W := fun W b h0 h1 => conv_at2 W b _ _ h0 h1
    go_region_held (fun w' => w'.cell? ⟨w.heap.size, 0, none⟩ = some (.int .u8 (f.d : Int)) ∧ w'.cell? ⟨w.heap.size, 1, none⟩ = some (.bool f.c) ∧ w'.cell? ⟨w.heap.size, 6, none⟩ = some (.string f.info) ∧ Below w1.heap.size w1 w')
      (first
        | exact ⟨g0, g1, g6, (Below.refl _ _).drew⟩
        | exact ⟨cell_below g0 (((Below.refl _ _).alloc (Nat.le_refl _) _).drew), cell_below g1 (((Below.refl _ _).alloc (Nat.le_refl _) _).drew), cell_below g6 (((Below.refl _ _).alloc (Nat.le_refl _) _).drew), ((Below.refl _ _).alloc (Nat.le_refl _) _).drew⟩
        | exact ⟨cell_below g0 HB2.out, cell_below g1 HB2.out, cell_below g6 HB2.out, HB2.out⟩
        | exact ⟨cell_below g0 (HB2.out.alloc HB2.out.size _), cell_below g1 (HB2.out.alloc HB2.out.size _), cell_below g6 (HB2.out.alloc HB2.out.size _), HB2.out.alloc HB2.out.size _⟩)
      (first
        | (go_at_call 32; ((with_reducible refine (raddress _ hd _ _).mono ?_); rintro e w' ⟨rfl, rfl⟩))
        | (go_at_call 46; ((with_reducible refine (rlength _ (by omega) _).mono ?_); rintro e w2 ⟨rfl, hb⟩; (first
          | (have k0 := cell_below (w := (w1.alloc (.cells #[.int .u8 ((addr f.d (f.c == ini) : Nat) : Int), .int .u8 ((pC f.k f.pf f.ns f.nr : Nat) : Int)] 5)).drew) (cell_new w1 _ _ 0) hb; have k1 := cell_below (w := (w1.alloc (.cells #[.int .u8 ((addr f.d (f.c == ini) : Nat) : Int), .int .u8 ((pC f.k f.pf f.ns f.nr : Nat) : Int)] 5)).drew) (cell_new w1 _ _ 1) hb; have HB2 := Lib.hid (below_on' (((Below.refl w1.heap.size w1).alloc (Nat.le_refl _) _).drew) hb); clear hb)
          | (have HB2 := Lib.hid (below_on' ((Below.refl w1.heap.size w1).drew) hb); clear hb)))))
    all_goals
      rename_i hX
      obtain ⟨x1, x2, x3, hbx⟩ := hX
      have HX := Lib.hid hbx
      clear x1 x2 x3 hbx hcv g0 g1 g2 g3 g4 g5 g6
      (first | (clear k0 k1; generalize w2 = v at HX ⊢) | generalize w2.alloc (.cells #[.int .u8 ((addr f.d (f.c == ini) : Nat) : Int), .int .u8 ((pC f.k f.pf f.ns f.nr : Nat) : Int)] 5) = v at HX ⊢)
      obtain ⟨g0, g1, g2, g3, g4, g5, g6⟩ := (HFr.out.below HX.out).cells
      have hs : (two (addr f.d (f.c == ini)) (pC f.k f.pf f.ns f.nr) ++ len (f.info.size : Int)).size ≤ 4 := by
        rw [ByteArray.size_append]
        show 2 + _ ≤ _
        omega
      have HH : Hid (two (addr f.d (f.c == ini)) (pC f.k f.pf f.ns f.nr) ++ len (f.info.size : Int) = f.hd ini) := Lib.hid rfl
      generalize two (addr f.d (f.c == ini)) (pC f.k f.pf f.ns f.nr) ++ len (f.info.size : Int) = hd0 at hs HH ⊢
      have C1 : Hid (hd0.size ≤ maxLen) := Lib.hid (by unfold maxLen; omega)
      have C2 : Hid ((hd0 ++ f.info).size ≤ maxLen) := Lib.hid (by rw [ByteArray.size_append]; unfold maxLen; omega)
      have z1 : (one (Fcs.sum hd0.data.toList)).size ≤ 1 := Nat.le_refl _
      have z2 : (one (Fcs.sum (hd0.data.toList ++ f.info.data.toList))).size ≤ 1 := Nat.le_refl _
      have hc1 : ∀ (W : World) (b : Nat), W.cell? ⟨b, 0, none⟩ = some (.int .u8 ((Fcs.sum hd0.data.toList : Nat) : Int)) → (convert 34 9 (.slice (some ⟨b, 0, none⟩) 1 1)).run Tryd.prog W = .ok (.string (one (Fcs.sum hd0.data.toList))) W := fun W b h0 => conv_at1 W b _ h0
      have hc2 : ∀ (W : World) (b : Nat), W.cell? ⟨b, 0, none⟩ = some (.int .u8 ((Fcs.sum (hd0 ++ f.info).data.toList : Nat) : Int)) → (convert 34 9 (.slice (some ⟨b, 0, none⟩) 1 1)).run Tryd.prog W = .ok (.string (one (Fcs.sum (hd0 ++ f.info).data.toList))) W := fun W b h0 => conv_at1 W b _ h0
      go_wp2_with (first | (go_at_call 44; ((with_reducible refine (Fcs.rsum (hd0 ++ f.info) C2.out _).mono ?_); rintro e w' ⟨rfl, rfl⟩)) | (go_at_call 44; ((with_reducible refine (Fcs.rsum hd0 C1.out _).mono ?_); rintro e w' ⟨rfl, rfl⟩)))
      go_ret
      exact ⟨ret_str (body_eq f ini hd0 HH.out _ (by have h5 := H5.out; unfold ckB; first | rw [if_pos h5] | rw [if_neg h5, app_list])), below_on' HB.out (below_on' HX.out ((Below.refl _ _).alloc (Nat.le_refl _) _))⟩
theorem mayR_of {f : Fr} {ini : Bool} (h : okA (f.a ini) = true) : f.mayR = f.may := by
  have : f.d ≤ 63 := by have := dlci_of (d := f.d) (b := f.c == ini) h; omega
  simp [Fr.mayR, this]
theorem okA_may {f : Fr} {ini : Bool} (h : f.mayR = true) : okA (f.a ini) = decide (addr f.d (f.c == ini) ≠ 249) := by
  have hd : f.d ≤ 63 := by simp [Fr.mayR] at h; exact h.1
  have : spK (addr f.d (f.c == ini)) = true := by
    have := (addr_is _ f.d (by omega) (f.c == ini) rfl).2.2
    exact this
  unfold okA Fr.a
  rw [this, Bool.true_and]
/-- What Encode answers, by the document's own tests. -/
theorem e_mayR (f : Fr) (ini : Bool) (n1 : Int) : f.e ini n1 = if f.mayR = true then if addr f.d (f.c == ini) = 249 then 2 else if room n1 < f.info.size then 3 else 0 else 2 := by
  unfold Fr.e
  cases hm : f.mayR
  · rw [if_neg (show ¬ false = true by decide)]
    cases ho : okA (f.a ini)
    · simp
    · rw [mayR_of ho] at hm
      simp [hm]
  · rw [if_pos rfl, okA_may hm]
    have hy : f.may = true := by simp [Fr.mayR] at hm; exact hm.2
    by_cases ha : addr f.d (f.c == ini) = 249
    · simp [ha]
    · simp [ha, hy]
abbrev fO (f : Fr) : Obj := .cells #[.int .u8 (f.d : Int), .bool f.c, .int .u8 (f.k : Int), .bool f.pf, .int .u8 (f.ns : Int), .int .u8 (f.nr : Int), .string f.info] 23
theorem fresh0 {a b : World} {o : Obj} (hb : Below (a.alloc o).heap.size (a.alloc o) b) : b.heap[a.heap.size]? = some o := (hb.block _ (by simp)).trans (nest a [o] 0 o rfl)
theorem on0 {a b : World} {o : Obj} (hb : Below (a.alloc o).heap.size (a.alloc o) b) : Below a.heap.size a b := below_on' ((Below.refl _ _).alloc (Nat.le_refl _) o) hb
set_option maxHeartbeats 1000000 in
theorem renc_no (f : Fr) (hf : f.In) (ini : Bool) (n1 : Int) (_ : f.info.size ≤ 1000) (w : World) (h : f.e ini n1 ≠ 0) :
    Calls Tryd.prog 10 #[fv f, .bool ini, .int .i64 n1] w fun e w' => e = .returned (.tuple #[.string ⟨#[]⟩, .int .i64 (f.e ini n1 : Int)]) ∧ Below w.heap.size w w' := by
  have hr := room_le n1
  have HF := Lib.hid hf
  have hd := hf.d
  rw [e_mayR] at h ⊢
  clear hf
  cases hm : f.mayR
  · rw [if_neg (by decide)]
    clear h
    go_enter Tryd.func10, Tryd.ntmps10
    go_wp2_with (go_at_call 31; ((with_reducible refine (rmayF _ HF.out _).mono ?_); rintro e w1 ⟨rfl, hb⟩; have HB := Lib.hid (on0 hb); clear hb))
    go_ret2
    exact ⟨rfl, HB.out⟩
  · rw [hm, if_pos rfl] at h
    rw [if_pos rfl]
    by_cases ha : addr f.d (f.c == ini) = 249
    · rw [if_pos ha]
      have c0 : (((addr f.d (f.c == ini) : Nat) : Int) == 249) = true := by rw [beq_iff_eq]; omega
      clear ha h
      go_enter Tryd.func10, Tryd.ntmps10
      go_wp2_with (first | (go_at_call 31; ((with_reducible refine (rmayF _ HF.out _).mono ?_); rintro e w1 ⟨rfl, hb⟩; have hF1 : FrAt w1 w.heap.size f := fresh0 hb; obtain ⟨g0, g1, g2, g3, g4, g5, g6⟩ := hF1.cells; have HB := Lib.hid (on0 hb); clear hb hF1)) | (go_at_call 32; ((with_reducible refine (raddress _ hd _ _).mono ?_); rintro e w' ⟨rfl, rfl⟩)))
      go_ret2
      exact ⟨rfl, HB.out⟩
    · rw [if_neg ha] at h ⊢
      have c0 : (((addr f.d (f.c == ini) : Nat) : Int) == 249) = false := by rw [beq_eq_false_iff_ne]; omega
      have hlt : room n1 < f.info.size := by
        by_cases hh : room n1 < f.info.size
        · exact hh
        · rw [if_neg hh] at h; exact absurd rfl h
      rw [if_pos hlt]
      clear ha h
      go_enter Tryd.func10, Tryd.ntmps10
      go_wp2_with (first | (go_at_call 31; ((with_reducible refine (rmayF _ HF.out _).mono ?_); rintro e w1 ⟨rfl, hb⟩; have hF1 : FrAt w1 w.heap.size f := fresh0 hb; obtain ⟨g0, g1, g2, g3, g4, g5, g6⟩ := hF1.cells; have HB := Lib.hid (on0 hb); clear hb hF1)) | (go_at_call 32; ((with_reducible refine (raddress _ hd _ _).mono ?_); rintro e w' ⟨rfl, rfl⟩)))
      go_quiet ((go_at_call 12; exact quiet_left (rroom _ _)))
      go_wp2
      go_ret2
      exact ⟨rfl, below_drewN HB.out _⟩
set_option maxHeartbeats 1000000 in
theorem renc_ok (f : Fr) (hf : f.In) (ini : Bool) (n1 : Int) (hl : f.info.size ≤ 1000) (w : World) (h : f.e ini n1 = 0) :
    Calls Tryd.prog 10 #[fv f, .bool ini, .int .i64 n1] w fun e w' => e = .returned (.tuple #[.string (f.bytes ini), .int .i64 0]) ∧ Below w.heap.size w w' := by
  have hr := room_le n1
  have HF := Lib.hid hf
  have hd := hf.d
  have CB := Lib.hid (rbody f hf ini hl)
  have hle := (e_ok h).2.2.2
  have hbz : (f.body ini).size ≤ 1100 := by
    have := bd_size (f.a ini) f.o (f.x ini) f.info
    have := len_sz f.info.size (by omega)
    show (bdB _ _ _ _).size ≤ _
    split at this <;> omega
  have HBy : Hid ((⟨#[249]⟩ : ByteArray) ++ f.body ini ++ ⟨#[249]⟩ = f.bytes ini) := Lib.hid rfl
  rw [e_mayR] at h
  clear hf
  have hm : f.mayR = true := by
    cases hm : f.mayR
    · rw [hm, if_neg (by decide)] at h; exact absurd h (by decide)
    · rfl
  rw [hm, if_pos rfl] at h
  have ha : ¬ addr f.d (f.c == ini) = 249 := fun ha => by rw [if_pos ha] at h; exact absurd h (by decide)
  have c0 : (((addr f.d (f.c == ini) : Nat) : Int) == 249) = false := by rw [beq_eq_false_iff_ne]; omega
  clear ha h
  generalize f.body ini = bd at CB hbz HBy
  go_enter Tryd.func10, Tryd.ntmps10
  go_wp2_with (first | (go_at_call 31; ((with_reducible refine (rmayF _ HF.out _).mono ?_); rintro e w1 ⟨rfl, hb⟩; have hF1 : FrAt w1 w.heap.size f := fresh0 hb; obtain ⟨g0, g1, g2, g3, g4, g5, g6⟩ := hF1.cells; have HB := Lib.hid (on0 hb); clear hb hF1)) | (go_at_call 32; ((with_reducible refine (raddress _ hd _ _).mono ?_); rintro e w' ⟨rfl, rfl⟩)))
  go_quiet ((go_at_call 12; exact quiet_left (rroom _ _)))
  go_wp2_with (go_at_call 17; ((with_reducible refine (CB.out _).mono ?_); rintro e w2 ⟨rfl, hb⟩; have HB2 := Lib.hid (below_on' (below_drewN HB.out _) hb); clear hb))
  go_ret2
  exact ⟨ret_si HBy.out rfl, HB2.out⟩
end Go.Proofs.YtglbnacnlkdoiaaDoor.Basic
