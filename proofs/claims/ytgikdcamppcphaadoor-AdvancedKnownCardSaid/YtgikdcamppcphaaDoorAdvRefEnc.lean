/-
  What the document's own Encode of layer 5 answers. Condition: octets within their bounds.
-/
import Derived.Test.YtgikdcamppcphaaDoorAdvEnc
import Derived.Deep.RegionHeld
namespace Go.Proofs.YtgikdcamppcphaaDoor.Adv
open Go.RowKit Go.Proofs.YtgikdcamppcphaaDoor.Base Go.Proofs.YtgikdcamppcphaaDoor.Ea Go.Proofs.YtgikdcamppcphaaDoor.Field Go.Proofs.YtgikdcamppcphaaDoor.Basic
theorem renc_arg (f : Fr) (hf : f.In) (ini : Bool) (n1 : Int) (w : World) (h : f.mayR = false) :
    Calls Tryd.prog 11 #[fv f, .bool ini, .int .i64 n1] w fun e w' => e = .returned (.tuple #[.string ⟨#[]⟩, .int .i64 2]) ∧ Below w.heap.size w w' := by
  have CM : Hid (∀ w, Calls Tryd.prog 23 #[fv f] w fun e w' => e = .returned (.bool false) ∧ Below w.heap.size w w') := Lib.hid (fun w => by have p := rmayF f hf w; rw [h] at p; exact p)
  clear hf h
  go_enter Tryd.func11, Tryd.ntmps11
  go_wp2_with (go_at_call 23; ((with_reducible refine (CM.out _).mono ?_); rintro e w1 ⟨rfl, hb⟩; have HB := Lib.hid (on0 hb); clear hb))
  go_ret2
  exact ⟨rfl, HB.out⟩
theorem renc_limit (f : Fr) (hf : f.In) (ini : Bool) (n1 : Int) (w : World) (h : f.mayR = true) (hn : room n1 < f.info.size) :
    Calls Tryd.prog 11 #[fv f, .bool ini, .int .i64 n1] w fun e w' => e = .returned (.tuple #[.string ⟨#[]⟩, .int .i64 3]) ∧ Below w.heap.size w w' := by
  have CM : Hid (∀ w, Calls Tryd.prog 23 #[fv f] w fun e w' => e = .returned (.bool true) ∧ Below w.heap.size w w') := Lib.hid (fun w => by have p := rmayF f hf w; rw [h] at p; exact p)
  clear hf h
  go_enter Tryd.func11, Tryd.ntmps11
  go_wp2_with (go_at_call 23; ((with_reducible refine (CM.out _).mono ?_); rintro e w1 ⟨rfl, hb⟩; have hF1 : FrAt w1 w.heap.size f := fresh0 hb; obtain ⟨g0, g1, g2, g3, g4, g5, g6⟩ := hF1.cells; have HB := Lib.hid (on0 hb); clear hb hF1))
  go_quiet ((go_at_call 24; exact quiet_left (rlimit _ _)))
  go_wp2
  go_ret2
  exact ⟨rfl, below_drewN HB.out _⟩
theorem one_one (a o : Nat) : one a ++ one o = two a o := bext (by rw [app_list]; rfl)
set_option maxHeartbeats 2000000 in
theorem renc_ok (f : Fr) (hf : f.In) (ini : Bool) (n1 : Int) (w : World) (h : f.mayR = true) (hn : f.info.size ≤ room n1) :
    Calls Tryd.prog 11 #[fv f, .bool ini, .int .i64 n1] w fun e w' => e = .returned (.tuple #[.string (Fr.adv f ini), .int .i64 0]) ∧ Below w.heap.size w w' := by
  have hr := room_le n1
  have hz : f.info.size ≤ 128 := by omega
  have CM : Hid (∀ w, Calls Tryd.prog 23 #[fv f] w fun e w' => e = .returned (.bool true) ∧ Below w.heap.size w w') := Lib.hid (fun w => by have p := rmayF f hf w; rw [h] at p; exact p)
  have CP := Lib.hid (fun w => rput f.k f.ns f.nr f.pf hf.k hf.ns hf.nr w)
  have CA := Lib.hid (fun w => raddress f.d hf.d (f.c == ini) w)
  obtain ⟨a, ha⟩ : ∃ a, addr f.d (f.c == ini) = a := ⟨_, rfl⟩
  obtain ⟨o, ho⟩ : ∃ o, pC f.k f.pf f.ns f.nr = o := ⟨_, rfl⟩
  rw [ha] at CA
  rw [ho] at CP
  have CC := Lib.hid (fun w => rcheck f.k (two a o) f.info (by show 2 + _ ≤ _; unfold maxLen; omega) w)
  obtain ⟨y, hy⟩ : ∃ y, Fcs.sum (ckB f.k (two a o) f.info).data.toList = y := ⟨_, rfl⟩
  rw [hy] at CC
  obtain ⟨hd0, hh⟩ : ∃ hd0, one a ++ one o = hd0 := ⟨_, rfl⟩
  rw [← one_one, hh] at CC
  have HE : Hid ((⟨#[126]⟩ : ByteArray) ++ stB (hd0 ++ f.info ++ one y) ++ ⟨#[126]⟩ = Fr.adv f ini) := Lib.hid (by
    rw [← hh, one_one, ← hy, ← ha, ← ho]; rfl)
  have z0 : hd0.size = 2 := by rw [← hh]; rfl
  obtain ⟨u, hu⟩ : ∃ u, hd0 ++ f.info ++ one y = u := ⟨_, rfl⟩
  rw [hu] at HE
  have z1 : (one a).size = 1 := rfl
  have z2 : (one o).size = 1 := rfl
  have z3 : (one y).size = 1 := rfl
  have z4 : (hd0 ++ f.info).size = 2 + f.info.size := by rw [ByteArray.size_append, z0]
  have zu : u.size ≤ 131 := by rw [← hu, ByteArray.size_append, z4]; show _ + 1 ≤ _; omega
  have zs := (stB_size u).2
  have CS := Lib.hid (fun w => rstuff u (by omega) w)
  obtain ⟨x, hx⟩ : ∃ x, stB u = x := ⟨_, rfl⟩
  rw [hx] at CS HE zs
  clear hf h hy ha ho hx
  go_enter Tryd.func11, Tryd.ntmps11
  go_wp2_with (go_at_call 23; ((with_reducible refine (CM.out _).mono ?_); rintro e w1 ⟨rfl, hb⟩; have HF1 : Hid (FrAt w1 w.heap.size f) := Lib.hid (fresh0 hb); obtain ⟨g0, g1, g2, g3, g4, g5, g6⟩ := HF1.out.cells; have HB := Lib.hid (on0 hb); clear hb))
  go_quiet ((go_at_call 24; exact quiet_left (rlimit _ _)))
  clear g0 g1 g2 g3 g4 g5 g6
  generalize hv : World.drewN _ nq = v
  have HF2 : Hid (FrAt v w.heap.size f) := Lib.hid (by rw [← hv]; exact HF1.out)
  have HB2 : Hid (Below w.heap.size w v) := Lib.hid (by rw [← hv]; exact below_drewN HB.out _)
  clear hv nq HF1 HB
  obtain ⟨g0, g1, g2, g3, g4, g5, g6⟩ := HF2.out.cells
  go_wp2_with (go_at_call 25; ((with_reducible refine (CP.out _).mono ?_); rintro e w' ⟨rfl, rfl⟩))
  go_region_held (fun w' => w'.cell? ⟨w.heap.size, 0, none⟩ = some (.int .u8 (f.d : Int)) ∧ w'.cell? ⟨w.heap.size, 1, none⟩ = some (.bool f.c) ∧ Below v.heap.size v w')
    (first
      | exact ⟨g0, g1, (Below.refl _ _).drew⟩
      | exact ⟨cell_below g0 HBb.out, cell_below g1 HBb.out, HBb.out⟩
      | exact ⟨cell_below g0 HBa.out, cell_below g1 HBa.out, HBa.out⟩)
    (first
      | (go_at_call 28; ((with_reducible refine (rbit5 _ _ _).mono ?_); rintro e w' ⟨rfl, rfl⟩))
      | (go_at_call 27; ((with_reducible refine (CA.out _).mono ?_); rintro e w' ⟨rfl, rfl⟩))
      | (go_at_call 26; ((with_reducible refine (rone _ _).mono ?_); rintro e wb ⟨rfl, hb⟩; have HBb := Lib.hid (below_on' HBa.out hb); clear hb))
      | (go_at_call 26; ((with_reducible refine (rone _ _).mono ?_); rintro e wa ⟨rfl, hb⟩; have HBa := Lib.hid (below_on' ((Below.refl v.heap.size v).drew) hb); clear hb)))
  all_goals
    rename_i hX
    clear hX g0 g1 g2 g3 g4 g5 g6
    obtain ⟨g0, g1, g2, g3, g4, g5, g6⟩ := (HF2.out.below HBb.out).cells
    go_wp2
    go_region_held (fun w' => w'.cell? ⟨w.heap.size, 2, none⟩ = some (.int .u8 (f.k : Int)) ∧ w'.cell? ⟨w.heap.size, 6, none⟩ = some (.string f.info) ∧ Below wb.heap.size wb w')
      (first
        | exact ⟨g2, g6, (Below.refl _ _).drew⟩
        | exact ⟨cell_below g2 HBc.out, cell_below g6 HBc.out, HBc.out⟩)
      (first
        | (go_at_call 29; ((with_reducible refine (CC.out _).mono ?_); rintro e w' ⟨rfl, rfl⟩))
        | (go_at_call 17; ((with_reducible refine (CS.out _).mono ?_); rintro e w' ⟨rfl, rfl⟩))
        | (go_at_call 26; ((with_reducible refine (rone _ _).mono ?_); rintro e wc ⟨rfl, hb⟩; have HBc := Lib.hid (below_on' ((Below.refl wb.heap.size wb).drew) hb); clear hb)))
    all_goals
      go_wp2
      go_ret2
      exact ⟨ret_si HE.out rfl, below_on' (below_on' HB2.out HBb.out) HBc.out⟩
theorem renc_no (f : Fr) (hf : f.In) (ini : Bool) (n1 : Int) (w : World) (h : Fr.ae f n1 ≠ 0) :
    Calls Tryd.prog 11 #[fv f, .bool ini, .int .i64 n1] w fun e w' => e = .returned (.tuple #[.string ⟨#[]⟩, .int .i64 (Fr.ae f n1 : Int)]) ∧ Below w.heap.size w w' := by
  cases hm : f.mayR
  · rw [show Fr.ae f n1 = 2 by simp [Fr.ae, hm]]
    exact renc_arg f hf ini n1 w hm
  · by_cases hn : room n1 < f.info.size
    · rw [show Fr.ae f n1 = 3 by simp [Fr.ae, hm, hn]]
      exact renc_limit f hf ini n1 w hm hn
    · exact absurd (show Fr.ae f n1 = 0 by simp [Fr.ae, hm, hn]) h
theorem renc_yes (f : Fr) (hf : f.In) (ini : Bool) (n1 : Int) (w : World) (h : Fr.ae f n1 = 0) :
    Calls Tryd.prog 11 #[fv f, .bool ini, .int .i64 n1] w fun e w' => e = .returned (.tuple #[.string (Fr.adv f ini), .int .i64 0]) ∧ Below w.heap.size w w' := by
  obtain ⟨h1, h2, h3, h4⟩ := ae_ok h
  exact renc_ok f hf ini n1 w (by simp [Fr.mayR, Fr.may, h1, h2, h3]) h4
end Go.Proofs.YtgikdcamppcphaaDoor.Adv
