/-
  DeframeComes: behind any bytes a frame that is encoded is told, with as many flags ahead as the room and 8. Condition: the tables of layers 1 and 3 lie where the program lays them.
-/
import Derived.Test.YthlciaomfpephaaDoorDfTrueLaw
import Derived.Deep.RegionHeld
namespace Go.Proofs.YthlciaomfpephaaDoor.Df
open Go.RowKit Go.Proofs.YthlciaomfpephaaDoor.Base Go.Proofs.YthlciaomfpephaaDoor.Ea Go.Proofs.YthlciaomfpephaaDoor.Field Go.Proofs.YthlciaomfpephaaDoor.Basic Go.Proofs.YthlciaomfpephaaDoor.Adv
/-- What holds when the flags come: w0 the world behind New. -/
structure ComesAt (D : Nat) (c : Cf) (w0 : World) (k : Nat) (q : St) (wr : World) : Prop where
  at' : ∃ v, DfAt wr D c q v
  good : Good c q
  bad : q.bad ≤ 600 + k
  mu : mu c q ≤ c.room + 4 - k
  tabs : TabsB wr D
  base : Below D w0 wr
theorem ComesAt.next {D : Nat} {c : Cf} {w0 wr w1 : World} {k : Nat} {q : St} {v : Value} {dec : List UInt8 → Fr × Nat} (h : ComesAt D c w0 k q wr) (hq : DfAt wr D c q v) {b : UInt8} (hb : b = flagB c) (hn : Next D c wr v (step c dec q b).1 w1) : ComesAt D c w0 (k + 1) (step c dec q b).1 w1 := by
  have hB := hn.belowD hq
  obtain ⟨v1, d1, -, -⟩ := hn
  subst hb
  refine ⟨⟨v1, d1⟩, good_step h.good dec _, ?_, ?_, h.tabs.next hB (Nat.le_refl _), h.base.trans hB⟩
  · have := bad_step c dec q (flagB c)
    have := h.bad
    omega
  · have := mu_step h.good dec
    have := h.mu
    omega
theorem bytes0 {c : Cf} {f : Fr} (h : 0 < (bytesX c.adv f c.ini).size) : (bytesX c.adv f c.ini)[0] = flagB c := by
  have e := get_list (bytesX c.adv f c.ini) 0 h
  rw [bytesX_list] at e
  simpa using e
theorem bytes_le {c : Cf} {f : Fr} (h : encX c.adv f c.ini c.room = 0) : (bytesX c.adv f c.ini).size ≤ 302 := by
  have e := congrArg List.length (bytesX_list c f)
  have := innX_le h
  rw [size_toList] at e
  simp only [List.length_cons, List.length_append, List.length_nil] at e
  omega
theorem fed_one {D : Nat} {c : Cf} {w w' : World} {v t : Value} {q : St} {f : Fr} (h : Fed D c w v ⟨q, [f], true⟩ t w') : ∃ g cap, t = .slice (some ⟨g, 0, none⟩) 1 cap ∧ w.heap.size ≤ g ∧ g < w'.heap.size ∧ RowAt w' g 0 f := by
  obtain ⟨g, cap, rfl, h1, h2⟩ := h.out.some 1 rfl (by simp)
  exact ⟨g, cap, rfl, h1, h2, h.out.row 0 f rfl⟩
theorem ss_keep {w0 w' : World} {g b : Nat} {f : Fr} (h : w0.cell? ⟨g, 0, none⟩ = some (.int .u8 (f.d : Int)) ∧ w0.cell? ⟨g, 1, none⟩ = some (.bool f.c) ∧ w0.cell? ⟨g, 2, none⟩ = some (.int .u8 (f.k : Int)) ∧ w0.cell? ⟨g, 3, none⟩ = some (.bool f.pf) ∧ w0.cell? ⟨g, 4, none⟩ = some (.int .u8 (f.ns : Int)) ∧ w0.cell? ⟨g, 5, none⟩ = some (.int .u8 (f.nr : Int)) ∧ w0.cell? ⟨g, 6, none⟩ = some (.string f.info) ∧ w0.cell? ⟨b, 0, none⟩ = some (.int .u8 (f.d : Int)) ∧ w0.cell? ⟨b, 1, none⟩ = some (.bool f.c) ∧ w0.cell? ⟨b, 2, none⟩ = some (.int .u8 (f.k : Int)) ∧ w0.cell? ⟨b, 3, none⟩ = some (.bool f.pf) ∧ w0.cell? ⟨b, 4, none⟩ = some (.int .u8 (f.ns : Int)) ∧ w0.cell? ⟨b, 5, none⟩ = some (.int .u8 (f.nr : Int)) ∧ w0.cell? ⟨b, 6, none⟩ = some (.string f.info)) (hb : Below w0.heap.size w0 w') : w'.cell? ⟨g, 0, none⟩ = some (.int .u8 (f.d : Int)) ∧ w'.cell? ⟨g, 1, none⟩ = some (.bool f.c) ∧ w'.cell? ⟨g, 2, none⟩ = some (.int .u8 (f.k : Int)) ∧ w'.cell? ⟨g, 3, none⟩ = some (.bool f.pf) ∧ w'.cell? ⟨g, 4, none⟩ = some (.int .u8 (f.ns : Int)) ∧ w'.cell? ⟨g, 5, none⟩ = some (.int .u8 (f.nr : Int)) ∧ w'.cell? ⟨g, 6, none⟩ = some (.string f.info) ∧ w'.cell? ⟨b, 0, none⟩ = some (.int .u8 (f.d : Int)) ∧ w'.cell? ⟨b, 1, none⟩ = some (.bool f.c) ∧ w'.cell? ⟨b, 2, none⟩ = some (.int .u8 (f.k : Int)) ∧ w'.cell? ⟨b, 3, none⟩ = some (.bool f.pf) ∧ w'.cell? ⟨b, 4, none⟩ = some (.int .u8 (f.ns : Int)) ∧ w'.cell? ⟨b, 5, none⟩ = some (.int .u8 (f.nr : Int)) ∧ w'.cell? ⟨b, 6, none⟩ = some (.string f.info) := by
  obtain ⟨a0, a1, a2, a3, a4, a5, a6, b0, b1, b2, b3, b4, b5, b6⟩ := h
  exact ⟨cell_below a0 hb, cell_below a1 hb, cell_below a2 hb, cell_below a3 hb, cell_below a4 hb, cell_below a5 hb, cell_below a6 hb, cell_below b0 hb, cell_below b1 hb, cell_below b2 hb, cell_below b3 hb, cell_below b4 hb, cell_below b5 hb, cell_below b6 hb⟩
set_option maxHeartbeats 2000000 in
set_option maxRecDepth 100000 in
theorem comes_short (adv ini : Bool) (n1 : Int) (s : ByteArray) (f : Fr) (w : World) (ht : Tabs w) (hs : 600 < s.size ∨ (s.size ≤ 600 ∧ 128 < f.info.size)) :
    Calls Tryd.prog 4 #[rowV adv ini n1, .string s, fv f] w fun e w' => e = .returned (.bool true) ∧ Below w.heap.size w w' := by
  have HT := Lib.hid ht
  clear ht
  rcases hs with h | ⟨h, h2⟩
  · have h1 : decide ((s.size : Int) > 600) = true := by simp; omega
    have h3 : (600 : Int) < (s.size : Int) := by omega
    go_enter Tryd.func4, Tryd.ntmps4
    go_wp2_with (go_at_call 6; ((with_reducible refine (works _ ?_).mono ?_); (· exact tabs2 _ _ HT.out); rintro e w1 ⟨rfl, hb⟩; have HB := Lib.hid (on2 hb); clear hb))
    go_ret
    exact ⟨rfl, HB.out⟩
  · have h1 : decide ((s.size : Int) > 600) = false := by simp; omega
    have h3 : ¬ (600 : Int) < (s.size : Int) := by omega
    have h4 : decide ((f.info.size : Int) > 128) = true := by simp; omega
    have h5 : (128 : Int) < (f.info.size : Int) := by omega
    go_enter Tryd.func4, Tryd.ntmps4
    go_wp2_with (go_at_call 6; ((with_reducible refine (works _ ?_).mono ?_); (· exact tabs2 _ _ HT.out); rintro e w1 ⟨rfl, hb⟩; have HB := Lib.hid (on2 hb); clear hb))
    go_ret
    exact ⟨rfl, HB.out⟩
set_option maxHeartbeats 2000000 in
set_option maxRecDepth 100000 in
theorem comes_none (adv ini : Bool) (n1 : Int) (s : ByteArray) (f : Fr) (hf : f.In) (hl : f.info.size ≤ maxLen) (w : World) (ht : Tabs w) (hs : s.size ≤ 600) (hi : f.info.size ≤ 128) (he : encX adv f ini n1 ≠ 0) :
    Calls Tryd.prog 4 #[rowV adv ini n1, .string s, fv f] w fun e w' => e = .returned (.bool true) ∧ Below w.heap.size w w' := by
  have HT := Lib.hid ht
  have HX : Hid (∀ w, Tabs w → Calls Tryd.prog 8 #[rowV adv ini n1, fv f] w fun e w' => e = .returned (.tuple #[.string ⟨#[]⟩, .bool false]) ∧ Below w.heap.size w w') := Lib.hid (fun w ht => fencoded_not adv f hf hl ini n1 w ht he)
  have h1 : decide ((s.size : Int) > 600) = false := by simp; omega
  have h3 : ¬ (600 : Int) < (s.size : Int) := by omega
  have h4 : decide ((f.info.size : Int) > 128) = false := by simp; omega
  have h5 : ¬ (128 : Int) < (f.info.size : Int) := by omega
  clear ht hf he
  go_enter Tryd.func4, Tryd.ntmps4
  go_wp2_with (first
    | (go_at_call 8; ((with_reducible refine (HX.out _ ?_).mono ?_); (· exact tabs2 _ _ HT.out); rintro e w1 ⟨rfl, hb⟩; have HB := Lib.hid (on2 hb); clear hb))
    | (go_at_call 6; ((with_reducible refine (works _ ?_).mono ?_); (· exact tabs_below HT.out HB.out); rintro e w2 ⟨rfl, hb⟩; have HB2 := Lib.hid (below_on' HB.out hb); clear hb)))
  go_ret
  exact ⟨rfl, HB2.out⟩
set_option maxHeartbeats 800000 in
set_option maxRecDepth 100000 in
theorem comes_yes (adv ini : Bool) (n1 : Int) (s : ByteArray) (f : Fr) (hf : f.In) (hl : f.info.size ≤ maxLen) (w : World) (ht : Tabs w) (hs : s.size ≤ 600) (hi : f.info.size ≤ 128) (he : encX adv f ini n1 = 0) :
    Calls Tryd.prog 4 #[rowV adv ini n1, .string s, fv f] w fun e w' => e = .returned (.bool true) ∧ Below w.heap.size w w' := by
  have HT := Lib.hid ht
  have HP := Lib.hid (tabs_pos ht)
  have h1 : decide ((s.size : Int) > 600) = false := by simp; omega
  have h3 : ¬ (600 : Int) < (s.size : Int) := by omega
  have h4 : decide ((f.info.size : Int) > 128) = false := by simp; omega
  have h5 : ¬ (128 : Int) < (f.info.size : Int) := by omega
  have hr := room_le n1
  obtain ⟨c, hc⟩ : ∃ c : Cf, c = ⟨adv, ini, room n1⟩ := ⟨_, rfl⟩
  have hcr : c.room = room n1 := by rw [hc]
  have he' : encX c.adv f c.ini c.room = 0 := by rw [hc]; show encX adv f ini ((room n1 : Nat) : Int) = 0; rw [encX_room]; exact he
  have HX : Hid (∀ w, Tabs w → Calls Tryd.prog 8 #[rowV adv ini n1, fv f] w fun e w' => e = .returned (.tuple #[.string (bytesX c.adv f c.ini), .bool true]) ∧ Below w.heap.size w w') := Lib.hid (fun w ht => by rw [hc]; exact fencoded_yes adv f hf hl ini n1 w ht he)
  obtain ⟨dec, hd, hdf⟩ := decs_of c f hf he' (innX_le he')
  have HD : Hid (∀ l, l.length ≤ 300 → DecX c l (dec l)) := Lib.hid (fun l hl => (hd l hl).1)
  have bl := bytesX_long c.adv f c.ini
  have HB0 : Hid (∀ h : 0 < (bytesX c.adv f c.ini).size, (bytesX c.adv f c.ini)[0]'h = flagB c) := Lib.hid (fun h => bytes0 h)
  have hz := bytes_le he'
  have HW : Hid (∀ (q : St) , Ready c q → ∃ q2, Ready c q2 ∧ q2.bad = q.bad ∧ run c dec ⟨q, [], false⟩ (bytesX c.adv f c.ini).data.toList = ⟨q2, [f], true⟩) := Lib.hid (fun q hq => run_whole (by omega) dec f he' hdf q [] false (Or.inr hq))
  have HN : Hid (∀ w, Calls Tryd.prog 7 #[.bool adv, .bool ini, .int .i64 n1] w fun e w' => e = .returned (ptr w.heap.size) ∧ DfAt w' w.heap.size c ⟨0, [], 0, 0⟩ nilV ∧ Below w.heap.size w w') := Lib.hid (fun w => by rw [hc]; exact fnew adv ini n1 w)
  have HR : Hid (∀ w, Calls Tryd.prog 11 #[.int .i64 n1] w fun e w' => e = .returned (.int .i64 (c.room : Int)) ∧ w = w') := Lib.hid (fun w => by rw [hcr]; exact rroom n1 w)
  have hc8 : c.room ≤ 128 := by omega
  generalize bytesX c.adv f c.ini = t at HX bl HB0 hz HW
  clear ht hf he he' hd hdf hcr hc
  go_enter Tryd.func4, Tryd.ntmps4
  go_wp2_with (first
    | (go_at_call 8; ((with_reducible refine (HX.out _ ?_).mono ?_); (· exact tabs2 _ _ HT.out); rintro e w1 ⟨rfl, hb⟩; have HB := Lib.hid (on2 hb); have HR1 : Hid (w1.heap[w.heap.size]? = some (rowO adv ini n1)) := Lib.hid (stays1 (nest w [rowO adv ini n1] 0 _ rfl) hb); have HF1 : Hid (w1.heap[w.heap.size + 1]? = some (fO f)) := Lib.hid ((hb.block _ (by simp)).trans (nest w [rowO adv ini n1, fO f] 1 _ rfl)); obtain ⟨m00, m01, m02⟩ := row_cells HR1.out; clear hb))
    | (go_at_call 7; ((with_reducible refine (HN.out _).mono ?_); rintro e w2 ⟨rfl, hd1, hb⟩; have HD1 := Lib.hid hd1; have HB2 := Lib.hid hb; clear hd1 hb)))
  have hl1 : w.heap.size + 1 < w1.heap.size := lt_heap HF1.out
  have HTB : Hid (TabsB w2 w1.heap.size) := Lib.hid ⟨tabs_below HT.out (below_on' HB.out HB2.out), by have := HP.out.1; omega, by have := HP.out.2; omega⟩
  refine (ffeeds w2 w1.heap.size c ⟨0, [], 0, 0⟩ nilV s HD1.out (good_new hc8) (by show 0 + s.size ≤ _; omega) HTB.out (by omega) dec HD.out).mono ?_
  rintro e w3 ⟨t1, rfl, hf1⟩
  have HC : Hid (ComesAt w1.heap.size c w2 0 (run c dec ⟨⟨0, [], 0, 0⟩, [], false⟩ s.data.toList).q w3) := Lib.hid (by
    have hB := hf1.next.belowD HD1.out
    obtain ⟨v1, d1, -, -⟩ := hf1.at'
    have hgq : Good c (run c dec ⟨⟨0, [], 0, 0⟩, [], false⟩ s.data.toList).q := good_run dec _ (good_new hc8)
    refine ⟨⟨v1, d1⟩, hgq, ?_, mu_le hgq, HTB.out.next hB (Nat.le_refl _), hB⟩
    have p := bad_run c dec s.data.toList ⟨⟨0, [], 0, 0⟩, [], false⟩
    rw [size_toList] at p
    simp only at p
    omega)
  have HQ := Lib.hid hf1.out
  obtain ⟨a1, n1', c1, rfl⟩ : ∃ a n c1, t1 = .slice a n c1 := by
    rcases hf1.out.shape with ⟨rfl, _⟩ | ⟨g, cap, rfl, _⟩
    · exact ⟨none, 0, 0, rfl⟩
    · exact ⟨_, _, cap, rfl⟩
  generalize (run c dec ⟨⟨0, [], 0, 0⟩, [], false⟩ s.data.toList).q = q1 at HC
  generalize (run c dec ⟨⟨0, [], 0, 0⟩, [], false⟩ s.data.toList).last = la
  clear hf1 HQ
  go_wp2_with fail
  go_loopw [10] (fun i wr => ∃ (k : Nat) (q : St), k ≤ c.room + 8 ∧ i = .int .i64 (k : Int) ∧ Hid (ComesAt w1.heap.size c w2 k q wr)) (fun i _ => c.room + 8 - (intOf i).toNat)
  case atStart => exact ⟨0, q1, Nat.zero_le _, rfl, HC⟩
  case round =>
    obtain ⟨k, q, hk, rfl, HA⟩ := hrel
    obtain ⟨v, hq⟩ := HA.out.at'
    have HQ := Lib.hid hq
    have htw : Tabs wr := HA.out.tabs.1
    have HBr : Hid (Below w1.heap.size w1 wr) := Lib.hid (HB2.out.trans HA.out.base)
    have HRr : Hid (wr.heap[w.heap.size]? = some (rowO adv ini n1)) := Lib.hid ((HBr.out.block _ (by omega)).trans HR1.out)
    obtain ⟨r00, r01, r02⟩ := row_cells HRr.out
    by_cases hlk : k < c.room + 8
    · have h0 : 0 < t.size := by omega
      have p := ffeed wr w1.heap.size c q v (t[0]'h0) hq HA.out.good (by have := HA.out.bad; omega) htw dec (HD.out _ HA.out.good.len)
      have P := Lib.hid p
      have d1 : decide ((k : Int) < (c.room : Int) + 8) = true := by simp; omega
      have d2 : (k : Int) < (c.room : Int) + 8 := by omega
      clear p hq htw
      go_wp2_with (first
        | (go_at_call 11; ((with_reducible refine (HR.out _).mono ?_); rintro e w4 ⟨rfl, rfl⟩))
        | (go_at_call 12; ((with_reducible refine P.out.mono ?_); rintro e w4 ⟨rfl, hn⟩; have HA2 := Lib.hid (HA.out.next HQ.out (HB0.out h0) hn); clear hn)))
      go_roundw
      case rel => exact ⟨k + 1, _, by omega, by go_num, HA2⟩
      case measure => simp [intOf]; omega
    · have d1 : decide ((k : Int) < (c.room : Int) + 8) = false := by simp; omega
      have d2 : ¬ (k : Int) < (c.room : Int) + 8 := by omega
      have hRd : Ready c q := mu_zero HA.out.good (by have := HA.out.mu; omega)
      obtain ⟨q2, r1, r2, r3⟩ := HW.out q hRd
      have HFr : Hid (wr.heap[w.heap.size + 1]? = some (fO f)) := Lib.hid ((HBr.out.block _ hl1).trans HF1.out)
      have p := ffeeds wr w1.heap.size c q v t hq HA.out.good (by have := HA.out.bad; omega) HA.out.tabs (by omega) dec HD.out
      unfold feedsP at p
      rw [r3] at p
      have HF2 := Lib.hid p
      have hlr : w1.heap.size < wr.heap.size := hq.lt
      have HR2 := Lib.hid r2
      have he := eql_same f
      have hg : Tryd.prog.eqGuardType Tryd.prog.depth 30 = false := by kernel_rfl
      clear p r1 r2 r3 hRd hq htw
      go_wp2_with (first
        | (go_at_call 11; ((with_reducible refine (HR.out _).mono ?_); rintro e w4 ⟨rfl, rfl⟩))
        | (go_at_call 10; ((with_reducible refine (fbad wr w1.heap.size c q v HQ.out).mono ?_); rintro e w4 ⟨rfl, rfl⟩)))
      refine HF2.out.mono ?_
      rintro e w5 ⟨t2, rfl, hf2⟩
      obtain ⟨g, cap, rfl, y1, y2, hrow⟩ := fed_one hf2
      obtain ⟨v5, d5, -, -⟩ := hf2.at'
      have HD5 := Lib.hid d5
      have HB5 : Hid (Below w1.heap.size wr w5) := Lib.hid (hf2.next.belowD HQ.out)
      have HF5 : Hid (w5.heap[w.heap.size + 1]? = some (fO f)) := Lib.hid ((HB5.out.block _ hl1).trans HFr.out)
      have HW5 : Hid (Below w.heap.size w w5) := Lib.hid (below_on' HB.out (HBr.out.trans HB5.out))
      have HT5 : Hid (TabsB w5 w1.heap.size) := Lib.hid (HA.out.tabs.next HB5.out (Nat.le_refl _))
      obtain ⟨k0, k1, k2, k3, k4, k5, k6⟩ := FrAt.cells (f := f) HF5.out
      obtain ⟨m0, m1, m2, m3, m4, m5, m6⟩ := hrow
      have HBd : Hid (Calls Tryd.prog 10 #[ptr w1.heap.size] w5.drew fun e w' => e = .returned (.int .i64 (q.bad : Int)) ∧ w5.drew = w') := Lib.hid (by have p := fbad _ w1.heap.size c q2 v5 HD5.out.drew; rw [HR2.out] at p; exact p)
      have HT6 : Hid (Tabs w5.drew) := Lib.hid (tabs_below HT5.out.1 (Below.refl _ _).drew)
      clear hf2 d5
      go_wp2_with fail
      refine wp_region_held_drew (S := fun w' => w'.cell? ⟨g, 0, none⟩ = some (.int .u8 (f.d : Int)) ∧ w'.cell? ⟨g, 1, none⟩ = some (.bool f.c) ∧ w'.cell? ⟨g, 2, none⟩ = some (.int .u8 (f.k : Int)) ∧ w'.cell? ⟨g, 3, none⟩ = some (.bool f.pf) ∧ w'.cell? ⟨g, 4, none⟩ = some (.int .u8 (f.ns : Int)) ∧ w'.cell? ⟨g, 5, none⟩ = some (.int .u8 (f.nr : Int)) ∧ w'.cell? ⟨g, 6, none⟩ = some (.string f.info) ∧ w'.cell? ⟨w.heap.size + 1, 0, none⟩ = some (.int .u8 (f.d : Int)) ∧ w'.cell? ⟨w.heap.size + 1, 1, none⟩ = some (.bool f.c) ∧ w'.cell? ⟨w.heap.size + 1, 2, none⟩ = some (.int .u8 (f.k : Int)) ∧ w'.cell? ⟨w.heap.size + 1, 3, none⟩ = some (.bool f.pf) ∧ w'.cell? ⟨w.heap.size + 1, 4, none⟩ = some (.int .u8 (f.ns : Int)) ∧ w'.cell? ⟨w.heap.size + 1, 5, none⟩ = some (.int .u8 (f.nr : Int)) ∧ w'.cell? ⟨w.heap.size + 1, 6, none⟩ = some (.string f.info)) (by kernel_rfl) ⟨m0, m1, m2, m3, m4, m5, m6, k0, k1, k2, k3, k4, k5, k6⟩ (fun hHeld => ?_)
      refine' wpAnyH_take (i := 0) (oi := { dst := some 63, op := Go.Op.move (Go.Operand.tmp 12), type := 24, pos := "law.go:105", after := #[], guard := none }) (v := _) rfl (by kernel_rfl) (by kernel_rfl) (by kernel_rfl) (fun _ _ _ h => h) (Or.inl ⟨by rfl, ?hy1⟩) (by assumption) ?hr1
      case hy1 => (intro _ hSw; (try dsimp only at hSw); go_simp <;> with_reducible rfl)
      simp only [Act.put, List.setIfInBounds_toArray, List.set_cons_zero, List.set_cons_succ]
      refine' wpAnyH_take (i := 1) (oi := { dst := some 64, op := Go.Op.call { callee := Go.Callee.builtin Go.Builtin.len, args := #[Go.Operand.tmp 63], argTypes := #[24] }, type := 3, pos := "law.go:105", after := #[{ on := 0, ground := Go.Ground.data }], guard := none }) (v := _) rfl (by kernel_rfl) (by kernel_rfl) (by kernel_rfl) (fun _ _ _ h => h) (Or.inl ⟨by rfl, ?hy2⟩) (by assumption) ?hr2
      case hy2 => (intro _ hSw; (try dsimp only at hSw); go_simp <;> with_reducible rfl)
      simp only [Act.put, List.setIfInBounds_toArray, List.set_cons_zero, List.set_cons_succ]
      refine' wpAnyH_take (i := 2) (oi := { dst := some 65, op := Go.Op.binOp Go.BinOp.eql 3 (Go.Operand.tmp 64) (Go.Operand.const (Go.Value.int Go.IntKind.i64 1)) 3, type := 4, pos := "law.go:105", after := #[{ on := 1, ground := Go.Ground.data }], guard := none }) (v := _) rfl (by kernel_rfl) (by kernel_rfl) (by kernel_rfl) (fun _ _ _ h => h) (Or.inl ⟨by rfl, ?hy3⟩) (by assumption) ?hr3
      case hy3 => (intro _ hSw; (try dsimp only at hSw); go_simp <;> with_reducible rfl)
      simp only [Act.put, List.setIfInBounds_toArray, List.set_cons_zero, List.set_cons_succ]
      refine' wpAnyH_take (i := 3) (oi := { dst := some 66, op := Go.Op.move (Go.Operand.tmp 65), type := 4, pos := "law.go:105", after := #[{ on := 2, ground := Go.Ground.data }], guard := none }) (v := _) rfl (by kernel_rfl) (by kernel_rfl) (by kernel_rfl) (fun _ _ _ h => h) (Or.inl ⟨by rfl, ?hy4⟩) (by assumption) ?hr4
      case hy4 => (intro _ hSw; (try dsimp only at hSw); go_simp <;> with_reducible rfl)
      simp only [Act.put, List.setIfInBounds_toArray, List.set_cons_zero, List.set_cons_succ]
      refine' wpAnyH_take (i := 4) (oi := { dst := some 67, op := Go.Op.move (Go.Operand.tmp 13), type := 4, pos := "law.go:105", after := #[{ on := 3, ground := Go.Ground.guard }], guard := some (3, true) }) (v := _) rfl (by kernel_rfl) (by kernel_rfl) (by kernel_rfl) (fun _ _ _ h => h) (Or.inl ⟨by rfl, ?hy5⟩) (by assumption) ?hr5
      case hy5 => (intro _ hSw; (try dsimp only at hSw); go_simp <;> with_reducible rfl)
      simp only [Act.put, List.setIfInBounds_toArray, List.set_cons_zero, List.set_cons_succ]
      refine' wpAnyH_take (i := 5) (oi := { dst := some 68, op := Go.Op.pick (Go.Operand.tmp 66) (Go.Operand.tmp 67) (Go.Operand.const (Go.Value.bool false)), type := 4, pos := "law.go:105", after := #[{ on := 3, ground := Go.Ground.data }, { on := 4, ground := Go.Ground.data }], guard := none }) (v := _) rfl (by kernel_rfl) (by kernel_rfl) (by kernel_rfl) (fun _ _ _ h => h) (Or.inl ⟨by rfl, ?hy6⟩) (by assumption) ?hr6
      case hy6 => (intro _ hSw; (try dsimp only at hSw); go_simp <;> with_reducible rfl)
      simp only [Act.put, List.setIfInBounds_toArray, List.set_cons_zero, List.set_cons_succ]
      refine' wpAnyH_take (i := 6) (oi := { dst := some 69, op := Go.Op.move (Go.Operand.tmp 68), type := 4, pos := "law.go:105", after := #[{ on := 5, ground := Go.Ground.data }, { on := 3, ground := Go.Ground.chain }], guard := none }) (v := _) rfl (by kernel_rfl) (by kernel_rfl) (by kernel_rfl) (fun _ _ _ h => h) (Or.inl ⟨by rfl, ?hy7⟩) (by assumption) ?hr7
      case hy7 => (intro _ hSw; (try dsimp only at hSw); go_simp <;> with_reducible rfl)
      simp only [Act.put, List.setIfInBounds_toArray, List.set_cons_zero, List.set_cons_succ]
      refine' wpAnyH_take (i := 7) (oi := { dst := some 70, op := Go.Op.move (Go.Operand.tmp 12), type := 24, pos := "law.go:105", after := #[{ on := 6, ground := Go.Ground.guard }], guard := some (6, true) }) (v := _) rfl (by kernel_rfl) (by kernel_rfl) (by kernel_rfl) (fun _ _ _ h => h) (Or.inl ⟨by rfl, ?hy8⟩) (by assumption) ?hr8
      case hy8 => (intro _ hSw; (try dsimp only at hSw); go_simp <;> with_reducible rfl)
      simp only [Act.put, List.setIfInBounds_toArray, List.set_cons_zero, List.set_cons_succ]
      refine' wpAnyH_take (i := 8) (oi := { dst := some 71, op := Go.Op.indexAddr 24 (Go.Operand.tmp 70) (Go.Operand.const (Go.Value.int Go.IntKind.i64 0)), type := 0, pos := "law.go:105", after := #[{ on := 7, ground := Go.Ground.data }, { on := 6, ground := Go.Ground.guard }], guard := some (6, true) }) (v := _) rfl (by kernel_rfl) (by kernel_rfl) (by kernel_rfl) (fun _ _ _ h => h) (Or.inl ⟨by rfl, ?hy9⟩) (by assumption) ?hr9
      case hy9 => (intro _ hSw; (try dsimp only at hSw); go_simp <;> with_reducible rfl)
      simp only [Act.put, List.setIfInBounds_toArray, List.set_cons_zero, List.set_cons_succ]
      refine' wpAnyH_take (i := 9) (oi := { dst := some 72, op := Go.Op.load 30 (Go.Operand.tmp 71), type := 30, pos := "law.go:105", after := #[{ on := 8, ground := Go.Ground.data }, { on := 6, ground := Go.Ground.guard }], guard := some (6, true) }) (v := _) rfl (by kernel_rfl) (by kernel_rfl) (by kernel_rfl) (fun _ _ _ h => h) (Or.inl ⟨by rfl, ?hy10⟩) (by assumption) ?hr10
      case hy10 => (intro _ hSw; (try dsimp only at hSw); go_simp <;> with_reducible rfl)
      simp only [Act.put, List.setIfInBounds_toArray, List.set_cons_zero, List.set_cons_succ]
      refine' wpAnyH_take (i := 10) (oi := { dst := some 73, op := Go.Op.load 30 (Go.Operand.tmp 5), type := 30, pos := "law.go:105", after := #[{ on := 6, ground := Go.Ground.guard }], guard := some (6, true) }) (v := _) rfl (by kernel_rfl) (by kernel_rfl) (by kernel_rfl) (fun _ _ _ h => h) (Or.inl ⟨by rfl, ?hy11⟩) (by assumption) ?hr11
      case hy11 => (intro _ hSw; (try dsimp only at hSw); go_simp <;> with_reducible rfl)
      simp only [Act.put, List.setIfInBounds_toArray, List.set_cons_zero, List.set_cons_succ]
      refine' wpAnyH_take (i := 11) (oi := { dst := some 74, op := Go.Op.binOp Go.BinOp.eql 30 (Go.Operand.tmp 72) (Go.Operand.tmp 73) 30, type := 4, pos := "law.go:105", after := #[{ on := 9, ground := Go.Ground.data }, { on := 10, ground := Go.Ground.data }, { on := 6, ground := Go.Ground.guard }], guard := some (6, true) }) (v := _) rfl (by kernel_rfl) (by kernel_rfl) (by kernel_rfl) (fun _ _ _ h => h) (Or.inl ⟨by rfl, ?hy12⟩) (by assumption) ?hr12
      case hy12 => (intro _ hSw; (try dsimp only at hSw); go_simp <;> with_reducible rfl)
      simp only [Act.put, List.setIfInBounds_toArray, List.set_cons_zero, List.set_cons_succ]
      refine' wpAnyH_take (i := 12) (oi := { dst := some 75, op := Go.Op.pick (Go.Operand.tmp 69) (Go.Operand.tmp 74) (Go.Operand.const (Go.Value.bool false)), type := 4, pos := "law.go:105", after := #[{ on := 6, ground := Go.Ground.data }, { on := 11, ground := Go.Ground.data }], guard := none }) (v := _) rfl (by kernel_rfl) (by kernel_rfl) (by kernel_rfl) (fun _ _ _ h => h) (Or.inl ⟨by rfl, ?hy13⟩) (by assumption) ?hr13
      case hy13 => (intro _ hSw; (try dsimp only at hSw); go_simp <;> with_reducible rfl)
      simp only [Act.put, List.setIfInBounds_toArray, List.set_cons_zero, List.set_cons_succ]
      refine' wpAnyH_take (i := 13) (oi := { dst := some 76, op := Go.Op.move (Go.Operand.tmp 75), type := 4, pos := "law.go:105", after := #[{ on := 12, ground := Go.Ground.data }, { on := 6, ground := Go.Ground.chain }], guard := none }) (v := _) rfl (by kernel_rfl) (by kernel_rfl) (by kernel_rfl) (fun _ _ _ h => h) (Or.inl ⟨by rfl, ?hy14⟩) (by assumption) ?hr14
      case hy14 => (intro _ hSw; (try dsimp only at hSw); go_simp <;> with_reducible rfl)
      simp only [Act.put, List.setIfInBounds_toArray, List.set_cons_zero, List.set_cons_succ]
      refine' wpAnyH_take (i := 14) (oi := { dst := some 77, op := Go.Op.move (Go.Operand.tmp 9), type := 27, pos := "law.go:105", after := #[{ on := 13, ground := Go.Ground.guard }], guard := some (13, true) }) (v := _) rfl (by kernel_rfl) (by kernel_rfl) (by kernel_rfl) (fun _ _ _ h => h) (Or.inl ⟨by rfl, ?hy15⟩) (by assumption) ?hr15
      case hy15 => (intro _ hSw; (try dsimp only at hSw); go_simp <;> with_reducible rfl)
      simp only [Act.put, List.setIfInBounds_toArray, List.set_cons_zero, List.set_cons_succ]
      refine' wpAnyH_take (i := 16) (oi := { dst := some 79, op := Go.Op.move (Go.Operand.tmp 11), type := 3, pos := "law.go:105", after := #[{ on := 13, ground := Go.Ground.guard }], guard := some (13, true) }) (v := _) rfl (by kernel_rfl) (by kernel_rfl) (by kernel_rfl) (fun _ _ _ h => h) (Or.inl ⟨by rfl, ?hy16⟩) (by assumption) ?hr16
      case hy16 => (intro _ hSw; (try dsimp only at hSw); go_simp <;> with_reducible rfl)
      simp only [Act.put, List.setIfInBounds_toArray, List.set_cons_zero, List.set_cons_succ]
      refine wpAnyH_ready (rs := [15]) (by kernel_rfl) (by simp) ?_
      refine AllReadyH.cons (o := { dst := some 78, op := Go.Op.call { callee := Go.Callee.value (Go.Operand.func 10), args := #[Go.Operand.tmp 77], argTypes := #[27] }, type := 3, pos := "law.go:105", after := #[{ on := 14, ground := Go.Ground.data }, { on := 13, ground := Go.Ground.chain }, { on := 13, ground := Go.Ground.guard }], guard := some (13, true) }) rfl (fun K hK => ?_) AllReadyH.nil
      go_simp
      (with_reducible refine HBd.out.mono ?_)
      rintro e w6 ⟨rfl, rfl⟩
      go_wp2_with fail
      refine hK.out _ _ (by assumption) (fun hHeld => ?_)
      clear hK K
      (try simp only [Act.put, List.setIfInBounds_toArray, List.set_cons_zero, List.set_cons_succ])
      refine' wpAnyH_take (i := 17) (oi := { dst := some 80, op := Go.Op.binOp Go.BinOp.eql 3 (Go.Operand.tmp 78) (Go.Operand.tmp 79) 3, type := 4, pos := "law.go:105", after := #[{ on := 15, ground := Go.Ground.data }, { on := 16, ground := Go.Ground.data }, { on := 13, ground := Go.Ground.guard }], guard := some (13, true) }) (v := _) rfl (by kernel_rfl) (by kernel_rfl) (by kernel_rfl) (fun _ _ _ h => h) (Or.inl ⟨by rfl, ?hy17⟩) (by assumption) ?hr17
      case hy17 => (intro _ hSw; (try dsimp only at hSw); go_simp <;> with_reducible rfl)
      simp only [Act.put, List.setIfInBounds_toArray, List.set_cons_zero, List.set_cons_succ]
      refine' wpAnyH_take (i := 18) (oi := { dst := some 81, op := Go.Op.pick (Go.Operand.tmp 76) (Go.Operand.tmp 80) (Go.Operand.const (Go.Value.bool false)), type := 4, pos := "law.go:105", after := #[{ on := 13, ground := Go.Ground.data }, { on := 17, ground := Go.Ground.data }], guard := none }) (v := _) rfl (by kernel_rfl) (by kernel_rfl) (by kernel_rfl) (fun _ _ _ h => h) (Or.inl ⟨by rfl, ?hy18⟩) (by assumption) ?hr18
      case hy18 => (intro _ hSw; (try dsimp only at hSw); go_simp <;> with_reducible rfl)
      simp only [Act.put, List.setIfInBounds_toArray, List.set_cons_zero, List.set_cons_succ]
      refine' wpAnyH_take (i := 19) (oi := { dst := some 82, op := Go.Op.move (Go.Operand.tmp 81), type := 4, pos := "law.go:105", after := #[{ on := 18, ground := Go.Ground.data }, { on := 15, ground := Go.Ground.chain }], guard := none }) (v := _) rfl (by kernel_rfl) (by kernel_rfl) (by kernel_rfl) (fun _ _ _ h => h) (Or.inl ⟨by rfl, ?hy19⟩) (by assumption) ?hr19
      case hy19 => (intro _ hSw; (try dsimp only at hSw); go_simp <;> with_reducible rfl)
      simp only [Act.put, List.setIfInBounds_toArray, List.set_cons_zero, List.set_cons_succ]
      refine wpAnyH_ready (rs := [20]) (by kernel_rfl) (by simp) ?_
      refine AllReadyH.cons (o := { dst := some 83, op := Go.Op.call { callee := Go.Callee.value (Go.Operand.func 6), args := #[], argTypes := #[] }, type := 4, pos := "law.go:105", after := #[{ on := 19, ground := Go.Ground.chain }, { on := 19, ground := Go.Ground.guard }], guard := some (19, true) }) rfl (fun K hK => ?_) AllReadyH.nil
      go_simp
      (with_reducible refine (works _ HT6.out).mono ?_)
      rintro e w6 ⟨rfl, hb⟩
      have HB6 := Lib.hid hb
      clear hb
      go_wp2_with fail
      refine hK.out _ _ (ss_keep hHeld HB6.out) (fun hHeld => ?_)
      clear hK K
      (try simp only [Act.put, List.setIfInBounds_toArray, List.set_cons_zero, List.set_cons_succ])
      refine' wpAnyH_take (i := 21) (oi := { dst := some 84, op := Go.Op.pick (Go.Operand.tmp 82) (Go.Operand.tmp 83) (Go.Operand.const (Go.Value.bool false)), type := 4, pos := "law.go:105", after := #[{ on := 19, ground := Go.Ground.data }, { on := 20, ground := Go.Ground.data }], guard := none }) (v := _) rfl (by kernel_rfl) (by kernel_rfl) (by kernel_rfl) (fun _ _ _ h => h) (Or.inl ⟨by rfl, ?hy20⟩) (by assumption) ?hr20
      case hy20 => (intro _ hSw; (try dsimp only at hSw); go_simp <;> with_reducible rfl)
      simp only [Act.put, List.setIfInBounds_toArray, List.set_cons_zero, List.set_cons_succ]
      refine' wpAnyH_take (i := 22) (oi := { dst := some 6, op := Go.Op.assign (Go.Operand.tmp 84), type := 4, pos := "law.go:105", after := #[{ on := 21, ground := Go.Ground.data }, { on := 20, ground := Go.Ground.chain }, { on := 0, ground := Go.Ground.phase }, { on := 1, ground := Go.Ground.phase }, { on := 2, ground := Go.Ground.phase }, { on := 3, ground := Go.Ground.phase }, { on := 4, ground := Go.Ground.phase }, { on := 5, ground := Go.Ground.phase }, { on := 6, ground := Go.Ground.phase }, { on := 7, ground := Go.Ground.phase }, { on := 8, ground := Go.Ground.phase }, { on := 9, ground := Go.Ground.phase }, { on := 10, ground := Go.Ground.phase }, { on := 11, ground := Go.Ground.phase }, { on := 12, ground := Go.Ground.phase }, { on := 13, ground := Go.Ground.phase }, { on := 14, ground := Go.Ground.phase }, { on := 15, ground := Go.Ground.phase }, { on := 16, ground := Go.Ground.phase }, { on := 17, ground := Go.Ground.phase }, { on := 18, ground := Go.Ground.phase }, { on := 19, ground := Go.Ground.phase }, { on := 20, ground := Go.Ground.phase }, { on := 21, ground := Go.Ground.phase }], guard := none }) (v := _) rfl (by kernel_rfl) (by kernel_rfl) (by kernel_rfl) (fun _ _ _ h => h) (Or.inl ⟨by rfl, ?hy21⟩) (by assumption) ?hr21
      case hy21 => (intro _ hSw; (try dsimp only at hSw); go_simp <;> with_reducible rfl)
      simp only [Act.put, List.setIfInBounds_toArray, List.set_cons_zero, List.set_cons_succ]
      refine wpAnyH_done (by kernel_rfl) ?_ _
      clear hHeld
      go_wp2
      go_ret
      exact ⟨rfl, below_on' HW5.out (below_on' (Below.refl _ _).drew HB6.out)⟩
theorem deframe_comes (adv ini : Bool) (n1 : Int) (s : ByteArray) (f : Fr) (hf : f.In) (hl : f.info.size ≤ maxLen) (w : World) (ht : Tabs w) :
    Calls Tryd.prog 4 #[rowV adv ini n1, .string s, fv f] w fun e w' => e = .returned (.bool true) ∧ Below w.heap.size w w' := by
  by_cases h1 : 600 < s.size
  · exact comes_short adv ini n1 s f w ht (Or.inl h1)
  by_cases h2 : 128 < f.info.size
  · exact comes_short adv ini n1 s f w ht (Or.inr ⟨by omega, h2⟩)
  by_cases h3 : encX adv f ini n1 = 0
  · exact comes_yes adv ini n1 s f hf hl w ht (by omega) (by omega) h3
  · exact comes_none adv ini n1 s f hf hl w ht (by omega) (by omega) h3
end Go.Proofs.YthlciaomfpephaaDoor.Df
