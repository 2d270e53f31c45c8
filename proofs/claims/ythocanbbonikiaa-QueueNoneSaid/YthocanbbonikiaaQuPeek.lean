/-
  What Peek, Next and Clear of the program's queue answer. Condition: it lies where it says.
-/
import Derived.Test.YthocanbbonikiaaQuSmall
import Derived.Test.YthocanbbonikiaaBldWrite
import Derived.Deep.QuietTactic
import Derived.BigQuiet
namespace Go.Proofs.Ythocanbbonikiaa.Qu
open Go.RowKit Go.Proofs.Ythocanbbonikiaa.Base Go.Proofs.Ythocanbbonikiaa.Mem Go.Proofs.Ythocanbbonikiaa.Cr
theorem vals_one (s : ByteArray) : ∀ u ∈ vals s, u.oneCell' = true := fun u hu => by
  obtain ⟨x, _, rfl⟩ := List.mem_map.1 hu; rfl
theorem cells_at {w : World} {b o : Nat} {cs : Array Value} {t : TypeId} {l : List Value} (h : At w b cs t) (hl : ∀ j u, l[j]? = some u → cs[o + j]? = some u) : ∀ j u, l[j]? = some u → w.cell? ((⟨b, o, none⟩ : Addr).add j) = some u := by
  intro j u hj
  have e : (⟨b, o, none⟩ : Addr).add j = ⟨b, o + j, none⟩ := by unfold Addr.add; split <;> simp_all
  rw [e]
  exact h.cell _ u (hl j u hj)
theorem fpeek_nil (n : Int) (w : World) : Calls Try.prog 14 #[.pointer none, im n] w fun e w' => e = .returned (.string ⟨#[]⟩) ∧ w = w' := by
  have C := Lib.hid flen_nil
  obtain ⟨m, hm⟩ : ∃ m, min n 0 = m := ⟨_, rfl⟩
  have t0 : decide (m < 1) = true := decide_eq_true (by omega)
  have t1 : m < 1 := by omega
  go_enter Try.func14, Try.ntmps14
  go_wp2_with (go_at_call 20; ((with_reducible refine (C.out _).mono ?_); rintro e v ⟨rfl, rfl⟩))
  go_ret
  exact ⟨rfl, rfl⟩
theorem parts (t : ByteArray) (m k : Nat) (h : m ≤ k) : [] ++ vals (fst_ t m) ++ vals (rst_ (fst_ t k) m) = Lib.byteCells (fst_ t k).data.toList := by
  have e : vals (fst_ t k) = Lib.byteCells (fst_ t k).data.toList := rfl
  rw [← e]
  unfold vals
  rw [rst_tl, fst_tl, fst_tl, List.nil_append, ← List.map_append]
  congr 1
  rw [List.drop_take, ← List.take_add, Nat.add_sub_cancel' h]
section
variable (w : World) (qb rb r f : Nat) (t : ByteArray)
theorem fpeek_none (h : Qat w qb rb r f t) (n : Int) (hn : cut n t.size = 0) : Calls Try.prog 14 #[ptr qb, im n] w fun e w' => e = .returned (.string ⟨#[]⟩) ∧ w = w' := by
  have C := Lib.hid (flen0 w qb rb r f t.size h.1)
  obtain ⟨c, hc⟩ : ∃ c, t.size = c := ⟨_, rfl⟩
  rw [hc] at C hn
  clear h hc
  unfold cut at hn
  obtain ⟨m, hm⟩ : ∃ m, min n (c : Int) = m := ⟨_, rfl⟩
  have t0 : decide (m < 1) = true := decide_eq_true (by omega)
  have t1 : m < 1 := by omega
  clear hn
  go_enter Try.func14, Try.ntmps14
  go_wp2_with (go_at_call 20; ((with_reducible refine C.out.mono ?_); rintro e v ⟨rfl, rfl⟩))
  go_ret
  exact ⟨rfl, rfl⟩
set_option maxHeartbeats 2000000 in
theorem fpeek_some (h : Qat w qb rb r f t) (n : Int) (k : Nat) (hn : cut n t.size = k) (h0 : 0 < k) : Calls Try.prog 14 #[ptr qb, im n] w fun e w' => e = .returned (.string (fst_ t k)) ∧ Below w.heap.size w w' := by
  obtain ⟨hq, cs, hr, hg⟩ := h
  have C := Lib.hid (flen0 w qb rb r f t.size hq)
  have c0 := hq.cell 0 (ring rb r) rfl
  have c1 := hq.cell 1 (nm f) rfl
  have hlt := hq.lt
  have hk : k ≤ t.size := hn ▸ cut_le n t.size
  have hfew := hg.few
  have hmax := hg.max
  have hfr := hg.lt
  have hm : min n (t.size : Int) = (k : Int) := by unfold cut at hn; omega
  obtain ⟨c, hc⟩ : ∃ c, t.size = c := ⟨_, rfl⟩
  rw [hc] at C hk hfew hm
  have t0 : decide ((k : Int) < 1) = false := decide_eq_false (by omega)
  have t1 : ¬ (k : Int) < 1 := by omega
  obtain ⟨s, hs⟩ : ∃ s, f + k = s := ⟨_, rfl⟩
  have v0 : IntKind.i64.wrap ((f : Int) + (k : Int)) = (s : Int) := by rw [IntKind.wrap_i64]; omega
  obtain ⟨hi, hhi⟩ : ∃ x, min s r = x := ⟨_, rfl⟩
  have v1 : min (s : Int) (r : Int) = (hi : Int) := by omega
  have b1 : f ≤ hi := by omega
  have b2 : hi ≤ r := by omega
  have b3 : ¬ r = f := by omega
  obtain ⟨m1, hm1⟩ : ∃ x, hi - f = x := ⟨_, rfl⟩
  obtain ⟨m2, hm2⟩ : ∃ x, k - m1 = x := ⟨_, rfl⟩
  have v2 : IntKind.i64.wrap ((k : Int) - (m1 : Int)) = (m2 : Int) := by rw [IntKind.wrap_i64]; omega
  have b4 : m2 ≤ r := by omega
  have e1 : m1 + m2 = k := by omega
  have e2 : f + m1 ≤ r := by omega
  have e3 : k = m1 ∨ f + m1 = r := by omega
  have HA := Lib.hid (And.intro hr (And.intro hg (And.intro hk (And.intro hs (And.intro hhi (And.intro hc (And.intro hmax (And.intro hq (And.intro e1 (And.intro e2 (And.intro e3 hm2)))))))))))
  clear hq hr hg hn hc hs hhi hmax hfew hfr hk h0 e1 e2 e3 hm2
  go_enter Try.func14, Try.ntmps14
  go_wp2_with (go_at_call 20; ((with_reducible refine C.out.mono ?_); rintro e v ⟨rfl, rfl⟩))
  go_quiet (fail)
  generalize hv : World.drewN w nq = w2
  have HB0 : Hid (Below w.heap.size w w2) := Lib.hid (by rw [← hv]; exact below_drewN (Below.refl _ _) _)
  clear hv
  have k0 : w2.cell? ⟨qb, 0, none⟩ = some (ring rb r) := (HB0.out.cell (p := ⟨qb, 0, none⟩) hlt).trans c0
  clear c0 c1
  go_wp2_with fail
  have hsz : w.heap.size ≤ w2.heap.size := HB0.out.size
  have hB := Lib.hid (Nat.le_refl w2.heap.size)
  refine (Try.bGrow w2.heap.size w2.heap.size k _ (Nat.le_refl _) (nest w2 [_] 0 _ rfl) (by simp) (by have := HA.out.2.2.2.2.2.2.1; have := HA.out.2.2.1; have := HA.out.2.1.few; have := HA.out.2.2.2.2.2.1; omega)).mono ?_
  rintro _ w3 ⟨rfl, hb, hl⟩
  have HB1 := Lib.hid hb
  have BL1 : Hid (Below w2.heap.size w2 w3) := Lib.hid (((Below.refl _ _).alloc (Nat.le_refl _) _).trans hl)
  clear hb hl
  have HR1 : Hid (At w2 rb cs BT) := Lib.hid (HA.out.1.below HB0.out)
  have HR2 := Lib.hid (HR1.out.below BL1.out)
  go_wp2_with fail
  refine (Try.bWrite w2.heap.size w2.heap.size [] ⟨rb, f, none⟩ m1 (r - f) (vals (fst_ t m1)) w3 (.inr HB1.out) (by rw [vals_len, fst_size]; have := HA.out; omega) (cells_at HR2.out (HA.out.2.1.low m1 HA.out.2.2.2.2.2.2.2.2.2.1)) HR1.out.lt (vals_one _) (by have := HA.out.2.1.max; have := HA.out.2.2.2.2.2.2.2.2.2.1; simp; omega) BL1.out.size).mono ?_
  rintro _ w4 ⟨rfl, hb, hl⟩
  have HB2 := Lib.hid hb
  have BL2 : Hid (Below w2.heap.size w2 w4) := Lib.hid (BL1.out.trans hl)
  clear hb hl HB1 BL1 HR2
  have HR2 := Lib.hid (HR1.out.below BL2.out)
  have k1 : w4.cell? ⟨qb, 0, none⟩ = some (ring rb r) := (BL2.out.cell (p := ⟨qb, 0, none⟩) (Nat.lt_of_lt_of_le hlt hsz)).trans k0
  clear k0
  go_wp2_with fail
  refine (Try.bWrite w2.heap.size w2.heap.size _ ⟨rb, 0, none⟩ m2 r (vals (rst_ (fst_ t k) m1)) w4 (.inr HB2.out) (by rw [vals_len, ext_size, fst_size] <;> (have := HA.out; omega)) (cells_at HR2.out (fun j u hj => by rw [Nat.zero_add]; exact HA.out.2.1.high k m1 (by have := HA.out; omega) (by have := HA.out; omega) HA.out.2.2.2.2.2.2.2.2.2.2.1 j u hj)) HR1.out.lt (vals_one _) (by have := HA.out.2.1.max; have := HA.out; have := HA.out.2.1.few; rw [List.nil_append, vals_len, fst_size] <;> omega) BL2.out.size).mono ?_
  rintro _ w5 ⟨rfl, hb, hl⟩
  rw [parts t m1 k (by have := HA.out; omega)] at hb
  have HB3 := Lib.hid hb
  have BL3 : Hid (Below w2.heap.size w2 w5) := Lib.hid (BL2.out.trans hl)
  clear hb hl HB2 BL2 HR2 k1
  go_wp2_with fail
  refine (Try.bString w2.heap.size w2.heap.size _ w5 (.inr HB3.out) BL3.out.size).mono ?_
  rintro _ w6 ⟨rfl, hl⟩
  have BL4 : Hid (Below w.heap.size w w6) := Lib.hid (below_on HB0.out (BL3.out.trans hl))
  clear hl
  go_wp2
  go_ret
  exact ⟨ret_str (bext (fst_tl t k).symm), BL4.out⟩
theorem fpeek (h : Q w qb rb r t) (n : Int) : Calls Try.prog 14 #[ptr qb, im n] w fun e w' => e = .returned (.string (fst_ t (cut n t.size))) ∧ Below w.heap.size w w' := by
  obtain ⟨_, f, h⟩ := h
  by_cases h0 : cut n t.size = 0
  · refine (fpeek_none w qb rb r f t h n h0).mono ?_
    rintro _ w1 ⟨rfl, rfl⟩
    exact ⟨ret_str (bext (by rw [fst_tl, h0]; rfl)), Below.refl _ _⟩
  · exact fpeek_some w qb rb r f t h n _ rfl (by omega)
theorem fdrop (h : Q w qb rb r t) (n : Nat) (hn : n ≤ t.size) : Calls Try.prog 22 #[ptr qb, nm n] w fun e w' => e = .returned (.tuple #[]) ∧ Q w' qb rb r (rst_ t n) ∧ Chg (Qs qb rb) w w' := by
  obtain ⟨hne, f, hq, cs, hr, hg⟩ := h
  by_cases h0 : n = 0
  · subst h0
    refine (fdrop_none w _).mono ?_
    rintro _ w1 ⟨rfl, rfl⟩
    have e : rst_ t 0 = t := bext (by rw [rst_tl]; rfl)
    rw [e]
    exact ⟨rfl, ⟨hne, f, hq, cs, hr, hg⟩, Chg.refl _ _⟩
  · have h1 := hg.few
    have h2 := hg.max
    have h3 := hg.lt
    refine (fdrop0 w qb rb r f t.size hq n (pl r (f + n)) (t.size - n) (by omega) rfl (by omega) (by omega) rfl hn (by omega)).mono ?_
    rintro _ w1 ⟨rfl, hd⟩
    have e : (rst_ t n).size = t.size - n := ext_size t n
    exact ⟨rfl, ⟨hne, pl r (f + n), by rw [e]; exact hd.at_, cs, hr.other hd.chg (fun x => hne x.symm), hg.drop n hn⟩, hd.chg.mono fun k x => .inl x⟩
theorem flen (h : Q w qb rb r t) : Calls Try.prog 20 #[ptr qb] w fun e w' => e = .returned (nm t.size) ∧ w = w' := by
  obtain ⟨_, f, h⟩ := h
  exact flen0 w qb rb r f t.size h.1
theorem ffree (h : Q w qb rb r t) : Calls Try.prog 21 #[ptr qb] w fun e w' => e = .returned (nm (r - t.size)) ∧ ∃ k, w' = w.drewN k := by
  have h1 := h.room
  obtain ⟨_, f, h⟩ := h
  exact ffree0 w qb rb r f t.size h.1 _ (by rw [IntKind.wrap_i64]; omega)
theorem fclear (h : Q w qb rb r t) : Calls Try.prog 16 #[ptr qb] w fun e w' => e = .returned (nm t.size) ∧ Q w' qb rb r ⟨#[]⟩ ∧ Chg (Qs qb rb) w w' := by
  have C1 := Lib.hid (flen w qb rb r t h)
  have C2 := Lib.hid (fdrop w qb rb r t h t.size (Nat.le_refl _))
  rw [rst_all t (Nat.le_refl _)] at C2
  generalize t.size = c at C1 C2
  clear h
  go_enter Try.func16, Try.ntmps16
  go_wp2_with (go_at_call 20; ((with_reducible refine C1.out.mono ?_); rintro e v ⟨rfl, rfl⟩))
  refine C2.out.mono ?_
  rintro _ w2 ⟨rfl, hq, hc⟩
  have HQ := Lib.hid hq
  have HC := Lib.hid hc
  clear hq hc
  go_wp2
  go_ret
  exact ⟨rfl, HQ.out, HC.out⟩
theorem fnext (h : Q w qb rb r t) (n : Int) : Calls Try.prog 12 #[ptr qb, im n] w fun e w' => e = .returned (.string (fst_ t (cut n t.size))) ∧ Q w' qb rb r (rst_ t (cut n t.size)) ∧ Chg (Qs qb rb) w w' := by
  have C1 := Lib.hid (fpeek w qb rb r t h n)
  have hk := cut_le n t.size
  have C2 := Lib.hid (fun w h => fdrop w qb rb r t h (cut n t.size) hk)
  have H := Lib.hid h
  have hz := fst_size t hk
  generalize cut n t.size = k at C1 C2 hk hz ⊢
  generalize fst_ t k = s at C1 hz ⊢
  clear h
  go_enter Try.func12, Try.ntmps12
  go_wp2_with fail
  refine C1.out.mono ?_
  rintro _ w1 ⟨rfl, hb⟩
  have HB := Lib.hid hb
  clear hb
  go_wp2_with fail
  refine (C2.out _ (H.out.below HB.out)).mono ?_
  rintro _ w2 ⟨rfl, hq, hc⟩
  have HQ := Lib.hid hq
  have HC := Lib.hid hc
  clear hq hc
  go_wp2
  go_ret
  exact ⟨rfl, HQ.out, (Chg.mono (Chg.of_below HB.out) fun _ x => x).then HC.out⟩
end
theorem fnext_nil (n : Int) (w : World) : Calls Try.prog 12 #[.pointer none, im n] w fun e w' => e = .returned (.string ⟨#[]⟩) ∧ w = w' := by
  have C := Lib.hid (fpeek_nil n)
  have D := Lib.hid (fun w => fdrop_none w (.pointer none))
  go_enter Try.func12, Try.ntmps12
  go_wp2_with (first
    | (go_at_call 14; ((with_reducible refine (C.out _).mono ?_); rintro e v ⟨rfl, rfl⟩))
    | (go_at_call 22; (refine (D.out _).mono ?_; rintro e v ⟨rfl, rfl⟩)))
  go_ret
  exact ⟨rfl, rfl⟩
theorem fclear_nil (w : World) : Calls Try.prog 16 #[.pointer none] w fun e w' => e = .returned (im 0) ∧ w = w' := by
  have C := Lib.hid flen_nil
  have D := Lib.hid (fun w => fdrop_none w (.pointer none))
  go_enter Try.func16, Try.ntmps16
  go_wp2_with (first
    | (go_at_call 20; ((with_reducible refine (C.out _).mono ?_); rintro e v ⟨rfl, rfl⟩))
    | (go_at_call 22; (refine (D.out _).mono ?_; rintro e v ⟨rfl, rfl⟩)))
  go_ret
  exact ⟨rfl, rfl⟩
end Go.Proofs.Ythocanbbonikiaa.Qu
