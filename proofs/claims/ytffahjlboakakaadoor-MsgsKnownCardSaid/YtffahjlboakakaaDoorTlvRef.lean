/-
  What the document's own Get of layer 7 answers. Condition: at most 2^48 octets.
-/
import Derived.Test.YtffahjlboakakaaDoorTlvMath
import Derived.Test.YtffahjlboakakaaDoorEaCalls
namespace Go.Proofs.YtffahjlboakakaaDoor.Tlv
open Go.RowKit Go.Proofs.YtffahjlboakakaaDoor.Base Go.Proofs.YtffahjlboakakaaDoor.Ea Go.Proofs.YtffahjlboakakaaDoor.Mem
/-- What the document's own Get answers. -/
def rgotV (g : Got) : Value := .tuple #[.agg #[.int .u8 (g.k : Int), .bool g.c, .string g.v], .int .i64 (g.n : Int), .int .i64 (g.e : Int)]
abbrev noIt (w : World) : World := w.alloc (.cells #[.int .u8 0, .bool false, .string ⟨#[]⟩] 69)
theorem rget_empty (s : ByteArray) (h0 : s.size = 0) (w : World) :
    Calls Tryd.prog 30 #[.string s] w fun x w' => x = .returned (rgotV (bad 20)) ∧ Below w.heap.size w w' := by
  obtain rfl := nil_of_size h0
  go_enter Tryd.func30, Tryd.ntmps30
  go_wp2
  exact bodyPost_ret (v := rgotV (bad 20)) (by simp [results, Tryd.results30, go_sem, rgotV, bad]) rfl ⟨rfl, (Below.refl _ _).alloc (Nat.le_refl _) _⟩
theorem rget_even (s : ByteArray) (h0 : 0 < s.size) (he : s[0].toNat % 2 = 0) (w : World) :
    Calls Tryd.prog 30 #[.string s] w fun x w' => x = .returned (rgotV (bad 70)) ∧ Below w.heap.size w w' := by
  have hz0 : ¬ s.toList = [] := toList_ne h0
  have hz : s.toList.isEmpty = false := by simpa using hz0
  have hb := oct_lt s[0]
  have hd : (((s[0].toNat : Int) % 2) == 0) = true := by rw [beq_iff_eq]; omega
  clear he
  go_enter Tryd.func30, Tryd.ntmps30
  go_wp2
  exact bodyPost_ret (v := rgotV (bad 70)) (by simp [results, Tryd.results30, go_sem, rgotV, bad]) rfl ⟨rfl, (Below.refl _ _).alloc (Nat.le_refl _) _⟩
theorem rget_results (tmps : Array Value) (W : World) (b : Nat) (k : Int) (c : Bool) (v : ByteArray) (n e : Int) (t : TypeId) (h : W.heap[b]? = some (.cells #[.int .u8 k, .bool c, .string v] t))
    (p2 : tmps[2]?.getD undef = ptr b) (p3 : tmps[3]?.getD undef = .int .i64 n) (p4 : tmps[4]?.getD undef = .int .i64 e) :
    (results Tryd.f30 tmps).run Tryd.prog W = .ok (.tuple #[.agg #[.int .u8 k, .bool c, .string v], .int .i64 n, .int .i64 e]) W := by
  obtain ⟨⟨g0, g1, g2⟩, _⟩ := cells3 h
  simp [results, Tryd.results30, go_sem, p2, p3, p4, g0, g1, g2]
theorem rget_len (s : ByteArray) (hs : s.size ≤ 281474976710656) (h0 : 0 < s.size) (ho : s[0].toNat % 2 = 1) (t : ByteArray) (ht : s.extract 1 s.size = t) (m z x e : Nat) (he : (x = 20 ∧ e = 20) ∨ (x = 0 ∧ e = 70 ∧ z = 2)) (hm : m ≤ 32767)
    (CL : ∀ w, Calls Tryd.prog 51 #[.string t] w fun y w' => y = .returned (.tuple #[.int .i64 (m : Int), .int .i64 (z : Int), .int .i64 (x : Int)]) ∧ Below w.heap.size w w') (w : World) :
    Calls Tryd.prog 30 #[.string s] w fun x w' => x = .returned (rgotV (bad e)) ∧ Below w.heap.size w w' := by
  have hz0 : ¬ s.toList = [] := toList_ne h0
  have hz : s.toList.isEmpty = false := by simpa using hz0
  have hb := oct_lt s[0]
  have hd : (((s[0].toNat : Int) % 2) == 0) = false := by rw [beq_eq_false_iff_ne]; omega
  have HL := Lib.hid CL
  clear CL ho
  rcases he with ⟨rfl, rfl⟩ | ⟨rfl, rfl, rfl⟩
  · go_enter Tryd.func30, Tryd.ntmps30
    go_wp2_with (go_at_call 51; ((with_reducible refine (HL.out _).mono ?_); rintro e w1 ⟨rfl, hb⟩; have HF := Lib.hid (fresh hb); have HB := Lib.hid (on_new (Below.refl _ _) hb); clear hb; obtain ⟨⟨g0, g1, g2⟩, f0, f1, f2⟩ := cells3 HF.out))
    exact bodyPost_ret (rget_results _ _ w.heap.size _ _ _ _ _ _ (set3_at HF.out _ _ _) rfl rfl rfl) rfl ⟨rfl, set3 HB.out (Nat.le_refl _) _ _ _⟩
  · by_cases h127 : 127 < m
    all_goals
      go_enter Tryd.func30, Tryd.ntmps30
      go_wp2_with (go_at_call 51; ((with_reducible refine (HL.out _).mono ?_); rintro e w1 ⟨rfl, hb⟩; have HF := Lib.hid (fresh hb); have HB := Lib.hid (on_new (Below.refl _ _) hb); clear hb; obtain ⟨⟨g0, g1, g2⟩, f0, f1, f2⟩ := cells3 HF.out))
      exact bodyPost_ret (rget_results _ _ w.heap.size _ _ _ _ _ _ (set3_at HF.out _ _ _) rfl rfl rfl) rfl ⟨rfl, set3 HB.out (Nat.le_refl _) _ _ _⟩
theorem rget_near (s : ByteArray) (hs : s.size ≤ 281474976710656) (h0 : 0 < s.size) (ho : s[0].toNat % 2 = 1) (t : ByteArray) (ht : s.extract 1 s.size = t) (m : Nat) (hm : m < 128) (r : ByteArray) (hr : s.extract 2 (2 + m) = r)
    (CL : ∀ w, Calls Tryd.prog 51 #[.string t] w fun y w' => y = .returned (.tuple #[.int .i64 (m : Int), .int .i64 1, .int .i64 0]) ∧ Below w.heap.size w w') (w : World) :
    Calls Tryd.prog 30 #[.string s] w fun x w' => x = .returned (rgotV (if s.size < 2 + m then bad 20 else ⟨s[0].toNat / 4, decide (s[0].toNat / 2 % 2 = 1), r, 2 + m, 0⟩)) ∧ Below w.heap.size w w' := by
  have hz0 : ¬ s.toList = [] := toList_ne h0
  have hz : s.toList.isEmpty = false := by simpa using hz0
  have hb := oct_lt s[0]
  have hd : (((s[0].toNat : Int) % 2) == 0) = false := by rw [beq_eq_false_iff_ne]; omega
  have hd3 : (2 + (m : Int)).toNat = 2 + m := by omega
  have h127 : ¬ 127 < m := by omega
  have HL := Lib.hid CL
  have HN : Hid (((2 + m : Nat) : Int) = 2 + (m : Int)) := Lib.hid (by omega)
  have HC : Hid ((((s[0].toNat : Int) / 2 % 2) == 1) = decide (s[0].toNat / 2 % 2 = 1)) := Lib.hid (by rw [Bool.eq_iff_iff]; simp; omega)
  clear CL ho
  by_cases hzm : s.size < 2 + m
  · rw [if_pos hzm]
    have hd1 : (s.size : Int) < 2 + m := by omega
    go_enter Tryd.func30, Tryd.ntmps30
    go_wp2_with (go_at_call 51; ((with_reducible refine (HL.out _).mono ?_); rintro e w1 ⟨rfl, hb⟩; have HF := Lib.hid (fresh hb); have HB := Lib.hid (on_new (Below.refl _ _) hb); clear hb; obtain ⟨⟨g0, g1, g2⟩, f0, f1, f2⟩ := cells3 HF.out))
    exact bodyPost_ret (rget_results _ _ w.heap.size _ _ _ _ _ _ (set3_at HF.out _ _ _) rfl rfl rfl) rfl ⟨rfl, set3 HB.out (Nat.le_refl _) _ _ _⟩
  · rw [if_neg hzm]
    have hd1 : ¬ (s.size : Int) < 2 + m := by omega
    have h2 : (2 : Int) ≤ 2 + m := by omega
    have h3 : (2 + m : Int) ≤ s.size := by omega
    go_enter Tryd.func30, Tryd.ntmps30
    go_wp2_with (go_at_call 51; ((with_reducible refine (HL.out _).mono ?_); rintro e w1 ⟨rfl, hb⟩; have HF := Lib.hid (fresh hb); have HB := Lib.hid (on_new (Below.refl _ _) hb); clear hb; obtain ⟨⟨g0, g1, g2⟩, f0, f1, f2⟩ := cells3 HF.out))
    refine bodyPost_ret (rget_results _ _ w.heap.size _ _ _ _ _ _ (set3_at HF.out _ _ _) rfl rfl rfl) rfl ⟨?_, set3 HB.out (Nat.le_refl _) _ _ _⟩
    unfold rgotV
    rw [HN.out, ← HC.out]
    rfl
theorem rget (s : ByteArray) (hs : s.size ≤ 281474976710656) (w : World) :
    Calls Tryd.prog 30 #[.string s] w fun x w' => x = .returned (rgotV (got s)) ∧ Below w.heap.size w w' := by
  by_cases h0 : s.size = 0
  · rw [got_nil h0]; exact rget_empty s h0 w
  have h1 : 0 < s.size := by omega
  rcases Nat.mod_two_eq_zero_or_one s[0].toNat with he | ho
  · rw [got_even h1 he]; exact rget_even s h1 he w
  have hts : (s.extract 1 s.size).size ≤ maxLen := by rw [ext_size]; unfold maxLen; omega
  have CT : ∀ (m z x : Nat), tk (s.extract 1 s.size).data.toList = (m, z, x) → ∀ w, Calls Tryd.prog 51 #[.string (s.extract 1 s.size)] w fun y w' => y = .returned (.tuple #[.int .i64 (m : Int), .int .i64 (z : Int), .int .i64 (x : Int)]) ∧ Below w.heap.size w w' := fun m z x h w => by
    have := rtake (s.extract 1 s.size) w hts
    unfold tkN tkZ tkE at this
    rw [h] at this
    exact this.mono fun _ _ ⟨he, n, hw⟩ => ⟨he, hw ▸ below_drewN (Below.refl _ _) n⟩
  rcases got_ways h1 ho _ rfl with ⟨ht, hg⟩ | ⟨m, h2, h3, ht, hl, hz, hg⟩ | ⟨m, h2, h3, ht, hl, hz, hg⟩ | ⟨m, h2, h3, ht, hg⟩ | ⟨m, h2, h3, ht, hg⟩
  · rw [hg]; exact rget_len s hs h1 ho _ rfl 0 0 20 20 (.inl ⟨rfl, rfl⟩) (by decide) (CT _ _ _ ht) w
  · have := rget_near s hs h1 ho _ rfl m h2 _ rfl (CT _ _ _ ht) w
    rw [if_pos hz] at this
    rw [hg]; exact this
  · have := rget_near s hs h1 ho _ rfl m h2 _ rfl (CT _ _ _ ht) w
    rw [if_neg (by omega)] at this
    rw [hg]; exact this
  · rw [hg]; exact rget_len s hs h1 ho _ rfl m 2 0 70 (.inr ⟨rfl, rfl, rfl⟩) (by omega) (CT _ _ _ ht) w
  · rw [hg]; exact rget_len s hs h1 ho _ rfl m 2 0 70 (.inr ⟨rfl, rfl, rfl⟩) h3 (CT _ _ _ ht) w
end Go.Proofs.YtffahjlboakakaaDoor.Tlv
