/-
  The plain mathematics of layer 7: a message's octets, what octets say, all messages that octets are, and that both fit together. Conditions: the bounds that each lemma names.
-/
import Derived.Test.YtffahjlboakakaaDoorEaMath
import Derived.Test.YtffahjlboakakaaDoorMem
namespace Go.Proofs.YtffahjlboakakaaDoor.Tlv
open Go.Proofs.YtffahjlboakakaaDoor.Base Go.Proofs.YtffahjlboakakaaDoor.Ea Go.Proofs.YtffahjlboakakaaDoor.Mem
/-- A message. -/
structure It where
  k : Nat
  c : Bool
  v : ByteArray
structure It.Ok (x : It) : Prop where
  k : x.k ≤ 63
  v : x.v.size ≤ 127
def It.bytes (x : It) : ByteArray := one (addr x.k x.c) ++ len x.v.size ++ x.v
/-- Which error has a message that is put? -/
def putE (k : Nat) (v : ByteArray) : Nat := if 63 < k then 2 else if 127 < v.size then 3 else 0
def putS (k : Nat) (c : Bool) (v : ByteArray) : ByteArray := if putE k v = 0 then It.bytes ⟨k, c, v⟩ else ⟨#[]⟩
theorem putE_ok {k : Nat} {v : ByteArray} (h : putE k v = 0) : k ≤ 63 ∧ v.size ≤ 127 := by
  unfold putE at h
  split at h
  · omega
  · split at h <;> omega
theorem putE_of {k : Nat} {v : ByteArray} (h : k ≤ 63) (h1 : v.size ≤ 127) : putE k v = 0 := by
  unfold putE; rw [if_neg (by omega), if_neg (by omega)]
theorem putS_ok {k : Nat} {c : Bool} {v : ByteArray} (h : putE k v = 0) : putS k c v = It.bytes ⟨k, c, v⟩ := if_pos h
/-- What a message is got as: its parts, how many octets, the error's number. -/
structure Got where
  k : Nat
  c : Bool
  v : ByteArray
  n : Nat
  e : Nat
def bad (e : Nat) : Got := ⟨0, false, ⟨#[]⟩, 0, e⟩
def got (s : ByteArray) : Got := match s.data.toList with
  | [] => bad 20
  | a :: r => if a.toNat % 2 = 0 then bad 70 else
    if tkE r ≠ 0 then bad 20 else
    if 127 < tkN r ∨ tkZ r ≠ 1 then bad 70 else
    if s.size < 2 + tkN r then bad 20 else ⟨a.toNat / 4, decide (a.toNat / 2 % 2 = 1), s.extract 2 (2 + tkN r), 2 + tkN r, 0⟩
theorem got_nil {s : ByteArray} (h : s.size = 0) : got s = bad 20 := by
  rw [nil_of_size h]; rfl
theorem got_even {s : ByteArray} (h : 0 < s.size) (he : s[0].toNat % 2 = 0) : got s = bad 70 := by
  unfold got; rw [cons_of_size h]; exact if_pos he
/-- The ways behind an odd first octet. -/
theorem got_ways {s : ByteArray} (h : 0 < s.size) (ho : s[0].toNat % 2 = 1) (t : ByteArray) (ht : s.extract 1 s.size = t) :
    (tk t.data.toList = (0, 0, 20) ∧ got s = bad 20) ∨
    (∃ m : Nat, m < 128 ∧ 1 ≤ t.size ∧ tk t.data.toList = (m, 1, 0) ∧ len m = t.extract 0 1 ∧ s.size < 2 + m ∧ got s = bad 20) ∨
    (∃ m : Nat, m < 128 ∧ 1 ≤ t.size ∧ tk t.data.toList = (m, 1, 0) ∧ len m = t.extract 0 1 ∧ 2 + m ≤ s.size ∧ got s = ⟨s[0].toNat / 4, decide (s[0].toNat / 2 % 2 = 1), s.extract 2 (2 + m), 2 + m, 0⟩) ∨
    (∃ m : Nat, m < 128 ∧ 2 ≤ t.size ∧ tk t.data.toList = (m, 2, 0) ∧ got s = bad 70) ∨
    (∃ m : Nat, 128 ≤ m ∧ m ≤ 32767 ∧ tk t.data.toList = (m, 2, 0) ∧ got s = bad 70) := by
  have hl : t.data.toList = s.data.toList.drop 1 := by rw [← ht, ext_drop]
  have hg : got s = if tkE t.data.toList ≠ 0 then bad 20 else
    if 127 < tkN t.data.toList ∨ tkZ t.data.toList ≠ 1 then bad 70 else
    if s.size < 2 + tkN t.data.toList then bad 20 else ⟨s[0].toNat / 4, decide (s[0].toNat / 2 % 2 = 1), s.extract 2 (2 + tkN t.data.toList), 2 + tkN t.data.toList, 0⟩ := by
    rw [hl]
    conv => lhs; unfold got
    rw [cons_of_size h]
    exact if_neg (by omega)
  rcases tk_cases t with hk | ⟨m, h1, h2, hk, h3⟩ | ⟨m, h1, h2, hk⟩ | ⟨m, h1, h2, h3, hk, h4⟩
  · refine .inl ⟨hk, ?_⟩
    rw [hg, if_pos (by unfold tkE; rw [hk]; decide)]
  · have e1 : tkE t.data.toList = 0 := by unfold tkE; rw [hk]
    have e2 : tkN t.data.toList = m := by unfold tkN; rw [hk]
    have e3 : tkZ t.data.toList = 1 := by unfold tkZ; rw [hk]
    rw [e1, e2, e3, if_neg (by decide), if_neg (by omega)] at hg
    by_cases hs : s.size < 2 + m
    · exact .inr (.inl ⟨m, h1, h2, hk, h3, hs, by rw [hg, if_pos hs]⟩)
    · exact .inr (.inr (.inl ⟨m, h1, h2, hk, h3, by omega, by rw [hg, if_neg hs]⟩))
  · refine .inr (.inr (.inr (.inl ⟨m, h1, h2, hk, ?_⟩)))
    rw [hg, if_neg (by unfold tkE; rw [hk]; simp), if_pos (by unfold tkZ; rw [hk]; exact .inr (by simp))]
  · refine .inr (.inr (.inr (.inr ⟨m, h1, h2, hk, ?_⟩)))
    rw [hg, if_neg (by unfold tkE; rw [hk]; simp), if_pos (by unfold tkZ; rw [hk]; exact .inr (by simp))]
theorem bytes_list {x : It} (h : x.Ok) : x.bytes.data.toList = UInt8.ofNat (addr x.k x.c) :: UInt8.ofNat (2 * x.v.size + 1) :: x.v.data.toList := by
  unfold It.bytes
  rw [app_list, app_list, len_one (by omega) (by have := h.v; omega)]
  show [UInt8.ofNat _] ++ [UInt8.ofNat _] ++ _ = _
  simp
theorem bytes_size {x : It} (h : x.Ok) : x.bytes.size = 2 + x.v.size := by
  have h1 := congrArg List.length (bytes_list h)
  simp only [List.length_cons, size_toList] at h1
  omega
/-- What is put is got as it was, whatever stands behind it. -/
theorem got_put {x : It} (h : x.Ok) (s : ByteArray) : got (x.bytes ++ s) = ⟨x.k, x.c, x.v, x.bytes.size, 0⟩ := by
  have hl := bytes_list h
  have hk := h.k
  have hv := h.v
  have hz := bytes_size h
  obtain ⟨e1, e2, e3⟩ := addr_is _ x.k (by omega) x.c rfl
  have ho : addr x.k x.c % 2 = 1 := of_decide_eq_true e3
  have ha := addr_lt x.k x.c
  have hn := nat_oct _ ha
  have hm := nat_oct (2 * x.v.size + 1) (by omega)
  unfold got
  rw [app_list, hl]
  simp only [List.cons_append]
  have et : tk (UInt8.ofNat (2 * x.v.size + 1) :: (x.v.data.toList ++ s.data.toList)) = (x.v.size, 1, 0) := by
    rw [tk_odd _ _ (by rw [hm]; omega), hm]
    congr 1; omega
  rw [hn, if_neg (by omega)]
  unfold tkE tkN tkZ
  rw [et]
  simp only [ne_eq, not_true_eq_false, if_false, or_false]
  rw [if_neg (by omega), if_neg (by rw [ByteArray.size_append]; omega), hz]
  have f1 : addr x.k x.c / 4 = x.k := (show spD (addr x.k x.c) = addr x.k x.c / 4 from if_pos ho).symm.trans e1
  have f2 : decide (addr x.k x.c / 2 % 2 = 1) = x.c := (show spC (addr x.k x.c) = decide (addr x.k x.c / 2 % 2 = 1) by unfold spC; simp [ho]).symm.trans e2
  have f3 : (x.bytes ++ s).extract 2 (2 + x.v.size) = x.v := by
    apply bext
    rw [ext_list, app_list, hl]
    rw [List.drop_take]
    show List.take (2 + x.v.size - 2) (x.v.data.toList ++ s.data.toList) = _
    rw [show 2 + x.v.size - 2 = x.v.data.toList.length by rw [size_toList]; omega, List.take_left]
  rw [f1, f2, f3]
/-- What is got is put as it was. -/
theorem put_got {s : ByteArray} (h : (got s).e = 0) : putE (got s).k (got s).v = 0 ∧ 2 ≤ (got s).n ∧ (got s).n ≤ s.size ∧ It.bytes ⟨(got s).k, (got s).c, (got s).v⟩ = s.extract 0 (got s).n := by
  by_cases h0 : s.size = 0
  · rw [got_nil h0] at h; exact absurd h (by decide)
  have h1 : 0 < s.size := by omega
  rcases Nat.mod_two_eq_zero_or_one s[0].toNat with he | ho
  · rw [got_even h1 he] at h; exact absurd h (by decide)
  rcases got_ways h1 ho _ rfl with ⟨_, hg⟩ | ⟨_, _, _, _, _, _, hg⟩ | ⟨m, hm, ht, hk, hl, hs, hg⟩ | ⟨_, _, _, _, hg⟩ | ⟨_, _, _, _, hg⟩
  · rw [hg] at h; exact absurd h (by decide)
  · rw [hg] at h; exact absurd h (by decide)
  · rw [hg]
    have b0 := oct_lt s[0]
    have hz : (s.extract 2 (2 + m)).size = m := by rw [ByteArray.size_extract]; omega
    refine ⟨putE_of (by show s[0].toNat / 4 ≤ 63; omega) (by show (s.extract 2 (2 + m)).size ≤ 127; omega), by show 2 ≤ 2 + m; omega, hs, ?_⟩
    show It.bytes ⟨s[0].toNat / 4, decide (s[0].toNat / 2 % 2 = 1), s.extract 2 (2 + m)⟩ = s.extract 0 (2 + m)
    unfold It.bytes
    have ha : addr (s[0].toNat / 4) (decide (s[0].toNat / 2 % 2 = 1)) = s[0].toNat := by
      have hk : spK s[0].toNat = true := decide_eq_true ho
      have := addr_sp s[0].toNat b0 hk
      unfold spD spC at this
      rw [if_pos ho] at this
      simpa [ho] using this
    show one (addr (s[0].toNat / 4) (decide (s[0].toNat / 2 % 2 = 1))) ++ len ((s.extract 2 (2 + m)).size : Int) ++ s.extract 2 (2 + m) = s.extract 0 (2 + m)
    rw [ha, hz, hl]
    apply bext
    have a1 : ((s.extract 1 s.size).extract 0 1).data.toList = (s.data.toList.drop 1).take 1 := by rw [ext_list, ext_drop, List.drop_zero]
    have a2 : (s.extract 2 (2 + m)).data.toList = (s.data.toList.take (2 + m)).drop 2 := ext_list _ _ _
    have a3 : (s.extract 0 (2 + m)).data.toList = s.data.toList.take (2 + m) := by rw [ext_list, List.drop_zero]
    rw [app_list, app_list, a1, a2, a3]
    show [UInt8.ofNat s[0].toNat] ++ _ ++ _ = _
    rw [oct_nat]
    have hc := cons_of_size h1
    have e1 : [s[0]] ++ (s.data.toList.drop 1).take 1 = s.data.toList.take 2 := by
      conv => rhs; rw [hc]
      rfl
    rw [e1, List.drop_take, show 2 + m - 2 = m by omega, List.take_add]
  · rw [hg] at h; exact absurd h (by decide)
  · rw [hg] at h; exact absurd h (by decide)
theorem got_e (s : ByteArray) : (got s).e = 0 ∨ ((got s).e = 20 ∨ (got s).e = 70) ∧ got s = bad (got s).e := by
  by_cases h0 : s.size = 0
  · rw [got_nil h0]; exact .inr ⟨.inl rfl, rfl⟩
  have h1 : 0 < s.size := by omega
  rcases Nat.mod_two_eq_zero_or_one s[0].toNat with he | ho
  · rw [got_even h1 he]; exact .inr ⟨.inr rfl, rfl⟩
  rcases got_ways h1 ho _ rfl with ⟨_, hg⟩ | ⟨_, _, _, _, _, _, hg⟩ | ⟨m, hm, ht, hk, hl, hs, hg⟩ | ⟨_, _, _, _, hg⟩ | ⟨_, _, _, _, hg⟩
  · rw [hg]; exact .inr ⟨.inl rfl, rfl⟩
  · rw [hg]; exact .inr ⟨.inl rfl, rfl⟩
  · rw [hg]; exact .inl rfl
  · rw [hg]; exact .inr ⟨.inr rfl, rfl⟩
  · rw [hg]; exact .inr ⟨.inr rfl, rfl⟩
/-- All messages that octets are, behind those that were got: how many octets are ahead of the first that is none, and its error. -/
def allA (s : ByteArray) : Nat → Nat → List It → List It × Nat × Nat
  | 0, _, acc => (acc, 0, 0)
  | f + 1, at_, acc => if at_ < s.size then
      if (got (s.extract at_ s.size)).e ≠ 0 then ([], at_, (got (s.extract at_ s.size)).e)
      else allA s f (at_ + (got (s.extract at_ s.size)).n) (acc ++ [⟨(got (s.extract at_ s.size)).k, (got (s.extract at_ s.size)).c, (got (s.extract at_ s.size)).v⟩])
    else (acc, 0, 0)
def all (s : ByteArray) : List It × Nat × Nat := allA s (s.size + 1) 0 []
/-- A loop's state: what is still to come gives the answer. -/
def Left (s : ByteArray) (at_ : Nat) (acc : List It) : Prop := ∃ f, s.size < f + at_ ∧ allA s f at_ acc = all s
theorem left_start (s : ByteArray) : Left s 0 [] := ⟨s.size + 1, by omega, rfl⟩
theorem left_step {s : ByteArray} {at_ : Nat} {acc : List It} (h : Left s at_ acc) (hlt : at_ < s.size) (he : (got (s.extract at_ s.size)).e = 0) :
    Left s (at_ + (got (s.extract at_ s.size)).n) (acc ++ [⟨(got (s.extract at_ s.size)).k, (got (s.extract at_ s.size)).c, (got (s.extract at_ s.size)).v⟩]) ∧ 2 ≤ (got (s.extract at_ s.size)).n ∧ at_ + (got (s.extract at_ s.size)).n ≤ s.size := by
  obtain ⟨f, hf, h⟩ := h
  obtain ⟨_, h2, h3, _⟩ := put_got he
  rw [ext_size] at h3
  match f, hf, h with
  | 0, hf, _ => omega
  | f + 1, hf, h =>
    rw [allA, if_pos hlt, if_neg (by rw [he]; decide)] at h
    exact ⟨⟨f, by omega, h⟩, h2, by omega⟩
theorem left_bad {s : ByteArray} {at_ : Nat} {acc : List It} (h : Left s at_ acc) (hlt : at_ < s.size) (he : (got (s.extract at_ s.size)).e ≠ 0) : all s = ([], at_, (got (s.extract at_ s.size)).e) := by
  obtain ⟨f, hf, h⟩ := h
  match f, hf, h with
  | 0, hf, _ => omega
  | f + 1, hf, h =>
    rw [allA, if_pos hlt, if_pos he] at h
    exact h.symm
theorem left_done {s : ByteArray} {at_ : Nat} {acc : List It} (h : Left s at_ acc) (hge : ¬ at_ < s.size) : all s = (acc, 0, 0) := by
  obtain ⟨f, hf, h⟩ := h
  match f, hf, h with
  | 0, hf, h => exact h.symm
  | f + 1, hf, h =>
    rw [allA, if_neg hge] at h
    exact h.symm
theorem all_len (s : ByteArray) : (all s).1.length ≤ s.size := by
  have key : ∀ (f k : Nat) (acc : List It), acc.length ≤ k → k ≤ s.size → (allA s f k acc).1.length ≤ s.size := by
    intro f
    induction f with
    | zero => intro k acc h1 h2; show acc.length ≤ _; omega
    | succ f ih =>
      intro k acc h1 h2
      rw [allA]
      split
      · split
        · exact Nat.zero_le _
        · rename_i h3 h4
          obtain ⟨_, h5, h6, _⟩ := put_got (s := s.extract k s.size) (by omega)
          rw [ext_size] at h6
          exact ih _ _ (by simp; omega) (by omega)
      · show acc.length ≤ _; omega
  exact key _ 0 [] (Nat.zero_le _) (Nat.zero_le _)
theorem got_It {s : ByteArray} (he : (got s).e = 0) : (⟨(got s).k, (got s).c, (got s).v⟩ : It).Ok := by
  obtain ⟨h1, _⟩ := put_got he
  obtain ⟨h2, h3⟩ := putE_ok h1
  exact ⟨h2, h3⟩
/-- The octets of messages that are put one behind the other. -/
def enc : List It → ByteArray
  | [] => ⟨#[]⟩
  | x :: r => x.bytes ++ enc r
theorem enc_snoc (l : List It) (x : It) : enc (l ++ [x]) = enc l ++ x.bytes := by
  induction l with
  | nil => apply bext; show (x.bytes ++ enc []).data.toList = (enc [] ++ x.bytes).data.toList; rw [app_list, app_list]; show _ ++ [] = [] ++ _; simp
  | cons a r ih =>
    show a.bytes ++ enc (r ++ [x]) = (a.bytes ++ enc r) ++ x.bytes
    rw [ih]
    apply bext
    simp only [app_list, List.append_assoc]
theorem enc_size (l : List It) (h : ∀ x ∈ l, x.Ok) : (enc l).size ≤ 129 * l.length := by
  induction l with
  | nil => exact Nat.le_refl _
  | cons a r ih =>
    have h1 := ih fun x hx => h x (List.mem_cons_of_mem _ hx)
    have h2 := bytes_size (h a List.mem_cons_self)
    have h3 := (h a List.mem_cons_self).v
    show (a.bytes ++ enc r).size ≤ _
    rw [ByteArray.size_append, List.length_cons]
    omega
theorem all_enc (l : List It) (h : ∀ x ∈ l, x.Ok) : all (enc l) = (l, 0, 0) := by
  have key : ∀ (r acc : List It), (∀ x ∈ r, x.Ok) → enc l = enc acc ++ enc r → Left (enc l) (enc acc).size acc → all (enc l) = (acc ++ r, 0, 0) := by
    intro r
    induction r with
    | nil =>
      intro acc _ he hL
      rw [List.append_nil]
      refine left_done hL ?_
      rw [he, ByteArray.size_append]
      show ¬ _ < _ + 0
      omega
    | cons x r ih =>
      intro acc hok he hL
      have hx := hok x List.mem_cons_self
      have hz := bytes_size hx
      have ex : (enc l).extract (enc acc).size (enc l).size = x.bytes ++ enc r := by
        apply bext
        rw [ext_drop, he, app_list, List.drop_left' (size_toList _)]; rfl
      have hlt : (enc acc).size < (enc l).size := by
        rw [he, ByteArray.size_append]
        show _ < _ + (x.bytes ++ enc r).size
        rw [ByteArray.size_append]; omega
      have hg := got_put hx (enc r)
      have hs := (left_step hL hlt (by rw [ex, hg])).1
      rw [ex, hg] at hs
      have e1 : (enc acc).size + x.bytes.size = (enc (acc ++ [x])).size := by rw [enc_snoc, ByteArray.size_append]
      simp only [e1] at hs
      have := ih (acc ++ [x]) (fun y hy => hok y (List.mem_cons_of_mem _ hy)) (by
        rw [he, enc_snoc]
        apply bext
        show (enc acc ++ (x.bytes ++ enc r)).data.toList = _
        simp only [app_list, List.append_assoc]) hs
      rw [this, List.append_assoc]; rfl
  have := key l [] h (by apply bext; rw [app_list]; rfl) (left_start _)
  rw [this]; rfl
end Go.Proofs.YtffahjlboakakaaDoor.Tlv
