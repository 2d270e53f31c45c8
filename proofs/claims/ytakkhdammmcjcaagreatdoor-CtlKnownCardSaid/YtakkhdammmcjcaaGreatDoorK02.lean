/-
  Layer 22, put together: TlvMath, PnMath. Conditions: as each theorem names them.
-/
import Derived.Test.YtakkhdammmcjcaaGreatDoorK01
namespace Go.Proofs.YtakkhdammmcjcaaGreatDoor.Tlv
open Base Ea Mem
/-- A message. -/
structure It where
 k : Nat
 c : Bool
 v : ByteArray
structure It.Ok (x : It) : Prop where
 k : x.k ≤ 63
 v : x.v.size ≤ 127
def It.bytes (x : It) : ByteArray := one (addr x.k x.c) ++ len x.v.size ++ x.v
/-- Which error has a message that is put? -/
def putE (k : Nat) (v : ByteArray) : Nat := if 63 < k then 2 else if 127 < v.size then 3 else 0
def putS (k : Nat) (c : Bool) (v : ByteArray) : ByteArray := if putE k v = 0 then It.bytes ⟨k, c, v⟩ else ⟨#[]⟩
theorem putE_ok {k : Nat} {v : ByteArray} (h : putE k v = 0) : k ≤ 63 ∧ v.size ≤ 127 := by
 unfold putE at h
 split at h
 · omega
 · split at h <;> omega
theorem putE_of {k : Nat} {v : ByteArray} (h : k ≤ 63) (h1 : v.size ≤ 127) : putE k v = 0 := by
 unfold putE; rw [if_neg (by omega), if_neg (by omega)]
theorem putS_ok {k : Nat} {c : Bool} {v : ByteArray} (h : putE k v = 0) : putS k c v = It.bytes ⟨k, c, v⟩ := if_pos h
/-- What a message is got as: its parts, how many octets, the error's number. -/
structure Got where
 k : Nat
 c : Bool
 v : ByteArray
 n : Nat
 e : Nat
def bad (e : Nat) : Got := ⟨0, false, ⟨#[]⟩, 0, e⟩
def got (s : ByteArray) : Got := match s.data.toList with
 | [] => bad 20
 | a :: r => if a.toNat % 2 = 0 then bad 70 else
  if tkE r ≠ 0 then bad 20 else
  if 127 < tkN r ∨ tkZ r ≠ 1 then bad 70 else
  if s.size < 2 + tkN r then bad 20 else ⟨a.toNat / 4, decide (a.toNat / 2 % 2 = 1), s.extract 2 (2 + tkN r), 2 + tkN r, 0⟩
theorem got_nil {s : ByteArray} (h : s.size = 0) : got s = bad 20 := by
 rw [nil_of_size h]; rfl
theorem got_even {s : ByteArray} (h : 0 < s.size) (he : s[0].toNat % 2 = 0) : got s = bad 70 := by
 unfold got; rw [cons_of_size h]; exact if_pos he
/-- The ways behind an odd first octet. -/
theorem got_ways {s : ByteArray} (h : 0 < s.size) (ho : s[0].toNat % 2 = 1) (t : ByteArray) (ht : s.extract 1 s.size = t) :
 (tk t.data.toList = (0, 0, 20) ∧ got s = bad 20) ∨
 (∃ m : Nat, m < 128 ∧ 1 ≤ t.size ∧ tk t.data.toList = (m, 1, 0) ∧ len m = t.extract 0 1 ∧ s.size < 2 + m ∧ got s = bad 20) ∨
 (∃ m : Nat, m < 128 ∧ 1 ≤ t.size ∧ tk t.data.toList = (m, 1, 0) ∧ len m = t.extract 0 1 ∧ 2 + m ≤ s.size ∧ got s = ⟨s[0].toNat / 4, decide (s[0].toNat / 2 % 2 = 1), s.extract 2 (2 + m), 2 + m, 0⟩) ∨
 (∃ m : Nat, m < 128 ∧ 2 ≤ t.size ∧ tk t.data.toList = (m, 2, 0) ∧ got s = bad 70) ∨
 (∃ m : Nat, 128 ≤ m ∧ m ≤ 32767 ∧ tk t.data.toList = (m, 2, 0) ∧ got s = bad 70) := by
 have hl : t.data.toList = s.data.toList.drop 1 := by rw [← ht, ext_drop]
 have hg : got s = if tkE t.data.toList ≠ 0 then bad 20 else
  if 127 < tkN t.data.toList ∨ tkZ t.data.toList ≠ 1 then bad 70 else
  if s.size < 2 + tkN t.data.toList then bad 20 else ⟨s[0].toNat / 4, decide (s[0].toNat / 2 % 2 = 1), s.extract 2 (2 + tkN t.data.toList), 2 + tkN t.data.toList, 0⟩ := by
  rw [hl]
  conv => lhs; unfold got
  rw [cons_of_size h]
  exact if_neg (by omega)
 rcases tk_cases t with hk | ⟨m, h1, h2, hk, h3⟩ | ⟨m, h1, h2, hk⟩ | ⟨m, h1, h2, h3, hk, h4⟩
 · refine .inl ⟨hk, ?_⟩
   rw [hg, if_pos (by unfold tkE; rw [hk]; decide)]
 · have e1 : tkE t.data.toList = 0 := by unfold tkE; rw [hk]
   have e2 : tkN t.data.toList = m := by unfold tkN; rw [hk]
   have e3 : tkZ t.data.toList = 1 := by unfold tkZ; rw [hk]
   rw [e1, e2, e3, if_neg (by decide), if_neg (by omega)] at hg
   by_cases hs : s.size < 2 + m
   · exact .inr (.inl ⟨m, h1, h2, hk, h3, hs, by rw [hg, if_pos hs]⟩)
   · exact .inr (.inr (.inl ⟨m, h1, h2, hk, h3, by omega, by rw [hg, if_neg hs]⟩))
 · refine .inr (.inr (.inr (.inl ⟨m, h1, h2, hk, ?_⟩)))
   rw [hg, if_neg (by unfold tkE; rw [hk]; simp), if_pos (by unfold tkZ; rw [hk]; exact .inr (by simp))]
 · refine .inr (.inr (.inr (.inr ⟨m, h1, h2, hk, ?_⟩)))
   rw [hg, if_neg (by unfold tkE; rw [hk]; simp), if_pos (by unfold tkZ; rw [hk]; exact .inr (by simp))]
theorem bytes_list {x : It} (h : x.Ok) : x.bytes.data.toList = UInt8.ofNat (addr x.k x.c) :: UInt8.ofNat (2 * x.v.size + 1) :: x.v.data.toList := by
 unfold It.bytes
 rw [app_list, app_list, len_one (by omega) (by have := h.v; omega)]
 show [UInt8.ofNat _] ++ [UInt8.ofNat _] ++ _ = _
 simp
theorem bytes_size {x : It} (h : x.Ok) : x.bytes.size = 2 + x.v.size := by
 have h1 := congrArg List.length (bytes_list h)
 simp only [List.length_cons, size_toList] at h1
 omega
/-- What is put is got as it was, whatever stands behind it. -/
theorem got_put {x : It} (h : x.Ok) (s : ByteArray) : got (x.bytes ++ s) = ⟨x.k, x.c, x.v, x.bytes.size, 0⟩ := by
 have hl := bytes_list h
 have hk := h.k
 have hv := h.v
 have hz := bytes_size h
 obtain ⟨e1, e2, e3⟩ := addr_is _ x.k (by omega) x.c rfl
 have ho : addr x.k x.c % 2 = 1 := of_decide_eq_true e3
 have ha := addr_lt x.k x.c
 have hn := nat_oct _ ha
 have hm := nat_oct (2 * x.v.size + 1) (by omega)
 unfold got
 rw [app_list, hl]
 simp only [List.cons_append]
 have et : tk (UInt8.ofNat (2 * x.v.size + 1) :: (x.v.data.toList ++ s.data.toList)) = (x.v.size, 1, 0) := by
  rw [tk_odd _ _ (by rw [hm]; omega), hm]
  congr 1; omega
 rw [hn, if_neg (by omega)]
 unfold tkE tkN tkZ
 rw [et]
 simp only [ne_eq, not_true_eq_false, if_false, or_false]
 rw [if_neg (by omega), if_neg (by rw [ByteArray.size_append]; omega), hz]
 have f1 : addr x.k x.c / 4 = x.k := (show spD (addr x.k x.c) = addr x.k x.c / 4 from if_pos ho).symm.trans e1
 have f2 : decide (addr x.k x.c / 2 % 2 = 1) = x.c := (show spC (addr x.k x.c) = decide (addr x.k x.c / 2 % 2 = 1) by unfold spC; simp [ho]).symm.trans e2
 have f3 : (x.bytes ++ s).extract 2 (2 + x.v.size) = x.v := by
  apply bext
  rw [ext_list, app_list, hl]
  rw [List.drop_take]
  show List.take (2 + x.v.size - 2) (x.v.data.toList ++ s.data.toList) = _
  rw [show 2 + x.v.size - 2 = x.v.data.toList.length by rw [size_toList]; omega, List.take_left]
 rw [f1, f2, f3]
/-- What is got is put as it was. -/
theorem put_got {s : ByteArray} (h : (got s).e = 0) : putE (got s).k (got s).v = 0 ∧ 2 ≤ (got s).n ∧ (got s).n ≤ s.size ∧ It.bytes ⟨(got s).k, (got s).c, (got s).v⟩ = s.extract 0 (got s).n := by
 by_cases h0 : s.size = 0
 · rw [got_nil h0] at h; exact absurd h (by decide)
 have h1 : 0 < s.size := by omega
 rcases Nat.mod_two_eq_zero_or_one s[0].toNat with he | ho
 · rw [got_even h1 he] at h; exact absurd h (by decide)
 rcases got_ways h1 ho _ rfl with ⟨_, hg⟩ | ⟨_, _, _, _, _, _, hg⟩ | ⟨m, hm, ht, hk, hl, hs, hg⟩ | ⟨_, _, _, _, hg⟩ | ⟨_, _, _, _, hg⟩
 · rw [hg] at h; exact absurd h (by decide)
 · rw [hg] at h; exact absurd h (by decide)
 · rw [hg]
   have b0 := oct_lt s[0]
   have hz : (s.extract 2 (2 + m)).size = m := by rw [ByteArray.size_extract]; omega
   refine ⟨putE_of (by show s[0].toNat / 4 ≤ 63; omega) (by show (s.extract 2 (2 + m)).size ≤ 127; omega), by show 2 ≤ 2 + m; omega, hs, ?_⟩
   show It.bytes ⟨s[0].toNat / 4, decide (s[0].toNat / 2 % 2 = 1), s.extract 2 (2 + m)⟩ = s.extract 0 (2 + m)
   unfold It.bytes
   have ha : addr (s[0].toNat / 4) (decide (s[0].toNat / 2 % 2 = 1)) = s[0].toNat := by
    have hk : spK s[0].toNat = true := decide_eq_true ho
    have := addr_sp s[0].toNat b0 hk
    unfold spD spC at this
    rw [if_pos ho] at this
    simpa [ho] using this
   show one (addr (s[0].toNat / 4) (decide (s[0].toNat / 2 % 2 = 1))) ++ len ((s.extract 2 (2 + m)).size : Int) ++ s.extract 2 (2 + m) = s.extract 0 (2 + m)
   rw [ha, hz, hl]
   apply bext
   have a1 : ((s.extract 1 s.size).extract 0 1).data.toList = (s.data.toList.drop 1).take 1 := by rw [ext_list, ext_drop, List.drop_zero]
   have a2 : (s.extract 2 (2 + m)).data.toList = (s.data.toList.take (2 + m)).drop 2 := ext_list _ _ _
   have a3 : (s.extract 0 (2 + m)).data.toList = s.data.toList.take (2 + m) := by rw [ext_list, List.drop_zero]
   rw [app_list, app_list, a1, a2, a3]
   show [UInt8.ofNat s[0].toNat] ++ _ ++ _ = _
   rw [oct_nat]
   have hc := cons_of_size h1
   have e1 : [s[0]] ++ (s.data.toList.drop 1).take 1 = s.data.toList.take 2 := by
    conv => rhs; rw [hc]
    rfl
   rw [e1, List.drop_take, show 2 + m - 2 = m by omega, List.take_add]
 · rw [hg] at h; exact absurd h (by decide)
 · rw [hg] at h; exact absurd h (by decide)
theorem got_e (s : ByteArray) : (got s).e = 0 ∨ ((got s).e = 20 ∨ (got s).e = 70) ∧ got s = bad (got s).e := by
 by_cases h0 : s.size = 0
 · rw [got_nil h0]; exact .inr ⟨.inl rfl, rfl⟩
 have h1 : 0 < s.size := by omega
 rcases Nat.mod_two_eq_zero_or_one s[0].toNat with he | ho
 · rw [got_even h1 he]; exact .inr ⟨.inr rfl, rfl⟩
 rcases got_ways h1 ho _ rfl with ⟨_, hg⟩ | ⟨_, _, _, _, _, _, hg⟩ | ⟨m, hm, ht, hk, hl, hs, hg⟩ | ⟨_, _, _, _, hg⟩ | ⟨_, _, _, _, hg⟩
 · rw [hg]; exact .inr ⟨.inl rfl, rfl⟩
 · rw [hg]; exact .inr ⟨.inl rfl, rfl⟩
 · rw [hg]; exact .inl rfl
 · rw [hg]; exact .inr ⟨.inr rfl, rfl⟩
 · rw [hg]; exact .inr ⟨.inr rfl, rfl⟩
/-- All messages that octets are, behind those that were got: how many octets are ahead of the first that is none, and its error. -/
def allA (s : ByteArray) : Nat → Nat → List It → List It × Nat × Nat
 | 0, _, acc => (acc, 0, 0)
 | f + 1, at_, acc => if at_ < s.size then
  if (got (s.extract at_ s.size)).e ≠ 0 then ([], at_, (got (s.extract at_ s.size)).e)
  else allA s f (at_ + (got (s.extract at_ s.size)).n) (acc ++ [⟨(got (s.extract at_ s.size)).k, (got (s.extract at_ s.size)).c, (got (s.extract at_ s.size)).v⟩])
  else (acc, 0, 0)
def all (s : ByteArray) : List It × Nat × Nat := allA s (s.size + 1) 0 []
/-- A loop's state: what is still to come gives the answer. -/
def Left (s : ByteArray) (at_ : Nat) (acc : List It) : Prop := ∃ f, s.size < f + at_ ∧ allA s f at_ acc = all s
theorem left_start (s : ByteArray) : Left s 0 [] := ⟨s.size + 1, by omega, rfl⟩
theorem left_step {s : ByteArray} {at_ : Nat} {acc : List It} (h : Left s at_ acc) (hlt : at_ < s.size) (he : (got (s.extract at_ s.size)).e = 0) :
 Left s (at_ + (got (s.extract at_ s.size)).n) (acc ++ [⟨(got (s.extract at_ s.size)).k, (got (s.extract at_ s.size)).c, (got (s.extract at_ s.size)).v⟩]) ∧ 2 ≤ (got (s.extract at_ s.size)).n ∧ at_ + (got (s.extract at_ s.size)).n ≤ s.size := by
 obtain ⟨f, hf, h⟩ := h
 obtain ⟨_, h2, h3, _⟩ := put_got he
 rw [ext_size] at h3
 match f, hf, h with
 | 0, hf, _ => omega
 | f + 1, hf, h =>
  rw [allA, if_pos hlt, if_neg (by rw [he]; decide)] at h
  exact ⟨⟨f, by omega, h⟩, h2, by omega⟩
theorem left_bad {s : ByteArray} {at_ : Nat} {acc : List It} (h : Left s at_ acc) (hlt : at_ < s.size) (he : (got (s.extract at_ s.size)).e ≠ 0) : all s = ([], at_, (got (s.extract at_ s.size)).e) := by
 obtain ⟨f, hf, h⟩ := h
 match f, hf, h with
 | 0, hf, _ => omega
 | f + 1, hf, h =>
  rw [allA, if_pos hlt, if_pos he] at h
  exact h.symm
theorem left_done {s : ByteArray} {at_ : Nat} {acc : List It} (h : Left s at_ acc) (hge : ¬ at_ < s.size) : all s = (acc, 0, 0) := by
 obtain ⟨f, hf, h⟩ := h
 match f, hf, h with
 | 0, hf, h => exact h.symm
 | f + 1, hf, h =>
  rw [allA, if_neg hge] at h
  exact h.symm
theorem all_len (s : ByteArray) : (all s).1.length ≤ s.size := by
 have key : ∀ (f k : Nat) (acc : List It), acc.length ≤ k → k ≤ s.size → (allA s f k acc).1.length ≤ s.size := by
  intro f
  induction f with
  | zero => intro k acc h1 h2; show acc.length ≤ _; omega
  | succ f ih =>
   intro k acc h1 h2
   rw [allA]
   split
   · split
     · exact Nat.zero_le _
     · rename_i h3 h4
       obtain ⟨_, h5, h6, _⟩ := put_got (s := s.extract k s.size) (by omega)
       rw [ext_size] at h6
       exact ih _ _ (by simp; omega) (by omega)
   · show acc.length ≤ _; omega
 exact key _ 0 [] (Nat.zero_le _) (Nat.zero_le _)
theorem got_It {s : ByteArray} (he : (got s).e = 0) : (⟨(got s).k, (got s).c, (got s).v⟩ : It).Ok := by
 obtain ⟨h1, _⟩ := put_got he
 obtain ⟨h2, h3⟩ := putE_ok h1
 exact ⟨h2, h3⟩
/-- The octets of messages that are put one behind the other. -/
def enc : List It → ByteArray
 | [] => ⟨#[]⟩
 | x :: r => x.bytes ++ enc r
theorem enc_snoc (l : List It) (x : It) : enc (l ++ [x]) = enc l ++ x.bytes := by
 induction l with
 | nil => apply bext; show (x.bytes ++ enc []).data.toList = (enc [] ++ x.bytes).data.toList; rw [app_list, app_list]; show _ ++ [] = [] ++ _; simp
 | cons a r ih =>
  show a.bytes ++ enc (r ++ [x]) = (a.bytes ++ enc r) ++ x.bytes
  rw [ih]
  apply bext
  simp only [app_list, List.append_assoc]
theorem enc_size (l : List It) (h : ∀ x ∈ l, x.Ok) : (enc l).size ≤ 129 * l.length := by
 induction l with
 | nil => exact Nat.le_refl _
 | cons a r ih =>
  have h1 := ih fun x hx => h x (List.mem_cons_of_mem _ hx)
  have h2 := bytes_size (h a List.mem_cons_self)
  have h3 := (h a List.mem_cons_self).v
  show (a.bytes ++ enc r).size ≤ _
  rw [ByteArray.size_append, List.length_cons]
  omega
theorem all_enc (l : List It) (h : ∀ x ∈ l, x.Ok) : all (enc l) = (l, 0, 0) := by
 have key : ∀ (r acc : List It), (∀ x ∈ r, x.Ok) → enc l = enc acc ++ enc r → Left (enc l) (enc acc).size acc → all (enc l) = (acc ++ r, 0, 0) := by
  intro r
  induction r with
  | nil =>
   intro acc _ he hL
   rw [List.append_nil]
   refine left_done hL ?_
   rw [he, ByteArray.size_append]
   show ¬ _ < _ + 0
   omega
  | cons x r ih =>
   intro acc hok he hL
   have hx := hok x List.mem_cons_self
   have hz := bytes_size hx
   have ex : (enc l).extract (enc acc).size (enc l).size = x.bytes ++ enc r := by
    apply bext
    rw [ext_drop, he, app_list, List.drop_left' (size_toList _)]; rfl
   have hlt : (enc acc).size < (enc l).size := by
    rw [he, ByteArray.size_append]
    show _ < _ + (x.bytes ++ enc r).size
    rw [ByteArray.size_append]; omega
   have hg := got_put hx (enc r)
   have hs := (left_step hL hlt (by rw [ex, hg])).1
   rw [ex, hg] at hs
   have e1 : (enc acc).size + x.bytes.size = (enc (acc ++ [x])).size := by rw [enc_snoc, ByteArray.size_append]
   simp only [e1] at hs
   have := ih (acc ++ [x]) (fun y hy => hok y (List.mem_cons_of_mem _ hy)) (by
    rw [he, enc_snoc]
    apply bext
    show (enc acc ++ (x.bytes ++ enc r)).data.toList = _
    simp only [app_list, List.append_assoc]) hs
   rw [this, List.append_assoc]; rfl
 have := key l [] h (by apply bext; rw [app_list]; rfl) (left_start _)
 rw [this]; rfl
end Go.Proofs.YtakkhdammmcjcaaGreatDoor.Tlv
namespace Go.Proofs.YtakkhdammmcjcaaGreatDoor.Pn
open Base Mem
/-- Parameters. -/
structure Pr where
 d : Int
 f : Int
 c : Int
 r : Int
 t : Int
 n : Int
 z : Int
 k : Int
/-- The octets among them are octets. -/
structure Pr.In (p : Pr) : Prop where
 d : 0 ≤ p.d ∧ p.d < 256
 f : 0 ≤ p.f ∧ p.f < 256
 c : 0 ≤ p.c ∧ p.c < 256
 r : 0 ≤ p.r ∧ p.r < 256
def zero : Pr := ⟨0, 0, 0, 0, 0, 0, 0, 0⟩
/-- May there be such parameters? -/
structure Pr.May (p : Pr) : Prop where
 d : 1 ≤ p.d ∧ p.d ≤ 63
 f : p.f ≤ 2
 c : p.c ≤ 3
 r : p.r ≤ 63
 t : 1 ≤ p.t ∧ p.t ≤ 255
 n : 1 ≤ p.n ∧ p.n ≤ 65535
 z : 0 ≤ p.z ∧ p.z ≤ 255
 k : 1 ≤ p.k ∧ p.k ≤ 7
def may (p : Pr) : Bool := decide (1 ≤ p.d ∧ p.d ≤ 63) && decide (p.f ≤ 2) && decide (p.c ≤ 3) && decide (p.r ≤ 63) && decide (1 ≤ p.t ∧ p.t ≤ 255) && decide (1 ≤ p.n ∧ p.n ≤ 65535) && decide (0 ≤ p.z ∧ p.z ≤ 255) && decide (1 ≤ p.k ∧ p.k ≤ 7)
theorem may_iff (p : Pr) : may p = true ↔ p.May := by
 unfold may
 simp only [Bool.and_eq_true, decide_eq_true_eq]
 exact ⟨fun ⟨⟨⟨⟨⟨⟨⟨h1, h2⟩, h3⟩, h4⟩, h5⟩, h6⟩, h7⟩, h8⟩ => ⟨h1, h2, h3, h4, h5, h6, h7, h8⟩, fun ⟨h1, h2, h3, h4, h5, h6, h7, h8⟩ => ⟨⟨⟨⟨⟨⟨⟨h1, h2⟩, h3⟩, h4⟩, h5⟩, h6⟩, h7⟩, h8⟩⟩
/-- What == of two answers. -/
def eqP (p q : Pr) : Bool := (p.d == q.d) && (p.f == q.f) && (p.c == q.c) && (p.r == q.r) && (p.t == q.t) && (p.n == q.n) && (p.z == q.z) && (p.k == q.k)
theorem eqP_self (p : Pr) : eqP p p = true := by simp [eqP]
theorem eqP_eq {p q : Pr} (h : eqP p q = true) : p = q := by
 simp only [eqP, Bool.and_eq_true, beq_iff_eq] at h
 obtain ⟨⟨⟨⟨⟨⟨⟨h1, h2⟩, h3⟩, h4⟩, h5⟩, h6⟩, h7⟩, h8⟩ := h
 cases p; cases q; simp_all
theorem eqP_iff (p q : Pr) : eqP p q = true ↔ p = q := ⟨eqP_eq, fun h => h ▸ eqP_self p⟩
/-- Each parameter brought into its bounds. -/
def bounded (p : Pr) : Pr := ⟨min (max p.d 1) 63, min p.f 2, min p.c 3, min p.r 63, min (max p.t 1) 255, min (max p.n 1) 65535, min (max p.z 0) 255, min (max p.k 1) 7⟩
theorem may_bounded (p : Pr) : eqP p (bounded p) = may p := by
 rw [Bool.eq_iff_iff, may_iff]
 simp only [eqP, bounded, Bool.and_eq_true, beq_iff_eq]
 refine ⟨fun ⟨⟨⟨⟨⟨⟨⟨h1, h2⟩, h3⟩, h4⟩, h5⟩, h6⟩, h7⟩, h8⟩ => ⟨?_, ?_, ?_, ?_, ?_, ?_, ?_, ?_⟩, fun ⟨h1, h2, h3, h4, h5, h6, h7, h8⟩ => ⟨⟨⟨⟨⟨⟨⟨?_, ?_⟩, ?_⟩, ?_⟩, ?_⟩, ?_⟩, ?_⟩, ?_⟩⟩ <;> omega
theorem bounded_in {p : Pr} (h : p.In) : (bounded p).In := by
 obtain ⟨h1, h2, h3, h4⟩ := h
 refine ⟨?_, ?_, ?_, ?_⟩ <;> simp only [bounded] <;> omega
/-- The eight octets. -/
def octets (p : Pr) : ByteArray := ⟨#[UInt8.ofNat p.d.toNat, UInt8.ofNat (p.f + 16 * p.c).toNat, UInt8.ofNat p.r.toNat, UInt8.ofNat p.t.toNat, UInt8.ofNat (p.n % 256).toNat, UInt8.ofNat (p.n / 256).toNat, UInt8.ofNat p.z.toNat, UInt8.ofNat p.k.toNat]⟩
theorem octets_size (p : Pr) : (octets p).size = 8 := rfl
theorem octets_le (p : Pr) : 8 ≤ (octets p).size := Nat.le_refl 8
/-- What Put answers. -/
def putS (p : Pr) : ByteArray := if may p then octets p else ⟨#[]⟩
def putE (p : Pr) : Int := if may p then 0 else 2
/-- What eight octets say. -/
def read (s : ByteArray) (h : 8 ≤ s.size) : Pr := ⟨(s[0].toNat : Int), (s[1].toNat : Int) % (16 : Int), (s[1].toNat : Int) / (16 : Int), (s[2].toNat : Int), (s[3].toNat : Int), (s[4].toNat : Int) + (256 : Int) * (s[5].toNat : Int), (s[6].toNat : Int), (s[7].toNat : Int)⟩
theorem read_in (s : ByteArray) (h : 8 ≤ s.size) : (read s h).In := by
 have h0 := oct_lt s[0]
 have h1 := oct_lt s[1]
 have h2 := oct_lt s[2]
 refine ⟨?_, ?_, ?_, ?_⟩ <;> simp only [read] <;> omega
theorem cons8 (s : ByteArray) (h : 8 ≤ s.size) : s.data.toList = s[0] :: s[1] :: s[2] :: s[3] :: s[4] :: s[5] :: s[6] :: s[7] :: s.data.toList.drop 8 := by
 have hd : ∀ i (hi : i < s.size), s.data.toList.drop i = s[i] :: s.data.toList.drop (i + 1) := fun i hi => List.drop_eq_getElem_cons (l := s.data.toList) (i := i) (by simpa using hi)
 rw [← hd 7 (by omega), ← hd 6 (by omega), ← hd 5 (by omega), ← hd 4 (by omega), ← hd 3 (by omega), ← hd 2 (by omega), ← hd 1 (by omega), ← hd 0 (by omega)]
 rfl
theorem oct_back (c : UInt8) (x : Nat) (h : x = c.toNat) : UInt8.ofNat x = c := by rw [h]; simp
theorem octets_read (s : ByteArray) (h : 8 ≤ s.size) : octets (read s h) = s.extract 0 8 := by
 apply bext
 rw [ext_list, List.drop_zero]
 have e := cons8 s h
 have h0 := oct_lt s[0]
 have h1 := oct_lt s[1]
 have h4 := oct_lt s[4]
 have h5 := oct_lt s[5]
 rw [e]
 show [_, _, _, _, _, _, _, _] = [_, _, _, _, _, _, _, _]
 simp only [List.cons.injEq, read]
 refine ⟨oct_back _ _ ?_, oct_back _ _ ?_, oct_back _ _ ?_, oct_back _ _ ?_, oct_back _ _ ?_, oct_back _ _ ?_, oct_back _ _ ?_, oct_back _ _ ?_, trivial⟩ <;> omega
theorem octets_read_eq (s : ByteArray) (h : 8 ≤ s.size) (h' : s.size = 8) : octets (read s h) = s := by
 rw [octets_read]
 apply bext
 rw [ext_list, List.drop_zero, List.take_of_length_le (by rw [size_toList]; omega)]
theorem octets_read_ne (s : ByteArray) (h : 8 ≤ s.size) (h' : 8 < s.size) : octets (read s h) ≠ s := by
 intro e
 have := congrArg ByteArray.size e
 rw [octets_size] at this
 omega
theorem ofNat_toNat {x : Int} (h : 0 ≤ x) (h' : x < 256) : ((UInt8.ofNat x.toNat).toNat : Int) = x := by
 rw [UInt8.toNat_ofNat']; omega
theorem read_octets (p : Pr) (h : p.In) (hm : p.May) : read (octets p) (octets_le p) = p := by
 obtain ⟨m1, m2, m3, m4, m5, m6, m7, m8⟩ := hm
 obtain ⟨i1, i2, i3, i4⟩ := h
 have e0 : (((octets p)[0]'(by rw [octets_size]; decide)).toNat : Int) = p.d := ofNat_toNat (by omega) (by omega)
 have e1 : (((octets p)[1]'(by rw [octets_size]; decide)).toNat : Int) = p.f + 16 * p.c := ofNat_toNat (by omega) (by omega)
 have e2 : (((octets p)[2]'(by rw [octets_size]; decide)).toNat : Int) = p.r := ofNat_toNat (by omega) (by omega)
 have e3 : (((octets p)[3]'(by rw [octets_size]; decide)).toNat : Int) = p.t := ofNat_toNat (by omega) (by omega)
 have e4 : (((octets p)[4]'(by rw [octets_size]; decide)).toNat : Int) = p.n % 256 := ofNat_toNat (by omega) (by omega)
 have e5 : (((octets p)[5]'(by rw [octets_size]; decide)).toNat : Int) = p.n / 256 := ofNat_toNat (by omega) (by omega)
 have e6 : (((octets p)[6]'(by rw [octets_size]; decide)).toNat : Int) = p.z := ofNat_toNat (by omega) (by omega)
 have e7 : (((octets p)[7]'(by rw [octets_size]; decide)).toNat : Int) = p.k := ofNat_toNat (by omega) (by omega)
 have r1 : (p.f + 16 * p.c) % 16 = p.f := by omega
 have r2 : (p.f + 16 * p.c) / 16 = p.c := by omega
 have r3 : p.n % 256 + 256 * (p.n / 256) = p.n := by omega
 unfold read
 rw [e0, e1, e2, e3, e4, e5, e6, e7, r1, r2, r3]
/-- What Get answers. -/
def gotP (s : ByteArray) : Pr := if h : 8 ≤ s.size then if s.size = 8 ∧ may (read s h) = true then read s h else zero else zero
def gotE (s : ByteArray) : Int := if h : 8 ≤ s.size then if s.size = 8 ∧ may (read s h) = true then 0 else 70 else 20
theorem got_short {s : ByteArray} (h : s.size < 8) : gotP s = zero ∧ gotE s = 20 := by
 unfold gotP gotE; rw [dif_neg (by omega), dif_neg (by omega)]; exact ⟨rfl, rfl⟩
theorem got_no {s : ByteArray} (h : 8 ≤ s.size) (h' : 8 < s.size ∨ may (read s h) = false) : gotP s = zero ∧ gotE s = 70 := by
 unfold gotP gotE
 have : ¬ (s.size = 8 ∧ may (read s h) = true) := by
  rintro ⟨h1, h2⟩
  rcases h' with h' | h'
  · omega
  · rw [h2] at h'; cases h'
 rw [dif_pos h, dif_pos h, if_neg this, if_neg this]; exact ⟨rfl, rfl⟩
theorem got_ok {s : ByteArray} (h : 8 ≤ s.size) (h1 : s.size = 8) (h2 : may (read s h) = true) : gotP s = read s h ∧ gotE s = 0 := by
 unfold gotP gotE
 rw [dif_pos h, dif_pos h, if_pos ⟨h1, h2⟩, if_pos ⟨h1, h2⟩]; exact ⟨rfl, rfl⟩
theorem zero_in : zero.In := by refine ⟨?_, ?_, ?_, ?_⟩ <;> decide
theorem gotP_in (s : ByteArray) : (gotP s).In := by
 unfold gotP
 split
 · split
   · exact read_in _ _
   · exact zero_in
 · exact zero_in
/-- What is put is got as it was. -/
theorem got_octets (p : Pr) (h : p.In) (hm : may p = true) : gotP (octets p) = p ∧ gotE (octets p) = 0 := by
 have e := read_octets p h ((may_iff p).1 hm)
 have := got_ok (s := octets p) (octets_le p) rfl (by rw [e]; exact hm)
 rw [e] at this
 exact this
theorem got_nothing : gotP ⟨#[]⟩ = zero ∧ gotE ⟨#[]⟩ = 20 := got_short (by decide)
/-- What is got is put as it was. -/
theorem got_back (s : ByteArray) : (gotE s = 0 ∧ may (gotP s) = true ∧ octets (gotP s) = s) ∨ ((gotE s = 20 ∨ gotE s = 70) ∧ gotP s = zero) := by
 by_cases h : 8 ≤ s.size
 · by_cases h1 : s.size = 8
   · cases h2 : may (read s h)
     · obtain ⟨e1, e2⟩ := got_no h (.inr h2)
       exact .inr ⟨.inr e2, e1⟩
     · obtain ⟨e1, e2⟩ := got_ok h h1 h2
       exact .inl ⟨e2, by rw [e1]; exact h2, by rw [e1]; exact octets_read_eq s h h1⟩
   · obtain ⟨e1, e2⟩ := got_no h (.inl (by omega))
     exact .inr ⟨.inr e2, e1⟩
 · obtain ⟨e1, e2⟩ := got_short (s := s) (by omega)
   exact .inr ⟨.inl e2, e1⟩
/-- What is agreed. -/
def agree (o a : Pr) : Pr := ⟨a.d, a.f, a.c, a.r, a.t, min o.n a.n, a.z, min o.k a.k⟩
theorem agree_in {o a : Pr} (h : a.In) : (agree o a).In := ⟨h.d, h.f, h.c, h.r⟩
/-- Does one lower the other one? -/
def lowers (a b : Pr) : Bool := (a.d == b.d) && (a.f == b.f) && (a.c == b.c) && (a.r == b.r) && (a.t == b.t) && (a.z == b.z) && decide (a.n ≤ b.n) && decide (a.k ≤ b.k)
theorem lowers_agree (a b : Pr) : eqP a (agree a b) = lowers a b := by
 rw [Bool.eq_iff_iff]
 simp only [eqP, agree, lowers, Bool.and_eq_true, beq_iff_eq, decide_eq_true_eq]
 refine ⟨fun ⟨⟨⟨⟨⟨⟨⟨h1, h2⟩, h3⟩, h4⟩, h5⟩, h6⟩, h7⟩, h8⟩ => ⟨⟨⟨⟨⟨⟨⟨?_, ?_⟩, ?_⟩, ?_⟩, ?_⟩, ?_⟩, ?_⟩, ?_⟩, fun ⟨⟨⟨⟨⟨⟨⟨h1, h2⟩, h3⟩, h4⟩, h5⟩, h6⟩, h7⟩, h8⟩ => ⟨⟨⟨⟨⟨⟨⟨?_, ?_⟩, ?_⟩, ?_⟩, ?_⟩, ?_⟩, ?_⟩, ?_⟩⟩ <;> omega
theorem lowers_of_agree (o a : Pr) : lowers (agree o a) a = true := by
 have h1 : min o.n a.n ≤ a.n := by omega
 have h2 : min o.k a.k ≤ a.k := by omega
 simp [agree, lowers, h1, h2]
theorem pr_ext {p q : Pr} (h1 : p.d = q.d) (h2 : p.f = q.f) (h3 : p.c = q.c) (h4 : p.r = q.r) (h5 : p.t = q.t) (h6 : p.n = q.n) (h7 : p.z = q.z) (h8 : p.k = q.k) : p = q := by
 cases p; cases q; simp_all
theorem agree_again (o a : Pr) : agree o (agree o a) = agree o a := by
 apply pr_ext <;> simp only [agree] <;> omega
theorem agree_asked (o a : Pr) : agree a (agree o a) = agree o a := by
 apply pr_ext <;> simp only [agree] <;> omega
theorem agree_may {o a : Pr} (h : may o = true) (h' : may a = true) : may (agree o a) = true := by
 rw [may_iff] at *
 obtain ⟨m1, m2, m3, m4, m5, m6, m7, m8⟩ := h
 obtain ⟨a1, a2, a3, a4, a5, a6, a7, a8⟩ := h'
 refine ⟨?_, ?_, ?_, ?_, ?_, ?_, ?_, ?_⟩ <;> simp only [agree] <;> omega
end Go.Proofs.YtakkhdammmcjcaaGreatDoor.Pn
