/-
  The plain mathematics of layer 4: a frame's bytes, what bytes say, that both fit together, and that bodies that begin alike are as long. Conditions: the bounds that each lemma names.
-/
import Derived.Test.YthlciaomfpephaaDoorFcsMath
import Derived.Test.YthlciaomfpephaaDoorEaMath
import Derived.Test.YthlciaomfpephaaDoorFieldRef
namespace Go.Proofs.YthlciaomfpephaaDoor.Basic
open Go.Proofs.YthlciaomfpephaaDoor.Base Go.Proofs.YthlciaomfpephaaDoor.Ea Go.Proofs.YthlciaomfpephaaDoor.Field
/-- A frame's parts. -/
structure Fr where
  d : Nat
  c : Bool
  k : Nat
  pf : Bool
  ns : Nat
  nr : Nat
  info : ByteArray
structure Fr.In (f : Fr) : Prop where
  d : f.d < 256
  k : f.k < 256
  ns : f.ns < 256
  nr : f.nr < 256
def room (n1 : Int) : Nat := if n1 < 0 then 0 else if 128 < n1 then 128 else n1.toNat
theorem room_le (n1 : Int) : room n1 ≤ 128 := by unfold room; split <;> (try split) <;> omega
def okA (a : Nat) : Bool := spK a && decide (a ≠ 249)
def mayF (k : Nat) (c : Bool) (i : ByteArray) : Bool := mayB k c && (decide (i.size = 0) || carryB k)
def two (a b : Nat) : ByteArray := ⟨#[UInt8.ofNat a, UInt8.ofNat b]⟩
def one (a : Nat) : ByteArray := ⟨#[UInt8.ofNat a]⟩
def hdB (a c n : Nat) : ByteArray := two a c ++ len n
def ckB (k : Nat) (h i : ByteArray) : ByteArray := if k = 5 then h else h ++ i
def bdB (a c x : Nat) (i : ByteArray) : ByteArray := hdB a c i.size ++ i ++ one x
def Fr.a (f : Fr) (ini : Bool) : Nat := addr f.d (f.c == ini)
def Fr.o (f : Fr) : Nat := pC f.k f.pf f.ns f.nr
def Fr.hd (f : Fr) (ini : Bool) : ByteArray := hdB (f.a ini) f.o f.info.size
def Fr.x (f : Fr) (ini : Bool) : Nat := Fcs.sum (ckB f.k (f.hd ini) f.info).data.toList
def Fr.body (f : Fr) (ini : Bool) : ByteArray := bdB (f.a ini) f.o (f.x ini) f.info
def Fr.bytes (f : Fr) (ini : Bool) : ByteArray := one 249 ++ f.body ini ++ one 249
def Fr.may (f : Fr) : Bool := okP f.k f.ns f.nr && mayF f.k f.c f.info
def Fr.e (f : Fr) (ini : Bool) (n1 : Int) : Nat := if (okA (f.a ini) && f.may) = true then if room n1 < f.info.size then 3 else 0 else 2
theorem Fr.a_lt (f : Fr) (ini : Bool) : f.a ini < 256 := addr_lt _ _
theorem Fr.o_lt (f : Fr) : f.o < 256 := by
  unfold Fr.o pC
  split
  · rename_i h; exact Field.oct_lt _ h
  · decide
theorem Fr.x_lt (f : Fr) (ini : Bool) : f.x ini < 256 := Fcs.sum_lt _
/-- Bytes that are a body, but for what the control octet says, and the check. -/
structure IsB (s : ByteArray) (a c x : Nat) (i : ByteArray) : Prop where
  ha : a < 256
  hc : c < 256
  hx : x < 256
  ok : okA a = true
  hl : i.size ≤ 32767
  eq : s = bdB a c x i
def fr (a c : Nat) (i : ByteArray) (ini : Bool) : Fr := ⟨spD a, spC a == ini, gK c, gPF c, gNS c, gNR c, i⟩
def dE (a c x : Nat) (i : ByteArray) (ini : Bool) (n1 : Int) : Nat :=
  if gK c = 0 then 30 else if Fcs.sum (ckB (gK c) (hdB a c i.size) i).data.toList ≠ x then 41 else if mayF (gK c) (spC a == ini) i = false then 40 else if room n1 < i.size then 3 else 0
theorem okA_odd {a : Nat} (h : okA a = true) : spK a = true ∧ a ≠ 249 := by simpa [okA] using h
theorem dlci_of {d : Nat} {b : Bool} (h : okA (addr d b) = true) : d < 64 := by
  by_cases hd : 63 < d
  · have : addr d b = 0 := if_pos hd
    rw [this] at h; exact absurd h (by decide)
  · omega
theorem e_ok {f : Fr} {ini : Bool} {n1 : Int} (h : f.e ini n1 = 0) : okA (f.a ini) = true ∧ okP f.k f.ns f.nr = true ∧ mayF f.k f.c f.info = true ∧ f.info.size ≤ room n1 := by
  unfold Fr.e at h
  split at h
  · rename_i h1
    split at h
    · omega
    · simp only [Fr.may, Bool.and_eq_true] at h1
      exact ⟨h1.1, h1.2.1, h1.2.2, by omega⟩
  · omega
theorem e_of {f : Fr} {ini : Bool} {n1 : Int} (h1 : okA (f.a ini) = true) (h2 : okP f.k f.ns f.nr = true) (h3 : mayF f.k f.c f.info = true) (h4 : f.info.size ≤ room n1) : f.e ini n1 = 0 := by
  unfold Fr.e
  rw [if_pos (by simp [Fr.may, h1, h2, h3]), if_neg (by omega)]
theorem beq_beq (c i : Bool) : ((c == i) == i) = c := by cases c <;> cases i <;> rfl
theorem Fr.ext' {f g : Fr} (h : f.d = g.d) (h1 : f.c = g.c) (h2 : f.k = g.k) (h3 : f.pf = g.pf) (h4 : f.ns = g.ns) (h5 : f.nr = g.nr) (h6 : f.info = g.info) : f = g := by
  cases f; cases g; simp_all
/-- What is encoded is a body that says the same frame. -/
theorem enc_dec {f : Fr} {ini : Bool} {n1 : Int} (h : f.e ini n1 = 0) : IsB (f.body ini) (f.a ini) f.o (f.x ini) f.info ∧ dE (f.a ini) f.o (f.x ini) f.info ini n1 = 0 ∧ fr (f.a ini) f.o f.info ini = f := by
  obtain ⟨h1, h2, h3, h4⟩ := e_ok h
  have hd := dlci_of h1
  obtain ⟨a1, a2, a3⟩ := addr_is _ f.d hd (f.c == ini) (rfl : addr f.d (f.c == ini) = f.a ini)
  have ho : f.o = oct f.k f.pf f.ns f.nr := pC_ok _ h2
  obtain ⟨g1, g2, g3, g4, g5⟩ := put_get f.pf h2
  rw [← ho] at g1 g2 g3 g4 g5
  have hr := room_le n1
  have hk := okP_bounds h2
  have hc : (spC (f.a ini) == ini) = f.c := by rw [show spC (f.a ini) = (f.c == ini) from a2, beq_beq]
  refine ⟨⟨f.a_lt ini, f.o_lt, f.x_lt ini, h1, by omega, rfl⟩, ?_, ?_⟩
  · unfold dE
    rw [g1, hc, if_neg (by omega), if_neg (by exact fun h => h rfl), if_neg (by rw [h3]; decide), if_neg (by omega)]
  · exact Fr.ext' a1 hc g1 g2 g3 g4 rfl
theorem dE_ok {a c x : Nat} {i : ByteArray} {ini : Bool} {n1 : Int} (h : dE a c x i ini n1 = 0) : gK c ≠ 0 ∧ Fcs.sum (ckB (gK c) (hdB a c i.size) i).data.toList = x ∧ mayF (gK c) (spC a == ini) i = true ∧ i.size ≤ room n1 := by
  unfold dE at h
  by_cases h1 : gK c = 0
  · rw [if_pos h1] at h; omega
  rw [if_neg h1] at h
  by_cases h2 : Fcs.sum (ckB (gK c) (hdB a c i.size) i).data.toList = x
  · rw [if_neg (fun k => k h2)] at h
    by_cases h3 : mayF (gK c) (spC a == ini) i = false
    · rw [if_pos h3] at h; omega
    rw [if_neg h3] at h
    by_cases h4 : room n1 < i.size
    · rw [if_pos h4] at h; omega
    exact ⟨h1, h2, by simpa using h3, by omega⟩
  · rw [if_pos h2] at h; omega
/-- What is decoded is encoded so. -/
theorem dec_enc {s : ByteArray} {a c x : Nat} {i : ByteArray} {ini : Bool} {n1 : Int} (hs : IsB s a c x i) (h : dE a c x i ini n1 = 0) : (fr a c i ini).e ini n1 = 0 ∧ (fr a c i ini).body ini = s := by
  obtain ⟨h1, h2, h3, h4⟩ := dE_ok h
  obtain ⟨g1, g2⟩ := get_put hs.hc h1
  obtain ⟨o1, o2⟩ := okA_odd hs.ok
  have ha : (fr a c i ini).a ini = a := by
    show addr (spD a) ((spC a == ini) == ini) = a
    rw [beq_beq]; exact addr_sp a hs.ha o1
  have ho : (fr a c i ini).o = c := by
    show pC (gK c) (gPF c) (gNS c) (gNR c) = c
    rw [pC_ok _ g1]; exact g2
  have hx : (fr a c i ini).x ini = x := by
    unfold Fr.x Fr.hd
    rw [ha, ho]; exact h2
  refine ⟨e_of (by rw [ha]; exact hs.ok) g1 h3 h4, ?_⟩
  unfold Fr.body
  rw [ha, ho, hx]; exact hs.eq.symm
/-- Lists of bytes. -/
theorem app_list (a b : ByteArray) : (a ++ b).data.toList = a.data.toList ++ b.data.toList := by simp
theorem bext {a b : ByteArray} (h : a.data.toList = b.data.toList) : a = b := by
  apply ByteArray.ext; apply Array.ext'; exact h
theorem bd_list (a c x : Nat) (i : ByteArray) : (bdB a c x i).data.toList = UInt8.ofNat a :: UInt8.ofNat c :: ((len i.size).data.toList ++ (i.data.toList ++ [UInt8.ofNat x])) := by
  unfold bdB hdB
  rw [app_list, app_list, app_list]
  show ([UInt8.ofNat a, UInt8.ofNat c] ++ (len i.size).data.toList ++ i.data.toList ++ [UInt8.ofNat x]) = _
  simp
theorem len_sz (n : Nat) (h : n ≤ 32767) : (len n).size = if n < 128 then 1 else 2 := by
  by_cases h1 : n < 128
  · rw [len_one (by omega) (by omega), if_pos h1]; rfl
  · rw [len_two (by omega) (by omega), if_neg h1]; rfl
theorem bd_size (a c x : Nat) (i : ByteArray) : (bdB a c x i).size = 2 + (len i.size).size + i.size + 1 := by
  have h := congrArg List.length (bd_list a c x i)
  simp only [List.length_cons, List.length_append, size_toList, List.length_nil] at h
  omega
theorem tk_take (l : List UInt8) : tk l = tk (l.take 2) := by
  match l with
  | [] => rfl
  | [_] => rfl
  | a :: b :: r => rfl
theorem IsB.takes {s : ByteArray} {a c x : Nat} {i : ByteArray} (h : IsB s a c x i) : tk (s.data.toList.drop 2) = (i.size, (len i.size).size, 0) := by
  rw [h.eq, bd_list]
  show Ea.tk ((len i.size).data.toList ++ (i.data.toList ++ [UInt8.ofNat x])) = _
  rw [tk_len _ _ (by omega) (by have := h.hl; omega)]; rfl
theorem IsB.size {s : ByteArray} {a c x : Nat} {i : ByteArray} (h : IsB s a c x i) : s.size = 2 + (Ea.len i.size).size + i.size + 1 := by rw [h.eq, bd_size]
/-- Bodies that begin alike are as long. -/
theorem as_long {s s' : ByteArray} {a c x a' c' x' : Nat} {i i' : ByteArray} (h : IsB s a c x i) (h' : IsB s' a' c' x' i') (ht : s.data.toList.take 4 = s'.data.toList.take 4) : s.size = s'.size := by
  have e1 := h.takes
  have e2 := h'.takes
  rw [tk_take] at e1 e2
  have ht' : (s.data.toList.drop 2).take 2 = (s'.data.toList.drop 2).take 2 := by
    have := congrArg (List.drop 2) ht
    simpa [List.drop_take] using this
  rw [ht', e2] at e1
  simp only [Prod.mk.injEq] at e1
  rw [h.size, h'.size, e1.2.1, e1.1]
theorem long4 {s : ByteArray} {a c x : Nat} {i : ByteArray} (h : IsB s a c x i) : 4 ≤ s.size := by
  have := h.size
  have := len_sz i.size h.hl
  split at this <;> omega
/-- A piece of a body that is not whole, or has more behind it, is none. -/
theorem cut_none {s : ByteArray} {a c x : Nat} {i : ByteArray} (h : IsB s a c x i) (t : ByteArray) (hp : t.data.toList <+: s.data.toList) (hz : t.size < s.size) : ∀ a c x i, ¬ IsB t a c x i := by
  intro a' c' x' i' h'
  have l4 := long4 h'
  obtain ⟨r, hr⟩ := hp
  have : t.size = s.size := as_long h' h (by
    rw [← hr, List.take_append_of_le_length (by rw [size_toList]; exact l4)])
  omega
theorem more_none {s : ByteArray} {a c x : Nat} {i : ByteArray} (h : IsB s a c x i) (t : ByteArray) (hp : s.data.toList <+: t.data.toList) (hz : s.size < t.size) : ∀ a c x i, ¬ IsB t a c x i := by
  intro a' c' x' i' h'
  have l4 := long4 h
  obtain ⟨r, hr⟩ := hp
  have : t.size = s.size := as_long h' h (by
    rw [← hr, List.take_append_of_le_length (by rw [size_toList]; exact l4)])
  omega
/-- Where the parts of a body lie. -/
theorem ext_list (s : ByteArray) (a b : Nat) : (s.extract a b).data.toList = (s.data.toList.take b).drop a := by simp [List.drop_take]
theorem IsB.parts {s : ByteArray} {a c x : Nat} {i : ByteArray} (h : IsB s a c x i) :
    s.extract 2 (2 + (Ea.len i.size).size) = Ea.len i.size ∧ s.extract 0 (2 + (Ea.len i.size).size) = hdB a c i.size ∧ s.extract (2 + (Ea.len i.size).size) (2 + (Ea.len i.size).size + i.size) = i := by
  have hl := bd_list a c x i
  rw [← h.eq] at hl
  have hz : (Ea.len i.size).data.toList.length = (Ea.len i.size).size := rfl
  have hi : i.data.toList.length = i.size := rfl
  refine ⟨bext ?_, bext ?_, bext ?_⟩
  · rw [ext_list, hl, List.drop_take]
    show List.take _ ((Ea.len i.size).data.toList ++ (i.data.toList ++ [UInt8.ofNat x])) = _
    rw [show 2 + (Ea.len i.size).size - 2 = (Ea.len i.size).data.toList.length by rw [hz]; omega, List.take_left]
  · rw [ext_list, hl, List.drop_zero]
    unfold hdB
    rw [app_list]
    show List.take _ ([UInt8.ofNat a, UInt8.ofNat c] ++ ((Ea.len i.size).data.toList ++ (i.data.toList ++ [UInt8.ofNat x]))) = [UInt8.ofNat a, UInt8.ofNat c] ++ _
    rw [← List.append_assoc, show 2 + (Ea.len i.size).size = ([UInt8.ofNat a, UInt8.ofNat c] ++ (Ea.len i.size).data.toList).length by simp; omega, List.take_left]
  · rw [ext_list, hl, List.drop_take, show 2 + (Ea.len i.size).size + i.size - (2 + (Ea.len i.size).size) = i.data.toList.length by rw [hi]; omega]
    show List.take _ (List.drop _ ([UInt8.ofNat a, UInt8.ofNat c] ++ ((Ea.len i.size).data.toList ++ (i.data.toList ++ [UInt8.ofNat x])))) = _
    rw [← List.append_assoc, show 2 + (Ea.len i.size).size = ([UInt8.ofNat a, UInt8.ofNat c] ++ (Ea.len i.size).data.toList).length by simp; omega, List.drop_left, List.take_left]
theorem get_list (s : ByteArray) (k : Nat) (h : k < s.size) : some s[k] = s.data.toList[k]? := by
  rw [List.getElem?_eq_getElem (by exact h)]; rfl
theorem IsB.at0 {s : ByteArray} {a c x : Nat} {i : ByteArray} (h : IsB s a c x i) (h0 : 0 < s.size) : s[0].toNat = a := by
  have hl := bd_list a c x i
  rw [← h.eq] at hl
  have := get_list s 0 h0
  rw [hl] at this
  simp only [List.getElem?_cons_zero, Option.some.injEq] at this
  rw [this, nat_oct _ h.ha]
theorem IsB.at1 {s : ByteArray} {a c x : Nat} {i : ByteArray} (h : IsB s a c x i) (h0 : 1 < s.size) : s[1].toNat = c := by
  have hl := bd_list a c x i
  rw [← h.eq] at hl
  have := get_list s 1 h0
  rw [hl] at this
  simp only [List.getElem?_cons_succ, List.getElem?_cons_zero, Option.some.injEq] at this
  rw [this, nat_oct _ h.hc]
theorem IsB.atx {s : ByteArray} {a c x : Nat} {i : ByteArray} (h : IsB s a c x i) (h0 : 2 + (Ea.len i.size).size + i.size < s.size) : (s[2 + (Ea.len i.size).size + i.size]'h0).toNat = x := by
  have hl := bd_list a c x i
  rw [← h.eq] at hl
  have := get_list s _ h0
  rw [hl] at this
  rw [show (UInt8.ofNat a :: UInt8.ofNat c :: ((Ea.len i.size).data.toList ++ (i.data.toList ++ [UInt8.ofNat x]))) = ([UInt8.ofNat a, UInt8.ofNat c] ++ (Ea.len i.size).data.toList ++ i.data.toList) ++ [UInt8.ofNat x] by simp, List.getElem?_append_right (by simp; omega)] at this
  rw [show 2 + (Ea.len i.size).size + i.size - ([UInt8.ofNat a, UInt8.ofNat c] ++ (Ea.len i.size).data.toList ++ i.data.toList).length = 0 by simp; omega] at this
  simp only [List.getElem?_cons_zero, Option.some.injEq] at this
  rw [this, nat_oct _ h.hx]
/-- Bytes in which all lies where it should are a body. -/
theorem isB_of {s : ByteArray} {n z : Nat} (h2 : 2 ≤ s.size) (h0 : okA s[0].toNat = true) (ht : tk (s.data.toList.drop 2) = (n, z, 0)) (hl : len n = s.extract 2 (2 + z)) (hz : s.size = 2 + z + n + 1) :
    ∃ a c x i, IsB s a c x i := by
  have hn : n ≤ 32767 := by
    rw [tk_take] at ht
    match hh : (s.data.toList.drop 2).take 2 with
    | [] => rw [hh] at ht; simp [Ea.tk] at ht
    | [b] =>
      rw [hh] at ht
      by_cases ho : b.toNat % 2 = 1
      · rw [tk_odd _ _ ho] at ht; have := oct_lt b; simp only [Prod.mk.injEq] at ht; omega
      · rw [tk_one _ ho] at ht; simp at ht
    | b :: e :: r =>
      rw [hh] at ht
      have := oct_lt b
      have := oct_lt e
      by_cases ho : b.toNat % 2 = 1
      · rw [tk_odd _ _ ho] at ht; simp only [Prod.mk.injEq] at ht; omega
      · rw [tk_two _ _ _ ho] at ht; simp only [Prod.mk.injEq] at ht; omega
  have hsz : (s.extract (2 + z) (2 + z + n)).size = n := by simp; omega
  refine ⟨s[0].toNat, s[1].toNat, (s[2 + z + n]'(by omega)).toNat, s.extract (2 + z) (2 + z + n), oct_lt _, oct_lt _, oct_lt _, h0, by omega, bext ?_⟩
  rw [bd_list, hsz, oct_nat, oct_nat, oct_nat, hl, ext_list, ext_list]
  have hc := cons2_of_size (s := s) (by omega)
  have hle : s.data.toList.length = s.size := rfl
  have e1 : s.data.toList.drop 2 = (s.data.toList.take (2 + z)).drop 2 ++ s.data.toList.drop (2 + z) := by
    rw [List.drop_take, show 2 + z - 2 = z by omega]
    have := (List.take_append_drop z (s.data.toList.drop 2)).symm
    rw [List.drop_drop] at this
    exact this
  have e2 : s.data.toList.drop (2 + z) = (s.data.toList.take (2 + z + n)).drop (2 + z) ++ s.data.toList.drop (2 + z + n) := by
    rw [List.drop_take, show 2 + z + n - (2 + z) = n by omega]
    have := (List.take_append_drop n (s.data.toList.drop (2 + z))).symm
    rw [List.drop_drop] at this
    exact this
  have e3 : s.data.toList.drop (2 + z + n) = [s[2 + z + n]'(by omega)] := by
    have h := List.drop_eq_getElem_cons (l := s.data.toList) (i := 2 + z + n) (by rw [hle]; omega)
    rw [h, List.drop_eq_nil_of_le (by rw [hle]; omega)]; rfl
  rw [hc] at e1 ⊢
  rw [← hc] at e1 ⊢
  rw [← e3, ← e2, ← e1]
  exact hc
end Go.Proofs.YthlciaomfpephaaDoor.Basic
