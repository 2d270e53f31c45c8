/-
  The plain mathematics of layer 5: octets, written so that no flag is among them, and read again; a frame's inner octets; what they say; that both fit together. Conditions: the bounds that each lemma names.
-/
import Derived.Test.YthlciaomfpephaaDoorFrame
namespace Go.Proofs.YthlciaomfpephaaDoor.Adv
open Go.RowKit Go.Proofs.YthlciaomfpephaaDoor.Base Go.Proofs.YthlciaomfpephaaDoor.Ea Go.Proofs.YthlciaomfpephaaDoor.Field Go.Proofs.YthlciaomfpephaaDoor.Basic
/-- May an octet not stand as it is? -/
def isSp (c : Nat) : Bool := decide (c = 126) || decide (c = 125)
/-- An octet, written. -/
def st1 (c : UInt8) : List UInt8 := if c = 126 then [125, 94] else if c = 125 then [125, 93] else [c]
/-- Octets, written. -/
def st (l : List UInt8) : List UInt8 := l.flatMap st1
/-- Octets, read. -/
def un : List UInt8 → Option (List UInt8)
  | [] => some []
  | [c] => if c = 126 ∨ c = 125 then none else some [c]
  | c :: d :: r => if c = 126 then none else if c = 125 then (if d = 94 then (un r).map (126 :: ·) else if d = 93 then (un r).map (125 :: ·) else none) else (un (d :: r)).map (c :: ·)
theorem un_flag (r : List UInt8) : un (126 :: r) = none := by
  cases r <;> simp [un]
theorem un_plain {c : UInt8} (h : c ≠ 126) (h1 : c ≠ 125) (r : List UInt8) : un (c :: r) = (un r).map (c :: ·) := by
  cases r <;> simp [un, h, h1]
theorem un_e (r : List UInt8) : un (125 :: 94 :: r) = (un r).map (126 :: ·) := by simp [un]
theorem un_d (r : List UInt8) : un (125 :: 93 :: r) = (un r).map (125 :: ·) := by simp [un]
theorem un_esc {d : UInt8} (h : d ≠ 94) (h1 : d ≠ 93) (r : List UInt8) : un (125 :: d :: r) = none := by simp [un, h, h1]
theorem un_end : un [125] = none := by simp [un]
theorem st_nil : st [] = [] := rfl
theorem st_cons (c : UInt8) (l : List UInt8) : st (c :: l) = st1 c ++ st l := rfl
theorem st_app (l m : List UInt8) : st (l ++ m) = st l ++ st m := by simp [st]
theorem st1_plain {c : UInt8} (h : c ≠ 126) (h1 : c ≠ 125) : st1 c = [c] := by simp [st1, h, h1]
theorem st1_flag : st1 126 = [125, 94] := rfl
theorem st1_esc : st1 125 = [125, 93] := rfl
/-- What is written is read as it was. -/
theorem un_st_app (l m : List UInt8) : un (st l ++ m) = (un m).map (l ++ ·) := by
  induction l with
  | nil => rw [st_nil, List.nil_append]; cases un m <;> rfl
  | cons c l ih =>
    rw [st_cons, List.append_assoc]
    by_cases h : c = 126
    · subst h
      rw [st1_flag]
      show un (125 :: 94 :: (st l ++ m)) = _
      rw [un_e, ih]
      cases un m <;> simp
    by_cases h1 : c = 125
    · subst h1
      rw [st1_esc]
      show un (125 :: 93 :: (st l ++ m)) = _
      rw [un_d, ih]
      cases un m <;> simp
    · rw [st1_plain h h1]
      show un (c :: (st l ++ m)) = _
      rw [un_plain h h1, ih]
      cases un m <;> simp
theorem un_st (l : List UInt8) : un (st l) = some l := by
  have h := un_st_app l []
  rw [List.append_nil] at h
  rw [h]; simp [un]
/-- What is read is written as it was. -/
theorem st_un {l m : List UInt8} (h : un l = some m) : st m = l := by
  induction l using un.induct generalizing m with
  | case1 => simp only [un, Option.some.injEq] at h; subst h; rfl
  | case2 c hc => simp only [un, hc, if_true] at h; cases h
  | case3 c hc =>
    simp only [un, hc, if_false, Option.some.injEq] at h
    subst h
    rw [not_or] at hc
    rw [st_cons, st1_plain hc.1 hc.2]; rfl
  | case4 d r => rw [un_flag] at h; cases h
  | case5 => rename_i ih; rw [un_e] at h; obtain ⟨x, hx, rfl⟩ := Option.map_eq_some_iff.1 h; rw [st_cons, st1_flag, ih hx]; rfl
  | case6 => rename_i ih; rw [un_d] at h; obtain ⟨x, hx, rfl⟩ := Option.map_eq_some_iff.1 h; rw [st_cons, st1_esc, ih hx]; rfl
  | case7 d r h94 h93 => rename_i a; rw [un_esc (by assumption) (by assumption)] at h; cases h
  | case8 c d r h1 h2 ih => rw [un_plain h1 h2] at h; obtain ⟨x, hx, rfl⟩ := Option.map_eq_some_iff.1 h; rw [st_cons, st1_plain h1 h2, ih hx]; rfl
/-- What is written has no flag. -/
theorem st1_no (c x : UInt8) (h : x ∈ st1 c) : x ≠ 126 := by
  unfold st1 at h
  split at h
  · simp at h; rcases h with rfl | rfl <;> decide
  split at h
  · simp at h; rcases h with rfl | rfl <;> decide
  · simp at h; subst h; assumption
theorem st_no (l : List UInt8) (x : UInt8) (h : x ∈ st l) : x ≠ 126 := by
  obtain ⟨c, _, hx⟩ := List.mem_flatMap.1 h
  exact st1_no c x hx
theorem st1_len (c : UInt8) : 1 ≤ (st1 c).length ∧ (st1 c).length ≤ 2 := by
  unfold st1; split <;> (try split) <;> simp
theorem st_len (l : List UInt8) : l.length ≤ (st l).length ∧ (st l).length ≤ 2 * l.length := by
  induction l with
  | nil => simp [st]
  | cons c l ih =>
    have := st1_len c
    rw [st_cons, List.length_append, List.length_cons]
    omega
theorem un_len {l m : List UInt8} (h : un l = some m) : m.length ≤ l.length := by
  have := (st_len m).1
  rw [st_un h] at this
  exact this
/-- As bytes. -/
def stB (s : ByteArray) : ByteArray := ⟨(st s.data.toList).toArray⟩
theorem stB_list (s : ByteArray) : (stB s).data.toList = st s.data.toList := by simp [stB]
theorem stB_size (s : ByteArray) : s.size ≤ (stB s).size ∧ (stB s).size ≤ 2 * s.size := by
  have h := st_len s.data.toList
  have e : (stB s).size = (st s.data.toList).length := by rw [← size_toList, stB_list]
  rw [e, ← size_toList]; exact h
/-- The inner octets. -/
def inn (a c x : Nat) (i : ByteArray) : ByteArray := two a c ++ i ++ one x
def Fr.y (f : Fr) (ini : Bool) : Nat := Fcs.sum (ckB f.k (two (f.a ini) f.o) f.info).data.toList
def Fr.inner (f : Fr) (ini : Bool) : ByteArray := inn (f.a ini) f.o (Fr.y f ini) f.info
def Fr.adv (f : Fr) (ini : Bool) : ByteArray := one 126 ++ stB (Fr.inner f ini) ++ one 126
def Fr.ae (f : Fr) (n1 : Int) : Nat := if f.mayR = true then if room n1 < f.info.size then 3 else 0 else 2
theorem y_lt (f : Fr) (ini : Bool) : Fr.y f ini < 256 := Fcs.sum_lt _
theorem inn_list (a c x : Nat) (i : ByteArray) : (inn a c x i).data.toList = UInt8.ofNat a :: UInt8.ofNat c :: (i.data.toList ++ [UInt8.ofNat x]) := by
  unfold inn
  rw [app_list, app_list]
  rfl
theorem inn_size (a c x : Nat) (i : ByteArray) : (inn a c x i).size = i.size + 3 := by
  have h := congrArg List.length (inn_list a c x i)
  simp only [List.length_cons, List.length_append, size_toList, List.length_nil] at h
  omega
/-- Bytes that are inner octets, but for what the control octet says, and the check. -/
structure IsI (t : ByteArray) (a c x : Nat) (i : ByteArray) : Prop where
  ha : a < 256
  hc : c < 256
  hx : x < 256
  ok : spK a = true
  eq : t = inn a c x i
/-- What is wrong with them; 0, if nothing is. -/
def aE (a c x : Nat) (i : ByteArray) (ini : Bool) (n1 : Int) : Nat :=
  if gK c = 0 then 30 else if Fcs.sum (ckB (gK c) (two a c) i).data.toList ≠ x then 41 else if mayF (gK c) (spC a == ini) i = false then 40 else if room n1 < i.size then 3 else 0
theorem ae_ok {f : Fr} {n1 : Int} (h : Fr.ae f n1 = 0) : f.d ≤ 63 ∧ okP f.k f.ns f.nr = true ∧ mayF f.k f.c f.info = true ∧ f.info.size ≤ room n1 := by
  unfold Fr.ae at h
  split at h
  · rename_i h1
    split at h
    · omega
    · simp only [Fr.mayR, Fr.may, Bool.and_eq_true, decide_eq_true_eq] at h1
      exact ⟨h1.1, h1.2.1, h1.2.2, by omega⟩
  · omega
theorem ae_of {f : Fr} {n1 : Int} (h1 : f.d ≤ 63) (h2 : okP f.k f.ns f.nr = true) (h3 : mayF f.k f.c f.info = true) (h4 : f.info.size ≤ room n1) : Fr.ae f n1 = 0 := by
  unfold Fr.ae
  rw [if_pos (by simp [Fr.mayR, Fr.may, h1, h2, h3]), if_neg (by omega)]
/-- What is encoded is inner octets that say the same frame. -/
theorem ienc_dec {f : Fr} {n1 : Int} (h : Fr.ae f n1 = 0) (ini : Bool) : IsI (Fr.inner f ini) (f.a ini) f.o (Fr.y f ini) f.info ∧ aE (f.a ini) f.o (Fr.y f ini) f.info ini n1 = 0 ∧ fr (f.a ini) f.o f.info ini = f := by
  obtain ⟨h1, h2, h3, h4⟩ := ae_ok h
  obtain ⟨a1, a2, a3⟩ := addr_is _ f.d (by omega) (f.c == ini) (rfl : addr f.d (f.c == ini) = f.a ini)
  have ho : f.o = oct f.k f.pf f.ns f.nr := pC_ok _ h2
  obtain ⟨g1, g2, g3, g4, g5⟩ := put_get f.pf h2
  rw [← ho] at g1 g2 g3 g4 g5
  have hk := okP_bounds h2
  have hc : (spC (f.a ini) == ini) = f.c := by rw [show spC (f.a ini) = (f.c == ini) from a2, beq_beq]
  refine ⟨⟨f.a_lt ini, f.o_lt, y_lt f ini, a3, rfl⟩, ?_, ?_⟩
  · unfold aE
    rw [g1, hc, if_neg (by omega), if_neg (by exact fun h => h rfl), if_neg (by rw [h3]; decide), if_neg (by omega)]
  · exact Fr.ext' a1 hc g1 g2 g3 g4 rfl
theorem aE_ok {a c x : Nat} {i : ByteArray} {ini : Bool} {n1 : Int} (h : aE a c x i ini n1 = 0) : gK c ≠ 0 ∧ Fcs.sum (ckB (gK c) (two a c) i).data.toList = x ∧ mayF (gK c) (spC a == ini) i = true ∧ i.size ≤ room n1 := by
  unfold aE at h
  by_cases h1 : gK c = 0
  · rw [if_pos h1] at h; omega
  rw [if_neg h1] at h
  by_cases h2 : Fcs.sum (ckB (gK c) (two a c) i).data.toList = x
  · rw [if_neg (fun k => k h2)] at h
    by_cases h3 : mayF (gK c) (spC a == ini) i = false
    · rw [if_pos h3] at h; omega
    rw [if_neg h3] at h
    by_cases h4 : room n1 < i.size
    · rw [if_pos h4] at h; omega
    exact ⟨h1, h2, by simpa using h3, by omega⟩
  · rw [if_pos h2] at h; omega
/-- What is decoded is encoded so. -/
theorem idec_enc {t : ByteArray} {a c x : Nat} {i : ByteArray} {ini : Bool} {n1 : Int} (hs : IsI t a c x i) (h : aE a c x i ini n1 = 0) : Fr.ae (fr a c i ini) n1 = 0 ∧ Fr.inner (fr a c i ini) ini = t := by
  obtain ⟨h1, h2, h3, h4⟩ := aE_ok h
  obtain ⟨g1, g2⟩ := get_put hs.hc h1
  have ha : (fr a c i ini).a ini = a := by
    show addr (spD a) ((spC a == ini) == ini) = a
    rw [beq_beq]; exact addr_sp a hs.ha hs.ok
  have ho : (fr a c i ini).o = c := by
    show pC (gK c) (gPF c) (gNS c) (gNR c) = c
    rw [pC_ok _ g1]; exact g2
  have hx : Fr.y (fr a c i ini) ini = x := by
    unfold Fr.y
    rw [ha, ho]; exact h2
  have hd := spD_lt a hs.ha
  refine ⟨ae_of (show spD a ≤ 63 by omega) g1 h3 h4, ?_⟩
  unfold Fr.inner
  rw [ha, ho, hx]; exact hs.eq.symm
theorem fr_mayR {a c : Nat} (ha : a < 256) (hc : c < 256) (hk : gK c ≠ 0) (i : ByteArray) (ini : Bool) : (fr a c i ini).mayR = mayF (gK c) (spC a == ini) i := by
  have h1 : okP (gK c) (gNS c) (gNR c) = true := (get_put hc hk).1
  have hd := spD_lt a ha
  have e : decide (spD a ≤ 63) = true := decide_eq_true (by omega)
  show (decide (spD a ≤ 63) && (okP (gK c) (gNS c) (gNR c) && mayF (gK c) (spC a == ini) i)) = _
  rw [e, h1]; simp
theorem IsI.size {t : ByteArray} {a c x : Nat} {i : ByteArray} (h : IsI t a c x i) : t.size = i.size + 3 := by rw [h.eq, inn_size]
theorem ext_list' (s : ByteArray) (a b : Nat) : (s.extract a b).data.toList = (s.data.toList.take b).drop a := ext_list s a b
/-- Where the parts lie. -/
theorem IsI.parts {t : ByteArray} {a c x : Nat} {i : ByteArray} (h : IsI t a c x i) : t.extract 2 (t.size - 1) = i ∧ t.extract 0 2 = two a c ∧ t.extract 0 (t.size - 1) = two a c ++ i := by
  have hl := inn_list a c x i
  rw [← h.eq] at hl
  have hz : t.size - 1 = i.data.toList.length + 2 := by rw [h.size, size_toList]; omega
  refine ⟨bext ?_, bext ?_, bext ?_⟩
  · rw [ext_list, hl, hz]
    simp
  · rw [ext_list, hl]; rfl
  · rw [ext_list, hl, hz, app_list]
    simp [two]
theorem IsI.at0 {t : ByteArray} {a c x : Nat} {i : ByteArray} (h : IsI t a c x i) (h0 : 0 < t.size) : t[0].toNat = a := by
  have hl := inn_list a c x i
  rw [← h.eq] at hl
  have := get_list t 0 h0
  rw [hl] at this
  simp only [List.getElem?_cons_zero, Option.some.injEq] at this
  rw [this, nat_oct _ h.ha]
theorem IsI.at1 {t : ByteArray} {a c x : Nat} {i : ByteArray} (h : IsI t a c x i) (h0 : 1 < t.size) : t[1].toNat = c := by
  have hl := inn_list a c x i
  rw [← h.eq] at hl
  have := get_list t 1 h0
  rw [hl] at this
  simp only [List.getElem?_cons_succ, List.getElem?_cons_zero, Option.some.injEq] at this
  rw [this, nat_oct _ h.hc]
theorem IsI.atx {t : ByteArray} {a c x : Nat} {i : ByteArray} (h : IsI t a c x i) (h0 : t.size - 1 < t.size) : (t[t.size - 1]'h0).toNat = x := by
  have hl := inn_list a c x i
  rw [← h.eq] at hl
  have := get_list t _ h0
  have hz : t.size - 1 = i.data.toList.length + 2 := by rw [h.size, size_toList]; omega
  have hr : t.data.toList[t.size - 1]? = t.data.toList[i.data.toList.length + 2]? := congrArg (fun k => t.data.toList[k]?) hz
  rw [hr, hl] at this
  rw [show (UInt8.ofNat a :: UInt8.ofNat c :: (i.data.toList ++ [UInt8.ofNat x])) = ([UInt8.ofNat a, UInt8.ofNat c] ++ i.data.toList) ++ [UInt8.ofNat x] by simp, List.getElem?_append_right (by simp)] at this
  rw [show i.data.toList.length + 2 - ([UInt8.ofNat a, UInt8.ofNat c] ++ i.data.toList).length = 0 by simp] at this
  simp only [List.getElem?_cons_zero, Option.some.injEq] at this
  rw [this, nat_oct _ h.hx]
/-- Octets of which there are three, and whose first one is an address, are inner octets. -/
theorem isI_of {t : ByteArray} (h3 : 3 ≤ t.size) (h0 : spK t[0].toNat = true) : ∃ a c x i, IsI t a c x i := by
  refine ⟨t[0].toNat, t[1].toNat, (t[t.size - 1]).toNat, t.extract 2 (t.size - 1), oct_lt _, oct_lt _, oct_lt _, h0, bext ?_⟩
  rw [inn_list, oct_nat, oct_nat, oct_nat, ext_list]
  have hc := cons2_of_size (s := t) (by omega)
  have hle : t.data.toList.length = t.size := rfl
  have e1 : t.data.toList.drop 2 = (t.data.toList.take (t.size - 1)).drop 2 ++ t.data.toList.drop (t.size - 1) := by
    rw [List.drop_take, show t.size - 1 = 2 + (t.size - 3) by omega, show 2 + (t.size - 3) - 2 = t.size - 3 by omega]
    have := (List.take_append_drop (t.size - 3) (t.data.toList.drop 2)).symm
    rw [List.drop_drop] at this
    exact this
  have e2 : t.data.toList.drop (t.size - 1) = [t[t.size - 1]] := by
    rw [List.drop_eq_getElem_cons (by rw [hle]; omega), List.drop_eq_nil_of_le (by rw [hle]; omega)]
    rfl
  rw [← e2, ← e1]
  exact hc
end Go.Proofs.YthlciaomfpephaaDoor.Adv
