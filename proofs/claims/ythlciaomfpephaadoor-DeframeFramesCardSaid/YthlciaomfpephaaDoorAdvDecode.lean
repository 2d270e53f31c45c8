/-
  What Decode of layer 5 answers of any octets, the program's and the document's own: the same. Conditions: at most 1000 octets; the tables of layers 1 and 3 lie where the program lays them.
-/
import Derived.Test.YthlciaomfpephaaDoorAdvRefDec
import Derived.Test.YthlciaomfpephaaDoorAdvRefEnc
namespace Go.Proofs.YthlciaomfpephaaDoor.Adv
open Go.RowKit Go.Proofs.YthlciaomfpephaaDoor.Base Go.Proofs.YthlciaomfpephaaDoor.Ea Go.Proofs.YthlciaomfpephaaDoor.Field Go.Proofs.YthlciaomfpephaaDoor.Basic
/-- What any octets say: a frame, and what is wrong (0, if nothing is). -/
def Ans (s : ByteArray) (ini : Bool) (n1 : Int) (g : Fr) (r : Nat) : Prop :=
  (un s.data.toList = none ∧ g = fr0 ∧ r = 40) ∨
  (∃ t : ByteArray, un s.data.toList = some t.data.toList ∧ (t.size < 3 ∨ (3 ≤ t.size ∧ ∃ h : 0 < t.size, spK t[0].toNat = false)) ∧ g = fr0 ∧ r = 40) ∨
  (∃ (t : ByteArray) (a c x : Nat) (i : ByteArray), un s.data.toList = some t.data.toList ∧ IsI t a c x i ∧ ((aE a c x i ini n1 = 0 ∧ g = fr a c i ini ∧ r = 0) ∨ (aE a c x i ini n1 ≠ 0 ∧ g = fr0 ∧ r = aE a c x i ini n1)))
theorem ans (s : ByteArray) (ini : Bool) (n1 : Int) : ∃ g r, Ans s ini n1 g r := by
  cases hu : un s.data.toList with
  | none => exact ⟨fr0, 40, Or.inl ⟨hu, rfl, rfl⟩⟩
  | some l =>
    have hl : some l = some (⟨l.toArray⟩ : ByteArray).data.toList := by simp
    by_cases h3 : (⟨l.toArray⟩ : ByteArray).size < 3
    · exact ⟨fr0, 40, Or.inr (Or.inl ⟨⟨l.toArray⟩, hu.trans hl, Or.inl h3, rfl, rfl⟩)⟩
    have h0 : 0 < (⟨l.toArray⟩ : ByteArray).size := by omega
    cases hk : spK (⟨l.toArray⟩ : ByteArray)[0].toNat
    · exact ⟨fr0, 40, Or.inr (Or.inl ⟨⟨l.toArray⟩, hu.trans hl, Or.inr ⟨by omega, h0, hk⟩, rfl, rfl⟩)⟩
    · obtain ⟨a, c, x, i, h⟩ := isI_of (t := ⟨l.toArray⟩) (by omega) hk
      by_cases he : aE a c x i ini n1 = 0
      · exact ⟨_, _, Or.inr (Or.inr ⟨_, a, c, x, i, hu.trans hl, h, Or.inl ⟨he, rfl, rfl⟩⟩)⟩
      · exact ⟨_, _, Or.inr (Or.inr ⟨_, a, c, x, i, hu.trans hl, h, Or.inr ⟨he, rfl, rfl⟩⟩)⟩
/-- What inner octets say, as an answer. -/
abbrev inV (a c x : Nat) (i : ByteArray) (ini : Bool) (n1 : Int) : Value := .tuple #[fv (if aE a c x i ini n1 = 0 then fr a c i ini else fr0), .int .i64 (aE a c x i ini n1 : Int)]
theorem inV_no {a c x : Nat} {i : ByteArray} {ini : Bool} {n1 : Int} {e : Nat} (h : aE a c x i ini n1 = e) (he : e ≠ 0) : inV a c x i ini n1 = .tuple #[noFr, .int .i64 (e : Int)] := by
  unfold inV
  rw [h, if_neg he]; rfl
theorem inV_ok {a c x : Nat} {i : ByteArray} {ini : Bool} {n1 : Int} (h : aE a c x i ini n1 = 0) : inV a c x i ini n1 = .tuple #[fv (fr a c i ini), .int .i64 0] := by
  unfold inV
  rw [h, if_pos rfl]; rfl
theorem fdec_inner {s t : ByteArray} {a c x : Nat} {i : ByteArray} (hs : s.size ≤ 1000) (hu : un s.data.toList = some t.data.toList) (h : IsI t a c x i) (ini : Bool) (n1 : Int) (w : World) (ht : Tabs w) :
    Calls Tryd.prog 50 #[.string s, .bool ini, .int .i64 n1] w fun e w' => e = .returned (inV a c x i ini n1) ∧ Below w.heap.size w w' := by
  have hz := h.size
  have htz : t.size ≤ 1000 := by have := un_len hu; rw [size_toList, size_toList] at this; omega
  have h3 : 3 ≤ t.size := by omega
  have q0 : 0 < t.size := by omega
  have q1 : 1 < t.size := by omega
  have q2 : t.size - 1 < t.size := by omega
  have e0 := h.at0 q0
  have e1 := h.at1 q1
  have ex := h.atx q2
  obtain ⟨g1, g2, g3⟩ := h.parts
  have CU := fun w => unstuff_yes (s := s) (by omega) hu w
  have CS : ∀ w, Calls Tryd.prog 44 #[.int .u8 (t[0].toNat : Int)] w fun e w' => e = .returned (.tuple #[.int .u8 ((spD a : Nat) : Int), .bool (spC a), .bool true]) ∧ w = w' := fun w => by
    rw [e0]; have p := split a h.ha w; rw [h.ok] at p; exact p
  by_cases k1 : gK c = 0
  · rw [inV_no (e := 30) (by unfold aE; rw [if_pos k1]) (by decide)]
    exact d_field s t h3 htz q0 q1 ini n1 (spD a) 0 0 0 (spC a) false CU CS (fun w ht => by rw [e1]; exact get_no c h.hc k1 w ht.1) w ht
  have CG : ∀ w, Tabs w → Calls Tryd.prog 56 #[.int .u8 (t[1].toNat : Int)] w fun e w' => e = .returned (.tuple #[.int .u8 ((gK c : Nat) : Int), .bool (gPF c), .int .u8 ((gNS c : Nat) : Int), .int .u8 ((gNR c : Nat) : Int), .int .i64 0]) ∧ Below w.heap.size w w' := fun w ht => by
    rw [e1]; exact get_ok c h.hc k1 w ht.1
  have CC : ∀ w, Tabs w → Calls Tryd.prog 23 #[.int .u8 ((gK c : Nat) : Int), .string (two a c ++ i)] w fun e w' => e = .returned (.int .u8 ((Fcs.sum (ckB (gK c) (two a c) i).data.toList : Nat) : Int)) ∧ w = w' := fun w ht => by
    have p := fcheck (gK c) (two a c ++ i) (by rw [ByteArray.size_append]; show 2 + _ ≤ _; unfold maxLen; omega) (by rw [ByteArray.size_append]; show 2 ≤ 2 + _; omega) w ht.2
    rw [ck_two] at p; exact p
  by_cases k2 : Fcs.sum (ckB (gK c) (two a c) i).data.toList = x
  · have hm : ((Fcs.sum (ckB (gK c) (two a c) i).data.toList : Nat) : Int) = ((t[t.size - 1]'q2).toNat : Int) := by rw [ex, k2]
    have hf := fr_in h.ha h.hc i ini
    have em := fr_mayR h.ha h.hc k1 i ini
    by_cases k3 : mayF (gK c) (spC a == ini) i = false
    · rw [inV_no (e := 40) (by unfold aE; rw [if_neg k1, if_neg (fun k => k k2), if_pos k3]) (by decide)]
      exact d_may s t h3 htz q0 q1 q2 ini n1 (spD a) (gK c) (gNS c) (gNR c) _ 0 (spC a) (gPF c) i _ g1 g3 CU CS CG CC (fun w ht => mayBe_no (fr a c i ini) hf (em.trans k3) w ht.1) hm w ht
    · have k3' : mayF (gK c) (spC a == ini) i = true := by simpa using k3
      by_cases k4 : room n1 < i.size
      · rw [inV_no (e := 3) (by unfold aE; rw [if_neg k1, if_neg (fun k => k k2), if_neg k3, if_pos k4]) (by decide)]
        exact d_limit s t h3 htz q0 q1 q2 ini n1 (spD a) (gK c) (gNS c) (gNR c) _ _ (spC a) (gPF c) i _ g1 g3 CU CS CG CC (fun w ht => mayBe_ok (fr a c i ini) hf (em.trans k3') w ht.1) hm k4 w ht
      · rw [inV_ok (by unfold aE; rw [if_neg k1, if_neg (fun k => k k2), if_neg k3, if_neg k4])]
        exact d_ok s t h3 htz q0 q1 q2 ini n1 (spD a) (gK c) (gNS c) (gNR c) _ _ (spC a) (gPF c) i _ g1 g3 CU CS CG CC (fun w ht => mayBe_ok (fr a c i ini) hf (em.trans k3') w ht.1) hm (by omega) w ht
  · have hm : ((Fcs.sum (ckB (gK c) (two a c) i).data.toList : Nat) : Int) ≠ ((t[t.size - 1]'q2).toNat : Int) := by rw [ex]; exact fun k => k2 (by omega)
    rw [inV_no (e := 41) (by unfold aE; rw [if_neg k1, if_pos k2]) (by decide)]
    exact d_fcs s t h3 htz q0 q1 q2 ini n1 (spD a) (gK c) (gNS c) (gNR c) _ (spC a) (gPF c) _ g3 CU CS CG CC hm w ht
theorem fdec {s : ByteArray} {ini : Bool} {n1 : Int} {g : Fr} {r : Nat} (h : Ans s ini n1 g r) (hs : s.size ≤ 1000) (w : World) (ht : Tabs w) :
    Calls Tryd.prog 50 #[.string s, .bool ini, .int .i64 n1] w fun e w' => e = .returned (.tuple #[fv g, .int .i64 (r : Int)]) ∧ Below w.heap.size w w' := by
  rcases h with ⟨hu, rfl, rfl⟩ | ⟨t, hu, h, rfl, rfl⟩ | ⟨t, a, c, x, i, hu, h, ⟨he, rfl, rfl⟩ | ⟨he, rfl, rfl⟩⟩
  · exact d_no s ini n1 (fun w => unstuff_no (s := s) (by omega) hu w) w
  · rcases h with h | ⟨h3, h0, hk⟩
    · exact d_short s t h ini n1 (fun w => unstuff_yes (s := s) (by omega) hu w) w
    · have htz : t.size ≤ 1000 := by have := un_len hu; rw [size_toList, size_toList] at this; omega
      exact d_addr s t h3 htz h0 ini n1 (spD t[0].toNat) (spC t[0].toNat) (fun w => unstuff_yes (s := s) (by omega) hu w) (fun w => by have p := split t[0].toNat (oct_lt _) w; rw [hk] at p; exact p) w
  · have p := fdec_inner hs hu h ini n1 w ht
    rw [inV_ok he] at p; exact p
  · have p := fdec_inner hs hu h ini n1 w ht
    rw [inV_no rfl he] at p; exact p
end Go.Proofs.YthlciaomfpephaaDoor.Adv
