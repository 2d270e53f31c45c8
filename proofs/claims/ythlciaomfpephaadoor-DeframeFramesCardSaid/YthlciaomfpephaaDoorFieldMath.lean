/-
  The plain mathematics of layer 3: the control octets as numbers, what an octet says, and that both fit together. Condition: octets below 256, kinds and numbers within the bounds that each lemma names.
-/
import Derived.WalkKit
import Derived.Laws.BitsLemmas
namespace Go.Proofs.YthlciaomfpephaaDoor.Field
/-- The octets of the kinds, as the program's table has them. -/
def bareL : List Nat := [0, 47, 99, 15, 67, 239, 3, 0, 1, 5, 9]
def bareN (k : Nat) : Nat := bareL.getD k 0
theorem bareN_lt (k : Nat) (h : k < 11) : bareN k < 256 := by
  have : ∀ j : Fin 11, bareN j.val < 256 := by decide
  exact this ⟨k, h⟩
def isK (k : Nat) : Bool := decide (1 ≤ k ∧ k ≤ 10)
def isN (k : Nat) : Bool := decide (7 ≤ k ∧ k ≤ 10)
def mayH (k ns nr : Nat) : Bool := decide (ns ≤ 7 ∧ nr ≤ 7 ∧ (ns = 0 ∨ k = 7) ∧ (nr = 0 ∨ (7 ≤ k ∧ k ≤ 10)))
/-- May a frame of that kind have these numbers? -/
def okP (k ns nr : Nat) : Bool := isK k && mayH k ns nr
theorem okP_of {k ns nr : Nat} (h : okP k ns nr = true) : isK k = true ∧ mayH k ns nr = true := by simpa [okP] using h
theorem okP_bounds {k ns nr : Nat} (h : okP k ns nr = true) : 1 ≤ k ∧ k ≤ 10 ∧ ns ≤ 7 ∧ nr ≤ 7 ∧ (ns = 0 ∨ k = 7) ∧ (nr = 0 ∨ 7 ≤ k) := by
  simp [okP, isK, mayH] at h; omega
/-- The control octet. -/
def oct (k : Nat) (pf : Bool) (ns nr : Nat) : Nat := bareN k + 2 * ns + 32 * nr + (if pf then 16 else 0)
def pC (k : Nat) (pf : Bool) (ns nr : Nat) : Nat := if okP k ns nr then oct k pf ns nr else 0
def pE (k ns nr : Nat) : Nat := if okP k ns nr then 0 else 2
theorem pC_ok {k ns nr : Nat} (pf : Bool) (h : okP k ns nr = true) : pC k pf ns nr = oct k pf ns nr := by simp [pC, h]
theorem pC_no {k ns nr : Nat} (pf : Bool) (h : okP k ns nr = false) : pC k pf ns nr = 0 := by simp [pC, h]
theorem pE_ok {k ns nr : Nat} (h : okP k ns nr = true) : pE k ns nr = 0 := by simp [pE, h]
theorem pE_no {k ns nr : Nat} (h : okP k ns nr = false) : pE k ns nr = 2 := by simp [pE, h]
theorem pE_ok_iff (k ns nr : Nat) : pE k ns nr = 0 ↔ okP k ns nr = true := by unfold pE; split <;> simp_all
theorem oct_lt {k ns nr : Nat} (pf : Bool) (h : okP k ns nr = true) : oct k pf ns nr < 256 := by
  obtain ⟨h1, h2, h3, h4, _⟩ := okP_bounds h
  have : ∀ (k : Fin 11) (pf : Bool) (ns nr : Fin 8), okP k.val ns.val nr.val = true → oct k.val pf ns.val nr.val < 256 := by decide +kernel
  exact this ⟨k, by omega⟩ pf ⟨ns, by omega⟩ ⟨nr, by omega⟩ h
/-- As the program puts it together. -/
theorem oct_bits {k ns nr : Nat} (h : okP k ns nr = true) : bits .or .u8 (bits .or .u8 (bareN k : Int) ((ns : Int) * 2)) ((nr : Int) * 32) = (oct k false ns nr : Int) ∧ bits .or .u8 (oct k false ns nr : Int) 16 = (oct k true ns nr : Int) := by
  obtain ⟨h1, h2, h3, h4, _⟩ := okP_bounds h
  have : ∀ (k : Fin 11) (ns nr : Fin 8), okP k.val ns.val nr.val = true → (bits .or .u8 (bits .or .u8 (bareN k.val : Int) ((ns.val : Int) * 2)) ((nr.val : Int) * 32) = (oct k.val false ns.val nr.val : Int) ∧ bits .or .u8 (oct k.val false ns.val nr.val : Int) 16 = (oct k.val true ns.val nr.val : Int)) := by decide +kernel
  exact this ⟨k, by omega⟩ ⟨ns, by omega⟩ ⟨nr, by omega⟩ h
/-- The bits in which control octets of one kind may differ. -/
def looseN (k : Nat) : Nat := if k = 7 then 254 else if isN k then 240 else 16
/-- Is c a control octet of the kind k? -/
def fitsK (c k : Nat) : Bool := bits .andNot .u8 (c : Int) (looseN k : Int) == (bareN k : Int)
/-- The first kind from k on, of n in a row, whose octet c is; 0, if none is. -/
def gFrom (c : Nat) : Nat → Nat → Nat
  | 0, _ => 0
  | n + 1, k => if fitsK c k then k else gFrom c n (k + 1)
/-- The kind whose octet c is; 0, if there is none. -/
def gK (c : Nat) : Nat := gFrom c 10 1
theorem gFrom_hit {c n k : Nat} (h : fitsK c k = true) : gFrom c (n + 1) k = k := by simp [gFrom, h]
theorem gFrom_miss {c n k : Nat} (h : fitsK c k = false) : gFrom c (n + 1) k = gFrom c n (k + 1) := by simp [gFrom, h]
def gPF (c : Nat) : Bool := decide (gK c ≠ 0) && decide (c / 16 % 2 = 1)
def gNS (c : Nat) : Nat := if gK c = 7 then c / 2 % 8 else 0
def gNR (c : Nat) : Nat := if isN (gK c) then c / 32 else 0
def gE (c : Nat) : Nat := if gK c = 0 then 30 else 0
theorem gK_le (c : Nat) (h : c < 256) : gK c ≤ 10 := by
  have : ∀ j : Fin 256, gK j.val ≤ 10 := by decide +kernel
  exact this ⟨c, h⟩
/-- What is put is got as it was. -/
theorem put_get {k ns nr : Nat} (pf : Bool) (h : okP k ns nr = true) : gK (oct k pf ns nr) = k ∧ gPF (oct k pf ns nr) = pf ∧ gNS (oct k pf ns nr) = ns ∧ gNR (oct k pf ns nr) = nr ∧ gE (oct k pf ns nr) = 0 := by
  obtain ⟨h1, h2, h3, h4, _⟩ := okP_bounds h
  have : ∀ (k : Fin 11) (pf : Bool) (ns nr : Fin 8), okP k.val ns.val nr.val = true → (gK (oct k.val pf ns.val nr.val) = k.val ∧ gPF (oct k.val pf ns.val nr.val) = pf ∧ gNS (oct k.val pf ns.val nr.val) = ns.val ∧ gNR (oct k.val pf ns.val nr.val) = nr.val ∧ gE (oct k.val pf ns.val nr.val) = 0) := by decide +kernel
  exact this ⟨k, by omega⟩ pf ⟨ns, by omega⟩ ⟨nr, by omega⟩ h
/-- An octet that is got is put as it was. -/
theorem get_put {c : Nat} (hc : c < 256) (h : gK c ≠ 0) : okP (gK c) (gNS c) (gNR c) = true ∧ oct (gK c) (gPF c) (gNS c) (gNR c) = c := by
  have : ∀ j : Fin 256, gK j.val ≠ 0 → (okP (gK j.val) (gNS j.val) (gNR j.val) = true ∧ oct (gK j.val) (gPF j.val) (gNS j.val) (gNR j.val) = j.val) := by decide +kernel
  exact this ⟨c, hc⟩ h
theorem get_none {c : Nat} (h : gK c = 0) : gPF c = false ∧ gNS c = 0 ∧ gNR c = 0 ∧ gE c = 30 := by simp [gPF, gNS, gNR, gE, h, isN]
theorem gE_ok {c : Nat} (h : gK c ≠ 0) : gE c = 0 := by simp [gE, h]
theorem gE_no {c : Nat} (h : gK c = 0) : gE c = 30 := by simp [gE, h]
theorem u8_and14 (c : Nat) (h : c < 256) : bits .and .u8 (c : Int) 14 = ((2 * (c / 2 % 8) : Nat) : Int) := by
  have : ∀ j : Fin 256, bits .and .u8 (j.val : Int) 14 = ((2 * (j.val / 2 % 8) : Nat) : Int) := by decide +kernel
  exact this ⟨c, h⟩
theorem u8_and224 (c : Nat) (h : c < 256) : bits .and .u8 (c : Int) 224 = ((32 * (c / 32) : Nat) : Int) := by
  have : ∀ j : Fin 256, bits .and .u8 (j.val : Int) 224 = ((32 * (j.val / 32) : Nat) : Int) := by decide +kernel
  exact this ⟨c, h⟩
theorem u8_and16 (c : Nat) (h : c < 256) : (bits .and .u8 (c : Int) 16 != 0) = decide (c / 16 % 2 = 1) := by
  have : ∀ j : Fin 256, (bits .and .u8 (j.val : Int) 16 != 0) = decide (j.val / 16 % 2 = 1) := by decide +kernel
  exact this ⟨c, h⟩
/-- Is c the octet of the kind k with the bit and the numbers that n tells? -/
def hit (c k n : Nat) : Bool := decide (pE k (n / 2 % 8) (n / 16) = 0 ∧ pC k (decide (n % 2 = 1)) (n / 2 % 8) (n / 16) = c)
def Missed (c k : Nat) : Prop := ∀ k' n, 1 ≤ k' → k' < k → n < 128 → hit c k' n = false
def MissedIn (c k m : Nat) : Prop := ∀ n, n < m → hit c k n = false
theorem missed_one (c : Nat) : Missed c 1 := fun _ _ h1 h2 _ => absurd h2 (by omega)
theorem missedIn_zero (c k : Nat) : MissedIn c k 0 := fun _ h => absurd h (by omega)
theorem missed_succ {c k : Nat} (h : Missed c k) (hi : MissedIn c k 128) : Missed c (k + 1) := fun k' n h1 h2 h3 => by
  by_cases e : k' = k
  · subst e; exact hi n h3
  · exact h k' n h1 (by omega) h3
theorem missedIn_succ {c k m : Nat} (h : MissedIn c k m) (hm : hit c k m = false) : MissedIn c k (m + 1) := fun n h1 => by
  by_cases e : n = m
  · subst e; exact hm
  · exact h n (by omega)
theorem hit_ok {c k n : Nat} (h : hit c k n = true) : okP k (n / 2 % 8) (n / 16) = true ∧ oct k (decide (n % 2 = 1)) (n / 2 % 8) (n / 16) = c := by
  simp only [hit, decide_eq_true_eq] at h
  obtain ⟨h1, h2⟩ := h
  have h3 := (pE_ok_iff _ _ _).1 h1
  rw [pC_ok _ h3] at h2
  exact ⟨h3, h2⟩
theorem hit_get {c k n : Nat} (h : hit c k n = true) : gK c = k ∧ gPF c = decide (n % 2 = 1) ∧ gNS c = n / 2 % 8 ∧ gNR c = n / 16 ∧ gE c = 0 := by
  obtain ⟨h1, h2⟩ := hit_ok h
  have := put_get (decide (n % 2 = 1)) h1
  rw [h2] at this
  exact this
theorem missed_none {c : Nat} (hc : c < 256) (h : Missed c 11) : gK c = 0 := by
  have t : ∀ j : Fin 256, gK j.val ≠ 0 → (1 ≤ gK j.val ∧ gK j.val < 11 ∧ (if gPF j.val then 1 else 0) + 2 * gNS j.val + 16 * gNR j.val < 128 ∧ hit j.val (gK j.val) ((if gPF j.val then 1 else 0) + 2 * gNS j.val + 16 * gNR j.val) = true) := by decide +kernel
  by_cases e : gK c = 0
  · exact e
  · obtain ⟨h1, h2, h3, h4⟩ := t ⟨c, hc⟩ e
    exact absurd (h _ _ h1 h2 h3) (by rw [h4]; decide)
end Go.Proofs.YthlciaomfpephaaDoor.Field
