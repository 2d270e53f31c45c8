/-
  The plain arithmetic of layer 1's check: half a byte at a time and bit by bit are one; the step is linear and loses nothing. Conditions: all registers and bytes are below 256.
-/
import Derived.WalkKit
namespace Go.Proofs.YthlciaomfpephaaDoor.Fcs

/-- The sixteen numbers. -/
def tab : List Int := [0, 28, 56, 36, 112, 108, 72, 84, 224, 252, 216, 196, 144, 140, 168, 180]
def tabN (i : Nat) : Nat := [0, 28, 56, 36, 112, 108, 72, 84, 224, 252, 216, 196, 144, 140, 168, 180].getD i 0
theorem tab_getD (i : Nat) (h : i < 16) : tab.getD i 0 = (tabN i : Int) := by
  have : ∀ j : Fin 16, tab.getD j.val 0 = (tabN j.val : Int) := by decide
  exact this ⟨i, h⟩

/-- Four moves. -/
def mv4 (x : Nat) : Nat := (x / 16) ^^^ tabN (x % 16)
/-- Eight moves. -/
def T (x : Nat) : Nat := mv4 (mv4 x)
def step (r b : Nat) : Nat := T (r ^^^ b)
/-- One move, as the document tells it. -/
def mv1 (x : Nat) : Nat := if x % 2 = 1 then (x / 2) ^^^ 224 else x / 2
/-- n moves. -/
def mvs : Nat → Nat → Nat
  | 0, x => x
  | n + 1, x => mvs n (mv1 x)

theorem mv4_lt (x : Nat) (h : x < 256) : mv4 x < 256 := by
  have : ∀ j : Fin 256, mv4 j.val < 256 := by decide +kernel
  exact this ⟨x, h⟩
theorem T_lt (x : Nat) (h : x < 256) : T x < 256 := mv4_lt _ (mv4_lt _ h)
theorem xor_lt (a b : Nat) (ha : a < 256) (hb : b < 256) : a ^^^ b < 256 := Nat.xor_lt_two_pow (n := 8) ha hb
theorem step_lt (r b : Nat) (hr : r < 256) (hb : b < 256) : step r b < 256 := T_lt _ (xor_lt _ _ hr hb)
theorem mv1_lt (x : Nat) (h : x < 256) : mv1 x < 256 := by
  have : ∀ j : Fin 256, mv1 j.val < 256 := by decide +kernel
  exact this ⟨x, h⟩
theorem mvs_eq (x : Nat) (h : x < 256) : mvs 8 x = T x := by
  have : ∀ j : Fin 256, mvs 8 j.val = T j.val := by decide +kernel
  exact this ⟨x, h⟩
theorem mvs_succ (n x : Nat) : mvs (n + 1) x = mv1 (mvs n x) := by
  induction n generalizing x with
  | zero => rfl
  | succ n ih => show mvs (n + 1) (mv1 x) = _; rw [ih]; rfl
theorem mvs_lt (n x : Nat) (h : x < 256) : mvs n x < 256 := by
  induction n generalizing x with
  | zero => exact h
  | succ n ih => exact ih _ (mv1_lt _ h)

theorem tab_lin (a b : Nat) (ha : a < 16) (hb : b < 16) : tabN (a ^^^ b) = tabN a ^^^ tabN b := by
  have : ∀ i j : Fin 16, tabN (i.val ^^^ j.val) = tabN i.val ^^^ tabN j.val := by decide +kernel
  exact this ⟨a, ha⟩ ⟨b, hb⟩
theorem div16_xor (a b : Nat) : (a ^^^ b) / 16 = (a / 16) ^^^ (b / 16) := by
  have h := Nat.shiftRight_xor_distrib (a := a) (b := b) (i := 4)
  simpa [Nat.shiftRight_eq_div_pow] using h
theorem mod16_lt (a : Nat) : a % 16 < 16 := Nat.mod_lt _ (by decide)
theorem mod16_xor (a b : Nat) : (a ^^^ b) % 16 = (a % 16) ^^^ (b % 16) := Nat.xor_mod_two_pow (n := 4)
theorem xor4 (a b c d : Nat) : (a ^^^ b) ^^^ (c ^^^ d) = (a ^^^ c) ^^^ (b ^^^ d) := by
  rw [Nat.xor_assoc, Nat.xor_assoc, ← Nat.xor_assoc b c d, Nat.xor_comm b c, Nat.xor_assoc c b d]
theorem mv4_lin (a b : Nat) : mv4 (a ^^^ b) = mv4 a ^^^ mv4 b := by
  unfold mv4
  rw [div16_xor, mod16_xor, tab_lin _ _ (mod16_lt a) (mod16_lt b), xor4]
theorem T_lin (a b : Nat) : T (a ^^^ b) = T a ^^^ T b := by
  unfold T; rw [mv4_lin, mv4_lin]
theorem T_zero : T 0 = 0 := by decide
theorem T_zero_iff (x : Nat) (h : x < 256) : T x = 0 ↔ x = 0 := by
  have : ∀ j : Fin 256, T j.val = 0 ↔ j.val = 0 := by decide +kernel
  exact this ⟨x, h⟩
theorem T_cf_iff (x : Nat) (h : x < 256) : T x = 207 ↔ x = 255 := by
  have : ∀ j : Fin 256, T j.val = 207 ↔ j.val = 255 := by decide +kernel
  exact this ⟨x, h⟩
theorem inv_eq (x : Nat) (h : x < 256) : 255 - x = 255 ^^^ x := by
  have : ∀ j : Fin 256, 255 - j.val = 255 ^^^ j.val := by decide +kernel
  exact this ⟨x, h⟩
theorem xor_self_left (a b : Nat) : a ^^^ (a ^^^ b) = b := by rw [← Nat.xor_assoc, Nat.xor_self, Nat.zero_xor]
theorem xor_eq_iff (a b c : Nat) : a ^^^ b = c ↔ b = a ^^^ c :=
  ⟨fun h => by rw [← h, xor_self_left], fun h => by rw [h, xor_self_left]⟩
theorem xor_zero_iff (a b : Nat) : a ^^^ b = 0 ↔ a = b := by
  rw [xor_eq_iff, Nat.xor_zero]; exact eq_comm

/-- The register behind bytes, from a register. -/
def regFrom (r : Nat) (l : List UInt8) : Nat := l.foldl (fun r c => step r c.toNat) r
def reg (l : List UInt8) : Nat := regFrom 255 l
def sum (l : List UInt8) : Nat := 255 - reg l
theorem u8_lt (c : UInt8) : c.toNat < 256 := c.toNat_lt
theorem regFrom_lt (r : Nat) (l : List UInt8) (h : r < 256) : regFrom r l < 256 := by
  induction l generalizing r with
  | nil => exact h
  | cons c l ih => exact ih _ (step_lt _ _ h (u8_lt c))
theorem reg_lt (l : List UInt8) : reg l < 256 := regFrom_lt _ _ (by decide)
theorem sum_lt (l : List UInt8) : sum l < 256 := by unfold sum; omega
theorem regFrom_append (r : Nat) (l m : List UInt8) : regFrom r (l ++ m) = regFrom (regFrom r l) m := by
  unfold regFrom; rw [List.foldl_append]
theorem regFrom_snoc (r : Nat) (l : List UInt8) (c : UInt8) : regFrom r (l ++ [c]) = step (regFrom r l) c.toNat := by
  rw [regFrom_append]; rfl
theorem reg_snoc (l : List UInt8) (c : UInt8) : reg (l ++ [c]) = step (reg l) c.toNat := regFrom_snoc _ _ _
/-- A byte behind makes bytes good just if it is their check. -/
theorem good_iff (l : List UInt8) (c : UInt8) : reg (l ++ [c]) = 207 ↔ c.toNat = sum l := by
  have h := reg_lt l
  rw [reg_snoc, step, T_cf_iff _ (xor_lt _ _ h (u8_lt c)), xor_eq_iff, sum, inv_eq _ h, Nat.xor_comm]
theorem sum_xor (l m : List UInt8) : sum l ^^^ sum m = reg l ^^^ reg m := by
  rw [sum, sum, inv_eq _ (reg_lt l), inv_eq _ (reg_lt m), xor4, Nat.xor_self, Nat.zero_xor]
/-- n steps of nothing. -/
def Tn : Nat → Nat → Nat
  | 0, x => x
  | n + 1, x => Tn n (T x)
theorem Tn_succ (n x : Nat) : Tn (n + 1) x = T (Tn n x) := by
  induction n generalizing x with
  | zero => rfl
  | succ n ih => show Tn (n + 1) (T x) = _; rw [ih]; rfl
theorem Tn_lt (n x : Nat) (h : x < 256) : Tn n x < 256 := by
  induction n generalizing x with
  | zero => exact h
  | succ n ih => exact ih _ (T_lt _ h)
theorem Tn_zero_iff (n x : Nat) (h : x < 256) : Tn n x = 0 ↔ x = 0 := by
  induction n generalizing x with
  | zero => exact Iff.rfl
  | succ n ih => show Tn n (T x) = 0 ↔ _; rw [ih _ (T_lt _ h), T_zero_iff _ h]
theorem Tn_lin (n a b : Nat) : Tn n (a ^^^ b) = Tn n a ^^^ Tn n b := by
  induction n generalizing a b with
  | zero => rfl
  | succ n ih => show Tn n (T (a ^^^ b)) = Tn n (T a) ^^^ Tn n (T b); rw [T_lin, ih]
/-- A difference ahead of bytes comes through. -/
theorem regFrom_diff (l : List UInt8) (r d : Nat) : regFrom (r ^^^ d) l = regFrom r l ^^^ Tn l.length d := by
  induction l generalizing r d with
  | nil => rfl
  | cons c l ih =>
    show regFrom (step (r ^^^ d) c.toNat) l = regFrom (step r c.toNat) l ^^^ Tn l.length (T d)
    rw [← ih, step, step, Nat.xor_assoc, Nat.xor_comm d, ← Nat.xor_assoc, T_lin]
end Go.Proofs.YthlciaomfpephaaDoor.Fcs
