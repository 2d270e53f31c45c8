/-
  Layer 22, put together: Base, Bits, EaMath, Conv, Mem, TlvMath (what each says stands ahead of it). Conditions: as each names them.
-/
import Derived.Test.YtakkhdammmcjcaaDoorChecked
import Derived.WalkKit
import GoSem.Claim
import Derived.Laws.BitsAllLaws
import Derived.Laws.BitsLemmas
import Derived.Laws.Strings
import Derived.Laws.BytesArg
import Derived.Lib.Hide
import Derived.WalkSpells
import Derived.WalkLawsBesides
import Derived.Outline
import Derived.Deep.QuietTactic
import Derived.BigQuiet
/-
  Small plain lemmas that every card of this seat uses: a number of a kind lies within the kind's bounds.
-/
namespace Go.Proofs.YtakkhdammmcjcaaDoor.Base
theorem wf_u8 {n : Int} (h : (Lit.int .u8 n).wf = true) : ∃ m : Nat, n = m ∧ m < 256 := by
  have h' : (decide ((0 : Int) ≤ n) && decide (n ≤ 255)) = true := h
  simp only [Bool.and_eq_true, decide_eq_true_eq] at h'
  exact ⟨n.toNat, by omega, by omega⟩
theorem wf_u16 {n : Int} (h : (Lit.int .u16 n).wf = true) : ∃ m : Nat, n = m ∧ m < 65536 := by
  have h' : (decide ((0 : Int) ≤ n) && decide (n ≤ 65535)) = true := h
  simp only [Bool.and_eq_true, decide_eq_true_eq] at h'
  exact ⟨n.toNat, by omega, by omega⟩
theorem wf_i64 {n : Int} (h : (Lit.int .i64 n).wf = true) : -9223372036854775808 ≤ n ∧ n ≤ 9223372036854775807 := by
  have h' : (decide ((-9223372036854775808 : Int) ≤ n) && decide (n ≤ 9223372036854775807)) = true := h
  simp only [Bool.and_eq_true, decide_eq_true_eq] at h'
  exact h'
theorem ret_bool {a b : Bool} (h : a = b) : Ending.returned (.bool a) = .returned (.bool b) := by rw [h]
theorem ret_int {k : IntKind} {a b : Int} (h : a = b) : Ending.returned (.int k a) = .returned (.int k b) := by rw [h]
end Go.Proofs.YtakkhdammmcjcaaDoor.Base
/-
  Small plain lemmas on octets and their bits that the layers above the first one use. Conditions: the bounds that each names.
-/
namespace Go.Proofs.YtakkhdammmcjcaaDoor.Base
theorem oct_lt (c : UInt8) : c.toNat < 256 := c.toNat_lt
theorem u8_and1 (a : Nat) (h : a < 256) : bits .and .u8 (a : Int) 1 = ((a % 2 : Nat) : Int) := by
  have : ∀ j : Fin 256, bits .and .u8 (j.val : Int) 1 = ((j.val % 2 : Nat) : Int) := by decide +kernel
  exact this ⟨a, h⟩
theorem u8_and2 (a : Nat) (h : a < 256) : bits .and .u8 (a : Int) 2 = ((2 * (a / 2 % 2) : Nat) : Int) := by
  have : ∀ j : Fin 256, bits .and .u8 (j.val : Int) 2 = ((2 * (j.val / 2 % 2) : Nat) : Int) := by decide +kernel
  exact this ⟨a, h⟩
theorem wraps_i64 (n : Int) (h₀ : 0 ≤ n) (h₁ : n < 2 ^ 63) : IntKind.i64.wrap n = n := by rw [IntKind.wrap_i64]; omega
theorem nil_of_size {s : ByteArray} (h : s.size = 0) : s = ⟨#[]⟩ := by
  obtain ⟨d⟩ := s
  have : d = #[] := Array.eq_empty_of_size_eq_zero h
  rw [this]
theorem size_toList (s : ByteArray) : s.data.toList.length = s.size := rfl
theorem cons_of_size {s : ByteArray} (h : 0 < s.size) : s.data.toList = s[0] :: s.data.toList.drop 1 := by
  exact List.drop_eq_getElem_cons (l := s.data.toList) (i := 0) (by simpa using h)
theorem cons2_of_size {s : ByteArray} (h : 1 < s.size) : s.data.toList = s[0] :: s[1] :: s.data.toList.drop 2 := by
  have h1 := cons_of_size (s := s) (by omega)
  have := List.drop_eq_getElem_cons (l := s.data.toList) (i := 1) (by simpa using h)
  rw [h1, this]; rfl
theorem one_of_size {s : ByteArray} (h : s.size = 1) : s.data.toList = [s[0]] := by
  have h1 := cons_of_size (s := s) (by omega)
  rw [h1, List.drop_eq_nil_of_le (by simp; show s.size ≤ 1; omega)]
theorem toList_ne {s : ByteArray} (h : 0 < s.size) : ¬ s.toList = [] := by
  rw [ByteArray.toList_eq]
  intro h'
  have : s.data.toList.length = 0 := by rw [h']; rfl
  have h2 : s.data.toList.length = s.size := rfl
  omega
theorem ret_str {a b : ByteArray} (h : a = b) : Ending.returned (.string a) = .returned (.string b) := by rw [h]
theorem ret_ibb {k : IntKind} {a a' : Int} {b b' c c' : Bool} (h : a = a') (h1 : b = b') (h2 : c = c') : Ending.returned (.tuple #[.int k a, .bool b, .bool c]) = .returned (.tuple #[.int k a', .bool b', .bool c']) := by rw [h, h1, h2]
theorem ret_iii {k k1 k2 : IntKind} {a a' b b' c c' : Int} (h : a = a') (h1 : b = b') (h2 : c = c') : Ending.returned (.tuple #[.int k a, .int k1 b, .int k2 c]) = .returned (.tuple #[.int k a', .int k1 b', .int k2 c']) := by rw [h, h1, h2]
end Go.Proofs.YtakkhdammmcjcaaDoor.Base
/-
  The plain arithmetic of layer 2: addresses, what an octet is split into, lengths in one octet and two, what is taken. No condition.
-/
namespace Go.Proofs.YtakkhdammmcjcaaDoor.Ea
open Go.Proofs.YtakkhdammmcjcaaDoor.Base

/-- The address. -/
def addr (d : Nat) (cr : Bool) : Nat := if 63 < d then 0 else 4 * d + 2 * cr.toNat + 1
/-- What an octet is split into. -/
def spD (a : Nat) : Nat := if a % 2 = 1 then a / 4 else 0
def spC (a : Nat) : Bool := decide (a % 2 = 1 ∧ a / 2 % 2 = 1)
def spK (a : Nat) : Bool := decide (a % 2 = 1)
theorem addr_lt (d : Nat) (cr : Bool) : addr d cr < 256 := by
  unfold addr
  split
  · decide
  · have := Bool.toNat_le cr; omega
theorem spD_lt (a : Nat) (h : a < 256) : spD a < 64 := by unfold spD; split <;> omega
theorem addr_sp (a : Nat) (h : a < 256) (ho : spK a = true) : addr (spD a) (spC a) = a := by
  have ho' : a % 2 = 1 := of_decide_eq_true ho
  have h1 : spD a = a / 4 := if_pos ho'
  rw [h1, addr, if_neg (by omega)]
  by_cases hc : a / 2 % 2 = 1
  · have : spC a = true := decide_eq_true ⟨ho', hc⟩
    rw [this]; show 4 * (a / 4) + 2 * 1 + 1 = a; omega
  · have : spC a = false := decide_eq_false fun x => hc x.2
    rw [this]; show 4 * (a / 4) + 2 * 0 + 1 = a; omega
theorem addr_is (a d : Nat) (hd : d < 64) (b : Bool) (h : addr d b = a) : spD a = d ∧ spC a = b ∧ spK a = true := by
  rw [addr, if_neg (by omega)] at h
  have hb := Bool.toNat_le b
  have ho : a % 2 = 1 := by omega
  refine ⟨by rw [spD, if_pos ho]; omega, ?_, decide_eq_true ho⟩
  cases b
  · exact decide_eq_false fun x => by have h' : 4 * d + 2 * 0 + 1 = a := h; omega
  · exact decide_eq_true ⟨ho, by have h' : 4 * d + 2 * 1 + 1 = a := h; omega⟩
theorem addr_none (a : Nat) (ha : a < 256) (h : ∀ d : Nat, d < 64 → ∀ b : Bool, addr d b ≠ a) : spD a = 0 ∧ spC a = false ∧ spK a = false := by
  have hk : spK a = false := by
    cases hk : spK a
    · rfl
    · exact absurd (addr_sp a ha hk) (h _ (spD_lt a ha) _)
  have ho : ¬ a % 2 = 1 := of_decide_eq_false hk
  exact ⟨if_neg ho, decide_eq_false fun x => ho x.1, hk⟩
/-- The octets in which a length is written. -/
def len (n : Int) : ByteArray := if n < 0 ∨ 32767 < n then ⟨#[]⟩ else if n < 128 then ⟨#[UInt8.ofNat (2 * n.toNat + 1)]⟩ else ⟨#[UInt8.ofNat (2 * (n.toNat % 128)), UInt8.ofNat (n.toNat / 128)]⟩
theorem len_no {n : Int} (h : n < 0 ∨ 32767 < n) : len n = ⟨#[]⟩ := if_pos h
theorem len_one {n : Int} (h0 : 0 ≤ n) (h : n < 128) : len n = ⟨#[UInt8.ofNat (2 * n.toNat + 1)]⟩ := by
  rw [len, if_neg (by omega), if_pos h]
theorem len_two {n : Int} (h0 : 128 ≤ n) (h : n ≤ 32767) : len n = ⟨#[UInt8.ofNat (2 * (n.toNat % 128)), UInt8.ofNat (n.toNat / 128)]⟩ := by
  rw [len, if_neg (by omega), if_neg (by omega)]
/-- What is taken: the length, how many octets, the error's number. -/
def tk (l : List UInt8) : Nat × Nat × Nat := match l with
  | [] => (0, 0, 20)
  | a :: r => if a.toNat % 2 = 1 then (a.toNat / 2, 1, 0) else match r with
    | [] => (0, 0, 20)
    | b :: _ => (a.toNat / 2 + 128 * b.toNat, 2, 0)
def tkN (l : List UInt8) : Nat := (tk l).1
def tkZ (l : List UInt8) : Nat := (tk l).2.1
def tkE (l : List UInt8) : Nat := (tk l).2.2
theorem tk_nil : tk [] = (0, 0, 20) := rfl
theorem tk_odd (a : UInt8) (r : List UInt8) (h : a.toNat % 2 = 1) : tk (a :: r) = (a.toNat / 2, 1, 0) := if_pos h
theorem tk_one (a : UInt8) (h : ¬ a.toNat % 2 = 1) : tk [a] = (0, 0, 20) := if_neg h
theorem tk_two (a b : UInt8) (r : List UInt8) (h : ¬ a.toNat % 2 = 1) : tk (a :: b :: r) = (a.toNat / 2 + 128 * b.toNat, 2, 0) := if_neg h
theorem nat_oct (k : Nat) (h : k < 256) : (UInt8.ofNat k).toNat = k := by rw [UInt8.toNat_ofNat']; exact Nat.mod_eq_of_lt h
theorem oct_nat (c : UInt8) : UInt8.ofNat c.toNat = c := by simp
/-- What is written is taken as it was, whatever stands behind. -/
theorem tk_len (n : Int) (s : List UInt8) (h0 : 0 ≤ n) (h1 : n ≤ 32767) : tk ((len n).data.toList ++ s) = (n.toNat, (len n).size, 0) := by
  by_cases h : n < 128
  · rw [len_one h0 h]
    show tk (UInt8.ofNat (2 * n.toNat + 1) :: s) = (n.toNat, 1, 0)
    have hk := nat_oct (2 * n.toNat + 1) (by omega)
    rw [tk_odd _ _ (by rw [hk]; omega), hk]
    congr 1; omega
  · rw [len_two (by omega) h1]
    show tk (UInt8.ofNat (2 * (n.toNat % 128)) :: UInt8.ofNat (n.toNat / 128) :: s) = (n.toNat, 2, 0)
    have hk := nat_oct (2 * (n.toNat % 128)) (by omega)
    have hj := nat_oct (n.toNat / 128) (by omega)
    rw [tk_two _ _ _ (by rw [hk]; omega), hk, hj]
    congr 1; omega
theorem ext_take (s : ByteArray) (k : Nat) : (s.extract 0 k).data.toList = s.data.toList.take k := by simp
/-- What is taken: nothing; one octet, which is written so; two, of less than 128, or which are written so. -/
theorem tk_cases (s : ByteArray) : tk s.data.toList = (0, 0, 20) ∨
    (∃ m : Nat, m < 128 ∧ 1 ≤ s.size ∧ tk s.data.toList = (m, 1, 0) ∧ len m = s.extract 0 1) ∨
    (∃ m : Nat, m < 128 ∧ 2 ≤ s.size ∧ tk s.data.toList = (m, 2, 0)) ∨
    (∃ m : Nat, 128 ≤ m ∧ m ≤ 32767 ∧ 2 ≤ s.size ∧ tk s.data.toList = (m, 2, 0) ∧ len m = s.extract 0 2) := by
  by_cases h0 : s.size = 0
  · obtain rfl := nil_of_size h0
    exact .inl rfl
  have h1 : 0 < s.size := by omega
  have b0 := oct_lt s[0]
  by_cases ho : s[0].toNat % 2 = 1
  · refine .inr (.inl ⟨s[0].toNat / 2, by omega, h1, by rw [cons_of_size h1]; exact tk_odd _ _ ho, ?_⟩)
    rw [len_one (by omega) (by omega)]
    have e : 2 * ((s[0].toNat / 2 : Nat) : Int).toNat + 1 = s[0].toNat := by omega
    rw [e, oct_nat]
    apply ByteArray.ext
    apply Array.ext'
    rw [ext_take, cons_of_size h1]; rfl
  by_cases h2 : s.size = 1
  · exact .inl (by rw [one_of_size h2]; exact tk_one _ ho)
  have h3 : 1 < s.size := by omega
  have b1 := oct_lt s[1]
  have e := tk_two s[0] s[1] (s.data.toList.drop 2) ho
  rw [← cons2_of_size h3] at e
  by_cases hm : s[0].toNat / 2 + 128 * s[1].toNat < 128
  · exact .inr (.inr (.inl ⟨_, hm, h3, e⟩))
  · refine .inr (.inr (.inr ⟨_, by omega, by omega, h3, e, ?_⟩))
    rw [len_two (by omega) (by omega)]
    have e1 : 2 * (((s[0].toNat / 2 + 128 * s[1].toNat : Nat) : Int).toNat % 128) = s[0].toNat := by omega
    have e2 : ((s[0].toNat / 2 + 128 * s[1].toNat : Nat) : Int).toNat / 128 = s[1].toNat := by omega
    rw [e1, e2, oct_nat, oct_nat]
    apply ByteArray.ext
    apply Array.ext'
    rw [ext_take, cons2_of_size h3]; rfl
end Go.Proofs.YtakkhdammmcjcaaDoor.Ea
/-
  A slice of one or two bytes that was just laid, made into a string: those bytes; no memory turns.
-/
namespace Go.Proofs.YtakkhdammmcjcaaDoor.Base
theorem cell_new (w : World) (cs : Array Value) (t : TypeId) (i : Nat) : (w.alloc (.cells cs t)).cell? ⟨w.heap.size, i, none⟩ = cs[i]? := by
  have h : (w.alloc (.cells cs t)).heap[w.heap.size]? = some (.cells cs t) := by
    show (w.heap.push _)[w.heap.size]? = _
    simp
  unfold World.cell?
  rw [h]
  rfl
theorem conv_one (w : World) (b : Nat) :
    (convert 99 9 (.slice (some ⟨w.heap.size, 0, none⟩) 1 1)).run Tryd.prog (w.alloc (.cells #[.int .u8 (b : Int)] 5))
      = .ok (.string ⟨#[UInt8.ofNat b]⟩) (w.alloc (.cells #[.int .u8 (b : Int)] 5)) := by
  have h := run_convert_bytes_arg (P := Tryd.prog) (w.alloc (.cells #[.int .u8 (b : Int)] 5)) 99 5 Tryd.underlying99 Tryd.underlying5 w.heap.size 0 1 1 [(b : Int)] rfl (fun i hi => by
    obtain rfl : i = 0 := by omega
    rw [cell_new]; rfl) 9 Tryd.underlying9
  rw [h]
  rfl
theorem conv_two (w : World) (a b : Nat) :
    (convert 99 9 (.slice (some ⟨w.heap.size, 0, none⟩) 2 2)).run Tryd.prog (w.alloc (.cells #[.int .u8 (a : Int), .int .u8 (b : Int)] 5))
      = .ok (.string ⟨#[UInt8.ofNat a, UInt8.ofNat b]⟩) (w.alloc (.cells #[.int .u8 (a : Int), .int .u8 (b : Int)] 5)) := by
  have h := run_convert_bytes_arg (P := Tryd.prog) (w.alloc (.cells #[.int .u8 (a : Int), .int .u8 (b : Int)] 5)) 99 5 Tryd.underlying99 Tryd.underlying5 w.heap.size 0 2 2 [(a : Int), (b : Int)] rfl (fun i hi => by
    rw [Nat.zero_add, cell_new]
    match i, hi with
    | 0, _ => rfl
    | 1, _ => rfl) 9 Tryd.underlying9
  rw [h]
  rfl
theorem conv_oneI (w : World) (b : Int) :
    (convert 99 9 (.slice (some ⟨w.heap.size, 0, none⟩) 1 1)).run Tryd.prog (w.alloc (.cells #[.int .u8 b] 5))
      = .ok (.string ⟨#[UInt8.ofNat b.toNat]⟩) (w.alloc (.cells #[.int .u8 b] 5)) := by
  have h := run_convert_bytes_arg (P := Tryd.prog) (w.alloc (.cells #[.int .u8 b] 5)) 99 5 Tryd.underlying99 Tryd.underlying5 w.heap.size 0 1 1 [b] rfl (fun i hi => by
    obtain rfl : i = 0 := by omega
    rw [cell_new]; rfl) 9 Tryd.underlying9
  rw [h]
  rfl
theorem conv_twoI (w : World) (a b : Int) :
    (convert 99 9 (.slice (some ⟨w.heap.size, 0, none⟩) 2 2)).run Tryd.prog (w.alloc (.cells #[.int .u8 a, .int .u8 b] 5))
      = .ok (.string ⟨#[UInt8.ofNat a.toNat, UInt8.ofNat b.toNat]⟩) (w.alloc (.cells #[.int .u8 a, .int .u8 b] 5)) := by
  have h := run_convert_bytes_arg (P := Tryd.prog) (w.alloc (.cells #[.int .u8 a, .int .u8 b] 5)) 99 5 Tryd.underlying99 Tryd.underlying5 w.heap.size 0 2 2 [a, b] rfl (fun i hi => by
    rw [Nat.zero_add, cell_new]
    match i, hi with
    | 0, _ => rfl
    | 1, _ => rfl) 9 Tryd.underlying9
  rw [h]
  rfl
end Go.Proofs.YtakkhdammmcjcaaDoor.Base
/-
  Small words on memory and on bytes that the layers above the sixth share: cells of a block, blocks that stay, blocks that lie one behind the other, octets made into a string. No condition.
-/
namespace Go.Proofs.YtakkhdammmcjcaaDoor.Mem
open Go.RowKit Go.Proofs.YtakkhdammmcjcaaDoor.Base
theorem app_list (a b : ByteArray) : (a ++ b).data.toList = a.data.toList ++ b.data.toList := by simp
theorem bext {a b : ByteArray} (h : a.data.toList = b.data.toList) : a = b := by
  apply ByteArray.ext; apply Array.ext'; exact h
theorem ext_list (s : ByteArray) (a b : Nat) : (s.extract a b).data.toList = (s.data.toList.take b).drop a := by simp [List.drop_take]
theorem ext_drop (s : ByteArray) (k : Nat) : (s.extract k s.size).data.toList = s.data.toList.drop k := by
  rw [ext_list, List.take_of_length_le (by rw [size_toList]; exact Nat.le_refl _)]
theorem ext_size (s : ByteArray) (k : Nat) : (s.extract k s.size).size = s.size - k := by simp
theorem ne_list {a b : ByteArray} (h : a ≠ b) : (a.toList == b.toList) = false := by
  rw [beq_eq_false_iff_ne, ByteArray.toList_eq, ByteArray.toList_eq]
  exact fun e => h (bext e)
theorem eq_list {a b : ByteArray} (h : a = b) : (a.toList == b.toList) = true := by rw [h]; exact beq_self_eq_true _
theorem get_list (s : ByteArray) (k : Nat) (h : k < s.size) : some s[k] = s.data.toList[k]? := by
  rw [List.getElem?_eq_getElem (by exact h)]; rfl
theorem lt_heap {w : World} {b : Nat} {o : Obj} (h : w.heap[b]? = some o) : b < w.heap.size := by
  rcases Nat.lt_or_ge b w.heap.size with h' | h'
  · exact h'
  · simp [Array.getElem?_eq_none h'] at h
theorem cell_below {w w' : World} {b o : Nat} {v : Value} (h : w.cell? ⟨b, o, none⟩ = some v) (hb : Below w.heap.size w w') : w'.cell? ⟨b, o, none⟩ = some v :=
  (hb.cell (p := ⟨b, o, none⟩) (World.block_lt_of_cell? w ⟨b, o, none⟩ h)).trans h
/-- A pointer to a block's first cell. -/
abbrev ptr (b : Nat) : Value := .pointer (some ⟨b, 0, none⟩)
theorem below_on {w a b : World} (h : Below w.heap.size w a) (h' : Below a.heap.size a b) : Below w.heap.size w b := h.trans (h'.mono h.size)
theorem below_drewN {B : Nat} {a w : World} (h : Below B a w) (n : Nat) : Below B a (w.drewN n) := h.trans ⟨rfl, rfl, rfl, Nat.le_refl _, fun _ _ => rfl⟩
/-- Blocks that were made one behind the other lie one behind the other. -/
theorem nest (w : World) (os : List Obj) (i : Nat) (o : Obj) (h : os[i]? = some o) : (os.foldl World.alloc w).heap[w.heap.size + i]? = some o := by
  have hp : ∀ (os : List Obj) (w : World), (os.foldl World.alloc w).heap = w.heap ++ os.toArray := by
    intro os
    induction os with
    | nil => intro w; simp
    | cons a r ih =>
      intro w
      rw [List.foldl_cons, ih]
      show w.heap.push a ++ r.toArray = _
      simp
  rw [hp, Array.getElem?_append_right (by omega)]
  simpa using h
theorem nest_below (w : World) (os : List Obj) : Below w.heap.size w (os.foldl World.alloc w) := by
  have : ∀ (os : List Obj) (v : World), Below w.heap.size w v → Below w.heap.size w (os.foldl World.alloc v) := by
    intro os
    induction os with
    | nil => intro v h; exact h
    | cons a r ih => intro v h; exact ih _ (h.alloc h.size a)
  exact this os w (Below.refl _ _)
theorem cell_of {w : World} {b i : Nat} {cs : Array Value} {t : TypeId} {v : Value} (h : w.heap[b]? = some (.cells cs t)) (hv : cs[i]? = some v) : w.cell? ⟨b, i, none⟩ = some v := by
  unfold World.cell?
  rw [h]; exact hv
theorem free_of {w : World} {b i : Nat} {cs : Array Value} {t : TypeId} (h : w.heap[b]? = some (.cells cs t)) : w.frozen? ⟨b, i, none⟩ = false := by
  unfold World.frozen?
  rw [h]; simp
theorem block_set {w : World} {b i : Nat} {cs : Array Value} {t : TypeId} (h : w.heap[b]? = some (.cells cs t)) (v : Value) : (w.setCell ⟨b, i, none⟩ v).heap[b]? = some (.cells (cs.setIfInBounds i v) t) := by
  have hlt := lt_heap h
  have h' : w.heap[b] = .cells cs t := by simpa [Array.getElem?_eq_getElem hlt] using h
  show (w.heap.modify b _)[b]? = _
  rw [Array.getElem?_eq_getElem (by simpa using hlt), Array.getElem_modify_self, h']
  rfl
theorem set3_at {w : World} {b : Nat} {u0 u1 u2 : Value} {t : TypeId} (h : w.heap[b]? = some (.cells #[u0, u1, u2] t)) (v0 v1 v2 : Value) : (((w.setCell ⟨b, 0, none⟩ v0).setCell ⟨b, 1, none⟩ v1).setCell ⟨b, 2, none⟩ v2).heap[b]? = some (.cells #[v0, v1, v2] t) := by
  have h0 : (w.setCell ⟨b, 0, none⟩ v0).heap[b]? = some (.cells #[v0, u1, u2] t) := block_set (i := 0) h v0
  have h1 : ((w.setCell ⟨b, 0, none⟩ v0).setCell ⟨b, 1, none⟩ v1).heap[b]? = some (.cells #[v0, v1, u2] t) := block_set (i := 1) h0 v1
  exact block_set (i := 2) h1 v2
theorem set3 {B : Nat} {a w : World} (h : Below B a w) {b : Nat} (hb : B ≤ b) (v0 v1 v2 : Value) : Below B a (((w.setCell ⟨b, 0, none⟩ v0).setCell ⟨b, 1, none⟩ v1).setCell ⟨b, 2, none⟩ v2) :=
  ((h.setCell hb _).setCell hb _).setCell hb _
theorem cells3 {w : World} {b : Nat} {u0 u1 u2 : Value} {t : TypeId} (h : w.heap[b]? = some (.cells #[u0, u1, u2] t)) : (w.cell? ⟨b, 0, none⟩ = some u0 ∧ w.cell? ⟨b, 1, none⟩ = some u1 ∧ w.cell? ⟨b, 2, none⟩ = some u2) ∧ w.frozen? ⟨b, 0, none⟩ = false ∧ w.frozen? ⟨b, 1, none⟩ = false ∧ w.frozen? ⟨b, 2, none⟩ = false :=
  ⟨⟨cell_of h rfl, cell_of h rfl, cell_of h rfl⟩, free_of h, free_of h, free_of h⟩
/-- A block that was there is as it was. -/
theorem stays {a b : World} {k : Nat} {o : Obj} (h : a.heap[k]? = some o) (hb : Below a.heap.size a b) : b.heap[k]? = some o := (hb.block k (lt_heap h)).trans h
theorem fresh {a b : World} {o : Obj} (hb : Below (a.alloc o).heap.size (a.alloc o) b) : b.heap[a.heap.size]? = some o := stays (nest a [o] 0 o rfl) hb
theorem on_new {w a b : World} {o : Obj} (h : Below w.heap.size w a) (hb : Below (a.alloc o).heap.size (a.alloc o) b) : Below w.heap.size w b := below_on (below_on h ((Below.refl _ _).alloc (Nat.le_refl _) o)) hb
theorem size_alloc (w : World) (o : Obj) : (w.alloc o).heap.size = w.heap.size + 1 := by simp
theorem quiet_left {P : Program} {f : FuncId} {args : Array Value} {w : World} {n : Nat} {v : Value}
    (h : Calls P f args (w.drewN n) fun e w' => e = .returned v ∧ w.drewN n = w') : Calls P f args (w.drewN n) fun e w'' => e = .returned v ∧ ∃ m, w'' = w.drewN m :=
  h.mono fun _ _ ⟨he, hm⟩ => ⟨he, n, hm.symm⟩
/-- One octet, two octets. -/
def one (a : Nat) : ByteArray := ⟨#[UInt8.ofNat a]⟩
def two (a b : Nat) : ByteArray := ⟨#[UInt8.ofNat a, UInt8.ofNat b]⟩
theorem conv_at2 (W : World) (b : Nat) (x y : Int) (h0 : W.cell? ⟨b, 0, none⟩ = some (.int .u8 x)) (h1 : W.cell? ⟨b, 1, none⟩ = some (.int .u8 y)) :
    (convert 99 9 (.slice (some ⟨b, 0, none⟩) 2 2)).run Tryd.prog W = .ok (.string ⟨#[UInt8.ofNat x.toNat, UInt8.ofNat y.toNat]⟩) W := by
  have h := run_convert_bytes_arg (P := Tryd.prog) W 99 5 Tryd.underlying99 Tryd.underlying5 b 0 2 2 [x, y] rfl (fun i hi => by
    rw [Nat.zero_add]
    match i, hi with
    | 0, _ => exact h0
    | 1, _ => exact h1) 9 Tryd.underlying9
  rw [h]
  rfl
theorem conv_at1 (W : World) (b : Nat) (x : Int) (h0 : W.cell? ⟨b, 0, none⟩ = some (.int .u8 x)) :
    (convert 99 9 (.slice (some ⟨b, 0, none⟩) 1 1)).run Tryd.prog W = .ok (.string ⟨#[UInt8.ofNat x.toNat]⟩) W := by
  have h := run_convert_bytes_arg (P := Tryd.prog) W 99 5 Tryd.underlying99 Tryd.underlying5 b 0 1 1 [x] rfl (fun i hi => by
    obtain rfl : i = 0 := by omega
    exact h0) 9 Tryd.underlying9
  rw [h]
  rfl
theorem ret_si {a b : ByteArray} {k : IntKind} {x y : Int} (h : a = b) (h1 : x = y) : Ending.returned (.tuple #[.string a, .int k x]) = .returned (.tuple #[.string b, .int k y]) := by rw [h, h1]
theorem res5 {fn : Func} {t u v x y : Tmp} (h : fn.results = #[.tmp t, .tmp u, .tmp v, .tmp x, .tmp y]) (tmps : Array Value) (P : Program) (w : World) :
    (results fn tmps).run P w = .ok (.tuple #[tmps.getD t undef, tmps.getD u undef, tmps.getD v undef, tmps.getD x undef, tmps.getD y undef]) w := by simp [results, h]
theorem ret_ibi {k k2 : IntKind} {a a' c c' : Int} {b b' : Bool} (h : a = a') (h1 : b = b') (h2 : c = c') : Ending.returned (.tuple #[.int k a, .bool b, .int k2 c]) = .returned (.tuple #[.int k a', .bool b', .int k2 c']) := by rw [h, h1, h2]
theorem bne_false {a b : Int} (h : a = b) : (a != b) = false := by rw [h]; simp
theorem bne_true {a b : Int} (h : a ≠ b) : (a != b) = true := by simpa using h
theorem beq_false {a b : Int} (h : a ≠ b) : (a == b) = false := by simpa using h
theorem beq_true {a b : Int} (h : a = b) : (a == b) = true := by simpa using h
end Go.Proofs.YtakkhdammmcjcaaDoor.Mem
/-
  The plain mathematics of layer 7: a message's octets, what octets say, all messages that octets are, and that both fit together. Conditions: the bounds that each lemma names.
-/
namespace Go.Proofs.YtakkhdammmcjcaaDoor.Tlv
open Go.Proofs.YtakkhdammmcjcaaDoor.Base Go.Proofs.YtakkhdammmcjcaaDoor.Ea Go.Proofs.YtakkhdammmcjcaaDoor.Mem
/-- A message. -/
structure It where
  k : Nat
  c : Bool
  v : ByteArray
structure It.Ok (x : It) : Prop where
  k : x.k ≤ 63
  v : x.v.size ≤ 127
def It.bytes (x : It) : ByteArray := one (addr x.k x.c) ++ len x.v.size ++ x.v
/-- Which error has a message that is put? -/
def putE (k : Nat) (v : ByteArray) : Nat := if 63 < k then 2 else if 127 < v.size then 3 else 0
def putS (k : Nat) (c : Bool) (v : ByteArray) : ByteArray := if putE k v = 0 then It.bytes ⟨k, c, v⟩ else ⟨#[]⟩
theorem putE_ok {k : Nat} {v : ByteArray} (h : putE k v = 0) : k ≤ 63 ∧ v.size ≤ 127 := by
  unfold putE at h
  split at h
  · omega
  · split at h <;> omega
theorem putE_of {k : Nat} {v : ByteArray} (h : k ≤ 63) (h1 : v.size ≤ 127) : putE k v = 0 := by
  unfold putE; rw [if_neg (by omega), if_neg (by omega)]
theorem putS_ok {k : Nat} {c : Bool} {v : ByteArray} (h : putE k v = 0) : putS k c v = It.bytes ⟨k, c, v⟩ := if_pos h
/-- What a message is got as: its parts, how many octets, the error's number. -/
structure Got where
  k : Nat
  c : Bool
  v : ByteArray
  n : Nat
  e : Nat
def bad (e : Nat) : Got := ⟨0, false, ⟨#[]⟩, 0, e⟩
def got (s : ByteArray) : Got := match s.data.toList with
  | [] => bad 20
  | a :: r => if a.toNat % 2 = 0 then bad 70 else
    if tkE r ≠ 0 then bad 20 else
    if 127 < tkN r ∨ tkZ r ≠ 1 then bad 70 else
    if s.size < 2 + tkN r then bad 20 else ⟨a.toNat / 4, decide (a.toNat / 2 % 2 = 1), s.extract 2 (2 + tkN r), 2 + tkN r, 0⟩
theorem got_nil {s : ByteArray} (h : s.size = 0) : got s = bad 20 := by
  rw [nil_of_size h]; rfl
theorem got_even {s : ByteArray} (h : 0 < s.size) (he : s[0].toNat % 2 = 0) : got s = bad 70 := by
  unfold got; rw [cons_of_size h]; exact if_pos he
/-- The ways behind an odd first octet. -/
theorem got_ways {s : ByteArray} (h : 0 < s.size) (ho : s[0].toNat % 2 = 1) (t : ByteArray) (ht : s.extract 1 s.size = t) :
    (tk t.data.toList = (0, 0, 20) ∧ got s = bad 20) ∨
    (∃ m : Nat, m < 128 ∧ 1 ≤ t.size ∧ tk t.data.toList = (m, 1, 0) ∧ len m = t.extract 0 1 ∧ s.size < 2 + m ∧ got s = bad 20) ∨
    (∃ m : Nat, m < 128 ∧ 1 ≤ t.size ∧ tk t.data.toList = (m, 1, 0) ∧ len m = t.extract 0 1 ∧ 2 + m ≤ s.size ∧ got s = ⟨s[0].toNat / 4, decide (s[0].toNat / 2 % 2 = 1), s.extract 2 (2 + m), 2 + m, 0⟩) ∨
    (∃ m : Nat, m < 128 ∧ 2 ≤ t.size ∧ tk t.data.toList = (m, 2, 0) ∧ got s = bad 70) ∨
    (∃ m : Nat, 128 ≤ m ∧ m ≤ 32767 ∧ tk t.data.toList = (m, 2, 0) ∧ got s = bad 70) := by
  have hl : t.data.toList = s.data.toList.drop 1 := by rw [← ht, ext_drop]
  have hg : got s = if tkE t.data.toList ≠ 0 then bad 20 else
    if 127 < tkN t.data.toList ∨ tkZ t.data.toList ≠ 1 then bad 70 else
    if s.size < 2 + tkN t.data.toList then bad 20 else ⟨s[0].toNat / 4, decide (s[0].toNat / 2 % 2 = 1), s.extract 2 (2 + tkN t.data.toList), 2 + tkN t.data.toList, 0⟩ := by
    rw [hl]
    conv => lhs; unfold got
    rw [cons_of_size h]
    exact if_neg (by omega)
  rcases tk_cases t with hk | ⟨m, h1, h2, hk, h3⟩ | ⟨m, h1, h2, hk⟩ | ⟨m, h1, h2, h3, hk, h4⟩
  · refine .inl ⟨hk, ?_⟩
    rw [hg, if_pos (by unfold tkE; rw [hk]; decide)]
  · have e1 : tkE t.data.toList = 0 := by unfold tkE; rw [hk]
    have e2 : tkN t.data.toList = m := by unfold tkN; rw [hk]
    have e3 : tkZ t.data.toList = 1 := by unfold tkZ; rw [hk]
    rw [e1, e2, e3, if_neg (by decide), if_neg (by omega)] at hg
    by_cases hs : s.size < 2 + m
    · exact .inr (.inl ⟨m, h1, h2, hk, h3, hs, by rw [hg, if_pos hs]⟩)
    · exact .inr (.inr (.inl ⟨m, h1, h2, hk, h3, by omega, by rw [hg, if_neg hs]⟩))
  · refine .inr (.inr (.inr (.inl ⟨m, h1, h2, hk, ?_⟩)))
    rw [hg, if_neg (by unfold tkE; rw [hk]; simp), if_pos (by unfold tkZ; rw [hk]; exact .inr (by simp))]
  · refine .inr (.inr (.inr (.inr ⟨m, h1, h2, hk, ?_⟩)))
    rw [hg, if_neg (by unfold tkE; rw [hk]; simp), if_pos (by unfold tkZ; rw [hk]; exact .inr (by simp))]
theorem bytes_list {x : It} (h : x.Ok) : x.bytes.data.toList = UInt8.ofNat (addr x.k x.c) :: UInt8.ofNat (2 * x.v.size + 1) :: x.v.data.toList := by
  unfold It.bytes
  rw [app_list, app_list, len_one (by omega) (by have := h.v; omega)]
  show [UInt8.ofNat _] ++ [UInt8.ofNat _] ++ _ = _
  simp
theorem bytes_size {x : It} (h : x.Ok) : x.bytes.size = 2 + x.v.size := by
  have h1 := congrArg List.length (bytes_list h)
  simp only [List.length_cons, size_toList] at h1
  omega
/-- What is put is got as it was, whatever stands behind it. -/
theorem got_put {x : It} (h : x.Ok) (s : ByteArray) : got (x.bytes ++ s) = ⟨x.k, x.c, x.v, x.bytes.size, 0⟩ := by
  have hl := bytes_list h
  have hk := h.k
  have hv := h.v
  have hz := bytes_size h
  obtain ⟨e1, e2, e3⟩ := addr_is _ x.k (by omega) x.c rfl
  have ho : addr x.k x.c % 2 = 1 := of_decide_eq_true e3
  have ha := addr_lt x.k x.c
  have hn := nat_oct _ ha
  have hm := nat_oct (2 * x.v.size + 1) (by omega)
  unfold got
  rw [app_list, hl]
  simp only [List.cons_append]
  have et : tk (UInt8.ofNat (2 * x.v.size + 1) :: (x.v.data.toList ++ s.data.toList)) = (x.v.size, 1, 0) := by
    rw [tk_odd _ _ (by rw [hm]; omega), hm]
    congr 1; omega
  rw [hn, if_neg (by omega)]
  unfold tkE tkN tkZ
  rw [et]
  simp only [ne_eq, not_true_eq_false, if_false, or_false]
  rw [if_neg (by omega), if_neg (by rw [ByteArray.size_append]; omega), hz]
  have f1 : addr x.k x.c / 4 = x.k := (show spD (addr x.k x.c) = addr x.k x.c / 4 from if_pos ho).symm.trans e1
  have f2 : decide (addr x.k x.c / 2 % 2 = 1) = x.c := (show spC (addr x.k x.c) = decide (addr x.k x.c / 2 % 2 = 1) by unfold spC; simp [ho]).symm.trans e2
  have f3 : (x.bytes ++ s).extract 2 (2 + x.v.size) = x.v := by
    apply bext
    rw [ext_list, app_list, hl]
    rw [List.drop_take]
    show List.take (2 + x.v.size - 2) (x.v.data.toList ++ s.data.toList) = _
    rw [show 2 + x.v.size - 2 = x.v.data.toList.length by rw [size_toList]; omega, List.take_left]
  rw [f1, f2, f3]
/-- What is got is put as it was. -/
theorem put_got {s : ByteArray} (h : (got s).e = 0) : putE (got s).k (got s).v = 0 ∧ 2 ≤ (got s).n ∧ (got s).n ≤ s.size ∧ It.bytes ⟨(got s).k, (got s).c, (got s).v⟩ = s.extract 0 (got s).n := by
  by_cases h0 : s.size = 0
  · rw [got_nil h0] at h; exact absurd h (by decide)
  have h1 : 0 < s.size := by omega
  rcases Nat.mod_two_eq_zero_or_one s[0].toNat with he | ho
  · rw [got_even h1 he] at h; exact absurd h (by decide)
  rcases got_ways h1 ho _ rfl with ⟨_, hg⟩ | ⟨_, _, _, _, _, _, hg⟩ | ⟨m, hm, ht, hk, hl, hs, hg⟩ | ⟨_, _, _, _, hg⟩ | ⟨_, _, _, _, hg⟩
  · rw [hg] at h; exact absurd h (by decide)
  · rw [hg] at h; exact absurd h (by decide)
  · rw [hg]
    have b0 := oct_lt s[0]
    have hz : (s.extract 2 (2 + m)).size = m := by rw [ByteArray.size_extract]; omega
    refine ⟨putE_of (by show s[0].toNat / 4 ≤ 63; omega) (by show (s.extract 2 (2 + m)).size ≤ 127; omega), by show 2 ≤ 2 + m; omega, hs, ?_⟩
    show It.bytes ⟨s[0].toNat / 4, decide (s[0].toNat / 2 % 2 = 1), s.extract 2 (2 + m)⟩ = s.extract 0 (2 + m)
    unfold It.bytes
    have ha : addr (s[0].toNat / 4) (decide (s[0].toNat / 2 % 2 = 1)) = s[0].toNat := by
      have hk : spK s[0].toNat = true := decide_eq_true ho
      have := addr_sp s[0].toNat b0 hk
      unfold spD spC at this
      rw [if_pos ho] at this
      simpa [ho] using this
    show one (addr (s[0].toNat / 4) (decide (s[0].toNat / 2 % 2 = 1))) ++ len ((s.extract 2 (2 + m)).size : Int) ++ s.extract 2 (2 + m) = s.extract 0 (2 + m)
    rw [ha, hz, hl]
    apply bext
    have a1 : ((s.extract 1 s.size).extract 0 1).data.toList = (s.data.toList.drop 1).take 1 := by rw [ext_list, ext_drop, List.drop_zero]
    have a2 : (s.extract 2 (2 + m)).data.toList = (s.data.toList.take (2 + m)).drop 2 := ext_list _ _ _
    have a3 : (s.extract 0 (2 + m)).data.toList = s.data.toList.take (2 + m) := by rw [ext_list, List.drop_zero]
    rw [app_list, app_list, a1, a2, a3]
    show [UInt8.ofNat s[0].toNat] ++ _ ++ _ = _
    rw [oct_nat]
    have hc := cons_of_size h1
    have e1 : [s[0]] ++ (s.data.toList.drop 1).take 1 = s.data.toList.take 2 := by
      conv => rhs; rw [hc]
      rfl
    rw [e1, List.drop_take, show 2 + m - 2 = m by omega, List.take_add]
  · rw [hg] at h; exact absurd h (by decide)
  · rw [hg] at h; exact absurd h (by decide)
theorem got_e (s : ByteArray) : (got s).e = 0 ∨ ((got s).e = 20 ∨ (got s).e = 70) ∧ got s = bad (got s).e := by
  by_cases h0 : s.size = 0
  · rw [got_nil h0]; exact .inr ⟨.inl rfl, rfl⟩
  have h1 : 0 < s.size := by omega
  rcases Nat.mod_two_eq_zero_or_one s[0].toNat with he | ho
  · rw [got_even h1 he]; exact .inr ⟨.inr rfl, rfl⟩
  rcases got_ways h1 ho _ rfl with ⟨_, hg⟩ | ⟨_, _, _, _, _, _, hg⟩ | ⟨m, hm, ht, hk, hl, hs, hg⟩ | ⟨_, _, _, _, hg⟩ | ⟨_, _, _, _, hg⟩
  · rw [hg]; exact .inr ⟨.inl rfl, rfl⟩
  · rw [hg]; exact .inr ⟨.inl rfl, rfl⟩
  · rw [hg]; exact .inl rfl
  · rw [hg]; exact .inr ⟨.inr rfl, rfl⟩
  · rw [hg]; exact .inr ⟨.inr rfl, rfl⟩
/-- All messages that octets are, behind those that were got: how many octets are ahead of the first that is none, and its error. -/
def allA (s : ByteArray) : Nat → Nat → List It → List It × Nat × Nat
  | 0, _, acc => (acc, 0, 0)
  | f + 1, at_, acc => if at_ < s.size then
      if (got (s.extract at_ s.size)).e ≠ 0 then ([], at_, (got (s.extract at_ s.size)).e)
      else allA s f (at_ + (got (s.extract at_ s.size)).n) (acc ++ [⟨(got (s.extract at_ s.size)).k, (got (s.extract at_ s.size)).c, (got (s.extract at_ s.size)).v⟩])
    else (acc, 0, 0)
def all (s : ByteArray) : List It × Nat × Nat := allA s (s.size + 1) 0 []
/-- A loop's state: what is still to come gives the answer. -/
def Left (s : ByteArray) (at_ : Nat) (acc : List It) : Prop := ∃ f, s.size < f + at_ ∧ allA s f at_ acc = all s
theorem left_start (s : ByteArray) : Left s 0 [] := ⟨s.size + 1, by omega, rfl⟩
theorem left_step {s : ByteArray} {at_ : Nat} {acc : List It} (h : Left s at_ acc) (hlt : at_ < s.size) (he : (got (s.extract at_ s.size)).e = 0) :
    Left s (at_ + (got (s.extract at_ s.size)).n) (acc ++ [⟨(got (s.extract at_ s.size)).k, (got (s.extract at_ s.size)).c, (got (s.extract at_ s.size)).v⟩]) ∧ 2 ≤ (got (s.extract at_ s.size)).n ∧ at_ + (got (s.extract at_ s.size)).n ≤ s.size := by
  obtain ⟨f, hf, h⟩ := h
  obtain ⟨_, h2, h3, _⟩ := put_got he
  rw [ext_size] at h3
  match f, hf, h with
  | 0, hf, _ => omega
  | f + 1, hf, h =>
    rw [allA, if_pos hlt, if_neg (by rw [he]; decide)] at h
    exact ⟨⟨f, by omega, h⟩, h2, by omega⟩
theorem left_bad {s : ByteArray} {at_ : Nat} {acc : List It} (h : Left s at_ acc) (hlt : at_ < s.size) (he : (got (s.extract at_ s.size)).e ≠ 0) : all s = ([], at_, (got (s.extract at_ s.size)).e) := by
  obtain ⟨f, hf, h⟩ := h
  match f, hf, h with
  | 0, hf, _ => omega
  | f + 1, hf, h =>
    rw [allA, if_pos hlt, if_pos he] at h
    exact h.symm
theorem left_done {s : ByteArray} {at_ : Nat} {acc : List It} (h : Left s at_ acc) (hge : ¬ at_ < s.size) : all s = (acc, 0, 0) := by
  obtain ⟨f, hf, h⟩ := h
  match f, hf, h with
  | 0, hf, h => exact h.symm
  | f + 1, hf, h =>
    rw [allA, if_neg hge] at h
    exact h.symm
theorem all_len (s : ByteArray) : (all s).1.length ≤ s.size := by
  have key : ∀ (f k : Nat) (acc : List It), acc.length ≤ k → k ≤ s.size → (allA s f k acc).1.length ≤ s.size := by
    intro f
    induction f with
    | zero => intro k acc h1 h2; show acc.length ≤ _; omega
    | succ f ih =>
      intro k acc h1 h2
      rw [allA]
      split
      · split
        · exact Nat.zero_le _
        · rename_i h3 h4
          obtain ⟨_, h5, h6, _⟩ := put_got (s := s.extract k s.size) (by omega)
          rw [ext_size] at h6
          exact ih _ _ (by simp; omega) (by omega)
      · show acc.length ≤ _; omega
  exact key _ 0 [] (Nat.zero_le _) (Nat.zero_le _)
theorem got_It {s : ByteArray} (he : (got s).e = 0) : (⟨(got s).k, (got s).c, (got s).v⟩ : It).Ok := by
  obtain ⟨h1, _⟩ := put_got he
  obtain ⟨h2, h3⟩ := putE_ok h1
  exact ⟨h2, h3⟩
/-- The octets of messages that are put one behind the other. -/
def enc : List It → ByteArray
  | [] => ⟨#[]⟩
  | x :: r => x.bytes ++ enc r
theorem enc_snoc (l : List It) (x : It) : enc (l ++ [x]) = enc l ++ x.bytes := by
  induction l with
  | nil => apply bext; show (x.bytes ++ enc []).data.toList = (enc [] ++ x.bytes).data.toList; rw [app_list, app_list]; show _ ++ [] = [] ++ _; simp
  | cons a r ih =>
    show a.bytes ++ enc (r ++ [x]) = (a.bytes ++ enc r) ++ x.bytes
    rw [ih]
    apply bext
    simp only [app_list, List.append_assoc]
theorem enc_size (l : List It) (h : ∀ x ∈ l, x.Ok) : (enc l).size ≤ 129 * l.length := by
  induction l with
  | nil => exact Nat.le_refl _
  | cons a r ih =>
    have h1 := ih fun x hx => h x (List.mem_cons_of_mem _ hx)
    have h2 := bytes_size (h a List.mem_cons_self)
    have h3 := (h a List.mem_cons_self).v
    show (a.bytes ++ enc r).size ≤ _
    rw [ByteArray.size_append, List.length_cons]
    omega
theorem all_enc (l : List It) (h : ∀ x ∈ l, x.Ok) : all (enc l) = (l, 0, 0) := by
  have key : ∀ (r acc : List It), (∀ x ∈ r, x.Ok) → enc l = enc acc ++ enc r → Left (enc l) (enc acc).size acc → all (enc l) = (acc ++ r, 0, 0) := by
    intro r
    induction r with
    | nil =>
      intro acc _ he hL
      rw [List.append_nil]
      refine left_done hL ?_
      rw [he, ByteArray.size_append]
      show ¬ _ < _ + 0
      omega
    | cons x r ih =>
      intro acc hok he hL
      have hx := hok x List.mem_cons_self
      have hz := bytes_size hx
      have ex : (enc l).extract (enc acc).size (enc l).size = x.bytes ++ enc r := by
        apply bext
        rw [ext_drop, he, app_list, List.drop_left' (size_toList _)]; rfl
      have hlt : (enc acc).size < (enc l).size := by
        rw [he, ByteArray.size_append]
        show _ < _ + (x.bytes ++ enc r).size
        rw [ByteArray.size_append]; omega
      have hg := got_put hx (enc r)
      have hs := (left_step hL hlt (by rw [ex, hg])).1
      rw [ex, hg] at hs
      have e1 : (enc acc).size + x.bytes.size = (enc (acc ++ [x])).size := by rw [enc_snoc, ByteArray.size_append]
      simp only [e1] at hs
      have := ih (acc ++ [x]) (fun y hy => hok y (List.mem_cons_of_mem _ hy)) (by
        rw [he, enc_snoc]
        apply bext
        show (enc acc ++ (x.bytes ++ enc r)).data.toList = _
        simp only [app_list, List.append_assoc]) hs
      rw [this, List.append_assoc]; rfl
  have := key l [] h (by apply bext; rw [app_list]; rfl) (left_start _)
  rw [this]; rfl
end Go.Proofs.YtakkhdammmcjcaaDoor.Tlv
