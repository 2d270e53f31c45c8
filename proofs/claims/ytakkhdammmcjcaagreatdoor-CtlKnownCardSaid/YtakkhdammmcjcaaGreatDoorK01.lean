/-
  Layer 22, put together: Base, Bits, Conv, Mem, Tk, EaMath. Conditions: as each theorem names them.
-/
import Derived.Test.YtakkhdammmcjcaaGreatDoorChecked
import Derived.WalkKit
import GoSem.Claim
import Derived.Laws.BitsAllLaws
import Derived.Laws.BitsLemmas
import Derived.Laws.Strings
import Derived.Laws.BytesArg
import Derived.Lib.Hide
import Derived.WalkSpells
import Derived.WalkLawsBesides
import Derived.Outline
import Derived.Deep.QuietTactic
import Derived.BigQuiet
import Derived.Deep.RegionHeld
namespace Go.Proofs.YtakkhdammmcjcaaGreatDoor.Base
theorem wf_u8 {n : Int} (h : (Lit.int .u8 n).wf = true) : ∃ m : Nat, n = m ∧ m < 256 := by
 have h' : (decide ((0 : Int) ≤ n) && decide (n ≤ 255)) = true := h
 simp only [Bool.and_eq_true, decide_eq_true_eq] at h'
 exact ⟨n.toNat, by omega, by omega⟩
theorem wf_u16 {n : Int} (h : (Lit.int .u16 n).wf = true) : ∃ m : Nat, n = m ∧ m < 65536 := by
 have h' : (decide ((0 : Int) ≤ n) && decide (n ≤ 65535)) = true := h
 simp only [Bool.and_eq_true, decide_eq_true_eq] at h'
 exact ⟨n.toNat, by omega, by omega⟩
theorem wf_i64 {n : Int} (h : (Lit.int .i64 n).wf = true) : -9223372036854775808 ≤ n ∧ n ≤ 9223372036854775807 := by
 have h' : (decide ((-9223372036854775808 : Int) ≤ n) && decide (n ≤ 9223372036854775807)) = true := h
 simp only [Bool.and_eq_true, decide_eq_true_eq] at h'
 exact h'
theorem ret_bool {a b : Bool} (h : a = b) : Ending.returned (.bool a) = .returned (.bool b) := by rw [h]
theorem ret_int {k : IntKind} {a b : Int} (h : a = b) : Ending.returned (.int k a) = .returned (.int k b) := by rw [h]
end Go.Proofs.YtakkhdammmcjcaaGreatDoor.Base
namespace Go.Proofs.YtakkhdammmcjcaaGreatDoor.Base
theorem oct_lt (c : UInt8) : c.toNat < 256 := c.toNat_lt
theorem u8_and1 (a : Nat) (h : a < 256) : bits .and .u8 (a : Int) 1 = ((a % 2 : Nat) : Int) := by
 have : ∀ j : Fin 256, bits .and .u8 (j.val : Int) 1 = ((j.val % 2 : Nat) : Int) := by decide +kernel
 exact this ⟨a, h⟩
theorem u8_and2 (a : Nat) (h : a < 256) : bits .and .u8 (a : Int) 2 = ((2 * (a / 2 % 2) : Nat) : Int) := by
 have : ∀ j : Fin 256, bits .and .u8 (j.val : Int) 2 = ((2 * (j.val / 2 % 2) : Nat) : Int) := by decide +kernel
 exact this ⟨a, h⟩
theorem wraps_i64 (n : Int) (h₀ : 0 ≤ n) (h₁ : n < 2 ^ 63) : IntKind.i64.wrap n = n := by rw [IntKind.wrap_i64]; omega
theorem nil_of_size {s : ByteArray} (h : s.size = 0) : s = ⟨#[]⟩ := by
 obtain ⟨d⟩ := s
 have : d = #[] := Array.eq_empty_of_size_eq_zero h
 rw [this]
theorem size_toList (s : ByteArray) : s.data.toList.length = s.size := rfl
theorem cons_of_size {s : ByteArray} (h : 0 < s.size) : s.data.toList = s[0] :: s.data.toList.drop 1 := by
 exact List.drop_eq_getElem_cons (l := s.data.toList) (i := 0) (by simpa using h)
theorem cons2_of_size {s : ByteArray} (h : 1 < s.size) : s.data.toList = s[0] :: s[1] :: s.data.toList.drop 2 := by
 have h1 := cons_of_size (s := s) (by omega)
 have := List.drop_eq_getElem_cons (l := s.data.toList) (i := 1) (by simpa using h)
 rw [h1, this]; rfl
theorem one_of_size {s : ByteArray} (h : s.size = 1) : s.data.toList = [s[0]] := by
 have h1 := cons_of_size (s := s) (by omega)
 rw [h1, List.drop_eq_nil_of_le (by simp; show s.size ≤ 1; omega)]
theorem toList_ne {s : ByteArray} (h : 0 < s.size) : ¬ s.toList = [] := by
 rw [ByteArray.toList_eq]
 intro h'
 have : s.data.toList.length = 0 := by rw [h']; rfl
 have h2 : s.data.toList.length = s.size := rfl
 omega
theorem ret_str {a b : ByteArray} (h : a = b) : Ending.returned (.string a) = .returned (.string b) := by rw [h]
theorem ret_ibb {k : IntKind} {a a' : Int} {b b' c c' : Bool} (h : a = a') (h1 : b = b') (h2 : c = c') : Ending.returned (.tuple #[.int k a, .bool b, .bool c]) = .returned (.tuple #[.int k a', .bool b', .bool c']) := by rw [h, h1, h2]
theorem ret_iii {k k1 k2 : IntKind} {a a' b b' c c' : Int} (h : a = a') (h1 : b = b') (h2 : c = c') : Ending.returned (.tuple #[.int k a, .int k1 b, .int k2 c]) = .returned (.tuple #[.int k a', .int k1 b', .int k2 c']) := by rw [h, h1, h2]
end Go.Proofs.YtakkhdammmcjcaaGreatDoor.Base
namespace Go.Proofs.YtakkhdammmcjcaaGreatDoor.Base
theorem cell_new (w : World) (cs : Array Value) (t : TypeId) (i : Nat) : (w.alloc (.cells cs t)).cell? ⟨w.heap.size, i, none⟩ = cs[i]? := by
 have h : (w.alloc (.cells cs t)).heap[w.heap.size]? = some (.cells cs t) := by
  show (w.heap.push _)[w.heap.size]? = _
  simp
 unfold World.cell?
 rw [h]
 rfl
theorem conv_one (w : World) (b : Nat) :
 (convert 126 9 (.slice (some ⟨w.heap.size, 0, none⟩) 1 1)).run Tryz.prog (w.alloc (.cells #[.int .u8 (b : Int)] 5))
  = .ok (.string ⟨#[UInt8.ofNat b]⟩) (w.alloc (.cells #[.int .u8 (b : Int)] 5)) := by
 have h := run_convert_bytes_arg (P := Tryz.prog) (w.alloc (.cells #[.int .u8 (b : Int)] 5)) 126 5 Tryz.underlying126 Tryz.underlying5 w.heap.size 0 1 1 [(b : Int)] rfl (fun i hi => by
  obtain rfl : i = 0 := by omega
  rw [cell_new]; rfl) 9 Tryz.underlying9
 rw [h]
 rfl
theorem conv_two (w : World) (a b : Nat) :
 (convert 126 9 (.slice (some ⟨w.heap.size, 0, none⟩) 2 2)).run Tryz.prog (w.alloc (.cells #[.int .u8 (a : Int), .int .u8 (b : Int)] 5))
  = .ok (.string ⟨#[UInt8.ofNat a, UInt8.ofNat b]⟩) (w.alloc (.cells #[.int .u8 (a : Int), .int .u8 (b : Int)] 5)) := by
 have h := run_convert_bytes_arg (P := Tryz.prog) (w.alloc (.cells #[.int .u8 (a : Int), .int .u8 (b : Int)] 5)) 126 5 Tryz.underlying126 Tryz.underlying5 w.heap.size 0 2 2 [(a : Int), (b : Int)] rfl (fun i hi => by
  rw [Nat.zero_add, cell_new]
  match i, hi with
  | 0, _ => rfl
  | 1, _ => rfl) 9 Tryz.underlying9
 rw [h]
 rfl
theorem conv_oneI (w : World) (b : Int) :
 (convert 126 9 (.slice (some ⟨w.heap.size, 0, none⟩) 1 1)).run Tryz.prog (w.alloc (.cells #[.int .u8 b] 5))
  = .ok (.string ⟨#[UInt8.ofNat b.toNat]⟩) (w.alloc (.cells #[.int .u8 b] 5)) := by
 have h := run_convert_bytes_arg (P := Tryz.prog) (w.alloc (.cells #[.int .u8 b] 5)) 126 5 Tryz.underlying126 Tryz.underlying5 w.heap.size 0 1 1 [b] rfl (fun i hi => by
  obtain rfl : i = 0 := by omega
  rw [cell_new]; rfl) 9 Tryz.underlying9
 rw [h]
 rfl
theorem conv_twoI (w : World) (a b : Int) :
 (convert 126 9 (.slice (some ⟨w.heap.size, 0, none⟩) 2 2)).run Tryz.prog (w.alloc (.cells #[.int .u8 a, .int .u8 b] 5))
  = .ok (.string ⟨#[UInt8.ofNat a.toNat, UInt8.ofNat b.toNat]⟩) (w.alloc (.cells #[.int .u8 a, .int .u8 b] 5)) := by
 have h := run_convert_bytes_arg (P := Tryz.prog) (w.alloc (.cells #[.int .u8 a, .int .u8 b] 5)) 126 5 Tryz.underlying126 Tryz.underlying5 w.heap.size 0 2 2 [a, b] rfl (fun i hi => by
  rw [Nat.zero_add, cell_new]
  match i, hi with
  | 0, _ => rfl
  | 1, _ => rfl) 9 Tryz.underlying9
 rw [h]
 rfl
end Go.Proofs.YtakkhdammmcjcaaGreatDoor.Base
namespace Go.Proofs.YtakkhdammmcjcaaGreatDoor.Mem
open Go.RowKit Base
theorem app_list (a b : ByteArray) : (a ++ b).data.toList = a.data.toList ++ b.data.toList := by simp
theorem bext {a b : ByteArray} (h : a.data.toList = b.data.toList) : a = b := by
 apply ByteArray.ext; apply Array.ext'; exact h
theorem ext_list (s : ByteArray) (a b : Nat) : (s.extract a b).data.toList = (s.data.toList.take b).drop a := by simp [List.drop_take]
theorem ext_drop (s : ByteArray) (k : Nat) : (s.extract k s.size).data.toList = s.data.toList.drop k := by
 rw [ext_list, List.take_of_length_le (by rw [size_toList]; exact Nat.le_refl _)]
theorem ext_size (s : ByteArray) (k : Nat) : (s.extract k s.size).size = s.size - k := by simp
theorem ne_list {a b : ByteArray} (h : a ≠ b) : (a.toList == b.toList) = false := by
 rw [beq_eq_false_iff_ne, ByteArray.toList_eq, ByteArray.toList_eq]
 exact fun e => h (bext e)
theorem eq_list {a b : ByteArray} (h : a = b) : (a.toList == b.toList) = true := by rw [h]; exact beq_self_eq_true _
theorem get_list (s : ByteArray) (k : Nat) (h : k < s.size) : some s[k] = s.data.toList[k]? := by
 rw [List.getElem?_eq_getElem (by exact h)]; rfl
theorem lt_heap {w : World} {b : Nat} {o : Obj} (h : w.heap[b]? = some o) : b < w.heap.size := by
 rcases Nat.lt_or_ge b w.heap.size with h' | h'
 · exact h'
 · simp [Array.getElem?_eq_none h'] at h
theorem cell_below {w w' : World} {b o : Nat} {v : Value} (h : w.cell? ⟨b, o, none⟩ = some v) (hb : Below w.heap.size w w') : w'.cell? ⟨b, o, none⟩ = some v :=
 (hb.cell (p := ⟨b, o, none⟩) (World.block_lt_of_cell? w ⟨b, o, none⟩ h)).trans h
/-- A pointer to a block's first cell. -/
abbrev ptr (b : Nat) : Value := .pointer (some ⟨b, 0, none⟩)
theorem below_on {w a b : World} (h : Below w.heap.size w a) (h' : Below a.heap.size a b) : Below w.heap.size w b := h.trans (h'.mono h.size)
theorem below_drewN {B : Nat} {a w : World} (h : Below B a w) (n : Nat) : Below B a (w.drewN n) := h.trans ⟨rfl, rfl, rfl, Nat.le_refl _, fun _ _ => rfl⟩
/-- Blocks that were made one behind the other lie one behind the other. -/
theorem nest (w : World) (os : List Obj) (i : Nat) (o : Obj) (h : os[i]? = some o) : (os.foldl World.alloc w).heap[w.heap.size + i]? = some o := by
 have hp : ∀ (os : List Obj) (w : World), (os.foldl World.alloc w).heap = w.heap ++ os.toArray := by
  intro os
  induction os with
  | nil => intro w; simp
  | cons a r ih =>
   intro w
   rw [List.foldl_cons, ih]
   show w.heap.push a ++ r.toArray = _
   simp
 rw [hp, Array.getElem?_append_right (by omega)]
 simpa using h
theorem nest_below (w : World) (os : List Obj) : Below w.heap.size w (os.foldl World.alloc w) := by
 have : ∀ (os : List Obj) (v : World), Below w.heap.size w v → Below w.heap.size w (os.foldl World.alloc v) := by
  intro os
  induction os with
  | nil => intro v h; exact h
  | cons a r ih => intro v h; exact ih _ (h.alloc h.size a)
 exact this os w (Below.refl _ _)
theorem cell_of {w : World} {b i : Nat} {cs : Array Value} {t : TypeId} {v : Value} (h : w.heap[b]? = some (.cells cs t)) (hv : cs[i]? = some v) : w.cell? ⟨b, i, none⟩ = some v := by
 unfold World.cell?
 rw [h]; exact hv
theorem free_of {w : World} {b i : Nat} {cs : Array Value} {t : TypeId} (h : w.heap[b]? = some (.cells cs t)) : w.frozen? ⟨b, i, none⟩ = false := by
 unfold World.frozen?
 rw [h]; simp
theorem block_set {w : World} {b i : Nat} {cs : Array Value} {t : TypeId} (h : w.heap[b]? = some (.cells cs t)) (v : Value) : (w.setCell ⟨b, i, none⟩ v).heap[b]? = some (.cells (cs.setIfInBounds i v) t) := by
 have hlt := lt_heap h
 have h' : w.heap[b] = .cells cs t := by simpa [Array.getElem?_eq_getElem hlt] using h
 show (w.heap.modify b _)[b]? = _
 rw [Array.getElem?_eq_getElem (by simpa using hlt), Array.getElem_modify_self, h']
 rfl
theorem set3_at {w : World} {b : Nat} {u0 u1 u2 : Value} {t : TypeId} (h : w.heap[b]? = some (.cells #[u0, u1, u2] t)) (v0 v1 v2 : Value) : (((w.setCell ⟨b, 0, none⟩ v0).setCell ⟨b, 1, none⟩ v1).setCell ⟨b, 2, none⟩ v2).heap[b]? = some (.cells #[v0, v1, v2] t) := by
 have h0 : (w.setCell ⟨b, 0, none⟩ v0).heap[b]? = some (.cells #[v0, u1, u2] t) := block_set (i := 0) h v0
 have h1 : ((w.setCell ⟨b, 0, none⟩ v0).setCell ⟨b, 1, none⟩ v1).heap[b]? = some (.cells #[v0, v1, u2] t) := block_set (i := 1) h0 v1
 exact block_set (i := 2) h1 v2
theorem set3 {B : Nat} {a w : World} (h : Below B a w) {b : Nat} (hb : B ≤ b) (v0 v1 v2 : Value) : Below B a (((w.setCell ⟨b, 0, none⟩ v0).setCell ⟨b, 1, none⟩ v1).setCell ⟨b, 2, none⟩ v2) :=
 ((h.setCell hb _).setCell hb _).setCell hb _
theorem cells3 {w : World} {b : Nat} {u0 u1 u2 : Value} {t : TypeId} (h : w.heap[b]? = some (.cells #[u0, u1, u2] t)) : (w.cell? ⟨b, 0, none⟩ = some u0 ∧ w.cell? ⟨b, 1, none⟩ = some u1 ∧ w.cell? ⟨b, 2, none⟩ = some u2) ∧ w.frozen? ⟨b, 0, none⟩ = false ∧ w.frozen? ⟨b, 1, none⟩ = false ∧ w.frozen? ⟨b, 2, none⟩ = false :=
 ⟨⟨cell_of h rfl, cell_of h rfl, cell_of h rfl⟩, free_of h, free_of h, free_of h⟩
/-- A block that was there is as it was. -/
theorem stays {a b : World} {k : Nat} {o : Obj} (h : a.heap[k]? = some o) (hb : Below a.heap.size a b) : b.heap[k]? = some o := (hb.block k (lt_heap h)).trans h
theorem fresh {a b : World} {o : Obj} (hb : Below (a.alloc o).heap.size (a.alloc o) b) : b.heap[a.heap.size]? = some o := stays (nest a [o] 0 o rfl) hb
theorem on_new {w a b : World} {o : Obj} (h : Below w.heap.size w a) (hb : Below (a.alloc o).heap.size (a.alloc o) b) : Below w.heap.size w b := below_on (below_on h ((Below.refl _ _).alloc (Nat.le_refl _) o)) hb
theorem size_alloc (w : World) (o : Obj) : (w.alloc o).heap.size = w.heap.size + 1 := by simp
theorem quiet_left {P : Program} {f : FuncId} {args : Array Value} {w : World} {n : Nat} {v : Value}
 (h : Calls P f args (w.drewN n) fun e w' => e = .returned v ∧ w.drewN n = w') : Calls P f args (w.drewN n) fun e w'' => e = .returned v ∧ ∃ m, w'' = w.drewN m :=
 h.mono fun _ _ ⟨he, hm⟩ => ⟨he, n, hm.symm⟩
/-- One octet, two octets. -/
def one (a : Nat) : ByteArray := ⟨#[UInt8.ofNat a]⟩
def two (a b : Nat) : ByteArray := ⟨#[UInt8.ofNat a, UInt8.ofNat b]⟩
theorem conv_at2 (W : World) (b : Nat) (x y : Int) (h0 : W.cell? ⟨b, 0, none⟩ = some (.int .u8 x)) (h1 : W.cell? ⟨b, 1, none⟩ = some (.int .u8 y)) :
 (convert 126 9 (.slice (some ⟨b, 0, none⟩) 2 2)).run Tryz.prog W = .ok (.string ⟨#[UInt8.ofNat x.toNat, UInt8.ofNat y.toNat]⟩) W := by
 have h := run_convert_bytes_arg (P := Tryz.prog) W 126 5 Tryz.underlying126 Tryz.underlying5 b 0 2 2 [x, y] rfl (fun i hi => by
  rw [Nat.zero_add]
  match i, hi with
  | 0, _ => exact h0
  | 1, _ => exact h1) 9 Tryz.underlying9
 rw [h]
 rfl
theorem conv_at1 (W : World) (b : Nat) (x : Int) (h0 : W.cell? ⟨b, 0, none⟩ = some (.int .u8 x)) :
 (convert 126 9 (.slice (some ⟨b, 0, none⟩) 1 1)).run Tryz.prog W = .ok (.string ⟨#[UInt8.ofNat x.toNat]⟩) W := by
 have h := run_convert_bytes_arg (P := Tryz.prog) W 126 5 Tryz.underlying126 Tryz.underlying5 b 0 1 1 [x] rfl (fun i hi => by
  obtain rfl : i = 0 := by omega
  exact h0) 9 Tryz.underlying9
 rw [h]
 rfl
theorem ret_si {a b : ByteArray} {k : IntKind} {x y : Int} (h : a = b) (h1 : x = y) : Ending.returned (.tuple #[.string a, .int k x]) = .returned (.tuple #[.string b, .int k y]) := by rw [h, h1]
theorem res5 {fn : Func} {t u v x y : Tmp} (h : fn.results = #[.tmp t, .tmp u, .tmp v, .tmp x, .tmp y]) (tmps : Array Value) (P : Program) (w : World) :
 (results fn tmps).run P w = .ok (.tuple #[tmps.getD t undef, tmps.getD u undef, tmps.getD v undef, tmps.getD x undef, tmps.getD y undef]) w := by simp [results, h]
theorem ret_ibi {k k2 : IntKind} {a a' c c' : Int} {b b' : Bool} (h : a = a') (h1 : b = b') (h2 : c = c') : Ending.returned (.tuple #[.int k a, .bool b, .int k2 c]) = .returned (.tuple #[.int k a', .bool b', .int k2 c']) := by rw [h, h1, h2]
theorem bne_false {a b : Int} (h : a = b) : (a != b) = false := by rw [h]; simp
theorem bne_true {a b : Int} (h : a ≠ b) : (a != b) = true := by simpa using h
theorem beq_false {a b : Int} (h : a ≠ b) : (a == b) = false := by simpa using h
theorem beq_true {a b : Int} (h : a = b) : (a == b) = true := by simpa using h
end Go.Proofs.YtakkhdammmcjcaaGreatDoor.Mem
namespace Go.Proofs.YtakkhdammmcjcaaGreatDoor.Mem
open Go.RowKit Base
theorem z1' {α : Type _} (l : List α) (i : Nat) (a : α) : l.toArray.setIfInBounds i a = (l.set i a).toArray := List.setIfInBounds_toArray ..
theorem z2' {α : Type _} (x : α) (l : List α) (a : α) : (x :: l).set 0 a = a :: l := List.set_cons_zero ..
theorem z3' {α : Type _} (x : α) (l : List α) (i : Nat) (a : α) : (x :: l).set (i + 1) a = x :: l.set i a := List.set_cons_succ ..
/-- What stands at a place of a list. -/
def nth {α : Type _} : List α → Nat → Option α
 | [], _ => none
 | x :: _, 0 => some x
 | _ :: l, i + 1 => nth l i
theorem nth_eq {α : Type _} : ∀ (l : List α) (i : Nat), nth l i = l[i]?
 | [], _ => rfl
 | _ :: _, 0 => rfl
 | _ :: l, i + 1 => (nth_eq l i).trans (List.getElem?_cons_succ).symm
theorem nth_get {α : Type _} {ops : Array α} {i : Nat} {o : α} (h : nth ops.toList i = some o) : ops[i]? = some o := by
 rw [nth_eq, Array.getElem?_toList] at h; exact h
section
variable {P : Program} {ops : Array Oper} {Q : Exit → Act → World → Prop} {md : Region.Mode} {S : World → Prop} {fuel : Nat} {listed : Array Bool} {a : Act} {w : World}
theorem tk (i : Nat) (oi : Oper) {v : Value} (h : wpAnyH P md ops Q S fuel (listed.setIfInBounds i true) (a.put oi.dst v) w) (hi : ops[i]? = some oi := by rfl) (hs : Region.noSelect ops = true := by kernel_rfl) (hf : Region.free md ops listed i = true := by kernel_rfl) (hr : (Region.ready md ops listed).contains i = true := by kernel_rfl) (hQ : ∀ c a w, Q (.panic c) (a.put oi.dst v) w → Q (.panic c) a w := by exact fun _ _ _ h => h)
 (hw : Region.wanted oi (yielded ops a.tmps) = true := by rfl) (hS : S w := by assumption) (hy : ∀ w, S w → (execOp a.eval oi).run P w = .ok (.value v) w := by (intro _ _; go_simp <;> with_reducible rfl)) : wpAnyH P md ops Q S (fuel + 1) listed a w :=
 wpAnyH_take hi hs hf hr hQ (Or.inl ⟨hw, hy⟩) hS h
theorem tv (i : Nat) (oi : Oper) {v : Value} (hy : ∀ w, S w → (execOp a.eval oi).run P w = .ok (.value v) w) (h : wpAnyH P md ops Q S fuel (listed.setIfInBounds i true) (a.put oi.dst v) w) (hi : ops[i]? = some oi := by rfl) (hs : Region.noSelect ops = true := by kernel_rfl) (hf : Region.free md ops listed i = true := by kernel_rfl) (hr : (Region.ready md ops listed).contains i = true := by kernel_rfl) (hQ : ∀ c a w, Q (.panic c) (a.put oi.dst v) w → Q (.panic c) a w := by exact fun _ _ _ h => h)
 (hw : Region.wanted oi (yielded ops a.tmps) = true := by rfl) (hS : S w := by assumption) : wpAnyH P md ops Q S (fuel + 1) listed a w :=
 wpAnyH_take hi hs hf hr hQ (Or.inl ⟨hw, hy⟩) hS h
theorem sk (i : Nat) (oi : Oper) (h : wpAnyH P md ops Q S fuel (listed.setIfInBounds i true) (a.put oi.dst undef) w) (hi : ops[i]? = some oi := by rfl) (hs : Region.noSelect ops = true := by kernel_rfl) (hf : Region.free md ops listed i = true := by kernel_rfl) (hr : (Region.ready md ops listed).contains i = true := by kernel_rfl) (hQ : ∀ c a w, Q (.panic c) (a.put oi.dst undef) w → Q (.panic c) a w := by exact fun _ _ _ h => h)
 (hw : Region.wanted oi (yielded ops a.tmps) = false := by rfl) (hS : S w := by assumption) : wpAnyH P md ops Q S (fuel + 1) listed a w :=
 wpAnyH_take hi hs hf hr hQ (Or.inr ⟨hw, rfl⟩) hS h
/-- The same, the operation found at its place. -/
theorem tk0 (i : Nat) {oi : Oper} (hi : nth ops.toList i = some oi) {v : Value} (h : wpAnyH P md ops Q S fuel (listed.setIfInBounds i true) (a.put oi.dst v) w) (hs : Region.noSelect ops = true := by kernel_rfl) (hf : Region.free md ops listed i = true := by kernel_rfl) (hr : (Region.ready md ops listed).contains i = true := by kernel_rfl) (hQ : ∀ c a w, Q (.panic c) (a.put oi.dst v) w → Q (.panic c) a w := by exact fun _ _ _ h => h)
 (hw : Region.wanted oi (yielded ops a.tmps) = true := by rfl) (hS : S w := by assumption) (hy : ∀ w, S w → (execOp a.eval oi).run P w = .ok (.value v) w := by (intro _ _; go_simp <;> with_reducible rfl)) : wpAnyH P md ops Q S (fuel + 1) listed a w :=
 wpAnyH_take (nth_get hi) hs hf hr hQ (Or.inl ⟨hw, hy⟩) hS h
theorem tv0 (i : Nat) {oi : Oper} (hi : nth ops.toList i = some oi) {v : Value} (hy : ∀ w, S w → (execOp a.eval oi).run P w = .ok (.value v) w) (h : wpAnyH P md ops Q S fuel (listed.setIfInBounds i true) (a.put oi.dst v) w) (hs : Region.noSelect ops = true := by kernel_rfl) (hf : Region.free md ops listed i = true := by kernel_rfl) (hr : (Region.ready md ops listed).contains i = true := by kernel_rfl) (hQ : ∀ c a w, Q (.panic c) (a.put oi.dst v) w → Q (.panic c) a w := by exact fun _ _ _ h => h)
 (hw : Region.wanted oi (yielded ops a.tmps) = true := by rfl) (hS : S w := by assumption) : wpAnyH P md ops Q S (fuel + 1) listed a w :=
 wpAnyH_take (nth_get hi) hs hf hr hQ (Or.inl ⟨hw, hy⟩) hS h
theorem sk0 (i : Nat) {oi : Oper} (hi : nth ops.toList i = some oi) (h : wpAnyH P md ops Q S fuel (listed.setIfInBounds i true) (a.put oi.dst undef) w) (hs : Region.noSelect ops = true := by kernel_rfl) (hf : Region.free md ops listed i = true := by kernel_rfl) (hr : (Region.ready md ops listed).contains i = true := by kernel_rfl) (hQ : ∀ c a w, Q (.panic c) (a.put oi.dst undef) w → Q (.panic c) a w := by exact fun _ _ _ h => h)
 (hw : Region.wanted oi (yielded ops a.tmps) = false := by rfl) (hS : S w := by assumption) : wpAnyH P md ops Q S (fuel + 1) listed a w :=
 wpAnyH_take (nth_get hi) hs hf hr hQ (Or.inr ⟨hw, rfl⟩) hS h
/-- The same, what stands in the slots put together at once. -/
theorem tk9 (i : Nat) {oi : Oper} (hi : nth ops.toList i = some oi) {v : Value} {b : Act} (h : wpAnyH P md ops Q S fuel (listed.setIfInBounds i true) b w) (hs : Region.noSelect ops = true := by kernel_rfl) (hf : Region.free md ops listed i = true := by kernel_rfl) (hr : (Region.ready md ops listed).contains i = true := by kernel_rfl) (hQ : ∀ c a w, Q (.panic c) (a.put oi.dst v) w → Q (.panic c) a w := by exact fun _ _ _ h => h)
 (hw : Region.wanted oi (yielded ops a.tmps) = true := by rfl) (hS : S w := by assumption) (hy : ∀ w, S w → (execOp a.eval oi).run P w = .ok (.value v) w := by (intro _ _; go_simp <;> with_reducible rfl)) (hb : a.put oi.dst v = b := by (simp only [Act.put, z1', z2', z3']; rfl)) : wpAnyH P md ops Q S (fuel + 1) listed a w :=
 wpAnyH_take (nth_get hi) hs hf hr hQ (Or.inl ⟨hw, hy⟩) hS (hb ▸ h)
theorem tv9 (i : Nat) {oi : Oper} (hi : nth ops.toList i = some oi) {v : Value} {b : Act} (hy : ∀ w, S w → (execOp a.eval oi).run P w = .ok (.value v) w) (h : wpAnyH P md ops Q S fuel (listed.setIfInBounds i true) b w) (hs : Region.noSelect ops = true := by kernel_rfl) (hf : Region.free md ops listed i = true := by kernel_rfl) (hr : (Region.ready md ops listed).contains i = true := by kernel_rfl) (hQ : ∀ c a w, Q (.panic c) (a.put oi.dst v) w → Q (.panic c) a w := by exact fun _ _ _ h => h)
 (hw : Region.wanted oi (yielded ops a.tmps) = true := by rfl) (hS : S w := by assumption) (hb : a.put oi.dst v = b := by (simp only [Act.put, z1', z2', z3']; rfl)) : wpAnyH P md ops Q S (fuel + 1) listed a w :=
 wpAnyH_take (nth_get hi) hs hf hr hQ (Or.inl ⟨hw, hy⟩) hS (hb ▸ h)
theorem sk9 (i : Nat) {oi : Oper} (hi : nth ops.toList i = some oi) {b : Act} (h : wpAnyH P md ops Q S fuel (listed.setIfInBounds i true) b w) (hs : Region.noSelect ops = true := by kernel_rfl) (hf : Region.free md ops listed i = true := by kernel_rfl) (hr : (Region.ready md ops listed).contains i = true := by kernel_rfl) (hQ : ∀ c a w, Q (.panic c) (a.put oi.dst undef) w → Q (.panic c) a w := by exact fun _ _ _ h => h)
 (hw : Region.wanted oi (yielded ops a.tmps) = false := by rfl) (hS : S w := by assumption) (hb : a.put oi.dst undef = b := by (simp only [Act.put, z1', z2', z3']; rfl)) : wpAnyH P md ops Q S (fuel + 1) listed a w :=
 wpAnyH_take (nth_get hi) hs hf hr hQ (Or.inr ⟨hw, rfl⟩) hS (hb ▸ h)
theorem ry (rs : List Nat) (h : AllReadyH P md ops Q S fuel listed a w rs) (hr : Region.ready md ops listed = rs := by kernel_rfl) (hne : rs ≠ [] := by simp) : wpAnyH P md ops Q S (fuel + 1) listed a w := wpAnyH_ready hr hne h
end
end Go.Proofs.YtakkhdammmcjcaaGreatDoor.Mem
namespace Go.Proofs.YtakkhdammmcjcaaGreatDoor.Ea
open Base

/-- The address. -/
def addr (d : Nat) (cr : Bool) : Nat := if 63 < d then 0 else 4 * d + 2 * cr.toNat + 1
/-- What an octet is split into. -/
def spD (a : Nat) : Nat := if a % 2 = 1 then a / 4 else 0
def spC (a : Nat) : Bool := decide (a % 2 = 1 ∧ a / 2 % 2 = 1)
def spK (a : Nat) : Bool := decide (a % 2 = 1)
theorem addr_lt (d : Nat) (cr : Bool) : addr d cr < 256 := by
 unfold addr
 split
 · decide
 · have := Bool.toNat_le cr; omega
theorem spD_lt (a : Nat) (h : a < 256) : spD a < 64 := by unfold spD; split <;> omega
theorem addr_sp (a : Nat) (h : a < 256) (ho : spK a = true) : addr (spD a) (spC a) = a := by
 have ho' : a % 2 = 1 := of_decide_eq_true ho
 have h1 : spD a = a / 4 := if_pos ho'
 rw [h1, addr, if_neg (by omega)]
 by_cases hc : a / 2 % 2 = 1
 · have : spC a = true := decide_eq_true ⟨ho', hc⟩
   rw [this]; show 4 * (a / 4) + 2 * 1 + 1 = a; omega
 · have : spC a = false := decide_eq_false fun x => hc x.2
   rw [this]; show 4 * (a / 4) + 2 * 0 + 1 = a; omega
theorem addr_is (a d : Nat) (hd : d < 64) (b : Bool) (h : addr d b = a) : spD a = d ∧ spC a = b ∧ spK a = true := by
 rw [addr, if_neg (by omega)] at h
 have hb := Bool.toNat_le b
 have ho : a % 2 = 1 := by omega
 refine ⟨by rw [spD, if_pos ho]; omega, ?_, decide_eq_true ho⟩
 cases b
 · exact decide_eq_false fun x => by have h' : 4 * d + 2 * 0 + 1 = a := h; omega
 · exact decide_eq_true ⟨ho, by have h' : 4 * d + 2 * 1 + 1 = a := h; omega⟩
theorem addr_none (a : Nat) (ha : a < 256) (h : ∀ d : Nat, d < 64 → ∀ b : Bool, addr d b ≠ a) : spD a = 0 ∧ spC a = false ∧ spK a = false := by
 have hk : spK a = false := by
  cases hk : spK a
  · rfl
  · exact absurd (addr_sp a ha hk) (h _ (spD_lt a ha) _)
 have ho : ¬ a % 2 = 1 := of_decide_eq_false hk
 exact ⟨if_neg ho, decide_eq_false fun x => ho x.1, hk⟩
/-- The octets in which a length is written. -/
def len (n : Int) : ByteArray := if n < 0 ∨ 32767 < n then ⟨#[]⟩ else if n < 128 then ⟨#[UInt8.ofNat (2 * n.toNat + 1)]⟩ else ⟨#[UInt8.ofNat (2 * (n.toNat % 128)), UInt8.ofNat (n.toNat / 128)]⟩
theorem len_no {n : Int} (h : n < 0 ∨ 32767 < n) : len n = ⟨#[]⟩ := if_pos h
theorem len_one {n : Int} (h0 : 0 ≤ n) (h : n < 128) : len n = ⟨#[UInt8.ofNat (2 * n.toNat + 1)]⟩ := by
 rw [len, if_neg (by omega), if_pos h]
theorem len_two {n : Int} (h0 : 128 ≤ n) (h : n ≤ 32767) : len n = ⟨#[UInt8.ofNat (2 * (n.toNat % 128)), UInt8.ofNat (n.toNat / 128)]⟩ := by
 rw [len, if_neg (by omega), if_neg (by omega)]
/-- What is taken: the length, how many octets, the error's number. -/
def tk (l : List UInt8) : Nat × Nat × Nat := match l with
 | [] => (0, 0, 20)
 | a :: r => if a.toNat % 2 = 1 then (a.toNat / 2, 1, 0) else match r with
  | [] => (0, 0, 20)
  | b :: _ => (a.toNat / 2 + 128 * b.toNat, 2, 0)
def tkN (l : List UInt8) : Nat := (tk l).1
def tkZ (l : List UInt8) : Nat := (tk l).2.1
def tkE (l : List UInt8) : Nat := (tk l).2.2
theorem tk_nil : tk [] = (0, 0, 20) := rfl
theorem tk_odd (a : UInt8) (r : List UInt8) (h : a.toNat % 2 = 1) : tk (a :: r) = (a.toNat / 2, 1, 0) := if_pos h
theorem tk_one (a : UInt8) (h : ¬ a.toNat % 2 = 1) : tk [a] = (0, 0, 20) := if_neg h
theorem tk_two (a b : UInt8) (r : List UInt8) (h : ¬ a.toNat % 2 = 1) : tk (a :: b :: r) = (a.toNat / 2 + 128 * b.toNat, 2, 0) := if_neg h
theorem nat_oct (k : Nat) (h : k < 256) : (UInt8.ofNat k).toNat = k := by rw [UInt8.toNat_ofNat']; exact Nat.mod_eq_of_lt h
theorem oct_nat (c : UInt8) : UInt8.ofNat c.toNat = c := by simp
/-- What is written is taken as it was, whatever stands behind. -/
theorem tk_len (n : Int) (s : List UInt8) (h0 : 0 ≤ n) (h1 : n ≤ 32767) : tk ((len n).data.toList ++ s) = (n.toNat, (len n).size, 0) := by
 by_cases h : n < 128
 · rw [len_one h0 h]
   show tk (UInt8.ofNat (2 * n.toNat + 1) :: s) = (n.toNat, 1, 0)
   have hk := nat_oct (2 * n.toNat + 1) (by omega)
   rw [tk_odd _ _ (by rw [hk]; omega), hk]
   congr 1; omega
 · rw [len_two (by omega) h1]
   show tk (UInt8.ofNat (2 * (n.toNat % 128)) :: UInt8.ofNat (n.toNat / 128) :: s) = (n.toNat, 2, 0)
   have hk := nat_oct (2 * (n.toNat % 128)) (by omega)
   have hj := nat_oct (n.toNat / 128) (by omega)
   rw [tk_two _ _ _ (by rw [hk]; omega), hk, hj]
   congr 1; omega
theorem ext_take (s : ByteArray) (k : Nat) : (s.extract 0 k).data.toList = s.data.toList.take k := by simp
/-- What is taken: nothing; one octet, which is written so; two, of less than 128, or which are written so. -/
theorem tk_cases (s : ByteArray) : tk s.data.toList = (0, 0, 20) ∨
 (∃ m : Nat, m < 128 ∧ 1 ≤ s.size ∧ tk s.data.toList = (m, 1, 0) ∧ len m = s.extract 0 1) ∨
 (∃ m : Nat, m < 128 ∧ 2 ≤ s.size ∧ tk s.data.toList = (m, 2, 0)) ∨
 (∃ m : Nat, 128 ≤ m ∧ m ≤ 32767 ∧ 2 ≤ s.size ∧ tk s.data.toList = (m, 2, 0) ∧ len m = s.extract 0 2) := by
 by_cases h0 : s.size = 0
 · obtain rfl := nil_of_size h0
   exact .inl rfl
 have h1 : 0 < s.size := by omega
 have b0 := oct_lt s[0]
 by_cases ho : s[0].toNat % 2 = 1
 · refine .inr (.inl ⟨s[0].toNat / 2, by omega, h1, by rw [cons_of_size h1]; exact tk_odd _ _ ho, ?_⟩)
   rw [len_one (by omega) (by omega)]
   have e : 2 * ((s[0].toNat / 2 : Nat) : Int).toNat + 1 = s[0].toNat := by omega
   rw [e, oct_nat]
   apply ByteArray.ext
   apply Array.ext'
   rw [ext_take, cons_of_size h1]; rfl
 by_cases h2 : s.size = 1
 · exact .inl (by rw [one_of_size h2]; exact tk_one _ ho)
 have h3 : 1 < s.size := by omega
 have b1 := oct_lt s[1]
 have e := tk_two s[0] s[1] (s.data.toList.drop 2) ho
 rw [← cons2_of_size h3] at e
 by_cases hm : s[0].toNat / 2 + 128 * s[1].toNat < 128
 · exact .inr (.inr (.inl ⟨_, hm, h3, e⟩))
 · refine .inr (.inr (.inr ⟨_, by omega, by omega, h3, e, ?_⟩))
   rw [len_two (by omega) (by omega)]
   have e1 : 2 * (((s[0].toNat / 2 + 128 * s[1].toNat : Nat) : Int).toNat % 128) = s[0].toNat := by omega
   have e2 : ((s[0].toNat / 2 + 128 * s[1].toNat : Nat) : Int).toNat / 128 = s[1].toNat := by omega
   rw [e1, e2, oct_nat, oct_nat]
   apply ByteArray.ext
   apply Array.ext'
   rw [ext_take, cons2_of_size h3]; rfl
end Go.Proofs.YtakkhdammmcjcaaGreatDoor.Ea
