/-
  What the layers above the third share of frames: a frame as a value and in memory, blocks that lie one behind the other, two frames compared, the two tables. No condition but the bounds of octets.
-/
import Derived.Test.YthlciaomfpephaaDoorBasicMath
import Derived.Test.YthlciaomfpephaaDoorFcsCore
import Derived.Test.YthlciaomfpephaaDoorFieldGet
import Derived.WalkSpells
import Derived.WalkLawsBesides
import Derived.Outline
import Derived.Laws.BytesArg
import Derived.Laws.StructEq
namespace Go.Proofs.YthlciaomfpephaaDoor.Basic
open Go.RowKit Go.Proofs.YthlciaomfpephaaDoor.Base Go.Proofs.YthlciaomfpephaaDoor.Ea Go.Proofs.YthlciaomfpephaaDoor.Field
/-- A frame as a value. -/
abbrev fv (f : Fr) : Value := .agg #[.int .u8 (f.d : Int), .bool f.c, .int .u8 (f.k : Int), .bool f.pf, .int .u8 (f.ns : Int), .int .u8 (f.nr : Int), .string f.info]
/-- May there be such a frame, but for its address and how long it is? -/
def Fr.mayR (f : Fr) : Bool := decide (f.d ≤ 63) && f.may
theorem quiet_left {P : Program} {f : FuncId} {args : Array Value} {w : World} {n : Nat} {v : Value}
    (h : Calls P f args (w.drewN n) fun e w' => e = .returned v ∧ w.drewN n = w') : Calls P f args (w.drewN n) fun e w'' => e = .returned v ∧ ∃ m, w'' = w.drewN m :=
  h.mono fun _ _ ⟨he, hm⟩ => ⟨he, n, hm.symm⟩
/-- A frame lies in a block. -/
def FrAt (w : World) (F : Nat) (f : Fr) : Prop := w.heap[F]? = some (.cells #[.int .u8 (f.d : Int), .bool f.c, .int .u8 (f.k : Int), .bool f.pf, .int .u8 (f.ns : Int), .int .u8 (f.nr : Int), .string f.info] 30 (0, 0))
theorem FrAt.cells {w : World} {F : Nat} {f : Fr} (h : FrAt w F f) : w.cell? ⟨F, 0, none⟩ = some (.int .u8 (f.d : Int)) ∧ w.cell? ⟨F, 1, none⟩ = some (.bool f.c) ∧ w.cell? ⟨F, 2, none⟩ = some (.int .u8 (f.k : Int)) ∧ w.cell? ⟨F, 3, none⟩ = some (.bool f.pf) ∧ w.cell? ⟨F, 4, none⟩ = some (.int .u8 (f.ns : Int)) ∧ w.cell? ⟨F, 5, none⟩ = some (.int .u8 (f.nr : Int)) ∧ w.cell? ⟨F, 6, none⟩ = some (.string f.info) := by
  unfold FrAt at h
  simp [World.cell?, h]
theorem lt_heap {w : World} {b : Nat} {o : Obj} (h : w.heap[b]? = some o) : b < w.heap.size := by
  rcases Nat.lt_or_ge b w.heap.size with h' | h'
  · exact h'
  · simp [Array.getElem?_eq_none h'] at h
theorem FrAt.below {w w' : World} {F : Nat} {f : Fr} (h : FrAt w F f) (hb : Below w.heap.size w w') : FrAt w' F f := by
  unfold FrAt at *
  exact (hb.block F (lt_heap h)).trans h
theorem cell_below {w w' : World} {b o : Nat} {v : Value} (h : w.cell? ⟨b, o, none⟩ = some v) (hb : Below w.heap.size w w') : w'.cell? ⟨b, o, none⟩ = some v :=
  (hb.cell (p := ⟨b, o, none⟩) (World.block_lt_of_cell? w ⟨b, o, none⟩ h)).trans h
/-- A pointer to a block's first cell. -/
abbrev ptr (b : Nat) : Value := .pointer (some ⟨b, 0, none⟩)
theorem below_on' {w a b : World} (h : Below w.heap.size w a) (h' : Below a.heap.size a b) : Below w.heap.size w b := h.trans (h'.mono h.size)
/-- Blocks that were made one behind the other lie one behind the other. -/
theorem nest (w : World) (os : List Obj) (i : Nat) (o : Obj) (h : os[i]? = some o) : (os.foldl World.alloc w).heap[w.heap.size + i]? = some o := by
  have hp : ∀ (os : List Obj) (w : World), (os.foldl World.alloc w).heap = w.heap ++ os.toArray := by
    intro os
    induction os with
    | nil => intro w; simp
    | cons a r ih =>
      intro w
      rw [List.foldl_cons, ih]
      show w.heap.push a ++ r.toArray = _
      simp
  rw [hp, Array.getElem?_append_right (by omega)]
  simpa using h
theorem nest_below (w : World) (os : List Obj) : Below w.heap.size w (os.foldl World.alloc w) := by
  have : ∀ (os : List Obj) (v : World), Below w.heap.size w v → Below w.heap.size w (os.foldl World.alloc v) := by
    intro os
    induction os with
    | nil => intro v h; exact h
    | cons a r ih => intro v h; exact ih _ (h.alloc h.size a)
  exact this os w (Below.refl _ _)
theorem cell_of {w : World} {b i : Nat} {cs : Array Value} {t : TypeId} {v : Value} (h : w.heap[b]? = some (.cells cs t)) (hv : cs[i]? = some v) : w.cell? ⟨b, i, none⟩ = some v := by
  unfold World.cell?
  rw [h]; exact hv
theorem conv_at2 (W : World) (b : Nat) (x y : Int) (h0 : W.cell? ⟨b, 0, none⟩ = some (.int .u8 x)) (h1 : W.cell? ⟨b, 1, none⟩ = some (.int .u8 y)) :
    (convert 42 9 (.slice (some ⟨b, 0, none⟩) 2 2)).run Tryd.prog W = .ok (.string ⟨#[UInt8.ofNat x.toNat, UInt8.ofNat y.toNat]⟩) W := by
  have h := run_convert_bytes_arg (P := Tryd.prog) W 42 5 Tryd.underlying42 Tryd.underlying5 b 0 2 2 [x, y] rfl (fun i hi => by
    rw [Nat.zero_add]
    match i, hi with
    | 0, _ => exact h0
    | 1, _ => exact h1) 9 Tryd.underlying9
  rw [h]
  rfl
theorem conv_at1 (W : World) (b : Nat) (x : Int) (h0 : W.cell? ⟨b, 0, none⟩ = some (.int .u8 x)) :
    (convert 42 9 (.slice (some ⟨b, 0, none⟩) 1 1)).run Tryd.prog W = .ok (.string ⟨#[UInt8.ofNat x.toNat]⟩) W := by
  have h := run_convert_bytes_arg (P := Tryd.prog) W 42 5 Tryd.underlying42 Tryd.underlying5 b 0 1 1 [x] rfl (fun i hi => by
    obtain rfl : i = 0 := by omega
    exact h0) 9 Tryd.underlying9
  rw [h]
  rfl
theorem ret_si {a b : ByteArray} {k : IntKind} {x y : Int} (h : a = b) (h1 : x = y) : Ending.returned (.tuple #[.string a, .int k x]) = .returned (.tuple #[.string b, .int k y]) := by rw [h, h1]
theorem ext_drop (s : ByteArray) (k : Nat) : (s.extract k s.size).data.toList = s.data.toList.drop k := by
  rw [ext_list, List.take_of_length_le (by rw [size_toList]; exact Nat.le_refl _)]
theorem ne_list {a b : ByteArray} (h : a ≠ b) : (a.toList == b.toList) = false := by
  rw [beq_eq_false_iff_ne, ByteArray.toList_eq, ByteArray.toList_eq]
  exact fun e => h (bext e)
theorem free_of {w : World} {b i : Nat} {cs : Array Value} {t : TypeId} (h : w.heap[b]? = some (.cells cs t)) : w.frozen? ⟨b, i, none⟩ = false := by
  unfold World.frozen?
  rw [h]; simp
/-- No frame. -/
abbrev noFr : Value := .agg #[.int .u8 0, .bool false, .int .u8 0, .bool false, .int .u8 0, .int .u8 0, .string ⟨#[]⟩]
abbrev noObj : Obj := .cells #[.int .u8 0, .bool false, .int .u8 0, .bool false, .int .u8 0, .int .u8 0, .string ⟨#[]⟩] 30
theorem get_no (c : Nat) (hc : c < 256) (h : gK c = 0) (w : World) (ht : Field.Tab w) :
    Calls Tryd.prog 56 #[.int .u8 (c : Int)] w fun e w' => e = .returned (.tuple #[.int .u8 0, .bool false, .int .u8 0, .int .u8 0, .int .i64 30]) ∧ Below w.heap.size w w' := by
  have p := fget c hc w ht
  obtain ⟨h1, h2, h3, h4⟩ := get_none h
  unfold getV at p
  rw [h, h1, h2, h3, h4] at p
  exact p
theorem get_ok (c : Nat) (hc : c < 256) (h : gK c ≠ 0) (w : World) (ht : Field.Tab w) :
    Calls Tryd.prog 56 #[.int .u8 (c : Int)] w fun e w' => e = .returned (.tuple #[.int .u8 (gK c : Int), .bool (gPF c), .int .u8 (gNS c : Int), .int .u8 (gNR c : Int), .int .i64 0]) ∧ Below w.heap.size w w' := by
  have p := fget c hc w ht
  unfold getV at p
  rw [gE_ok h] at p
  exact p
/-- Cells of a block that holds no frame yet. -/
theorem no_cells {w : World} {b : Nat} (h : w.heap[b]? = some noObj) : (w.cell? ⟨b, 0, none⟩ = some (.int .u8 0) ∧ w.cell? ⟨b, 1, none⟩ = some (.bool false) ∧ w.cell? ⟨b, 2, none⟩ = some (.int .u8 0) ∧ w.cell? ⟨b, 3, none⟩ = some (.bool false) ∧ w.cell? ⟨b, 4, none⟩ = some (.int .u8 0) ∧ w.cell? ⟨b, 5, none⟩ = some (.int .u8 0) ∧ w.cell? ⟨b, 6, none⟩ = some (.string ⟨#[]⟩)) ∧ (∀ i, w.frozen? ⟨b, i, none⟩ = false) :=
  ⟨⟨cell_of h rfl, cell_of h rfl, cell_of h rfl, cell_of h rfl, cell_of h rfl, cell_of h rfl, cell_of h rfl⟩, fun _ => free_of h⟩
theorem set7 {B : Nat} {a w : World} (h : Below B a w) {b : Nat} (hb : B ≤ b) (v0 v1 v2 v3 v4 v5 v6 : Value) : Below B a (((((((w.setCell ⟨b, 0, none⟩ v0).setCell ⟨b, 1, none⟩ v1).setCell ⟨b, 2, none⟩ v2).setCell ⟨b, 3, none⟩ v3).setCell ⟨b, 4, none⟩ v4).setCell ⟨b, 5, none⟩ v5).setCell ⟨b, 6, none⟩ v6) :=
  ((((((h.setCell hb _).setCell hb _).setCell hb _).setCell hb _).setCell hb _).setCell hb _).setCell hb _
theorem block_set {w : World} {b i : Nat} {cs : Array Value} {t : TypeId} (h : w.heap[b]? = some (.cells cs t)) (v : Value) : (w.setCell ⟨b, i, none⟩ v).heap[b]? = some (.cells (cs.setIfInBounds i v) t) := by
  have hlt := lt_heap h
  have h' : w.heap[b] = .cells cs t := by simpa [Array.getElem?_eq_getElem hlt] using h
  show (w.heap.modify b _)[b]? = _
  rw [Array.getElem?_eq_getElem (by simpa using hlt), Array.getElem_modify_self, h']
  rfl
theorem set7_at {w : World} {b : Nat} {u0 u1 u2 u3 u4 u5 u6 : Value} {t : TypeId} (h : w.heap[b]? = some (.cells #[u0, u1, u2, u3, u4, u5, u6] t)) (v0 v1 v2 v3 v4 v5 v6 : Value) : (((((((w.setCell ⟨b, 0, none⟩ v0).setCell ⟨b, 1, none⟩ v1).setCell ⟨b, 2, none⟩ v2).setCell ⟨b, 3, none⟩ v3).setCell ⟨b, 4, none⟩ v4).setCell ⟨b, 5, none⟩ v5).setCell ⟨b, 6, none⟩ v6).heap[b]? = some (.cells #[v0, v1, v2, v3, v4, v5, v6] t) := by
  have h0 : (w.setCell ⟨b, 0, none⟩ v0).heap[b]? = some (.cells #[v0, u1, u2, u3, u4, u5, u6] t) := block_set (i := 0) h v0
  have h1 : ((w.setCell ⟨b, 0, none⟩ v0).setCell ⟨b, 1, none⟩ v1).heap[b]? = some (.cells #[v0, v1, u2, u3, u4, u5, u6] t) := block_set (i := 1) h0 v1
  have h2 : (((w.setCell ⟨b, 0, none⟩ v0).setCell ⟨b, 1, none⟩ v1).setCell ⟨b, 2, none⟩ v2).heap[b]? = some (.cells #[v0, v1, v2, u3, u4, u5, u6] t) := block_set (i := 2) h1 v2
  have h3 : ((((w.setCell ⟨b, 0, none⟩ v0).setCell ⟨b, 1, none⟩ v1).setCell ⟨b, 2, none⟩ v2).setCell ⟨b, 3, none⟩ v3).heap[b]? = some (.cells #[v0, v1, v2, v3, u4, u5, u6] t) := block_set (i := 3) h2 v3
  have h4 : (((((w.setCell ⟨b, 0, none⟩ v0).setCell ⟨b, 1, none⟩ v1).setCell ⟨b, 2, none⟩ v2).setCell ⟨b, 3, none⟩ v3).setCell ⟨b, 4, none⟩ v4).heap[b]? = some (.cells #[v0, v1, v2, v3, v4, u5, u6] t) := block_set (i := 4) h3 v4
  have h5 : ((((((w.setCell ⟨b, 0, none⟩ v0).setCell ⟨b, 1, none⟩ v1).setCell ⟨b, 2, none⟩ v2).setCell ⟨b, 3, none⟩ v3).setCell ⟨b, 4, none⟩ v4).setCell ⟨b, 5, none⟩ v5).heap[b]? = some (.cells #[v0, v1, v2, v3, v4, v5, u6] t) := block_set (i := 5) h4 v5
  have h6 : (((((((w.setCell ⟨b, 0, none⟩ v0).setCell ⟨b, 1, none⟩ v1).setCell ⟨b, 2, none⟩ v2).setCell ⟨b, 3, none⟩ v3).setCell ⟨b, 4, none⟩ v4).setCell ⟨b, 5, none⟩ v5).setCell ⟨b, 6, none⟩ v6).heap[b]? = some (.cells #[v0, v1, v2, v3, v4, v5, v6] t) := block_set (i := 6) h5 v6
  exact h6
theorem FrAt.free {w : World} {F : Nat} {f : Fr} (h : FrAt w F f) : ∀ i, w.frozen? ⟨F, i, none⟩ = false := fun _ => free_of h
theorem quiet_same {P : Program} {f : FuncId} {args : Array Value} {w : World} {n : Nat} {v : Value}
    (h : Calls P f args (w.drewN n) fun e w' => e = .returned v ∧ w.drewN n = w') : Calls P f args (w.drewN n) fun e w'' => e = .returned v ∧ ∃ m, w'' = w.drewN m := quiet_left h
theorem fr_in {a c : Nat} (ha : a < 256) (hc : c < 256) (i : ByteArray) (ini : Bool) : (fr a c i ini).In := by
  have h1 := spD_lt a ha
  have h2 := gK_le c hc
  have h3 : gNS c < 256 := by unfold gNS; split <;> omega
  have h4 : gNR c < 256 := by unfold gNR; split <;> omega
  exact ⟨show spD a < 256 by omega, show gK c < 256 by omega, h3, h4⟩
def fr0 : Fr := ⟨0, false, 0, false, 0, 0, ⟨#[]⟩⟩
/-- Where the tables are. -/
def Tabs (w : World) : Prop := Field.Tab w ∧ Fcs.Tab w
theorem tabs_pos {w : World} (h : Tabs w) : 0 < w.heap.size ∧ 1 < w.heap.size := ⟨Field.tab_pos h.1, Fcs.tab_pos h.2⟩
theorem tabs_below {w w' : World} (h : Tabs w) (hb : Below w.heap.size w w') : Tabs w' := ⟨Field.tab_below h.1 hb, Fcs.tab_below h.2 hb⟩
/-- What == of two frames answers. -/
def eqF (f g : Fr) : Bool := ((f.d : Int) == g.d) && (f.c == g.c) && ((f.k : Int) == g.k) && (f.pf == g.pf) && ((f.ns : Int) == g.ns) && ((f.nr : Int) == g.nr) && (f.info.toList == g.info.toList)
theorem eqF_self (f : Fr) : eqF f f = true := by simp [eqF]
theorem eqF_eq {f g : Fr} (h : eqF f g = true) : f = g := by
  simp only [eqF, Bool.and_eq_true, beq_iff_eq] at h
  obtain ⟨⟨⟨⟨⟨⟨h1, h2⟩, h3⟩, h4⟩, h5⟩, h6⟩, h7⟩ := h
  exact Fr.ext' (by omega) h2 (by omega) h4 (by omega) (by omega) (bext (by rw [ByteArray.toList_eq, ByteArray.toList_eq] at h7; exact h7))
theorem run_eqFields (f g : Fr) (w : World) : (Op.equalIn 10000 30 (fv f) (fv g)).run Tryd.prog w = .ok (eqF f g) w := by
  have u4 := Tryd.underlying4
  have u5 := Tryd.underlying5
  have u9 := Tryd.underlying9
  have a4 := Tryd.isAgg4
  have a5 := Tryd.isAgg5
  have a9 := Tryd.isAgg9
  have z4 := Tryd.sizeOf4
  have z5 := Tryd.sizeOf5
  have z9 := Tryd.sizeOf9
  have hS : Tryd.prog.underlying 30 = some (.struct (Tryd.prog.fieldsOf 30)) := by kernel_rfl
  have hp : Tryd.prog.stoodInHeld 30 = false := by kernel_rfl
  rw [show (10000 : Nat) = 9999 + 1 from rfl, run_equalIn_agg w 9999 30 _ _ hS hp]
  simp only [Program.fieldsOf, Tryd.underlying30]
  go_simp
  unfold eqF
  cases h1 : ((f.d : Int) == g.d)
  · simp_all
  cases h2 : (f.c == g.c)
  · simp_all
  cases h3 : ((f.k : Int) == g.k)
  · simp_all
  cases h4 : (f.pf == g.pf)
  · simp_all
  cases h5 : ((f.ns : Int) == g.ns)
  · simp_all
  cases h6 : ((f.nr : Int) == g.nr)
  · simp_all
  cases h7 : (f.info.toList == g.info.toList) <;> simp_all
theorem run_eqF (f g : Fr) (w : World) : (binOp .eql 30 (fv f) (fv g)).run Tryd.prog w = .ok (.bool (eqF f g)) w := by
  rw [run_eql_struct, run_eqFields]; rfl
theorem run_neF (f g : Fr) (w : World) : (binOp .neq 30 (fv f) (fv g)).run Tryd.prog w = .ok (.bool (!eqF f g)) w := by
  rw [run_neq_struct, run_eqFields]; rfl
/-- A block that was there is as it was. -/
theorem stays {a b : World} {k : Nat} {o : Obj} (h : a.heap[k]? = some o) (hb : Below a.heap.size a b) : b.heap[k]? = some o := (hb.block k (lt_heap h)).trans h
theorem stays1 {a b : World} {k : Nat} {o p : Obj} (h : a.heap[k]? = some o) (hb : Below (a.alloc p).heap.size (a.alloc p) b) : b.heap[k]? = some o := stays (stays h ((Below.refl _ _).alloc (Nat.le_refl _) p)) hb
theorem fresh1 {a b : World} {o : Obj} (hb : Below (a.alloc o).heap.size (a.alloc o) b) : b.heap[a.heap.size]? = some o := stays (nest a [o] 0 o rfl) hb
theorem on1 {w a b : World} {o : Obj} (h : Below w.heap.size w a) (hb : Below (a.alloc o).heap.size (a.alloc o) b) : Below w.heap.size w b := below_on' (below_on' h ((Below.refl _ _).alloc (Nat.le_refl _) o)) hb
theorem tabs1 {w a : World} {o : Obj} (ht : Tabs w) (h : Below w.heap.size w a) : Tabs (a.alloc o) := tabs_below ht (below_on' h ((Below.refl _ _).alloc (Nat.le_refl _) o))
abbrev fO (f : Fr) : Obj := .cells #[.int .u8 (f.d : Int), .bool f.c, .int .u8 (f.k : Int), .bool f.pf, .int .u8 (f.ns : Int), .int .u8 (f.nr : Int), .string f.info] 30
theorem fresh0 {a b : World} {o : Obj} (hb : Below (a.alloc o).heap.size (a.alloc o) b) : b.heap[a.heap.size]? = some o := (hb.block _ (by simp)).trans (nest a [o] 0 o rfl)
theorem on0 {a b : World} {o : Obj} (hb : Below (a.alloc o).heap.size (a.alloc o) b) : Below a.heap.size a b := below_on' ((Below.refl _ _).alloc (Nat.le_refl _) o) hb
theorem two_on {w a b : World} {o p : Obj} (h : Below w.heap.size w a) (hb : Below ((a.alloc o).alloc p).heap.size ((a.alloc o).alloc p) b) : Below w.heap.size w b := on1 (below_on' h ((Below.refl _ _).alloc (Nat.le_refl _) o)) hb
theorem eql_same (f : Fr) (w : World) : (binOp .eql 30 (fv f) (fv f)).run Tryd.prog w = .ok (.bool true) w := by rw [run_eqF, eqF_self]
theorem neq_same (f : Fr) (w : World) : (binOp .neq 30 (fv f) (fv f)).run Tryd.prog w = .ok (.bool false) w := by rw [run_neF, eqF_self]; rfl
theorem eql_none (w : World) : (binOp .eql 30 noFr noFr).run Tryd.prog w = .ok (.bool true) w := eql_same fr0 w
end Go.Proofs.YthlciaomfpephaaDoor.Basic
