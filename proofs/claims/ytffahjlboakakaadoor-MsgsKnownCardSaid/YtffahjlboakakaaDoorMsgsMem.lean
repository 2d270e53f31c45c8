/-
  A message as a value and in memory: a block of twenty cells, loaded and stored whole, and its parts; two messages compared; stores that turn one block. No condition.
-/
import Derived.Test.YtffahjlboakakaaDoorMsgsMath
import Derived.Test.YtffahjlboakakaaDoorPnMem
import Derived.Test.YtffahjlboakakaaDoorMscMem
import Derived.Deep.MidRow
import Derived.Deep.DeepCutAuto
namespace Go.Proofs.YtffahjlboakakaaDoor.Msgs
open Go.RowKit Go.Proofs.YtffahjlboakakaaDoor.Base Go.Proofs.YtffahjlboakakaaDoor.Mem
set_option maxRecDepth 20000
/-- A message's cells. -/
def mc (m : Ms) : Array Value := #[.int .u8 (m.k : Int), .bool m.c, .int .u8 m.p.d, .int .u8 m.p.f, .int .u8 m.p.c, .int .u8 m.p.r, .int .i64 m.p.t, .int .i64 m.p.n, .int .i64 m.p.z, .int .i64 m.p.k, .int .u8 (m.s.d : Int), .bool m.s.f, .bool m.s.c, .bool m.s.r, .bool m.s.i, .bool m.s.v, .bool m.s.b, .int .u8 (m.s.k : Int), .int .u8 (m.t : Int), .string m.b]
abbrev mv (m : Ms) : Value := .agg (mc m)
abbrev mO (m : Ms) (t : TypeId) : Obj := .cells (mc m) t (0, 0)
theorem mc_size (m : Ms) : (mc m).size = 20 := rfl
/-- The cells that are no part's. -/
structure Flds (w : World) (b : Nat) (m : Ms) : Prop where
  k : w.cell? ⟨b, 0, none⟩ = some (.int .u8 (m.k : Int))
  c : w.cell? ⟨b, 1, none⟩ = some (.bool m.c)
  t : w.cell? ⟨b, 18, none⟩ = some (.int .u8 (m.t : Int))
  b : w.cell? ⟨b, 19, none⟩ = some (.string m.b)
theorem flds {w : World} {b : Nat} {m : Ms} {t : TypeId} (h : w.heap[b]? = some (mO m t)) : Flds w b m := ⟨cell_of h rfl, cell_of h rfl, cell_of h rfl, cell_of h rfl⟩
theorem frees {w : World} {b : Nat} {m : Ms} {t : TypeId} (h : w.heap[b]? = some (mO m t)) : w.frozen? ⟨b, 0, none⟩ = false ∧ w.frozen? ⟨b, 1, none⟩ = false ∧ w.frozen? ⟨b, 18, none⟩ = false ∧ w.frozen? ⟨b, 19, none⟩ = false := ⟨free_of h, free_of h, free_of h, free_of h⟩
/-- One block was written, all else is as it was. -/
structure Mod (b : Nat) (w w' : World) : Prop where
  os : w'.os = w.os
  tape : w'.tape = w.tape
  output : w'.output = w.output
  size : w'.heap.size = w.heap.size
  rest : ∀ k, k ≠ b → w'.heap[k]? = w.heap[k]?
theorem Mod.refl (b : Nat) (w : World) : Mod b w w := ⟨rfl, rfl, rfl, rfl, fun _ _ => rfl⟩
theorem Mod.trans {b : Nat} {u v w : World} (h : Mod b u v) (h' : Mod b v w) : Mod b u w := ⟨h'.os.trans h.os, h'.tape.trans h.tape, h'.output.trans h.output, h'.size.trans h.size, fun k hk => (h'.rest k hk).trans (h.rest k hk)⟩
theorem Mod.below {B b : Nat} {a w w' : World} (h : Mod b w w') (hb : Below B a w) (hle : B ≤ b) : Below B a w' :=
  ⟨h.os.trans hb.os, h.tape.trans hb.tape, h.output.trans hb.output, by rw [h.size]; exact hb.size, fun k hk => (h.rest k (by omega)).trans (hb.block k hk)⟩
theorem Mod.other {b k : Nat} {w w' : World} {o : Obj} (h : Mod b w w') (hne : k ≠ b) (hk : w.heap[k]? = some o) : w'.heap[k]? = some o := (h.rest k hne).trans hk
theorem mod_setCell (b i : Nat) (w : World) (v : Value) : Mod b w (w.setCell ⟨b, i, none⟩ v) :=
  ⟨rfl, rfl, rfl, by show (w.heap.modify b _).size = _; simp, fun k hk => Msc.block_other hk v⟩
theorem setCells_block (b : Nat) : ∀ (vs : List Value) (o : Nat) (w : World) (cs : Array Value) (t : TypeId), w.heap[b]? = some (.cells cs t (0, 0)) →
    ∃ cs', (w.setCells b o vs).heap[b]? = some (.cells cs' t (0, 0)) ∧ cs'.size = cs.size ∧ (∀ j, cs'[j]? = if o ≤ j ∧ j < o + vs.length then (if j < cs.size then vs[j - o]? else none) else cs[j]?) ∧ Mod b w (w.setCells b o vs)
  | [], o, w, cs, t, h => ⟨cs, h, rfl, fun j => by rw [if_neg (by simp)], Mod.refl _ _⟩
  | v :: r, o, w, cs, t, h => by
    have h0 := block_set (i := o) h v
    obtain ⟨cs', h1, h2, h3, h4⟩ := setCells_block b r (o + 1) (w.setCell ⟨b, o, none⟩ v) _ t h0
    refine ⟨cs', h1, by rw [h2]; simp, fun j => ?_, (mod_setCell b o w v).trans h4⟩
    rw [h3 j, Array.getElem?_setIfInBounds]
    simp only [Array.size_setIfInBounds, List.length_cons]
    by_cases h5 : o + 1 ≤ j ∧ j < o + 1 + r.length
    · rw [if_pos h5, if_pos (c := o ≤ j ∧ j < o + (r.length + 1)) ⟨by omega, by omega⟩, show j - o = (j - (o + 1)) + 1 by omega, List.getElem?_cons_succ]
    · rw [if_neg h5]
      by_cases h6 : o = j
      · subst h6
        rw [if_pos rfl, if_pos (c := o ≤ o ∧ o < o + (r.length + 1)) ⟨by omega, by omega⟩, Nat.sub_self, List.getElem?_cons_zero]
      · rw [if_neg h6, if_neg (c := o ≤ j ∧ j < o + (r.length + 1)) (by omega)]
/-- A type of so many cells, a struct. -/
structure IsRow (T n : Nat) : Prop where
  under : ∃ fs, Tryd.prog.underlying T = some (.struct fs)
  size : (Tryd.prog.info? T).map (·.size) = some n
theorem isM : IsRow 27 20 := ⟨⟨_, Tryd.underlying27⟩, by kernel_rfl⟩
theorem isR : IsRow 36 20 := ⟨⟨_, Tryd.underlying36⟩, by kernel_rfl⟩
theorem isP : IsRow 23 8 := ⟨⟨_, Tryd.underlying23⟩, by kernel_rfl⟩
theorem isPr : IsRow 33 8 := ⟨⟨_, Tryd.underlying33⟩, by kernel_rfl⟩
theorem isS : IsRow 25 8 := ⟨⟨_, Tryd.underlying25⟩, by kernel_rfl⟩
theorem isSr : IsRow 34 8 := ⟨⟨_, Tryd.underlying34⟩, by kernel_rfl⟩
theorem run_ld {T : Nat} (hT : IsRow T 20) {w : World} {b : Nat} {m : Ms} {t : TypeId} (h : w.heap[b]? = some (mO m t)) : (loadVar T ⟨b, 0, none⟩).run Tryd.prog w = .ok (mv m) w := by
  obtain ⟨fs, hu⟩ := hT.under
  exact run_loadVar_row w b t T (mc m) (0, 0) _ h hu rfl hT.size
section
variable {ops : Array Oper} {rest : List Oper} {a : Act} {Q : Exit → Act → World → Prop} {d : Option Tmp} {x y : Operand} {ty : TypeId} {pos : String} {af : Array Edge} {w : World} {b : Nat} {m : Ms} {t : TypeId} {T : Nat}
/-- A whole message is loaded. -/
theorem ldm (hT : IsRow T 20) (h : w.heap[b]? = some (mO m t)) (hx : a.eval x = ptr b) (k : wpList Tryd.prog ops Q rest (a.put d (mv m)) w) :
    wpList Tryd.prog ops Q ({ dst := d, op := .load T x, type := ty, pos := pos, after := af, guard := none } :: rest) a w := by
  obtain ⟨fs, hu⟩ := hT.under
  exact wpList_load_row rfl T x rfl b hx t (mc m) (0, 0) _ h hu rfl hT.size k
/-- Its parameters are. -/
theorem range_p (h : w.heap[b]? = some (mO m t)) : w.rangeAt b 2 [.int .u8 m.p.d, .int .u8 m.p.f, .int .u8 m.p.c, .int .u8 m.p.r, .int .i64 m.p.t, .int .i64 m.p.n, .int .i64 m.p.z, .int .i64 m.p.k] := fun j v hv => by
  match j, hv with
  | 0, hv => exact (cell_of h rfl).trans hv
  | 1, hv => exact (cell_of h rfl).trans hv
  | 2, hv => exact (cell_of h rfl).trans hv
  | 3, hv => exact (cell_of h rfl).trans hv
  | 4, hv => exact (cell_of h rfl).trans hv
  | 5, hv => exact (cell_of h rfl).trans hv
  | 6, hv => exact (cell_of h rfl).trans hv
  | 7, hv => exact (cell_of h rfl).trans hv
theorem range_s (h : w.heap[b]? = some (mO m t)) : w.rangeAt b 10 [.int .u8 (m.s.d : Int), .bool m.s.f, .bool m.s.c, .bool m.s.r, .bool m.s.i, .bool m.s.v, .bool m.s.b, .int .u8 (m.s.k : Int)] := fun j v hv => by
  match j, hv with
  | 0, hv => exact (cell_of h rfl).trans hv
  | 1, hv => exact (cell_of h rfl).trans hv
  | 2, hv => exact (cell_of h rfl).trans hv
  | 3, hv => exact (cell_of h rfl).trans hv
  | 4, hv => exact (cell_of h rfl).trans hv
  | 5, hv => exact (cell_of h rfl).trans hv
  | 6, hv => exact (cell_of h rfl).trans hv
  | 7, hv => exact (cell_of h rfl).trans hv
theorem ldp (hT : IsRow T 8) (h : w.heap[b]? = some (mO m t)) (hx : a.eval x = .pointer (some ⟨b, 2, none⟩)) (k : wpList Tryd.prog ops Q rest (a.put d (Pn.pv m.p)) w) :
    wpList Tryd.prog ops Q ({ dst := d, op := .load T x, type := ty, pos := pos, after := af, guard := none } :: rest) a w := by
  obtain ⟨fs, hu⟩ := hT.under
  exact wpList_load_mid rfl T x rfl b 2 hx _ _ (range_p h) hu rfl hT.size k
theorem lds (hT : IsRow T 8) (h : w.heap[b]? = some (mO m t)) (hx : a.eval x = .pointer (some ⟨b, 10, none⟩)) (k : wpList Tryd.prog ops Q rest (a.put d (Msc.sv m.s)) w) :
    wpList Tryd.prog ops Q ({ dst := d, op := .load T x, type := ty, pos := pos, after := af, guard := none } :: rest) a w := by
  obtain ⟨fs, hu⟩ := hT.under
  exact wpList_load_mid rfl T x rfl b 10 hx _ _ (range_s h) hu rfl hT.size k
theorem there_of {n o : Nat} {cs : Array Value} (h : w.heap[b]? = some (.cells cs t (0, 0))) (hn : o + n ≤ cs.size) : w.there b o n := fun j hj => by
  have h1 : o + j < cs.size := by omega
  exact ⟨by rw [cell_of h (Array.getElem?_eq_getElem h1)]; rfl, free_of h⟩
theorem over_all (m m0 : Ms) (cs' : Array Value) (h : ∀ j, cs'[j]? = if 0 ≤ j ∧ j < 0 + (mc m).toList.length then (if j < (mc m0).size then (mc m).toList[j - 0]? else none) else (mc m0)[j]?) : cs' = mc m := by
  apply Array.ext_getElem?
  intro j
  rw [h j]
  by_cases hj : j < 20
  · rw [if_pos (by rw [Array.length_toList, mc_size]; omega), if_pos (by rw [mc_size]; exact hj), Nat.sub_zero, Array.getElem?_toList]
  · rw [if_neg (by rw [Array.length_toList, mc_size]; omega), Array.getElem?_eq_none (by rw [mc_size]; omega), Array.getElem?_eq_none (by rw [mc_size]; omega)]
theorem one_all (m : Ms) : (mc m).all (·.oneCell') = true := by unfold mc; simp [Value.oneCell']
/-- A whole message is stored over another one. -/
theorem stm (hT : IsRow T 20) {m0 : Ms} (h : w.heap[b]? = some (mO m0 t)) (hx : a.eval x = ptr b) (hy : a.eval y = mv m) (k : ∀ w', w'.heap[b]? = some (mO m t) → Mod b w w' → wpList Tryd.prog ops Q rest (a.put d undef) w') :
    wpList Tryd.prog ops Q ({ dst := d, op := .store T x y, type := ty, pos := pos, after := af, guard := none } :: rest) a w := by
  obtain ⟨cs', h1, _, h3, h4⟩ := setCells_block b (mc m).toList 0 w _ t h
  obtain rfl := over_all m m0 cs' h3
  exact wpList_store_mid rfl T x y rfl b 0 (mc m) hx hy (there_of h (by rw [mc_size, mc_size]; decide)) hT.size (one_all m) (k _ h1 h4)
theorem over_p (m : Ms) (p : Pn.Pr) (cs' : Array Value) (h : ∀ j, cs'[j]? = if 2 ≤ j ∧ j < 2 + 8 then (if j < (mc m).size then ([.int .u8 p.d, .int .u8 p.f, .int .u8 p.c, .int .u8 p.r, .int .i64 p.t, .int .i64 p.n, .int .i64 p.z, .int .i64 p.k] : List Value)[j - 2]? else none) else (mc m)[j]?) : cs' = mc ⟨m.k, m.c, p, m.s, m.t, m.b⟩ := by
  apply Array.ext_getElem?
  intro j
  rw [h j]
  match j with
  | 0 | 1 | 2 | 3 | 4 | 5 | 6 | 7 | 8 | 9 | 10 | 11 | 12 | 13 | 14 | 15 | 16 | 17 | 18 | 19 => rfl
  | j + 20 => rw [if_neg (by omega), Array.getElem?_eq_none (by rw [mc_size]; omega), Array.getElem?_eq_none (by rw [mc_size]; omega)]
theorem over_s (m : Ms) (s : Msc.St) (cs' : Array Value) (h : ∀ j, cs'[j]? = if 10 ≤ j ∧ j < 10 + 8 then (if j < (mc m).size then ([.int .u8 (s.d : Int), .bool s.f, .bool s.c, .bool s.r, .bool s.i, .bool s.v, .bool s.b, .int .u8 (s.k : Int)] : List Value)[j - 10]? else none) else (mc m)[j]?) : cs' = mc ⟨m.k, m.c, m.p, s, m.t, m.b⟩ := by
  apply Array.ext_getElem?
  intro j
  rw [h j]
  match j with
  | 0 | 1 | 2 | 3 | 4 | 5 | 6 | 7 | 8 | 9 | 10 | 11 | 12 | 13 | 14 | 15 | 16 | 17 | 18 | 19 => rfl
  | j + 20 => rw [if_neg (by omega), Array.getElem?_eq_none (by rw [mc_size]; omega), Array.getElem?_eq_none (by rw [mc_size]; omega)]
theorem stp (hT : IsRow T 8) {p : Pn.Pr} (h : w.heap[b]? = some (mO m t)) (hx : a.eval x = .pointer (some ⟨b, 2, none⟩)) (hy : a.eval y = Pn.pv p) (k : ∀ w', w'.heap[b]? = some (mO ⟨m.k, m.c, p, m.s, m.t, m.b⟩ t) → Mod b w w' → wpList Tryd.prog ops Q rest (a.put d undef) w') :
    wpList Tryd.prog ops Q ({ dst := d, op := .store T x y, type := ty, pos := pos, after := af, guard := none } :: rest) a w := by
  obtain ⟨cs', h1, _, h3, h4⟩ := setCells_block b [.int .u8 p.d, .int .u8 p.f, .int .u8 p.c, .int .u8 p.r, .int .i64 p.t, .int .i64 p.n, .int .i64 p.z, .int .i64 p.k] 2 w _ t h
  obtain rfl := over_p m p cs' h3
  exact wpList_store_mid rfl T x y rfl b 2 _ hx hy (there_of h (by rw [mc_size]; show 2 + 8 ≤ 20; decide)) hT.size (by simp [Value.oneCell']) (k _ h1 h4)
theorem sts (hT : IsRow T 8) {s : Msc.St} (h : w.heap[b]? = some (mO m t)) (hx : a.eval x = .pointer (some ⟨b, 10, none⟩)) (hy : a.eval y = Msc.sv s) (k : ∀ w', w'.heap[b]? = some (mO ⟨m.k, m.c, m.p, s, m.t, m.b⟩ t) → Mod b w w' → wpList Tryd.prog ops Q rest (a.put d undef) w') :
    wpList Tryd.prog ops Q ({ dst := d, op := .store T x y, type := ty, pos := pos, after := af, guard := none } :: rest) a w := by
  obtain ⟨cs', h1, _, h3, h4⟩ := setCells_block b [.int .u8 (s.d : Int), .bool s.f, .bool s.c, .bool s.r, .bool s.i, .bool s.v, .bool s.b, .int .u8 (s.k : Int)] 10 w _ t h
  obtain rfl := over_s m s cs' h3
  exact wpList_store_mid rfl T x y rfl b 10 _ hx hy (there_of h (by rw [mc_size]; show 10 + 8 ≤ 20; decide)) hT.size (by simp [Value.oneCell']) (k _ h1 h4)
/-- A message is built. -/
theorem bdm {parts : Array (Nat × Operand)} (m : Ms) (hb : Tryd.prog.built T (parts.map fun (i, x) => (i, a.eval x)).toList = some (mc m)) (k : wpList Tryd.prog ops Q rest (a.put d (mv m)) w) :
    wpList Tryd.prog ops Q ({ dst := d, op := .build T parts, type := ty, pos := pos, after := af, guard := none } :: rest) a w := by
  refine wpList_build rfl T parts rfl (by rw [hb]; rfl) ?_
  rw [hb]
  exact k
end
/-- A field is written. -/
theorem set_c {w : World} {b : Nat} {m : Ms} {t : TypeId} (h : w.heap[b]? = some (mO m t)) (c : Bool) : (w.setCell ⟨b, 1, none⟩ (.bool c)).heap[b]? = some (mO (m.cmd c) t) := block_set h _
theorem set_t {w : World} {b : Nat} {m : Ms} {t : TypeId} (h : w.heap[b]? = some (mO m t)) (x : Nat) : (w.setCell ⟨b, 18, none⟩ (.int .u8 (x : Int))).heap[b]? = some (mO ⟨m.k, m.c, m.p, m.s, x, m.b⟩ t) := block_set h _
theorem set_b {w : World} {b : Nat} {m : Ms} {t : TypeId} (h : w.heap[b]? = some (mO m t)) (x : ByteArray) : (w.setCell ⟨b, 19, none⟩ (.string x)).heap[b]? = some (mO ⟨m.k, m.c, m.p, m.s, m.t, x⟩ t) := block_set h _

theorem eq9P (p q : Pn.Pr) (w : World) : (Op.equalIn 9999 23 (Pn.pv p) (Pn.pv q)).run Tryd.prog w = .ok (Pn.eqP p q) w := by
  have u2 := Tryd.underlying3
  have u5 := Tryd.underlying5
  have a2 := Tryd.isAgg3
  have a5 := Tryd.isAgg5
  have z2 := Tryd.sizeOf3
  have z5 := Tryd.sizeOf5
  have hS : Tryd.prog.underlying 23 = some (.struct (Tryd.prog.fieldsOf 23)) := by kernel_rfl
  have hp : Tryd.prog.stoodInHeld 23 = false := by kernel_rfl
  rw [show (9999 : Nat) = 9998 + 1 from rfl, run_equalIn_agg w 9998 23 _ _ hS hp]
  simp only [Program.fieldsOf, Tryd.underlying23]
  go_simp
  unfold Pn.eqP
  cases h1 : (p.d == q.d)
  · simp_all
  cases h2 : (p.f == q.f)
  · simp_all
  cases h3 : (p.c == q.c)
  · simp_all
  cases h4 : (p.r == q.r)
  · simp_all
  cases h5 : (p.t == q.t)
  · simp_all
  cases h6 : (p.n == q.n)
  · simp_all
  cases h7 : (p.z == q.z)
  · simp_all
  cases h8 : (p.k == q.k) <;> simp_all
theorem eq9Pr (p q : Pn.Pr) (w : World) : (Op.equalIn 9999 33 (Pn.pv p) (Pn.pv q)).run Tryd.prog w = .ok (Pn.eqP p q) w := by
  have u2 := Tryd.underlying3
  have u5 := Tryd.underlying5
  have a2 := Tryd.isAgg3
  have a5 := Tryd.isAgg5
  have z2 := Tryd.sizeOf3
  have z5 := Tryd.sizeOf5
  have hS : Tryd.prog.underlying 33 = some (.struct (Tryd.prog.fieldsOf 33)) := by kernel_rfl
  have hp : Tryd.prog.stoodInHeld 33 = false := by kernel_rfl
  rw [show (9999 : Nat) = 9998 + 1 from rfl, run_equalIn_agg w 9998 33 _ _ hS hp]
  simp only [Program.fieldsOf, Tryd.underlying33]
  go_simp
  unfold Pn.eqP
  cases h1 : (p.d == q.d)
  · simp_all
  cases h2 : (p.f == q.f)
  · simp_all
  cases h3 : (p.c == q.c)
  · simp_all
  cases h4 : (p.r == q.r)
  · simp_all
  cases h5 : (p.t == q.t)
  · simp_all
  cases h6 : (p.n == q.n)
  · simp_all
  cases h7 : (p.z == q.z)
  · simp_all
  cases h8 : (p.k == q.k) <;> simp_all
theorem eq9S (p q : Msc.St) (w : World) : (Op.equalIn 9999 25 (Msc.sv p) (Msc.sv q)).run Tryd.prog w = .ok (Msc.eqS p q) w := by
  have u2 := Tryd.underlying4
  have u5 := Tryd.underlying5
  have a2 := Tryd.isAgg4
  have a5 := Tryd.isAgg5
  have z2 := Tryd.sizeOf4
  have z5 := Tryd.sizeOf5
  have hS : Tryd.prog.underlying 25 = some (.struct (Tryd.prog.fieldsOf 25)) := by kernel_rfl
  have hp : Tryd.prog.stoodInHeld 25 = false := by kernel_rfl
  rw [show (9999 : Nat) = 9998 + 1 from rfl, run_equalIn_agg w 9998 25 _ _ hS hp]
  simp only [Program.fieldsOf, Tryd.underlying25]
  go_simp
  obtain ⟨p0, p1, p2, p3, p4, p5, p6, p7⟩ := p
  obtain ⟨q0, q1, q2, q3, q4, q5, q6, q7⟩ := q
  rw [Msc.eqS_of]
  dsimp only
  by_cases h0 : p0 = q0
  · subst h0
    by_cases h7 : p7 = q7
    · subst h7
      revert p1 q1 p2 q2 p3 q3 p4 q4 p5 q5 p6 q6
      simp
    · simp_all <;> (intros; omega)
  · simp_all <;> (intros; omega)
theorem eq9Sr (p q : Msc.St) (w : World) : (Op.equalIn 9999 34 (Msc.sv p) (Msc.sv q)).run Tryd.prog w = .ok (Msc.eqS p q) w := by
  have u2 := Tryd.underlying4
  have u5 := Tryd.underlying5
  have a2 := Tryd.isAgg4
  have a5 := Tryd.isAgg5
  have z2 := Tryd.sizeOf4
  have z5 := Tryd.sizeOf5
  have hS : Tryd.prog.underlying 34 = some (.struct (Tryd.prog.fieldsOf 34)) := by kernel_rfl
  have hp : Tryd.prog.stoodInHeld 34 = false := by kernel_rfl
  rw [show (9999 : Nat) = 9998 + 1 from rfl, run_equalIn_agg w 9998 34 _ _ hS hp]
  simp only [Program.fieldsOf, Tryd.underlying34]
  go_simp
  obtain ⟨p0, p1, p2, p3, p4, p5, p6, p7⟩ := p
  obtain ⟨q0, q1, q2, q3, q4, q5, q6, q7⟩ := q
  rw [Msc.eqS_of]
  dsimp only
  by_cases h0 : p0 = q0
  · subst h0
    by_cases h7 : p7 = q7
    · subst h7
      revert p1 q1 p2 q2 p3 q3 p4 q4 p5 q5 p6 q6
      simp
    · simp_all <;> (intros; omega)
  · simp_all <;> (intros; omega)
theorem eqFM (p q : Ms) (w : World) : (Op.equalIn 10000 27 (mv p) (mv q)).run Tryd.prog w = .ok (eqM p q) w := by
  have u4 := Tryd.underlying4
  have u5 := Tryd.underlying5
  have u9 := Tryd.underlying9
  have a4 := Tryd.isAgg4
  have a5 := Tryd.isAgg5
  have a9 := Tryd.isAgg9
  have aP := Tryd.isAgg23
  have aS := Tryd.isAgg25
  have z4 := Tryd.sizeOf4
  have z5 := Tryd.sizeOf5
  have z9 := Tryd.sizeOf9
  have zP := Tryd.sizeOf23
  have zS := Tryd.sizeOf25
  have eP := eq9P p.p q.p
  have eS := eq9S p.s q.s
  have hS : Tryd.prog.underlying 27 = some (.struct (Tryd.prog.fieldsOf 27)) := by kernel_rfl
  have hp : Tryd.prog.stoodInHeld 27 = false := by kernel_rfl
  rw [show (10000 : Nat) = 9999 + 1 from rfl, run_equalIn_agg w 9999 27 _ _ hS hp]
  simp only [Program.fieldsOf, Tryd.underlying27]
  unfold mc
  generalize hP : Pn.eqP p.p q.p = bP at *
  generalize hQ : Msc.eqS p.s q.s = bS at *
  unfold eqM
  rw [hP, hQ]
  go_simp
  cases h1 : (p.k == q.k)
  · simp_all <;> (intros; omega)
  cases h2 : (p.c == q.c)
  · simp_all
  cases bP
  · simp_all
  cases bS
  · simp_all
  cases h5 : (p.t == q.t)
  · simp_all <;> (intros; omega)
  cases h6 : (p.b.toList == q.b.toList) <;> simp_all <;> (intro _; assumption)
theorem eqFR (p q : Ms) (w : World) : (Op.equalIn 10000 36 (mv p) (mv q)).run Tryd.prog w = .ok (eqM p q) w := by
  have u4 := Tryd.underlying4
  have u5 := Tryd.underlying5
  have u9 := Tryd.underlying9
  have a4 := Tryd.isAgg4
  have a5 := Tryd.isAgg5
  have a9 := Tryd.isAgg9
  have aP := Tryd.isAgg33
  have aS := Tryd.isAgg34
  have z4 := Tryd.sizeOf4
  have z5 := Tryd.sizeOf5
  have z9 := Tryd.sizeOf9
  have zP := Tryd.sizeOf33
  have zS := Tryd.sizeOf34
  have eP := eq9Pr p.p q.p
  have eS := eq9Sr p.s q.s
  have hS : Tryd.prog.underlying 36 = some (.struct (Tryd.prog.fieldsOf 36)) := by kernel_rfl
  have hp : Tryd.prog.stoodInHeld 36 = false := by kernel_rfl
  rw [show (10000 : Nat) = 9999 + 1 from rfl, run_equalIn_agg w 9999 36 _ _ hS hp]
  simp only [Program.fieldsOf, Tryd.underlying36]
  unfold mc
  generalize hP : Pn.eqP p.p q.p = bP at *
  generalize hQ : Msc.eqS p.s q.s = bS at *
  unfold eqM
  rw [hP, hQ]
  go_simp
  cases h1 : (p.k == q.k)
  · simp_all <;> (intros; omega)
  cases h2 : (p.c == q.c)
  · simp_all
  cases bP
  · simp_all
  cases bS
  · simp_all
  cases h5 : (p.t == q.t)
  · simp_all <;> (intros; omega)
  cases h6 : (p.b.toList == q.b.toList) <;> simp_all <;> (intro _; assumption)
theorem run_eqM (p q : Ms) (w : World) : (binOp .eql 27 (mv p) (mv q)).run Tryd.prog w = .ok (.bool (eqM p q)) w := by
  rw [run_eql_struct, eqFM]; rfl
theorem run_neM (p q : Ms) (w : World) : (binOp .neq 27 (mv p) (mv q)).run Tryd.prog w = .ok (.bool (!eqM p q)) w := by
  rw [run_neq_struct, eqFM]; rfl
theorem run_eqR (p q : Ms) (w : World) : (binOp .eql 36 (mv p) (mv q)).run Tryd.prog w = .ok (.bool (eqM p q)) w := by
  rw [run_eql_struct, eqFR]; rfl
theorem run_neR (p q : Ms) (w : World) : (binOp .neq 36 (mv p) (mv q)).run Tryd.prog w = .ok (.bool (!eqM p q)) w := by
  rw [run_neq_struct, eqFR]; rfl
end Go.Proofs.YtffahjlboakakaaDoor.Msgs
