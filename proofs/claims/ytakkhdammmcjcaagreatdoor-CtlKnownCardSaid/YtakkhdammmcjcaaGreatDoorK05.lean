/-
  Layer 22, put together: MsgsMem, OwnS, MsgsSmall. Conditions: as each theorem names them.
-/
import Derived.Test.YtakkhdammmcjcaaGreatDoorK03
import Derived.Test.YtakkhdammmcjcaaGreatDoorK04
import Derived.Test.YtakkhdammmcjcaaGreatDoorK01
import Derived.Deep.MidRow
import Derived.Deep.DeepCutAuto
import Derived.Laws.OwnMore
import Derived.Deep.Grids
import Derived.Carry
namespace Go.Proofs.YtakkhdammmcjcaaGreatDoor.Msgs
open Go.RowKit Base Mem
set_option maxRecDepth 20000
/-- A message's cells. -/
def mc (m : Ms) : Array Value := #[.int .u8 (m.k : Int), .bool m.c, .int .u8 m.p.d, .int .u8 m.p.f, .int .u8 m.p.c, .int .u8 m.p.r, .int .i64 m.p.t, .int .i64 m.p.n, .int .i64 m.p.z, .int .i64 m.p.k, .int .u8 (m.s.d : Int), .bool m.s.f, .bool m.s.c, .bool m.s.r, .bool m.s.i, .bool m.s.v, .bool m.s.b, .int .u8 (m.s.k : Int), .int .u8 (m.t : Int), .string m.b]
abbrev mv (m : Ms) : Value := .agg (mc m)
abbrev mO (m : Ms) (t : TypeId) : Obj := .cells (mc m) t (0, 0)
theorem mc_size (m : Ms) : (mc m).size = 20 := rfl
/-- The cells that are no part's. -/
structure Flds (w : World) (b : Nat) (m : Ms) : Prop where
 k : w.cell? ⟨b, 0, none⟩ = some (.int .u8 (m.k : Int))
 c : w.cell? ⟨b, 1, none⟩ = some (.bool m.c)
 t : w.cell? ⟨b, 18, none⟩ = some (.int .u8 (m.t : Int))
 b : w.cell? ⟨b, 19, none⟩ = some (.string m.b)
theorem flds {w : World} {b : Nat} {m : Ms} {t : TypeId} (h : w.heap[b]? = some (mO m t)) : Flds w b m := ⟨cell_of h rfl, cell_of h rfl, cell_of h rfl, cell_of h rfl⟩
theorem frees {w : World} {b : Nat} {m : Ms} {t : TypeId} (h : w.heap[b]? = some (mO m t)) : w.frozen? ⟨b, 0, none⟩ = false ∧ w.frozen? ⟨b, 1, none⟩ = false ∧ w.frozen? ⟨b, 18, none⟩ = false ∧ w.frozen? ⟨b, 19, none⟩ = false := ⟨free_of h, free_of h, free_of h, free_of h⟩
/-- One block was written, all else is as it was. -/
structure Mod (b : Nat) (w w' : World) : Prop where
 os : w'.os = w.os
 tape : w'.tape = w.tape
 output : w'.output = w.output
 size : w'.heap.size = w.heap.size
 rest : ∀ k, k ≠ b → w'.heap[k]? = w.heap[k]?
theorem Mod.refl (b : Nat) (w : World) : Mod b w w := ⟨rfl, rfl, rfl, rfl, fun _ _ => rfl⟩
theorem Mod.trans {b : Nat} {u v w : World} (h : Mod b u v) (h' : Mod b v w) : Mod b u w := ⟨h'.os.trans h.os, h'.tape.trans h.tape, h'.output.trans h.output, h'.size.trans h.size, fun k hk => (h'.rest k hk).trans (h.rest k hk)⟩
theorem Mod.below {B b : Nat} {a w w' : World} (h : Mod b w w') (hb : Below B a w) (hle : B ≤ b) : Below B a w' :=
 ⟨h.os.trans hb.os, h.tape.trans hb.tape, h.output.trans hb.output, by rw [h.size]; exact hb.size, fun k hk => (h.rest k (by omega)).trans (hb.block k hk)⟩
theorem Mod.other {b k : Nat} {w w' : World} {o : Obj} (h : Mod b w w') (hne : k ≠ b) (hk : w.heap[k]? = some o) : w'.heap[k]? = some o := (h.rest k hne).trans hk
theorem mod_setCell (b i : Nat) (w : World) (v : Value) : Mod b w (w.setCell ⟨b, i, none⟩ v) :=
 ⟨rfl, rfl, rfl, by show (w.heap.modify b _).size = _; simp, fun k hk => Msc.block_other hk v⟩
theorem setCells_block (b : Nat) : ∀ (vs : List Value) (o : Nat) (w : World) (cs : Array Value) (t : TypeId), w.heap[b]? = some (.cells cs t (0, 0)) →
 ∃ cs', (w.setCells b o vs).heap[b]? = some (.cells cs' t (0, 0)) ∧ cs'.size = cs.size ∧ (∀ j, cs'[j]? = if o ≤ j ∧ j < o + vs.length then (if j < cs.size then vs[j - o]? else none) else cs[j]?) ∧ Mod b w (w.setCells b o vs)
 | [], o, w, cs, t, h => ⟨cs, h, rfl, fun j => by rw [if_neg (by simp)], Mod.refl _ _⟩
 | v :: r, o, w, cs, t, h => by
  have h0 := block_set (i := o) h v
  obtain ⟨cs', h1, h2, h3, h4⟩ := setCells_block b r (o + 1) (w.setCell ⟨b, o, none⟩ v) _ t h0
  refine ⟨cs', h1, by rw [h2]; simp, fun j => ?_, (mod_setCell b o w v).trans h4⟩
  rw [h3 j, Array.getElem?_setIfInBounds]
  simp only [Array.size_setIfInBounds, List.length_cons]
  by_cases h5 : o + 1 ≤ j ∧ j < o + 1 + r.length
  · rw [if_pos h5, if_pos (c := o ≤ j ∧ j < o + (r.length + 1)) ⟨by omega, by omega⟩, show j - o = (j - (o + 1)) + 1 by omega, List.getElem?_cons_succ]
  · rw [if_neg h5]
    by_cases h6 : o = j
    · subst h6
      rw [if_pos rfl, if_pos (c := o ≤ o ∧ o < o + (r.length + 1)) ⟨by omega, by omega⟩, Nat.sub_self, List.getElem?_cons_zero]
    · rw [if_neg h6, if_neg (c := o ≤ j ∧ j < o + (r.length + 1)) (by omega)]
/-- A type of so many cells, a struct. -/
structure IsRow (T n : Nat) : Prop where
 under : ∃ fs, Tryz.prog.underlying T = some (.struct fs)
 size : (Tryz.prog.info? T).map (·.size) = some n
theorem isM : IsRow 29 20 := ⟨⟨_, Tryz.underlying29⟩, by kernel_rfl⟩
theorem isR : IsRow 79 20 := ⟨⟨_, Tryz.underlying79⟩, by kernel_rfl⟩
theorem isP : IsRow 25 8 := ⟨⟨_, Tryz.underlying25⟩, by kernel_rfl⟩
theorem isPr : IsRow 44 8 := ⟨⟨_, Tryz.underlying44⟩, by kernel_rfl⟩
theorem isS : IsRow 27 8 := ⟨⟨_, Tryz.underlying27⟩, by kernel_rfl⟩
theorem isSr : IsRow 77 8 := ⟨⟨_, Tryz.underlying77⟩, by kernel_rfl⟩
theorem run_ld {T : Nat} (hT : IsRow T 20) {w : World} {b : Nat} {m : Ms} {t : TypeId} (h : w.heap[b]? = some (mO m t)) : (loadVar T ⟨b, 0, none⟩).run Tryz.prog w = .ok (mv m) w := by
 obtain ⟨fs, hu⟩ := hT.under
 exact run_loadVar_row w b t T (mc m) (0, 0) _ h hu rfl hT.size
section
variable {ops : Array Oper} {rest : List Oper} {a : Act} {Q : Exit → Act → World → Prop} {d : Option Tmp} {x y : Operand} {ty : TypeId} {pos : String} {af : Array Edge} {w : World} {b : Nat} {m : Ms} {t : TypeId} {T : Nat}
/-- A whole message is loaded. -/
theorem ldm (hT : IsRow T 20) (h : w.heap[b]? = some (mO m t)) (hx : a.eval x = ptr b) (k : wpList Tryz.prog ops Q rest (a.put d (mv m)) w) :
 wpList Tryz.prog ops Q ({ dst := d, op := .load T x, type := ty, pos := pos, after := af, guard := none } :: rest) a w := by
 obtain ⟨fs, hu⟩ := hT.under
 exact wpList_load_row rfl T x rfl b hx t (mc m) (0, 0) _ h hu rfl hT.size k
/-- Its parameters are. -/
theorem range_p (h : w.heap[b]? = some (mO m t)) : w.rangeAt b 2 [.int .u8 m.p.d, .int .u8 m.p.f, .int .u8 m.p.c, .int .u8 m.p.r, .int .i64 m.p.t, .int .i64 m.p.n, .int .i64 m.p.z, .int .i64 m.p.k] := fun j v hv => by
 match j, hv with
 | 0, hv => exact (cell_of h rfl).trans hv
 | 1, hv => exact (cell_of h rfl).trans hv
 | 2, hv => exact (cell_of h rfl).trans hv
 | 3, hv => exact (cell_of h rfl).trans hv
 | 4, hv => exact (cell_of h rfl).trans hv
 | 5, hv => exact (cell_of h rfl).trans hv
 | 6, hv => exact (cell_of h rfl).trans hv
 | 7, hv => exact (cell_of h rfl).trans hv
theorem range_s (h : w.heap[b]? = some (mO m t)) : w.rangeAt b 10 [.int .u8 (m.s.d : Int), .bool m.s.f, .bool m.s.c, .bool m.s.r, .bool m.s.i, .bool m.s.v, .bool m.s.b, .int .u8 (m.s.k : Int)] := fun j v hv => by
 match j, hv with
 | 0, hv => exact (cell_of h rfl).trans hv
 | 1, hv => exact (cell_of h rfl).trans hv
 | 2, hv => exact (cell_of h rfl).trans hv
 | 3, hv => exact (cell_of h rfl).trans hv
 | 4, hv => exact (cell_of h rfl).trans hv
 | 5, hv => exact (cell_of h rfl).trans hv
 | 6, hv => exact (cell_of h rfl).trans hv
 | 7, hv => exact (cell_of h rfl).trans hv
theorem ldp (hT : IsRow T 8) (h : w.heap[b]? = some (mO m t)) (hx : a.eval x = .pointer (some ⟨b, 2, none⟩)) (k : wpList Tryz.prog ops Q rest (a.put d (Pn.pv m.p)) w) :
 wpList Tryz.prog ops Q ({ dst := d, op := .load T x, type := ty, pos := pos, after := af, guard := none } :: rest) a w := by
 obtain ⟨fs, hu⟩ := hT.under
 exact wpList_load_mid rfl T x rfl b 2 hx _ _ (range_p h) hu rfl hT.size k
theorem lds (hT : IsRow T 8) (h : w.heap[b]? = some (mO m t)) (hx : a.eval x = .pointer (some ⟨b, 10, none⟩)) (k : wpList Tryz.prog ops Q rest (a.put d (Msc.sv m.s)) w) :
 wpList Tryz.prog ops Q ({ dst := d, op := .load T x, type := ty, pos := pos, after := af, guard := none } :: rest) a w := by
 obtain ⟨fs, hu⟩ := hT.under
 exact wpList_load_mid rfl T x rfl b 10 hx _ _ (range_s h) hu rfl hT.size k
theorem there_of {n o : Nat} {cs : Array Value} (h : w.heap[b]? = some (.cells cs t (0, 0))) (hn : o + n ≤ cs.size) : w.there b o n := fun j hj => by
 have h1 : o + j < cs.size := by omega
 exact ⟨by rw [cell_of h (Array.getElem?_eq_getElem h1)]; rfl, free_of h⟩
theorem over_all (m m0 : Ms) (cs' : Array Value) (h : ∀ j, cs'[j]? = if 0 ≤ j ∧ j < 0 + (mc m).toList.length then (if j < (mc m0).size then (mc m).toList[j - 0]? else none) else (mc m0)[j]?) : cs' = mc m := by
 apply Array.ext_getElem?
 intro j
 rw [h j]
 by_cases hj : j < 20
 · rw [if_pos (by rw [Array.length_toList, mc_size]; omega), if_pos (by rw [mc_size]; exact hj), Nat.sub_zero, Array.getElem?_toList]
 · rw [if_neg (by rw [Array.length_toList, mc_size]; omega), Array.getElem?_eq_none (by rw [mc_size]; omega), Array.getElem?_eq_none (by rw [mc_size]; omega)]
theorem one_all (m : Ms) : (mc m).all (·.oneCell') = true := by unfold mc; simp [Value.oneCell']
/-- A whole message is stored over another one. -/
theorem stm (hT : IsRow T 20) {m0 : Ms} (h : w.heap[b]? = some (mO m0 t)) (hx : a.eval x = ptr b) (hy : a.eval y = mv m) (k : ∀ w', w'.heap[b]? = some (mO m t) → Mod b w w' → wpList Tryz.prog ops Q rest (a.put d undef) w') :
 wpList Tryz.prog ops Q ({ dst := d, op := .store T x y, type := ty, pos := pos, after := af, guard := none } :: rest) a w := by
 obtain ⟨cs', h1, _, h3, h4⟩ := setCells_block b (mc m).toList 0 w _ t h
 obtain rfl := over_all m m0 cs' h3
 exact wpList_store_mid rfl T x y rfl b 0 (mc m) hx hy (there_of h (by rw [mc_size, mc_size]; decide)) hT.size (one_all m) (k _ h1 h4)
theorem over_p (m : Ms) (p : Pn.Pr) (cs' : Array Value) (h : ∀ j, cs'[j]? = if 2 ≤ j ∧ j < 2 + 8 then (if j < (mc m).size then ([.int .u8 p.d, .int .u8 p.f, .int .u8 p.c, .int .u8 p.r, .int .i64 p.t, .int .i64 p.n, .int .i64 p.z, .int .i64 p.k] : List Value)[j - 2]? else none) else (mc m)[j]?) : cs' = mc ⟨m.k, m.c, p, m.s, m.t, m.b⟩ := by
 apply Array.ext_getElem?
 intro j
 rw [h j]
 match j with
 | 0 | 1 | 2 | 3 | 4 | 5 | 6 | 7 | 8 | 9 | 10 | 11 | 12 | 13 | 14 | 15 | 16 | 17 | 18 | 19 => rfl
 | j + 20 => rw [if_neg (by omega), Array.getElem?_eq_none (by rw [mc_size]; omega), Array.getElem?_eq_none (by rw [mc_size]; omega)]
theorem over_s (m : Ms) (s : Msc.St) (cs' : Array Value) (h : ∀ j, cs'[j]? = if 10 ≤ j ∧ j < 10 + 8 then (if j < (mc m).size then ([.int .u8 (s.d : Int), .bool s.f, .bool s.c, .bool s.r, .bool s.i, .bool s.v, .bool s.b, .int .u8 (s.k : Int)] : List Value)[j - 10]? else none) else (mc m)[j]?) : cs' = mc ⟨m.k, m.c, m.p, s, m.t, m.b⟩ := by
 apply Array.ext_getElem?
 intro j
 rw [h j]
 match j with
 | 0 | 1 | 2 | 3 | 4 | 5 | 6 | 7 | 8 | 9 | 10 | 11 | 12 | 13 | 14 | 15 | 16 | 17 | 18 | 19 => rfl
 | j + 20 => rw [if_neg (by omega), Array.getElem?_eq_none (by rw [mc_size]; omega), Array.getElem?_eq_none (by rw [mc_size]; omega)]
theorem stp (hT : IsRow T 8) {p : Pn.Pr} (h : w.heap[b]? = some (mO m t)) (hx : a.eval x = .pointer (some ⟨b, 2, none⟩)) (hy : a.eval y = Pn.pv p) (k : ∀ w', w'.heap[b]? = some (mO ⟨m.k, m.c, p, m.s, m.t, m.b⟩ t) → Mod b w w' → wpList Tryz.prog ops Q rest (a.put d undef) w') :
 wpList Tryz.prog ops Q ({ dst := d, op := .store T x y, type := ty, pos := pos, after := af, guard := none } :: rest) a w := by
 obtain ⟨cs', h1, _, h3, h4⟩ := setCells_block b [.int .u8 p.d, .int .u8 p.f, .int .u8 p.c, .int .u8 p.r, .int .i64 p.t, .int .i64 p.n, .int .i64 p.z, .int .i64 p.k] 2 w _ t h
 obtain rfl := over_p m p cs' h3
 exact wpList_store_mid rfl T x y rfl b 2 _ hx hy (there_of h (by rw [mc_size]; show 2 + 8 ≤ 20; decide)) hT.size (by simp [Value.oneCell']) (k _ h1 h4)
theorem sts (hT : IsRow T 8) {s : Msc.St} (h : w.heap[b]? = some (mO m t)) (hx : a.eval x = .pointer (some ⟨b, 10, none⟩)) (hy : a.eval y = Msc.sv s) (k : ∀ w', w'.heap[b]? = some (mO ⟨m.k, m.c, m.p, s, m.t, m.b⟩ t) → Mod b w w' → wpList Tryz.prog ops Q rest (a.put d undef) w') :
 wpList Tryz.prog ops Q ({ dst := d, op := .store T x y, type := ty, pos := pos, after := af, guard := none } :: rest) a w := by
 obtain ⟨cs', h1, _, h3, h4⟩ := setCells_block b [.int .u8 (s.d : Int), .bool s.f, .bool s.c, .bool s.r, .bool s.i, .bool s.v, .bool s.b, .int .u8 (s.k : Int)] 10 w _ t h
 obtain rfl := over_s m s cs' h3
 exact wpList_store_mid rfl T x y rfl b 10 _ hx hy (there_of h (by rw [mc_size]; show 10 + 8 ≤ 20; decide)) hT.size (by simp [Value.oneCell']) (k _ h1 h4)
/-- A message is built. -/
theorem bdm {parts : Array (Nat × Operand)} (m : Ms) (hb : Tryz.prog.built T (parts.map fun (i, x) => (i, a.eval x)).toList = some (mc m)) (k : wpList Tryz.prog ops Q rest (a.put d (mv m)) w) :
 wpList Tryz.prog ops Q ({ dst := d, op := .build T parts, type := ty, pos := pos, after := af, guard := none } :: rest) a w := by
 refine wpList_build rfl T parts rfl (by rw [hb]; rfl) ?_
 rw [hb]
 exact k
end
/-- A field is written. -/
theorem set_c {w : World} {b : Nat} {m : Ms} {t : TypeId} (h : w.heap[b]? = some (mO m t)) (c : Bool) : (w.setCell ⟨b, 1, none⟩ (.bool c)).heap[b]? = some (mO (m.cmd c) t) := block_set h _
theorem set_t {w : World} {b : Nat} {m : Ms} {t : TypeId} (h : w.heap[b]? = some (mO m t)) (x : Nat) : (w.setCell ⟨b, 18, none⟩ (.int .u8 (x : Int))).heap[b]? = some (mO ⟨m.k, m.c, m.p, m.s, x, m.b⟩ t) := block_set h _
theorem set_b {w : World} {b : Nat} {m : Ms} {t : TypeId} (h : w.heap[b]? = some (mO m t)) (x : ByteArray) : (w.setCell ⟨b, 19, none⟩ (.string x)).heap[b]? = some (mO ⟨m.k, m.c, m.p, m.s, m.t, x⟩ t) := block_set h _

theorem eq9P (p q : Pn.Pr) (w : World) : (Op.equalIn 9999 25 (Pn.pv p) (Pn.pv q)).run Tryz.prog w = .ok (Pn.eqP p q) w := by
 have u2 := Tryz.underlying3
 have u5 := Tryz.underlying5
 have a2 := Tryz.isAgg3
 have a5 := Tryz.isAgg5
 have z2 := Tryz.sizeOf3
 have z5 := Tryz.sizeOf5
 have hS : Tryz.prog.underlying 25 = some (.struct (Tryz.prog.fieldsOf 25)) := by kernel_rfl
 have hp : Tryz.prog.stoodInHeld 25 = false := by kernel_rfl
 rw [show (9999 : Nat) = 9998 + 1 from rfl, run_equalIn_agg w 9998 25 _ _ hS hp]
 simp only [Program.fieldsOf, Tryz.underlying25]
 go_simp
 unfold Pn.eqP
 cases h1 : (p.d == q.d)
 · simp_all
 cases h2 : (p.f == q.f)
 · simp_all
 cases h3 : (p.c == q.c)
 · simp_all
 cases h4 : (p.r == q.r)
 · simp_all
 cases h5 : (p.t == q.t)
 · simp_all
 cases h6 : (p.n == q.n)
 · simp_all
 cases h7 : (p.z == q.z)
 · simp_all
 cases h8 : (p.k == q.k) <;> simp_all
theorem eq9Pr (p q : Pn.Pr) (w : World) : (Op.equalIn 9999 44 (Pn.pv p) (Pn.pv q)).run Tryz.prog w = .ok (Pn.eqP p q) w := by
 have u2 := Tryz.underlying3
 have u5 := Tryz.underlying5
 have a2 := Tryz.isAgg3
 have a5 := Tryz.isAgg5
 have z2 := Tryz.sizeOf3
 have z5 := Tryz.sizeOf5
 have hS : Tryz.prog.underlying 44 = some (.struct (Tryz.prog.fieldsOf 44)) := by kernel_rfl
 have hp : Tryz.prog.stoodInHeld 44 = false := by kernel_rfl
 rw [show (9999 : Nat) = 9998 + 1 from rfl, run_equalIn_agg w 9998 44 _ _ hS hp]
 simp only [Program.fieldsOf, Tryz.underlying44]
 go_simp
 unfold Pn.eqP
 cases h1 : (p.d == q.d)
 · simp_all
 cases h2 : (p.f == q.f)
 · simp_all
 cases h3 : (p.c == q.c)
 · simp_all
 cases h4 : (p.r == q.r)
 · simp_all
 cases h5 : (p.t == q.t)
 · simp_all
 cases h6 : (p.n == q.n)
 · simp_all
 cases h7 : (p.z == q.z)
 · simp_all
 cases h8 : (p.k == q.k) <;> simp_all
theorem eq9S (p q : Msc.St) (w : World) : (Op.equalIn 9999 27 (Msc.sv p) (Msc.sv q)).run Tryz.prog w = .ok (Msc.eqS p q) w := by
 have u2 := Tryz.underlying4
 have u5 := Tryz.underlying5
 have a2 := Tryz.isAgg4
 have a5 := Tryz.isAgg5
 have z2 := Tryz.sizeOf4
 have z5 := Tryz.sizeOf5
 have hS : Tryz.prog.underlying 27 = some (.struct (Tryz.prog.fieldsOf 27)) := by kernel_rfl
 have hp : Tryz.prog.stoodInHeld 27 = false := by kernel_rfl
 rw [show (9999 : Nat) = 9998 + 1 from rfl, run_equalIn_agg w 9998 27 _ _ hS hp]
 simp only [Program.fieldsOf, Tryz.underlying27]
 go_simp
 obtain ⟨p0, p1, p2, p3, p4, p5, p6, p7⟩ := p
 obtain ⟨q0, q1, q2, q3, q4, q5, q6, q7⟩ := q
 rw [Msc.eqS_of]
 dsimp only
 by_cases h0 : p0 = q0
 · subst h0
   by_cases h7 : p7 = q7
   · subst h7
     revert p1 q1 p2 q2 p3 q3 p4 q4 p5 q5 p6 q6
     simp
   · simp_all <;> (intros; omega)
 · simp_all <;> (intros; omega)
theorem eq9Sr (p q : Msc.St) (w : World) : (Op.equalIn 9999 77 (Msc.sv p) (Msc.sv q)).run Tryz.prog w = .ok (Msc.eqS p q) w := by
 have u2 := Tryz.underlying4
 have u5 := Tryz.underlying5
 have a2 := Tryz.isAgg4
 have a5 := Tryz.isAgg5
 have z2 := Tryz.sizeOf4
 have z5 := Tryz.sizeOf5
 have hS : Tryz.prog.underlying 77 = some (.struct (Tryz.prog.fieldsOf 77)) := by kernel_rfl
 have hp : Tryz.prog.stoodInHeld 77 = false := by kernel_rfl
 rw [show (9999 : Nat) = 9998 + 1 from rfl, run_equalIn_agg w 9998 77 _ _ hS hp]
 simp only [Program.fieldsOf, Tryz.underlying77]
 go_simp
 obtain ⟨p0, p1, p2, p3, p4, p5, p6, p7⟩ := p
 obtain ⟨q0, q1, q2, q3, q4, q5, q6, q7⟩ := q
 rw [Msc.eqS_of]
 dsimp only
 by_cases h0 : p0 = q0
 · subst h0
   by_cases h7 : p7 = q7
   · subst h7
     revert p1 q1 p2 q2 p3 q3 p4 q4 p5 q5 p6 q6
     simp
   · simp_all <;> (intros; omega)
 · simp_all <;> (intros; omega)
theorem eqFM (p q : Ms) (w : World) : (Op.equalIn 10000 29 (mv p) (mv q)).run Tryz.prog w = .ok (eqM p q) w := by
 have u4 := Tryz.underlying4
 have u5 := Tryz.underlying5
 have u9 := Tryz.underlying9
 have a4 := Tryz.isAgg4
 have a5 := Tryz.isAgg5
 have a9 := Tryz.isAgg9
 have aP := Tryz.isAgg25
 have aS := Tryz.isAgg27
 have z4 := Tryz.sizeOf4
 have z5 := Tryz.sizeOf5
 have z9 := Tryz.sizeOf9
 have zP := Tryz.sizeOf25
 have zS := Tryz.sizeOf27
 have eP := eq9P p.p q.p
 have eS := eq9S p.s q.s
 have hS : Tryz.prog.underlying 29 = some (.struct (Tryz.prog.fieldsOf 29)) := by kernel_rfl
 have hp : Tryz.prog.stoodInHeld 29 = false := by kernel_rfl
 rw [show (10000 : Nat) = 9999 + 1 from rfl, run_equalIn_agg w 9999 29 _ _ hS hp]
 simp only [Program.fieldsOf, Tryz.underlying29]
 unfold mc
 generalize hP : Pn.eqP p.p q.p = bP at *
 generalize hQ : Msc.eqS p.s q.s = bS at *
 unfold eqM
 rw [hP, hQ]
 go_simp
 cases h1 : (p.k == q.k)
 · simp_all <;> (intros; omega)
 cases h2 : (p.c == q.c)
 · simp_all
 cases bP
 · simp_all
 cases bS
 · simp_all
 cases h5 : (p.t == q.t)
 · simp_all <;> (intros; omega)
 cases h6 : (p.b.toList == q.b.toList) <;> simp_all <;> (intro _; assumption)
theorem eqFR (p q : Ms) (w : World) : (Op.equalIn 10000 79 (mv p) (mv q)).run Tryz.prog w = .ok (eqM p q) w := by
 have u4 := Tryz.underlying4
 have u5 := Tryz.underlying5
 have u9 := Tryz.underlying9
 have a4 := Tryz.isAgg4
 have a5 := Tryz.isAgg5
 have a9 := Tryz.isAgg9
 have aP := Tryz.isAgg44
 have aS := Tryz.isAgg77
 have z4 := Tryz.sizeOf4
 have z5 := Tryz.sizeOf5
 have z9 := Tryz.sizeOf9
 have zP := Tryz.sizeOf44
 have zS := Tryz.sizeOf77
 have eP := eq9Pr p.p q.p
 have eS := eq9Sr p.s q.s
 have hS : Tryz.prog.underlying 79 = some (.struct (Tryz.prog.fieldsOf 79)) := by kernel_rfl
 have hp : Tryz.prog.stoodInHeld 79 = false := by kernel_rfl
 rw [show (10000 : Nat) = 9999 + 1 from rfl, run_equalIn_agg w 9999 79 _ _ hS hp]
 simp only [Program.fieldsOf, Tryz.underlying79]
 unfold mc
 generalize hP : Pn.eqP p.p q.p = bP at *
 generalize hQ : Msc.eqS p.s q.s = bS at *
 unfold eqM
 rw [hP, hQ]
 go_simp
 cases h1 : (p.k == q.k)
 · simp_all <;> (intros; omega)
 cases h2 : (p.c == q.c)
 · simp_all
 cases bP
 · simp_all
 cases bS
 · simp_all
 cases h5 : (p.t == q.t)
 · simp_all <;> (intros; omega)
 cases h6 : (p.b.toList == q.b.toList) <;> simp_all <;> (intro _; assumption)
theorem run_eqM (p q : Ms) (w : World) : (binOp .eql 29 (mv p) (mv q)).run Tryz.prog w = .ok (.bool (eqM p q)) w := by
 rw [run_eql_struct, eqFM]; rfl
theorem run_neM (p q : Ms) (w : World) : (binOp .neq 29 (mv p) (mv q)).run Tryz.prog w = .ok (.bool (!eqM p q)) w := by
 rw [run_neq_struct, eqFM]; rfl
theorem run_eqR (p q : Ms) (w : World) : (binOp .eql 79 (mv p) (mv q)).run Tryz.prog w = .ok (.bool (eqM p q)) w := by
 rw [run_eql_struct, eqFR]; rfl
theorem run_neR (p q : Ms) (w : World) : (binOp .neq 79 (mv p) (mv q)).run Tryz.prog w = .ok (.bool (!eqM p q)) w := by
 rw [run_neq_struct, eqFR]; rfl
end Go.Proofs.YtakkhdammmcjcaaGreatDoor.Msgs
namespace Go.Proofs.YtakkhdammmcjcaaGreatDoor.Mem
open Go.RowKit
theorem add_at (g j : Nat) : (⟨g, 0, none⟩ : Addr).add j = ⟨g, j, none⟩ := by unfold Addr.add; split <;> simp_all
/-- What one must know of the elements' type E, the slice's type S, an element's z cells. -/
structure Elt {α : Type} (E S z : Nat) (fc : α → List Value) : Prop where
 under : Tryz.prog.underlying S = some (.slice E)
 info : ∃ (zero : Value) (bytes : Nat), (Tryz.prog.info? E).map (fun i => (i.zero, i.size, i.bytes)) = some (some zero, z, bytes) ∧ zero.cells.size = z ∧ bytes ≤ 1000
 len : ∀ x, (fc x).length = z
 one : ∀ x, ∀ u ∈ fc x, u.oneCell' = true
 pos : 0 < z
/-- The slice v, in memory from block 'base' on, holds these elements. -/
def OwnS {α : Type} (E z : Nat) (fc : α → List Value) (w : World) (base : Nat) (v : Value) (l : List α) : Prop := w.ownsRow base E z v l.length (l.flatMap fc)
section
variable {α : Type} {E S z : Nat} {fc : α → List Value}
theorem grown_of {w w' : World} {r : Option Nat} (h : Below w.heap.size w w') : w.grownBy w' r := ⟨h.os, h.tape, h.output, h.size, fun k hk _ => h.block k hk⟩
theorem OwnS.grown {w w' : World} {base : Nat} {v : Value} {l : List α} {r : Option Nat} (h : OwnS E z fc w base v l) (hg : w.grownBy w' r) (hne : v.ownBlock = none ∨ v.ownBlock ≠ r) : OwnS E z fc w' base v l := World.ownsRow.kept h hg hne
theorem OwnS.below {w w' : World} {base : Nat} {v : Value} {l : List α} (h : OwnS E z fc w base v l) (hb : Below w.heap.size w w') : OwnS E z fc w' base v l :=
 h.grown (grown_of (r := none) hb) (by cases hv : v.ownBlock <;> simp)
theorem OwnS.alloc {w : World} {base : Nat} {v : Value} {l : List α} (h : OwnS E z fc w base v l) (o : Obj) : OwnS E z fc (w.alloc o) base v l := World.ownsRow.alloc h o
theorem OwnS.lt {w : World} {base : Nat} {v : Value} {l : List α} (h : OwnS E z fc w base v l) : ∀ k, v.ownBlock = some k → base ≤ k ∧ k < w.heap.size := World.ownsRow.lt h
theorem ownS_nil (w : World) (base : Nat) : OwnS E z fc w base (.slice none 0 0) [] := World.ownsRow_nil w base _ _
theorem OwnS.shape {w : World} {base : Nat} {v : Value} {l : List α} (h : OwnS E z fc w base v l) : (v = .slice none 0 0 ∧ l = []) ∨ ∃ g cap, v = .slice (some ⟨g, 0, none⟩) l.length cap ∧ base ≤ g := by
 rcases h.2 with ⟨h1, h2⟩ | ⟨g, cap, cur, h1, h2, _⟩
 · exact Or.inl ⟨h1, List.eq_nil_of_length_eq_zero h2⟩
 · exact Or.inr ⟨g, cap, h1, h2⟩
theorem flat_len (hl : ∀ x, (fc x).length = z) (l : List α) : (l.flatMap fc).length = z * l.length := by
 induction l with
 | nil => simp
 | cons a r ih => rw [List.flatMap_cons, List.length_append, hl, ih, List.length_cons, Nat.mul_succ]; omega
theorem flat_get (hl : ∀ x, (fc x).length = z) (l : List α) (x : α) (k j : Nat) (hk : l[k]? = some x) (hj : j < z) : (l.flatMap fc)[z * k + j]? = (fc x)[j]? := by
 induction l generalizing k with
 | nil => simp at hk
 | cons a r ih =>
  rw [List.flatMap_cons]
  match k, hk with
  | 0, hk =>
   rw [List.getElem?_cons_zero, Option.some.injEq] at hk
   subst hk
   rw [Nat.mul_zero, Nat.zero_add, List.getElem?_append_left (by rw [hl]; exact hj)]
  | k + 1, hk =>
   rw [List.getElem?_cons_succ] at hk
   rw [List.getElem?_append_right (by rw [hl, Nat.mul_succ]; omega), hl, ← ih k hk]
   congr 1; rw [Nat.mul_succ]; omega
/-- One element is appended: the slice stays where it is, or lies in a new block. -/
theorem run_append_elt (he : Elt E S z fc) (w : World) (ty base : Nat) (v : Value) (l : List α) (h : OwnS E z fc w base v l) (b c : Nat) (x : α) (hrow : ∀ j, j < z → w.cell? ⟨b, j, none⟩ = (fc x)[j]?) (hz : l.length + 1 ≤ 1000000) (hb : base ≤ w.heap.size) :
 ∃ v' w', (Builtin.append_ #[S, S] ty #[v, .slice (some ⟨b, 0, none⟩) 1 c]).run Tryz.prog w = .ok v' w' ∧ OwnS E z fc w' base v' (l ++ [x]) ∧ w.grownBy w' v.ownBlock ∧ (v'.ownBlock = v.ownBlock ∨ v'.ownBlock = some w.heap.size) := by
 obtain ⟨zero, bytes, hinfo, hzc, hby⟩ := he.info
 obtain ⟨i, hi, hz0, hz1, hz2⟩ := info_parts hinfo
 have hnews : ∀ j u, (fc x)[j]? = some u → w.cell? ((⟨b, 0, none⟩ : Addr).add j) = some u := by
  intro j u hu
  have hj : j < z := by rw [← he.len x]; exact (List.getElem?_eq_some_iff.1 hu).1
  rw [add_at, hrow j hj, hu]
 have hl : (fc x).length = 1 * z := by rw [he.len, Nat.one_mul]
 have h1 := he.one x
 have hb1 : (l.length + 1) * bytes ≤ 140737488355328 := Nat.le_trans (Nat.mul_le_mul hz hby) (by decide)
 have hb2 : 1 * bytes ≤ 281474976710656 := by omega
 obtain ⟨v', w', hr, ho, hg, _⟩ := run_append_own (P := Tryz.prog) w base S ty E i zero z bytes he.under hi hz0 hz1 hz2 hzc he.pos v l.length (l.flatMap fc) h ⟨b, 0, none⟩ 1 c (fc x) hl hnews h1 (by unfold maxLen; omega) hb1 hb
 refine ⟨v', w', hr, ?_, hg, ?_⟩
 · unfold OwnS
   rw [List.length_append, List.flatMap_append]
   simpa using ho
 · rcases h.2 with ⟨rfl, hl0⟩ | ⟨g, cap, cur, rfl, hbg, hgg, hnc, hcm, hcs, htake⟩
   · have hr2 := run_append_nil (P := Tryz.prog) w S ty E i zero he.under hi hz0 ⟨b, 0, none⟩ 1 c (fc x) (by rw [hz1]; exact hl) hnews (by omega) (by omega) (by rw [hz2]; exact hb2)
     rw [hr] at hr2
     injection hr2 with hv _
     subst hv
     exact Or.inr rfl
   · by_cases hroom : l.length + 1 ≤ cap
     · have hm : (l.length + 1) * z ≤ cap * z := Nat.mul_le_mul_right _ hroom
       have hr2 := run_append_room (P := Tryz.prog) w S ty E i he.under hi g l.length cap cur hgg ⟨b, 0, none⟩ 1 c (fc x) (by rw [hz1]; exact hl) hnews h1 hroom (by rw [hz1, hcs, he.len]; rw [Nat.add_mul, Nat.one_mul] at hm; exact hm)
       rw [hr] at hr2
       injection hr2 with hv _
       subst hv
       exact Or.inl rfl
     · have holds : ∀ j u, (l.flatMap fc)[j]? = some u → w.cell? ((⟨g, 0, none⟩ : Addr).add j) = some u := World.ownsRow.cells h (g := g) rfl
       have hr2 := run_append_grow (P := Tryz.prog) w S ty E i zero he.under hi hz0 ⟨g, 0, none⟩ l.length cap (l.flatMap fc) (by rw [hz1]; exact h.1) holds ⟨b, 0, none⟩ 1 c (fc x) (by rw [hz1]; exact hl) hnews (by omega) (by omega) (growslice_fits (by omega) (by rw [hz2]; exact hb1))
       rw [hr] at hr2
       injection hr2 with hv _
       subst hv
       exact Or.inr rfl
theorem wpList_append_elt (he : Elt E S z fc) {ops : Array Oper} {rest : List Oper} {o : Oper} {a : Act} {Q : Exit → Act → World → Prop} (w : World) (hgd : o.guard = none) (s x : Operand)
 (hop : o.op = .call { callee := .builtin .append, args := #[s, x], argTypes := #[S, S] })
 (base : Nat) (v : Value) (hs : a.eval s = v) (l : List α) (hown : OwnS E z fc w base v l) (b c : Nat) (hx : a.eval x = .slice (some ⟨b, 0, none⟩) 1 c) (y : α) (hrow : ∀ j, j < z → w.cell? ⟨b, j, none⟩ = (fc y)[j]?) (hz : l.length + 1 ≤ 1000000) (hb : base ≤ w.heap.size)
 (h : ∀ v' w', OwnS E z fc w' base v' (l ++ [y]) → w.grownBy w' v.ownBlock → (v'.ownBlock = v.ownBlock ∨ v'.ownBlock = some w.heap.size) → wpList Tryz.prog ops Q rest (a.put o.dst v') w') : wpList Tryz.prog ops Q (o :: rest) a w :=
 wpList_plain hgd fun _ hK => by
  obtain ⟨v', w', hr, h2, h3, h4⟩ := run_append_elt he w o.type base v l hown b c y hrow hz hb
  unfold Oper.wp execOp
  simp only [hop, resolve, invoke, builtin, Sem.run_bind, Sem.run_pure, Result.andThen_ok, List.map_toArray, List.map_cons, List.map_nil, hs, hx, hr]
  exact hK _ _ (h v' w' h2 h3 h4)
/-- What lies in such a slice, element by element; none of it is frozen. -/
theorem OwnS.cell (hl : ∀ x, (fc x).length = z) {w : World} {base g n cap : Nat} {l : List α} (h : OwnS E z fc w base (.slice (some ⟨g, 0, none⟩) n cap) l) (k : Nat) (x : α) (hk : l[k]? = some x) (j : Nat) (hj : j < z) : w.cell? ⟨g, z * k + j, none⟩ = (fc x)[j]? := by
 have hf : (fc x)[j]? = some ((fc x)[j]'(by rw [hl]; exact hj)) := List.getElem?_eq_getElem _
 have := World.ownsRow.cells h (g := g) rfl (z * k + j) _ ((flat_get hl l x k j hk hj).trans hf)
 rw [add_at] at this
 rw [this, hf]
theorem OwnS.free {w : World} {base g n cap : Nat} {l : List α} (h : OwnS E z fc w base (.slice (some ⟨g, 0, none⟩) n cap) l) (j : Nat) : w.frozen? ⟨g, j, none⟩ = false := by
 rcases h.2 with ⟨h1, _⟩ | ⟨g', cap', cur, h1, _, h3, _⟩
 · cases h1
 · injection h1 with h1 _ _
   rw [Option.some.injEq, Addr.mk.injEq] at h1
   obtain ⟨rfl, _⟩ := h1
   exact free_of h3
theorem OwnS.num {w : World} {base : Nat} {a : Option Addr} {n cap : Nat} {l : List α} (h : OwnS E z fc w base (.slice a n cap) l) : n = l.length := by
 rcases h.shape with ⟨h1, rfl⟩ | ⟨g, cap', h1, _⟩
 · injection h1
 · injection h1
/-- Elements lie at an address, one behind the other. -/
structure ArgS {α : Type} (z : Nat) (fc : α → List Value) (P : α → Prop) (w : World) (oa : Option Addr) (n : Nat) (F : Nat → α) : Prop where
 has : 0 < n → ∃ a, oa = some a ∧ a.block < w.heap.size
 inb : ∀ k, k < n → P (F k)
 cell : ∀ a, oa = Option.some a → ∀ k, k < n → ∀ j, j < z → w.cell? ((a.add (k * z)).add j) = (fc (F k))[j]?
theorem add_block (a : Addr) (n : Nat) : (a.add n).block = a.block := by unfold Addr.add; split <;> rfl
theorem ArgS.below {P : α → Prop} {w w' : World} {oa : Option Addr} {n : Nat} {F : Nat → α} (h : ArgS z fc P w oa n F) (hb : Below w.heap.size w w') : ArgS z fc P w' oa n F :=
 ⟨fun h0 => let ⟨a, h1, h2⟩ := h.has h0; ⟨a, h1, Nat.lt_of_lt_of_le h2 hb.size⟩, h.inb, fun a ha k hk j hj => by
  obtain ⟨a', h1, h2⟩ := h.has (by omega)
  rw [ha, Option.some.injEq] at h1
  subst h1
  rw [← h.cell a ha k hk j hj]
  exact hb.cell (by rw [add_block, add_block]; exact h2)⟩
theorem spot_none {w : World} {x : Addr} {v : Value} (h : w.cell? x = some v) : x = ⟨x.block, x.off, none⟩ := by
 obtain ⟨b, o, sp⟩ := x
 cases sp with
 | none => rfl
 | some y =>
  exfalso
  unfold World.cell? at h
  split at h <;> simp_all
theorem add_off (b o j : Nat) : (⟨b, o, none⟩ : Addr).add j = ⟨b, o + j, none⟩ := by unfold Addr.add; split <;> simp_all
/-- Where an argument's element lies. -/
theorem ArgS.at' {P : α → Prop} (hz : 0 < z) (hl : ∀ x, (fc x).length = z) {w : World} {oa : Option Addr} {n : Nat} {F : Nat → α} (h : ArgS z fc P w oa n F) {k : Nat} (hk : k < n) :
 ∃ a, oa = some a ∧ ∃ gb go, a.add (k * z) = ⟨gb, go, none⟩ ∧ gb < w.heap.size ∧ ∀ j, j < z → w.cell? ⟨gb, go + j, none⟩ = (fc (F k))[j]? := by
 obtain ⟨a, rfl, ha⟩ := h.has (by omega)
 have p0 := h.cell a rfl k hk 0 hz
 rw [show ∀ x : Addr, x.add 0 = x from fun x => if_pos rfl, List.getElem?_eq_getElem (by rw [hl]; exact hz)] at p0
 have e := spot_none p0
 refine ⟨a, rfl, (a.add (k * z)).block, (a.add (k * z)).off, e, by rw [add_block]; exact ha, fun j hj => ?_⟩
 have p := h.cell a rfl k hk j hj
 rw [e, add_off] at p
 exact p
end
end Go.Proofs.YtakkhdammmcjcaaGreatDoor.Mem
namespace Go.Proofs.YtakkhdammmcjcaaGreatDoor.Msgs
open Go.RowKit Base Mem
/-- The table of the types lies where the program has it. -/
def Tab (w : World) : Prop := ∀ i : Nat, i < 8 → w.cell? ⟨0, i, none⟩ = some (.int .u8 (tyN i : Int))
theorem tab_pos {w : World} (h : Tab w) : 0 < w.heap.size := World.block_lt_of_cell? w ⟨0, 0, none⟩ (h 0 (by decide))
theorem tab_below {w w' : World} (h : Tab w) (hb : Below w.heap.size w w') : Tab w' := fun i hi => (hb.cell (p := ⟨0, i, none⟩) (tab_pos h)).trans (h i hi)
def tabL : List Int := [0, 32, 56, 40, 24, 8, 48, 4]
theorem tab_getD : ∀ i, i < 8 → tabL.getD i 0 = (tyN i : Int) := by decide
theorem fkindOf (t : Nat) (w : World) (ht : Tab w) :
 Calls Tryz.prog 95 #[.int .u8 (t : Int)] w fun e w' => e = .returned (.int .u8 (kOf t : Int)) ∧ w = w' := by
 have HT := Lib.hid ht
 clear ht
 go_enter Tryz.func95, Tryz.ntmps95
 go_wp2
 go_loopw [3] (fun v wr => ∃ k : Nat, 1 ≤ k ∧ k ≤ 8 ∧ v = .int .u8 (k : Int) ∧ Hid (kOf t = kFrom t (8 - k) k) ∧ w = wr) (fun v _ => 8 - (intOf v).toNat)
 case atStart => exact ⟨1, by omega, by omega, rfl, Lib.hid rfl, rfl⟩
 case round =>
  obtain ⟨k, h1, h2, rfl, HG, rfl⟩ := hrel
  by_cases hlt : k < 8
  · have hcell := HT.out k hlt
    have hb := tyN_lt k hlt
    by_cases hf : tyN k = t
    · have HS : Hid (kOf t = k) := Lib.hid (by rw [HG.out, show 8 - k = (7 - k) + 1 by omega]; exact kFrom_hit hf)
      have hq : ((tyN k : Int) == (t : Int)) = true := by rw [hf]; simp
      clear hf
      go_wp2
      go_ret
      exact ⟨ret_int (by rw [HS.out]), rfl⟩
    · have HS : Hid (kOf t = kFrom t (7 - k) (k + 1)) := Lib.hid (by rw [HG.out, show 8 - k = (7 - k) + 1 by omega]; exact kFrom_miss hf)
      have hq : ((tyN k : Int) == (t : Int)) = false := by rw [beq_eq_false_iff_ne]; omega
      clear hf
      go_wp2
      go_roundw
      case rel => exact ⟨k + 1, by omega, by omega, by go_num, Lib.hid (by rw [HS.out, show 8 - (k + 1) = 7 - k by omega]), trivial⟩
      case measure => simp [intOf]; omega
  · have HS : Hid (kOf t = 8) := Lib.hid (by rw [HG.out, show 8 - k = 0 by omega]; rfl)
    go_wp2
    go_ret
    exact ⟨ret_int (by rw [HS.out]; rfl), rfl⟩
theorem rtypes (w : World) :
 Calls Tryz.prog 77 #[] w fun e w' => e = .returned (.slice (some ⟨w.heap.size, 0, none⟩) 7 7) ∧ (∀ i : Nat, i < 7 → w'.cell? ⟨w.heap.size, i, none⟩ = some (.int .u8 (tyN (i + 1) : Int))) ∧ Below w.heap.size w w' := by
 go_enter Tryz.func77, Tryz.ntmps77
 go_wp2
 go_ret
 refine ⟨rfl, fun i hi => ?_, nest_below w [_]⟩
 have h := nest w [.cells #[.int .u8 32, .int .u8 56, .int .u8 40, .int .u8 24, .int .u8 8, .int .u8 48, .int .u8 4] 5 (0, 0)] 0 _ rfl
 match i, hi with
 | 0, _ => exact cell_of h rfl
 | 1, _ => exact cell_of h rfl
 | 2, _ => exact cell_of h rfl
 | 3, _ => exact cell_of h rfl
 | 4, _ => exact cell_of h rfl
 | 5, _ => exact cell_of h rfl
 | 6, _ => exact cell_of h rfl
theorem rkindOf (t : Nat) (w : World) :
 Calls Tryz.prog 75 #[.int .u8 (t : Int)] w fun e w' => e = .returned (.int .u8 (kOf t : Int)) ∧ Below w.heap.size w w' := by
 go_enter Tryz.func75, Tryz.ntmps75
 go_wp2_with (go_at_call 77; ((with_reducible refine (rtypes _).mono ?_); rintro e w1 ⟨rfl, hc, hb⟩; have HC := Lib.hid hc; have HB := Lib.hid hb; clear hc hb))
 go_loopw [4] (fun v wr => ∃ k : Nat, k ≤ 7 ∧ v = .int .i64 (k : Int) ∧ Hid (kOf t = kFrom t (7 - k) (k + 1)) ∧ w1 = wr) (fun v _ => 7 - (intOf v).toNat)
 case atStart => exact ⟨0, by omega, rfl, Lib.hid rfl, rfl⟩
 case round =>
  obtain ⟨k, h2, rfl, HG, rfl⟩ := hrel
  by_cases hlt : k < 7
  · have hcell := HC.out k hlt
    have hb := tyN_lt (k + 1) (by omega)
    by_cases hf : tyN (k + 1) = t
    · have HS : Hid (kOf t = k + 1) := Lib.hid (by rw [HG.out, show 7 - k = (6 - k) + 1 by omega]; exact kFrom_hit hf)
      have hq : ((tyN (k + 1) : Int) == (t : Int)) = true := by rw [hf]; simp
      generalize tyN (k + 1) = y at *
      clear hf
      go_wp2
      go_ret
      exact ⟨ret_int (by rw [HS.out]; first | rfl | omega | (simp; omega)), HB.out⟩
    · have HS : Hid (kOf t = kFrom t (6 - k) (k + 1 + 1)) := Lib.hid (by rw [HG.out, show 7 - k = (6 - k) + 1 by omega]; exact kFrom_miss hf)
      have hq : ((tyN (k + 1) : Int) == (t : Int)) = false := by rw [beq_eq_false_iff_ne]; omega
      generalize tyN (k + 1) = y at *
      clear hf
      go_wp2
      go_roundw
      case rel => exact ⟨k + 1, by omega, by go_num, Lib.hid (by rw [HS.out, show 7 - (k + 1) = 6 - k by omega]), trivial⟩
      case measure => simp [intOf]; omega
  · have HS : Hid (kOf t = 8) := Lib.hid (by rw [HG.out, show 7 - k = 0 by omega]; rfl)
    go_wp2
    go_ret
    exact ⟨ret_int (by rw [HS.out]; rfl), HB.out⟩
theorem isUnknown (t : Nat) (w : World) (ht : Tab w) :
 Calls Tryz.prog 70 #[.int .u8 (t : Int)] w fun e w' => e = .returned (.bool (decide (t ≤ 63) && (kOf t == 8))) ∧ w = w' := by
 have CK := Lib.hid (fkindOf t w ht)
 clear ht
 by_cases h : t ≤ 63
 · have h' : decide (t ≤ 63) = true := by simpa using h
   rw [h']
   generalize kOf t = k at *
   go_enter Tryz.func70, Tryz.ntmps70
   go_wp2_with (go_at_call 95; ((with_reducible refine CK.out.mono ?_); rintro e w1 ⟨rfl, rfl⟩))
   go_ret
   exact ⟨ret_bool (by rw [Bool.eq_iff_iff]; simp <;> omega), rfl⟩
 · have h' : decide (t ≤ 63) = false := by simpa using h
   rw [h', Bool.false_and]
   go_enter Tryz.func70, Tryz.ntmps70
   go_wp2
   go_ret
   exact ⟨rfl, rfl⟩
theorem ftypeOf (m : Ms) (hk : m.k ≤ 8) (w : World) (ht : Tab w) :
 Calls Tryz.prog 50 #[mv m] w fun e w' => e = .returned (.int .u8 (ty m : Int)) ∧ Below w.heap.size w w' := by
 have HF : (w.alloc (mO m 29)).heap[w.heap.size]? = some (mO m 29) := nest w [_] 0 _ rfl
 obtain ⟨c0, c1, c18, c19⟩ := flds HF
 have HB : Hid (Below w.heap.size w (w.alloc (mO m 29))) := Lib.hid (nest_below w [_])
 by_cases h8 : m.k = 8
 · have HY : Hid (ty m = m.t) := Lib.hid (if_pos h8)
   have hq : ((m.k : Int) == 8) = true := by rw [h8]; rfl
   clear HF h8 ht hk
   go_enter Tryz.func50, Tryz.ntmps50
   go_wp2
   go_ret
   exact ⟨ret_int (by rw [HY.out]), HB.out⟩
 · have HY : Hid (ty m = tyN m.k) := Lib.hid (if_neg h8)
   have hq : ((m.k : Int) == 8) = false := by rw [beq_eq_false_iff_ne]; omega
   have hcell := tab_below ht HB.out m.k (by omega)
   have hlt : m.k < 8 := by omega
   clear HF h8 ht hk
   go_enter Tryz.func50, Tryz.ntmps50
   go_wp2
   go_ret
   exact ⟨ret_int (by rw [HY.out]), HB.out⟩
end Go.Proofs.YtakkhdammmcjcaaGreatDoor.Msgs
