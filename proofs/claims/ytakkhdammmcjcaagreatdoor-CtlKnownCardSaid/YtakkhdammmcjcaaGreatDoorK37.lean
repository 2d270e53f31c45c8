/-
  Layer 22, put together: CtlSome, CtlCode. Conditions: as each theorem names them.
-/
import Derived.Test.YtakkhdammmcjcaaGreatDoorK36
import Derived.Test.YtakkhdammmcjcaaGreatDoorK33
import Derived.Great.BuildSlice
namespace Go.Proofs.YtakkhdammmcjcaaGreatDoor.Ctl
open Go.RowKit Base Mem Msgs Cr
set_option maxRecDepth 100000
def P5 : Pn.Pr := ⟨5, 2, 3, 7, 10, 300, 3, 2⟩
def P6 : Pn.Pr := ⟨6, 2, 3, 7, 10, 64, 3, 2⟩
def S5 : Msc.St := ⟨5, false, true, false, false, false, false, 0⟩
def T5 : Msc.St := ⟨5, true, false, false, false, false, false, 0⟩
def mm (k : Nat) (c : Bool) (p : Pn.Pr) (s : Msc.St) (t : Nat) (b : ByteArray) : Ms := ⟨k, c, p, s, t, b⟩
def SM : List Ms := [mm 1 true P5 Msc.zero 0 no, mm 1 false P5 Msc.zero 0 no, mm 1 true P6 Msc.zero 0 no, mm 2 true Pn.zero S5 0 no, mm 2 false Pn.zero S5 0 no, mm 2 true Pn.zero T5 0 no, mm 2 false Pn.zero T5 0 no, mm 3 true Pn.zero Msc.zero 0 no, mm 3 false Pn.zero Msc.zero 0 no, mm 4 true Pn.zero Msc.zero 0 no, mm 5 true Pn.zero Msc.zero 0 ⟨#[97]⟩, mm 5 false Pn.zero Msc.zero 0 ⟨#[98]⟩, mm 6 true Pn.zero Msc.zero 0 no, mm 7 false Pn.zero Msc.zero 163 no, mm 7 true Pn.zero Msc.zero 227 no, mm 7 false Pn.zero Msc.zero 227 no, mm 8 true Pn.zero Msc.zero 3 no, mm 8 false Pn.zero Msc.zero 3 no, mm 0 false Pn.zero Msc.zero 0 no]
theorem sm_fit : ∀ m ∈ SM, m.In ∧ m.b.size ≤ 1 := by
 intro m hm
 simp only [SM, List.mem_cons, List.not_mem_nil, or_false] at hm
 rcases hm with rfl | rfl | rfl | rfl | rfl | rfl | rfl | rfl | rfl | rfl | rfl | rfl | rfl | rfl | rfl | rfl | rfl | rfl | rfl <;>
  exact ⟨⟨by decide, by constructor <;> decide, by constructor <;> decide, by decide⟩, by decide⟩
theorem pcz : (Tryz.prog.info? 25).map (·.zero) = some (some (.agg (pcl Pn.zero))) := by kernel_rfl
theorem scz : (Tryz.prog.info? ST).map (·.zero) = some (some (.agg (scl Msc.zero))) := by kernel_rfl
theorem isS8 : IsRow ST 8 := ⟨⟨_, Tryz.underlying27⟩, by kernel_rfl⟩
def sll (s : Msc.St) : List Value := [.int .u8 (s.d : Int), .bool s.f, .bool s.c, .bool s.r, .bool s.i, .bool s.v, .bool s.b, .int .u8 (s.k : Int)]
theorem sll_at {w : World} {b : Nat} {p : Msc.St} {t : TypeId} (h : w.heap[b]? = some (.cells (scl p) t (0, 0))) : w.rangeAt b 0 (sll p) := rangez_of (vs := sll p) h
theorem infoM : (Tryz.prog.info? MT).map (fun i => (i.zero, i.size)) = some (some (.agg (mc Msgs.zero)), 20) := by kernel_rfl
theorem builtS5 : Tryz.prog.built ST [(0, .int .u8 5), (2, .bool true)] = some (scl S5) := by kernel_rfl
theorem builtT5 : Tryz.prog.built ST [(0, .int .u8 5), (1, .bool true)] = some (scl T5) := by kernel_rfl
theorem builtP5 : Tryz.prog.built 25 [(0, .int .u8 5), (1, .int .u8 2), (2, .int .u8 3), (3, .int .u8 7), (4, .int .i64 10), (5, .int .i64 300), (6, .int .i64 3), (7, .int .i64 2)] = some (pcl P5) := by kernel_rfl
/-- What lies at the end of the walk: the row of messages. -/
abbrev SC : Array Value := (SM.flatMap ml).toArray
/-- A slice literal of structs, every place written: nothing of its length is reckoned. -/
theorem fill_rows {α : Type} {z : Nat} {fc : α → List Value} (hl : ∀ x, (fc x).length = z) (hz : 0 < z) (L : List α) {cells : Array Value} {parts : List (Nat × Value)} (hp : parts = ((L.map fun x => Value.agg (fc x).toArray).zipIdx 0).map fun x => (x.2, x.1)) (hn : L.length * z = cells.size) : Instr.fill (fun i => some (i * z, z)) cells parts = some (L.flatMap fc).toArray := by
 subst hp
 rw [Great.fill_whole hz _ _ (fun v hv => by obtain ⟨x, _, rfl⟩ := List.mem_map.1 hv; show (fc x).toArray.size = z; simp [hl]) (by rw [List.length_map]; exact hn)]
 congr 2
 rw [List.flatMap_map]
 rfl
/-- A row that was made by appending, read as any other one. -/
theorem own_qz {α : Type} {E z base : Nat} {fc : α → List Value} {w : World} {v : Value} {L : List α} (hl : ∀ x, (fc x).length = z) (h : OwnS E z fc w base v L) : Qz z fc w base v L := by
 rcases h.2 with ⟨h1, h2⟩ | ⟨g, cap, cur, rfl, h2, h3, h4, h5, h6, h7⟩
 · exact .inl ⟨h1, List.eq_nil_of_length_eq_zero h2⟩
 · have hc := fun i y (hy : L[i]? = some y) j (hj : j < z) => OwnS.cell hl h i y hy j hj
   refine .inr ⟨g, 0, cap, rfl, h2, ⟨h4, Nat.le_trans h5 (by unfold maxLen; decide), lt_heap h3, fun i y hy j hj => ?_, fun i hi => ?_, fun i _ => ?_⟩⟩
   · rw [Nat.zero_add]; exact hc i y hy j hj
   · rw [Nat.zero_add, cell_of h3 (v := cur[i]'(by rw [h6, Nat.mul_comm]; exact hi)) (Array.getElem?_eq_getElem _)]; rfl
   · exact free_of h3
set_option maxHeartbeats 4000000 in
theorem lsome (w : World) : Calls Tryz.prog 4 #[] w fun e w' => ∃ g, e = .returned (.slice (some ⟨g, 0, none⟩) 19 19) ∧ w'.heap[g]? = some (.cells SC MT (0, 0)) ∧ Below w.heap.size w w' := by
 go_enter Tryz.func4, Tryz.ntmps4
 go_wp2_with ((with_reducible refine bslz (z := 20) SC Tryz.underlying22 infoM ?hl ?hz ?hf ?_); (case hl => exact ⟨by decide, by decide⟩); (case hz => exact ⟨by decide, by decide⟩); (case hf => exact fill_rows ml_len (by decide) SM (by kernel_rfl) (by rw [Array.size_map, Array.size_range]; rfl)); intro g w3 h F; have H3 := Lib.hid h; have F3 := Lib.hid F; clear h F)
 go_ret
 exact ⟨g, rfl, H3.out, F3.out.on (((((Below.refl _ _).alloc (Nat.le_refl _) _).alloc (by simp) _).alloc (by simp; omega) _).alloc (by simp; omega) _)⟩
/-- A block that holds a row reads it. -/
theorem rd_blk {α : Type} {z T g : Nat} {fc : α → List Value} {w : World} {L : List α} (hl : ∀ x, (fc x).length = z) (h : w.heap[g]? = some (.cells (L.flatMap fc).toArray T (0, 0))) (cap : Nat) : Rd z fc w (.slice (some ⟨g, 0, none⟩) L.length cap) L := by
 refine ⟨_, cap, rfl, fun k x hk => ⟨g, 0, rfl, lt_heap h, fun j v hv => ?_⟩⟩
 have hj : j < z := by rw [← hl x]; exact (List.getElem?_eq_some_iff.1 hv).1
 refine cell_of h ?_
 rw [List.getElem?_toArray, show 0 + k * z + j = z * k + j by rw [Nat.mul_comm]; omega, flat_get hl L x k j hk hj]
 exact hv
theorem sm_rd {g : Nat} {w : World} (h : w.heap[g]? = some (.cells SC MT (0, 0))) : Rd 20 ml w (.slice (some ⟨g, 0, none⟩) 19 19) SM := rd_blk (L := SM) ml_len h 19
theorem sm_at {g k : Nat} {w : World} {m : Ms} (h : w.heap[g]? = some (.cells SC MT (0, 0))) (hm : SM[k]? = some m) : w.rangeAt g (k * 20) (ml m) := by
 have := (sm_rd h).at_ hm
 rw [Nat.zero_add] at this
 exact this
theorem add_off (g off j : Nat) : (⟨g, off, none⟩ : Addr).add j = ⟨g, off + j, none⟩ := by unfold Addr.add; split <;> simp_all
/-- What is read may be handed in. -/
theorem rd_arg {w : World} {oa : Option Addr} {n cap : Nat} {L : List Ms} (h : Rd 20 ml w (.slice oa n cap) L) (hn : L.length = n) (hf : ∀ m ∈ L, Fits m) : ArgS 20 ml Fits w oa n (fun k => (L[k]?).getD zero) := by
 obtain ⟨oa', cap', h1, h2⟩ := h.form
 injection h1 with h1 _ _
 subst h1
 refine ⟨fun h0 => ?_, fun k hk => ?_, fun a ha k hk j hj => ?_⟩
 · obtain ⟨g, off, e, hg, _⟩ := h2 0 _ (List.getElem?_eq_getElem (l := L) (i := 0) (by omega))
   exact ⟨_, e, hg⟩
 · rw [List.getElem?_eq_getElem (l := L) (i := k) (by omega)]
   exact hf _ (List.getElem_mem _)
 · obtain ⟨g, off, e, hg, hr⟩ := h2 k _ (List.getElem?_eq_getElem (l := L) (i := k) (by omega))
   rw [e] at ha
   cases ha
   rw [List.getElem?_eq_getElem (l := L) (i := k) (by omega)]
   have hj' : j < (ml L[k]).length := by rw [ml_len]; exact hj
   have := hr j _ (List.getElem?_eq_getElem hj')
   rw [Option.getD_some, List.getElem?_eq_getElem hj', ← this, add_off, add_off]
/-- A part of the row. -/
theorem rd_sub {z g off n cap k m c2 : Nat} {α : Type} {fc : α → List Value} {w : World} {L : List α} (h : Rd z fc w (.slice (some ⟨g, off, none⟩) n cap) L) (hg : g < w.heap.size) (hm : m = ((L.drop k).take m).length) : Rd z fc w (.slice (some ⟨g, off + k * z, none⟩) m c2) ((L.drop k).take m) := by
 refine ⟨_, c2, by rw [← hm], fun i x hx => ⟨g, off + k * z, rfl, hg, ?_⟩⟩
 have hx2 : L[k + i]? = some x := by
  rw [List.getElem?_take] at hx
  split at hx
  · rw [List.getElem?_drop] at hx; exact hx
  · cases hx
 have := h.at_ hx2
 rw [Nat.add_mul, ← Nat.add_assoc] at this
 exact this
theorem sm_fits : ∀ m ∈ SM, Fits m := fun m hm => ⟨(sm_fit m hm).1, Nat.le_trans (sm_fit m hm).2 (by decide)⟩
theorem xl_one (x : Cl) : ∀ u ∈ xl x, u.oneCell' = true := fun u hu => by
 rcases List.mem_cons.1 hu with rfl | hu
 · rfl
 · rcases List.mem_append.1 hu with h | h
   · exact ml_one x.m u h
   · rw [List.mem_singleton.1 h]; rfl
def zQ : Cl := ⟨0, zero, no⟩
theorem eltQ : Elt QT 32 22 xl where
 under := Tryz.underlying32
 info := ⟨.agg (xl zQ).toArray, 104, by kernel_rfl, rfl, by decide⟩
 len := xl_len
 one := xl_one
 pos := by decide
theorem infoQ : (Tryz.prog.info? QT).map (fun i => (i.zero, i.size)) = some (some (.agg (xl zQ).toArray), 22) := by kernel_rfl
/-- A row that the call made, appended to itself. -/
theorem app_self (w : World) (ty base : Nat) (v : Value) (L : List Cl) (h : OwnS QT 22 xl w base v L) (hp : 0 < L.length) (hl : L.length ≤ 100) (hb : base ≤ w.heap.size) :
 ∃ v' w', (Builtin.append_ #[32, 32] ty #[v, v]).run Tryz.prog w = .ok v' w' ∧ Rd 22 xl w' v' (L ++ L) ∧ w.grownBy w' v.ownBlock := by
 rcases h.shape with ⟨_, e⟩ | ⟨g, cap, e, hbg⟩
 · rw [e] at hp; cases hp
 · subst e
   have hc := fun i y (hy : L[i]? = some y) j (hj : j < 22) => OwnS.cell xl_len h i y hy j hj
   have hs := srcz_at eltQ w g 0 L.length cap L rfl fun i y hy j hj => by
    rw [Nat.zero_add]; exact hc i y hy j hj
   have hq : Qz 22 xl w base (.slice (some ⟨g, 0, none⟩) L.length cap) L := own_qz xl_len h
   obtain ⟨v', w', hr, h2, h3, _⟩ := run_append_q eltQ w ty base _ L hq _ L.length L rfl hs hp (by omega) hb
   exact ⟨v', w', hr, rd_qz xl_len h2, h3⟩
end Go.Proofs.YtakkhdammmcjcaaGreatDoor.Ctl
namespace Go.Proofs.YtakkhdammmcjcaaGreatDoor.ctlMeets
/-- The outermost loops of a code, in their order. -/
def loops : Code → List Code
 | .loop c => [c]
 | .seq a b => loops a ++ loops b
 | .block _ c => loops c
 | .scope c => loops c
 | .cond _ a b => loops a ++ loops b
 | _ => []
noncomputable def bodyC : Code := (((Tryz.f6.body).map loops).getD []).getD 2 .skip
end Go.Proofs.YtakkhdammmcjcaaGreatDoor.ctlMeets
