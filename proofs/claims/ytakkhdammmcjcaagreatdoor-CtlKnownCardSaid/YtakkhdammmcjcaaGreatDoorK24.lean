/-
  Layer 22, put together: CtlPresp, MscRead, MscGet. Conditions: as each theorem names them.
-/
import Derived.Test.YtakkhdammmcjcaaGreatDoorK23
import Derived.Test.YtakkhdammmcjcaaGreatDoorK09
import Derived.Laws.EntriesVeiled
namespace Go.Proofs.YtakkhdammmcjcaaGreatDoor.Ctl
open Go.RowKit Base Mem Msgs Cr
set_option maxRecDepth 100000
theorem hr_results (tmps : Array Value) (w : World) (b : Nat) (f : Fa) (q : Bool) (h : w.heap[b]? = some (.cells (fc f) GT (0, 0))) (p2 : tmps[4]?.getD undef = ptr b) (p3 : tmps[5]?.getD undef = .bool q) :
 (results Tryz.f64 tmps).run Tryz.prog w = .ok (.tuple #[.agg (fc f), .bool q]) w := by
 have e := run_ldz (T := GT) (cs := fc f) isG h
 simp [results, Tryz.results64, asAddr, p2, p3, e]
section
variable {ops : Array Oper} {rest : List Oper} {a : Act} {Q : Exit → Act → World → Prop} {d : Option Tmp} {ty : TypeId} {pos : String} {af : Array Edge} {w : World} {T : Nat}
/-- A variable of one cell is made. -/
theorem alf {v : Value} (hz : (Tryz.prog.info? T).map (·.zero) = some (some v)) (hc : v.cells = #[v]) (k : ∀ (b : Nat) (w' : World), w'.heap[b]? = some (.cells #[v] T (0, 0)) → Fresh b w w' → wpList Tryz.prog ops Q rest (a.put d (ptr b)) w') :
 wpList Tryz.prog ops Q ({ dst := d, op := .alloc T, type := ty, pos := pos, after := af, guard := none } :: rest) a w :=
 wpList_plain rfl fun _ hK => by
  cases hq : Tryz.prog.info? T with
  | none => simp [hq] at hz
  | some i =>
   simp only [hq, Option.map_some, Option.some.injEq] at hz
   unfold Oper.wp execOp
   simp only [Instr.alloc, zeroValue, typeInfo, hq, hz, newVar, newRow, hc, Sem.run_bind, Sem.run_pure, Result.andThen_ok, run_newObj, run_program]
   exact hK _ _ (k w.heap.size (w.alloc (.cells #[v] T (0, 0))) (nest w [_] 0 _ rfl) (fresh_alloc w _))
end
theorem zeroFn : (Tryz.prog.info? 59).map (·.zero) = some (some Value.nilFunc) := by kernel_rfl
theorem set_fn {w : World} {b : Nat} {t : TypeId} {u : Value} (h : w.heap[b]? = some (.cells #[u] t (0, 0))) (v : Value) : (w.setCell ⟨b, 0, none⟩ v).cell? ⟨b, 0, none⟩ = some v := cell_of (block_set (i := 0) h v) rfl
/-- What is asked of a command, in the program's words. -/
theorem hits_eq1 {r : Ms} {y : Wt} (_hr : r.Ok) (ha : Askable y.m) (hs : y.sd = (decide (0 < y.lf) || decide (0 < y.tr))) (hk : r.k = 7) : hits r y = (said y && (oct y.m == r.t)) := by
 have h6 := ha.k
 have e1 : same r y.m = false := by
  unfold same
  rw [beq_eq_false_iff_ne.2 (show r.k ≠ y.m.k by omega), Bool.false_and]
 have e2 : answers r y.m = false := by unfold answers; rw [e1, Bool.false_and]
 unfold hits said
 rw [hs, e2, Bool.false_or, show (r.k == 7) = true from beq_iff_eq.2 hk, Bool.true_and]
 congr 1
 rw [Bool.eq_iff_iff, beq_iff_eq, beq_iff_eq]; exact eq_comm
theorem ans_eq {r m : Ms} (hr : r.Ok) (ha : Askable m) (hs : same r m = true) : answers r m = ans r m := by
 obtain ⟨hk, _⟩ := (same_iff r m).1 hs
 have h6 := ha.k
 have nr := (may_of hr.may).2
 have nm := (may_of ha.may).2
 have sr : r.s = if r.k = 2 then r.s else Msc.zero := congrArg Ms.s nr
 have br : r.b = if r.k = 5 ∨ r.k = 8 then r.b else no := congrArg Ms.b nr
 have sm : m.s = if m.k = 2 then m.s else Msc.zero := congrArg Ms.s nm
 have bm : m.b = if m.k = 5 ∨ m.k = 8 then m.b else no := congrArg Ms.b nm
 unfold answers ans
 rw [hs, Bool.true_and]
 by_cases h1 : r.k = 1
 · rw [if_pos h1, if_pos h1]
 rw [if_neg h1, if_neg h1]
 by_cases h2 : r.k = 2
 · rw [if_neg (by omega)] at br bm
   rw [if_pos h2, br, bm, beq_self_eq_true, Bool.and_true]
 rw [if_neg h2]
 rw [if_neg (by omega)] at sr sm
 rw [sr, sm, Msc.eqS_self, Bool.true_and]
 by_cases h5 : r.k = 5
 · rw [if_pos h5]
 · rw [if_neg (by omega)] at br bm
   rw [if_neg h5, br, bm, beq_self_eq_true]
theorem hits_eq2 {r : Ms} {y : Wt} (hr : r.Ok) (ha : Askable y.m) (hs : y.sd = (decide (0 < y.lf) || decide (0 < y.tr))) (hk : r.k ≠ 7) : hits r y = (said y && (same y.m r && ans r y.m)) := by
 unfold hits said
 rw [hs, show (r.k == 7) = false from beq_eq_false_iff_ne.2 hk, Bool.false_and, Bool.or_false]
 congr 1
 rw [same_comm y.m r]
 cases hq : same r y.m with
 | true => rw [Bool.true_and]; exact ans_eq hr ha hq
 | false => unfold answers; rw [hq, Bool.false_and, Bool.false_and]
theorem what1 {r : Ms} {y : Wt} (_hr : r.Ok) (ha : Askable y.m) (hk : r.k = 7) (_h : hits r y = true) : what r y = ⟨3, y.m⟩ := by
 have h6 := ha.k
 have e1 : same r y.m = false := by
  unfold same
  rw [beq_eq_false_iff_ne.2 (show r.k ≠ y.m.k by omega), Bool.false_and]
 unfold what answers
 rw [e1, Bool.false_and, if_neg (by decide)]
theorem what2 {r : Ms} {y : Wt} (_hr : r.Ok) (_ha : Askable y.m) (hk : r.k ≠ 7) (h : hits r y = true) : what r y = ⟨2, r⟩ := by
 unfold hits at h
 rw [show (r.k == 7) = false from beq_eq_false_iff_ne.2 hk, Bool.false_and, Bool.or_false, Bool.and_eq_true] at h
 unfold what
 rw [if_pos h.2]
section
variable {w u u' : World} {c base : Nat} {a b t n : Int} {va vc v2 : Value} {x y : Ct} {r : Ms}
theorem px_of (h : Pc u c base a b t n va vc v2 y u') : Px u c base a b t n va vc y (u'.setCell ⟨c, 5, none⟩ v2) := ⟨⟨_, _, h.p, h.sub⟩, h.chg⟩
theorem find_hits1 (h : P w c base a b t n va vc x) {b6 b5 : Nat} (hr : r.Ok) (hk : r.k = 7) (hc : w.cell? ⟨b6, 0, none⟩ = some (fM1 b5)) (h5 : w.heap[b5]? = some (mO r MT)) :
 Calls Tryz.prog 43 #[vc, .func (.func 86) #[] #[ptr b6]] w fun e w' => ∃ i, e = .returned (im i) ∧ First (hits r) x.cs i ∧ Below w.heap.size w w' := by
 have hx := h.ok
 refine find_hr (hits r) h.cs (by have := hx.cs_few; omega) fun y hy u hb => ?_
 rw [hits_eq1 hr (hx.cs y hy) (h.sd y hy) hk]
 exact fhr1 (hx.cs y hy).in_ (hb.cell (p := ⟨b6, 0, none⟩) (lt_cell hc) |>.trans hc) (stays h5 hb) (tab_below h.tab hb)
theorem find_hits2 (h : P w c base a b t n va vc x) {b6 b5 : Nat} (hr : r.Ok) (hk : r.k ≠ 7) (hc : w.cell? ⟨b6, 0, none⟩ = some (fM2 b5)) (h5 : w.heap[b5]? = some (mO r MT)) :
 Calls Tryz.prog 43 #[vc, .func (.func 86) #[] #[ptr b6]] w fun e w' => ∃ i, e = .returned (im i) ∧ First (hits r) x.cs i ∧ Below w.heap.size w w' := by
 have hx := h.ok
 refine find_hr (hits r) h.cs (by have := hx.cs_few; omega) fun y hy u hb => ?_
 rw [hits_eq2 hr (hx.cs y hy) (h.sd y hy) hk]
 exact fhr2 (hx.cs y hy).in_ hr.in_ (hb.cell (p := ⟨b6, 0, none⟩) (lt_cell hc) |>.trans hc) (stays h5 hb)
set_option maxHeartbeats 16000000 in
theorem fhresp1 (h : P w c base a b t n va vc x) (r : Ms) (hr : r.Ok) (hk : r.k = 7) : Calls Tryz.prog 64 #[ptr c, mv r] w fun e w' => e = .returned (hv (x.response r).2) ∧ Px w c base a b t n va vc (x.response r).1 w' := by
 have hx := h.ok
 have HP := Lib.hid h
 have CM := Lib.hid (fun w => fmeaning1 r hk w)
 have hit := fun (u : World) (b6 b5 : Nat) (hp : P u c base a b t n va vc x) (hc : u.cell? ⟨b6, 0, none⟩ = some (fM1 b5)) (h5 : u.heap[b5]? = some (mO r MT)) => find_hits1 hp hr hk hc h5
 have t7 : ((r.k : Int) == 7) = true := by rw [hk]; rfl
 by_cases hall : ∀ y ∈ x.cs, hits r y = false
 · have e1 : x.response r = (x, []) := by unfold Ct.response; rw [resp_none r x.cs hall]
   rw [e1]
   have HI : Hid (∀ (u : World) (b6 b5 : Nat), P u c base a b t n va vc x → u.cell? ⟨b6, 0, none⟩ = some (fM1 b5) → u.heap[b5]? = some (mO r MT) → Calls Tryz.prog 43 #[vc, .func (.func 86) #[] #[ptr b6]] u fun e u' => e = .returned (im (-1)) ∧ Below u.heap.size u u') := Lib.hid fun u b6 b5 hp hc h5 => (hit u b6 b5 hp hc h5).mono fun e u' ⟨i, e1, e2, e3⟩ => ⟨by rw [e1, e2.none_eq hall], e3⟩
   clear h hx hit hall e1 hk hr
   go_enter Tryz.func64, Tryz.ntmps64
   go_wp2_with (first
    | ((with_reducible refine bxm (m := r) ?hx ?_); (case hx => rfl); intro b3 w1 h F0; have H3 := Lib.hid h; have F3 := Lib.hid F0; clear h F0)
    | ((with_reducible refine alr (T := GT) (cs := fc zG) (by kernel_rfl) ?_); intro b4 w2 h F0; have HH2 := Lib.hid (Hc.start HP.out F3.out H3.out F0 h); clear h F0 H3 F3)
    | ((with_reducible refine ldm isM HH2.out.h3 ?hx ?_); (case hx => rfl))
    | (go_at_call 85; refine (CM.out _).mono ?_; rintro e w4 ⟨b5, rfl, h5, hb⟩; have HH4 := Lib.hid (HH2.out.on hb); have H5 := Lib.hid h5; clear h5 hb HH2)
    | ((with_reducible refine alf (T := 59) zeroFn rfl ?_); intro b6 w5 h F; have HH5 := Lib.hid (HH4.out.on F.below); have N6 := Lib.hid (HH4.out.new F); have H55 := Lib.hid (F.stays H5.out); have n56 := Lib.hid (F.ne H5.out); have c6 : w5.cell? ⟨b6, 0, none⟩ = some Value.nilFunc := cell_of h rfl; have f6 : w5.frozen? ⟨b6, 0, none⟩ = false := free_of h; have l6 := lt_heap h; have HS := Lib.hid (set_fn h (fM1 b5)); have HH6 := Lib.hid (HH5.out.other (mod_setCell b6 0 w5 (fM1 b5)) N6.out); have H56 := Lib.hid ((set_other n56.out (fM1 b5) (o := 0)).trans H55.out); obtain ⟨c0, c1, c2, c3, c4, c5⟩ := HH6.out.p.cells; have hl := HH6.out.p.hd.lt; clear h F HH4 H5)
    | (go_at_call 43; refine (HI.out _ _ _ HH6.out.p HS.out H56.out).mono ?_; rintro e w7 ⟨rfl, hb⟩; have HH7 := Lib.hid (HH6.out.on hb); clear hb c0 c1 c2 c3 c4 c5 hl c6 f6 l6)
    | ((with_reducible refine bdB builtG0 ?hl ?_); (case hl => kernel_rfl))
    | ((with_reducible refine str (fc zG) isG HH7.out.h4 ?h0 ?h1 ?hc ?hx ?hy ?_); (case h0 => rfl); (case h1 => rfl); (case hc => exact all_oneCell_toArray (fl_one zG)); (case hx => rfl); (case hy => rfl); intro w8 h8 M8; have HR8 := Lib.hid h8; have HE := Lib.hid (HH7.out.close (HH7.out.p.px_below (Below.refl _ _)) M8); clear h8 M8))
   exact bodyPost_ret (hr_results _ _ _ _ _ HR8.out rfl rfl) rfl ⟨rfl, HE.out⟩
 · obtain ⟨k, y, h1, h2, h3⟩ := first_of hall
   have e1 := resp_at r h2 x.cs k h1 h3
   have e2 : what r y = ⟨3, y.m⟩ := what1 hr (hx.cs y (List.mem_of_getElem? h1)) hk h2
   rw [e2] at e1
   have e3 : x.response r = ({ x with cs := x.cs.take k ++ x.cs.drop (k + 1) }, [⟨3, y.m⟩]) := by unfold Ct.response; rw [e1]
   rw [e3]
   have HI : Hid (∀ (u : World) (b6 b5 : Nat), P u c base a b t n va vc x → u.cell? ⟨b6, 0, none⟩ = some (fM1 b5) → u.heap[b5]? = some (mO r MT) → Calls Tryz.prog 43 #[vc, .func (.func 86) #[] #[ptr b6]] u fun e u' => e = .returned (nm k) ∧ Below u.heap.size u u') := Lib.hid fun u b6 b5 hp hc h5 => (hit u b6 b5 hp hc h5).mono fun e u' ⟨i, e1, e2, e3⟩ => ⟨by rw [e1, e2.some_eq h1 h2 h3], e3⟩
   have hsub : (x.cs.take k ++ x.cs.drop (k + 1)).Sublist x.cs := by
    have := (List.Sublist.refl (x.cs.take k)).append (List.drop_sublist 1 (x.cs.drop k))
    rw [List.drop_drop, List.take_append_drop] at this
    exact this
   have HOK : Hid (({ x with cs := x.cs.take k ++ x.cs.drop (k + 1) } : Ct).Ok ∧ Sd { x with cs := x.cs.take k ++ x.cs.drop (k + 1) }) := Lib.hid ⟨hx.sub hsub, fun z hz => h.sd z (hsub.subset hz)⟩
   have hkl : k < x.cs.length := (List.getElem?_eq_some_iff.1 h1).1
   obtain ⟨oc, cap, hvc, gc⟩ := row_form h.cs
   obtain ⟨g, rfl⟩ := gc k hkl
   obtain ⟨m, hm⟩ : ∃ m, x.cs.length = m := ⟨_, rfl⟩
   rw [hm] at hvc hkl
   subst hvc
   have hmany := hx.cs_few
   rw [hm] at hmany
   obtain ⟨j, hj⟩ : ∃ j, j = k + 1 := ⟨_, rfl⟩
   obtain ⟨m1, hm1⟩ : ∃ m1, m1 = m - 1 := ⟨_, rfl⟩
   have CD : Hid (∀ u, P u c base a b t n va (.slice (some ⟨g, 0, none⟩) m cap) x → Calls Tryz.prog 88 #[.slice (some ⟨g, 0, none⟩) m cap, nm k, nm j] u fun e u' => e = .returned (.slice (some ⟨g, 0, none⟩) m1 cap) ∧ OwnS KT 22 kl u' base (.slice (some ⟨g, 0, none⟩) m1 cap) (x.cs.take k ++ x.cs.drop (k + 1)) ∧ u.grownBy u' (some g)) := Lib.hid fun u hu => by
    have := fdel_k k j hj (by omega) hu.cs
    rw [← hm1, hj] at this
    rw [hj]
    exact this
   have HRM : Hid (∀ u, P u c base a b t n va (.slice (some ⟨g, 0, none⟩) m cap) x → u.rangeAt g (k * 22) (ml y.m)) := Lib.hid fun u hu j v hv => own_rangez kl_len hu.cs k y h1 j v (by
    unfold kl
    rw [List.getElem?_append_left (List.getElem?_eq_some_iff.1 hv).1]; exact hv)
   have vj : IntKind.i64.wrap ((k : Int) + 1) = (j : Int) := by rw [IntKind.wrap_i64]; omega
   have i0 : decide ((k : Int) < 0) = false := decide_eq_false (by omega)
   have i1 : ¬ (k : Int) < 0 := by omega
   have i2 : (0 : Int) ≤ (k : Int) := by omega
   have i3 : (k : Int) < (m : Int) := by omega
   clear h hx hit hall e1 e2 e3 hk hr h1 h2 h3 hsub hm gc hj hm1 hmany
   go_enter Tryz.func64, Tryz.ntmps64
   go_wp2_with (first
    | ((with_reducible refine bxm (m := r) ?hx ?_); (case hx => rfl); intro b3 w1 h F0; have H3 := Lib.hid h; have F3 := Lib.hid F0; clear h F0)
    | ((with_reducible refine alr (T := GT) (cs := fc zG) (by kernel_rfl) ?_); intro b4 w2 h F0; have HH2 := Lib.hid (Hc.start HP.out F3.out H3.out F0 h); clear h F0 H3 F3)
    | ((with_reducible refine ldm isM HH2.out.h3 ?hx ?_); (case hx => rfl))
    | (go_at_call 85; refine (CM.out _).mono ?_; rintro e w4 ⟨b5, rfl, h5, hb⟩; have HH4 := Lib.hid (HH2.out.on hb); have H5 := Lib.hid h5; clear h5 hb HH2)
    | ((with_reducible refine alf (T := 59) zeroFn rfl ?_); intro b6 w5 h F; have HH5 := Lib.hid (HH4.out.on F.below); have N6 := Lib.hid (HH4.out.new F); have H55 := Lib.hid (F.stays H5.out); have n56 := Lib.hid (F.ne H5.out); have c6 : w5.cell? ⟨b6, 0, none⟩ = some Value.nilFunc := cell_of h rfl; have f6 : w5.frozen? ⟨b6, 0, none⟩ = false := free_of h; have l6 := lt_heap h; have HS := Lib.hid (set_fn h (fM1 b5)); have HH6 := Lib.hid (HH5.out.other (mod_setCell b6 0 w5 (fM1 b5)) N6.out); have H56 := Lib.hid ((set_other n56.out (fM1 b5) (o := 0)).trans H55.out); obtain ⟨c0, c1, c2, c3, c4, c5⟩ := HH6.out.p.cells; have hl := HH6.out.p.hd.lt; clear h F HH4 H5)
    | (go_at_call 43; refine (HI.out _ _ _ HH6.out.p HS.out H56.out).mono ?_; rintro e w7 ⟨rfl, hb⟩; have HH7 := Lib.hid (HH6.out.on hb); clear hb c0 c1 c2 c3 c4 c5 hl c6 f6 l6)
    | ((with_reducible refine ldm isM HH7.out.h3 ?hx ?_); (case hx => rfl))
    | ((with_reducible refine bdB (parts := #[(0, Operand.const (Value.int IntKind.u8 2)), (1, Operand.tmp 20)]) (builtG 2 r) ?hl ?_); (case hl => kernel_rfl))
    | ((with_reducible refine alr (T := GT) (cs := fc zG) (by kernel_rfl) ?_); intro b8 w8 h F; have HH8 := Lib.hid (HH7.out.on F.below); have N8 := Lib.hid (HH7.out.new F); have H8 := Lib.hid h; clear h F)
    | ((with_reducible refine str (fc ⟨2, r⟩) isG H8.out ?h0 ?h1 ?hc ?hx ?hy ?_); (case h0 => rfl); (case h1 => rfl); (case hc => exact all_oneCell_toArray (fl_one ⟨2, r⟩)); (case hx => rfl); (case hy => rfl); intro w9 h M; have HH9 := Lib.hid (HH8.out.other M N8.out); have H9 := Lib.hid h; obtain ⟨d0, d1, d2, d3, d4, d5⟩ := lay HH9.out.h3; obtain ⟨c0, c1, c2, c3, c4, c5⟩ := HH9.out.p.cells; have hl := HH9.out.p.hd.lt; clear h M H8)
    | ((with_reducible refine ldr (m := y.m) isM (HRM.out _ HH9.out.p) ?hx ?_); (case hx => rfl))
    | ((with_reducible refine bdB (parts := #[(0, Operand.const (Value.int IntKind.u8 3)), (1, Operand.tmp 32)]) (builtG 3 y.m) ?hl ?_); (case hl => kernel_rfl))
    | ((with_reducible refine str (fc ⟨3, y.m⟩) isG H9.out ?h0 ?h1 ?hc ?hx ?hy ?_); (case h0 => rfl); (case h1 => rfl); (case hc => exact all_oneCell_toArray (fl_one ⟨3, y.m⟩)); (case hx => rfl); (case hy => rfl); intro w10 h M; have HH10 := Lib.hid (HH9.out.other M N8.out); have H10 := Lib.hid h; clear h M d0 d1 d2 d3 d4 d5 c0 c1 c2 c3 c4 c5 hl; obtain ⟨c0, c1, c2, c3, c4, c5⟩ := HH10.out.p.cells; have hl := HH10.out.p.hd.lt)
    | (go_at_call 88; refine (CD.out _ HH10.out.p).mono ?_; rintro e w11 ⟨rfl, ho, hg⟩; have PC := Lib.hid (HH10.out.p.put_cs ho (Chg.of_grown hg fun k hk => hk) (fun k hk => .inl hk) HOK.out.1 HOK.out.2); have H11 := Lib.hid (PC.out.chg.stays H10.out N8.out.n); have H411 := Lib.hid (PC.out.chg.stays HH10.out.h4 HH10.out.n4); clear ho hg c0 c1 c2 c3 c4 c5 hl; have c5 := PC.out.c5; have hf := PC.out.fr; have hl := PC.out.lt)
    | ((with_reducible refine ldz isG (rangez_of (vs := fl ⟨3, y.m⟩) H11.out) ?hz ?hx ?_); (case hz => rfl); (case hx => rfl))
    | ((with_reducible refine str (fc ⟨3, y.m⟩) isG H411.out ?h0 ?h1 ?hc ?hx ?hy ?_); (case h0 => rfl); (case h1 => rfl); (case hc => exact all_oneCell_toArray (fl_one ⟨3, y.m⟩)); (case hx => rfl); (case hy => rfl); intro w12 h M; have HR8 := Lib.hid h; have HE := Lib.hid (HH10.out.close (px_of PC.out) M); clear h M c5 hf hl))
   exact bodyPost_ret (hr_results _ _ _ _ _ HR8.out rfl rfl) rfl ⟨rfl, HE.out⟩
set_option maxHeartbeats 16000000 in
theorem fhresp2 (h : P w c base a b t n va vc x) (r : Ms) (hr : r.Ok) (hk : r.k ≠ 7) : Calls Tryz.prog 64 #[ptr c, mv r] w fun e w' => e = .returned (hv (x.response r).2) ∧ Px w c base a b t n va vc (x.response r).1 w' := by
 have hx := h.ok
 have HP := Lib.hid h
 have CM := Lib.hid (fun w => fmeaning2 r hk w)
 have hit := fun (u : World) (b6 b5 : Nat) (hp : P u c base a b t n va vc x) (hc : u.cell? ⟨b6, 0, none⟩ = some (fM2 b5)) (h5 : u.heap[b5]? = some (mO r MT)) => find_hits2 hp hr hk hc h5
 have t7 : ((r.k : Int) == 7) = false := Mem.beq_false (by omega)
 by_cases hall : ∀ y ∈ x.cs, hits r y = false
 · have e1 : x.response r = (x, []) := by unfold Ct.response; rw [resp_none r x.cs hall]
   rw [e1]
   have HI : Hid (∀ (u : World) (b6 b5 : Nat), P u c base a b t n va vc x → u.cell? ⟨b6, 0, none⟩ = some (fM2 b5) → u.heap[b5]? = some (mO r MT) → Calls Tryz.prog 43 #[vc, .func (.func 86) #[] #[ptr b6]] u fun e u' => e = .returned (im (-1)) ∧ Below u.heap.size u u') := Lib.hid fun u b6 b5 hp hc h5 => (hit u b6 b5 hp hc h5).mono fun e u' ⟨i, e1, e2, e3⟩ => ⟨by rw [e1, e2.none_eq hall], e3⟩
   clear h hx hit hall e1 hk hr
   go_enter Tryz.func64, Tryz.ntmps64
   go_wp2_with (first
    | ((with_reducible refine bxm (m := r) ?hx ?_); (case hx => rfl); intro b3 w1 h F0; have H3 := Lib.hid h; have F3 := Lib.hid F0; clear h F0)
    | ((with_reducible refine alr (T := GT) (cs := fc zG) (by kernel_rfl) ?_); intro b4 w2 h F0; have HH2 := Lib.hid (Hc.start HP.out F3.out H3.out F0 h); clear h F0 H3 F3)
    | ((with_reducible refine ldm isM HH2.out.h3 ?hx ?_); (case hx => rfl))
    | (go_at_call 85; refine (CM.out _).mono ?_; rintro e w4 ⟨b5, rfl, h5, hb⟩; have HH4 := Lib.hid (HH2.out.on hb); have H5 := Lib.hid h5; clear h5 hb HH2)
    | ((with_reducible refine alf (T := 59) zeroFn rfl ?_); intro b6 w5 h F; have HH5 := Lib.hid (HH4.out.on F.below); have N6 := Lib.hid (HH4.out.new F); have H55 := Lib.hid (F.stays H5.out); have n56 := Lib.hid (F.ne H5.out); have c6 : w5.cell? ⟨b6, 0, none⟩ = some Value.nilFunc := cell_of h rfl; have f6 : w5.frozen? ⟨b6, 0, none⟩ = false := free_of h; have l6 := lt_heap h; have HS := Lib.hid (set_fn h (fM2 b5)); have HH6 := Lib.hid (HH5.out.other (mod_setCell b6 0 w5 (fM2 b5)) N6.out); have H56 := Lib.hid ((set_other n56.out (fM2 b5) (o := 0)).trans H55.out); obtain ⟨c0, c1, c2, c3, c4, c5⟩ := HH6.out.p.cells; have hl := HH6.out.p.hd.lt; clear h F HH4 H5)
    | (go_at_call 43; refine (HI.out _ _ _ HH6.out.p HS.out H56.out).mono ?_; rintro e w7 ⟨rfl, hb⟩; have HH7 := Lib.hid (HH6.out.on hb); clear hb c0 c1 c2 c3 c4 c5 hl c6 f6 l6)
    | ((with_reducible refine bdB builtG0 ?hl ?_); (case hl => kernel_rfl))
    | ((with_reducible refine str (fc zG) isG HH7.out.h4 ?h0 ?h1 ?hc ?hx ?hy ?_); (case h0 => rfl); (case h1 => rfl); (case hc => exact all_oneCell_toArray (fl_one zG)); (case hx => rfl); (case hy => rfl); intro w8 h8 M8; have HR8 := Lib.hid h8; have HE := Lib.hid (HH7.out.close (HH7.out.p.px_below (Below.refl _ _)) M8); clear h8 M8))
   exact bodyPost_ret (hr_results _ _ _ _ _ HR8.out rfl rfl) rfl ⟨rfl, HE.out⟩
 · obtain ⟨k, y, h1, h2, h3⟩ := first_of hall
   have e1 := resp_at r h2 x.cs k h1 h3
   have e2 : what r y = ⟨2, r⟩ := what2 hr (hx.cs y (List.mem_of_getElem? h1)) hk h2
   rw [e2] at e1
   have e3 : x.response r = ({ x with cs := x.cs.take k ++ x.cs.drop (k + 1) }, [⟨2, r⟩]) := by unfold Ct.response; rw [e1]
   rw [e3]
   have HI : Hid (∀ (u : World) (b6 b5 : Nat), P u c base a b t n va vc x → u.cell? ⟨b6, 0, none⟩ = some (fM2 b5) → u.heap[b5]? = some (mO r MT) → Calls Tryz.prog 43 #[vc, .func (.func 86) #[] #[ptr b6]] u fun e u' => e = .returned (nm k) ∧ Below u.heap.size u u') := Lib.hid fun u b6 b5 hp hc h5 => (hit u b6 b5 hp hc h5).mono fun e u' ⟨i, e1, e2, e3⟩ => ⟨by rw [e1, e2.some_eq h1 h2 h3], e3⟩
   have hsub : (x.cs.take k ++ x.cs.drop (k + 1)).Sublist x.cs := by
    have := (List.Sublist.refl (x.cs.take k)).append (List.drop_sublist 1 (x.cs.drop k))
    rw [List.drop_drop, List.take_append_drop] at this
    exact this
   have HOK : Hid (({ x with cs := x.cs.take k ++ x.cs.drop (k + 1) } : Ct).Ok ∧ Sd { x with cs := x.cs.take k ++ x.cs.drop (k + 1) }) := Lib.hid ⟨hx.sub hsub, fun z hz => h.sd z (hsub.subset hz)⟩
   have hkl : k < x.cs.length := (List.getElem?_eq_some_iff.1 h1).1
   obtain ⟨oc, cap, hvc, gc⟩ := row_form h.cs
   obtain ⟨g, rfl⟩ := gc k hkl
   obtain ⟨m, hm⟩ : ∃ m, x.cs.length = m := ⟨_, rfl⟩
   rw [hm] at hvc hkl
   subst hvc
   have hmany := hx.cs_few
   rw [hm] at hmany
   obtain ⟨j, hj⟩ : ∃ j, j = k + 1 := ⟨_, rfl⟩
   obtain ⟨m1, hm1⟩ : ∃ m1, m1 = m - 1 := ⟨_, rfl⟩
   have CD : Hid (∀ u, P u c base a b t n va (.slice (some ⟨g, 0, none⟩) m cap) x → Calls Tryz.prog 88 #[.slice (some ⟨g, 0, none⟩) m cap, nm k, nm j] u fun e u' => e = .returned (.slice (some ⟨g, 0, none⟩) m1 cap) ∧ OwnS KT 22 kl u' base (.slice (some ⟨g, 0, none⟩) m1 cap) (x.cs.take k ++ x.cs.drop (k + 1)) ∧ u.grownBy u' (some g)) := Lib.hid fun u hu => by
    have := fdel_k k j hj (by omega) hu.cs
    rw [← hm1, hj] at this
    rw [hj]
    exact this
   have HRM : Hid (∀ u, P u c base a b t n va (.slice (some ⟨g, 0, none⟩) m cap) x → u.rangeAt g (k * 22) (ml y.m)) := Lib.hid fun u hu j v hv => own_rangez kl_len hu.cs k y h1 j v (by
    unfold kl
    rw [List.getElem?_append_left (List.getElem?_eq_some_iff.1 hv).1]; exact hv)
   have vj : IntKind.i64.wrap ((k : Int) + 1) = (j : Int) := by rw [IntKind.wrap_i64]; omega
   have i0 : decide ((k : Int) < 0) = false := decide_eq_false (by omega)
   have i1 : ¬ (k : Int) < 0 := by omega
   have i2 : (0 : Int) ≤ (k : Int) := by omega
   have i3 : (k : Int) < (m : Int) := by omega
   clear h hx hit hall e1 e2 e3 hk hr h1 h2 h3 hsub hm gc hj hm1 hmany
   go_enter Tryz.func64, Tryz.ntmps64
   go_wp2_with (first
    | ((with_reducible refine bxm (m := r) ?hx ?_); (case hx => rfl); intro b3 w1 h F0; have H3 := Lib.hid h; have F3 := Lib.hid F0; clear h F0)
    | ((with_reducible refine alr (T := GT) (cs := fc zG) (by kernel_rfl) ?_); intro b4 w2 h F0; have HH2 := Lib.hid (Hc.start HP.out F3.out H3.out F0 h); clear h F0 H3 F3)
    | ((with_reducible refine ldm isM HH2.out.h3 ?hx ?_); (case hx => rfl))
    | (go_at_call 85; refine (CM.out _).mono ?_; rintro e w4 ⟨b5, rfl, h5, hb⟩; have HH4 := Lib.hid (HH2.out.on hb); have H5 := Lib.hid h5; clear h5 hb HH2)
    | ((with_reducible refine alf (T := 59) zeroFn rfl ?_); intro b6 w5 h F; have HH5 := Lib.hid (HH4.out.on F.below); have N6 := Lib.hid (HH4.out.new F); have H55 := Lib.hid (F.stays H5.out); have n56 := Lib.hid (F.ne H5.out); have c6 : w5.cell? ⟨b6, 0, none⟩ = some Value.nilFunc := cell_of h rfl; have f6 : w5.frozen? ⟨b6, 0, none⟩ = false := free_of h; have l6 := lt_heap h; have HS := Lib.hid (set_fn h (fM2 b5)); have HH6 := Lib.hid (HH5.out.other (mod_setCell b6 0 w5 (fM2 b5)) N6.out); have H56 := Lib.hid ((set_other n56.out (fM2 b5) (o := 0)).trans H55.out); obtain ⟨c0, c1, c2, c3, c4, c5⟩ := HH6.out.p.cells; have hl := HH6.out.p.hd.lt; clear h F HH4 H5)
    | (go_at_call 43; refine (HI.out _ _ _ HH6.out.p HS.out H56.out).mono ?_; rintro e w7 ⟨rfl, hb⟩; have HH7 := Lib.hid (HH6.out.on hb); clear hb c0 c1 c2 c3 c4 c5 hl c6 f6 l6)
    | ((with_reducible refine ldm isM HH7.out.h3 ?hx ?_); (case hx => rfl))
    | ((with_reducible refine bdB (parts := #[(0, Operand.const (Value.int IntKind.u8 2)), (1, Operand.tmp 20)]) (builtG 2 r) ?hl ?_); (case hl => kernel_rfl))
    | ((with_reducible refine alr (T := GT) (cs := fc zG) (by kernel_rfl) ?_); intro b8 w8 h F; have HH8 := Lib.hid (HH7.out.on F.below); have N8 := Lib.hid (HH7.out.new F); have H8 := Lib.hid h; clear h F)
    | ((with_reducible refine str (fc ⟨2, r⟩) isG H8.out ?h0 ?h1 ?hc ?hx ?hy ?_); (case h0 => rfl); (case h1 => rfl); (case hc => exact all_oneCell_toArray (fl_one ⟨2, r⟩)); (case hx => rfl); (case hy => rfl); intro w9 h M; have HH9 := Lib.hid (HH8.out.other M N8.out); have H9 := Lib.hid h; obtain ⟨d0, d1, d2, d3, d4, d5⟩ := lay HH9.out.h3; obtain ⟨c0, c1, c2, c3, c4, c5⟩ := HH9.out.p.cells; have hl := HH9.out.p.hd.lt; clear h M H8)
    | (go_at_call 88; refine (CD.out _ HH9.out.p).mono ?_; rintro e w11 ⟨rfl, ho, hg⟩; have PC := Lib.hid (HH9.out.p.put_cs ho (Chg.of_grown hg fun k hk => hk) (fun k hk => .inl hk) HOK.out.1 HOK.out.2); have H11 := Lib.hid (PC.out.chg.stays H9.out N8.out.n); have H411 := Lib.hid (PC.out.chg.stays HH9.out.h4 HH9.out.n4); clear ho hg c0 c1 c2 c3 c4 c5 hl d0 d1 d2 d3 d4 d5; have c5 := PC.out.c5; have hf := PC.out.fr; have hl := PC.out.lt)
    | ((with_reducible refine ldz isG (rangez_of (vs := fl ⟨2, r⟩) H11.out) ?hz ?hx ?_); (case hz => rfl); (case hx => rfl))
    | ((with_reducible refine str (fc ⟨2, r⟩) isG H411.out ?h0 ?h1 ?hc ?hx ?hy ?_); (case h0 => rfl); (case h1 => rfl); (case hc => exact all_oneCell_toArray (fl_one ⟨2, r⟩)); (case hx => rfl); (case hy => rfl); intro w12 h M; have HR8 := Lib.hid h; have HE := Lib.hid (HH9.out.close (px_of PC.out) M); clear h M c5 hf hl))
   exact bodyPost_ret (hr_results _ _ _ _ _ HR8.out rfl rfl) rfl ⟨rfl, HE.out⟩
theorem fhresp (h : P w c base a b t n va vc x) (r : Ms) (hr : r.Ok) : Calls Tryz.prog 64 #[ptr c, mv r] w fun e w' => e = .returned (hv (x.response r).2) ∧ Px w c base a b t n va vc (x.response r).1 w' := by
 by_cases hk : r.k = 7
 · exact fhresp1 h r hr hk
 · exact fhresp2 h r hr hk
end
end Go.Proofs.YtakkhdammmcjcaaGreatDoor.Ctl
namespace Go.Proofs.YtakkhdammmcjcaaGreatDoor.Msc
open Go.RowKit Base Mem Ea
theorem at_string (s : ByteArray) (i : Nat) (h : i < s.size) (n : Nat) (hx : n = s[i].toNat) (W : World) :
 (Instr.index 9 (.string s) (.int .i64 (i : Int))).run Tryz.prog W = .ok (.int .u8 (n : Int)) W := by
 rw [run_index_string W 9 s .i64 (i : Int) Tryz.underlying9, dif_pos (by omega)]
 simp [hx]
theorem fwhole_no (v : ByteArray) (h : (v.size : Int) < 2) (w : World) :
 Calls Tryz.prog 119 #[.string v] w fun x w' => x = .returned (.bool false) ∧ w = w' := by
 go_enter Tryz.func119, Tryz.ntmps119
 go_wp2
 go_ret
 exact ⟨rfl, rfl⟩
theorem fwhole_yes (v : ByteArray) (n : Nat) (hn : n < 256) (h : ¬ (v.size : Int) < 2) (i1 : ∀ W, (Instr.index 9 (.string v) (.int .i64 1)).run Tryz.prog W = .ok (.int .u8 (n : Int)) W) (w : World) :
 Calls Tryz.prog 119 #[.string v] w fun x w' => x = .returned (.bool (decide (n % 2 = 1) || decide (3 ≤ v.size))) ∧ w = w' := by
 obtain ⟨x, hx⟩ : ∃ x, decide (n % 2 = 0) = x := ⟨_, rfl⟩
 have CH := Lib.hid (fun w => fhas n hn w)
 rw [hx] at CH
 have HX := Lib.hid hx
 clear hx
 cases x
 · have h2 : n % 2 = 1 := by have := of_decide_eq_false HX.out; omega
   rw [h2]
   clear h2 HX
   go_enter Tryz.func119, Tryz.ntmps119
   go_wp2_with (go_at_call 123; ((with_reducible refine (CH.out _).mono ?_); rintro e w2 ⟨rfl, rfl⟩))
   go_ret
   exact ⟨rfl, rfl⟩
 · have h2 : n % 2 = 0 := of_decide_eq_true HX.out
   rw [h2]
   clear h2 HX
   go_enter Tryz.func119, Tryz.ntmps119
   go_wp2_with (go_at_call 123; ((with_reducible refine (CH.out _).mono ?_); rintro e w2 ⟨rfl, rfl⟩))
   all_goals go_ret
   all_goals exact ⟨ret_bool (by rw [Bool.eq_iff_iff]; simp; omega), rfl⟩
theorem fwhole (v : ByteArray) (w : World) :
 Calls Tryz.prog 119 #[.string v] w fun x w' => x = .returned (.bool (whole v)) ∧ w = w' := by
 unfold whole
 by_cases h : 2 ≤ v.size
 · rw [dif_pos h]
   exact fwhole_yes v v[1].toNat (oct_lt _) (by omega) (at_string v 1 (by omega) _ rfl) w
 · rw [dif_neg h]
   exact fwhole_no v (by omega) w
theorem and_bit : ∀ n : Fin 256, ((bits .and .u8 (n.val : Int) 2 != 0) = n1 n.val) ∧ ((bits .and .u8 (n.val : Int) 4 != 0) = n2 n.val) ∧ ((bits .and .u8 (n.val : Int) 8 != 0) = n3 n.val) ∧ ((bits .and .u8 (n.val : Int) 64 != 0) = n6 n.val) ∧ ((bits .and .u8 (n.val : Int) 128 != 0) = n7 n.val) := by decide +kernel
theorem read_results (tmps : Array Value) (W : World) (b : Nat) (p : St) (h : Cells W b p) (p2 : tmps[2]?.getD undef = ptr b) :
 (results Tryz.f120 tmps).run Tryz.prog W = .ok (sv p) W := by
 obtain ⟨g0, g1, g2, g3, g4, g5, g6, g7⟩ := h
 simp [results, Tryz.results120, go_sem, p2, g0, g1, g2, g3, g4, g5, g6, g7]
theorem fread_odd (s : ByteArray) (a n d : Nat) (C K f c r i v : Bool)
 (i0 : ∀ W, (Instr.index 9 (.string s) (.int .i64 0)).run Tryz.prog W = .ok (.int .u8 (a : Int)) W)
 (i1 : ∀ W, (Instr.index 9 (.string s) (.int .i64 1)).run Tryz.prog W = .ok (.int .u8 (n : Int)) W)
 (h1 : (bits .and .u8 (n : Int) 2 != 0) = f) (h2 : (bits .and .u8 (n : Int) 4 != 0) = c) (h3 : (bits .and .u8 (n : Int) 8 != 0) = r) (h6 : (bits .and .u8 (n : Int) 64 != 0) = i) (h7 : (bits .and .u8 (n : Int) 128 != 0) = v)
 (CS : ∀ w, Calls Tryz.prog 124 #[.int .u8 (a : Int)] w fun e w' => e = .returned (.tuple #[.int .u8 (d : Int), .bool C, .bool K]) ∧ w = w')
 (CH : ∀ w, Calls Tryz.prog 123 #[.int .u8 (n : Int)] w fun x w' => x = .returned (.bool false) ∧ w = w') (w : World) :
 Calls Tryz.prog 120 #[.string s] w fun x w' => x = .returned (sv ⟨d, f, c, r, i, v, false, 0⟩) ∧ Below w.heap.size w w' := by
 have CSh := Lib.hid CS
 have CHh := Lib.hid CH
 clear CS CH
 go_enter Tryz.func120, Tryz.ntmps120
 go_wp2_with (first
  | (go_at_call 124; ((with_reducible refine (CSh.out _).mono ?_); rintro e w2 ⟨rfl, rfl⟩))
  | (go_at_call 123; ((with_reducible refine (CHh.out _).mono ?_); rintro e w2 ⟨rfl, rfl⟩)))
 exact bodyPost_ret (read_results _ _ w.heap.size ⟨d, f, c, r, i, v, false, 0⟩ (cells_of (nest w [_, _] 0 _ rfl)) rfl) rfl ⟨rfl, nest_below w [_, _]⟩
theorem fread_even (s : ByteArray) (a n d x : Nat) (C K f c r i v : Bool)
 (i0 : ∀ W, (Instr.index 9 (.string s) (.int .i64 0)).run Tryz.prog W = .ok (.int .u8 (a : Int)) W)
 (i1 : ∀ W, (Instr.index 9 (.string s) (.int .i64 1)).run Tryz.prog W = .ok (.int .u8 (n : Int)) W)
 (i2 : ∀ W, (Instr.index 9 (.string s) (.int .i64 2)).run Tryz.prog W = .ok (.int .u8 (x : Int)) W)
 (h1 : (bits .and .u8 (n : Int) 2 != 0) = f) (h2 : (bits .and .u8 (n : Int) 4 != 0) = c) (h3 : (bits .and .u8 (n : Int) 8 != 0) = r) (h6 : (bits .and .u8 (n : Int) 64 != 0) = i) (h7 : (bits .and .u8 (n : Int) 128 != 0) = v)
 (CS : ∀ w, Calls Tryz.prog 124 #[.int .u8 (a : Int)] w fun e w' => e = .returned (.tuple #[.int .u8 (d : Int), .bool C, .bool K]) ∧ w = w')
 (CH : ∀ w, Calls Tryz.prog 123 #[.int .u8 (n : Int)] w fun x w' => x = .returned (.bool true) ∧ w = w') (w : World) :
 Calls Tryz.prog 120 #[.string s] w fun y w' => y = .returned (sv ⟨d, f, c, r, i, v, true, x / 16⟩) ∧ Below w.heap.size w w' := by
 have CSh := Lib.hid CS
 have CHh := Lib.hid CH
 clear CS CH
 go_enter Tryz.func120, Tryz.ntmps120
 go_wp2_with (first
  | (go_at_call 124; ((with_reducible refine (CSh.out _).mono ?_); rintro e w2 ⟨rfl, rfl⟩))
  | (go_at_call 123; ((with_reducible refine (CHh.out _).mono ?_); rintro e w2 ⟨rfl, rfl⟩)))
 exact bodyPost_ret (read_results _ _ w.heap.size ⟨d, f, c, r, i, v, true, x / 16⟩ (cells_of (nest w [_, _] 0 _ rfl)) rfl) rfl ⟨rfl, nest_below w [_, _]⟩
theorem fread (s : ByteArray) (hw : whole s = true) (w : World) :
 Calls Tryz.prog 120 #[.string s] w fun x w' => x = .returned (sv (rdv s)) ∧ Below w.heap.size w w' := by
 by_cases h : 2 ≤ s.size
 · have hr : rdv s = rd s[0].toNat s[1].toNat (third s) := dif_pos h
   obtain ⟨h1, h2, h3, h6, h7⟩ := and_bit ⟨s[1].toNat, oct_lt _⟩
   have i0 := at_string s 0 (by omega) s[0].toNat rfl
   have i1 := at_string s 1 (by omega) s[1].toNat rfl
   have CS := fun w => split s[0].toNat (oct_lt _) w
   have CH := fun w => fhas s[1].toNat (oct_lt _) w
   rcases Nat.mod_two_eq_zero_or_one s[1].toNat with hp | hp
   · have h3' : 3 ≤ s.size := by
      unfold whole at hw
      rw [dif_pos h, hp] at hw
      simpa using hw
     have ht : third s = s[2].toNat := dif_pos (by omega)
     have e : rdv s = ⟨spD s[0].toNat, n1 s[1].toNat, n2 s[1].toNat, n3 s[1].toNat, n6 s[1].toNat, n7 s[1].toNat, true, s[2].toNat / 16⟩ := by
      rw [hr, ht]; unfold rd; rw [if_pos hp, decide_eq_true hp]
     rw [e]
     rw [decide_eq_true hp] at CH
     exact fread_even s _ _ _ _ _ _ _ _ _ _ _ i0 i1 (at_string s 2 (by omega) s[2].toNat rfl) h1 h2 h3 h6 h7 CS CH w
   · have hp' : ¬ s[1].toNat % 2 = 0 := by omega
     have e : rdv s = ⟨spD s[0].toNat, n1 s[1].toNat, n2 s[1].toNat, n3 s[1].toNat, n6 s[1].toNat, n7 s[1].toNat, false, 0⟩ := by
      rw [hr]; unfold rd; rw [if_neg hp', decide_eq_false hp']
     rw [e]
     rw [decide_eq_false hp'] at CH
     exact fread_odd s _ _ _ _ _ _ _ _ _ _ i0 i1 h1 h2 h3 h6 h7 CS CH w
 · unfold whole at hw; rw [dif_neg h] at hw; cases hw
end Go.Proofs.YtakkhdammmcjcaaGreatDoor.Msc
namespace Go.Proofs.YtakkhdammmcjcaaGreatDoor.Msc
open Go.RowKit Base Mem Ea
theorem get_results (tmps : Array Value) (W : World) (b : Nat) (p : St) (e : Int) (h : Cells W b p) (p2 : tmps[2]?.getD undef = ptr b) (p3 : tmps[3]?.getD undef = .int .i64 e) :
 (results Tryz.f108 tmps).run Tryz.prog W = .ok (.tuple #[sv p, .int .i64 e]) W := by
 obtain ⟨g0, g1, g2, g3, g4, g5, g6, g7⟩ := h
 simp [results, Tryz.results108, go_sem, p2, p3, g0, g1, g2, g3, g4, g5, g6, g7]
theorem fget_short (s : ByteArray) (CW : ∀ w, Calls Tryz.prog 119 #[.string s] w fun x w' => x = .returned (.bool false) ∧ w = w') (w : World) :
 Calls Tryz.prog 108 #[.string s] w fun x w' => x = .returned (.tuple #[sv zero, .int .i64 20]) ∧ Below w.heap.size w w' := by
 have CWh := Lib.hid CW
 clear CW
 go_enter Tryz.func108, Tryz.ntmps108
 go_wp2_with (go_at_call 119; ((with_reducible refine (CWh.out _).mono ?_); rintro e w2 ⟨rfl, rfl⟩))
 exact bodyPost_ret (get_results _ _ w.heap.size zero 20 (cells_of (nest w [_] 0 _ rfl)) rfl rfl) rfl ⟨rfl, nest_below w [_]⟩
theorem fget_long (s : ByteArray) (p : St) (S : ByteArray) (hS : S ≠ s) (CW : ∀ w, Calls Tryz.prog 119 #[.string s] w fun x w' => x = .returned (.bool true) ∧ w = w') (CR : ∀ w, Calls Tryz.prog 120 #[.string s] w fun x w' => x = .returned (sv p) ∧ Below w.heap.size w w')
 (CP : ∀ w, Calls Tryz.prog 69 #[sv p] w fun x w' => x = .returned (.tuple #[.string S, .int .i64 0]) ∧ Below w.heap.size w w') (w : World) :
 Calls Tryz.prog 108 #[.string s] w fun x w' => x = .returned (.tuple #[sv zero, .int .i64 70]) ∧ Below w.heap.size w w' := by
 have hq : (S.toList == s.toList) = false := ne_list hS
 clear hS
 have CWh := Lib.hid CW
 have CRh := Lib.hid CR
 have CPh := Lib.hid CP
 clear CW CR CP
 go_enter Tryz.func108, Tryz.ntmps108
 go_wp2_with (first
  | (go_at_call 119; ((with_reducible refine (CWh.out _).mono ?_); rintro e w3 ⟨rfl, rfl⟩))
  | (go_at_call 120; ((with_reducible refine (CRh.out _).mono ?_); rintro e w1 ⟨rfl, hb⟩; have HF := Lib.hid (fresh hb); have HB := Lib.hid (on_new (Below.refl _ _) hb); have hlt : w.heap.size < w1.heap.size := lt_heap HF.out; clear hb))
  | (go_at_call 69; ((with_reducible refine (CPh.out _).mono ?_); rintro e w2 ⟨rfl, hb⟩; have HF2 := Lib.hid (stays HF.out (on_new (Below.refl _ _) hb)); have HG := Lib.hid (fresh hb); have HB2 := Lib.hid (on_new HB.out hb); obtain ⟨f0, f1, f2, f3, f4, f5, f6, f7⟩ := no_frees HF2.out; obtain ⟨g0, g1, g2, g3, g4, g5, g6, g7⟩ := no_cells HF2.out; obtain ⟨c0, c1, c2, c3, c4, c5, c6, c7⟩ := cells_of (p := p) HG.out; clear hb)))
 exact bodyPost_ret (get_results _ _ w.heap.size zero 70 (cells_of (set8_at HF2.out _ _ _ _ _ _ _ _)) rfl rfl) rfl ⟨rfl, set8 HB2.out (Nat.le_refl _) _ _ _ _ _ _ _ _⟩
theorem fget_ok (s : ByteArray) (p : St)  (CW : ∀ w, Calls Tryz.prog 119 #[.string s] w fun x w' => x = .returned (.bool true) ∧ w = w') (CR : ∀ w, Calls Tryz.prog 120 #[.string s] w fun x w' => x = .returned (sv p) ∧ Below w.heap.size w w')
 (CP : ∀ w, Calls Tryz.prog 69 #[sv p] w fun x w' => x = .returned (.tuple #[.string s, .int .i64 0]) ∧ Below w.heap.size w w') (w : World) :
 Calls Tryz.prog 108 #[.string s] w fun x w' => x = .returned (.tuple #[sv p, .int .i64 0]) ∧ Below w.heap.size w w' := by
 have CWh := Lib.hid CW
 have CRh := Lib.hid CR
 have CPh := Lib.hid CP
 clear CW CR CP
 go_enter Tryz.func108, Tryz.ntmps108
 go_wp2_with (first
  | (go_at_call 119; ((with_reducible refine (CWh.out _).mono ?_); rintro e w3 ⟨rfl, rfl⟩))
  | (go_at_call 120; ((with_reducible refine (CRh.out _).mono ?_); rintro e w1 ⟨rfl, hb⟩; have HF := Lib.hid (fresh hb); have HB := Lib.hid (on_new (Below.refl _ _) hb); have hlt : w.heap.size < w1.heap.size := lt_heap HF.out; clear hb))
  | (go_at_call 69; ((with_reducible refine (CPh.out _).mono ?_); rintro e w2 ⟨rfl, hb⟩; have HF2 := Lib.hid (stays HF.out (on_new (Below.refl _ _) hb)); have HG := Lib.hid (fresh hb); have HB2 := Lib.hid (on_new HB.out hb); obtain ⟨f0, f1, f2, f3, f4, f5, f6, f7⟩ := no_frees HF2.out; obtain ⟨g0, g1, g2, g3, g4, g5, g6, g7⟩ := no_cells HF2.out; obtain ⟨c0, c1, c2, c3, c4, c5, c6, c7⟩ := cells_of (p := p) HG.out; clear hb)))
 exact bodyPost_ret (get_results _ _ w.heap.size p 0 (cells_of (set8_at HF2.out _ _ _ _ _ _ _ _)) rfl rfl) rfl ⟨rfl, set8 HB2.out (Nat.le_refl _) _ _ _ _ _ _ _ _⟩
theorem fget (s : ByteArray) (w : World) :
 Calls Tryz.prog 108 #[.string s] w fun x w' => x = .returned (.tuple #[sv (gotS s), .int .i64 (gotE s)]) ∧ Below w.heap.size w w' := by
 have CW := fun w => fwhole s w
 cases hw : whole s
 · rw [hw] at CW
   obtain ⟨e1, e2⟩ := got_short hw
   rw [e1, e2]; exact fget_short s CW w
 · rw [hw] at CW
   have CR := fun w => fread s hw w
   have CP := fun w => fput (rdv s) (rdv_in s) w
   have hm := (may_iff _).2 (rdv_may s)
   unfold putS putE at CP
   rw [hm, if_pos rfl, if_pos rfl] at CP
   by_cases ho : octets (rdv s) = s
   · obtain ⟨e1, e2⟩ := got_ok hw ho
     rw [ho] at CP
     rw [e1, e2]; exact fget_ok s _ CW CR CP w
   · obtain ⟨e1, e2⟩ := got_no hw ho
     rw [e1, e2]; exact fget_long s _ _ ho CW CR CP w
end Go.Proofs.YtakkhdammmcjcaaGreatDoor.Msc
