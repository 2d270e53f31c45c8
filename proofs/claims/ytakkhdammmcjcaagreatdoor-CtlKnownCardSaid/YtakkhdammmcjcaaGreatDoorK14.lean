/-
  Layer 22, put together: CtlRef1, CtlDoc. Conditions: as each theorem names them.
-/
import Derived.Test.YtakkhdammmcjcaaGreatDoorK06
import Derived.Test.YtakkhdammmcjcaaGreatDoorK09
import Derived.Test.YtakkhdammmcjcaaGreatDoorK01
import Derived.Test.YtakkhdammmcjcaaGreatDoorK07
import Derived.Deep.RegionHeld
namespace Go.Proofs.YtakkhdammmcjcaaGreatDoor.Ctl
open Go.RowKit Base Mem Msgs Cr
set_option maxRecDepth 100000
theorem oc_beq (a b : Nat) : ((a : Int) == (b : Int)) = (a == b) := by
 by_cases h : a = b
 · rw [h, beq_self_eq_true, beq_self_eq_true]
 · rw [Mem.beq_false (by omega), beq_eq_false_iff_ne.2 h]
set_option maxHeartbeats 2000000 in
theorem rsame (x y : Ms) (hx : x.In) (hy : y.In) (w : World) : Calls Tryz.prog 53 #[mv x, mv y] w fun e w' => e = .returned (.bool (same x y)) ∧ Below w.heap.size w w' := by
 have CX := fun w => rchannel x hx w
 have CY := fun w => rchannel y hy w
 by_cases hk : x.k = y.k
 · have t1 : ((x.k : Int) == (y.k : Int)) = true := by rw [hk]; exact beq_self_eq_true _
   have t2 : (x.k : Int) = (y.k : Int) := by rw [hk]
   have e1 : same x y = (ch x == ch y) := by unfold same; rw [hk, beq_self_eq_true, Bool.true_and]
   have e2 := oc_beq (ch x) (ch y)
   rw [e1]
   generalize ch x = cx at CX e2 ⊢
   generalize ch y = cy at CY e2 ⊢
   generalize (cx == cy) = q at e2 ⊢
   have CX := Lib.hid CX
   have CY := Lib.hid CY
   have T1 := Lib.hid t1
   clear hx hy e1 t2 hk
   go_enter Tryz.func53, Tryz.ntmps53
   go_wp2_with (first
    | ((with_reducible refine bxm (m := x) ?hx ?_); (case hx => rfl); intro b1 w1 h F; have HB := Lib.hid F.below; have H1 := Lib.hid h; clear h F)
    | ((with_reducible refine bxm (m := y) ?hx ?_); (case hx => rfl); intro b2 wx h F; replace H1 := Lib.hid (F.stays H1.out); have H2 := Lib.hid h; replace HB := Lib.hid (F.on HB.out); clear h F))
   refine wp_region_held_drew (S := (fun w' => Below wx.heap.size wx w')) (by kernel_rfl) (Below.refl _ _).drew (fun hHeld => ?_)
   refine' tk9 0 rfl ?_
   refine' tv9 1 rfl (by intro _ hSw; (try dsimp only at hSw); have c1 := (lay (stays H1.out hSw)).1; go_simp <;> with_reducible rfl) ?_
   refine' tk9 2 rfl ?_
   refine' tv9 3 rfl (by intro _ hSw; (try dsimp only at hSw); have c2 := (lay (stays H2.out hSw)).1; go_simp <;> with_reducible rfl) ?_
   refine' tk9 4 rfl ?_
   refine' tk9 5 rfl ?_
   refine' tv9 6 rfl (by intro _ hSw; (try dsimp only at hSw); refine ex_ld isR (stays H1.out hSw) ?_; rfl) ?_
   refine' tv9 8 rfl (by intro _ hSw; (try dsimp only at hSw); refine ex_ld isR (stays H2.out hSw) ?_; rfl) ?_
   refine ry [7] (.cons rfl (fun K hK => ?_) .nil)
   go_simp
   (with_reducible refine (CX.out _).mono ?_)
   rintro e wc ⟨rfl, hb⟩
   go_wp2_with fail
   refine hK.out _ _ (below_on hHeld hb) (fun hNext => ?_)
   clear hK K hHeld hb
   have hHeld := hNext; clear hNext
   (try simp only [Act.put, z1', z2', z3'])
   refine ry [9] (.cons rfl (fun K hK => ?_) .nil)
   go_simp
   (with_reducible refine (CY.out _).mono ?_)
   rintro e wc ⟨rfl, hb⟩
   go_wp2_with fail
   refine hK.out _ _ (below_on hHeld hb) (fun hNext => ?_)
   clear hK K hHeld hb
   have hHeld := hNext; clear hNext
   (try simp only [Act.put, z1', z2', z3'])
   refine' tk9 10 rfl ?_
   refine' tk9 11 rfl ?_
   refine' tk9 12 rfl ?_
   refine wpAnyH_done (by kernel_rfl) ?_ _
   have HY9 := Lib.hid hHeld
   clear hHeld
   go_wp2
   go_ret
   exact ⟨rfl, below_on HB.out HY9.out⟩
 · have t1 : ((x.k : Int) == (y.k : Int)) = false := Mem.beq_false (by omega)
   have e1 : same x y = false := by unfold same; rw [beq_eq_false_iff_ne.2 hk, Bool.false_and]
   rw [e1]
   clear hx hy e1 CX CY
   go_enter Tryz.func53, Tryz.ntmps53
   go_wp2_with (first
    | ((with_reducible refine bxm (m := x) ?hx ?_); (case hx => rfl); intro b1 w1 h F; have HB := Lib.hid F.below; have H1 := Lib.hid h; clear h F)
    | ((with_reducible refine bxm (m := y) ?hx ?_); (case hx => rfl); intro b2 wx h F; replace H1 := Lib.hid (F.stays H1.out); have H2 := Lib.hid h; replace HB := Lib.hid (F.on HB.out); clear h F))
   refine wp_region_held_drew (S := (fun w' => Below wx.heap.size wx w')) (by kernel_rfl) (Below.refl _ _).drew (fun hHeld => ?_)
   refine' tk9 0 rfl ?_
   refine' tv9 1 rfl (by intro _ hSw; (try dsimp only at hSw); have c1 := (lay (stays H1.out hSw)).1; go_simp <;> with_reducible rfl) ?_
   refine' tk9 2 rfl ?_
   refine' tv9 3 rfl (by intro _ hSw; (try dsimp only at hSw); have c2 := (lay (stays H2.out hSw)).1; go_simp <;> with_reducible rfl) ?_
   refine' tk9 4 rfl ?_
   refine' tk9 5 rfl ?_
   refine sk9 6 rfl ?_
   refine sk9 7 rfl ?_
   refine sk9 8 rfl ?_
   refine sk9 9 rfl ?_
   refine sk9 10 rfl ?_
   refine' tk9 11 rfl ?_
   refine' tk9 12 rfl ?_
   refine wpAnyH_done (by kernel_rfl) ?_ _
   have HY9 := Lib.hid hHeld
   clear hHeld
   go_wp2
   go_ret
   exact ⟨rfl, below_on HB.out HY9.out⟩
set_option maxHeartbeats 2000000 in
theorem ranswers (x y : Ms) (hx : x.In) (hy : y.In) (w : World) : Calls Tryz.prog 82 #[mv x, mv y] w fun e w' => e = .returned (.bool (answers x y)) ∧ Below w.heap.size w w' := by
 have cs := fun w => rsame x y hx hy w
 have cl := fun w => Pn.rlowers x.p y.p w
 clear hx hy
 cases hs : same x y with
 | false =>
  have e1 : answers x y = false := by unfold answers; rw [hs, Bool.false_and]
  rw [e1]
  rw [hs] at cs
  have CS := Lib.hid cs
  clear cs cl hs e1
  go_enter Tryz.func82, Tryz.ntmps82
  go_wp2_with (first
   | ((with_reducible refine bxm (m := x) ?hx ?_); (case hx => rfl); intro b1 w1 h F; have HB := Lib.hid F.below; have H1 := Lib.hid h; clear h F)
   | ((with_reducible refine bxm (m := y) ?hx ?_); (case hx => rfl); intro b2 wx h F; replace H1 := Lib.hid (F.stays H1.out); have H2 := Lib.hid h; replace HB := Lib.hid (F.on HB.out); clear h F)
   | ((with_reducible refine ldm isR H1.out ?hx ?_); (case hx => rfl))
   | ((with_reducible refine ldm isR H2.out ?hx ?_); (case hx => rfl))
   | (go_at_call 53; ((with_reducible refine (CS.out _).mono ?_); rintro e w3 ⟨rfl, hb⟩; replace HB := Lib.hid (below_on HB.out hb); clear hb)))
  go_ret
  exact ⟨rfl, HB.out⟩
 | true =>
  rw [hs] at cs
  have CS := Lib.hid cs
  by_cases hk : x.k = 1
  · have t1 : ((x.k : Int) == 1) = true := by rw [hk]; rfl
    have t2 : ((x.k : Int) != 1) = false := by rw [hk]; rfl
    have e1 : answers x y = Pn.lowers x.p y.p := by unfold answers; rw [hs, Bool.true_and, if_pos hk]
    rw [e1]
    generalize Pn.lowers x.p y.p = v at cl ⊢
    have CL := Lib.hid cl
    clear cs cl hs e1 hk
    go_enter Tryz.func82, Tryz.ntmps82
    go_wp2_with (first
     | ((with_reducible refine bxm (m := x) ?hx ?_); (case hx => rfl); intro b1 w1 h F; have HB := Lib.hid F.below; have H1 := Lib.hid h; clear h F)
     | ((with_reducible refine bxm (m := y) ?hx ?_); (case hx => rfl); intro b2 wx h F; replace H1 := Lib.hid (F.stays H1.out); have H2 := Lib.hid h; replace HB := Lib.hid (F.on HB.out); clear h F)
     | ((with_reducible refine ldm isR H1.out ?hx ?_); (case hx => rfl))
     | ((with_reducible refine ldm isR H2.out ?hx ?_); (case hx => rfl))
     | (go_at_call 53; ((with_reducible refine (CS.out _).mono ?_); rintro e w3 ⟨rfl, hb⟩; replace H1 := Lib.hid (stays H1.out hb); replace H2 := Lib.hid (stays H2.out hb); replace HB := Lib.hid (below_on HB.out hb); obtain ⟨c0, c1, c2, c3, c4, c5⟩ := lay H1.out; obtain ⟨d0, d1, d2, d3, d4, d5⟩ := lay H2.out; clear hb))
     | (go_at_call 103; ((with_reducible refine (CL.out _).mono ?_); rintro e w4 ⟨rfl, hb⟩; replace HB := Lib.hid (below_on HB.out hb); clear hb))
     | ((with_reducible refine ldpg isPr H1.out ?hg ?hx ?_); (case hg => rfl); (case hx => rfl))
     | ((with_reducible refine ldpg isPr H2.out ?hg ?hx ?_); (case hg => rfl); (case hx => rfl)))
    go_ret
    exact ⟨rfl, HB.out⟩
  · have t1 : ((x.k : Int) == 1) = false := Mem.beq_false (by omega)
    have t2 : ((x.k : Int) != 1) = true := bne_true (by omega)
    have e1 : answers x y = (Msc.eqS x.s y.s && (x.b.toList == y.b.toList)) := by unfold answers; rw [hs, Bool.true_and, if_neg hk]
    have q1 := fun w => Msc.run_rqS x.s y.s w
    rw [e1]
    clear cs cl hs e1 hk
    cases hq : Msc.eqS x.s y.s with
    | false =>
     rw [hq] at q1
     clear hq
     go_enter Tryz.func82, Tryz.ntmps82
     go_wp2_with (first
      | ((with_reducible refine bxm (m := x) ?hx ?_); (case hx => rfl); intro b1 w1 h F; have HB := Lib.hid F.below; have H1 := Lib.hid h; clear h F)
      | ((with_reducible refine bxm (m := y) ?hx ?_); (case hx => rfl); intro b2 wx h F; replace H1 := Lib.hid (F.stays H1.out); have H2 := Lib.hid h; replace HB := Lib.hid (F.on HB.out); clear h F)
      | ((with_reducible refine ldm isR H1.out ?hx ?_); (case hx => rfl))
      | ((with_reducible refine ldm isR H2.out ?hx ?_); (case hx => rfl))
      | (go_at_call 53; ((with_reducible refine (CS.out _).mono ?_); rintro e w3 ⟨rfl, hb⟩; replace H1 := Lib.hid (stays H1.out hb); replace H2 := Lib.hid (stays H2.out hb); replace HB := Lib.hid (below_on HB.out hb); obtain ⟨c0, c1, c2, c3, c4, c5⟩ := lay H1.out; obtain ⟨d0, d1, d2, d3, d4, d5⟩ := lay H2.out; clear hb))
      | ((with_reducible refine ldsg isSr H1.out ?hg ?hx ?_); (case hg => rfl); (case hx => rfl))
      | ((with_reducible refine ldsg isSr H2.out ?hg ?hx ?_); (case hg => rfl); (case hx => rfl)))
     go_ret
     exact ⟨rfl, HB.out⟩
    | true =>
     rw [hq] at q1
     clear hq
     generalize hz : (x.b.toList == y.b.toList) = z
     go_enter Tryz.func82, Tryz.ntmps82
     go_wp2_with (first
      | ((with_reducible refine bxm (m := x) ?hx ?_); (case hx => rfl); intro b1 w1 h F; have HB := Lib.hid F.below; have H1 := Lib.hid h; clear h F)
      | ((with_reducible refine bxm (m := y) ?hx ?_); (case hx => rfl); intro b2 wx h F; replace H1 := Lib.hid (F.stays H1.out); have H2 := Lib.hid h; replace HB := Lib.hid (F.on HB.out); clear h F)
      | ((with_reducible refine ldm isR H1.out ?hx ?_); (case hx => rfl))
      | ((with_reducible refine ldm isR H2.out ?hx ?_); (case hx => rfl))
      | (go_at_call 53; ((with_reducible refine (CS.out _).mono ?_); rintro e w3 ⟨rfl, hb⟩; replace H1 := Lib.hid (stays H1.out hb); replace H2 := Lib.hid (stays H2.out hb); replace HB := Lib.hid (below_on HB.out hb); obtain ⟨c0, c1, c2, c3, c4, c5⟩ := lay H1.out; obtain ⟨d0, d1, d2, d3, d4, d5⟩ := lay H2.out; clear hb))
      | ((with_reducible refine ldsg isSr H1.out ?hg ?hx ?_); (case hg => rfl); (case hx => rfl))
      | ((with_reducible refine ldsg isSr H2.out ?hg ?hx ?_); (case hg => rfl); (case hx => rfl)))
     all_goals (go_ret; exact ⟨by first | rfl | simp_all, HB.out⟩)
end Go.Proofs.YtakkhdammmcjcaaGreatDoor.Ctl
namespace Go.Proofs.YtakkhdammmcjcaaGreatDoor.Ctl
open Go.RowKit Base Mem Msgs Cr
set_option maxRecDepth 20000
abbrev DT : TypeId := 52
abbrev WT : TypeId := 91
abbrev FT : TypeId := 116
abbrev RT : TypeId := 79
theorem isW : IsRow WT 23 := ⟨⟨_, Tryz.underlying91⟩, by kernel_rfl⟩
theorem isF : IsRow FT 21 := ⟨⟨_, Tryz.underlying116⟩, by kernel_rfl⟩
theorem eltW : Elt WT 50 23 wl where
 under := Tryz.underlying50
 info := ⟨.agg (wc noW), 104, by kernel_rfl, rfl, by decide⟩
 len := wl_len
 one := wl_one
 pos := by decide
theorem eltF : Elt FT 83 21 fl where
 under := Tryz.underlying83
 info := ⟨.agg (fc noF), 88, by kernel_rfl, rfl, by decide⟩
 len := fl_len
 one := fl_one
 pos := by decide
theorem infoW : (Tryz.prog.info? WT).map (fun i => (i.zero, i.size)) = some (some (.agg (wc noW)), 23) := by kernel_rfl
theorem infoF : (Tryz.prog.info? FT).map (fun i => (i.zero, i.size)) = some (some (.agg (fc noF)), 21) := by kernel_rfl
/-- A slice literal of structs of any number of cells. -/
theorem bslz {z len : Nat} {S e : Nat} {zc : Array Value} {parts : Array (Nat × Operand)} {ops : Array Oper} {rest : List Oper} {a : Act} {Q : Exit → Act → World → Prop} {d : Option Tmp} {ty : TypeId} {pos : String} {af : Array Edge} {w : World} (cells : Array Value) (hu : Tryz.prog.underlying S = some (.slice e)) (he : (Tryz.prog.info? e).map (fun i => (i.zero, i.size)) = some (some (.agg zc), z)) (hl : 0 < len ∧ len ≤ 100) (hz : 0 < z ∧ z ≤ 100)
 (hf : Instr.fill (fun i => some (i * z, z)) ((Array.range (len * z)).map (zc[· % zc.size]!)) (parts.map fun (i, x) => (i, a.eval x)).toList = some cells)
 (k : ∀ (b : Nat) (w' : World), w'.heap[b]? = some (.cells cells e (0, 0)) → Fresh b w w' → wpList Tryz.prog ops Q rest (a.put d (.slice (some ⟨b, 0, none⟩) len len)) w') :
 wpList Tryz.prog ops Q ({ dst := d, op := .buildSlice S len parts, type := ty, pos := pos, after := af, guard := none } :: rest) a w := by
 cases hq : Tryz.prog.info? e with
 | none => simp [hq] at he
 | some i =>
  simp only [hq, Option.map_some, Option.some.injEq, Prod.mk.injEq] at he
  have hm : len * z ≤ 100 * 100 := Nat.mul_le_mul hl.2 hz.2
  have hp : 0 < len * z := Nat.mul_pos hl.1 hz.1
  refine wpList_buildSlice rfl S e len parts rfl cells i (.agg zc) hu hq he.1 (by rw [he.2]; omega) (by rw [he.2]; omega) (by rw [he.2]; exact hf) ?_
  exact k w.heap.size (w.alloc (.cells cells e (0, 0))) (nest w [_] 0 _ rfl) (fresh_alloc w _)
theorem row_ofz {w : World} {b : Nat} {vs : List Value} {t : TypeId} (h : w.heap[b]? = some (.cells vs.toArray t (0, 0))) : ∀ j, j < vs.length → w.cell? ⟨b, j, none⟩ = vs[j]? := fun j hj => by
 rw [cell_of h (v := vs[j]) (by simp [hj]), List.getElem?_eq_getElem hj]
/-- The commands without the one at a place, of the first k. -/
def wo (l : List Wt) (i k : Nat) : List Wt := l.take (min k i) ++ (l.take k).drop (i + 1)
theorem wo_next (l : List Wt) (i k : Nat) (x : Wt) (hx : l[k]? = some x) : wo l i (k + 1) = if k = i then wo l i k else wo l i k ++ [x] := by
 have hk : k < l.length := (List.getElem?_eq_some_iff.1 hx).1
 have ht : l.take (k + 1) = l.take k ++ [x] := by rw [List.take_add_one, hx]; rfl
 unfold wo
 rcases Nat.lt_trichotomy k i with h | h | h
 · rw [if_neg (by omega), Nat.min_eq_left (by omega), Nat.min_eq_left (by omega), ht, List.drop_of_length_le (by simp; omega), List.drop_of_length_le (by simp; omega), List.append_nil, List.append_nil]
 · subst h
   rw [if_pos rfl, Nat.min_eq_right (by omega), Nat.min_self, List.drop_of_length_le (by simp; omega), List.drop_of_length_le (by simp; omega)]
 · rw [if_neg (by omega), Nat.min_eq_right (by omega), Nat.min_eq_right (by omega), ht, List.drop_append_of_le_length (by simp; omega), List.append_assoc]
theorem wo_end (l : List Wt) (i : Nat) (hi : i < l.length) : wo l i l.length = l.take i ++ l.drop (i + 1) := by
 unfold wo; rw [Nat.min_eq_right (by omega), List.take_length]
/-- Its cells. -/
def dcl (x : Ct) (va vc : Value) : Array Value := #[.int .u8 x.own.d, .int .u8 x.own.f, .int .u8 x.own.c, .int .u8 x.own.r, .int .i64 x.own.t, .int .i64 x.own.n, .int .i64 x.own.z, .int .i64 x.own.k, nm x.t2, nm x.n2, va, vc]
/-- It lies there: its struct, its row of answers, its row of commands. -/
structure D (w : World) (c base : Nat) (va vc : Value) (x : Ct) : Prop where
 hd : At w c (dcl x va vc) DT
 an : Qz 20 ml w base va x.an
 cs : OwnS WT 23 wl w base vc x.cs
 ne : ∀ k, va.ownBlock = some k → k ≠ c ∧ vc.ownBlock ≠ some k
 lo : base ≤ c
/-- Its blocks. -/
def DS (c : Nat) (va vc : Value) : Nat → Prop := fun k => k = c ∨ va.ownBlock = some k ∨ vc.ownBlock = some k
theorem ne_type {w : World} {a b : Nat} {cs cs' : Array Value} {t t' : TypeId} (h : w.heap[a]? = some (.cells cs t)) (h' : w.heap[b]? = some (.cells cs' t')) (ht : t ≠ t') : a ≠ b := fun e => by
 subst e
 rw [h, Option.some.injEq] at h'
 injection h' with _ e
 exact ht e
section
variable {α : Type} {E z : Nat} {fc : α → List Value} {w w' : World} {base : Nat} {v : Value} {l : List α}
theorem own_blk (h : OwnS E z fc w base v l) {b : Nat} (hb : v.ownBlock = some b) : ∃ cs, w.heap[b]? = some (.cells cs E) := by
 rcases h.2 with ⟨h2, _⟩ | ⟨g, cap, cur, h2, h3, h4, _⟩
 · rw [h2] at hb; cases hb
 · rw [h2] at hb
   cases hb
   exact ⟨cur, h4⟩
theorem own_keep (h : OwnS E z fc w base v l) (hk : ∀ b, v.ownBlock = some b → w'.heap[b]? = w.heap[b]?) : OwnS E z fc w' base v l := by
 obtain ⟨h1, h2⟩ := h
 refine ⟨h1, ?_⟩
 rcases h2 with h2 | ⟨g, cap, cur, h2, h3, h4, h5⟩
 · exact Or.inl h2
 · exact Or.inr ⟨g, cap, cur, h2, h3, by rw [hk g (by rw [h2]; rfl)]; exact h4, h5⟩
theorem own_form (h : OwnS E z fc w base v l) : ∃ oa cap, v = .slice oa l.length cap ∧ ∀ i, i < l.length → ∃ g, oa = some ⟨g, 0, none⟩ := by
 rcases h.shape with ⟨h1, h2⟩ | ⟨g, cap, h1, _⟩
 · subst h2
   exact ⟨none, 0, h1, fun i hi => by simp at hi⟩
 · exact ⟨some ⟨g, 0, none⟩, cap, h1, fun _ _ => ⟨g, rfl⟩⟩
end
section
variable {w w' : World} {c base : Nat} {va vc : Value} {x : Ct}
theorem D.below (h : D w c base va vc x) (hb : Below w.heap.size w w') : D w' c base va vc x := ⟨h.hd.below hb, h.an.below hb, h.cs.below hb, h.ne, h.lo⟩
theorem D.cells (h : D w c base va vc x) : w.cell? ⟨c, 8, none⟩ = some (nm x.t2) ∧ w.cell? ⟨c, 9, none⟩ = some (nm x.n2) ∧ w.cell? ⟨c, 10, none⟩ = some va ∧ w.cell? ⟨c, 11, none⟩ = some vc :=
 ⟨h.hd.cell 8 _ rfl, h.hd.cell 9 _ rfl, h.hd.cell 10 _ rfl, h.hd.cell 11 _ rfl⟩
theorem D.own_lt (h : D w c base va vc x) : ∀ k, DS c va vc k → base ≤ k ∧ k < w.heap.size := fun k hk => by
 rcases hk with rfl | hk | hk
 · exact ⟨h.lo, h.hd.lt⟩
 · exact h.an.lt k hk
 · exact h.cs.lt k hk
/-- What an element of the commands' row reads. -/
theorem elt_at {g n cap : Nat} {l : List Wt} (h : OwnS WT 23 wl w base (.slice (some ⟨g, 0, none⟩) n cap) l) {i : Nat} {y : Wt} (hy : l[i]? = some y) :
 w.cell? ⟨g, i * 23 + 20, none⟩ = some (nm y.tr) ∧ w.cell? ⟨g, i * 23 + 21, none⟩ = some (nm y.lf) ∧ w.cell? ⟨g, i * 23 + 22, none⟩ = some (.bool y.sd) := by
 have h0 := OwnS.cell wl_len h i y hy 20 (by decide)
 have h1 := OwnS.cell wl_len h i y hy 21 (by decide)
 have h2 := OwnS.cell wl_len h i y hy 22 (by decide)
 rw [Nat.mul_comm] at h0 h1 h2
 exact ⟨h0, h1, h2⟩
set_option maxHeartbeats 2000000 in
theorem rwithout {l : List Wt} (h : OwnS WT 23 wl w base vc l) (i : Nat) (hn : l.length ≤ 1000) : Calls Tryz.prog 54 #[vc, nm i] w fun e w' => ∃ v, e = .returned v ∧ OwnS WT 23 wl w' w.heap.size v (wo l i l.length) ∧ Below w.heap.size w w' := by
 obtain ⟨oa, cap, rfl, ga⟩ := own_form h
 obtain ⟨n, hln⟩ : ∃ n, l.length = n := ⟨_, rfl⟩
 rw [hln] at h ga hn ⊢
 have HO := Lib.hid h
 have GA := Lib.hid ga
 have HL := Lib.hid hln
 clear h ga hln
 have H0 : Hid (OwnS WT 23 wl w w.heap.size (.slice none 0 0) (wo l i 0) ∧ Below w.heap.size w w) := Lib.hid ⟨by unfold wo; simp only [Nat.zero_min, List.take_zero, List.drop_nil, List.append_nil]; exact ownS_nil _ _, Below.refl _ _⟩
 go_enter Tryz.func54, Tryz.ntmps54
 go_wp2_with fail
 go_loopg [5, 6] n (fun gm s5 s6 wr => ∃ k : Nat, s6 = nm k ∧ n - k ≤ gm ∧ k ≤ n ∧ Hid (OwnS WT 23 wl wr w.heap.size s5 (wo l i k) ∧ Below w.heap.size w wr))
 case atStart => exact ⟨0, rfl, by omega, by omega, H0⟩
 case round =>
  clear H0
  obtain ⟨k, rfl, hgm, hkn, HG⟩ := hrel
  by_cases hlt : k < n
  · have t1 : decide ((k : Int) < (n : Int)) = true := decide_eq_true (by omega)
    have t2 : (k : Int) < (n : Int) := by omega
    have j0 : (0 : Int) ≤ (k : Int) := by omega
    have vk : IntKind.i64.wrap ((k + 1 : Nat) : Int) = ((k + 1 : Nat) : Int) := by rw [IntKind.wrap_i64]; omega
    obtain ⟨g, rfl⟩ := GA.out k hlt
    obtain ⟨y, hy⟩ : ∃ y, l[k]? = some y := ⟨_, List.getElem?_eq_getElem (by rw [HL.out]; exact hlt)⟩
    have HN := Lib.hid (wo_next l i k y hy)
    have HR := Lib.hid (own_rangez wl_len (HO.out.below HG.out.2) k y hy)
    by_cases hki : k = i
    · have u0 : ((k : Int) != (i : Int)) = false := bne_false (by omega)
      have HG2 : Hid (OwnS WT 23 wl wr w.heap.size _ (wo l i (k + 1)) ∧ Below w.heap.size w wr) := Lib.hid ⟨by rw [HN.out, if_pos hki]; exact HG.out.1, HG.out.2⟩
      clear HN HR hki
      go_wp2
      go_roundg (n - (k + 1))
      case measure => omega
      case rel => exact ⟨k + 1, by first | rfl | go_num, Nat.le_refl _, by omega, HG2⟩
    · have u0 : ((k : Int) != (i : Int)) = true := bne_true (by omega)
      have HL2 : Hid ((wo l i k).length + 1 ≤ 1000000) := Lib.hid (by unfold wo; simp; omega)
      have HK := Lib.hid hki
      clear hki hy
      go_wp2_with (first
       | ((with_reducible refine ldz isW HR.out ?hz ?hx ?_); (case hz => rfl); (case hx => rfl))
       | ((with_reducible refine bslz (z := 23) (wc y) Tryz.underlying50 infoW ?hl ?hz ?hf ?_); (case hl => exact ⟨by decide, by decide⟩); (case hz => exact ⟨by decide, by decide⟩); (case hf => kernel_rfl); intro b3 w3 h3 F3; have HO2 := Lib.hid (HG.out.1.below F3.below); have HB2 := Lib.hid (F3.on HG.out.2); have HM := Lib.hid h3; clear h3 F3)
       | (at_builtin; refine wpList_append_elt eltW _ rfl _ _ rfl w.heap.size _ rfl _ HO2.out b3 _ rfl y (row_ofz HM.out) HL2.out HB2.out.size ?_; intro v' w5 ho hg _; have HO3 := Lib.hid ho; have HB3 := Lib.hid (HB2.out.grown hg HB2.out.size (fun k hk => (HO2.out.lt k hk).1)); clear ho hg))
      have HG2 : Hid (OwnS WT 23 wl w5 w.heap.size v' (wo l i (k + 1)) ∧ Below w.heap.size w w5) := Lib.hid ⟨by rw [HN.out, if_neg HK.out]; exact HO3.out, HB3.out⟩
      go_roundg (n - (k + 1))
      case measure => omega
      case rel => exact ⟨k + 1, by first | rfl | go_num, Nat.le_refl _, by omega, HG2⟩
  · obtain rfl : k = n := by omega
    have t1 : decide ((k : Int) < (k : Int)) = false := decide_eq_false (by omega)
    have t2 : ¬ (k : Int) < (k : Int) := by omega
    go_wp2
    go_ret
    exact ⟨_, rfl, HG.out⟩
end
end Go.Proofs.YtakkhdammmcjcaaGreatDoor.Ctl
