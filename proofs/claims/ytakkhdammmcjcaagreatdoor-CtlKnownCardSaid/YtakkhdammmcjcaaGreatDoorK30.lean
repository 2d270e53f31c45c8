/-
  Layer 22, put together: CtlAsk, CtlBo. Conditions: as each theorem names them.
-/
import Derived.Test.YtakkhdammmcjcaaGreatDoorK22
import Derived.Test.YtakkhdammmcjcaaGreatDoorK18
import Derived.Test.YtakkhdammmcjcaaGreatDoorK01
import Derived.Test.YtakkhdammmcjcaaGreatDoorK29
import Derived.Test.YtakkhdammmcjcaaGreatDoorK28
import Derived.Test.YtakkhdammmcjcaaGreatDoorK20
import Derived.Test.YtakkhdammmcjcaaGreatDoorK17
namespace Go.Proofs.YtakkhdammmcjcaaGreatDoor.Ctl
open Go.RowKit Base Mem Msgs Cr
set_option maxRecDepth 100000
/-- What is left of the commands once those from k on were looked at. -/
def lk (l : List Wt) (m : Ms) (k : Nat) : List Wt := l.take k ++ (l.drop k).filter fun w => !same w.m m
theorem lk_get {l : List Wt} {m : Ms} {k : Nat} {y : Wt} (hy : l[k]? = some y) : (lk l m (k + 1))[k]? = some y := by
 have hk : k < l.length := (List.getElem?_eq_some_iff.1 hy).1
 unfold lk
 rw [List.getElem?_append_left (by simp; omega), List.getElem?_take_of_lt (by omega)]; exact hy
theorem lk_drop {l : List Wt} {k : Nat} {y : Wt} (hy : l[k]? = some y) : l.drop k = y :: l.drop (k + 1) := by
 obtain ⟨hk, e⟩ := List.getElem?_eq_some_iff.1 hy
 rw [List.drop_eq_getElem_cons hk, e]
theorem lk_yes {l : List Wt} {m : Ms} {k : Nat} {y : Wt} (hy : l[k]? = some y) (hs : same y.m m = true) : wo (lk l m (k + 1)) k (lk l m (k + 1)).length = lk l m k := by
 have hk : k < l.length := (List.getElem?_eq_some_iff.1 hy).1
 have hlen : k < (lk l m (k + 1)).length := (List.getElem?_eq_some_iff.1 (lk_get hy)).1
 rw [wo_end _ _ hlen]
 unfold lk
 rw [lk_drop hy, List.filter_cons_of_neg (by rw [hs]; decide), List.take_append_of_le_length (by simp; omega), List.take_take, Nat.min_eq_left (by omega), List.drop_append_of_le_length (by simp; omega), List.drop_of_length_le (by simp; omega), List.nil_append]
theorem lk_no {l : List Wt} {m : Ms} {k : Nat} {y : Wt} (hy : l[k]? = some y) (hs : same y.m m = false) : lk l m (k + 1) = lk l m k := by
 unfold lk
 rw [lk_drop hy, List.filter_cons_of_pos (by rw [hs]; rfl), List.take_add_one, hy]
 simp
theorem lk_end (l : List Wt) (m : Ms) : lk l m 0 = l.filter fun w => !same w.m m := by unfold lk; simp
theorem lk_start (l : List Wt) (m : Ms) : lk l m l.length = l := by unfold lk; simp
theorem lk_len (l : List Wt) (m : Ms) (k : Nat) : (lk l m k).length ≤ l.length := by
 unfold lk
 rw [List.length_append, List.length_take]
 have := List.length_filter_le (fun w => !same w.m m) (l.drop k)
 rw [List.length_drop] at this
 omega
theorem range_w {w : World} {g o : Nat} {y : Wt} (_ : ∀ x, (wl x).length = 23) (h : w.rangeAt g o (wl y)) : w.rangeAt g o (ml y.m) := fun j v hv => h j v (by
 unfold wl
 rw [List.getElem?_append_left (List.getElem?_eq_some_iff.1 hv).1]; exact hv)
section
variable {w u u' : World} {c base b3 : Nat} {va vc vc' : Value} {x : Ct} {m : Ms} {l : List Wt}
/-- Within Ask: what is left of its commands; the message in its box. -/
structure Ra (w : World) (c base b3 : Nat) (va vc : Value) (x : Ct) (m : Ms) (l : List Wt) (vc' : Value) (u : World) : Prop where
 d : D u c base va vc' { x with cs := l }
 h3 : u.heap[b3]? = some (mO m RT)
 sub : ∀ k, DS c va vc' k → DS c va vc k ∨ w.heap.size ≤ k
 chg : Chg (DS c va vc) w u
 n3 : ¬ DS c va vc' b3
theorem Ra.on (h : Ra w c base b3 va vc x m l vc' u) (hb : Below u.heap.size u u') : Ra w c base b3 va vc x m l vc' u' := ⟨h.d.below hb, stays h.h3 hb, h.sub, h.chg.on hb, h.n3⟩
theorem Ra.gone {ov : Option Addr} {nv cv : Nat} {l' : List Wt} (h : Ra w c base b3 va vc x m l vc' u) (ho : OwnS WT 23 wl u' u.heap.size (.slice ov nv cv) l') (hb : Below u.heap.size u u') : Ra w c base b3 va vc x m l' (.slice ov nv cv) (u'.setCell ⟨c, 11, none⟩ (.slice ov nv cv)) := by
 have hu : base ≤ u.heap.size := Nat.le_trans h.d.lo (Nat.le_of_lt h.d.hd.lt)
 have h2 := h.on hb
 refine ⟨h2.d.set_cs (own_weak ho hu) fun k hk e => ?_, (set_other (fun e => ne_type h2.h3 h2.d.hd (by decide) e) _).trans h2.h3, fun k hk => ?_, h2.chg.setCell c 11 _ fun _ => .inl rfl, fun hk => ?_⟩
 · have h3 := (h.d.own_lt k (.inr (.inl hk))).2
   have h4 := (ho.lt k e).1
   omega
 · rcases hk with hk | hk | hk
   · exact .inl (.inl hk)
   · exact .inl (.inr (.inl hk))
   · have h4 := (ho.lt k hk).1
     have := h.chg.size
     exact .inr (by omega)
 · rcases hk with hk | hk | hk
   · exact h.n3 (.inl hk)
   · exact h.n3 (.inr (.inl hk))
   · have h4 := (ho.lt _ hk).1
     have := lt_heap h.h3
     omega
/-- What an append to the commands leaves, once it is stored. -/
structure Aed (w : World) (c base b3 : Nat) (va vc : Value) (x : Ct) (m : Ms) (l : List Wt) (vc' v2 : Value) (u : World) : Prop where
 nx : Nx w c base va vc { x with cs := l } (u.setCell ⟨c, 11, none⟩ v2)
 c11 : u.cell? ⟨c, 11, none⟩ = some vc'
 f8 : ∀ i, u.frozen? ⟨c, i, none⟩ = false
 l8 : c < u.heap.size
 h3 : u.heap[b3]? = some (mO m RT)
 h3' : (u.setCell ⟨c, 11, none⟩ v2).heap[b3]? = some (mO m RT)
theorem Ra.put {v2 : Value} {l' : List Wt} (h : Ra w c base b3 va vc x m l vc' u) (ho : OwnS WT 23 wl u' base v2 l') (hg : u.grownBy u' vc'.ownBlock) (hv : v2.ownBlock = vc'.ownBlock ∨ v2.ownBlock = some u.heap.size) : Aed w c base b3 va vc x m l' vc' v2 u' := by
 have hcg := Chg.of_grown (S := fun k => vc'.ownBlock = some k) hg fun _ e => e
 obtain ⟨cs0, hb0⟩ : ∃ cs : Array Value, True := ⟨#[], trivial⟩
 have hcne : ∀ k, vc'.ownBlock = some k → k ≠ c := fun k hk e => by
  obtain ⟨cs, hc⟩ := own_blk h.d.cs hk
  exact ne_type h.d.hd hc (by decide) e.symm
 have hd : At u' c (dcl { x with cs := l } va vc') DT := h.d.hd.other hcg fun e => hcne c e rfl
 have h3 : u'.heap[b3]? = some (mO m RT) := (hcg.block b3 (lt_heap h.h3) fun e => h.n3 (.inr (.inr e))).trans h.h3
 have h3' : (u'.setCell ⟨c, 11, none⟩ v2).heap[b3]? = some (mO m RT) := (set_other (fun e => ne_type h3 hd (by decide) e) _).trans h3
 have hd2 : ∀ k, DS c va v2 k → DS c va vc' k ∨ u.heap.size ≤ k := fun k hk => by
  rcases hk with hk | hk | hk
  · exact .inl (.inl hk)
  · exact .inl (.inr (.inl hk))
  · rcases hv with e | e
    · exact .inl (.inr (.inr (e ▸ hk)))
    · rw [e] at hk; cases hk; exact .inr (Nat.le_refl _)
 refine ⟨⟨⟨va, v2, ⟨hd.set 11 v2, ?_, own_keep ho fun g hg => set_other (fun e => ?_) _, fun k hk => ⟨(h.d.ne k hk).1, fun e => ?_⟩, h.d.lo⟩, fun k hk => ?_⟩, ?_⟩, hd.cell 11 _ rfl, hd.free, hd.lt, h3, h3'⟩
 · refine (h.d.an.eqv fun g hg => hcg.block g (h.d.an.lt g hg).2 fun e => (h.d.ne g hg).2 e).eqv fun g hg => set_other (h.d.ne g hg).1 _
 · obtain ⟨cs, hc⟩ := own_blk ho hg
   exact ne_type hd hc (by decide) e.symm
 · rcases hv with e' | e'
   · exact (h.d.ne k hk).2 (e' ▸ e)
   · rw [e'] at e; cases e
     have := (h.d.own_lt _ (.inr (.inl hk))).2
     omega
 · rcases hd2 k hk with h4 | h4
   · exact h.sub k h4
   · exact .inr (Nat.le_trans h.chg.size h4)
 · refine (h.chg.trans hcg fun k hk e => ?_).setCell c 11 v2 fun _ => .inl rfl
   rcases h.sub k (.inr (.inr e)) with h4 | h4
   · exact h4
   · omega
theorem builtW (m : Ms) : Tryz.prog.built WT [(0, mv m)] = some (wc (fresh m)) := by kernel_rfl
theorem ex_bdz {ops : Nat} {d : Option Tmp} {ty : TypeId} {pos : String} {af : Array Edge} {T : Nat} {g : Option (Nat × Bool)} {parts : Array (Nat × Operand)} {ρ : Operand → Value} {w : World} (cs : Array Value) (_ : ops = ops) (hb : Tryz.prog.built T (parts.map fun (i, x) => (i, ρ x)).toList = some cs) :
 (execOp ρ { dst := d, op := .build T parts, type := ty, pos := pos, after := af, guard := g }).run Tryz.prog w = .ok (.value (.agg cs)) w := by
 unfold execOp
 simp only [Sem.run_bind, run_build w T _ cs hb, Sem.run_pure, Result.andThen_ok]
set_option maxHeartbeats 16000000 in
theorem rask (h : D w c base va vc x) (hx : x.Ok) (m : Ms) (hm : m.In) : Calls Tryz.prog 27 #[ptr c, mv m] w fun e w' => e = .returned (nm (askE m)) ∧ Nx w c base va vc (x.ask m) w' := by
 have cm := fun w => rmay m hm w
 have HD := Lib.hid h
 have hask : mayAsk m = (may m && m.c && decide (m.k ≤ 6) && decide (m.b.size ≤ 127)) := rfl
 have HMI := Lib.hid hm
 have hmany := hx.cs_few
 have HX0 := Lib.hid hx
 have HNO : Hid (mayAsk m = false → askE m = 2 ∧ x.ask m = x) := Lib.hid fun e => ⟨by unfold askE; rw [e]; rfl, by unfold Ct.ask; rw [e]; rfl⟩
 have HYES : Hid (mayAsk m = true → askE m = 0 ∧ x.ask m = { x with cs := put x.cs m }) := Lib.hid fun e => ⟨by unfold askE; rw [e]; rfl, by unfold Ct.ask; rw [e]; rfl⟩
 clear h hx hm
 cases h1 : may m with
 | false =>
  obtain ⟨e1, e2⟩ := HNO.out (by rw [hask, h1]; rfl)
  rw [e1, e2]
  rw [h1] at cm
  have CM := Lib.hid cm
  clear cm hask h1 e1 e2
  go_enter Tryz.func27, Tryz.ntmps27
  go_wp2_with (first
   | ((with_reducible refine bxm (m := m) ?hx ?_); (case hx => rfl); intro b3 w1 h F0; have HD1 := Lib.hid (HD.out.below F0.below); have H3 := Lib.hid h; have B1 := Lib.hid F0.below; have L3 := Lib.hid (F0.le (Below.refl _ _)); have N3 := Lib.hid (HD.out.not_new (k := b3) (by rw [F0.eq]; exact Nat.le_refl _)); clear h F0)
   | ((with_reducible refine ldm isR H3.out ?hx ?_); (case hx => rfl))
   | (go_at_call 52; ((with_reducible refine (CM.out _).mono ?_); rintro e w2 ⟨rfl, hb⟩; have HD2 := Lib.hid (HD1.out.below hb); have H32 := Lib.hid (stays H3.out hb); have B2 := Lib.hid (below_on B1.out hb); obtain ⟨d0, d1, d2, d3, d4, d5⟩ := lay H32.out; obtain ⟨c8, c9, c10, c11⟩ := HD2.out.cells; have hl := HD2.out.hd.lt; clear hb H3 HD1 B1)))
  go_ret
  exact ⟨rfl, Nx.below HD.out B2.out⟩
 | true =>
 rw [h1] at cm
 have CM := Lib.hid cm
 cases h2 : m.c with
 | false =>
  obtain ⟨e1, e2⟩ := HNO.out (by rw [hask, h1, h2]; rfl)
  rw [e1, e2]
  clear cm hask h1 e1 e2
  go_enter Tryz.func27, Tryz.ntmps27
  go_wp2_with (first
   | ((with_reducible refine bxm (m := m) ?hx ?_); (case hx => rfl); intro b3 w1 h F0; have HD1 := Lib.hid (HD.out.below F0.below); have H3 := Lib.hid h; have B1 := Lib.hid F0.below; have L3 := Lib.hid (F0.le (Below.refl _ _)); have N3 := Lib.hid (HD.out.not_new (k := b3) (by rw [F0.eq]; exact Nat.le_refl _)); clear h F0)
   | ((with_reducible refine ldm isR H3.out ?hx ?_); (case hx => rfl))
   | (go_at_call 52; ((with_reducible refine (CM.out _).mono ?_); rintro e w2 ⟨rfl, hb⟩; have HD2 := Lib.hid (HD1.out.below hb); have H32 := Lib.hid (stays H3.out hb); have B2 := Lib.hid (below_on B1.out hb); obtain ⟨d0, d1, d2, d3, d4, d5⟩ := lay H32.out; obtain ⟨c8, c9, c10, c11⟩ := HD2.out.cells; have hl := HD2.out.hd.lt; clear hb H3 HD1 B1)))
  go_ret
  exact ⟨rfl, Nx.below HD.out B2.out⟩
 | true =>
 by_cases h3 : 6 < m.k
 · obtain ⟨e1, e2⟩ := HNO.out (by rw [hask, h1, h2, decide_eq_false (by omega)]; rfl)
   rw [e1, e2]
   have u1 : decide ((6 : Int) < (m.k : Int)) = true := decide_eq_true (by omega)
   have u2 : (6 : Int) < (m.k : Int) := by omega
   clear cm hask h1 e1 e2
   go_enter Tryz.func27, Tryz.ntmps27
   go_wp2_with (first
    | ((with_reducible refine bxm (m := m) ?hx ?_); (case hx => rfl); intro b3 w1 h F0; have HD1 := Lib.hid (HD.out.below F0.below); have H3 := Lib.hid h; have B1 := Lib.hid F0.below; have L3 := Lib.hid (F0.le (Below.refl _ _)); have N3 := Lib.hid (HD.out.not_new (k := b3) (by rw [F0.eq]; exact Nat.le_refl _)); clear h F0)
    | ((with_reducible refine ldm isR H3.out ?hx ?_); (case hx => rfl))
    | (go_at_call 52; ((with_reducible refine (CM.out _).mono ?_); rintro e w2 ⟨rfl, hb⟩; have HD2 := Lib.hid (HD1.out.below hb); have H32 := Lib.hid (stays H3.out hb); have B2 := Lib.hid (below_on B1.out hb); obtain ⟨d0, d1, d2, d3, d4, d5⟩ := lay H32.out; obtain ⟨c8, c9, c10, c11⟩ := HD2.out.cells; have hl := HD2.out.hd.lt; clear hb H3 HD1 B1)))
   go_ret
   exact ⟨rfl, Nx.below HD.out B2.out⟩
 have u1 : decide ((6 : Int) < (m.k : Int)) = false := decide_eq_false (by omega)
 have u2 : ¬ (6 : Int) < (m.k : Int) := by omega
 by_cases h4 : 127 < m.b.size
 · obtain ⟨e1, e2⟩ := HNO.out (by rw [hask, h1, h2, decide_eq_true (show m.k ≤ 6 by omega), decide_eq_false (show ¬ m.b.size ≤ 127 by omega)]; rfl)
   rw [e1, e2]
   have u3 : decide ((127 : Int) < (m.b.size : Int)) = true := decide_eq_true (by omega)
   have u4 : (127 : Int) < (m.b.size : Int) := by omega
   clear cm hask h1 e1 e2
   go_enter Tryz.func27, Tryz.ntmps27
   go_wp2_with (first
    | ((with_reducible refine bxm (m := m) ?hx ?_); (case hx => rfl); intro b3 w1 h F0; have HD1 := Lib.hid (HD.out.below F0.below); have H3 := Lib.hid h; have B1 := Lib.hid F0.below; have L3 := Lib.hid (F0.le (Below.refl _ _)); have N3 := Lib.hid (HD.out.not_new (k := b3) (by rw [F0.eq]; exact Nat.le_refl _)); clear h F0)
    | ((with_reducible refine ldm isR H3.out ?hx ?_); (case hx => rfl))
    | (go_at_call 52; ((with_reducible refine (CM.out _).mono ?_); rintro e w2 ⟨rfl, hb⟩; have HD2 := Lib.hid (HD1.out.below hb); have H32 := Lib.hid (stays H3.out hb); have B2 := Lib.hid (below_on B1.out hb); obtain ⟨d0, d1, d2, d3, d4, d5⟩ := lay H32.out; obtain ⟨c8, c9, c10, c11⟩ := HD2.out.cells; have hl := HD2.out.hd.lt; clear hb H3 HD1 B1)))
   go_ret
   exact ⟨rfl, Nx.below HD.out B2.out⟩
 have u3 : decide ((127 : Int) < (m.b.size : Int)) = false := decide_eq_false (by omega)
 have u4 : ¬ (127 : Int) < (m.b.size : Int) := by omega
 obtain ⟨e1, e2⟩ := HYES.out (by rw [hask, h1, h2, decide_eq_true (show m.k ≤ 6 by omega), decide_eq_true (show m.b.size ≤ 127 by omega)]; rfl)
 have HP := Lib.hid e2
 rw [e1]
 clear cm hask h1 e1 e2 h3 h4
 obtain ⟨oa, cap, hvc, ga⟩ := own_form HD.out.cs
 obtain ⟨n, hln⟩ : ∃ n, x.cs.length = n := ⟨_, rfl⟩
 rw [hln] at hvc ga hmany
 have HL := Lib.hid hln
 subst hvc
 obtain ⟨ob, zb, capb, hva⟩ : ∃ ob zb capb, va = .slice ob zb capb := by
  obtain ⟨ob, capb, e⟩ := HD.out.an.form
  exact ⟨ob, _, capb, e⟩
 subst hva
 have vn : IntKind.i64.wrap ((n : Int) - 1) = (n : Int) - 1 := by rw [IntKind.wrap_i64]; omega
 clear hln ga
 go_enter Tryz.func27, Tryz.ntmps27
 go_wp2_with (first
  | ((with_reducible refine bxm (m := m) ?hx ?_); (case hx => rfl); intro b3 w1 h F0; have HD1 := Lib.hid (HD.out.below F0.below); have H3 := Lib.hid h; have B1 := Lib.hid F0.below; have L3 := Lib.hid (F0.le (Below.refl _ _)); have N3 := Lib.hid (HD.out.not_new (k := b3) (by rw [F0.eq]; exact Nat.le_refl _)); clear h F0)
  | ((with_reducible refine ldm isR H3.out ?hx ?_); (case hx => rfl))
  | (go_at_call 52; ((with_reducible refine (CM.out _).mono ?_); rintro e w2 ⟨rfl, hb⟩; have HD2 := Lib.hid (HD1.out.below hb); have H32 := Lib.hid (stays H3.out hb); have B2 := Lib.hid (below_on B1.out hb); obtain ⟨d0, d1, d2, d3, d4, d5⟩ := lay H32.out; obtain ⟨c8, c9, c10, c11⟩ := HD2.out.cells; have hl := HD2.out.hd.lt; clear hb H3 HD1 B1)))
 have HA0 : Hid (Ra w c base b3 (.slice ob zb capb) (.slice oa n cap) x m (lk x.cs m n) (.slice oa n cap) w2) := Lib.hid ⟨by rw [← HL.out, lk_start]; rw [HL.out]; exact HD2.out, H32.out, fun k hk => .inl hk, Chg.of_below B2.out, N3.out⟩
 clear H32 HD2 B2 d0 d1 d2 d3 d4 d5 c8 c9 c10 c11 hl CM u1 u2 u3 u4 h2 L3 N3
 go_loopg [5] n (fun gm s wr => ∃ (k : Nat) (z : Int), s = im z ∧ z + 1 = (k : Int) ∧ k ≤ gm ∧ k ≤ n ∧ Hid (∃ vk, Ra w c base b3 (.slice ob zb capb) (.slice oa n cap) x m (lk x.cs m k) vk wr))
 case atStart => exact ⟨n, (n : Int) - 1, by first | rfl | go_num, by omega, Nat.le_refl _, Nat.le_refl _, Lib.hid ⟨_, HA0.out⟩⟩
 case round =>
  clear HA0 vn
  obtain ⟨k1, z, rfl, hz, hgm, hkn, HAE⟩ := hrel
  obtain ⟨vk, hA⟩ := HAE.out
  clear HAE
  have hlen := lk_len x.cs m k1
  rw [HL.out] at hlen
  by_cases hk0 : k1 = 0
  · subst hk0
    obtain rfl : z = -1 := by omega
    obtain ⟨l0, hl0⟩ : ∃ l0, lk x.cs m 0 = l0 := ⟨_, rfl⟩
    rw [hl0] at hA hlen
    have HPP : Hid (put x.cs m = l0 ++ [fresh m]) := Lib.hid (by rw [← hl0, lk_end]; rfl)
    have HL9 : Hid (l0.length + 1 ≤ 1000000) := Lib.hid (by omega)
    obtain ⟨ok0, capk, rfl, _⟩ := own_form hA.d.cs
    generalize l0.length = nk at hA
    have HA := Lib.hid (hA.on (u' := wr.drew) ⟨rfl, rfl, rfl, Nat.le_refl _, fun _ _ => rfl⟩)
    clear hl0 hA hlen
    go_wp2_with fail
    refine wp_region_held_drew (S := (fun w' => w'.heap[b3]? = some (mO m RT))) (by kernel_rfl) HA.out.h3 (fun hHeld => ?_)
    refine' tk9 0 rfl ?_
    refine' tk9 1 rfl ?_
    refine' tk9 2 rfl ?_
    refine' tk9 3 rfl ?_
    refine' tv9 5 rfl (by intro _ hSw; (try dsimp only at hSw); refine ex_ld isR hSw ?_; rfl) ?_
    refine' tv9 6 rfl (by intro _ hSw; (try dsimp only at hSw); refine ex_bdz (ops := 0) (wc (fresh m)) rfl ?_; kernel_rfl) ?_
    refine ry [4, 7] ?_
    refine AllReadyH.cons rfl (fun K hK => ?_) (AllReadyH.cons rfl (fun K hK => ?_) AllReadyH.nil)
    · obtain ⟨c8, c9, c10, c11⟩ := HA.out.d.cells
      have hl := HA.out.d.hd.lt
      go_simp
      clear c8 c9 c10 c11 hl
      refine hK.out _ _ HA.out.h3 (fun hNext => ?_)
      clear hK K hHeld
      have hHeld := hNext; clear hNext
      (try simp only [Act.put, z1', z2', z3'])
      refine ry [7] (.cons rfl (fun K hK => ?_) .nil)
      refine step_bslz (z := 23) (wc (fresh m)) Tryz.underlying50 infoW ⟨by decide, by decide⟩ ⟨by decide, by decide⟩ (by kernel_rfl) ?_
      intro b7 w7 h7 F7
      have HA2 := Lib.hid (HA.out.on F7.below)
      have H7 := Lib.hid h7
      clear HA h7 F7
      have HA := HA2
      clear HA2
      refine hK.out _ _ HA.out.h3 (fun hNext => ?_)
      clear hK K hHeld
      have hHeld := hNext; clear hNext
      (try simp only [Act.put, z1', z2', z3'])
      refine ry [8] ?_
      refine AllReadyH.cons (o := ⟨some 62, .call ⟨.builtin .append, #[.tmp 58, .tmp 61], #[50, 50]⟩, 50, "ref.go:83", #[⟨4, .data⟩, ⟨7, .data⟩], none⟩) rfl (fun K hK => ?_) AllReadyH.nil
      replace H7 := Lib.hid H7.out
      obtain ⟨vc2, w8, hr8, ho8, hg8, hv8⟩ := run_append_elt eltW _ _ base _ _ HA.out.d.cs b7 1 (fresh m) (row_ofz H7.out) HL9.out (Nat.le_trans HA.out.d.lo (Nat.le_of_lt HA.out.d.hd.lt))
      obtain ⟨ov, cv, rfl, _⟩ := own_form ho8
      obtain ⟨nv, hnv⟩ : ∃ nv, (l0 ++ [fresh m]).length = nv := ⟨_, rfl⟩
      rw [hnv] at hr8 ho8 hv8
      clear hnv
      refine step_append_known rfl _ _ _ _ rfl rfl rfl hr8 ?_
      have HE := Lib.hid (HA.out.put ho8 hg8 hv8)
      have c11 := HE.out.c11
      have hf := HE.out.f8
      have hl := HE.out.l8
      refine hK.out _ _ HE.out.h3 (fun hNext => ?_)
      clear hK K hHeld
      have hHeld := hNext; clear hNext
      (try simp only [Act.put, z1', z2', z3'])
      refine' tk9 9 rfl ?_
      refine' tk9 10 rfl ?_
      refine ry [11] (.cons rfl (fun K hK => ?_) .nil)
      go_simp
      clear c11 hf hl
      refine hK.out _ _ HE.out.h3' (fun hNext => ?_)
      clear hK K hHeld
      have hHeld := hNext; clear hNext
      (try simp only [Act.put])
      refine wpAnyH_done (by kernel_rfl) ?_ _
      clear hHeld H7 hr8 ho8 hg8 hv8 HA
      go_wp2
      go_ret
      rw [HP.out, HPP.out]
      exact ⟨rfl, HE.out.nx⟩
    · refine step_bslz (z := 23) (wc (fresh m)) Tryz.underlying50 infoW ⟨by decide, by decide⟩ ⟨by decide, by decide⟩ (by kernel_rfl) ?_
      intro b7 w7 h7 F7
      have HA2 := Lib.hid (HA.out.on F7.below)
      have H7 := Lib.hid h7
      clear HA h7 F7
      have HA := HA2
      clear HA2
      refine hK.out _ _ HA.out.h3 (fun hNext => ?_)
      clear hK K hHeld
      have hHeld := hNext; clear hNext
      (try simp only [Act.put, z1', z2', z3'])
      refine ry [4] (.cons rfl (fun K hK => ?_) .nil)
      obtain ⟨c8, c9, c10, c11⟩ := HA.out.d.cells
      have hl := HA.out.d.hd.lt
      go_simp
      clear c8 c9 c10 c11 hl
      refine hK.out _ _ HA.out.h3 (fun hNext => ?_)
      clear hK K hHeld
      have hHeld := hNext; clear hNext
      (try simp only [Act.put, z1', z2', z3'])
      refine ry [8] ?_
      refine AllReadyH.cons (o := ⟨some 62, .call ⟨.builtin .append, #[.tmp 58, .tmp 61], #[50, 50]⟩, 50, "ref.go:83", #[⟨4, .data⟩, ⟨7, .data⟩], none⟩) rfl (fun K hK => ?_) AllReadyH.nil
      replace H7 := Lib.hid H7.out
      obtain ⟨vc2, w8, hr8, ho8, hg8, hv8⟩ := run_append_elt eltW _ _ base _ _ HA.out.d.cs b7 1 (fresh m) (row_ofz H7.out) HL9.out (Nat.le_trans HA.out.d.lo (Nat.le_of_lt HA.out.d.hd.lt))
      obtain ⟨ov, cv, rfl, _⟩ := own_form ho8
      obtain ⟨nv, hnv⟩ : ∃ nv, (l0 ++ [fresh m]).length = nv := ⟨_, rfl⟩
      rw [hnv] at hr8 ho8 hv8
      clear hnv
      refine step_append_known rfl _ _ _ _ rfl rfl rfl hr8 ?_
      have HE := Lib.hid (HA.out.put ho8 hg8 hv8)
      have c11 := HE.out.c11
      have hf := HE.out.f8
      have hl := HE.out.l8
      refine hK.out _ _ HE.out.h3 (fun hNext => ?_)
      clear hK K hHeld
      have hHeld := hNext; clear hNext
      (try simp only [Act.put, z1', z2', z3'])
      refine' tk9 9 rfl ?_
      refine' tk9 10 rfl ?_
      refine ry [11] (.cons rfl (fun K hK => ?_) .nil)
      go_simp
      clear c11 hf hl
      refine hK.out _ _ HE.out.h3' (fun hNext => ?_)
      clear hK K hHeld
      have hHeld := hNext; clear hNext
      (try simp only [Act.put])
      refine wpAnyH_done (by kernel_rfl) ?_ _
      clear hHeld H7 hr8 ho8 hg8 hv8 HA
      go_wp2
      go_ret
      rw [HP.out, HPP.out]
      exact ⟨rfl, HE.out.nx⟩

  · obtain ⟨k, rfl⟩ : ∃ k, k1 = k + 1 := ⟨k1 - 1, by omega⟩
    obtain rfl : z = (k : Int) := by omega
    obtain ⟨y, hy⟩ : ∃ y, x.cs[k]? = some y := ⟨_, List.getElem?_eq_getElem (by rw [HL.out]; omega)⟩
    have HYK := Lib.hid (lk_get (m := m) hy)
    have hkl : k < (lk x.cs m (k + 1)).length := (List.getElem?_eq_some_iff.1 HYK.out).1
    have cs := fun w => rsame y.m m (HX0.out.cs y (List.mem_of_getElem? hy)).in_ HMI.out w
    have HYS : Hid (same y.m m = true → wo (lk x.cs m (k + 1)) k (lk x.cs m (k + 1)).length = lk x.cs m k) := Lib.hid (lk_yes hy)
    have HYN : Hid (same y.m m = false → lk x.cs m (k + 1) = lk x.cs m k) := Lib.hid (lk_no hy)
    have HL4 : Hid ((lk x.cs m (k + 1)).length ≤ 1000) := Lib.hid (by omega)
    obtain ⟨ok0, capk, rfl, gk⟩ := own_form hA.d.cs
    obtain ⟨g, rfl⟩ := gk k hkl
    obtain ⟨nk, hnk⟩ : ∃ nk, (lk x.cs m (k + 1)).length = nk := ⟨_, rfl⟩
    rw [hnk] at hA hkl
    have HA := Lib.hid hA
    have t0 : decide ((0 : Int) ≤ (k : Int)) = true := decide_eq_true (by omega)
    have t1 : (0 : Int) ≤ (k : Int) := by omega
    have t2 : (k : Int) < (nk : Int) := by omega
    have t3 : k < nk := hkl
    have vj : IntKind.i64.wrap ((k : Int) - 1) = (k : Int) - 1 := by rw [IntKind.wrap_i64]; omega
    obtain ⟨c8, c9, c10, c11⟩ := HA.out.d.cells
    have hl := HA.out.d.hd.lt
    cases hs : same y.m m with
    | true =>
     rw [hs] at cs
     have CS := Lib.hid cs
     have HK := HYS.out hs
     rw [hnk] at HK
     have HK := Lib.hid HK
     clear hs cs HYS HYN hy hA gk hlen
     go_wp2_with fail
     clear c8 c9 c10 c11 hl
     refine wp_region_held_drew (S := (fun w' => Below wr.heap.size wr w')) (by kernel_rfl) (Below.refl _ _).drew (fun hHeld => ?_)
     refine' tk9 0 rfl ?_
     refine' tk9 1 rfl ?_
     refine' tk9 2 rfl ?_
     refine' tv9 3 rfl (by intro _ hSw; (try dsimp only at hSw); have b1 := (show _ = some (Value.slice (some ⟨g, 0, none⟩) nk capk) from cell_of (i := 11) (stays HA.out.d.hd hSw) rfl); go_simp <;> with_reducible rfl) ?_
     refine' tk9 4 rfl ?_
     refine' tk9 5 rfl ?_
     refine' tk9 6 rfl ?_
     refine' tv9 7 rfl (by intro _ hSw; (try dsimp only at hSw); refine ex_ldr isR (range_w wl_len (own_rangez wl_len (HA.out.d.cs.below hSw) k y HYK.out)) ?_; rfl) ?_
     refine' tv9 8 rfl (by intro _ hSw; (try dsimp only at hSw); refine ex_ld isR (stays HA.out.h3 hSw) ?_; rfl) ?_
     refine ry [9] (.cons rfl (fun K hK => ?_) .nil)
     go_simp
     (with_reducible refine (CS.out _).mono ?_)
     rintro e wc ⟨rfl, hb⟩
     go_wp2_with fail
     refine hK.out _ _ (below_on hHeld hb) (fun hNext => ?_)
     clear hK K hHeld hb
     have hHeld := hNext; clear hNext
     (try simp only [Act.put, z1', z2', z3'])
     refine wpAnyH_done (by kernel_rfl) ?_ _
     have HB6 := Lib.hid hHeld
     clear hHeld
     have HA2 := Lib.hid (HA.out.on HB6.out)
     obtain ⟨c8, c9, c10, c11⟩ := HA2.out.d.cells
     have hl := HA2.out.d.hd.lt
     clear HA HB6
     go_wp2_with (first
      | (go_at_call 54; ((with_reducible refine (rwithout HA2.out.d.cs k HL4.out).mono ?_); rintro e w4 ⟨v4, rfl, ho, hb⟩; obtain ⟨ov, cv, rfl, _⟩ := own_form ho; have HG := Lib.hid (HA2.out.gone ho hb); obtain ⟨c8, c9, c10, c11⟩ := (HA2.out.d.below hb).cells; have hl := (HA2.out.d.below hb).hd.lt; have hf := (HA2.out.d.below hb).free; clear ho hb)))
     have HA9 := HG.out
     rw [hnk, HK.out] at HA9
     go_roundg k
     case measure => omega
     case rel => exact ⟨k, (k : Int) - 1, by first | rfl | go_num, by omega, Nat.le_refl _, by omega, Lib.hid ⟨_, HA9⟩⟩
    | false =>
     rw [hs] at cs
     have CS := Lib.hid cs
     have HK := Lib.hid (HYN.out hs)
     clear hs cs HYS HYN hy hA gk hlen
     go_wp2_with fail
     clear c8 c9 c10 c11 hl
     refine wp_region_held_drew (S := (fun w' => Below wr.heap.size wr w')) (by kernel_rfl) (Below.refl _ _).drew (fun hHeld => ?_)
     refine' tk9 0 rfl ?_
     refine' tk9 1 rfl ?_
     refine' tk9 2 rfl ?_
     refine' tv9 3 rfl (by intro _ hSw; (try dsimp only at hSw); have b1 := (show _ = some (Value.slice (some ⟨g, 0, none⟩) nk capk) from cell_of (i := 11) (stays HA.out.d.hd hSw) rfl); go_simp <;> with_reducible rfl) ?_
     refine' tk9 4 rfl ?_
     refine' tk9 5 rfl ?_
     refine' tk9 6 rfl ?_
     refine' tv9 7 rfl (by intro _ hSw; (try dsimp only at hSw); refine ex_ldr isR (range_w wl_len (own_rangez wl_len (HA.out.d.cs.below hSw) k y HYK.out)) ?_; rfl) ?_
     refine' tv9 8 rfl (by intro _ hSw; (try dsimp only at hSw); refine ex_ld isR (stays HA.out.h3 hSw) ?_; rfl) ?_
     refine ry [9] (.cons rfl (fun K hK => ?_) .nil)
     go_simp
     (with_reducible refine (CS.out _).mono ?_)
     rintro e wc ⟨rfl, hb⟩
     go_wp2_with fail
     refine hK.out _ _ (below_on hHeld hb) (fun hNext => ?_)
     clear hK K hHeld hb
     have hHeld := hNext; clear hNext
     (try simp only [Act.put, z1', z2', z3'])
     refine wpAnyH_done (by kernel_rfl) ?_ _
     have HB6 := Lib.hid hHeld
     clear hHeld
     have HA9 := HA.out.on HB6.out
     rw [HK.out] at HA9
     have HA8 := Lib.hid HA9
     clear HA9 HA HB6
     go_wp2
     go_roundg k
     case measure => omega
     case rel => exact ⟨k, (k : Int) - 1, by first | rfl | go_num, by omega, Nat.le_refl _, by omega, Lib.hid ⟨_, HA8.out⟩⟩
end
end Go.Proofs.YtakkhdammmcjcaaGreatDoor.Ctl
namespace Go.Proofs.YtakkhdammmcjcaaGreatDoor.Ctl
open Go.RowKit Base Mem Msgs Cr
set_option maxRecDepth 20000
/-- The program's own side is x, the document's y; a row of facts; none shares a block with another one. -/
structure Bp (w0 : World) (c r : Nat) (a b t n : Int) (kb : Nat) (ko : Obj) (x y : Ct) (v : Value) (F : List Fa) (va vc vd ve : Value) (u : World) : Prop where
 p : P u c w0.heap.size a b t n va vc x
 d : D u r w0.heap.size vd ve y
 ok : y.Ok
 pd : ∀ k, PS c va vc k → ¬ DS r vd ve k
 row : OwnS GT 21 fl u w0.heap.size v F
 rp : ∀ k, v.ownBlock = some k → ¬ PS c va vc k
 rd : ∀ k, v.ownBlock = some k → ¬ DS r vd ve k
 kx : u.heap[kb]? = some ko
 kp : ¬ PS c va vc kb
 kd : ¬ DS r vd ve kb
 below : Below w0.heap.size w0 u
def Bo (w0 : World) (c r : Nat) (a b t n : Int) (kb : Nat) (ko : Obj) (x y : Ct) (v : Value) (F : List Fa) (u : World) : Prop := ∃ va vc vd ve, Bp w0 c r a b t n kb ko x y v F va vc vd ve u
section
variable {w0 u u' : World} {c r kb k' : Nat} {ko o' : Obj} {a b t n : Int} {x y z : Ct} {v va vc vd ve : Value} {F : List Fa}
theorem Bo.on (h : Bo w0 c r a b t n kb ko x y v F u) (hb : Below u.heap.size u u') : Bo w0 c r a b t n kb ko x y v F u' := by
 obtain ⟨va, vc, vd, ve, h⟩ := h
 exact ⟨va, vc, vd, ve, h.p.below hb, h.d.below hb, h.ok, h.pd, h.row.below hb, h.rp, h.rd, (hb.block kb (lt_heap h.kx)).trans h.kx, h.kp, h.kd, below_on h.below hb⟩
theorem Bo.below (h : Bo w0 c r a b t n kb ko x y v F u) : Below w0.heap.size w0 u := by obtain ⟨_, _, _, _, h⟩ := h; exact h.below
theorem Bo.tab (h : Bo w0 c r a b t n kb ko x y v F u) : Tab u := by obtain ⟨_, _, _, _, h⟩ := h; exact h.p.tab
theorem Bo.row (h : Bo w0 c r a b t n kb ko x y v F u) : OwnS GT 21 fl u w0.heap.size v F := by obtain ⟨_, _, _, _, h⟩ := h; exact h.row
theorem Bo.okx (h : Bo w0 c r a b t n kb ko x y v F u) : x.Ok := by obtain ⟨_, _, _, _, h⟩ := h; exact h.p.ok
theorem Bo.oky (h : Bo w0 c r a b t n kb ko x y v F u) : y.Ok := by obtain ⟨_, _, _, _, h⟩ := h; exact h.ok
/-- The row is left. -/
theorem Bo.drop (h : Bo w0 c r a b t n kb ko x y v F u) : Bo w0 c r a b t n kb ko x y (.slice none 0 0) [] u := by
 obtain ⟨va, vc, vd, ve, h⟩ := h
 exact ⟨va, vc, vd, ve, h.p, h.d, h.ok, h.pd, ownS_nil _ _, fun k hk => (by cases hk), fun k hk => (by cases hk), h.kx, h.kp, h.kd, h.below⟩
/-- The block that is kept. -/
theorem Bo.kept (h : Bo w0 c r a b t n kb ko x y v F u) : u.heap[kb]? = some ko := by obtain ⟨_, _, _, _, h⟩ := h; exact h.kx
/-- Another block, a new one, is kept. -/
theorem Bo.key (h : Bo w0 c r a b t n kb ko x y v F u) (hb : Below u.heap.size u u') (hk : u'.heap[k']? = some o') (hn : u.heap.size ≤ k') : Bo w0 c r a b t n k' o' x y v F u' := by
 obtain ⟨va, vc, vd, ve, h⟩ := h
 exact ⟨va, vc, vd, ve, h.p.below hb, h.d.below hb, h.ok, h.pd, h.row.below hb, h.rp, h.rd, hk, h.p.not_new hn, h.d.not_new hn, below_on h.below hb⟩
/-- The row is written. -/
theorem Bo.mod {k : Nat} {G : List Fa} (hne : k ≠ kb) (h : Bo w0 c r a b t n kb ko x y v F u) (hk : v.ownBlock = some k) (hr : OwnS GT 21 fl u' w0.heap.size v G) (M : Mod k u u') : Bo w0 c r a b t n kb ko x y v G u' := by
 obtain ⟨va, vc, vd, ve, h⟩ := h
 have hT : k ≠ TB := fun e => by have := (h.row.lt k hk).1; have := h.p.tb; omega
 exact ⟨va, vc, vd, ve, h.p.mod M (h.rp k hk) hT, h.d.mod M (h.rd k hk), h.ok, h.pd, hr, h.rp, h.rd, (M.rest kb fun e => hne e.symm).trans h.kx, h.kp, h.kd, M.below h.below (h.row.lt k hk).1⟩
/-- A call of the program's own. -/
theorem Bp.one (h : Bp w0 c r a b t n kb ko x y v F va vc vd ve u) (hx : Px u c w0.heap.size a b t n va vc z u') {v' : Value} {G : List Fa} (hr : OwnS GT 21 fl u' u.heap.size v' G) (hv : ∀ va' vc', P u' c w0.heap.size a b t n va' vc' z → ∀ k, v'.ownBlock = some k → ¬ PS c va' vc' k) : Bo w0 c r a b t n kb ko z y v' G u' := by
 obtain ⟨⟨va', vc', h', hs⟩, hc⟩ := hx
 refine ⟨va', vc', vd, ve, h', h.d.eqv fun k hk => hc.block k (h.d.own_lt k hk).2 (fun q => h.pd k q hk), h.ok, fun k hk hd => ?_, own_weak hr h.below.size, fun k hk => hv _ _ h' k hk, fun k hk hd => ?_, (hc.block kb (lt_heap h.kx) h.kp).trans h.kx, fun hk => ?_, h.kd, Px.below_ h.p ⟨⟨va', vc', h', hs⟩, hc⟩ h.below⟩
 · rcases hs k hk with q | q
   · exact h.pd k q hd
   · have := (h.d.own_lt k hd).2; omega
 · have := (hr.lt k hk).1
   have := (h.d.own_lt k hd).2
   omega
 · rcases hs kb hk with q | q
   · exact h.kp q
   · have := lt_heap h.kx; omega
/-- A call of the document's own. -/
theorem Bp.two (h : Bp w0 c r a b t n kb ko x y v F va vc vd ve u) (hx : Nx u r w0.heap.size vd ve z u') (hz : z.Ok) : Bo w0 c r a b t n kb ko x z v F u' := by
 obtain ⟨⟨vd', ve', h', hs⟩, hc⟩ := hx
 have hT : ¬ DS r vd ve TB := fun e => by have := (h.d.own_lt TB e).1; have := h.p.tb; omega
 have keep : ∀ k, k < u.heap.size → ¬ DS r vd ve k → ¬ DS r vd' ve' k := fun k hk h1 h2 => by
  rcases hs k h2 with h3 | h3
  · exact h1 h3
  · omega
 exact ⟨va, vc, vd', ve', h.p.chg hc h.pd hT, h', hz, fun k hk => keep k (h.p.own_lt k hk).2 (h.pd k hk), row_keep h.row fun k hk => hc.block k (h.row.lt k hk).2 (h.rd k hk), h.rp, fun k hk => keep k (h.row.lt k hk).2 (h.rd k hk), (hc.block kb (lt_heap h.kx) h.kd).trans h.kx, h.kp, keep kb (lt_heap h.kx) h.kd, hc.below h.below h.below.size fun k hk => (h.d.own_lt k hk).1⟩
/-- A row of facts is no block of the program's own. -/
theorem fact_ne {v' : Value} {base : Nat} {G : List Fa} (hr : OwnS GT 21 fl u' base v' G) : ∀ va' vc', P u' c w0.heap.size a b t n va' vc' z → ∀ k, v'.ownBlock = some k → ¬ PS c va' vc' k := fun va' vc' h' k hk hs => by
 obtain ⟨cs, hcs⟩ := row_blk hr hk
 rcases hs with rfl | q | q
 · exact type_ne hcs h'.hd (by decide) rfl
 · obtain ⟨cs2, h2⟩ := row_blk h'.an q
   exact type_ne hcs h2 (by decide) rfl
 · obtain ⟨cs2, h2⟩ := row_blk h'.cs q
   exact type_ne hcs h2 (by decide) rfl
theorem nil_ne : ∀ va' vc', P u' c w0.heap.size a b t n va' vc' z → ∀ k, (Value.slice none 0 0).ownBlock = some k → ¬ PS c va' vc' k := fun _ _ _ k hk => by cases hk
abbrev NS : Value := .slice none 0 0
theorem bask1 (h : Bo w0 c r a b t n kb ko x y v F u) (m : Ms) (hm : m.In) (hb : m.b.size ≤ 281474976710656) : Calls Tryz.prog 18 #[ptr c, mv m] u fun e u' => e = .returned (nm (askE m)) ∧ Bo w0 c r a b t n kb ko (x.ask m) y NS [] u' := by
 obtain ⟨va, vc, vd, ve, h⟩ := h
 exact (fask h.p m hm hb).mono fun _ _ ⟨e, hx⟩ => ⟨e, h.one hx (ownS_nil _ _) nil_ne⟩
theorem bask2 (h : Bo w0 c r a b t n kb ko x y v F u) (m : Ms) (hm : m.In) : Calls Tryz.prog 27 #[ptr r, mv m] u fun e u' => e = .returned (nm (askE m)) ∧ Bo w0 c r a b t n kb ko x (y.ask m) v F u' := by
 obtain ⟨va, vc, vd, ve, h⟩ := h
 exact (rask h.d h.ok m hm).mono fun _ _ ⟨e, hx⟩ => ⟨e, h.two hx (h.ok.ask hm)⟩
theorem bnext1 (h : Bo w0 c r a b t n kb ko x y v F u) : Calls Tryz.prog 20 #[ptr c] u fun e u' => e = .returned (nv x.next.1) ∧ Bo w0 c r a b t n kb ko x.next.2 y NS [] u' := by
 obtain ⟨va, vc, vd, ve, h⟩ := h
 exact (fnext h.p).mono fun _ _ ⟨e, hx⟩ => ⟨e, h.one hx (ownS_nil _ _) nil_ne⟩
theorem bnext2 (h : Bo w0 c r a b t n kb ko x y v F u) : Calls Tryz.prog 29 #[ptr r] u fun e u' => e = .returned (nv y.next.1) ∧ Bo w0 c r a b t n kb ko x y.next.2 v F u' := by
 obtain ⟨va, vc, vd, ve, h⟩ := h
 exact (rnext h.d h.ok).mono fun _ _ ⟨e, hx⟩ => ⟨e, h.two hx h.ok.next⟩
theorem bhas1 (h : Bo w0 c r a b t n kb ko x y v F u) : Calls Tryz.prog 16 #[ptr c] u fun e u' => e = .returned (.bool x.has) ∧ Below u.heap.size u u' := by
 obtain ⟨va, vc, vd, ve, h⟩ := h
 exact fhas h.p
theorem bhas2 (h : Bo w0 c r a b t n kb ko x y v F u) : Calls Tryz.prog 17 #[ptr r] u fun e u' => e = .returned (.bool y.has) ∧ Below u.heap.size u u' := by
 obtain ⟨va, vc, vd, ve, h⟩ := h
 exact (rhas h.d h.ok).mono fun _ _ ⟨e, hx⟩ => ⟨e, by subst hx; exact Below.refl _ _⟩
theorem bwaits (h : Bo w0 c r a b t n kb ko x y v F u) : Calls Tryz.prog 15 #[ptr c] u fun e u' => e = .returned (.tuple #[nm x.an.length, nm x.cs.length]) ∧ Below u.heap.size u u' := by
 obtain ⟨va, vc, vd, ve, h⟩ := h
 exact fwaits h.p
theorem bhear1 (h : Bo w0 c r a b t n kb ko x y v F u) (s : ByteArray) (hs : s.size ≤ 5000) : Calls Tryz.prog 21 #[ptr c, .string s] u fun e u' => ∃ v', e = .returned v' ∧ Bo w0 c r a b t n kb ko (x.hear s).1 y v' (x.hear s).2 u' := by
 obtain ⟨va, vc, vd, ve, h⟩ := h
 exact (fhear h.p s hs).mono fun _ _ ⟨v', e, ho, hx⟩ => ⟨v', e, h.one hx ho (fact_ne ho)⟩
theorem bhear2 (h : Bo w0 c r a b t n kb ko x y v F u) (s : ByteArray) (hs : s.size ≤ 5000) : Calls Tryz.prog 32 #[ptr r, .string s] u fun e u' => ∃ v', e = .returned v' ∧ Qz 21 fl u' u.heap.size v' (y.hear s).2 ∧ Bo w0 c r a b t n kb ko x (y.hear s).1 v F u' := by
 obtain ⟨va, vc, vd, ve, h⟩ := h
 exact (rhear h.d h.ok s hs).mono fun _ _ ⟨v', e, ho, hx⟩ => ⟨v', e, ho, h.two hx (h.ok.hear s)⟩
theorem btick1 (h : Bo w0 c r a b t n kb ko x y v F u) : Calls Tryz.prog 25 #[ptr c] u fun e u' => ∃ v', e = .returned v' ∧ Bo w0 c r a b t n kb ko x.tick.1 y v' x.tick.2 u' := by
 obtain ⟨va, vc, vd, ve, h⟩ := h
 exact (ftick h.p).mono fun _ _ ⟨v', e, ho, hx⟩ => ⟨v', e, h.one hx ho (fact_ne ho)⟩
theorem btick2 (h : Bo w0 c r a b t n kb ko x y v F u) : Calls Tryz.prog 33 #[ptr r] u fun e u' => ∃ v', e = .returned v' ∧ OwnS FT 21 fl u' u.heap.size v' y.tick.2 ∧ Bo w0 c r a b t n kb ko x y.tick.1 v F u' := by
 obtain ⟨va, vc, vd, ve, h⟩ := h
 exact (rtick h.d h.ok).mono fun _ _ ⟨v', e, ho, hx⟩ => ⟨v', e, ho, h.two hx h.ok.tick⟩
/-- The document's own side begins beside the program's. -/
theorem bnew1 (p : Pn.Pr) (t n : Int) (w : World) (ht : Tab w) : Calls Tryz.prog 11 #[Pn.pv p, im t, im n] w fun e w' => ∃ c, e = .returned (ptr c) ∧ P w' c w.heap.size p.n p.k t n (.slice none 0 0) (.slice none 0 0) (Ct.new p t n) ∧ Below w.heap.size w w' := fnew p t n w ht
theorem bnew2 (h : P u c w0.heap.size a b t n (.slice none 0 0) (.slice none 0 0) x) (hk : u.heap[kb]? = some ko) (hkc : kb ≠ c) (hb : Below w0.heap.size w0 u) (p : Pn.Pr) : Calls Tryz.prog 12 #[Pn.pv p, .int .i64 t, .int .i64 n] u fun e u' => ∃ r, e = .returned (ptr r) ∧ Bo w0 c r a b t n kb ko x (Ct.new p t n) NS [] u' :=
 (rnew p t n u).mono fun _ _ ⟨r, e, hd, hn⟩ => ⟨r, e, _, _, _, _, h.below hn, ⟨hd.hd, qz_nil _ _, ownS_nil _ _, hd.ne, Nat.le_trans hb.size hd.lo⟩, Ct.Ok.new p t n, fun k hk hd' => by
  have h1 := (h.own_lt k hk).2
  have h2 := (hd.own_lt k hd').1
  omega, ownS_nil _ _, fun k hk => (by cases hk), fun k hk => (by cases hk), (hn.block kb (lt_heap hk)).trans hk, fun hs => (by rcases hs with q | q | q; exact hkc q; cases q; cases q), fun hs => (by have := (hd.own_lt kb hs).1; have := lt_heap hk; omega), below_on hb hn⟩
end
end Go.Proofs.YtakkhdammmcjcaaGreatDoor.Ctl
