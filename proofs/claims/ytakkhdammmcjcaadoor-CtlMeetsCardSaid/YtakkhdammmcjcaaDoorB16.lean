/-
  Layer 22, put together: CtlPnext (what each says stands ahead of it). Conditions: as each names them.
-/
import Derived.Test.YtakkhdammmcjcaaDoorB14
import Derived.Test.YtakkhdammmcjcaaDoorB15
import Derived.Lib.MinMax
import Derived.BigQuiet
/-
  What the program's New, Waits, Has and Next answer, and leave. Condition: it lies where it says.
-/
namespace Go.Proofs.YtakkhdammmcjcaaDoor.Ctl
open Go.RowKit Go.Proofs.YtakkhdammmcjcaaDoor.Base Go.Proofs.YtakkhdammmcjcaaDoor.Mem Go.Proofs.YtakkhdammmcjcaaDoor.Msgs Go.Proofs.YtakkhdammmcjcaaDoor.Cr
set_option maxRecDepth 100000
theorem builtC (a b t n : Int) : Tryd.prog.built CT [(0, im a), (1, im b), (2, im t), (3, im n)] = some #[im a, im b, im t, im n, .slice none 0 0, .slice none 0 0] := by kernel_rfl
set_option maxHeartbeats 2000000 in
theorem fnew (p : Pn.Pr) (t n : Int) (w : World) (ht : Tab w) : Calls Tryd.prog 7 #[Pn.pv p, im t, im n] w fun e w' => ∃ c, e = .returned (ptr c) ∧ P w' c w.heap.size p.n p.k t n (.slice none 0 0) (.slice none 0 0) (Ct.new p t n) ∧ Below w.heap.size w w' := by
  have HC := Lib.hid (builtC p.n p.k t n)
  have HT := Lib.hid ht
  have HB0 := Lib.hid (tab_pos ht)
  clear ht
  go_enter Tryd.func7, Tryd.ntmps7
  go_wp2_with (first
    | ((with_reducible refine bxz (pcl p) ?hx ?_); (case hx => rfl); intro b1 w1 h1 F1; obtain ⟨c0, c1, c2, c3, c4, c5, c6, c7⟩ := pcells h1; have l1 := lt_heap h1; have L1 := Lib.hid F1; clear h1 F1)
    | ((with_reducible refine bdB HC.out ?hl ?_); (case hl => kernel_rfl)))
  go_ret
  have hb := L1.out.below
  refine ⟨_, rfl, ⟨nest w1 [_] 0 _ rfl, ownS_nil _ _, ownS_nil _ _, hb.size, tab_below (tab_below HT.out hb) ((Below.refl _ _).alloc (Nat.le_refl _) _), HB0.out, ⟨rfl, rfl, (brought_t t).symm, (brought_n n).symm⟩, fun y hy => (by cases hy), Ct.Ok.new p t n⟩, below_on hb ((Below.refl _ _).alloc (Nat.le_refl _) _)⟩
section
variable {w w' : World} {c base g cap m : Nat} {a b t n : Int} {va vc : Value} {x : Ct} {r : List Ms} {l : List Wt}
theorem fwaits (h : P w c base a b t n va vc x) : Calls Tryd.prog 12 #[ptr c] w fun e w' => e = .returned (.tuple #[nm x.an.length, nm x.cs.length]) ∧ Below w.heap.size w w' := by
  obtain ⟨oa, ca, rfl, _⟩ := row_form h.an
  obtain ⟨ob, cb, rfl, _⟩ := row_form h.cs
  obtain ⟨c0, c1, c2, c3, c4, c5⟩ := h.cells
  have hl := h.hd.lt
  clear h
  go_enter Tryd.func12, Tryd.ntmps12
  go_wp2_with fail
  go_quiet (fail)
  go_wp2
  go_ret2
  exact ⟨rfl, ⟨rfl, rfl, rfl, Nat.le_refl _, fun _ _ => rfl⟩⟩
theorem has_eq (x : Ct) : x.has = (decide (0 < x.an.length) || x.cs.any fun w => w.lf == 0) := by
  unfold Ct.has
  rw [Bool.or_comm]
  congr 1
  cases x.an <;> rfl
set_option maxHeartbeats 2000000 in
theorem fhas (h : P w c base a b t n va vc x) : Calls Tryd.prog 18 #[ptr c] w fun e w' => e = .returned (.bool x.has) ∧ Below w.heap.size w w' := by
  have hC := fcontains h.cs (by have := h.ok.cs_few; omega)
  obtain ⟨oa, ca, rfl, _⟩ := row_form h.an
  obtain ⟨c0, c1, c2, c3, c4, c5⟩ := h.cells
  have hl := h.hd.lt
  rw [has_eq]
  generalize (x.cs.any fun w => w.lf == 0) = q at hC ⊢
  have HC := Lib.hid hC
  generalize x.an.length = z at c4 ⊢
  clear h hC
  by_cases hz : 0 < z
  · have t1 : decide ((0 : Int) < (z : Int)) = true := decide_eq_true (by omega)
    have t2 : (0 : Int) < (z : Int) := by omega
    rw [decide_eq_true hz, Bool.true_or]
    go_enter Tryd.func18, Tryd.ntmps18
    go_wp2
    go_ret
    exact ⟨rfl, Below.refl _ _⟩
  · have t1 : decide ((0 : Int) < (z : Int)) = false := decide_eq_false (by omega)
    have t2 : ¬ (0 : Int) < (z : Int) := by omega
    rw [decide_eq_false hz, Bool.false_or]
    go_enter Tryd.func18, Tryd.ntmps18
    go_wp2_with (go_at_call 37; refine HC.out.mono ?_; rintro e w1 ⟨rfl, hb⟩; have HB1 := Lib.hid hb; clear hb)
    go_ret
    exact ⟨rfl, HB1.out⟩
/-- One cell of an element is written. -/
theorem flat_cell {α : Type} {z : Nat} {fc : α → List Value} (hl : ∀ x, (fc x).length = z) (l : List α) (k : Nat) (y y' : α) (hk : l[k]? = some y) (j : Nat) (hj : j < z) (v : Value) (e : (fc y).set j v = fc y') : (l.flatMap fc).set (z * k + j) v = (l.set k y').flatMap fc := by
  obtain ⟨hk2, he⟩ := List.getElem?_eq_some_iff.1 hk
  have e1 : l = l.take k ++ y :: l.drop (k + 1) := by rw [← he, List.getElem_cons_drop, List.take_append_drop]
  have hp : ((l.take k).flatMap fc).length = z * k := by rw [flat_len hl, List.length_take, Nat.min_eq_left (by omega)]
  have e2 : l.set k y' = l.take k ++ y' :: l.drop (k + 1) := by rw [List.set_eq_take_append_cons_drop, if_pos hk2]
  rw [e2, List.flatMap_append, List.flatMap_cons, ← e]
  conv => lhs; arg 1; rw [e1, List.flatMap_append, List.flatMap_cons]
  rw [← hp, List.set_append_right _ _ (by omega), show ((l.take k).flatMap fc).length + j - ((l.take k).flatMap fc).length = j by omega, List.set_append_left _ _ (by rw [hl]; exact hj)]
theorem own_cell {α : Type} {E z n : Nat} {fc : α → List Value} {l : List α} (hl : ∀ x, (fc x).length = z) (h : OwnS E z fc w base (.slice (some ⟨g, 0, none⟩) n cap) l) (k : Nat) (y y' : α) (hk : l[k]? = some y) (j : Nat) (hj : j < z) (v : Value) (e : (fc y).set j v = fc y') : OwnS E z fc (w.setCell ⟨g, k * z + j, none⟩ v) base (.slice (some ⟨g, 0, none⟩) n cap) (l.set k y') := by
  have hn := h.num
  subst hn
  unfold OwnS at *
  rw [List.length_set, ← flat_cell hl l k y y' hk j hj v e, Nat.mul_comm k z]
  exact (h.stored _ v).1
/-- The commands' row was written, in its place. -/
theorem P.upd (h : P w c base a b t n va (.slice (some ⟨g, 0, none⟩) m cap) x) (ho : OwnS KT 22 kl w' base (.slice (some ⟨g, 0, none⟩) m cap) l) (M : Mod g w w') (hok : ({ x with cs := l } : Ct).Ok) (hs : Sd { x with cs := l }) : P w' c base a b t n va (.slice (some ⟨g, 0, none⟩) m cap) { x with cs := l } :=
  ⟨(M.rest c fun e => (h.cs_ne (k := g) rfl).1 e.symm).trans h.hd, row_keep h.an fun k hk => M.rest k fun e => (h.an_ne hk).2 (by rw [e]; rfl), ho, h.lo, tab_eqv h.tab (M.rest TB fun e => by have := (h.own_lt g (.inr (.inr rfl))).1; have := h.tb; omega), h.tb, ⟨h.raw.rn, h.raw.rk, h.raw.rt, h.raw.rm⟩, hs, hok⟩
/-- The answers' row was written, or lies elsewhere now, and is stored. -/
structure Pa (u : World) (c base : Nat) (a b t n : Int) (va vc va' : Value) (y : Ct) (u' : World) : Prop where
  p : P (u'.setCell ⟨c, 4, none⟩ va') c base a b t n va' vc y
  sub : ∀ k, PS c va' vc k → PS c va vc k ∨ u.heap.size ≤ k
  chg : Chg (PS c va vc) u (u'.setCell ⟨c, 4, none⟩ va')
  c4 : u'.cell? ⟨c, 4, none⟩ = some va
  fr : ∀ i, u'.frozen? ⟨c, i, none⟩ = false
  lt : c < u'.heap.size
theorem P.put_an {va' : Value} (h : P w c base a b t n va vc x) (ho : OwnS AT 2 al w' base va' r) (hc : Chg (fun k => va.ownBlock = some k) w w') (hv : ∀ k, va'.ownBlock = some k → va.ownBlock = some k ∨ w.heap.size ≤ k) (hok : ({ x with an := r } : Ct).Ok) : Pa w c base a b t n va vc va' { x with an := r } w' := by
  have hd : At w' c #[im a, im b, im t, im n, va, vc] CT := h.hd.other hc fun e => (h.an_ne e).1 rfl
  have hcs : OwnS KT 22 kl w' base vc x.cs := row_keep h.cs fun k hk => hc.block k (h.cs.lt k hk).2 (h.cs_ne hk).2
  have htb : Tab w' := tab_eqv h.tab (hc.block TB h.tb_lt fun e => by have := (h.own_lt TB (.inr (.inl e))).1; have := h.tb; omega)
  have hlo := h.lo
  have htl := h.tb
  refine ⟨⟨hd.set 4 va', row_keep ho fun g hg => set_other (fun e => ?_) _, row_keep hcs fun g hg => set_other (fun e => ?_) _, h.lo, tab_eqv htb (set_other (fun e => by omega) _), h.tb, ⟨h.raw.rn, h.raw.rk, h.raw.rt, h.raw.rm⟩, h.sd, hok⟩, fun k hk => ?_, (hc.mono fun _ e => .inr (.inl e)).setCell c 4 va' fun _ => .inl rfl, hd.cell 4 _ rfl, hd.free, hd.lt⟩
  · obtain ⟨cs, hb⟩ := row_blk ho hg
    exact type_ne hb hd (by decide) e
  · obtain ⟨cs, hb⟩ := row_blk hcs hg
    exact type_ne hb hd (by decide) e
  · rcases hk with hk | hk | hk
    · exact .inl (.inl hk)
    · rcases hv k hk with e | e
      · exact .inl (.inr (.inl e))
      · exact .inr e
    · exact .inl (.inr (.inr hk))
theorem range_on {g o : Nat} {vs : List Value} (h : w.rangeAt g o vs) (hb : Below w.heap.size w w') : w'.rangeAt g o vs := fun j v hv => (hb.cell (p := ⟨g, o + j, none⟩) (lt_cell (h j v hv))).trans (h j v hv)
theorem one_cells {y : Ms} {b : Nat} {t : TypeId} (h : w.heap[b]? = some (.cells (ac y) t (0, 0))) : w.cell? ⟨b, 0, none⟩ = some (.string (putS y)) ∧ w.cell? ⟨b, 1, none⟩ = some (.int .u8 (ch y : Int)) := ⟨cell_of h rfl, cell_of h rfl⟩
set_option maxHeartbeats 8000000 in
theorem fnext_a (h : P w c base a b t n va vc x) (y : Ms) (ha : x.an = y :: r) : Calls Tryd.prog 10 #[ptr c] w fun e w' => e = .returned (nv (some y)) ∧ Px w c base a b t n va vc { x with an := r } w' := by
  have hx := h.ok
  have hh := fhas h
  have e0 : x.has = true := by rw [has_eq, ha]; rfl
  rw [e0] at hh
  have HH := Lib.hid hh
  obtain ⟨oa, ca, rfl, ga⟩ := row_form h.an
  obtain ⟨g, rfl⟩ := ga 0 (by rw [ha]; exact Nat.succ_pos _)
  have HO : Hid (({ x with an := r } : Ct).Ok) := Lib.hid (by
    have := hx.next
    unfold Ct.next at this
    rw [ha] at this
    exact this)
  obtain ⟨z, hz⟩ : ∃ z, x.an.length = z := ⟨_, rfl⟩
  obtain ⟨z1, hz1⟩ : ∃ z1, r.length = z1 := ⟨_, rfl⟩
  have hz2 : z = z1 + 1 := by rw [← hz, ha, ← hz1]; rfl
  rw [hz] at h ⊢
  have HP := Lib.hid h
  have hlt := h.own_lt g (.inr (.inl rfl))
  have HG := Lib.hid hlt
  have HR : Hid (∀ u, Below w.heap.size w u → u.rangeAt g (0 * 2) (al y)) := Lib.hid fun u hb => own_rangez al_len (h.below hb).an 0 y (by rw [ha]; rfl)
  have HD : Hid (∀ u, OwnS AT 2 al u base (.slice (some ⟨g, 0, none⟩) z ca) x.an → Calls Tryd.prog 25 #[.slice (some ⟨g, 0, none⟩) z ca, .int .i64 0, .int .i64 1] u fun e u' => e = .returned (.slice (some ⟨g, 0, none⟩) z1 ca) ∧ OwnS AT 2 al u' base (.slice (some ⟨g, 0, none⟩) z1 ca) r ∧ u.grownBy u' (some g)) := Lib.hid fun u hu => by
    have := fdel_a 0 1 rfl (by omega) hu
    rw [ha, show z - 1 = z1 by omega] at this
    exact this
  have t1 : decide ((0 : Int) < (z : Int)) = true := decide_eq_true (by omega)
  have t2 : (0 : Int) < (z : Int) := by omega
  have t3 : 0 < z := by omega
  clear h hh hx ha hz hz2 hz1 e0 ga hlt
  go_enter Tryd.func10, Tryd.ntmps10
  go_wp2_with (first
    | (go_at_call 18; refine HH.out.mono ?_; rintro e w1 ⟨rfl, hb⟩; have B0 := Lib.hid hb; obtain ⟨c0, c1, c2, c3, c4, c5⟩ := (HP.out.below hb).cells; have hl := (HP.out.below hb).hd.lt; clear hb)
    | ((with_reducible refine ldz isA (HR.out _ B0.out) ?hz ?hx ?_); (case hz => rfl); (case hx => rfl))
    | ((with_reducible refine alr (T := AT) (cs := #[.string ⟨#[]⟩, .int .u8 0]) (by kernel_rfl) ?_); intro b6 w2 h2 F2; have H5 := Lib.hid h2; have B2 := Lib.hid (below_on B0.out F2.below); have N5 := Lib.hid (F2.le B0.out); clear h2 F2 c0 c1 c2 c3 c4 c5 hl)
    | ((with_reducible refine str (ac y) isA H5.out ?h0 ?h1 ?hc ?hx ?hy ?_); (case h0 => rfl); (case h1 => rfl); (case hc => exact all_oneCell_toArray (al_one y)); (case hx => rfl); (case hy => rfl); intro w3 h3 M3; have H6 := Lib.hid h3; have B3 := Lib.hid (M3.below B2.out N5.out); clear h3 M3; obtain ⟨c0, c1, c2, c3, c4, c5⟩ := (HP.out.below B3.out).cells; have hl := (HP.out.below B3.out).hd.lt)
    | (go_at_call 25; refine (HD.out _ (HP.out.below B3.out).an).mono ?_; rintro e w4 ⟨rfl, ho, hg⟩; have PA := Lib.hid ((HP.out.below B3.out).put_an ho (Chg.of_grown hg fun k hk => hk) (fun k hk => .inl hk) HO.out); have H7 := Lib.hid ((Chg.of_grown (S := fun k => k = g) hg fun k hk => (Option.some.inj hk).symm).stays H6.out fun e => by have h1 := N5.out; have h2 := HG.out; omega); clear ho hg c0 c1 c2 c3 c4 c5 hl; have c4 := PA.out.c4; have hf := PA.out.fr; have hl := PA.out.lt))
  have H8 : Hid ((w4.setCell ⟨c, 4, none⟩ (.slice (some ⟨g, 0, none⟩) z1 ca)).heap[b6]? = some (.cells (ac y) AT (0, 0))) := Lib.hid ((set_other (fun e => by have h1 := N5.out; have h2 := HP.out.hd.lt; omega) _).trans H7.out)
  have HQ : Hid (P (w4.setCell ⟨c, 4, none⟩ (.slice (some ⟨g, 0, none⟩) z1 ca)) c base a b t n (.slice (some ⟨g, 0, none⟩) z1 ca) vc { x with an := r } ∧ Chg (PS c (.slice (some ⟨g, 0, none⟩) z ca) vc) w (w4.setCell ⟨c, 4, none⟩ (.slice (some ⟨g, 0, none⟩) z1 ca))) := Lib.hid ⟨PA.out.p, (Chg.of_below B3.out).then PA.out.chg⟩
  clear PA H7 H6 H5 c4 hf hl B0 B2 B3 N5 HD HR HH
  generalize w4.setCell ⟨c, 4, none⟩ (.slice (some ⟨g, 0, none⟩) z1 ca) = w5 at H8 HQ ⊢
  obtain ⟨d0, d1⟩ := one_cells H8.out
  have hb6 := lt_heap H8.out
  go_quiet (fail)
  go_wp2
  go_ret3
  exact ⟨rfl, ⟨⟨_, _, HQ.out.1.below ⟨rfl, rfl, rfl, Nat.le_refl _, fun _ _ => rfl⟩, fun k hk => .inl (by rcases hk with e | e | e; exact .inl e; exact .inr (.inl e); exact .inr (.inr e))⟩, HQ.out.2.drewN _⟩⟩
theorem fnext_no (h : P w c base a b t n va vc x) (hn : x.has = false) : Calls Tryd.prog 10 #[ptr c] w fun e w' => e = .returned (nv none) ∧ Px w c base a b t n va vc x w' := by
  have hh := fhas h
  rw [hn] at hh
  have HH := Lib.hid hh
  have HP := Lib.hid h
  clear h hh hn
  go_enter Tryd.func10, Tryd.ntmps10
  go_wp2_with (go_at_call 18; refine HH.out.mono ?_; rintro e w1 ⟨rfl, hb⟩; have B0 := Lib.hid hb; obtain ⟨c0, c1, c2, c3, c4, c5⟩ := (HP.out.below hb).cells; have hl := (HP.out.below hb).hd.lt; clear hb)
  go_ret3
  exact ⟨rfl, HP.out.px_below B0.out⟩
set_option maxHeartbeats 8000000 in
theorem fnext_c (h : P w c base a b t n va vc x) (ha : x.an = []) (k : Nat) (y : Wt) (hk : x.cs[k]? = some y) (hy : y.lf = 0) (hb : ∀ j z, j < k → x.cs[j]? = some z → z.lf ≠ 0) :
    Calls Tryd.prog 10 #[ptr c] w fun e w' => e = .returned (nv (some y.m)) ∧ Px w c base a b t n va vc { x with cs := x.cs.set k ⟨y.m, y.tr, x.t2, true⟩ } w' := by
  have hx := h.ok
  have hh := fhas h
  have HA := Lib.hid ha
  have e0 : x.has = true := by
    rw [has_eq, ha]
    have : (x.cs.any fun w => w.lf == 0) = true := List.any_eq_true.2 ⟨y, List.mem_of_getElem? hk, by rw [hy]; rfl⟩
    rw [this]; rfl
  rw [e0] at hh
  have HH := Lib.hid hh
  have hsay := say_skip x.t2 hy x.cs k hk hb
  have hnx := hx.next
  unfold Ct.next at hnx
  rw [ha] at hnx
  dsimp only at hnx
  rw [hsay] at hnx
  have hsd := Sd.say hx.t2.1 h.sd
  rw [hsay] at hsd
  have HX : Hid (({ x with cs := x.cs.set k ⟨y.m, y.tr, x.t2, true⟩ } : Ct).Ok ∧ Sd { x with cs := x.cs.set k ⟨y.m, y.tr, x.t2, true⟩ }) := Lib.hid ⟨by rw [← ha] at hnx; exact hnx, hsd⟩
  have hklt : k < x.cs.length := (List.getElem?_eq_some_iff.1 hk).1
  have hmk := (hx.cs y (List.mem_of_getElem? hk)).ok
  have CP := Lib.hid (fun w ht => fput y.m hmk.in_ (by have := ok_b hmk; omega) w ht)
  have CC := Lib.hid (fun w => fchan y.m hmk.in_ w)
  have hfew := hx.cs_few
  have ix : ∀ u, Below w.heap.size w u → Calls Tryd.prog 26 #[vc, .func (.func 27) #[] #[]] u fun e u' => e = .returned (nm k) ∧ Below u.heap.size u u' := fun u hb2 => (find_due (w := u) (fun y => y.lf == 0) (h.below hb2).cs (by omega) fun y _ u' _ => fdue y u').mono fun e u' ⟨i, e1, e2, e3⟩ => ⟨by rw [e1, e2.some_eq hk (by rw [hy]; rfl) fun j z hj hz => beq_eq_false_iff_ne.2 (hb j z hj hz)], e3⟩
  obtain ⟨oa, ca, rfl, _⟩ := row_form h.an
  rw [ha] at h ⊢
  rw [show ([] : List Ms).length = 0 from rfl] at h ⊢
  obtain ⟨ob, cb, rfl, gb⟩ := row_form h.cs
  obtain ⟨g, rfl⟩ := gb k hklt
  have HI := Lib.hid ix
  have HP := Lib.hid h
  have HK := Lib.hid hk
  have hcap := own_raw h.cs
  obtain ⟨m, hm⟩ : ∃ m, x.cs.length = m := ⟨_, rfl⟩
  rw [hm] at h HP HI hklt hfew hcap ⊢
  obtain ⟨cur, _, hmc, hmx, _, _⟩ := hcap
  have hmax : cb ≤ 9223372036854775807 := by unfold maxLen at hmx; omega
  have k0 : (0 : Int) ≤ (k : Int) := by omega
  have k1 : (k : Int) < (m : Int) := by omega
  have e2 : min (max t 1) 255 = ((x.t2 : Nat) : Int) := h.raw.rt.symm
  clear h hh hx ha hk hy hb e0 hsay hnx hsd hmk ix gb hm hmx
  go_enter Tryd.func10, Tryd.ntmps10
  go_wp2_with (go_at_call 18; refine HH.out.mono ?_; rintro e w1 ⟨rfl, hb⟩; have B0 := Lib.hid hb; obtain ⟨c0, c1, c2, c3, c4, c5⟩ := (HP.out.below hb).cells; have hl := (HP.out.below hb).hd.lt; clear hb)
  clear c0 c1 c2 c3 c4 c5 hl
  refine wp_region_held_drew (S := (fun w' => Below w1.heap.size w1 w')) (by kernel_rfl) (Below.refl _ _).drew (fun hHeld => ?_)
  refine' wpAnyH_take (i := 0) (oi := { dst := some 36, op := Go.Op.move (Go.Operand.tmp 0), type := 26, pos := "ctl.go:78", after := #[], guard := none }) (v := _) rfl (by kernel_rfl) (by kernel_rfl) (by kernel_rfl) (fun _ _ _ h => h) (Or.inl ⟨by rfl, ?hy1⟩) (by assumption) ?hr1
  case hy1 => (intro _ hSw; (try dsimp only at hSw); go_simp <;> with_reducible rfl)
  simp only [Act.put, List.setIfInBounds_toArray, List.set_cons_zero, List.set_cons_succ]
  refine' wpAnyH_take (i := 1) (oi := { dst := some 37, op := Go.Op.nilCheck (Go.Operand.tmp 36), type := 0, pos := "ctl.go:78", after := #[{ on := 0, ground := Go.Ground.data }], guard := none }) (v := _) rfl (by kernel_rfl) (by kernel_rfl) (by kernel_rfl) (fun _ _ _ h => h) (Or.inl ⟨by rfl, ?hy2⟩) (by assumption) ?hr2
  case hy2 => (intro _ hSw; (try dsimp only at hSw); go_simp <;> with_reducible rfl)
  simp only [Act.put, List.setIfInBounds_toArray, List.set_cons_zero, List.set_cons_succ]
  refine' wpAnyH_take (i := 2) (oi := { dst := some 38, op := Go.Op.fieldAddr 65 (Go.Operand.tmp 37) 5, type := 0, pos := "ctl.go:78", after := #[{ on := 1, ground := Go.Ground.data }], guard := none }) (v := _) rfl (by kernel_rfl) (by kernel_rfl) (by kernel_rfl) (fun _ _ _ h => h) (Or.inl ⟨by rfl, ?hy3⟩) (by assumption) ?hr3
  case hy3 => (intro _ hSw; (try dsimp only at hSw); go_simp <;> with_reducible rfl)
  simp only [Act.put, List.setIfInBounds_toArray, List.set_cons_zero, List.set_cons_succ]
  refine' wpAnyH_take (i := 3) (oi := { dst := some 39, op := Go.Op.load 63 (Go.Operand.tmp 38), type := 63, pos := "ctl.go:78", after := #[{ on := 2, ground := Go.Ground.data }], guard := none }) (v := _) rfl (by kernel_rfl) (by kernel_rfl) (by kernel_rfl) (fun _ _ _ h => h) (Or.inl ⟨by rfl, ?hy4⟩) (by assumption) ?hr4
  case hy4 => (intro _ hSw; (try dsimp only at hSw); have c5 := ((HP.out.below B0.out).below hSw).cells.2.2.2.2.2; go_simp <;> with_reducible rfl)
  simp only [Act.put, List.setIfInBounds_toArray, List.set_cons_zero, List.set_cons_succ]
  refine' wpAnyH_take (i := 4) (oi := { dst := some 40, op := Go.Op.move (Go.Operand.tmp 0), type := 26, pos := "ctl.go:78", after := #[], guard := none }) (v := _) rfl (by kernel_rfl) (by kernel_rfl) (by kernel_rfl) (fun _ _ _ h => h) (Or.inl ⟨by rfl, ?hy5⟩) (by assumption) ?hr5
  case hy5 => (intro _ hSw; (try dsimp only at hSw); go_simp <;> with_reducible rfl)
  simp only [Act.put, List.setIfInBounds_toArray, List.set_cons_zero, List.set_cons_succ]
  refine' wpAnyH_take (i := 5) (oi := { dst := some 41, op := Go.Op.nilCheck (Go.Operand.tmp 40), type := 0, pos := "ctl.go:78", after := #[{ on := 4, ground := Go.Ground.data }], guard := none }) (v := _) rfl (by kernel_rfl) (by kernel_rfl) (by kernel_rfl) (fun _ _ _ h => h) (Or.inl ⟨by rfl, ?hy6⟩) (by assumption) ?hr6
  case hy6 => (intro _ hSw; (try dsimp only at hSw); go_simp <;> with_reducible rfl)
  simp only [Act.put, List.setIfInBounds_toArray, List.set_cons_zero, List.set_cons_succ]
  refine' wpAnyH_take (i := 6) (oi := { dst := some 42, op := Go.Op.fieldAddr 65 (Go.Operand.tmp 41) 5, type := 0, pos := "ctl.go:78", after := #[{ on := 5, ground := Go.Ground.data }], guard := none }) (v := _) rfl (by kernel_rfl) (by kernel_rfl) (by kernel_rfl) (fun _ _ _ h => h) (Or.inl ⟨by rfl, ?hy7⟩) (by assumption) ?hr7
  case hy7 => (intro _ hSw; (try dsimp only at hSw); go_simp <;> with_reducible rfl)
  simp only [Act.put, List.setIfInBounds_toArray, List.set_cons_zero, List.set_cons_succ]
  refine' wpAnyH_take (i := 7) (oi := { dst := some 43, op := Go.Op.load 63 (Go.Operand.tmp 42), type := 63, pos := "ctl.go:78", after := #[{ on := 6, ground := Go.Ground.data }], guard := none }) (v := _) rfl (by kernel_rfl) (by kernel_rfl) (by kernel_rfl) (fun _ _ _ h => h) (Or.inl ⟨by rfl, ?hy8⟩) (by assumption) ?hr8
  case hy8 => (intro _ hSw; (try dsimp only at hSw); have c5 := ((HP.out.below B0.out).below hSw).cells.2.2.2.2.2; go_simp <;> with_reducible rfl)
  simp only [Act.put, List.setIfInBounds_toArray, List.set_cons_zero, List.set_cons_succ]
  refine wpAnyH_ready (rs := [8]) (by kernel_rfl) (by simp) ?_
  refine AllReadyH.cons (o := { dst := some 44, op := Go.Op.call { callee := Go.Callee.value (Go.Operand.func 26), args := #[Go.Operand.tmp 43, Go.Operand.func 27], argTypes := #[63, 70] }, type := 3, pos := "ctl.go:78", after := #[{ on := 7, ground := Go.Ground.data }], guard := none }) rfl (fun K hK => ?_) AllReadyH.nil
  go_simp
  (with_reducible refine (HI.out _ (below_on B0.out hHeld)).mono ?_)
  rintro e wc ⟨rfl, hb⟩
  go_wp2_with fail
  refine hK.out _ _ (below_on hHeld hb) (fun hNext => ?_)
  clear hK K hHeld hb
  have hHeld := hNext
  clear hNext
  (try simp only [Act.put, List.setIfInBounds_toArray, List.set_cons_zero, List.set_cons_succ])
  refine' wpAnyH_take (i := 9) (oi := { dst := some 45, op := Go.Op.indexAddr 63 (Go.Operand.tmp 39) (Go.Operand.tmp 44), type := 0, pos := "ctl.go:78", after := #[{ on := 3, ground := Go.Ground.data }, { on := 8, ground := Go.Ground.data }], guard := none }) (v := _) rfl (by kernel_rfl) (by kernel_rfl) (by kernel_rfl) (fun _ _ _ h => h) (Or.inl ⟨by rfl, ?hy9⟩) (by assumption) ?hr9
  case hy9 => (intro _ hSw; (try dsimp only at hSw); go_simp <;> with_reducible rfl)
  simp only [Act.put, List.setIfInBounds_toArray, List.set_cons_zero, List.set_cons_succ]
  refine' wpAnyH_take (i := 10) (oi := { dst := some 6, op := Go.Op.assign (Go.Operand.tmp 45), type := 75, pos := "ctl.go:78", after := #[{ on := 9, ground := Go.Ground.data }, { on := 8, ground := Go.Ground.chain }, { on := 0, ground := Go.Ground.phase }, { on := 1, ground := Go.Ground.phase }, { on := 2, ground := Go.Ground.phase }, { on := 3, ground := Go.Ground.phase }, { on := 4, ground := Go.Ground.phase }, { on := 5, ground := Go.Ground.phase }, { on := 6, ground := Go.Ground.phase }, { on := 7, ground := Go.Ground.phase }, { on := 8, ground := Go.Ground.phase }, { on := 9, ground := Go.Ground.phase }], guard := none }) (v := _) rfl (by kernel_rfl) (by kernel_rfl) (by kernel_rfl) (fun _ _ _ h => h) (Or.inl ⟨by rfl, ?hy10⟩) (by assumption) ?hr10
  case hy10 => (intro _ hSw; (try dsimp only at hSw); go_simp <;> with_reducible rfl)
  simp only [Act.put, List.setIfInBounds_toArray, List.set_cons_zero, List.set_cons_succ]
  refine wpAnyH_done (by kernel_rfl) ?_ _
  have B7 := Lib.hid (below_on B0.out hHeld)
  clear hHeld HI
  obtain ⟨c0, c1, c2, c3, c4, c5⟩ := (HP.out.below B7.out).cells
  have hl := (HP.out.below B7.out).hd.lt
  have d21 : wc.cell? ⟨g, k * 22 + 21, none⟩ = some (nm y.lf) := by
    have := OwnS.cell kl_len (HP.out.below B7.out).cs k y HK.out 21 (by decide)
    rw [Nat.mul_comm 22 k] at this
    exact this
  have hgf : ∀ i, wc.frozen? ⟨g, i, none⟩ = false := (HP.out.below B7.out).cs.free
  have hgl : g < wc.heap.size := ((HP.out.below B7.out).own_lt g (.inr (.inr rfl))).2
  have HS : Hid (OwnS KT 22 kl (wc.setCell ⟨g, k * 22 + 21, none⟩ (nm x.t2)) base (.slice (some ⟨g, 0, none⟩) m cb) (x.cs.set k ⟨y.m, y.tr, x.t2, true⟩)) := Lib.hid (own_cell kl_len (HP.out.below B7.out).cs k y ⟨y.m, y.tr, x.t2, true⟩ HK.out 21 (by decide) (nm x.t2) rfl)
  have HP8 := Lib.hid ((HP.out.below B7.out).upd HS.out (mod_setCell g (k * 22 + 21) wc (nm x.t2)) HX.out.1 HX.out.2)
  have hkl2 : k < x.cs.length := (List.getElem?_eq_some_iff.1 HK.out).1
  have HR8 : Hid ((wc.setCell ⟨g, k * 22 + 21, none⟩ (nm x.t2)).rangeAt g (k * 22) (ml y.m)) := Lib.hid (by
    have := own_rangez kl_len HS.out k ⟨y.m, y.tr, x.t2, true⟩ (List.getElem?_set_self hkl2)
    exact fun j v hv => this j v (by
      unfold kl
      rw [List.getElem?_append_left (List.getElem?_eq_some_iff.1 hv).1]; exact hv))
  have HC8 := Lib.hid ((Chg.of_below (S := PS c (.slice oa 0 ca) (.slice (some ⟨g, 0, none⟩) m cb)) B7.out).setCell g (k * 22 + 21) (nm x.t2) fun _ => .inr (.inr rfl))
  clear hkl2 B7 B0 HS HH
  go_wp2_with (first
    | ((with_reducible refine ldr (m := y.m) isM HR8.out ?hx ?_); (case hx => rfl))
    | (go_at_call 16; ((with_reducible refine (CP.out _ HP8.out.tab).mono ?_); rintro e w9 ⟨rfl, hb⟩; have HP9 := Lib.hid (HP8.out.below hb); have HR9 := Lib.hid (range_on HR8.out hb); have HC9 := Lib.hid (HC8.out.on hb); clear hb c0 c1 c2 c3 c4 c5 hl d21 hgf hgl))
    | ((with_reducible refine ldr (m := y.m) isM HR9.out ?hx ?_); (case hx => rfl))
    | (go_at_call 28; ((with_reducible refine (CC.out _).mono ?_); rintro e w10 ⟨rfl, hb⟩; have HP10 := Lib.hid (HP9.out.below hb); have HC10 := Lib.hid (HC9.out.on hb); clear hb)))
  go_ret3
  exact ⟨rfl, ⟨⟨_, _, by have h10 := HP10.out; rw [HA.out] at h10; exact h10, fun k hk => .inl hk⟩, HC10.out⟩⟩
theorem fnext (h : P w c base a b t n va vc x) : Calls Tryd.prog 10 #[ptr c] w fun e w' => e = .returned (nv x.next.1) ∧ Px w c base a b t n va vc x.next.2 w' := by
  cases ha : x.an with
  | cons y r =>
    have e1 : x.next = (some y, { x with an := r }) := by unfold Ct.next; rw [ha]
    rw [e1]
    exact fnext_a h y ha
  | nil =>
    have e1 : x.next = ((say x.t2 x.cs).1, { x with cs := (say x.t2 x.cs).2 }) := by unfold Ct.next; rw [ha]
    rw [e1]
    by_cases hall : ∀ y ∈ x.cs, (y.lf == 0) = false
    · rw [say_all x.t2 x.cs fun y hy => beq_eq_false_iff_ne.1 (hall y hy)]
      refine fnext_no h ?_
      rw [has_eq, ha]
      have : (x.cs.any fun w => w.lf == 0) = false := by
        rw [Bool.eq_false_iff]; intro q
        obtain ⟨y, hy, e⟩ := List.any_eq_true.1 q
        rw [hall y hy] at e; cases e
      rw [this]; rfl
    · obtain ⟨k, y, h1, h2, h3⟩ := first_of hall
      have hy := beq_iff_eq.1 h2
      have hb : ∀ j z, j < k → x.cs[j]? = some z → z.lf ≠ 0 := fun j z hj hz => beq_eq_false_iff_ne.1 (h3 j z hj hz)
      rw [say_skip x.t2 hy x.cs k h1 hb]
      exact fnext_c h ha k y h1 hy hb
end
end Go.Proofs.YtakkhdammmcjcaaDoor.Ctl
