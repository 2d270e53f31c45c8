/-
  Layer 22, put together: CtlPnext, CtlTalk, Shelf. Conditions: as each theorem names them.
-/
import Derived.Test.YtakkhdammmcjcaaGreatDoorK13
import Derived.Test.YtakkhdammmcjcaaGreatDoorK17
import Derived.Test.YtakkhdammmcjcaaGreatDoorK01
import Derived.Test.YtakkhdammmcjcaaGreatDoorK04
import Derived.Test.YtakkhdammmcjcaaGreatDoorProg
import Derived.Lib.MinMax
import Derived.BigQuiet
import Derived.Shelf.LaysM
import Derived.Shelf.Strconv.Clone
namespace Go.Proofs.YtakkhdammmcjcaaGreatDoor.Ctl
open Go.RowKit Base Mem Msgs Cr
set_option maxRecDepth 100000
theorem builtC (a b t n : Int) : Tryz.prog.built CT [(0, im a), (1, im b), (2, im t), (3, im n)] = some #[im a, im b, im t, im n, .slice none 0 0, .slice none 0 0] := by kernel_rfl
set_option maxHeartbeats 2000000 in
theorem fnew (p : Pn.Pr) (t n : Int) (w : World) (ht : Tab w) : Calls Tryz.prog 11 #[Pn.pv p, im t, im n] w fun e w' => ∃ c, e = .returned (ptr c) ∧ P w' c w.heap.size p.n p.k t n (.slice none 0 0) (.slice none 0 0) (Ct.new p t n) ∧ Below w.heap.size w w' := by
 have HC := Lib.hid (builtC p.n p.k t n)
 have HT := Lib.hid ht
 have HB0 := Lib.hid (tab_pos ht)
 clear ht
 go_enter Tryz.func11, Tryz.ntmps11
 go_wp2_with (first
  | ((with_reducible refine bxz (pcl p) ?hx ?_); (case hx => rfl); intro b1 w1 h1 F1; obtain ⟨c0, c1, c2, c3, c4, c5, c6, c7⟩ := pcells h1; have l1 := lt_heap h1; have L1 := Lib.hid F1; clear h1 F1)
  | ((with_reducible refine bdB HC.out ?hl ?_); (case hl => kernel_rfl)))
 go_ret
 have hb := L1.out.below
 refine ⟨_, rfl, ⟨nest w1 [_] 0 _ rfl, ownS_nil _ _, ownS_nil _ _, hb.size, tab_below (tab_below HT.out hb) ((Below.refl _ _).alloc (Nat.le_refl _) _), HB0.out, ⟨rfl, rfl, (brought_t t).symm, (brought_n n).symm⟩, fun y hy => (by cases hy), Ct.Ok.new p t n⟩, below_on hb ((Below.refl _ _).alloc (Nat.le_refl _) _)⟩
section
variable {w w' : World} {c base g cap m : Nat} {a b t n : Int} {va vc : Value} {x : Ct} {r : List Ms} {l : List Wt}
theorem fwaits (h : P w c base a b t n va vc x) : Calls Tryz.prog 15 #[ptr c] w fun e w' => e = .returned (.tuple #[nm x.an.length, nm x.cs.length]) ∧ Below w.heap.size w w' := by
 obtain ⟨oa, ca, rfl, _⟩ := row_form h.an
 obtain ⟨ob, cb, rfl, _⟩ := row_form h.cs
 obtain ⟨c0, c1, c2, c3, c4, c5⟩ := h.cells
 have hl := h.hd.lt
 clear h
 go_enter Tryz.func15, Tryz.ntmps15
 go_wp2_with fail
 go_quiet (fail)
 go_wp2
 go_ret2
 exact ⟨rfl, ⟨rfl, rfl, rfl, Nat.le_refl _, fun _ _ => rfl⟩⟩
theorem has_eq (x : Ct) : x.has = (decide (0 < x.an.length) || x.cs.any fun w => w.lf == 0) := by
 unfold Ct.has
 rw [Bool.or_comm]
 congr 1
 cases x.an <;> rfl
set_option maxHeartbeats 2000000 in
theorem fhas (h : P w c base a b t n va vc x) : Calls Tryz.prog 16 #[ptr c] w fun e w' => e = .returned (.bool x.has) ∧ Below w.heap.size w w' := by
 have hC := fcontains h.cs (by have := h.ok.cs_few; omega)
 obtain ⟨oa, ca, rfl, _⟩ := row_form h.an
 obtain ⟨c0, c1, c2, c3, c4, c5⟩ := h.cells
 have hl := h.hd.lt
 rw [has_eq]
 generalize (x.cs.any fun w => w.lf == 0) = q at hC ⊢
 have HC := Lib.hid hC
 generalize x.an.length = z at c4 ⊢
 clear h hC
 by_cases hz : 0 < z
 · have t1 : decide ((0 : Int) < (z : Int)) = true := decide_eq_true (by omega)
   have t2 : (0 : Int) < (z : Int) := by omega
   rw [decide_eq_true hz, Bool.true_or]
   go_enter Tryz.func16, Tryz.ntmps16
   go_wp2
   go_ret
   exact ⟨rfl, Below.refl _ _⟩
 · have t1 : decide ((0 : Int) < (z : Int)) = false := decide_eq_false (by omega)
   have t2 : ¬ (0 : Int) < (z : Int) := by omega
   rw [decide_eq_false hz, Bool.false_or]
   go_enter Tryz.func16, Tryz.ntmps16
   go_wp2_with (go_at_call 34; refine HC.out.mono ?_; rintro e w1 ⟨rfl, hb⟩; have HB1 := Lib.hid hb; clear hb)
   go_ret
   exact ⟨rfl, HB1.out⟩
/-- One cell of an element is written. -/
theorem flat_cell {α : Type} {z : Nat} {fc : α → List Value} (hl : ∀ x, (fc x).length = z) (l : List α) (k : Nat) (y y' : α) (hk : l[k]? = some y) (j : Nat) (hj : j < z) (v : Value) (e : (fc y).set j v = fc y') : (l.flatMap fc).set (z * k + j) v = (l.set k y').flatMap fc := by
 obtain ⟨hk2, he⟩ := List.getElem?_eq_some_iff.1 hk
 have e1 : l = l.take k ++ y :: l.drop (k + 1) := by rw [← he, List.getElem_cons_drop, List.take_append_drop]
 have hp : ((l.take k).flatMap fc).length = z * k := by rw [flat_len hl, List.length_take, Nat.min_eq_left (by omega)]
 have e2 : l.set k y' = l.take k ++ y' :: l.drop (k + 1) := by rw [List.set_eq_take_append_cons_drop, if_pos hk2]
 rw [e2, List.flatMap_append, List.flatMap_cons, ← e]
 conv => lhs; arg 1; rw [e1, List.flatMap_append, List.flatMap_cons]
 rw [← hp, List.set_append_right _ _ (by omega), show ((l.take k).flatMap fc).length + j - ((l.take k).flatMap fc).length = j by omega, List.set_append_left _ _ (by rw [hl]; exact hj)]
theorem own_cell {α : Type} {E z n : Nat} {fc : α → List Value} {l : List α} (hl : ∀ x, (fc x).length = z) (h : OwnS E z fc w base (.slice (some ⟨g, 0, none⟩) n cap) l) (k : Nat) (y y' : α) (hk : l[k]? = some y) (j : Nat) (hj : j < z) (v : Value) (e : (fc y).set j v = fc y') : OwnS E z fc (w.setCell ⟨g, k * z + j, none⟩ v) base (.slice (some ⟨g, 0, none⟩) n cap) (l.set k y') := by
 have hn := h.num
 subst hn
 unfold OwnS at *
 rw [List.length_set, ← flat_cell hl l k y y' hk j hj v e, Nat.mul_comm k z]
 exact (h.stored _ v).1
/-- The commands' row was written, in its place. -/
theorem P.upd (h : P w c base a b t n va (.slice (some ⟨g, 0, none⟩) m cap) x) (ho : OwnS KT 22 kl w' base (.slice (some ⟨g, 0, none⟩) m cap) l) (M : Mod g w w') (hok : ({ x with cs := l } : Ct).Ok) (hs : Sd { x with cs := l }) : P w' c base a b t n va (.slice (some ⟨g, 0, none⟩) m cap) { x with cs := l } :=
 ⟨(M.rest c fun e => (h.cs_ne (k := g) rfl).1 e.symm).trans h.hd, row_keep h.an fun k hk => M.rest k fun e => (h.an_ne hk).2 (by rw [e]; rfl), ho, h.lo, tab_eqv h.tab (M.rest TB fun e => by have := (h.own_lt g (.inr (.inr rfl))).1; have := h.tb; omega), h.tb, ⟨h.raw.rn, h.raw.rk, h.raw.rt, h.raw.rm⟩, hs, hok⟩
/-- The answers' row was written, or lies elsewhere now, and is stored. -/
structure Pa (u : World) (c base : Nat) (a b t n : Int) (va vc va' : Value) (y : Ct) (u' : World) : Prop where
 p : P (u'.setCell ⟨c, 4, none⟩ va') c base a b t n va' vc y
 sub : ∀ k, PS c va' vc k → PS c va vc k ∨ u.heap.size ≤ k
 chg : Chg (PS c va vc) u (u'.setCell ⟨c, 4, none⟩ va')
 c4 : u'.cell? ⟨c, 4, none⟩ = some va
 fr : ∀ i, u'.frozen? ⟨c, i, none⟩ = false
 lt : c < u'.heap.size
theorem P.put_an {va' : Value} (h : P w c base a b t n va vc x) (ho : OwnS AT 2 al w' base va' r) (hc : Chg (fun k => va.ownBlock = some k) w w') (hv : ∀ k, va'.ownBlock = some k → va.ownBlock = some k ∨ w.heap.size ≤ k) (hok : ({ x with an := r } : Ct).Ok) : Pa w c base a b t n va vc va' { x with an := r } w' := by
 have hd : At w' c #[im a, im b, im t, im n, va, vc] CT := h.hd.other hc fun e => (h.an_ne e).1 rfl
 have hcs : OwnS KT 22 kl w' base vc x.cs := row_keep h.cs fun k hk => hc.block k (h.cs.lt k hk).2 (h.cs_ne hk).2
 have htb : Tab w' := tab_eqv h.tab (hc.block TB h.tb_lt fun e => by have := (h.own_lt TB (.inr (.inl e))).1; have := h.tb; omega)
 have hlo := h.lo
 have htl := h.tb
 refine ⟨⟨hd.set 4 va', row_keep ho fun g hg => set_other (fun e => ?_) _, row_keep hcs fun g hg => set_other (fun e => ?_) _, h.lo, tab_eqv htb (set_other (fun e => by omega) _), h.tb, ⟨h.raw.rn, h.raw.rk, h.raw.rt, h.raw.rm⟩, h.sd, hok⟩, fun k hk => ?_, (hc.mono fun _ e => .inr (.inl e)).setCell c 4 va' fun _ => .inl rfl, hd.cell 4 _ rfl, hd.free, hd.lt⟩
 · obtain ⟨cs, hb⟩ := row_blk ho hg
   exact type_ne hb hd (by decide) e
 · obtain ⟨cs, hb⟩ := row_blk hcs hg
   exact type_ne hb hd (by decide) e
 · rcases hk with hk | hk | hk
   · exact .inl (.inl hk)
   · rcases hv k hk with e | e
     · exact .inl (.inr (.inl e))
     · exact .inr e
   · exact .inl (.inr (.inr hk))
theorem range_on {g o : Nat} {vs : List Value} (h : w.rangeAt g o vs) (hb : Below w.heap.size w w') : w'.rangeAt g o vs := fun j v hv => (hb.cell (p := ⟨g, o + j, none⟩) (lt_cell (h j v hv))).trans (h j v hv)
theorem one_cells {y : Ms} {b : Nat} {t : TypeId} (h : w.heap[b]? = some (.cells (ac y) t (0, 0))) : w.cell? ⟨b, 0, none⟩ = some (.string (putS y)) ∧ w.cell? ⟨b, 1, none⟩ = some (.int .u8 (ch y : Int)) := ⟨cell_of h rfl, cell_of h rfl⟩
set_option maxHeartbeats 8000000 in
theorem fnext_a (h : P w c base a b t n va vc x) (y : Ms) (ha : x.an = y :: r) : Calls Tryz.prog 20 #[ptr c] w fun e w' => e = .returned (nv (some y)) ∧ Px w c base a b t n va vc { x with an := r } w' := by
 have hx := h.ok
 have hh := fhas h
 have e0 : x.has = true := by rw [has_eq, ha]; rfl
 rw [e0] at hh
 have HH := Lib.hid hh
 obtain ⟨oa, ca, rfl, ga⟩ := row_form h.an
 obtain ⟨g, rfl⟩ := ga 0 (by rw [ha]; exact Nat.succ_pos _)
 have HO : Hid (({ x with an := r } : Ct).Ok) := Lib.hid (by
  have := hx.next
  unfold Ct.next at this
  rw [ha] at this
  exact this)
 obtain ⟨z, hz⟩ : ∃ z, x.an.length = z := ⟨_, rfl⟩
 obtain ⟨z1, hz1⟩ : ∃ z1, r.length = z1 := ⟨_, rfl⟩
 have hz2 : z = z1 + 1 := by rw [← hz, ha, ← hz1]; rfl
 rw [hz] at h ⊢
 have HP := Lib.hid h
 have hlt := h.own_lt g (.inr (.inl rfl))
 have HG := Lib.hid hlt
 have HR : Hid (∀ u, Below w.heap.size w u → u.rangeAt g (0 * 2) (al y)) := Lib.hid fun u hb => own_rangez al_len (h.below hb).an 0 y (by rw [ha]; rfl)
 have HD : Hid (∀ u, OwnS AT 2 al u base (.slice (some ⟨g, 0, none⟩) z ca) x.an → Calls Tryz.prog 42 #[.slice (some ⟨g, 0, none⟩) z ca, .int .i64 0, .int .i64 1] u fun e u' => e = .returned (.slice (some ⟨g, 0, none⟩) z1 ca) ∧ OwnS AT 2 al u' base (.slice (some ⟨g, 0, none⟩) z1 ca) r ∧ u.grownBy u' (some g)) := Lib.hid fun u hu => by
  have := fdel_a 0 1 rfl (by omega) hu
  rw [ha, show z - 1 = z1 by omega] at this
  exact this
 have t1 : decide ((0 : Int) < (z : Int)) = true := decide_eq_true (by omega)
 have t2 : (0 : Int) < (z : Int) := by omega
 have t3 : 0 < z := by omega
 clear h hh hx ha hz hz2 hz1 e0 ga hlt
 go_enter Tryz.func20, Tryz.ntmps20
 go_wp2_with (first
  | (go_at_call 16; refine HH.out.mono ?_; rintro e w1 ⟨rfl, hb⟩; have B0 := Lib.hid hb; obtain ⟨c0, c1, c2, c3, c4, c5⟩ := (HP.out.below hb).cells; have hl := (HP.out.below hb).hd.lt; clear hb)
  | ((with_reducible refine ldz isA (HR.out _ B0.out) ?hz ?hx ?_); (case hz => rfl); (case hx => rfl))
  | ((with_reducible refine alr (T := AT) (cs := #[.string ⟨#[]⟩, .int .u8 0]) (by kernel_rfl) ?_); intro b6 w2 h2 F2; have H5 := Lib.hid h2; have B2 := Lib.hid (below_on B0.out F2.below); have N5 := Lib.hid (F2.le B0.out); clear h2 F2 c0 c1 c2 c3 c4 c5 hl)
  | ((with_reducible refine str (ac y) isA H5.out ?h0 ?h1 ?hc ?hx ?hy ?_); (case h0 => rfl); (case h1 => rfl); (case hc => exact all_oneCell_toArray (al_one y)); (case hx => rfl); (case hy => rfl); intro w3 h3 M3; have H6 := Lib.hid h3; have B3 := Lib.hid (M3.below B2.out N5.out); clear h3 M3; obtain ⟨c0, c1, c2, c3, c4, c5⟩ := (HP.out.below B3.out).cells; have hl := (HP.out.below B3.out).hd.lt)
  | (go_at_call 42; refine (HD.out _ (HP.out.below B3.out).an).mono ?_; rintro e w4 ⟨rfl, ho, hg⟩; have PA := Lib.hid ((HP.out.below B3.out).put_an ho (Chg.of_grown hg fun k hk => hk) (fun k hk => .inl hk) HO.out); have H7 := Lib.hid ((Chg.of_grown (S := fun k => k = g) hg fun k hk => (Option.some.inj hk).symm).stays H6.out fun e => by have h1 := N5.out; have h2 := HG.out; omega); clear ho hg c0 c1 c2 c3 c4 c5 hl; have c4 := PA.out.c4; have hf := PA.out.fr; have hl := PA.out.lt))
 have H8 : Hid ((w4.setCell ⟨c, 4, none⟩ (.slice (some ⟨g, 0, none⟩) z1 ca)).heap[b6]? = some (.cells (ac y) AT (0, 0))) := Lib.hid ((set_other (fun e => by have h1 := N5.out; have h2 := HP.out.hd.lt; omega) _).trans H7.out)
 have HQ : Hid (P (w4.setCell ⟨c, 4, none⟩ (.slice (some ⟨g, 0, none⟩) z1 ca)) c base a b t n (.slice (some ⟨g, 0, none⟩) z1 ca) vc { x with an := r } ∧ Chg (PS c (.slice (some ⟨g, 0, none⟩) z ca) vc) w (w4.setCell ⟨c, 4, none⟩ (.slice (some ⟨g, 0, none⟩) z1 ca))) := Lib.hid ⟨PA.out.p, (Chg.of_below B3.out).then PA.out.chg⟩
 clear PA H7 H6 H5 c4 hf hl B0 B2 B3 N5 HD HR HH
 generalize w4.setCell ⟨c, 4, none⟩ (.slice (some ⟨g, 0, none⟩) z1 ca) = w5 at H8 HQ ⊢
 obtain ⟨d0, d1⟩ := one_cells H8.out
 have hb6 := lt_heap H8.out
 go_quiet (fail)
 go_wp2
 go_ret3
 exact ⟨rfl, ⟨⟨_, _, HQ.out.1.below ⟨rfl, rfl, rfl, Nat.le_refl _, fun _ _ => rfl⟩, fun k hk => .inl (by rcases hk with e | e | e; exact .inl e; exact .inr (.inl e); exact .inr (.inr e))⟩, HQ.out.2.drewN _⟩⟩
theorem fnext_no (h : P w c base a b t n va vc x) (hn : x.has = false) : Calls Tryz.prog 20 #[ptr c] w fun e w' => e = .returned (nv none) ∧ Px w c base a b t n va vc x w' := by
 have hh := fhas h
 rw [hn] at hh
 have HH := Lib.hid hh
 have HP := Lib.hid h
 clear h hh hn
 go_enter Tryz.func20, Tryz.ntmps20
 go_wp2_with (go_at_call 16; refine HH.out.mono ?_; rintro e w1 ⟨rfl, hb⟩; have B0 := Lib.hid hb; obtain ⟨c0, c1, c2, c3, c4, c5⟩ := (HP.out.below hb).cells; have hl := (HP.out.below hb).hd.lt; clear hb)
 go_ret3
 exact ⟨rfl, HP.out.px_below B0.out⟩
set_option maxHeartbeats 8000000 in
theorem fnext_c (h : P w c base a b t n va vc x) (ha : x.an = []) (k : Nat) (y : Wt) (hk : x.cs[k]? = some y) (hy : y.lf = 0) (hb : ∀ j z, j < k → x.cs[j]? = some z → z.lf ≠ 0) :
 Calls Tryz.prog 20 #[ptr c] w fun e w' => e = .returned (nv (some y.m)) ∧ Px w c base a b t n va vc { x with cs := x.cs.set k ⟨y.m, y.tr, x.t2, true⟩ } w' := by
 have hx := h.ok
 have hh := fhas h
 have HA := Lib.hid ha
 have e0 : x.has = true := by
  rw [has_eq, ha]
  have : (x.cs.any fun w => w.lf == 0) = true := List.any_eq_true.2 ⟨y, List.mem_of_getElem? hk, by rw [hy]; rfl⟩
  rw [this]; rfl
 rw [e0] at hh
 have HH := Lib.hid hh
 have hsay := say_skip x.t2 hy x.cs k hk hb
 have hnx := hx.next
 unfold Ct.next at hnx
 rw [ha] at hnx
 dsimp only at hnx
 rw [hsay] at hnx
 have hsd := Sd.say hx.t2.1 h.sd
 rw [hsay] at hsd
 have HX : Hid (({ x with cs := x.cs.set k ⟨y.m, y.tr, x.t2, true⟩ } : Ct).Ok ∧ Sd { x with cs := x.cs.set k ⟨y.m, y.tr, x.t2, true⟩ }) := Lib.hid ⟨by rw [← ha] at hnx; exact hnx, hsd⟩
 have hklt : k < x.cs.length := (List.getElem?_eq_some_iff.1 hk).1
 have hmk := (hx.cs y (List.mem_of_getElem? hk)).ok
 have CP := Lib.hid (fun w ht => fput y.m hmk.in_ (by have := ok_b hmk; omega) w ht)
 have CC := Lib.hid (fun w => fchan y.m hmk.in_ w)
 have hfew := hx.cs_few
 have ix : ∀ u, Below w.heap.size w u → Calls Tryz.prog 43 #[vc, .func (.func 35) #[] #[]] u fun e u' => e = .returned (nm k) ∧ Below u.heap.size u u' := fun u hb2 => (find_due (w := u) (fun y => y.lf == 0) (h.below hb2).cs (by omega) fun y _ u' _ => fdue y u').mono fun e u' ⟨i, e1, e2, e3⟩ => ⟨by rw [e1, e2.some_eq hk (by rw [hy]; rfl) fun j z hj hz => beq_eq_false_iff_ne.2 (hb j z hj hz)], e3⟩
 obtain ⟨oa, ca, rfl, _⟩ := row_form h.an
 rw [ha] at h ⊢
 rw [show ([] : List Ms).length = 0 from rfl] at h ⊢
 obtain ⟨ob, cb, rfl, gb⟩ := row_form h.cs
 obtain ⟨g, rfl⟩ := gb k hklt
 have HI := Lib.hid ix
 have HP := Lib.hid h
 have HK := Lib.hid hk
 have hcap := own_raw h.cs
 obtain ⟨m, hm⟩ : ∃ m, x.cs.length = m := ⟨_, rfl⟩
 rw [hm] at h HP HI hklt hfew hcap ⊢
 obtain ⟨cur, _, hmc, hmx, _, _⟩ := hcap
 have hmax : cb ≤ 9223372036854775807 := by unfold maxLen at hmx; omega
 have k0 : (0 : Int) ≤ (k : Int) := by omega
 have k1 : (k : Int) < (m : Int) := by omega
 have e2 : min (max t 1) 255 = ((x.t2 : Nat) : Int) := h.raw.rt.symm
 clear h hh hx ha hk hy hb e0 hsay hnx hsd hmk ix gb hm hmx
 go_enter Tryz.func20, Tryz.ntmps20
 go_wp2_with (go_at_call 16; refine HH.out.mono ?_; rintro e w1 ⟨rfl, hb⟩; have B0 := Lib.hid hb; obtain ⟨c0, c1, c2, c3, c4, c5⟩ := (HP.out.below hb).cells; have hl := (HP.out.below hb).hd.lt; clear hb)
 clear c0 c1 c2 c3 c4 c5 hl
 refine wp_region_held_drew (S := (fun w' => Below w1.heap.size w1 w')) (by kernel_rfl) (Below.refl _ _).drew (fun hHeld => ?_)
 refine' tk9 0 rfl ?_
 refine' tk9 1 rfl ?_
 refine' tk9 2 rfl ?_
 refine' tv9 3 rfl (by intro _ hSw; (try dsimp only at hSw); have c5 := ((HP.out.below B0.out).below hSw).cells.2.2.2.2.2; go_simp <;> with_reducible rfl) ?_
 refine' tk9 4 rfl ?_
 refine' tk9 5 rfl ?_
 refine' tk9 6 rfl ?_
 refine' tv9 7 rfl (by intro _ hSw; (try dsimp only at hSw); have c5 := ((HP.out.below B0.out).below hSw).cells.2.2.2.2.2; go_simp <;> with_reducible rfl) ?_
 refine ry [8] (.cons rfl (fun K hK => ?_) .nil)
 go_simp
 (with_reducible refine (HI.out _ (below_on B0.out hHeld)).mono ?_)
 rintro e wc ⟨rfl, hb⟩
 go_wp2_with fail
 refine hK.out _ _ (below_on hHeld hb) (fun hNext => ?_)
 clear hK K hHeld hb
 have hHeld := hNext; clear hNext
 (try simp only [Act.put, z1', z2', z3'])
 refine' tk9 9 rfl ?_
 refine' tk9 10 rfl ?_
 refine wpAnyH_done (by kernel_rfl) ?_ _
 have B7 := Lib.hid (below_on B0.out hHeld)
 clear hHeld HI
 obtain ⟨c0, c1, c2, c3, c4, c5⟩ := (HP.out.below B7.out).cells
 have hl := (HP.out.below B7.out).hd.lt
 have d21 : wc.cell? ⟨g, k * 22 + 21, none⟩ = some (nm y.lf) := by
  have := OwnS.cell kl_len (HP.out.below B7.out).cs k y HK.out 21 (by decide)
  rw [Nat.mul_comm 22 k] at this
  exact this
 have hgf : ∀ i, wc.frozen? ⟨g, i, none⟩ = false := (HP.out.below B7.out).cs.free
 have hgl : g < wc.heap.size := ((HP.out.below B7.out).own_lt g (.inr (.inr rfl))).2
 have HS : Hid (OwnS KT 22 kl (wc.setCell ⟨g, k * 22 + 21, none⟩ (nm x.t2)) base (.slice (some ⟨g, 0, none⟩) m cb) (x.cs.set k ⟨y.m, y.tr, x.t2, true⟩)) := Lib.hid (own_cell kl_len (HP.out.below B7.out).cs k y ⟨y.m, y.tr, x.t2, true⟩ HK.out 21 (by decide) (nm x.t2) rfl)
 have HP8 := Lib.hid ((HP.out.below B7.out).upd HS.out (mod_setCell g (k * 22 + 21) wc (nm x.t2)) HX.out.1 HX.out.2)
 have hkl2 : k < x.cs.length := (List.getElem?_eq_some_iff.1 HK.out).1
 have HR8 : Hid ((wc.setCell ⟨g, k * 22 + 21, none⟩ (nm x.t2)).rangeAt g (k * 22) (ml y.m)) := Lib.hid (by
  have := own_rangez kl_len HS.out k ⟨y.m, y.tr, x.t2, true⟩ (List.getElem?_set_self hkl2)
  exact fun j v hv => this j v (by
   unfold kl
   rw [List.getElem?_append_left (List.getElem?_eq_some_iff.1 hv).1]; exact hv))
 have HC8 := Lib.hid ((Chg.of_below (S := PS c (.slice oa 0 ca) (.slice (some ⟨g, 0, none⟩) m cb)) B7.out).setCell g (k * 22 + 21) (nm x.t2) fun _ => .inr (.inr rfl))
 clear hkl2 B7 B0 HS HH
 go_wp2_with (first
  | ((with_reducible refine ldr (m := y.m) isM HR8.out ?hx ?_); (case hx => rfl))
  | (go_at_call 24; ((with_reducible refine (CP.out _ HP8.out.tab).mono ?_); rintro e w9 ⟨rfl, hb⟩; have HP9 := Lib.hid (HP8.out.below hb); have HR9 := Lib.hid (range_on HR8.out hb); have HC9 := Lib.hid (HC8.out.on hb); clear hb c0 c1 c2 c3 c4 c5 hl d21 hgf hgl))
  | ((with_reducible refine ldr (m := y.m) isM HR9.out ?hx ?_); (case hx => rfl))
  | (go_at_call 44; ((with_reducible refine (CC.out _).mono ?_); rintro e w10 ⟨rfl, hb⟩; have HP10 := Lib.hid (HP9.out.below hb); have HC10 := Lib.hid (HC9.out.on hb); clear hb)))
 go_ret3
 exact ⟨rfl, ⟨⟨_, _, by have h10 := HP10.out; rw [HA.out] at h10; exact h10, fun k hk => .inl hk⟩, HC10.out⟩⟩
theorem fnext (h : P w c base a b t n va vc x) : Calls Tryz.prog 20 #[ptr c] w fun e w' => e = .returned (nv x.next.1) ∧ Px w c base a b t n va vc x.next.2 w' := by
 cases ha : x.an with
 | cons y r =>
  have e1 : x.next = (some y, { x with an := r }) := by unfold Ct.next; rw [ha]
  rw [e1]
  exact fnext_a h y ha
 | nil =>
  have e1 : x.next = ((say x.t2 x.cs).1, { x with cs := (say x.t2 x.cs).2 }) := by unfold Ct.next; rw [ha]
  rw [e1]
  by_cases hall : ∀ y ∈ x.cs, (y.lf == 0) = false
  · rw [say_all x.t2 x.cs fun y hy => beq_eq_false_iff_ne.1 (hall y hy)]
    refine fnext_no h ?_
    rw [has_eq, ha]
    have : (x.cs.any fun w => w.lf == 0) = false := by
     rw [Bool.eq_false_iff]; intro q
     obtain ⟨y, hy, e⟩ := List.any_eq_true.1 q
     rw [hall y hy] at e; cases e
    rw [this]; rfl
  · obtain ⟨k, y, h1, h2, h3⟩ := first_of hall
    have hy := beq_iff_eq.1 h2
    have hb : ∀ j z, j < k → x.cs[j]? = some z → z.lf ≠ 0 := fun j z hj hz => beq_eq_false_iff_ne.1 (h3 j z hj hz)
    rw [say_skip x.t2 hy x.cs k h1 hb]
    exact fnext_c h ha k y h1 hy hb
end
end Go.Proofs.YtakkhdammmcjcaaGreatDoor.Ctl
namespace Go.Proofs.YtakkhdammmcjcaaGreatDoor.Ctl
open Base Mem Msgs
def fresh (m : Ms) : Wt := ⟨m, 0, 0, false⟩
/-- Is it asked for again among these? -/
def stayed (r : List Ms) (m : Ms) : Bool := r.all fun y => !(mayAsk y && same m y)
/-- Those of a row that are taken, of the same ones the last one. -/
def asked : List Ms → List Ms
 | [] => []
 | m :: r => if mayAsk m && stayed r m then m :: asked r else asked r
theorem stays_cons (y : Ms) (r : List Ms) (m : Ms) : stayed (y :: r) m = (!(mayAsk y && same m y) && stayed r m) := rfl
theorem asks (x : Ct) (l : List Ms) : (l.foldl Ct.ask x).cs = x.cs.filter (fun w => stayed l w.m) ++ (asked l).map fresh := by
 induction l generalizing x with
 | nil => show x.cs = x.cs.filter (fun _ => true) ++ []; rw [List.append_nil, List.filter_eq_self.2 fun _ _ => rfl]
 | cons m r ih =>
  rw [List.foldl_cons, ih]
  unfold Ct.ask
  cases hm : mayAsk m with
  | true =>
   rw [if_pos rfl]
   show (put x.cs m).filter (fun w => stayed r w.m) ++ _ = _
   unfold put
   rw [List.filter_append, List.filter_filter]
   have e1 : (x.cs.filter fun w => stayed r w.m && !same w.m m) = x.cs.filter fun w => stayed (m :: r) w.m := by
    congr 1
    funext w
    rw [stays_cons, hm, Bool.true_and, Bool.and_comm]
   rw [e1, List.append_assoc]
   congr 1
   show List.filter (fun w => stayed r w.m) [⟨m, 0, 0, false⟩] ++ (asked r).map fresh = (asked (m :: r)).map fresh
   have e2 : asked (m :: r) = if (mayAsk m && stayed r m) = true then m :: asked r else asked r := rfl
   rw [e2, hm, Bool.true_and]
   cases hs : stayed r m with
   | true => rw [if_pos rfl, List.filter_cons_of_pos (by simpa using hs)]; rfl
   | false => rw [if_neg (by decide), List.filter_cons_of_neg (by simp [hs])]; rfl
  | false =>
   rw [if_neg (by decide)]
   have e1 : (fun w : Wt => stayed (m :: r) w.m) = fun w => stayed r w.m := by
    funext w
    rw [stays_cons, hm, Bool.false_and, Bool.not_false, Bool.true_and]
   have e2 : asked (m :: r) = if (mayAsk m && stayed r m) = true then m :: asked r else asked r := rfl
   rw [e1, e2, hm, Bool.false_and, if_neg (by decide)]
theorem ask_own (x : Ct) (m : Ms) : (x.ask m).own = x.own ∧ (x.ask m).t2 = x.t2 ∧ (x.ask m).n2 = x.n2 ∧ (x.ask m).an = x.an := by
 unfold Ct.ask; split <;> exact ⟨rfl, rfl, rfl, rfl⟩
theorem asks_own (x : Ct) (l : List Ms) : (l.foldl Ct.ask x).own = x.own ∧ (l.foldl Ct.ask x).t2 = x.t2 ∧ (l.foldl Ct.ask x).n2 = x.n2 ∧ (l.foldl Ct.ask x).an = x.an := by
 induction l generalizing x with
 | nil => exact ⟨rfl, rfl, rfl, rfl⟩
 | cons m r ih =>
  obtain ⟨h1, h2, h3, h4⟩ := ih (x.ask m)
  obtain ⟨g1, g2, g3, g4⟩ := ask_own x m
  exact ⟨h1.trans g1, h2.trans g2, h3.trans g3, h4.trans g4⟩
theorem asks_ok {x : Ct} (h : x.Ok) (l : List Ms) (hl : ∀ m ∈ l, m.In) : (l.foldl Ct.ask x).Ok := by
 induction l generalizing x with
 | nil => exact h
 | cons m r ih => exact ih (h.ask (hl m List.mem_cons_self)) fun y hy => hl y (List.mem_cons_of_mem _ hy)
theorem asked_len : ∀ l : List Ms, (asked l).length ≤ l.length
 | [] => Nat.le_refl _
 | m :: r => by
  have := asked_len r
  unfold asked
  split
  · simp; omega
  · simp; omega
theorem asked_sub : ∀ l : List Ms, (asked l).Sublist l
 | [] => .refl _
 | m :: r => by
  unfold asked
  split
  · exact (asked_sub r).cons_cons _
  · exact (asked_sub r).cons _
theorem asked_may : ∀ l : List Ms, ∀ m ∈ asked l, mayAsk m = true
 | [], m, h => by cases h
 | y :: r, m, h => by
  unfold asked at h
  split at h
  · next e =>
    rcases List.mem_cons.1 h with rfl | h
    · exact (Bool.and_eq_true_iff.1 e).1
    · exact asked_may r m h
  · exact asked_may r m h
theorem asked_un : ∀ l : List Ms, (asked l).Pairwise fun a b => same a b = false
 | [] => .nil
 | y :: r => by
  unfold asked
  split
  · next e =>
    refine List.pairwise_cons.2 ⟨fun b hb => ?_, asked_un r⟩
    have hs : stayed r y = true := (Bool.and_eq_true_iff.1 e).2
    have h1 := List.all_eq_true.1 hs b ((asked_sub r).subset hb)
    rw [asked_may r b hb, Bool.true_and] at h1
    simpa using h1
  · exact asked_un r
/-- Two sides, and what each learned. -/
structure Tk where
 x0 : Ct
 x1 : Ct
 f0 : List Fa
 f1 : List Fa
def Tk.swap (t : Tk) : Tk := ⟨t.x1, t.x0, t.f1, t.f0⟩
/-- The first one says what it says next, if anything; the other one hears it. -/
def Tk.says (t : Tk) : Tk :=
 match t.x0.next.1 with
 | none => ⟨t.x0.next.2, t.x1, t.f0, t.f1⟩
 | some m => ⟨t.x0.next.2, (t.x1.hear1 m).1, t.f0, t.f1 ++ (t.x1.hear1 m).2⟩
def Tk.step (t : Tk) (i : Nat) : Tk := if i % 2 = 0 then t.says else t.swap.says.swap
def Tk.go (t : Tk) (i : Nat) : Nat → Tk
 | 0 => t
 | n + 1 => (t.step i).go (i + 1) n
theorem go_one (n : Nat) : ∀ (i : Nat) (t : Tk), t.go i (n + 1) = (t.go i n).step (i + n) := by
 induction n with
 | zero => intro i t; rfl
 | succ n ih =>
  intro i t
  show ((t.step i).go (i + 1) (n + 1)) = ((t.step i).go (i + 1) n).step _
  rw [ih, show i + 1 + n = i + (n + 1) by omega]
theorem go_add (m : Nat) : ∀ (n i : Nat) (t : Tk), t.go i (m + n) = (t.go i m).go (i + m) n := by
 induction m with
 | zero => intro n i t; rw [Nat.zero_add]; rfl
 | succ m ih =>
  intro n i t
  rw [show m + 1 + n = (m + n) + 1 by omega]
  show (t.step i).go (i + 1) (m + n) = ((t.step i).go (i + 1) m).go (i + (m + 1)) n
  rw [ih, show i + 1 + m = i + (m + 1) by omega]
theorem step_swap (t : Tk) (i : Nat) : t.step (i + 1) = (t.swap.step i).swap := by
 unfold Tk.step
 by_cases h : i % 2 = 0
 · rw [if_neg (by omega), if_pos h]
 · rw [if_pos (by omega), if_neg h]; rfl
theorem go_swap (n : Nat) : ∀ (i : Nat) (t : Tk), t.go (i + 1) n = (t.swap.go i n).swap := by
 induction n with
 | zero => intro i t; rfl
 | succ n ih =>
  intro i t
  show (t.step (i + 1)).go (i + 1 + 1) n = ((t.swap.step i).go (i + 1) n).swap
  rw [ih, step_swap]
  rfl
/-- What the other side learns of a command, and what comes back of it. -/
def heard (o : Pn.Pr) (m : Ms) : Fa := ⟨1, agreed o m⟩
def back (o : Pn.Pr) (m : Ms) : Fa := ⟨2, (agreed o m).cmd false⟩
theorem hear_cmd {x : Ct} (h : x.an = []) {a : Ms} (ha : Askable a) : x.hear1 a = ({ x with an := [(agreed x.own a).cmd false] }, [heard x.own a]) := by
 unfold Ct.hear1 Ct.command
 have h6 := ha.k
 rw [if_pos ha.c, h, if_neg (by simp; omega), if_neg (by omega)]
 rfl
theorem exch (t : Tk) (a : Ms) (L : List Ms) (h0 : t.x0.an = []) (hc : t.x0.cs = (a :: L).map fresh) (h1 : t.x1.an = []) (ha : Askable a) :
 t.says.swap.says.swap = ⟨{ t.x0 with cs := L.map fresh }, t.x1, t.f0 ++ [back t.x1.own a], t.f1 ++ [heard t.x1.own a]⟩ := by
 obtain ⟨⟨o0, t0, n0, an0, cs0⟩, ⟨o1, t1, n1, an1, cs1⟩, f0, f1⟩ := t
 dsimp only at h0 hc h1
 subst h0 hc h1
 have e1 : (⟨o0, t0, n0, [], (a :: L).map fresh⟩ : Ct).next = (some a, ⟨o0, t0, n0, [], ⟨a, 0, t0, true⟩ :: L.map fresh⟩) := rfl
 have e2 := hear_cmd (x := ⟨o1, t1, n1, [], cs1⟩) rfl ha
 dsimp only at e2
 have e3 : Tk.says ⟨⟨o0, t0, n0, [], (a :: L).map fresh⟩, ⟨o1, t1, n1, [], cs1⟩, f0, f1⟩ = ⟨⟨o0, t0, n0, [], ⟨a, 0, t0, true⟩ :: L.map fresh⟩, ⟨o1, t1, n1, [(agreed o1 a).cmd false], cs1⟩, f0, f1 ++ [heard o1 a]⟩ := by
  unfold Tk.says
  dsimp only
  rw [e1]
  dsimp only
  rw [e2]
 rw [e3]
 unfold Tk.swap
 dsimp only
 have e4 : (⟨o1, t1, n1, [(agreed o1 a).cmd false], cs1⟩ : Ct).next = (some ((agreed o1 a).cmd false), ⟨o1, t1, n1, [], cs1⟩) := rfl
 have e5 : (⟨o0, t0, n0, [], ⟨a, 0, t0, true⟩ :: L.map fresh⟩ : Ct).hear1 ((agreed o1 a).cmd false) = (⟨o0, t0, n0, [], L.map fresh⟩, [back o1 a]) := by
  unfold Ct.hear1
  rw [if_neg (show ¬ ((agreed o1 a).cmd false).c = true from Bool.false_ne_true)]
  unfold Ct.response
  dsimp only
  have : resp ((agreed o1 a).cmd false) (⟨a, 0, t0, true⟩ :: L.map fresh) = (L.map fresh, [back o1 a]) := by
   unfold resp
   rw [if_pos (by rw [answers_agreed]; rfl)]
   rfl
  rw [this]
 unfold Tk.says
 dsimp only
 rw [e4]
 dsimp only
 rw [e5]
theorem quiet (t : Tk) (h0 : t.x0.an = []) (hc : t.x0.cs = []) : t.says = t := by
 obtain ⟨⟨o0, t0, n0, an0, cs0⟩, x1, f0, f1⟩ := t
 dsimp only at h0 hc
 subst h0 hc
 rfl
theorem phase : ∀ (A : List Ms) (t : Tk) (i : Nat), i % 2 = 0 → t.x0.an = [] → t.x0.cs = A.map fresh → t.x1.an = [] → (∀ a ∈ A, Askable a) →
 t.go i (2 * A.length) = ⟨{ t.x0 with cs := [] }, t.x1, t.f0 ++ A.map (back t.x1.own), t.f1 ++ A.map (heard t.x1.own)⟩
 | [], t, i, _, h0, hc, h1, _ => by
  obtain ⟨⟨o0, t0, n0, an0, cs0⟩, x1, f0, f1⟩ := t
  dsimp only at h0 hc
  subst h0 hc
  show (⟨_, _, _, _⟩ : Tk) = _
  simp
 | a :: L, t, i, hi, h0, hc, h1, ha => by
  have e : 2 * (a :: L).length = 2 * L.length + 1 + 1 := by rw [List.length_cons]; omega
  rw [e]
  show ((t.step i).step (i + 1)).go (i + 1 + 1) (2 * L.length) = _
  have e1 : (t.step i).step (i + 1) = t.says.swap.says.swap := by
   unfold Tk.step
   rw [if_pos hi, if_neg (by omega)]
  rw [e1, exch t a L h0 hc h1 (ha a List.mem_cons_self)]
  refine (phase L ⟨{ t.x0 with cs := L.map fresh }, t.x1, t.f0 ++ [back t.x1.own a], t.f1 ++ [heard t.x1.own a]⟩ (i + 1 + 1) (by omega) h0 rfl h1 fun y hy => ha y (List.mem_cons_of_mem _ hy)).trans ?_
  simp
theorem rest (n : Nat) : ∀ (t : Tk) (i : Nat), t.x0.an = [] → t.x0.cs = [] → t.x1.an = [] → t.x1.cs = [] → t.go i n = t := by
 induction n with
 | zero => intro t i _ _ _ _; rfl
 | succ n ih =>
  intro t i h0 h1 h2 h3
  show (t.step i).go (i + 1) n = t
  have : t.step i = t := by
   unfold Tk.step
   split
   · exact quiet t h0 h1
   · rw [quiet t.swap h2 h3]; rfl
  rw [this]
  exact ih t _ h0 h1 h2 h3
/-- All that two sides were asked for is heard, and answered, once. -/
theorem meet (x0 x1 : Ct) (A B : List Ms) (hA : ∀ a ∈ A, Askable a) (hB : ∀ a ∈ B, Askable a) (a0 : x0.an = []) (a1 : x1.an = []) (c0 : x0.cs = A.map fresh) (c1 : x1.cs = B.map fresh)
 (n : Nat) (hn : 2 * A.length + 1 + 2 * B.length ≤ n) : (⟨x0, x1, [], []⟩ : Tk).go 0 n = ⟨{ x0 with cs := [] }, { x1 with cs := [] }, A.map (back x1.own) ++ B.map (heard x0.own), A.map (heard x1.own) ++ B.map (back x0.own)⟩ := by
 obtain ⟨d, rfl⟩ : ∃ d, n = 2 * A.length + (1 + (2 * B.length + d)) := ⟨n - (2 * A.length + 1 + 2 * B.length), by omega⟩
 rw [go_add, phase A _ 0 rfl a0 c0 a1 hA, go_add]
 have e1 : ∀ t : Tk, t.go (0 + 2 * A.length) 1 = t.says := fun t => by
  show t.step _ = _
  unfold Tk.step
  rw [if_pos (by omega)]
 rw [e1, quiet _ a0 rfl, go_add, go_swap, phase B _ _ (by omega) a1 c1 a0 hB]
 rw [rest _ _ _ a0 rfl a1 rfl]
 simp [Tk.swap]
/-- How many facts of a kind tell of a command. -/
def cnt (k : Nat) (m : Ms) (l : List Fa) : Nat := (l.filter fun f => (f.k == k) && same f.m m).length
theorem cnt_app (k : Nat) (m : Ms) (l l' : List Fa) : cnt k m (l ++ l') = cnt k m l + cnt k m l' := by
 unfold cnt; rw [List.filter_append, List.length_append]
theorem cnt_map {k j : Nat} {m : Ms} {f : Ms → Ms} (hf : ∀ a, same (f a) m = same a m) : ∀ L : List Ms, cnt k m (L.map fun a => ⟨j, f a⟩) = if j = k then (L.filter fun a => same a m).length else 0
 | [] => by split <;> rfl
 | a :: L => by
  have ih := cnt_map (k := k) (j := j) hf L
  unfold cnt at ih ⊢
  rw [List.map_cons]
  by_cases e : j = k
  · rw [if_pos e] at ih ⊢
    have e1 : ((⟨j, f a⟩ : Fa).k == k) = true := by rw [beq_iff_eq]; exact e
    cases h : same a m with
    | true => rw [List.filter_cons_of_pos (by rw [e1, hf, h]; rfl), List.filter_cons_of_pos (p := fun a => same a m) h, List.length_cons, List.length_cons, ih]
    | false => rw [List.filter_cons_of_neg (by rw [e1, hf, h]; decide), List.filter_cons_of_neg (p := fun a => same a m) (by rw [h]; decide), ih]
  · rw [if_neg e] at ih ⊢
    have e1 : ((⟨j, f a⟩ : Fa).k == k) = false := beq_eq_false_iff_ne.2 e
    rw [List.filter_cons_of_neg (by rw [e1, Bool.false_and]; exact Bool.false_ne_true), ih]
theorem same_back (o : Pn.Pr) (a m : Ms) : same (back o a).m m = same a m := by
 unfold same back
 dsimp only
 rw [cmd_ch, agreed_ch]
 have : ((agreed o a).cmd false).k = a.k := agreed_k o a
 rw [this]
theorem same_heard (o : Pn.Pr) (a m : Ms) : same (heard o a).m m = same a m := by
 unfold same heard
 dsimp only
 rw [agreed_ch, agreed_k]
theorem one_of_un {m : Ms} : ∀ L : List Ms, (L.Pairwise fun a b => same a b = false) → m ∈ L → (L.filter fun a => same a m).length = 1
 | a :: L, hu, hm => by
  obtain ⟨h1, h2⟩ := List.pairwise_cons.1 hu
  rcases List.mem_cons.1 hm with rfl | hm
  · have : L.filter (fun b => same b m) = [] := List.filter_eq_nil_iff.2 fun b hb => by
     rw [same_comm, h1 b hb]; decide
    rw [List.filter_cons_of_pos (p := fun a => same a m) (same_self m), this]; rfl
  · have : same a m = false := h1 m hm
    rw [List.filter_cons_of_neg (p := fun a => same a m) (by rw [this]; decide)]
    exact one_of_un L h2 hm
/-- What the theorem asks of what each side learned. -/
theorem met_counts {A B : List Ms} (hA : A.Pairwise fun a b => same a b = false) {o p : Pn.Pr} {m : Ms} (hm : m ∈ A) :
 cnt 2 m (A.map (back o) ++ B.map (heard p)) = 1 ∧ cnt 1 m (A.map (heard o) ++ B.map (back p)) = 1 := by
 have b1 := cnt_map (k := 2) (j := 2) (m := m) (f := fun a => (agreed o a).cmd false) (fun a => same_back o a m) A
 have b2 := cnt_map (k := 2) (j := 1) (m := m) (f := fun a => agreed p a) (fun a => same_heard p a m) B
 have b3 := cnt_map (k := 1) (j := 1) (m := m) (f := fun a => agreed o a) (fun a => same_heard o a m) A
 have b4 := cnt_map (k := 1) (j := 2) (m := m) (f := fun a => (agreed p a).cmd false) (fun a => same_back p a m) B
 have h1 := one_of_un A hA hm
 rw [if_pos rfl, h1] at b1 b3
 rw [if_neg (by decide)] at b2 b4
 rw [cnt_app, cnt_app]
 refine ⟨?_, ?_⟩
 · show cnt 2 m (A.map fun a => ⟨2, (agreed o a).cmd false⟩) + cnt 2 m (B.map fun a => ⟨1, agreed p a⟩) = 1
   rw [b1, b2]
 · show cnt 1 m (A.map fun a => ⟨1, agreed o a⟩) + cnt 1 m (B.map fun a => ⟨2, (agreed p a).cmd false⟩) = 1
   rw [b3, b4]
theorem met_counts' {A B : List Ms} (hB : B.Pairwise fun a b => same a b = false) {o p : Pn.Pr} {m : Ms} (hm : m ∈ B) :
 cnt 2 m (A.map (heard o) ++ B.map (back p)) = 1 ∧ cnt 1 m (A.map (back o) ++ B.map (heard p)) = 1 := by
 obtain ⟨h1, h2⟩ := met_counts (A := B) (B := A) hB (o := p) (p := o) hm
 rw [cnt_app] at h1 h2 ⊢
 rw [cnt_app]
 exact ⟨by omega, by omega⟩
/-- Parameters are lowered to what both have. -/
theorem back_low {A B : List Ms} {o p : Pn.Pr} {f : Fa} (hf : f ∈ A.map (back (brought o)) ++ B.map (heard p)) (hk : f.k = 2) (h1 : f.m.k = 1) : f.m.p.n ≤ max 1 o.n ∧ f.m.p.k ≤ max 1 o.k := by
 rcases List.mem_append.1 hf with hf | hf
 · obtain ⟨a, _, rfl⟩ := List.mem_map.1 hf
   have hak : a.k = 1 := (agreed_k (brought o) a).symm.trans h1
   have e : (back (brought o) a).m.p = Pn.agree (brought o) a.p := by unfold back agreed; rw [if_pos hak]; rfl
   rw [e]
   show min (min (max o.n 1) 65535) a.p.n ≤ _ ∧ min (min (max o.k 1) 7) a.p.k ≤ _
   omega
 · obtain ⟨a, _, rfl⟩ := List.mem_map.1 hf
   exact absurd hk (by show ¬ (1 : Nat) = 2; decide)
/-- A side's own steps keep it as it should be. -/
theorem says_ok {t : Tk} (h0 : t.x0.Ok) (h1 : t.x1.Ok) : t.says.x0.Ok ∧ t.says.x1.Ok := by
 unfold Tk.says
 split
 · exact ⟨h0.next, h1⟩
 · next m e => exact ⟨h0.next, h1.hear1 (next_ok h0 e)⟩
theorem step_ok {t : Tk} (h0 : t.x0.Ok) (h1 : t.x1.Ok) (i : Nat) : (t.step i).x0.Ok ∧ (t.step i).x1.Ok := by
 unfold Tk.step
 split
 · exact says_ok h0 h1
 · have := says_ok (t := t.swap) h1 h0
   exact ⟨this.2, this.1⟩
/-- Commands, all alike in their tries, ticks and whether they were said. -/
def row (L : List Ms) (k lf : Nat) (sd : Bool) : List Wt := L.map fun m => ⟨m, k, lf, sd⟩
theorem say_row (t2 k : Nat) (ht : t2 ≠ 0) (sd : Bool) (m : Ms) (B : List Ms) : ∀ A : List Ms, say t2 (row A k t2 true ++ row (m :: B) k 0 sd) = (some m, row (A ++ [m]) k t2 true ++ row B k 0 sd)
 | [] => rfl
 | a :: A => by
  show say t2 (⟨a, k, t2, true⟩ :: (row A k t2 true ++ row (m :: B) k 0 sd)) = _
  unfold say
  rw [if_neg ht, say_row t2 k ht sd m B A]
  rfl
theorem say_none (t2 k lf : Nat) (hl : lf ≠ 0) (sd : Bool) : ∀ A : List Ms, say t2 (row A k lf sd) = (none, row A k lf sd)
 | [] => rfl
 | a :: A => by
  show say t2 (⟨a, k, lf, sd⟩ :: row A k lf sd) = _
  unfold say
  rw [if_neg hl, say_none t2 k lf hl sd A]
  rfl
theorem ticks_row (n2 k lf : Nat) (hl : lf ≠ 1) (sd : Bool) : ∀ A : List Ms, ticks n2 (row A k lf sd) = (row A k (lf - 1) sd, [])
 | [] => rfl
 | a :: A => by
  show ticks n2 (⟨a, k, lf, sd⟩ :: row A k lf sd) = _
  unfold ticks
  rw [if_pos hl, ticks_row n2 k lf hl sd A]
  rfl
theorem ticks_more (n2 k : Nat) (hk : k + 1 ≤ n2) (sd : Bool) : ∀ A : List Ms, ticks n2 (row A k 1 sd) = (row A (k + 1) 0 sd, [])
 | [] => rfl
 | a :: A => by
  show ticks n2 (⟨a, k, 1, sd⟩ :: row A k 1 sd) = _
  unfold ticks
  rw [if_neg (by simp), if_neg (by show ¬ n2 < k + 1; omega), ticks_more n2 k hk sd A]
  rfl
theorem ticks_lost (n2 k : Nat) (hk : n2 < k + 1) (sd : Bool) : ∀ A : List Ms, ticks n2 (row A k 1 sd) = ([], A.map fun m => ⟨4, m⟩)
 | [] => rfl
 | a :: A => by
  show ticks n2 (⟨a, k, 1, sd⟩ :: row A k 1 sd) = _
  unfold ticks
  rw [if_neg (by simp), if_pos (show n2 < k + 1 from hk), ticks_lost n2 k hk sd A]
  rfl
theorem lost_one {A : List Ms} (hA : A.Pairwise fun a b => same a b = false) {m : Ms} (hm : m ∈ A) : cnt 4 m (A.map fun m => ⟨4, m⟩) = 1 := by
 have := cnt_map (k := 4) (j := 4) (m := m) (f := fun a => a) (fun _ => rfl) A
 rw [if_pos rfl, one_of_un A hA hm] at this
 exact this
/-- Others were asked for, and one behind them. -/
theorem give_start (own : Pn.Pr) (t2 n2 : Int) (l : List Ms) (m : Ms) (hm : mayAsk m = true) : ∃ A : List Ms, ((l.foldl Ct.ask (Ct.new own t2 n2)).ask m).cs = row (A ++ [m]) 0 0 false ∧ A.length ≤ l.length := by
 have h := asks (Ct.new own t2 n2) (l ++ [m])
 rw [List.foldl_append] at h
 have e0 : (Ct.new own t2 n2).cs = [] := rfl
 rw [e0, List.filter_nil, List.nil_append] at h
 refine ⟨(asked l).filter fun a => !same a m, ?_, Nat.le_trans (List.length_filter_le _ _) (asked_len l)⟩
 have h2 := asks (Ct.new own t2 n2) l
 rw [e0, List.filter_nil, List.nil_append] at h2
 show ((l.foldl Ct.ask (Ct.new own t2 n2)).ask m).cs = _
 unfold Ct.ask
 rw [if_pos hm]
 show put (l.foldl Ct.ask (Ct.new own t2 n2)).cs m = _
 rw [h2]
 unfold put row
 rw [List.map_append, List.filter_map]
 rfl
end Go.Proofs.YtakkhdammmcjcaaGreatDoor.Ctl
namespace Go.Proofs
open Go.Shelf
def Tryz.laysM316_ren : Go.Shelf.Ren := ⟨fun | 316 => 61 | n => n, fun | 9 => 9 | 3 => 3 | 4 => 4 | 37 => 126 | 0 => 0 | 127 => 138 | 5 => 5 | n => n, fun | n => n⟩
theorem Tryz.laysM316 : Go.Proofs.LaysM.n316 Tryz.prog Tryz.laysM316_ren := {
 mixed := by kernel_rfl
 f316 := Tryz.func61.trans (congrArg some (by kernel_rfl))
 t0 := Tryz.underlying0
 a0 := Tryz.isAgg0
 z0 := Tryz.sizeOf0
 v0 := Tryz.zeroValue0
 t3 := Tryz.underlying3
 a3 := Tryz.isAgg3
 z3 := Tryz.sizeOf3
 v3 := Tryz.zeroValue3
 t4 := Tryz.underlying4
 a4 := Tryz.isAgg4
 z4 := Tryz.sizeOf4
 v4 := Tryz.zeroValue4
 t9 := Tryz.underlying9
 a9 := Tryz.isAgg9
 z9 := Tryz.sizeOf9
 v9 := Tryz.zeroValue9
 t37 := Tryz.underlying126
 a37 := Tryz.isAgg126
 z37 := Tryz.sizeOf126
 v37 := Tryz.zeroValue126
 t127 := Tryz.underlying138
 a127 := Tryz.isAgg138
 z127 := Tryz.sizeOf138
 v127 := Tryz.zeroValue138
 t5 := Tryz.underlying5
 a5 := Tryz.isAgg5
 z5 := Tryz.sizeOf5
 v5 := Tryz.zeroValue5
 i0 := by kernel_rfl
 i3 := by kernel_rfl
 i4 := by kernel_rfl
 i5 := by kernel_rfl
 i9 := by kernel_rfl
 i37 := by kernel_rfl
 i127 := by kernel_rfl }
open Go.RowKit in
theorem Tryz.stringslite_Clone (s : ByteArray) (w : World) (hlim : s.size ≤ 281474976710656) :
 Calls Tryz.prog 61 #[.string s] w fun e w' => e = .returned (.string s) ∧ Below w.heap.size w w' := Any.stringslite_Clone Tryz.laysM316 s w hlim
end Go.Proofs
