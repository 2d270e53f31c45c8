/-
  Layer 22, put together: CtlNext2, CtlResp. Conditions: as each theorem names them.
-/
import Derived.Test.YtakkhdammmcjcaaGreatDoorK16
import Derived.Test.YtakkhdammmcjcaaGreatDoorK01
import Derived.Deep.RegionHeld
namespace Go.Proofs.YtakkhdammmcjcaaGreatDoor.Ctl
open Go.RowKit Base Mem Msgs Cr
set_option maxRecDepth 100000
/-- What Next answers. -/
def nv : Option Ms → Value
 | none => .tuple #[.string ⟨#[]⟩, .int .u8 0, .bool false]
 | some m => .tuple #[.string (putS m), .int .u8 (ch m : Int), .bool true]
theorem say_skip (t2 : Nat) {y : Wt} (hy : y.lf = 0) : ∀ (l : List Wt) (k : Nat), l[k]? = some y → (∀ j z, j < k → l[j]? = some z → z.lf ≠ 0) → say t2 l = (some y.m, l.set k ⟨y.m, y.tr, t2, true⟩)
 | [], k, h, _ => by simp at h
 | v :: r, 0, h, _ => by
  obtain rfl : v = y := by simpa using h
  unfold say; rw [if_pos hy]; rfl
 | v :: r, k + 1, h, hn => by
  have hv : v.lf ≠ 0 := hn 0 v (Nat.succ_pos k) rfl
  have ih := say_skip t2 hy r k (by simpa using h) fun j z hj hz => hn (j + 1) z (by omega) (by simpa using hz)
  unfold say; rw [if_neg hv, ih]; rfl
theorem say_all (t2 : Nat) : ∀ l : List Wt, (∀ z ∈ l, z.lf ≠ 0) → say t2 l = (none, l)
 | [], _ => rfl
 | v :: r, h => by
  unfold say; rw [if_neg (h v List.mem_cons_self), say_all t2 r fun z hz => h z (List.mem_cons_of_mem _ hz)]
theorem rangez_of {w : World} {b : Nat} {vs : List Value} {t : TypeId} (h : w.heap[b]? = some (.cells vs.toArray t (0, 0))) : w.rangeAt b 0 vs := fun j v hv => by
 rw [Nat.zero_add]; exact cell_of h (by simpa using hv)
theorem range_m {w : World} {b : Nat} {y : Wt} {t : TypeId} (h : w.heap[b]? = some (.cells (wc y) t (0, 0))) : w.rangeAt b 0 (ml y.m) := fun j v hv => by
 refine rangez_of (vs := wl y) h j v ?_
 unfold wl
 rw [List.getElem?_append_left (List.getElem?_eq_some_iff.1 hv).1]; exact hv
theorem ex_ldz {n b o T : Nat} {d : Option Tmp} {x : Operand} {ty : TypeId} {pos : String} {af : Array Edge} {w : World} {g : Option (Nat × Bool)} {ρ : Operand → Value} (vs : List Value) (hT : IsRow T n) (h : w.rangeAt b o vs) (hz : vs.length = n) (hx : ρ x = .pointer (some ⟨b, o, none⟩)) :
 (execOp ρ { dst := d, op := .load T x, type := ty, pos := pos, after := af, guard := g }).run Tryz.prog w = .ok (.value (.agg vs.toArray)) w := by
 obtain ⟨fs, hu⟩ := hT.under
 subst hz
 unfold execOp
 simp only [hx, Sem.run_bind, run_loadAt_mid w b o T vs _ h hu rfl hT.size, Sem.run_pure, Result.andThen_ok]
theorem step_stz {α : Type} {z E g n cap base i T : Nat} {fc : α → List Value} {l : List α} {ops : Array Oper} {a : Act} {w : World} {K : Act → World → Prop} {Q : Exit → Act → World → Prop} {X : Prop} {d : Option Tmp} {x y : Operand} {ty : TypeId} {pos : String} {af : Array Edge}
 (hl : ∀ x, (fc x).length = z) (h1 : ∀ x, ∀ u ∈ fc x, u.oneCell' = true) (hT : IsRow T z) (h : OwnS E z fc w base (.slice (some ⟨g, 0, none⟩) n cap) l) (hi : i < l.length) (v : α) (hx : a.eval x = .pointer (some ⟨g, i * z, none⟩)) (hy : a.eval y = .agg (fc v).toArray) (_hd : d = d)
 (k : ∀ w', OwnS E z fc w' base (.slice (some ⟨g, 0, none⟩) n cap) (l.set i v) → Mod g w w' → K (a.put d undef) w') :
 if Region.wanted { dst := d, op := .store T x y, type := ty, pos := pos, after := af, guard := none } (yielded ops a.tmps) = true then Oper.wp Tryz.prog { dst := d, op := .store T x y, type := ty, pos := pos, after := af, guard := none } a w K Q else X := by
 rw [if_pos (by simp [Region.wanted])]
 have hr := own_rangez hl h i _ (List.getElem?_eq_getElem hi)
 refine wp_store_mid T x y rfl g (i * z) (fc v).toArray hx hy (fun j hj => ⟨hr.isSome j ?_, h.free _⟩) (by rw [hT.size]; simp [hl]) (all_oneCell_toArray (h1 v)) (k _ (own_putz hl h i hi v) (mod_setCells _ _ _ _))
 rw [hl]; simpa [hl] using hj
section
variable {w w' : World} {c base b g n cap : Nat} {va vc : Value} {x : Ct} {l : List Wt}
theorem D.drew (h : D w c base va vc x) : D w.drew c base va vc x := h.below ⟨rfl, rfl, rfl, Nat.le_refl _, fun _ _ => rfl⟩
theorem chg_in {S : Nat → Prop} {a : World} (h : Chg S a w) (M : Mod b w w') (hb : S b) : Chg S a w' :=
 h.trans (T := fun k => k = b) ⟨M.os, M.tape, M.output, Nat.le_of_eq M.size.symm, fun k _ hk => M.rest k hk⟩ fun _ _ e => e ▸ hb
/-- An element of the commands' row is written over. -/
theorem D.set_at (h : D w c base va (.slice (some ⟨g, 0, none⟩) n cap) x) (ho : OwnS WT 23 wl w' base (.slice (some ⟨g, 0, none⟩) n cap) l) (M : Mod g w w') (_hx : x.cs = x.cs) : D w' c base va (.slice (some ⟨g, 0, none⟩) n cap) { x with cs := l } := by
 obtain ⟨cs, hc⟩ := own_blk h.cs (b := g) rfl
 exact ⟨(M.rest c (ne_type h.hd hc (by decide))).trans h.hd, h.an.eqv fun k hk => M.rest k fun e => (h.ne k hk).2 (by rw [e]; rfl), ho, h.ne, h.lo⟩
set_option maxHeartbeats 8000000 in
theorem rnext_c (h : D w c base va vc x) (hx : x.Ok) (ha : x.an = []) : Calls Tryz.prog 29 #[ptr c] w fun e w' => e = .returned (nv (say x.t2 x.cs).1) ∧ Nx w c base va vc { x with cs := (say x.t2 x.cs).2 } w' := by
 obtain ⟨oa, cap, rfl, ga⟩ := own_form h.cs
 obtain ⟨ob, capb, rfl⟩ := h.an.form
 obtain ⟨zb, hzb⟩ : ∃ zb, x.an.length = zb := ⟨_, rfl⟩
 have hz0 : zb = 0 := by rw [← hzb, ha]; rfl
 rw [hzb] at h ⊢
 obtain ⟨n, hln⟩ : ∃ n, x.cs.length = n := ⟨_, rfl⟩
 have hmany := hx.cs_few
 rw [hln] at h ga hmany ⊢
 have HO := Lib.hid h.cs
 have HD := Lib.hid h
 have GA := Lib.hid ga
 have HL := Lib.hid hln
 have HX := Lib.hid hx
 obtain ⟨c8, c9, c10, c11⟩ := h.cells
 have hl := h.hd.lt
 clear h hx ha hzb hln ga
 have z2 : decide ((0 : Int) < (zb : Int)) = false := decide_eq_false (by omega)
 have z4 : ¬ (0 : Int) < (zb : Int) := by omega
 clear hz0
 go_enter Tryz.func29, Tryz.ntmps29
 go_wp2_with fail
 go_loopg [8] n (fun gm s wr => ∃ k : Nat, s = nm k ∧ n - k ≤ gm ∧ k ≤ n ∧ Hid (∀ j z, j < k → x.cs[j]? = some z → z.lf ≠ 0) ∧ w = wr)
 case atStart => exact ⟨0, rfl, by omega, by omega, Lib.hid fun j z hj => absurd hj (Nat.not_lt_zero j), rfl⟩
 case round =>
  obtain ⟨k, rfl, hgm, hkn, HK, rfl⟩ := hrel
  by_cases hlt : k < n
  · have t1 : decide ((k : Int) < (n : Int)) = true := decide_eq_true (by omega)
    have t2 : (k : Int) < (n : Int) := by omega
    have j0 : (0 : Int) ≤ (k : Int) := by omega
    have vk := wrap_nat (k + 1) (by omega)
    obtain ⟨g, rfl⟩ := GA.out k hlt
    obtain ⟨y, hy⟩ : ∃ y, x.cs[k]? = some y := ⟨_, List.getElem?_eq_getElem (by rw [HL.out]; exact hlt)⟩
    obtain ⟨d0, d1, d2⟩ := elt_at HO.out hy
    by_cases hz : y.lf = 0
    · have u0 : ((y.lf : Int) == 0) = true := by rw [hz]; rfl
      have hok := (HX.out.cs y (List.mem_of_getElem? hy)).ok
      have CP := Lib.hid (fun w => rput y.m hok.in_ (by have := ok_b hok; omega) w)
      have CC := Lib.hid (fun w => rchannel y.m hok.in_ w)
      have HS := Lib.hid (say_skip x.t2 hz x.cs k hy HK.out)
      have HR := Lib.hid (own_rangez wl_len HO.out k y hy)
      have HI : Hid (k < x.cs.length) := Lib.hid (by rw [HL.out]; exact hlt)
      obtain ⟨y2, hy2⟩ : ∃ y2 : Wt, y2 = ⟨y.m, y.tr, x.t2, true⟩ := ⟨_, rfl⟩
      have HY2 := Lib.hid hy2
      have HM2 : Hid (y2.m = y.m) := Lib.hid (by rw [hy2])
      clear hz hy hok hy2 HK
      go_wp2_with (first
       | ((with_reducible refine ldz isW HR.out ?hz ?hx ?_); (case hz => rfl); (case hx => rfl))
       | ((with_reducible refine alr (cs := wc noW) (by kernel_rfl) ?_); intro b9 w1 h1 F1; have HD1 := Lib.hid (HD.out.below F1.below); have H5 := Lib.hid h1; have N5 := Lib.hid (HD.out.not_new (k := b9) (by rw [F1.eq]; exact Nat.le_refl _)); have L1 := Lib.hid F1; clear h1 F1 c8 c9 c10 c11 hl d0 d1 d2)
       | ((with_reducible refine str (wc y) isW H5.out ?h0 ?h1 ?hc ?hx ?hy ?_); (case h0 => rfl); (case h1 => rfl); (case hc => exact all_oneCell_toArray (wl_one y)); (case hx => rfl); (case hy => rfl); intro w2 h2 M2; have HD2 := Lib.hid (HD1.out.mod M2 N5.out); have H6 := Lib.hid h2; have HC2 := Lib.hid (chg_mod (Chg.of_below (S := DS c (.slice ob zb capb) (.slice (some ⟨g, 0, none⟩) n cap)) L1.out.below) M2 (by rw [L1.out.eq]; exact Nat.le_refl _)); obtain ⟨c8, c9, c10, c11⟩ := HD2.out.cells; have hl := HD2.out.hd.lt; have e1 := cell_of (i := 21) h2 rfl; have e2 := cell_of (i := 22) h2 rfl; have e3 : ∀ i, w2.frozen? ⟨b9, i, none⟩ = false := fun _ => free_of h2; have e4 := lt_heap h2; clear h2 M2))
      have M3 : Mod b9 w2 ((w2.setCell ⟨b9, 21, none⟩ (nm x.t2)).setCell ⟨b9, 22, none⟩ (.bool true)) := (mod_setCell b9 21 w2 _).trans (mod_setCell b9 22 _ _)
      have H9 : Hid (((w2.setCell ⟨b9, 21, none⟩ (nm x.t2)).setCell ⟨b9, 22, none⟩ (.bool true)).heap[b9]? = some (.cells (wc y2) WT (0, 0))) := Lib.hid (by rw [HY2.out]; exact block_set (block_set H6.out _) _)
      have HD3 := Lib.hid (HD2.out.mod M3 N5.out)
      have HC3 := Lib.hid (chg_mod HC2.out M3 (by rw [L1.out.eq]; exact Nat.le_refl _))
      clear M3 c8 c9 c10 c11 hl e1 e2 e3 e4 HD1 HD2 HC2 H5 H6 HR
      generalize (w2.setCell ⟨b9, 21, none⟩ (nm x.t2)).setCell ⟨b9, 22, none⟩ (.bool true) = w3 at H9 HD3 HC3 ⊢
      have HO3 : Hid (OwnS WT 23 wl w3.drew base (.slice (some ⟨g, 0, none⟩) n cap) x.cs) := Lib.hid HD3.out.drew.cs
      have N9g : Hid (b9 ≠ g) := Lib.hid fun e => N5.out (.inr (.inr (by rw [e]; rfl)))
      refine wp_region_held_drew (S := (fun w' => w'.heap[c]? = some (.cells (dcl x (.slice ob zb capb) (.slice (some ⟨g, 0, none⟩) n cap)) DT (0, 0)) ∧ w'.heap[b9]? = some (.cells (wc y2) WT (0, 0)))) (by kernel_rfl) ⟨HD3.out.hd, H9.out⟩ (fun hHeld => ?_)
      refine' tk9 0 rfl ?_
      refine' tk9 1 rfl ?_
      refine' tk9 2 rfl ?_
      refine' tv9 3 rfl (by intro _ hSw; (try dsimp only at hSw); have b1 := (show _ = some (Value.slice (some ⟨g, 0, none⟩) n cap) from cell_of (i := 11) hSw.1 rfl); go_simp <;> with_reducible rfl) ?_
      refine' tk9 4 rfl ?_
      refine' tv9 5 rfl (by intro _ hSw; (try dsimp only at hSw); refine ex_ldz (wl y2) isW (rangez_of hSw.2) rfl ?_; rfl) ?_
      refine' tk9 6 rfl ?_
      refine ry [7] (.cons rfl (fun K hK => ?_) .nil)
      refine step_stz wl_len wl_one isW HO3.out HI.out y2 rfl rfl rfl ?_
      intro w6 ho M6
      have HD6 := Lib.hid (HD3.out.drew.set_at ho M6 rfl)
      have H96 := Lib.hid (M6.other N9g.out H9.out)
      have HC6 := Lib.hid (chg_in HC3.out.drew M6 (.inr (.inr rfl)))
      clear ho M6
      refine hK.out _ _ ⟨HD6.out.hd, H96.out⟩ (fun hNext => ?_)
      clear hK K hHeld
      have hHeld := hNext; clear hNext
      (try simp only [Act.put])
      refine wpAnyH_done (by kernel_rfl) ?_ _
      clear hHeld
      have HR6 := Lib.hid (range_m H96.out)
      go_wp2_with (first
       | ((with_reducible refine ldr (m := y2.m) isR HR6.out ?hx ?_); (case hx => rfl))
       | (go_at_call 30; (rw [HM2.out]; (with_reducible refine (CP.out _).mono ?_); rintro e w7 ⟨rfl, hb⟩; have HD7 := Lib.hid (HD6.out.below hb); have H97 := Lib.hid (stays H96.out hb); have HR7 := Lib.hid (range_m (stays H96.out hb)); have HC7 := Lib.hid (HC6.out.on hb); clear hb))
       | ((with_reducible refine ldr (m := y2.m) isR HR7.out ?hx ?_); (case hx => rfl))
       | (go_at_call 47; (rw [HM2.out]; (with_reducible refine (CC.out _).mono ?_); rintro e w8 ⟨rfl, hb⟩; have HD8 := Lib.hid (HD7.out.below hb); have HC8 := Lib.hid (HC7.out.on hb); clear hb)))
      go_ret3
      rw [HS.out]
      exact ⟨rfl, ⟨⟨_, _, by rw [← HY2.out]; exact HD8.out, fun k hk => .inl hk⟩, HC8.out⟩⟩
    · have u0 : ((y.lf : Int) == 0) = false := Mem.beq_false (by omega)
      have HK2 : Hid (∀ j z, j < k + 1 → x.cs[j]? = some z → z.lf ≠ 0) := Lib.hid fun j z hj hzz => by
       by_cases e : j = k
       · subst e; rw [hy] at hzz; rw [← Option.some.inj hzz]; exact hz
       · exact HK.out j z (by omega) hzz
      clear hz hy HK
      go_wp2
      go_roundg (n - (k + 1))
      case measure => omega
      case rel => exact ⟨k + 1, by first | rfl | go_num, Nat.le_refl _, by omega, HK2, rfl⟩
  · obtain rfl : k = n := by omega
    have t1 : decide ((k : Int) < (k : Int)) = false := decide_eq_false (by omega)
    have t2 : ¬ (k : Int) < (k : Int) := by omega
    have HS : Hid (say x.t2 x.cs = (none, x.cs)) := Lib.hid (say_all _ _ fun z hz => by
     obtain ⟨j, hj, e⟩ := List.mem_iff_getElem.1 hz
     exact HK.out j z (by rw [← HL.out]; exact hj) (by rw [List.getElem?_eq_getElem hj, e]))
    go_wp2
    go_ret3
    rw [HS.out]
    exact ⟨rfl, Nx.below HD.out (Below.refl _ _)⟩
theorem rnext (h : D w c base va vc x) (hx : x.Ok) : Calls Tryz.prog 29 #[ptr c] w fun e w' => e = .returned (nv x.next.1) ∧ Nx w c base va vc x.next.2 w' := by
 cases ha : x.an with
 | nil =>
  have e : x.next = ((say x.t2 x.cs).1, { x with cs := (say x.t2 x.cs).2 }) := by unfold Ct.next; rw [ha]
  rw [e]; exact rnext_c h hx ha
 | cons a r =>
  have e : x.next = (some a, { x with an := r }) := by unfold Ct.next; rw [ha]
  rw [e]; exact rnext_a h hx a ha
end
end Go.Proofs.YtakkhdammmcjcaaGreatDoor.Ctl
namespace Go.Proofs.YtakkhdammmcjcaaGreatDoor.Ctl
open Go.RowKit Base Mem Msgs Cr
set_option maxRecDepth 100000
/-- Does a response mean this command? -/
def hits (r : Ms) (w : Wt) : Bool := w.sd && (answers r w.m || ((r.k == 7) && (r.t == oct w.m)))
def what (r : Ms) (w : Wt) : Fa := if answers r w.m then ⟨2, r⟩ else ⟨3, w.m⟩
theorem resp_at (r : Ms) {y : Wt} (hy : hits r y = true) : ∀ (l : List Wt) (k : Nat), l[k]? = some y → (∀ j z, j < k → l[j]? = some z → hits r z = false) → resp r l = (l.take k ++ l.drop (k + 1), [what r y])
 | [], k, h, _ => by simp at h
 | v :: l, 0, h, _ => by
  obtain rfl : v = y := by simpa using h
  unfold resp what
  unfold hits at hy
  cases hs : v.sd with
  | false => rw [hs] at hy; cases hy
  | true =>
   cases ha : answers r v.m with
   | true => simp
   | false =>
    rw [hs, ha, Bool.true_and, Bool.false_or] at hy
    simp [hy]
 | v :: l, k + 1, h, hn => by
  have hv : hits r v = false := hn 0 v (Nat.succ_pos k) rfl
  have ih := resp_at r hy l k (by simpa using h) fun j z hj hz => hn (j + 1) z (by omega) (by simpa using hz)
  unfold hits at hv
  unfold resp
  have h1 : (v.sd && answers r v.m) = false := by cases hs : v.sd <;> cases ha : answers r v.m <;> simp_all
  have h2 : (v.sd && ((r.k == 7) && (r.t == oct v.m))) = false := by cases hs : v.sd <;> cases ha : answers r v.m <;> simp_all
  rw [if_neg (by rw [h1]; exact Bool.false_ne_true), if_neg (by rw [h2]; exact Bool.false_ne_true), ih]
  rfl
theorem resp_none (r : Ms) : ∀ l : List Wt, (∀ z ∈ l, hits r z = false) → resp r l = (l, [])
 | [], _ => rfl
 | v :: l, h => by
  have hv := h v List.mem_cons_self
  have ih := resp_none r l fun z hz => h z (List.mem_cons_of_mem _ hz)
  unfold hits at hv
  unfold resp
  have h1 : (v.sd && answers r v.m) = false := by cases hs : v.sd <;> cases ha : answers r v.m <;> simp_all
  have h2 : (v.sd && ((r.k == 7) && (r.t == oct v.m))) = false := by cases hs : v.sd <;> cases ha : answers r v.m <;> simp_all
  rw [if_neg (by rw [h1]; exact Bool.false_ne_true), if_neg (by rw [h2]; exact Bool.false_ne_true), ih]
section
variable {w w' : World} {c base b g n cap : Nat} {va vc v : Value} {x : Ct} {l : List Wt} {r : Ms}
theorem own_weak {α : Type} {E z b1 b2 : Nat} {fc : α → List Value} {l : List α} (h : OwnS E z fc w b2 v l) (hb : b1 ≤ b2) : OwnS E z fc w b1 v l := by
 obtain ⟨h1, h2⟩ := h
 refine ⟨h1, ?_⟩
 rcases h2 with h2 | ⟨g, cap, cur, h2, h3, h4⟩
 · exact .inl h2
 · exact .inr ⟨g, cap, cur, h2, by omega, h4⟩
theorem sd_cell {b : Nat} {y : Wt} {t : TypeId} {q : Bool} (h : w.heap[b]? = some (.cells (wc y) t (0, 0))) (hs : y.sd = q) : w.cell? ⟨b, 22, none⟩ = some (.bool q) := by
 rw [← hs]; exact cell_of h rfl
/-- Within response: nothing has turned yet but new memory; the message in its box. -/
structure Ri (w : World) (c base b : Nat) (va vc : Value) (x : Ct) (r : Ms) (wr : World) : Prop where
 d : D wr c base va vc x
 b : wr.heap[b]? = some (mO r RT)
 below : Below w.heap.size w wr
theorem Ri.on (h : Ri w c base b va vc x r w') {u : World} (hb : Below w'.heap.size w' u) : Ri w c base b va vc x r u := ⟨h.d.below hb, stays h.b hb, below_on h.below hb⟩
/-- One command is gone. -/
structure Rg (w : World) (c base b : Nat) (va vc v : Value) (x : Ct) (r : Ms) (l : List Wt) (wr : World) : Prop where
 d : D wr c base va v { x with cs := l }
 b : wr.heap[b]? = some (mO r RT)
 sub : ∀ k, DS c va v k → DS c va vc k ∨ w.heap.size ≤ k
 chg : Chg (DS c va vc) w wr
theorem Rg.on {u : World} (h : Rg w c base b va vc v x r l w') (hb : Below w'.heap.size w' u) : Rg w c base b va vc v x r l u := ⟨h.d.below hb, stays h.b hb, h.sub, h.chg.on hb⟩
theorem Ri.gone {u u2 : World} {ov : Option Addr} {nv cv : Nat} (h : Ri w c base b va vc x r u) (ho : OwnS WT 23 wl u2 u.heap.size (.slice ov nv cv) l) (hb : Below u.heap.size u u2) : Rg w c base b va vc (.slice ov nv cv) x r l (u2.setCell ⟨c, 11, none⟩ (.slice ov nv cv)) := by
 have h2 := h.on hb
 have hu : base ≤ u.heap.size := Nat.le_trans h.d.lo (Nat.le_of_lt h.d.hd.lt)
 refine ⟨h2.d.set_cs (own_weak ho hu) fun k hk e => ?_, (set_other (fun e => ne_type h2.b h2.d.hd (by decide) e) _).trans h2.b, fun k hk => ?_, (Chg.of_below h2.below).setCell c 11 _ fun _ => .inl rfl⟩
 · have h3 := (h.d.own_lt k (.inr (.inl hk))).2
   have h4 := (ho.lt k e).1
   omega
 · rcases hk with hk | hk | hk
   · exact .inl (.inl hk)
   · exact .inl (.inr (.inl hk))
   · have h4 := (ho.lt k hk).1
     have := h.below.size
     exact .inr (by omega)
theorem builtF (k : Nat) (m : Ms) : Tryz.prog.built FT [(0, .int .u8 (k : Int)), (1, mv m)] = some (fc ⟨k, m⟩) := by kernel_rfl
theorem own_onez {b : Nat} {f : Fa} (h : w.heap[b]? = some (.cells (fc f) FT (0, 0))) (hb : base ≤ b) : OwnS FT 21 fl w base (.slice (some ⟨b, 0, none⟩) 1 1) [f] :=
 ⟨by simp [fl_len], .inr ⟨b, 1, fc f, rfl, hb, h, Nat.le_refl _, by unfold maxLen; omega, rfl, by
  show (fl f).toArray.toList.take (1 * 21) = _
  rw [List.take_of_length_le (by simp [fl_len])]; simp⟩⟩
set_option maxHeartbeats 16000000 in
theorem rresponse (h : D w c base va vc x) (hx : x.Ok) (r : Ms) (hr : r.In) : Calls Tryz.prog 59 #[ptr c, mv r] w fun e w' => ∃ v, e = .returned v ∧ OwnS FT 21 fl w' w.heap.size v (resp r x.cs).2 ∧ Nx w c base va vc { x with cs := (resp r x.cs).1 } w' := by
 obtain ⟨oa, cap, rfl, ga⟩ := own_form h.cs
 obtain ⟨ob, capb, rfl⟩ := h.an.form
 generalize x.an.length = zb at h ⊢
 obtain ⟨n, hln⟩ : ∃ n, x.cs.length = n := ⟨_, rfl⟩
 have hmany := hx.cs_few
 have HX : Hid (x.cs.length ≤ 1000) := Lib.hid (by omega)
 rw [hln] at h ga hmany ⊢
 have HO := Lib.hid h.cs
 have HD := Lib.hid h
 have GA := Lib.hid ga
 have HL := Lib.hid hln
 have HK0 := Lib.hid hx
 have HRI := Lib.hid hr
 clear h hx hr hln ga
 go_enter Tryz.func59, Tryz.ntmps59
 go_wp2_with (((with_reducible refine bxm (m := r) ?hx ?_); (case hx => rfl); intro b3 w0 h F0; have HI0 : Hid (Ri w c base b3 (.slice ob zb capb) (.slice oa n cap) x r w0) := Lib.hid ⟨HD.out.below F0.below, h, F0.below⟩; clear h F0))
 go_loopg [5, 6] n (fun gm s s6 wr => ∃ k : Nat, s = nm k ∧ n - k ≤ gm ∧ k ≤ n ∧ Hid (∀ j z, j < k → x.cs[j]? = some z → hits r z = false) ∧ Hid (Ri w c base b3 (.slice ob zb capb) (.slice oa n cap) x r wr))
 case atStart => exact ⟨0, rfl, by omega, by omega, Lib.hid fun j z hj => absurd hj (Nat.not_lt_zero j), HI0⟩
 case round =>
  clear HI0
  obtain ⟨k, rfl, hgm, hkn, HK, HI⟩ := hrel
  obtain ⟨c8, c9, c10, c11⟩ := HI.out.d.cells
  have hl := HI.out.d.hd.lt
  by_cases hlt : k < n
  · have t1 : decide ((k : Int) < (n : Int)) = true := decide_eq_true (by omega)
    have t2 : (k : Int) < (n : Int) := by omega
    have j0 : (0 : Int) ≤ (k : Int) := by omega
    have vk := wrap_nat (k + 1) (by omega)
    obtain ⟨g, rfl⟩ := GA.out k hlt
    obtain ⟨y, hy⟩ : ∃ y, x.cs[k]? = some y := ⟨_, List.getElem?_eq_getElem (by rw [HL.out]; exact hlt)⟩
    have HYI := Lib.hid (HK0.out.cs y (List.mem_of_getElem? hy)).in_
    have HR := Lib.hid (own_rangez wl_len HI.out.d.cs k y hy)
    have HNX : Hid (hits r y = false → ∀ j z, j < k + 1 → x.cs[j]? = some z → hits r z = false) := Lib.hid fun hf j z hj hzz => by
     by_cases e : j = k
     · subst e; rw [hy] at hzz; rw [← Option.some.inj hzz]; exact hf
     · exact HK.out j z (by omega) hzz
    have HS : Hid (hits r y = true → resp r x.cs = (wo x.cs k x.cs.length, [what r y])) := Lib.hid fun ht => by
     rw [wo_end _ _ (by rw [HL.out]; exact hlt)]; exact resp_at r ht x.cs k hy HK.out
    have hh : hits r y = (y.sd && (answers r y.m || ((r.k == 7) && (r.t == oct y.m)))) := rfl
    have hw : what r y = if answers r y.m then ⟨2, r⟩ else ⟨3, y.m⟩ := rfl
    have ca := fun w => ranswers r y.m HRI.out HYI.out w
    have co := fun w => roctet y.m HYI.out w
    clear hy HK
    cases hs : y.sd with
    | false =>
     have HF := Lib.hid (HNX.out (by rw [hh, hs]; rfl))
     clear hh hw ca co HNX HS HRI HYI
     go_wp2_with (first
      | ((with_reducible refine ldz isW HR.out ?hz ?hx ?_); (case hz => rfl); (case hx => rfl))
      | ((with_reducible refine alr (cs := wc noW) (by kernel_rfl) ?_); intro b6 w1 h1 F1; have HD1 := Lib.hid (HI.out.d.below F1.below); have H31 := Lib.hid (F1.stays HI.out.b); have H5 := Lib.hid h1; have N5 := Lib.hid (HI.out.d.not_new (k := b6) (by rw [F1.eq]; exact Nat.le_refl _)); have N3 := Lib.hid (F1.ne HI.out.b); have L1 := Lib.hid (F1.le HI.out.below); have B1 := Lib.hid (F1.on HI.out.below); clear h1 F1 c8 c9 c10 c11 hl)
      | ((with_reducible refine str (wc y) isW H5.out ?h0 ?h1 ?hc ?hx ?hy ?_); (case h0 => rfl); (case h1 => rfl); (case hc => exact all_oneCell_toArray (wl_one y)); (case hx => rfl); (case hy => rfl); intro wx h2 M2; have HI2 : Hid (Ri w c base b3 (.slice ob zb capb) (.slice (some ⟨g, 0, none⟩) n cap) x r wx) := Lib.hid ⟨HD1.out.mod M2 N5.out, M2.other N3.out H31.out, M2.below B1.out L1.out⟩; have H3 := Lib.hid HI2.out.b; have H6 := Lib.hid h2; have HW6 := Lib.hid (range_m h2); obtain ⟨c8, c9, c10, c11⟩ := HI2.out.d.cells; have hl := HI2.out.d.hd.lt; have e2 := sd_cell h2 hs; have e4 := lt_heap h2; clear h2 M2))
     go_wp2
     go_roundg (n - (k + 1))
     case measure => omega
     case rel => exact ⟨k + 1, by first | rfl | go_num, Nat.le_refl _, by omega, HF, HI2⟩
    | true =>
     cases ha : answers r y.m with
     | true =>
      have HT := Lib.hid (HS.out (by rw [hh, hs, ha]; rfl))
      have HWH : Hid (what r y = ⟨2, r⟩) := Lib.hid (by rw [hw, if_pos ha])
      rw [ha] at ca
      have CA := Lib.hid ca
      clear hh hw ca co HNX HS ha
      go_wp2_with (first
       | ((with_reducible refine ldz isW HR.out ?hz ?hx ?_); (case hz => rfl); (case hx => rfl))
       | ((with_reducible refine alr (cs := wc noW) (by kernel_rfl) ?_); intro b6 w1 h1 F1; have HD1 := Lib.hid (HI.out.d.below F1.below); have H31 := Lib.hid (F1.stays HI.out.b); have H5 := Lib.hid h1; have N5 := Lib.hid (HI.out.d.not_new (k := b6) (by rw [F1.eq]; exact Nat.le_refl _)); have N3 := Lib.hid (F1.ne HI.out.b); have L1 := Lib.hid (F1.le HI.out.below); have B1 := Lib.hid (F1.on HI.out.below); clear h1 F1 c8 c9 c10 c11 hl)
       | ((with_reducible refine str (wc y) isW H5.out ?h0 ?h1 ?hc ?hx ?hy ?_); (case h0 => rfl); (case h1 => rfl); (case hc => exact all_oneCell_toArray (wl_one y)); (case hx => rfl); (case hy => rfl); intro wx h2 M2; have HI2 : Hid (Ri w c base b3 (.slice ob zb capb) (.slice (some ⟨g, 0, none⟩) n cap) x r wx) := Lib.hid ⟨HD1.out.mod M2 N5.out, M2.other N3.out H31.out, M2.below B1.out L1.out⟩; have H3 := Lib.hid HI2.out.b; have H6 := Lib.hid h2; have HW6 := Lib.hid (range_m h2); obtain ⟨c8, c9, c10, c11⟩ := HI2.out.d.cells; have hl := HI2.out.d.hd.lt; have e2 := sd_cell h2 hs; have e4 := lt_heap h2; clear h2 M2)
       | ((with_reducible refine ldm isR H3.out ?hx ?_); (case hx => rfl))
       | ((with_reducible refine ldr (m := y.m) isR HW6.out ?hx ?_); (case hx => rfl))
       | (go_at_call 82; ((with_reducible refine (CA.out _).mono ?_); rintro e w3 ⟨rfl, hb⟩; replace HI2 := Lib.hid (HI2.out.on hb); replace H3 := Lib.hid (stays H3.out hb); replace H6 := Lib.hid (stays H6.out hb); obtain ⟨c8, c9, c10, c11⟩ := HI2.out.d.cells; replace hl := HI2.out.d.hd.lt; clear hb))
       | (go_at_call 54; ((with_reducible refine (rwithout HI2.out.d.cs k HX.out).mono ?_); rintro e w4 ⟨v4, rfl, ho, hb⟩; obtain ⟨ov, cv, rfl, _⟩ := own_form ho; have HG := Lib.hid (HI2.out.gone ho hb); obtain ⟨c8, c9, c10, c11⟩ := (HI2.out.on hb).d.cells; have hl := (HI2.out.on hb).d.hd.lt; have hf := (HI2.out.on hb).d.free; clear ho hb))
       | ((with_reducible refine ldm isR HG.out.b ?hx ?_); (case hx => rfl))
       | ((with_reducible refine bdB (builtF 2 r) ?hl ?_); (case hl => kernel_rfl))
       | ((with_reducible refine bslz (z := 21) (fc ⟨2, r⟩) Tryz.underlying83 infoF ?hl ?hz ?hf ?_); (case hl => exact ⟨by decide, by decide⟩); (case hz => exact ⟨by decide, by decide⟩); (case hf => kernel_rfl); intro b7 w7 h7 F7; have HG7 := Lib.hid (HG.out.on F7.below); have H7 := Lib.hid h7; have L7 := Lib.hid (F7.eq); clear h7 F7))
      go_ret
      rw [HT.out, HWH.out]
      exact ⟨_, rfl, own_onez H7.out (by rw [L7.out]; exact HG.out.chg.size), ⟨⟨_, _, HG7.out.d, HG7.out.sub⟩, HG7.out.chg⟩⟩
     | false =>
      have HWH : Hid (what r y = ⟨3, y.m⟩) := Lib.hid (by rw [hw, if_neg (by rw [ha]; exact Bool.false_ne_true)])
      rw [ha] at ca
      have CA := Lib.hid ca
      by_cases h7 : r.k = 7
      · have u1 : ((r.k : Int) == 7) = true := by rw [h7]; rfl
        have eo := oc_beq r.t (oct y.m)
        obtain ⟨q, hq⟩ : ∃ q, (r.t == oct y.m) = q := ⟨_, rfl⟩
        rw [hq] at eo
        cases q with
        | true =>
         have HT := Lib.hid (HS.out (by rw [hh, hs, ha, hq, h7]; rfl))
         generalize oct y.m = ot at co eo
         have CO := Lib.hid co
         clear hh hw ca co HNX HS ha hq h7
         go_wp2_with (first
          | ((with_reducible refine ldz isW HR.out ?hz ?hx ?_); (case hz => rfl); (case hx => rfl))
          | ((with_reducible refine alr (cs := wc noW) (by kernel_rfl) ?_); intro b6 w1 h1 F1; have HD1 := Lib.hid (HI.out.d.below F1.below); have H31 := Lib.hid (F1.stays HI.out.b); have H5 := Lib.hid h1; have N5 := Lib.hid (HI.out.d.not_new (k := b6) (by rw [F1.eq]; exact Nat.le_refl _)); have N3 := Lib.hid (F1.ne HI.out.b); have L1 := Lib.hid (F1.le HI.out.below); have B1 := Lib.hid (F1.on HI.out.below); clear h1 F1 c8 c9 c10 c11 hl)
          | ((with_reducible refine str (wc y) isW H5.out ?h0 ?h1 ?hc ?hx ?hy ?_); (case h0 => rfl); (case h1 => rfl); (case hc => exact all_oneCell_toArray (wl_one y)); (case hx => rfl); (case hy => rfl); intro wx h2 M2; have HI2 : Hid (Ri w c base b3 (.slice ob zb capb) (.slice (some ⟨g, 0, none⟩) n cap) x r wx) := Lib.hid ⟨HD1.out.mod M2 N5.out, M2.other N3.out H31.out, M2.below B1.out L1.out⟩; have H3 := Lib.hid HI2.out.b; have H6 := Lib.hid h2; have HW6 := Lib.hid (range_m h2); obtain ⟨c8, c9, c10, c11⟩ := HI2.out.d.cells; have hl := HI2.out.d.hd.lt; have e2 := sd_cell h2 hs; have e4 := lt_heap h2; clear h2 M2)
          | ((with_reducible refine ldm isR H3.out ?hx ?_); (case hx => rfl))
          | ((with_reducible refine ldr (m := y.m) isR HW6.out ?hx ?_); (case hx => rfl))
          | (go_at_call 82; ((with_reducible refine (CA.out _).mono ?_); rintro e w3 ⟨rfl, hb⟩; replace HI2 := Lib.hid (HI2.out.on hb); replace H3 := Lib.hid (stays H3.out hb); replace H6 := Lib.hid (stays H6.out hb); obtain ⟨c8, c9, c10, c11⟩ := HI2.out.d.cells; replace hl := HI2.out.d.hd.lt; clear hb)))
         refine wp_region_held_drew (S := (fun w' => Below w3.heap.size w3 w')) (by kernel_rfl) (Below.refl _ _).drew (fun hHeld => ?_)
         refine' tk9 0 rfl ?_
         refine' tv9 1 rfl (by intro _ hSw; (try dsimp only at hSw); obtain ⟨q0, q1, q2, q3, q4, q5⟩ := lay (stays H3.out hSw); go_simp <;> with_reducible rfl) ?_
         refine' tk9 2 rfl ?_
         refine' tk9 3 rfl ?_
         refine' tk9 4 rfl ?_
         refine' tv9 5 rfl (by intro _ hSw; (try dsimp only at hSw); obtain ⟨q0, q1, q2, q3, q4, q5⟩ := lay (stays H3.out hSw); go_simp <;> with_reducible rfl) ?_
         refine' tk9 6 rfl ?_
         refine' tv9 7 rfl (by intro _ hSw; (try dsimp only at hSw); refine ex_ldr isR (range_m (stays H6.out hSw)) ?_; rfl) ?_
         refine ry [8] (.cons rfl (fun K hK => ?_) .nil)
         go_simp
         (with_reducible refine (CO.out _).mono ?_)
         rintro e wc ⟨rfl, hb⟩
         go_wp2_with fail
         refine hK.out _ _ (below_on hHeld hb) (fun hNext => ?_)
         clear hK K hHeld hb
         have hHeld := hNext; clear hNext
         (try simp only [Act.put, z1', z2', z3'])
         refine' tk9 9 rfl ?_
         refine' tk9 10 rfl ?_
         refine wpAnyH_done (by kernel_rfl) ?_ _
         have HB9 := Lib.hid hHeld
         clear hHeld c8 c9 c10 c11 hl e2 e4
         replace HI2 := Lib.hid (HI2.out.on HB9.out)
         have HW9 := Lib.hid (range_m (stays H6.out HB9.out))
         obtain ⟨c8, c9, c10, c11⟩ := HI2.out.d.cells
         have hl := HI2.out.d.hd.lt
         go_wp2_with (first
          | (go_at_call 54; ((with_reducible refine (rwithout HI2.out.d.cs k HX.out).mono ?_); rintro e w4 ⟨v4, rfl, ho, hb⟩; obtain ⟨ov, cv, rfl, _⟩ := own_form ho; have HG := Lib.hid (HI2.out.gone ho hb); obtain ⟨c8, c9, c10, c11⟩ := (HI2.out.on hb).d.cells; have hl := (HI2.out.on hb).d.hd.lt; have hf := (HI2.out.on hb).d.free; have HG6 := Lib.hid (range_m ((set_other (b := c) (o := 11) (fun e => ne_type (stays (stays H6.out HB9.out) hb) (HI2.out.on hb).d.hd (by decide) e) (.slice ov (wo x.cs k x.cs.length).length cv)).trans (stays (stays H6.out HB9.out) hb))); clear ho hb))
          | ((with_reducible refine ldr (m := y.m) isR HG6.out ?hx ?_); (case hx => rfl))
          | ((with_reducible refine bdB (builtF 3 y.m) ?hl ?_); (case hl => kernel_rfl))
          | ((with_reducible refine bslz (z := 21) (fc ⟨3, y.m⟩) Tryz.underlying83 infoF ?hl ?hz ?hf ?_); (case hl => exact ⟨by decide, by decide⟩); (case hz => exact ⟨by decide, by decide⟩); (case hf => kernel_rfl); intro b7 w7 h7 F7; have HG7 := Lib.hid (HG.out.on F7.below); have H7 := Lib.hid h7; have L7 := Lib.hid (F7.eq); clear h7 F7))
         go_ret
         rw [HT.out, HWH.out]
         exact ⟨_, rfl, own_onez H7.out (by rw [L7.out]; exact HG.out.chg.size), ⟨⟨_, _, HG7.out.d, HG7.out.sub⟩, HG7.out.chg⟩⟩
        | false =>
         have HF := Lib.hid (HNX.out (by rw [hh, hs, ha, hq, h7]; rfl))
         generalize oct y.m = ot at co eo
         have CO := Lib.hid co
         clear hh hw ca co HNX HS ha hq h7
         go_wp2_with (first
          | ((with_reducible refine ldz isW HR.out ?hz ?hx ?_); (case hz => rfl); (case hx => rfl))
          | ((with_reducible refine alr (cs := wc noW) (by kernel_rfl) ?_); intro b6 w1 h1 F1; have HD1 := Lib.hid (HI.out.d.below F1.below); have H31 := Lib.hid (F1.stays HI.out.b); have H5 := Lib.hid h1; have N5 := Lib.hid (HI.out.d.not_new (k := b6) (by rw [F1.eq]; exact Nat.le_refl _)); have N3 := Lib.hid (F1.ne HI.out.b); have L1 := Lib.hid (F1.le HI.out.below); have B1 := Lib.hid (F1.on HI.out.below); clear h1 F1 c8 c9 c10 c11 hl)
          | ((with_reducible refine str (wc y) isW H5.out ?h0 ?h1 ?hc ?hx ?hy ?_); (case h0 => rfl); (case h1 => rfl); (case hc => exact all_oneCell_toArray (wl_one y)); (case hx => rfl); (case hy => rfl); intro wx h2 M2; have HI2 : Hid (Ri w c base b3 (.slice ob zb capb) (.slice (some ⟨g, 0, none⟩) n cap) x r wx) := Lib.hid ⟨HD1.out.mod M2 N5.out, M2.other N3.out H31.out, M2.below B1.out L1.out⟩; have H3 := Lib.hid HI2.out.b; have H6 := Lib.hid h2; have HW6 := Lib.hid (range_m h2); obtain ⟨c8, c9, c10, c11⟩ := HI2.out.d.cells; have hl := HI2.out.d.hd.lt; have e2 := sd_cell h2 hs; have e4 := lt_heap h2; clear h2 M2)
          | ((with_reducible refine ldm isR H3.out ?hx ?_); (case hx => rfl))
          | ((with_reducible refine ldr (m := y.m) isR HW6.out ?hx ?_); (case hx => rfl))
          | (go_at_call 82; ((with_reducible refine (CA.out _).mono ?_); rintro e w3 ⟨rfl, hb⟩; replace HI2 := Lib.hid (HI2.out.on hb); replace H3 := Lib.hid (stays H3.out hb); replace H6 := Lib.hid (stays H6.out hb); obtain ⟨c8, c9, c10, c11⟩ := HI2.out.d.cells; replace hl := HI2.out.d.hd.lt; clear hb)))
         refine wp_region_held_drew (S := (fun w' => Below w3.heap.size w3 w')) (by kernel_rfl) (Below.refl _ _).drew (fun hHeld => ?_)
         refine' tk9 0 rfl ?_
         refine' tv9 1 rfl (by intro _ hSw; (try dsimp only at hSw); obtain ⟨q0, q1, q2, q3, q4, q5⟩ := lay (stays H3.out hSw); go_simp <;> with_reducible rfl) ?_
         refine' tk9 2 rfl ?_
         refine' tk9 3 rfl ?_
         refine' tk9 4 rfl ?_
         refine' tv9 5 rfl (by intro _ hSw; (try dsimp only at hSw); obtain ⟨q0, q1, q2, q3, q4, q5⟩ := lay (stays H3.out hSw); go_simp <;> with_reducible rfl) ?_
         refine' tk9 6 rfl ?_
         refine' tv9 7 rfl (by intro _ hSw; (try dsimp only at hSw); refine ex_ldr isR (range_m (stays H6.out hSw)) ?_; rfl) ?_
         refine ry [8] (.cons rfl (fun K hK => ?_) .nil)
         go_simp
         (with_reducible refine (CO.out _).mono ?_)
         rintro e wc ⟨rfl, hb⟩
         go_wp2_with fail
         refine hK.out _ _ (below_on hHeld hb) (fun hNext => ?_)
         clear hK K hHeld hb
         have hHeld := hNext; clear hNext
         (try simp only [Act.put, z1', z2', z3'])
         refine' tk9 9 rfl ?_
         refine' tk9 10 rfl ?_
         refine wpAnyH_done (by kernel_rfl) ?_ _
         have HB9 := Lib.hid hHeld
         clear hHeld c8 c9 c10 c11 hl e2 e4
         replace HI2 := Lib.hid (HI2.out.on HB9.out)
         go_wp2
         go_roundg (n - (k + 1))
         case measure => omega
         case rel => exact ⟨k + 1, by first | rfl | go_num, Nat.le_refl _, by omega, HF, HI2⟩
      · have u1 : ((r.k : Int) == 7) = false := Mem.beq_false (by omega)
        have HF := Lib.hid (HNX.out (by rw [hh, hs, ha, beq_eq_false_iff_ne.2 h7]; rfl))
        clear hh hw ca co HNX HS ha h7
        go_wp2_with (first
         | ((with_reducible refine ldz isW HR.out ?hz ?hx ?_); (case hz => rfl); (case hx => rfl))
         | ((with_reducible refine alr (cs := wc noW) (by kernel_rfl) ?_); intro b6 w1 h1 F1; have HD1 := Lib.hid (HI.out.d.below F1.below); have H31 := Lib.hid (F1.stays HI.out.b); have H5 := Lib.hid h1; have N5 := Lib.hid (HI.out.d.not_new (k := b6) (by rw [F1.eq]; exact Nat.le_refl _)); have N3 := Lib.hid (F1.ne HI.out.b); have L1 := Lib.hid (F1.le HI.out.below); have B1 := Lib.hid (F1.on HI.out.below); clear h1 F1 c8 c9 c10 c11 hl)
         | ((with_reducible refine str (wc y) isW H5.out ?h0 ?h1 ?hc ?hx ?hy ?_); (case h0 => rfl); (case h1 => rfl); (case hc => exact all_oneCell_toArray (wl_one y)); (case hx => rfl); (case hy => rfl); intro wx h2 M2; have HI2 : Hid (Ri w c base b3 (.slice ob zb capb) (.slice (some ⟨g, 0, none⟩) n cap) x r wx) := Lib.hid ⟨HD1.out.mod M2 N5.out, M2.other N3.out H31.out, M2.below B1.out L1.out⟩; have H3 := Lib.hid HI2.out.b; have H6 := Lib.hid h2; have HW6 := Lib.hid (range_m h2); obtain ⟨c8, c9, c10, c11⟩ := HI2.out.d.cells; have hl := HI2.out.d.hd.lt; have e2 := sd_cell h2 hs; have e4 := lt_heap h2; clear h2 M2)
         | ((with_reducible refine ldm isR H3.out ?hx ?_); (case hx => rfl))
         | ((with_reducible refine ldr (m := y.m) isR HW6.out ?hx ?_); (case hx => rfl))
         | (go_at_call 82; ((with_reducible refine (CA.out _).mono ?_); rintro e w3 ⟨rfl, hb⟩; replace HI2 := Lib.hid (HI2.out.on hb); replace H3 := Lib.hid (stays H3.out hb); replace H6 := Lib.hid (stays H6.out hb); obtain ⟨c8, c9, c10, c11⟩ := HI2.out.d.cells; replace hl := HI2.out.d.hd.lt; clear hb)))
        refine wp_region_held_drew (S := (fun w' => Below w3.heap.size w3 w')) (by kernel_rfl) (Below.refl _ _).drew (fun hHeld => ?_)
        refine' tk9 0 rfl ?_
        refine' tv9 1 rfl (by intro _ hSw; (try dsimp only at hSw); obtain ⟨q0, q1, q2, q3, q4, q5⟩ := lay (stays H3.out hSw); go_simp <;> with_reducible rfl) ?_
        refine' tk9 2 rfl ?_
        refine' tk9 3 rfl ?_
        refine sk9 4 rfl ?_
        refine sk9 5 rfl ?_
        refine sk9 6 rfl ?_
        refine sk9 7 rfl ?_
        refine sk9 8 rfl ?_
        refine sk9 9 rfl ?_
        refine' tk9 10 rfl ?_
        refine wpAnyH_done (by kernel_rfl) ?_ _
        have HB9 := Lib.hid hHeld
        clear hHeld c8 c9 c10 c11 hl e2 e4
        replace HI2 := Lib.hid (HI2.out.on HB9.out)
        go_wp2
        go_roundg (n - (k + 1))
        case measure => omega
        case rel => exact ⟨k + 1, by first | rfl | go_num, Nat.le_refl _, by omega, HF, HI2⟩
  · obtain rfl : k = n := by omega
    have t1 : decide ((k : Int) < (k : Int)) = false := decide_eq_false (by omega)
    have t2 : ¬ (k : Int) < (k : Int) := by omega
    have HS : Hid (resp r x.cs = (x.cs, [])) := Lib.hid (resp_none _ _ fun z hz => by
     obtain ⟨j, hj, e⟩ := List.mem_iff_getElem.1 hz
     exact HK.out j z (by rw [← HL.out]; exact hj) (by rw [List.getElem?_eq_getElem hj, e]))
    go_wp2
    go_ret
    rw [HS.out]
    exact ⟨_, rfl, ownS_nil _ _, Nx.below HD.out HI.out.below⟩
end
end Go.Proofs.YtakkhdammmcjcaaGreatDoor.Ctl
