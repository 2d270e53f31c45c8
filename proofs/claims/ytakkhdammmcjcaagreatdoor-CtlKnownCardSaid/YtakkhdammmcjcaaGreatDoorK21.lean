/-
  Layer 22, put together: CtlPtick. Conditions: as each theorem names them.
-/
import Derived.Test.YtakkhdammmcjcaaGreatDoorK20
namespace Go.Proofs.YtakkhdammmcjcaaGreatDoor.Ctl
open Go.RowKit Base Mem Msgs Cr
set_option maxRecDepth 100000
/-- A tick of one command: what it is then, and does it wait any more. -/
def tk1 (N : Nat) (y : Wt) : Wt × Bool := if y.lf ≠ 1 then (⟨y.m, y.tr, y.lf - 1, y.sd⟩, true) else (⟨y.m, y.tr + 1, 0, y.sd⟩, !decide (N < y.tr + 1))
theorem tk1_ticks (N : Nat) (y : Wt) : ticks N [y] = if (tk1 N y).2 = true then ([(tk1 N y).1], []) else ([], [⟨4, y.m⟩]) := by
 unfold ticks tk1
 by_cases h : y.lf ≠ 1
 · rw [if_pos h, if_pos h, if_pos rfl]; rfl
 · rw [if_neg h, if_neg h]
   by_cases h2 : N < y.tr + 1
   · rw [if_pos h2, decide_eq_true h2]; rfl
   · rw [if_neg h2, decide_eq_false h2]; rfl
theorem tk1_m (N : Nat) (y : Wt) : (tk1 N y).1.m = y.m := by unfold tk1; split <;> rfl
theorem set_k21 {w : World} {b : Nat} {y : Wt} {t : TypeId} (h : w.heap[b]? = some (.cells (kc y) t (0, 0))) (k : Nat) : (w.setCell ⟨b, 21, none⟩ (nm k)).heap[b]? = some (.cells (kc ⟨y.m, y.tr, k, y.sd⟩) t (0, 0)) := block_set h _
theorem set_k20 {w : World} {b : Nat} {y : Wt} {t : TypeId} (h : w.heap[b]? = some (.cells (kc y) t (0, 0))) (k : Nat) : (w.setCell ⟨b, 20, none⟩ (nm k)).heap[b]? = some (.cells (kc ⟨y.m, k, y.lf, y.sd⟩) t (0, 0)) := block_set h _
theorem due_eq (k : Nat) (q : Bool) (h : (k == 0) = q) (y : Wt) (hy : y.lf = k) (w : World) : Calls Tryz.prog 35 #[kv y] w fun e w' => e = .returned (.bool q) ∧ Below w.heap.size w w' := by
 have := fdue y w
 rw [hy, h] at this
 exact this
set_option maxHeartbeats 4000000 in
theorem ftick1 {w : World} {b6 : Nat} {y : Wt} {n : Int} {N : Nat} (h : w.heap[b6]? = some (.cells (kc y) KT (0, 0))) (hn : min (max n 0) 255 = (N : Int)) (hlf : y.lf ≤ 255) (htr : y.tr ≤ 255) :
 Calls Tryz.prog 51 #[ptr b6, im n] w fun e w' => e = .returned (.bool (tk1 N y).2) ∧ w'.heap[b6]? = some (.cells (kc (tk1 N y).1) KT (0, 0)) ∧ Chg (fun k => k = b6) w w' := by
 have H0 := Lib.hid h
 have C0 := Lib.hid (Chg.refl (fun k => k = b6) w)
 by_cases h0 : y.lf = 0
 · have D := Lib.hid (due_eq 0 true rfl y h0)
   have e1 : tk1 N y = (y, true) := by
    unfold tk1; rw [if_pos (by omega)]
    have : y.lf - 1 = y.lf := by omega
    rw [this]
   rw [e1]
   clear h hn hlf htr h0 e1
   go_enter Tryz.func51, Tryz.ntmps51
   go_wp2_with (first | ((with_reducible refine ldz isK (kz_row H0.out) ?hz ?hx ?_); (case hz => rfl); (case hx => rfl)) | (go_at_call 35; ((with_reducible refine (D.out _).mono ?_); rintro e w1 ⟨rfl, hb⟩; have H1 := Lib.hid (stays H0.out hb); have C1 := Lib.hid (C0.out.on hb); obtain ⟨d0, d1⟩ := lay_k H1.out; have hf : ∀ i, w1.frozen? ⟨b6, i, none⟩ = false := fun _ => free_of H1.out; have hl := lt_heap H1.out; clear hb)))
   go_ret
   exact ⟨rfl, H1.out, C1.out⟩
 · obtain ⟨l1, hl1⟩ : ∃ l1, y.lf = l1 + 1 := ⟨y.lf - 1, by omega⟩
   have D := Lib.hid (due_eq y.lf false (beq_eq_false_iff_ne.2 h0) y rfl)
   have vl : IntKind.i64.wrap ((y.lf : Int) - 1) = (l1 : Int) := by rw [IntKind.wrap_i64]; omega
   by_cases h1 : l1 = 0
   · subst h1
     have e1 : tk1 N y = (⟨y.m, y.tr + 1, 0, y.sd⟩, !decide (N < y.tr + 1)) := by unfold tk1; rw [if_neg (by omega)]
     rw [e1]
     have D2 := Lib.hid (due_eq 0 true rfl ⟨y.m, y.tr, 0, y.sd⟩ rfl)
     obtain ⟨q, hq⟩ : ∃ q, (!decide (N < y.tr + 1)) = q := ⟨_, rfl⟩
     obtain ⟨t1, ht1⟩ : ∃ t1, y.tr + 1 = t1 := ⟨_, rfl⟩
     have vt : IntKind.i64.wrap ((y.tr : Int) + 1) = (t1 : Int) := by rw [IntKind.wrap_i64]; omega
     rw [ht1] at hq ⊢
     rw [hq]
     have u1 : decide ((t1 : Int) ≤ (N : Int)) = q := by
      rw [← hq, ← decide_not, decide_eq_decide]; omega
     clear h hlf htr h0 e1 hl1 ht1 hq
     go_enter Tryz.func51, Tryz.ntmps51
     go_wp2_with (first | ((with_reducible refine ldz isK (kz_row H0.out) ?hz ?hx ?_); (case hz => rfl); (case hx => rfl)) | (go_at_call 35; ((with_reducible refine (D.out _).mono ?_); rintro e w1 ⟨rfl, hb⟩; have H1 := Lib.hid (stays H0.out hb); have C1 := Lib.hid (C0.out.on hb); obtain ⟨d0, d1⟩ := lay_k H1.out; have hf : ∀ i, w1.frozen? ⟨b6, i, none⟩ = false := fun _ => free_of H1.out; have hl := lt_heap H1.out; have H2 := Lib.hid (set_k21 H1.out 0); have C2 := Lib.hid (C1.out.setCell b6 21 (nm 0) fun _ => rfl); clear hb)) | ((with_reducible refine ldz isK (kz_row H2.out) ?hz ?hx ?_); (case hz => rfl); (case hx => rfl)) | (go_at_call 35; ((with_reducible refine (D2.out _).mono ?_); rintro e w3 ⟨rfl, hb⟩; have H3 := Lib.hid (stays H2.out hb); have C3 := Lib.hid (C2.out.on hb); clear d0 d1 hf hl; obtain ⟨d0, d1⟩ := lay_k H3.out; have hf : ∀ i, w3.frozen? ⟨b6, i, none⟩ = false := fun _ => free_of H3.out; have hl := lt_heap H3.out; have H4 := Lib.hid (set_k20 H3.out t1); have C4 := Lib.hid (C3.out.setCell b6 20 (nm t1) fun _ => rfl); clear hb)))
     all_goals (go_ret; exact ⟨by first | rfl | (rw [u1]) | simp_all, H4.out, C4.out⟩)
   · have e1 : tk1 N y = (⟨y.m, y.tr, l1, y.sd⟩, true) := by
      unfold tk1; rw [if_pos (by omega)]
      have : y.lf - 1 = l1 := by omega
      rw [this]
     rw [e1]
     have D2 := Lib.hid (due_eq l1 false (beq_eq_false_iff_ne.2 h1) ⟨y.m, y.tr, l1, y.sd⟩ rfl)
     clear h hn hlf htr h0 e1 hl1 h1
     go_enter Tryz.func51, Tryz.ntmps51
     go_wp2_with (first | ((with_reducible refine ldz isK (kz_row H0.out) ?hz ?hx ?_); (case hz => rfl); (case hx => rfl)) | (go_at_call 35; ((with_reducible refine (D.out _).mono ?_); rintro e w1 ⟨rfl, hb⟩; have H1 := Lib.hid (stays H0.out hb); have C1 := Lib.hid (C0.out.on hb); obtain ⟨d0, d1⟩ := lay_k H1.out; have hf : ∀ i, w1.frozen? ⟨b6, i, none⟩ = false := fun _ => free_of H1.out; have hl := lt_heap H1.out; have H2 := Lib.hid (set_k21 H1.out l1); have C2 := Lib.hid (C1.out.setCell b6 21 (nm l1) fun _ => rfl); clear hb)) | ((with_reducible refine ldz isK (kz_row H2.out) ?hz ?hx ?_); (case hz => rfl); (case hx => rfl)) | (go_at_call 35; ((with_reducible refine (D2.out _).mono ?_); rintro e w3 ⟨rfl, hb⟩; have H3 := Lib.hid (stays H2.out hb); have C3 := Lib.hid (C2.out.on hb); clear d0 d1 hf hl; obtain ⟨d0, d1⟩ := lay_k H3.out; have hf : ∀ i, w3.frozen? ⟨b6, i, none⟩ = false := fun _ => free_of H3.out; have hl := lt_heap H3.out; clear hb)))
     go_ret
     exact ⟨rfl, H3.out, C3.out⟩
section
variable {ops : Array Oper} {rest : List Oper} {a : Act} {Q : Exit → Act → World → Prop} {w w' : World}
/-- An append whose run is known. -/
theorem apk {o : Oper} {S : TypeId} {v v' u : Value} (hgd : o.guard = none) (s x : Operand) (hop : o.op = .call { callee := .builtin .append, args := #[s, x], argTypes := #[S, S] }) (hs : a.eval s = v) (hx : a.eval x = u) (hr : (Builtin.append_ #[S, S] o.type #[v, u]).run Tryz.prog w = .ok v' w')
 (h : wpList Tryz.prog ops Q rest (a.put o.dst v') w') : wpList Tryz.prog ops Q (o :: rest) a w :=
 wpList_plain hgd fun _ hK => by
  unfold Oper.wp execOp
  simp only [hop, resolve, invoke, builtin, Sem.run_bind, Sem.run_pure, Result.andThen_ok, List.map_toArray, List.map_cons, List.map_nil, hs, hx, hr]
  exact hK _ _ h
end
theorem builtG (k : Nat) (m : Ms) : Tryz.prog.built GT [(0, .int .u8 (k : Int)), (1, mv m)] = some (fc ⟨k, m⟩) := by kernel_rfl
theorem gr_same (w : World) (r : Option Nat) : w.grownBy w r := ⟨rfl, rfl, rfl, Nat.le_refl _, fun _ _ _ => rfl⟩
theorem mod_chg {b : Nat} {w w' : World} (M : Mod b w w') : Chg (fun k => k = b) w w' := ⟨M.os, M.tape, M.output, Nat.le_of_eq M.size.symm, fun k _ hk => M.rest k hk⟩
section
variable {w u u' : World} {c base g m cap i b6 : Nat} {a b t n : Int} {va vc vf : Value} {x : Ct} {A : List Wt} {G : List Fa}
/-- Within Tick: the commands' row, of which the first ones stay; the facts so far. -/
structure Tz (w : World) (base g m cap : Nat) (l A : List Wt) (vf : Value) (G : List Fa) (u : World) : Prop where
 own : OwnS KT 22 kl u base (.slice (some ⟨g, 0, none⟩) m cap) (half A l)
 f : OwnS GT 21 fl u w.heap.size vf G
 chg : Chg (fun k => k = g) w u
 lt : g < w.heap.size
variable {l : List Wt}
theorem Tz.f_ne (h : Tz w base g m cap l A vf G u) {k : Nat} (hk : vf.ownBlock = some k) : k ≠ g := fun e => by
 obtain ⟨cs, h1⟩ := row_blk h.f hk
 obtain ⟨cs', h2⟩ := row_blk h.own (b := g) rfl
 exact type_ne h1 h2 (by decide) e
theorem Tz.on (h : Tz w base g m cap l A vf G u) (hb : Below u.heap.size u u') : Tz w base g m cap l A vf G u' := ⟨h.own.below hb, h.f.below hb, h.chg.on hb, h.lt⟩
theorem Tz.turn (h : Tz w base g m cap l A vf G u) (hc : Chg (fun k => k = b6) u u') {cs : Array Value} (h6 : u.heap[b6]? = some (.cells cs KT (0, 0))) (hb : w.heap.size ≤ b6) : Tz w base g m cap l A vf G u' :=
 ⟨row_keep h.own fun k hk => hc.block k (h.own.lt k hk).2 fun e => by
  have h1 := h.lt
  cases hk
  have h2 : g = b6 := e
  omega,
  row_keep h.f fun k hk => hc.block k (h.f.lt k hk).2 fun e => by
   obtain ⟨cs', h1⟩ := row_blk h.f hk
   exact type_ne h1 h6 (by decide) e, h.chg.trans hc fun k hk e => by omega, h.lt⟩
theorem Tz.addF (h : Tz w base g m cap l A vf G u) {v' : Value} {G' : List Fa} (ho : OwnS GT 21 fl u' w.heap.size v' G') (hg : u.grownBy u' vf.ownBlock) : Tz w base g m cap l A v' G' u' :=
 ⟨row_keep h.own fun k hk => (Chg.of_grown (S := fun k => vf.ownBlock = some k) hg fun k hk => hk).block k (h.own.lt k hk).2 fun e => by cases hk; exact h.f_ne e rfl, ho, h.chg.grown hg fun k hk hlt => by have := (h.f.lt k hk).1; omega, h.lt⟩
theorem Tz.put (h : Tz w base g m cap l A vf G u) (y : Wt) (hi : A.length = i) (hl : i < l.length) : Tz w base g m cap l (A ++ [y]) vf G (u.setCells g (0 + i * 22) (kl y)) := by
 have h1 := own_putz kl_len h.own i (by rw [half_len (by omega)]; exact hl) y
 rw [← hi, half_set (by omega), hi] at h1
 rw [Nat.zero_add]
 exact ⟨h1, row_keep h.f fun k hk => (Chg.of_grown (S := fun k => k = g) (scs_grown u g (i * 22) (kl y)) fun k hk => (Option.some.inj hk).symm).block k (h.f.lt k hk).2 (h.f_ne hk), h.chg.grown (scs_grown u g (i * 22) (kl y)) fun k hk _ => (Option.some.inj hk).symm, h.lt⟩
theorem Tz.cast {A' : List Wt} {G' : List Fa} (h : Tz w base g m cap l A vf G u) (e1 : A' = A) (e2 : G' = G) : Tz w base g m cap l A' vf G' u := by rw [e1, e2]; exact h
theorem Tz.at_c (h : Tz w base g m cap l A vf G u) (hp : P w c base a b t n va (.slice (some ⟨g, 0, none⟩) m cap) x) : At u c #[im a, im b, im t, im n, va, .slice (some ⟨g, 0, none⟩) m cap] CT := hp.hd.other h.chg fun e => (hp.cs_ne (k := g) rfl).1 e.symm
theorem Tz.cells (h : Tz w base g m cap l A vf G u) (hp : P w c base a b t n va (.slice (some ⟨g, 0, none⟩) m cap) x) : u.cell? ⟨c, 3, none⟩ = some (im n) ∧ u.cell? ⟨c, 5, none⟩ = some (.slice (some ⟨g, 0, none⟩) m cap) ∧ c < u.heap.size :=
 ⟨(h.at_c hp).cell 3 _ rfl, (h.at_c hp).cell 5 _ rfl, (h.at_c hp).lt⟩
theorem Tz.first (h : Tz w base g m cap l A vf G u) (hi : A.length = i) : OwnS KT 22 kl u base (.slice (some ⟨g, 0, none⟩) i cap) A := by
 have := own_first (A := A) (B := l.drop A.length) kl_len (by decide) h.own
 rwa [hi] at this
/-- The append of a command that stays: there is room. -/
theorem Tz.app (h : Tz w base g m cap l A vf G u) {b7 : Nat} (y : Wt) (_hi : A.length = i) (hl : i < cap) (h7 : u.heap[b7]? = some (.cells (kc y) KT (0, 0))) (ty : TypeId) :
 (Builtin.append_ #[72, 72] ty #[.slice (some ⟨g, 0, none⟩) i cap, .slice (some ⟨b7, 0, none⟩) 1 1]).run Tryz.prog u = .ok (.slice (some ⟨g, 0, none⟩) (i + 1) cap) (u.setCells g (0 + i * 22) (kl y)) := by
 obtain ⟨zero0, bytes, hinfo, hzc, hby⟩ := eltK.info
 obtain ⟨i0, hi0, hz0, hz1, _⟩ := info_parts hinfo
 have hs := srcz_at eltK u b7 0 1 1 [y] rfl fun j z hz q hq => by
  have hj : j = 0 := by
   have := (List.getElem?_eq_some_iff.1 hz).1
   simp at this; omega
  subst hj
  obtain rfl : y = z := by simpa using hz
  rw [Nat.mul_zero, Nat.zero_add, Nat.zero_add]
  exact row_ofk h7 q (by rw [kl_len]; exact hq)
 rw [show [y].flatMap kl = kl y by simp] at hs
 have := run_append_room_src (P := Tryz.prog) (w := u) 72 72 ty KT i0 Tryz.underlying72 hi0 g 0 i cap (.slice (some ⟨b7, 0, none⟩) 1 1) 1 (kl y) (by rw [hz1]; exact hs) (by omega)
  (fun j hj => by rw [hz1, Nat.zero_add]; rw [kl_len] at hj; exact own_room h.own _ (by omega)) (fun j hj => h.own.free _)
 rw [hz1] at this
 exact this
theorem Tz.appd (h : Tz w base g m cap l A vf G u) {b7 : Nat} (y : Wt) (hi : A.length = i) (hl : i < l.length) (hc : i < cap) (h7 : u.heap[b7]? = some (.cells (kc y) KT (0, 0))) :
 ∃ u', (∀ ty, (Builtin.append_ #[72, 72] ty #[.slice (some ⟨g, 0, none⟩) i cap, .slice (some ⟨b7, 0, none⟩) 1 1]).run Tryz.prog u = .ok (.slice (some ⟨g, 0, none⟩) (i + 1) cap) u') ∧ Tz w base g m cap l (A ++ [y]) vf G u' :=
 ⟨_, fun ty => h.app y hi hc h7 ty, h.put y hi hl⟩
/-- What Tick's end leaves. -/
structure Tf (w : World) (c base : Nat) (a b t n : Int) (va vc v2 : Value) (y : Ct) (vf : Value) (G : List Fa) (u u' : World) : Prop where
 px : Px w c base a b t n va vc y (u'.setCell ⟨c, 5, none⟩ v2)
 f : OwnS GT 21 fl (u'.setCell ⟨c, 5, none⟩ v2) w.heap.size vf G
 c3 : u.cell? ⟨c, 3, none⟩ = some (im n)
 c5 : u.cell? ⟨c, 5, none⟩ = some vc
 c5' : u'.cell? ⟨c, 5, none⟩ = some vc
 fr : ∀ i, u'.frozen? ⟨c, i, none⟩ = false
 lt : c < u'.heap.size
 ltw : c < u.heap.size
theorem Tz.fin (h : Tz w base g m cap l A vf G u) (hp : P w c base a b t n va (.slice (some ⟨g, 0, none⟩) m cap) x) (hA : (ticks x.n2 x.cs).1 = A ∧ (ticks x.n2 x.cs).2 = G) (_hi : A.length = i) (_him : i ≤ m) (hg : u.grownBy u' (some g)) (ho : OwnS KT 22 kl u' base (.slice (some ⟨g, 0, none⟩) i cap) A) (hs : x.tick.1.Ok ∧ Sd x.tick.1) :
 Tf w c base a b t n va (.slice (some ⟨g, 0, none⟩) m cap) (.slice (some ⟨g, 0, none⟩) i cap) x.tick.1 vf G u u' := by
 have e : x.tick.1 = { x with cs := A } := by unfold Ct.tick; rw [hA.1]
 rw [e] at hs ⊢
 have hcg : Chg (fun k => (Value.slice (some ⟨g, 0, none⟩) m cap).ownBlock = some k) w u' := (h.chg.mono (T := fun k => (Value.slice (some ⟨g, 0, none⟩) m cap).ownBlock = some k) fun k e => by rw [e]; rfl).grown hg fun k hk _ => hk
 have hpc := hp.put_cs ho hcg (fun k hk => .inl hk) hs.1 hs.2
 have hc := h.cells hp
 have hcl := hp.hd.lt
 refine ⟨⟨⟨_, _, hpc.p, hpc.sub⟩, hpc.chg⟩, ?_, hc.1, hc.2.1, hpc.c5, hpc.fr, hpc.lt, hc.2.2⟩
 have h1 : OwnS GT 21 fl u' w.heap.size vf G := row_keep h.f fun k hk => (Chg.of_grown (S := fun k => k = g) hg fun k hk => (Option.some.inj hk).symm).block k (h.f.lt k hk).2 (h.f_ne hk)
 exact row_keep h1 fun k hk => set_other (fun e => by have := (h.f.lt k hk).1; omega) _
set_option maxHeartbeats 4000000 in
theorem ftick_nil (h : P w c base a b t n va (.slice none 0 0) x) : Calls Tryz.prog 25 #[ptr c] w fun e w' => ∃ v, e = .returned v ∧ OwnS GT 21 fl w' w.heap.size v x.tick.2 ∧ Px w c base a b t n va (.slice none 0 0) x.tick.1 w' := by
 have hcs : x.cs = [] := List.eq_nil_of_length_eq_zero h.cs.num.symm
 have e1 : x.tick = ({ x with cs := [] }, []) := by unfold Ct.tick; rw [hcs]; rfl
 rw [e1]
 obtain ⟨c0, c1, c2, c3, c4, c5⟩ := h.cells
 have hl := h.hd.lt
 have hf := h.free
 have HP := Lib.hid h
 have HE : Hid (P (w.setCell ⟨c, 5, none⟩ (.slice none 0 0)) c base a b t n va (.slice none 0 0) { x with cs := [] }) := Lib.hid (h.set_cs (ownS_nil _ _) (by have := h.ok; rw [← hcs]; exact this) (by have := h.sd; rw [← hcs]; exact this))
 have hcl : ∀ ty, (Builtin.clear_ #[72] ty #[.slice none 0 0]).run Tryz.prog w = .ok (.tuple #[]) w := fun ty => run_clear_none w _ _ ty Tryz.underlying72 _ _
 clear h e1 hcs
 go_enter Tryz.func25, Tryz.ntmps25
 go_wp2_with fail
 go_loopg [3, 4, 19] 0 (fun gm s3 s4 s wr => s3 = .slice none 0 0 ∧ s4 = .slice none 0 0 ∧ s = nm 0 ∧ w = wr)
 case atStart => exact ⟨rfl, rfl, by first | rfl | go_num, rfl⟩
 case round =>
  obtain ⟨rfl, rfl, rfl, rfl⟩ := hrel
  go_wp2
  go_ret
  exact ⟨_, rfl, ownS_nil _ _, ⟨⟨_, _, HE.out, fun k hk => .inl hk⟩, (Chg.refl _ _).setCell c 5 _ fun _ => .inl rfl⟩⟩
set_option maxHeartbeats 16000000 in
theorem ftick_some (h : P w c base a b t n va (.slice (some ⟨g, 0, none⟩) m cap) x) : Calls Tryz.prog 25 #[ptr c] w fun e w' => ∃ v, e = .returned v ∧ OwnS GT 21 fl w' w.heap.size v x.tick.2 ∧ Px w c base a b t n va (.slice (some ⟨g, 0, none⟩) m cap) x.tick.1 w' := by
 have hx := h.ok
 have HP := Lib.hid h
 have hnum := h.cs.num
 have HL := Lib.hid hnum.symm
 have hmany := hx.cs_few
 rw [← hnum] at hmany
 have HX : Hid (x.tick.1.Ok ∧ Sd x.tick.1) := Lib.hid ⟨hx.tick, Sd.ticks h.sd⟩
 have HK0 := Lib.hid hx
 obtain ⟨cur, _, hmc, hmx, _, _⟩ := own_raw h.cs
 have hmax : cap ≤ 9223372036854775807 := by unfold maxLen at hmx; omega
 have HN := Lib.hid h.raw.rm.symm
 obtain ⟨c0, c1, c2, c3, c4, c5⟩ := h.cells
 have hl := h.hd.lt
 have H0 : Hid (Tz w base g m cap x.cs (ticks x.n2 (x.cs.take 0)).1 (.slice none 0 0) (ticks x.n2 (x.cs.take 0)).2 w) := Lib.hid ⟨h.cs, ownS_nil _ _, Chg.refl _ _, (h.own_lt g (.inr (.inr rfl))).2⟩
 have e00 : Hid (x.tick.2 = (ticks x.n2 x.cs).2) := Lib.hid rfl
 clear h hx hnum hmx
 go_enter Tryz.func25, Tryz.ntmps25
 go_wp2_with fail
 go_loopg [3, 4, 19] m (fun gm s3 s4 s wr => ∃ k i : Nat, s = nm k ∧ s4 = .slice (some ⟨g, 0, none⟩) i cap ∧ m - k ≤ gm ∧ i ≤ k ∧ k ≤ m ∧ Hid ((ticks x.n2 (x.cs.take k)).1.length = i) ∧ Hid (Tz w base g m cap x.cs (ticks x.n2 (x.cs.take k)).1 s3 (ticks x.n2 (x.cs.take k)).2 wr))
 case atStart => exact ⟨0, 0, by first | rfl | go_num, rfl, by omega, Nat.le_refl _, by omega, Lib.hid rfl, H0⟩
 case round =>
  clear H0 c0 c1 c2 c3 c4 c5 hl
  obtain ⟨k, i, rfl, rfl, hgm, hik, hkn, HI, HZ⟩ := hrel
  by_cases hlt : k < m
  · obtain ⟨c3, c5, hl⟩ := HZ.out.cells HP.out
    have t1 : decide ((k : Int) < (m : Int)) = true := decide_eq_true (by omega)
    have t2 : (k : Int) < (m : Int) := by omega
    have j0 : (0 : Int) ≤ (k : Int) := by omega
    have vk := nat_wrap (k + 1) (by omega)
    obtain ⟨y, hy⟩ : ∃ y, x.cs[k]? = some y := ⟨_, List.getElem?_eq_getElem (by rw [HL.out]; exact hlt)⟩
    have HR := Lib.hid (own_rangez kl_len HZ.out.own k y (by rw [half_get (by rw [HI.out]; omega)]; exact hy))
    have HTN := Lib.hid (ticks_next x.n2 hy)
    have HT1 := Lib.hid (tk1_ticks x.n2 y)
    have HM := Lib.hid (tk1_m x.n2 y)
    have hlf := HK0.out.lf y (List.mem_of_getElem? hy)
    have htr := HK0.out.tr y (List.mem_of_getElem? hy)
    have ct := fun (u : World) hu => ftick1 (w := u) (b6 := u.heap.size) hu HN.out hlf htr
    have CT := Lib.hid (fun (u : World) (b6 : Nat) hu => ftick1 (w := u) (b6 := b6) (y := y) hu HN.out hlf htr)
    have HLn : Hid ((ticks x.n2 (x.cs.take k)).2.length + 1 ≤ 1000000) := Lib.hid (by
     have := ticks_len x.n2 (x.cs.take k)
     rw [List.length_take] at this
     omega)
    obtain ⟨y2, hy2⟩ : ∃ y2, (tk1 x.n2 y).1 = y2 := ⟨_, rfl⟩
    rw [hy2] at HT1 HM CT
    clear hy hlf htr ct hy2
    cases hq : (tk1 x.n2 y).2 with
    | true =>
     rw [hq] at HT1 CT
     clear hq
     go_wp2_with (first
      | ((with_reducible refine ldz isK HR.out ?hz ?hx ?_); (case hz => rfl); (case hx => rfl))
      | ((with_reducible refine alr (T := KT) (cs := kc zK) (by kernel_rfl) ?_); intro b6 w1 h1 F1; have H5 := Lib.hid h1; have Z1 := Lib.hid (HZ.out.on F1.below); have N6 := Lib.hid (Nat.le_trans HZ.out.chg.size (Nat.le_of_eq F1.eq.symm)); clear h1 F1 c3 c5 hl)
      | ((with_reducible refine str (kc y) isK H5.out ?h0 ?h1 ?hc ?hx ?hy ?_); (case h0 => rfl); (case h1 => rfl); (case hc => exact all_oneCell_toArray (kl_one y)); (case hx => rfl); (case hy => rfl); intro w2 h2 M2; have Z2 := Lib.hid (Z1.out.turn (mod_chg M2) H5.out N6.out); have H6 := Lib.hid h2; obtain ⟨c3, c5, hl⟩ := Z2.out.cells HP.out; clear h2 M2)
      | (go_at_call 51; refine (CT.out _ _ H6.out).mono ?_; rintro e w3 ⟨rfl, h3, hc⟩; have Z3 := Lib.hid (Z2.out.turn hc H6.out N6.out); have H7 := Lib.hid h3; clear h3 hc c3 c5 hl)
      | ((with_reducible refine ldz isK (kz_row H7.out) ?hz ?hx ?_); (case hz => rfl); (case hx => rfl))
      | ((with_reducible refine bslz (z := 22) (kc y2) Tryz.underlying72 infoK ?hl ?hz ?hf ?_); (case hl => exact ⟨by decide, by decide⟩); (case hz => exact ⟨by decide, by decide⟩); (case hf => kernel_rfl); intro b7 w7 h7 F7; have Z7 := Lib.hid (Z3.out.on F7.below); have H9 := Lib.hid h7; clear h7 F7)
      | (at_builtin; obtain ⟨w8, hr8, hz8⟩ := Z7.out.appd y2 HI.out (by rw [HL.out]; omega) (by omega) H9.out; refine apk rfl _ _ rfl rfl rfl (hr8 _) ?_; have Z8 := Lib.hid hz8; clear hr8 hz8))
     have Z9 := Lib.hid (Z8.out.cast (show (ticks x.n2 (x.cs.take (k + 1))).1 = _ by rw [HTN.out, HT1.out]; rfl) (show (ticks x.n2 (x.cs.take (k + 1))).2 = _ by rw [HTN.out, HT1.out]; exact List.append_nil _))
     have HI2 : Hid ((ticks x.n2 (x.cs.take (k + 1))).1.length = i + 1) := Lib.hid (by rw [HTN.out, HT1.out]; show (_ ++ [y2]).length = _; rw [List.length_append, HI.out]; rfl)
     go_roundg (m - (k + 1))
     case measure => omega
     case rel => exact ⟨k + 1, i + 1, by first | rfl | go_num, rfl, Nat.le_refl _, by omega, by omega, HI2, Z9⟩
    | false =>
     rw [hq] at HT1 CT
     clear hq
     go_wp2_with (first
      | ((with_reducible refine ldz isK HR.out ?hz ?hx ?_); (case hz => rfl); (case hx => rfl))
      | ((with_reducible refine alr (T := KT) (cs := kc zK) (by kernel_rfl) ?_); intro b6 w1 h1 F1; have H5 := Lib.hid h1; have Z1 := Lib.hid (HZ.out.on F1.below); have N6 := Lib.hid (Nat.le_trans HZ.out.chg.size (Nat.le_of_eq F1.eq.symm)); clear h1 F1 c3 c5 hl)
      | ((with_reducible refine str (kc y) isK H5.out ?h0 ?h1 ?hc ?hx ?hy ?_); (case h0 => rfl); (case h1 => rfl); (case hc => exact all_oneCell_toArray (kl_one y)); (case hx => rfl); (case hy => rfl); intro w2 h2 M2; have Z2 := Lib.hid (Z1.out.turn (mod_chg M2) H5.out N6.out); have H6 := Lib.hid h2; obtain ⟨c3, c5, hl⟩ := Z2.out.cells HP.out; clear h2 M2)
      | (go_at_call 51; refine (CT.out _ _ H6.out).mono ?_; rintro e w3 ⟨rfl, h3, hc⟩; have Z3 := Lib.hid (Z2.out.turn hc H6.out N6.out); have H7 := Lib.hid h3; clear h3 hc c3 c5 hl)
      | ((with_reducible refine ldr (m := y2.m) isM (kz_m H7.out) ?hx ?_); (case hx => rfl))
      | ((with_reducible refine bdB (builtG 4 y2.m) ?hl ?_); (case hl => kernel_rfl))
      | ((with_reducible refine bslz (z := 21) (fc ⟨4, y2.m⟩) Tryz.underlying54 infoG ?hl ?hz ?hf ?_); (case hl => exact ⟨by decide, by decide⟩); (case hz => exact ⟨by decide, by decide⟩); (case hf => kernel_rfl); intro b7 w7 h7 F7; have Z7 := Lib.hid (Z3.out.on F7.below); have H9 := Lib.hid h7; clear h7 F7)
      | (at_builtin; refine wpList_append_elt eltG _ rfl _ _ rfl w.heap.size _ rfl _ Z7.out.f b7 _ rfl ⟨4, y2.m⟩ (row_ofk H9.out) HLn.out Z7.out.chg.size ?_; intro v' w8 ho hg _; have Z8 := Lib.hid (Z7.out.addF ho hg); clear ho hg))
     have Z9 := Lib.hid (Z8.out.cast (show (ticks x.n2 (x.cs.take (k + 1))).1 = _ by rw [HTN.out, HT1.out]; exact List.append_nil _) (show (ticks x.n2 (x.cs.take (k + 1))).2 = _ by rw [HTN.out, HT1.out, HM.out]; rfl))
     have HI2 : Hid ((ticks x.n2 (x.cs.take (k + 1))).1.length = i) := Lib.hid (by rw [HTN.out, HT1.out]; show (_ ++ []).length = _; rw [List.append_nil, HI.out])
     go_roundg (m - (k + 1))
     case measure => omega
     case rel => exact ⟨k + 1, i, by first | rfl | go_num, rfl, Nat.le_refl _, by omega, by omega, HI2, Z9⟩
  · obtain rfl : k = m := by omega
    have t1 : decide ((k : Int) < (k : Int)) = false := decide_eq_false (by omega)
    have t2 : ¬ (k : Int) < (k : Int) := by omega
    have HT : Hid (x.cs.take k = x.cs) := Lib.hid (List.take_of_length_le (by rw [HL.out]; exact Nat.le_refl _))
    rw [HT.out] at HI HZ
    have HA : Hid ((ticks x.n2 x.cs).1 = (ticks x.n2 x.cs).1 ∧ (ticks x.n2 x.cs).2 = (ticks x.n2 x.cs).2) := Lib.hid ⟨rfl, rfl⟩
    clear hgm hlt e00 HT HL HK0 HN hmany
    by_cases hin : i < k
    · obtain ⟨W2, hW2⟩ : ∃ W2, W2 = wr.setCells g (i * 22) (Builtin.zeroCells (kc zK) (k - i)).toList := ⟨_, rfl⟩
      have hcl : ∀ ty, (Builtin.clear_ #[72] ty #[.slice (some ⟨g, i * 22, none⟩) (k - i) (cap - i)]).run Tryz.prog wr = .ok (.tuple #[]) W2 := fun ty => by
       rw [hW2]
       exact run_clear_z wr _ _ ty (.agg (kc zK)) 22 Tryz.underlying72 Tryz.zeroValue88 rfl (by decide) all0_k g (i * 22) _ _ (by omega) (fun t ht => own_room HZ.out.own _ (by omega)) (fun t ht => HZ.out.own.free _)
      have HG := Lib.hid (HZ.out.fin HP.out HA.out HI.out (by omega) (u' := W2) (by rw [hW2]; exact scs_grown wr g (i * 22) _) (by rw [hW2]; exact own_tail kl_len (HZ.out.first HI.out) _ _ (by rw [HI.out]; omega)) HX.out)
      have e1 : ¬ cap = i := by omega
      have c3 := HG.out.c3
      have c5 := HG.out.c5
      have c5' := HG.out.c5'
      have hf := HG.out.fr
      have hl := HG.out.lt
      have hlw : c < wr.heap.size := HG.out.ltw
      have hi1 : (0 : Int) ≤ (i : Int) := by omega
      have hi2 : i ≤ k := by omega
      have hi3 : (i : Int) ≤ (k : Int) := by omega
      have hi4 : i ≤ cap := by omega
      clear HZ hW2
      go_wp2
      go_ret
      exact ⟨_, rfl, HG.out.f, HG.out.px⟩
    · obtain rfl : i = k := by omega
      by_cases hcap : cap = i
      · subst hcap
        have W2 := wr
        have hcl : ∀ ty, (Builtin.clear_ #[72] ty #[.slice (some ⟨g, 0, none⟩) 0 0]).run Tryz.prog wr = .ok (.tuple #[]) wr := fun ty => run_clear_none wr _ _ ty Tryz.underlying72 _ _
        have HG := Lib.hid (HZ.out.fin HP.out HA.out HI.out (Nat.le_refl _) (u' := wr) (gr_same wr _) (HZ.out.first HI.out) HX.out)
        have c3 := HG.out.c3
        have c5 := HG.out.c5
        have c5' := HG.out.c5'
        have hf := HG.out.fr
        have hl := HG.out.lt
        have hlw : c < wr.heap.size := HG.out.ltw
        have hi1 : (0 : Int) ≤ (cap : Int) := by omega
        have hi2 : cap ≤ cap := by omega
        have hi3 : (cap : Int) ≤ (cap : Int) := by omega
        have hi4 : cap ≤ cap := by omega
        clear HZ W2
        go_wp2
        go_ret
        exact ⟨_, rfl, HG.out.f, HG.out.px⟩
      · have W2 := wr
        have hcl : ∀ ty, (Builtin.clear_ #[72] ty #[.slice (some ⟨g, i * 22, none⟩) 0 (cap - i)]).run Tryz.prog wr = .ok (.tuple #[]) wr := fun ty => run_clear_none wr _ _ ty Tryz.underlying72 _ _
        have HG := Lib.hid (HZ.out.fin HP.out HA.out HI.out (Nat.le_refl _) (u' := wr) (gr_same wr _) (HZ.out.first HI.out) HX.out)
        have e1 : ¬ cap = i := hcap
        have c3 := HG.out.c3
        have c5 := HG.out.c5
        have c5' := HG.out.c5'
        have hf := HG.out.fr
        have hl := HG.out.lt
        have hlw : c < wr.heap.size := HG.out.ltw
        have hi1 : (0 : Int) ≤ (i : Int) := by omega
        have hi2 : i ≤ i := by omega
        have hi3 : (i : Int) ≤ (i : Int) := by omega
        have hi4 : i ≤ cap := by omega
        clear HZ W2
        go_wp2
        go_ret
        exact ⟨_, rfl, HG.out.f, HG.out.px⟩
theorem ftick (h : P w c base a b t n va vc x) : Calls Tryz.prog 25 #[ptr c] w fun e w' => ∃ v, e = .returned v ∧ OwnS GT 21 fl w' w.heap.size v x.tick.2 ∧ Px w c base a b t n va vc x.tick.1 w' := by
 rcases h.cs.shape with ⟨rfl, _⟩ | ⟨g, cap, rfl, _⟩
 · exact ftick_nil h
 · exact ftick_some h
end
end Go.Proofs.YtakkhdammmcjcaaGreatDoor.Ctl
