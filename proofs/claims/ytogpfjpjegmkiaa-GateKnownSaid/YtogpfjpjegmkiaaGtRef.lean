/-
  The document's own gate in memory: all that it was told; what its last, Open, May, Stopped, All, Stop answer. Condition: at most a thousand words.
-/
import Derived.Test.YtogpfjpjegmkiaaGtDoes
namespace Go.Proofs.Ytogpfjpjegmkiaa.Gt
open Go.RowKit Go.Proofs.Ytogpfjpjegmkiaa.Base Go.Proofs.Ytogpfjpjegmkiaa.Mem Go.Proofs.Ytogpfjpjegmkiaa.Cr
abbrev RT : TypeId := 29
abbrev WT : TypeId := 46
abbrev fcW (e : Wd) : List Value := [oc e.d, .bool e.y]
theorem eltW : Elt WT 27 2 fcW :=
  ⟨Try.underlying27, ⟨.agg #[.int .u8 0, .bool false], 2, by kernel_rfl, rfl, by decide⟩, fun _ => rfl, fun x u hu => by
    simp only [fcW, List.mem_cons, List.not_mem_nil, or_false] at hu
    rcases hu with rfl | rfl <;> rfl, by decide⟩
theorem rowW (w : World) (e : Wd) : ∀ j, j < 2 → (w.alloc (.cells #[oc e.d, .bool e.y] WT (0, 0))).cell? ⟨w.heap.size, j, none⟩ = (fcW e)[j]? := by
  intro j hj
  have hb : (w.alloc (.cells #[oc e.d, .bool e.y] WT (0, 0))).heap[w.heap.size]? = some (.cells #[oc e.d, .bool e.y] WT (0, 0)) := nest w [_] 0 _ rfl
  match j, hj with
  | 0, _ => exact cell_of hb rfl
  | 1, _ => exact cell_of hb rfl
theorem ne_type {w : World} {a b : Nat} {cs cs' : Array Value} {t t' : TypeId} (h : w.heap[a]? = some (.cells cs t)) (h' : w.heap[b]? = some (.cells cs' t')) (ht : t ≠ t') : a ≠ b := fun e => by
  subst e
  rw [h, Option.some.injEq] at h'
  injection h' with _ e
  exact ht e
section
variable {α : Type} {E z : Nat} {fc : α → List Value} {w w' : World} {base : Nat} {v : Value} {l : List α}
theorem own_blk (h : OwnS E z fc w base v l) {b : Nat} (hb : v.ownBlock = some b) : ∃ cs, w.heap[b]? = some (.cells cs E) := by
  rcases h.2 with ⟨h2, _⟩ | ⟨g, cap, cur, h2, h3, h4, _⟩
  · rw [h2] at hb; cases hb
  · rw [h2] at hb
    cases hb
    exact ⟨cur, h4⟩
theorem own_keep (h : OwnS E z fc w base v l) (hk : ∀ b, v.ownBlock = some b → w'.heap[b]? = w.heap[b]?) : OwnS E z fc w' base v l := by
  obtain ⟨h1, h2⟩ := h
  refine ⟨h1, ?_⟩
  rcases h2 with h2 | ⟨g, cap, cur, h2, h3, h4, h5⟩
  · exact Or.inl h2
  · exact Or.inr ⟨g, cap, cur, h2, h3, by rw [hk g (by rw [h2]; rfl)]; exact h4, h5⟩
theorem own_form (h : OwnS E z fc w base v l) : ∃ oa cap, v = .slice oa l.length cap ∧ ∀ i, i < l.length → ∃ g, oa = some ⟨g, 0, none⟩ := by
  rcases h.shape with ⟨h1, h2⟩ | ⟨g, cap, h1, _⟩
  · subst h2
    exact ⟨none, 0, h1, fun i hi => by simp at hi⟩
  · exact ⟨some ⟨g, 0, none⟩, cap, h1, fun _ _ => ⟨g, rfl⟩⟩
end
/-- The document's own lies there: its row of words. -/
structure R (w : World) (c base : Nat) (v : Value) (ws : List Wd) : Prop where
  hd : At w c #[v] RT
  own : OwnS WT 2 fcW w base v ws
/-- Its blocks. -/
def Sx (c : Nat) (v : Value) : Nat → Prop := fun k => k = c ∨ v.ownBlock = some k
section
variable {w w' : World} {c base : Nat} {v : Value} {ws : List Wd} {x : St}
theorem R.below (h : R w c base v ws) (hb : Below w.heap.size w w') : R w' c base v ws := ⟨h.hd.below hb, h.own.below hb⟩
theorem R.drewN (h : R w c base v ws) (n : Nat) : R (w.drewN n) c base v ws := h.below ⟨rfl, rfl, rfl, Nat.le_refl _, fun _ _ => rfl⟩
/-- A block of another type is none of its own. -/
theorem R.not_S (h : R w c base v ws) {b : Nat} {cs : Array Value} {T : TypeId} (hb : At w b cs T) (h1 : T ≠ RT) (h2 : T ≠ WT) : ¬ Sx c v b := fun hj => by
  rcases hj with rfl | hj
  · exact ne_type hb h.hd h1 rfl
  · obtain ⟨cs', hc⟩ := own_blk h.own hj
    exact ne_type hb hc h2 rfl
theorem R.other {S : Nat → Prop} (h : R w c base v ws) (hc : Chg S w w') (hn : ∀ k, S k → ∃ cs T, At w k cs T ∧ T ≠ RT ∧ T ≠ WT) : R w' c base v ws := by
  refine ⟨h.hd.other hc fun e => ?_, own_keep h.own fun b hb => ?_⟩
  · obtain ⟨cs, T, ha, h1, _⟩ := hn _ e
    exact ne_type ha h.hd h1 rfl
  · obtain ⟨cs, hq⟩ := own_blk h.own hb
    refine hc.block b (lt_heap hq) fun e => ?_
    obtain ⟨cs', T, ha, _, h2⟩ := hn _ e
    exact ne_type ha hq h2 rfl
section
variable {ops : Array Oper} {rest : List Oper} {o : Oper} {a : Act} {Q : Exit → Act → World → Prop} {s y : Operand} {c' : Nat}
theorem R.app (h : R w c base v ws) (e : Wd) (hn : ws.length ≤ 1000) (hb : base ≤ w.heap.size) (hgd : o.guard = none) (hop : o.op = .call { callee := .builtin .append, args := #[s, y], argTypes := #[27, 27] })
    (hs : a.eval s = v) (hx : a.eval y = .slice (some ⟨w.heap.size, 0, none⟩) 1 c')
    (k : ∀ ov nv cv w4, Hid (R (w4.setCell ⟨c, 0, none⟩ (.slice ov nv cv)) c base (.slice ov nv cv) (ws ++ [e]) ∧ Chg (Sx c v) w (w4.setCell ⟨c, 0, none⟩ (.slice ov nv cv))) → w4.cell? ⟨c, 0, none⟩ = some v → (∀ i, w4.frozen? ⟨c, i, none⟩ = false) → c < w4.heap.size → wpList Try.prog ops Q rest (a.put o.dst (.slice ov nv cv)) w4) :
    wpList Try.prog ops Q (o :: rest) a (w.alloc (.cells #[oc e.d, .bool e.y] WT (0, 0))) :=
  wpList_append_elt eltW _ hgd s y hop base v hs ws (h.own.alloc _) w.heap.size c' hx e (rowW w e) (by omega) (by simp; omega) fun v4 w4 ho hg _ => by
    obtain ⟨ov, cv, rfl, _⟩ := own_form ho
    have hal : Below w.heap.size w (w.alloc (.cells #[oc e.d, .bool e.y] WT (0, 0))) := (Below.refl _ _).alloc (Nat.le_refl _) _
    have hcg := Chg.of_grown (S := fun k => v.ownBlock = some k) hg fun _ q => q
    have hd4 : At w4 c #[v] RT := (h.hd.below hal).other hcg fun q => by
      obtain ⟨cs, hc⟩ := own_blk h.own q
      exact ne_type h.hd hc (by decide) rfl
    refine k ov _ cv w4 (Lib.hid ⟨⟨hd4.set 0 _, own_keep ho fun j hj => set_other (fun q => ?_) _⟩, ?_⟩) (hd4.cell 0 v rfl) hd4.free hd4.lt
    · subst q; obtain ⟨cs, hc⟩ := own_blk ho hj; exact ne_type hd4 hc (by decide) rfl
    · exact (((Chg.of_below hal).then (hcg.mono fun _ q => Or.inr q)).setCell c 0 _ fun _ => Or.inl rfl)
end
set_option maxHeartbeats 2000000 in
theorem rlast (h : R w c base v ws) (hn : ws.length ≤ 1000) (d : Nat) (f : Bool) : Calls Try.prog 20 #[ptr c, oc d, .bool f] w fun e w' => e = .returned (.bool (last ws d f)) ∧ w = w' := by
  obtain ⟨oa, cap, rfl, ga⟩ := own_form h.own
  obtain ⟨q, hq⟩ : ∃ q, last ws d f = q := ⟨_, rfl⟩
  obtain ⟨n, hln⟩ : ∃ n, ws.length = n := ⟨_, rfl⟩
  have HQ : Hid (q = lst ws d f n) := Lib.hid (by rw [← hq, ← hln]; rfl)
  have GA : Hid (∀ i, i < n → ∃ g, oa = some ⟨g, 0, none⟩) := Lib.hid (by rw [← hln]; exact ga)
  have HL := Lib.hid hln
  have HR : Hid (R w c base (.slice oa n cap) ws) := Lib.hid (by rw [← hln]; exact h)
  have c0 := h.hd.cell 0 _ rfl
  have hl := h.hd.lt
  rw [hln] at hn c0
  rw [hq]
  clear h hq hln ga
  have vn : IntKind.i64.wrap ((n : Int) - 1) = (n : Int) - 1 := by rw [IntKind.wrap_i64]; omega
  go_enter Try.func20, Try.ntmps20
  go_wp2_with fail
  go_loopg [7] n (fun g s wr => ∃ (k : Nat) (z : Int), s = im z ∧ z + 1 = (k : Int) ∧ k ≤ g ∧ k ≤ n ∧ Hid (q = lst ws d f k) ∧ w = wr)
  case atStart => exact ⟨n, (n : Int) - 1, by first | rfl | go_num, by omega, by omega, Nat.le_refl _, HQ, rfl⟩
  case round =>
    obtain ⟨k, z, rfl, hz, hg, hk, HK, rfl⟩ := hrel
    by_cases hk0 : k = 0
    · subst hk0
      obtain rfl : z = -1 := by omega
      go_wp2
      go_ret
      exact ⟨by rw [HK.out]; rfl, rfl⟩
    · obtain ⟨j, rfl⟩ : ∃ j, k = j + 1 := ⟨k - 1, by omega⟩
      obtain rfl : z = (j : Int) := by omega
      obtain ⟨g1, rfl⟩ := GA.out j (by omega)
      have hget := wdAt_get (ws := ws) (k := j) (by rw [HL.out]; omega)
      have a0 := OwnS.cell (fc := fcW) (z := 2) (fun _ => rfl) HR.out.own j _ hget 0 (by decide)
      have a1 := OwnS.cell (fc := fcW) (z := 2) (fun _ => rfl) HR.out.own j _ hget 1 (by decide)
      have e0 : w.cell? ⟨g1, j * 2, none⟩ = some (oc (wdAt ws j).d) := by rw [Nat.mul_comm]; exact a0
      have e1 : w.cell? ⟨g1, j * 2 + 1, none⟩ = some (.bool (wdAt ws j).y) := by rw [Nat.mul_comm]; exact a1
      have HS : Hid (lst ws d f (j + 1) = if (wdAt ws j).d = d then (wdAt ws j).y else lst ws d f j) := Lib.hid rfl
      have t0 : decide ((0 : Int) ≤ (j : Int)) = true := decide_eq_true (by omega)
      have t1 : (0 : Int) ≤ (j : Int) := by omega
      have t2 : (j : Int) < (n : Int) := by omega
      have t3 : j < n := by omega
      have vj : IntKind.i64.wrap ((j : Int) - 1) = (j : Int) - 1 := by rw [IntKind.wrap_i64]; omega
      generalize (wdAt ws j).d = u at e0 HS
      generalize (wdAt ws j).y = y at e1 HS
      clear a0 a1 hget
      by_cases hu : u = d
      · have HE : Hid (q = y) := Lib.hid (by rw [HK.out, HS.out, if_pos hu])
        subst hu
        clear HS HK
        go_wp2
        go_ret
        exact ⟨by rw [HE.out]; rfl, rfl⟩
      · have HE : Hid (q = lst ws d f j) := Lib.hid (by rw [HK.out, HS.out, if_neg hu])
        have u0 : ((u : Int) == (d : Int)) = false := beq_false (by omega)
        have u1 : ¬ (u : Int) = (d : Int) := by omega
        clear HS HK hu
        go_wp2
        go_roundg j
        case measure => omega
        case rel => exact ⟨j, (j : Int) - 1, by first | rfl | go_num, by omega, Nat.le_refl _, by omega, HE, rfl⟩
theorem ropen (h : R w c base v ws) (hn : ws.length ≤ 1000) (ht : Tells ws x) : Calls Try.prog 10 #[ptr c] w fun e w' => e = .returned (.bool x.op) ∧ w = w' := by
  have C := rlast h hn 0 true
  rw [ht.op] at C
  have C := Lib.hid C
  clear h ht
  go_enter Try.func10, Try.ntmps10
  go_wp2_with fail
  refine C.out.mono ?_
  rintro _ _ ⟨rfl, rfl⟩
  go_wp2
  go_ret
  exact ⟨rfl, rfl⟩
theorem rmay (h : R w c base v ws) (hn : ws.length ≤ 1000) (ht : Tells ws x) (d : Nat) : Calls Try.prog 12 #[ptr c, oc d] w fun e w' => e = .returned (.bool (x.may d)) ∧ w = w' := by
  by_cases h0 : d = 0
  · subst h0
    clear h ht
    go_enter Try.func12, Try.ntmps12
    go_wp2
    go_ret
    exact ⟨rfl, rfl⟩
  have t0 : ((d : Int) == 0) = false := beq_false (by omega)
  have t1 : ¬ (d : Int) = 0 := by omega
  by_cases h1 : d ≤ 63
  · have t2 : decide ((d : Int) ≤ 63) = true := decide_eq_true (by omega)
    have t3 : (d : Int) ≤ 63 := by omega
    have CO := Lib.hid (ropen h hn ht)
    have CL := rlast h hn d false
    rw [ht.st d (by omega) h1] at CL
    have CL := Lib.hid CL
    rw [may_at (by omega) h1]
    generalize x.op = o at CO ⊢
    generalize x.st d = s at CL ⊢
    clear h ht
    cases o with
    | true =>
      go_enter Try.func12, Try.ntmps12
      go_wp2_with fail
      refine CO.out.mono ?_
      rintro _ _ ⟨rfl, rfl⟩
      go_wp2_with fail
      refine CL.out.mono ?_
      rintro _ _ ⟨rfl, rfl⟩
      go_wp2
      go_ret
      exact ⟨rfl, rfl⟩
    | false =>
      go_enter Try.func12, Try.ntmps12
      go_wp2_with fail
      refine CO.out.mono ?_
      rintro _ _ ⟨rfl, rfl⟩
      go_wp2
      go_ret
      exact ⟨rfl, rfl⟩
  · have t2 : decide ((d : Int) ≤ 63) = false := decide_eq_false (by omega)
    have t3 : ¬ (d : Int) ≤ 63 := by omega
    rw [may_hi (by omega)]
    clear h ht
    go_enter Try.func12, Try.ntmps12
    go_wp2
    go_ret
    exact ⟨rfl, rfl⟩
set_option maxHeartbeats 2000000 in
theorem rstopped (h : R w c base v ws) (hn : ws.length ≤ 1000) (ht : Tells ws x) (hx : x.Ok) : Calls Try.prog 15 #[ptr c] w fun e w' => ∃ v, e = .returned v ∧ Gs w v (x.sl 64) w' := by
  have H1 := Lib.hid ((Gs.nil w).cast (sl_one hx))
  have HR := Lib.hid h
  have HT := Lib.hid ht
  clear h ht hx
  go_enter Try.func15, Try.ntmps15
  go_wp2_with fail
  go_loopg [3, 4] 63 (fun gm s3 s4 wr => ∃ k : Nat, s4 = oc k ∧ 64 - k ≤ gm ∧ 1 ≤ k ∧ k ≤ 64 ∧ Hid (Gs w s3 (x.sl k) wr))
  case atStart => exact ⟨1, rfl, by omega, by omega, by omega, H1⟩
  case round =>
    clear H1
    obtain ⟨k, rfl, hgm, hk1, hk64, HG⟩ := hrel
    by_cases hlt : k ≤ 63
    · have t1 : decide ((k : Int) ≤ 63) = true := decide_eq_true (by omega)
      have t2 : (k : Int) ≤ 63 := by omega
      have vk := wrap_u8 (k + 1) (by omega)
      have C := rlast (HR.out.below HG.out.below) hn k false
      rw [HT.out.st k hk1 hlt] at C
      have C := Lib.hid C
      have HN := Lib.hid (sl_next x k)
      have HL : Hid ((x.sl k).length ≤ 1000) := Lib.hid (by have := sl_len x k; omega)
      generalize x.st k = s at C HN
      cases s with
      | true =>
        go_wp2_with fail
        refine C.out.mono ?_
        rintro _ _ ⟨rfl, rfl⟩
        clear C
        go_wp2_with (at_builtin; refine HG.out.app k HL.out rfl rfl rfl rfl ?_; intro v4 w4 h1; have HG3 := h1; clear h1)
        have HG4 := Lib.hid (HG3.out.cast HN.out)
        go_roundg (64 - (k + 1))
        case measure => omega
        case rel => exact ⟨k + 1, by first | rfl | go_num, Nat.le_refl _, by omega, by omega, HG4⟩
      | false =>
        go_wp2_with fail
        refine C.out.mono ?_
        rintro _ _ ⟨rfl, rfl⟩
        clear C
        go_wp2
        have HG4 := Lib.hid (HG.out.cast HN.out)
        go_roundg (64 - (k + 1))
        case measure => omega
        case rel => exact ⟨k + 1, by first | rfl | go_num, Nat.le_refl _, by omega, by omega, HG4⟩
    · obtain rfl : k = 64 := by omega
      go_wp2
      go_ret
      exact ⟨_, rfl, HG.out⟩
theorem rall (h : R w c base v ws) (hn : ws.length ≤ 1000) (hb : base ≤ w.heap.size) (y : Bool) : Calls Try.prog 17 #[ptr c, .bool y] w fun e w' => e = .returned (.tuple #[]) ∧ (∃ v', R w' c base v' (ws ++ [⟨0, y⟩])) ∧ Chg (Sx c v) w w' := by
  obtain ⟨oa, cap, rfl, ga⟩ := own_form h.own
  have c0 : w.cell? ⟨c, 0, none⟩ = some (.slice oa ws.length cap) := h.hd.cell 0 _ rfl
  have hl := h.hd.lt
  have HR := Lib.hid h
  have HL := Lib.hid hn
  have HB := Lib.hid hb
  clear h ga hn hb
  generalize ws.length = n at c0 HR
  go_enter Try.func17, Try.ntmps17
  go_wp2_with (at_builtin; refine HR.out.app ⟨0, y⟩ HL.out HB.out rfl rfl rfl rfl ?_; intro ov nv cv w4 h1 c4 f4 l4; have H4 := h1; clear h1)
  go_end0
  exact ⟨rfl, ⟨_, H4.out.1⟩, H4.out.2⟩
theorem rstop_no (c d : Nat) (y : Bool) (hd : ¬ (0 < d ∧ d ≤ 63)) (w : World) : Calls Try.prog 19 #[ptr c, oc d, .bool y] w fun e w' => e = .returned (.tuple #[]) ∧ w = w' := by
  by_cases h0 : d = 0
  · subst h0
    go_enter Try.func19, Try.ntmps19
    go_wp2
    go_end0
    exact ⟨rfl, rfl⟩
  · have t0 : ((d : Int) == 0) = false := beq_false (by omega)
    have t1 : ¬ (d : Int) = 0 := by omega
    have t2 : decide ((d : Int) ≤ 63) = false := decide_eq_false (by omega)
    have t3 : ¬ (d : Int) ≤ 63 := by omega
    have t4 : ¬ d ≤ 63 := by omega
    clear hd h0
    go_enter Try.func19, Try.ntmps19
    go_wp2
    go_end0
    exact ⟨rfl, rfl⟩
theorem rstop_yes (h : R w c base v ws) (hn : ws.length ≤ 1000) (hb : base ≤ w.heap.size) (d : Nat) (y : Bool) (hd : 0 < d ∧ d ≤ 63) : Calls Try.prog 19 #[ptr c, oc d, .bool y] w fun e w' => e = .returned (.tuple #[]) ∧ (∃ v', R w' c base v' (ws ++ [⟨d, y⟩])) ∧ Chg (Sx c v) w w' := by
  obtain ⟨oa, cap, rfl, ga⟩ := own_form h.own
  have c0 : w.cell? ⟨c, 0, none⟩ = some (.slice oa ws.length cap) := h.hd.cell 0 _ rfl
  have hl := h.hd.lt
  have HR := Lib.hid h
  have HL := Lib.hid hn
  have HB := Lib.hid hb
  have t0 : ((d : Int) == 0) = false := beq_false (by omega)
  have t1 : ¬ (d : Int) = 0 := by omega
  have t2 : decide ((d : Int) ≤ 63) = true := decide_eq_true (by omega)
  have t3 : (d : Int) ≤ 63 := by omega
  have t4 : d ≤ 63 := hd.2
  clear h ga hn hb hd
  generalize ws.length = n at c0 HR
  go_enter Try.func19, Try.ntmps19
  go_wp2_with (at_builtin; refine HR.out.app ⟨d, y⟩ HL.out HB.out rfl rfl rfl rfl ?_; intro ov nv cv w4 h1 c4 f4 l4; have H4 := h1; clear h1)
  go_end0
  exact ⟨rfl, ⟨_, H4.out.1⟩, H4.out.2⟩
end
end Go.Proofs.Ytogpfjpjegmkiaa.Gt
