/-
  What is on its way between two links comes, till there is nothing more: what run leaves. Condition: they lie where they say; at most a thousand answers wait.
-/
import Derived.Test.YtfflbaiddiahnaaLkTwo
namespace Go.Proofs.Ytfflbaiddiahnaa.Lk
open Go.RowKit Go.Proofs.Ytfflbaiddiahnaa.Base Go.Proofs.Ytfflbaiddiahnaa.Mem
def put (q : List Ac) (x : Ac) : List Ac := if x.k = 0 then q else q ++ [x]
theorem put_len (q : List Ac) (x : Ac) : (put q x).length ≤ q.length + 1 := by
  unfold put; split
  · omega
  · simp
def hearA (t : Tw) (x : Ac) (r : List Ac) : Tw := ⟨(on t.a (evOf x.k x.p x.c)).1, t.b, r, put t.q1 (on t.a (evOf x.k x.p x.c)).2⟩
def hearB (t : Tw) (x : Ac) (r : List Ac) : Tw := ⟨t.a, (on t.b (evOf x.k x.p x.c)).1, put t.q0 (on t.b (evOf x.k x.p x.c)).2, r⟩
def step (first : Bool) (t : Tw) : Option Tw :=
  if (first && !t.q1.isEmpty) || t.q0.isEmpty then
    match t.q1 with
    | [] => none
    | x :: r => some (hearB t x r)
  else match t.q0 with
    | [] => none
    | x :: r => some (hearA t x r)
def runs : Nat → Bool → Tw → Tw
  | 0, _, t => t
  | n + 1, f, t => match step f t with
    | none => t
    | some t' => runs n f t'
theorem qz_cons {w : World} {base n c : Nat} {o : Option Addr} {x : Ac} {r : List Ac} (h : Qz 5 fcA w base (.slice o n c) (x :: r)) :
    ∃ g off, o = some ⟨g, off, none⟩ ∧ n = r.length + 1 ∧ n ≤ c ∧ c ≤ 9223372036854775807 ∧ base ≤ g ∧ g < w.heap.size ∧
      (w.cell? ⟨g, off, none⟩ = some (.int .u8 x.k) ∧ w.cell? ⟨g, off + 1, none⟩ = some (.bool x.c) ∧ w.cell? ⟨g, off + 2, none⟩ = some (.bool x.p) ∧ w.cell? ⟨g, off + 3, none⟩ = some (.int .u8 x.t) ∧ w.cell? ⟨g, off + 4, none⟩ = some (.int .u8 x.f)) ∧
      Qz 5 fcA w base (.slice (if c = 1 then some ⟨g, off, none⟩ else some ⟨g, off + 5, none⟩) r.length (c - 1)) r := by
  rcases h with ⟨_, h⟩ | ⟨g, off, cap, hv, hb, hR⟩
  · cases h
  · injection hv with h1 h2 h3
    subst h1 h2 h3
    have hl := hR.len
    refine ⟨g, off, rfl, rfl, hl, hR.max, hb, hR.lt, ⟨hR.cell 0 x rfl 0 (by decide), hR.cell 0 x rfl 1 (by decide), hR.cell 0 x rfl 2 (by decide), hR.cell 0 x rfl 3 (by decide), hR.cell 0 x rfl 4 (by decide)⟩, ?_⟩
    rw [List.length_cons] at hl
    by_cases hc : c = 1
    · rw [if_pos hc]
      have hr : r = [] := List.eq_nil_of_length_eq_zero (by omega)
      subst hr
      subst hc
      exact Qz.of hb ⟨Nat.zero_le _, by decide, hR.lt, fun i y hi => (by simp at hi), fun i hi => (by simp at hi), fun i hi => (by simp at hi)⟩ rfl
    · rw [if_neg hc]
      have := hR.drop 1 (by omega)
      rw [Nat.mul_one] at this
      exact Qz.of hb this rfl
/-- Within run: the queues' slices by their parts. -/
structure Rn (w0 : World) (pa pb tb : Nat) (o0 : Option Addr) (n0 c0 : Nat) (o1 : Option Addr) (n1 c1 : Nat) (t : Tw) (w : World) : Prop where
  tw : TwAt w0 pa pb tb (.slice o0 n0 c0) (.slice o1 n1 c1) t w
  l0 : t.q0.length = n0
  l1 : t.q1.length = n1
  oa : t.a.Ok
  ob : t.b.Ok
  few : n0 + n1 ≤ 1000
theorem Rn.of {w0 w : World} {pa pb tb : Nat} {v0 v1 : Value} {t : Tw} (h : TwAt w0 pa pb tb v0 v1 t w) (ha : t.a.Ok) (hb : t.b.Ok) (hf : t.q0.length + t.q1.length ≤ 1000) : ∃ o0 n0 c0 o1 n1 c1, Rn w0 pa pb tb o0 n0 c0 o1 n1 c1 t w := by
  obtain ⟨o0, c0, h0⟩ := h.h0.form
  obtain ⟨o1, c1, h1⟩ := h.h1.form
  subst h0 h1
  exact ⟨_, _, _, _, _, _, h, rfl, rfl, ha, hb, hf⟩
set_option maxHeartbeats 16000000 in
set_option maxRecDepth 100000 in
theorem frun (w0 : World) (w : World) (pa pb tb : Nat) (v0 v1 : Value) (t0 : Tw) (first : Bool) (h : TwAt w0 pa pb tb v0 v1 t0 w) (ha : t0.a.Ok) (hb : t0.b.Ok) (hf : t0.q0.length + t0.q1.length ≤ 1000) :
    Calls Try.prog 19 #[ptr tb, .bool first] w fun e w' => e = .returned (.tuple #[]) ∧ ∃ u0 u1, TwAt w0 pa pb tb u0 u1 (runs 100 first t0) w' := by
  have HS : Hid (∃ o0 n0 c0 o1 n1 c1, Rn w0 pa pb tb o0 n0 c0 o1 n1 c1 t0 w) := Rn.of h ha hb hf
  obtain ⟨T, hT⟩ : ∃ T, runs 100 first t0 = T := ⟨_, rfl⟩
  have HT := Lib.hid hT
  rw [hT]
  have vw0 : IntKind.i64.wrap 0 = 0 := by decide
  have vw1 : IntKind.i64.wrap 1 = 1 := by decide
  clear h ha hb hf hT
  go_enter Try.func19, Try.ntmps19
  go_wp2_with fail
  go_loopg [4] 100 (fun gm s wr => ∃ (k : Nat) (t : Tw), s = nm k ∧ 100 - k ≤ gm ∧ k ≤ 100 ∧ Hid (∃ o0 n0 c0 o1 n1 c1, Rn w0 pa pb tb o0 n0 c0 o1 n1 c1 t wr) ∧ Hid (runs (100 - k) first t = T))
  case atStart => exact ⟨0, t0, rfl, by omega, by omega, HS, HT⟩
  case round =>
    clear HS HT t0
    obtain ⟨k, t, rfl, hgm, hkn, HS, HT⟩ := hrel
    by_cases hlt : k < 100
    · have t1 : decide ((k : Int) < 100) = true := decide_eq_true (by omega)
      have vk := wrap_nat (k + 1) (by omega)
      obtain ⟨o0, n0, c0, o1, n1, c1, hR⟩ := HS.out
      obtain ⟨m, hm⟩ : ∃ m, 100 - k = m + 1 := ⟨99 - k, by omega⟩
      have hm2 : 100 - (k + 1) = m := by omega
      have HM := Lib.hid hm2
      have HU : Hid (runs (m + 1) first t = T) := by have := HT.out; rw [hm] at this; exact this
      clear HS HT hm hm2
      have HR := Lib.hid hR
      obtain ⟨y0, y1, y2, y3⟩ := hR.tw.cells
      obtain ⟨la, lb, q0, q1⟩ := t
      have L0 := hR.l0
      have L1 := hR.l1
      dsimp only at L0 L1
      clear hR
      cases first with
      | true =>
        cases q1 with
        | cons x r =>
          obtain ⟨g, off, ho, hn, hcap, hmax, hbg, hgw, ⟨e0, e1, e2, e3, e4⟩, hq⟩ := qz_cons HR.out.tw.h1
          subst ho
          obtain ⟨z, hz⟩ : ∃ z, r.length = z := ⟨_, rfl⟩
          rw [hz] at hn hq
          subst hn
          have HZ := Lib.hid hz
          have HQ := Lib.hid hq
          have z0 : ((z + 1 : Nat) : Int) = (z : Int) + 1 := by omega
          have z1 : ¬ (z : Int) + 1 = 0 := by omega
          have z2 : decide ((0 : Int) < (z : Int) + 1) = true := decide_eq_true (by omega)
          have z3 : (((z : Int) + 1) == 0) = false := beq_false (by omega)
          have z4 : (0 : Int) < (z : Int) + 1 := by omega
          have z5 : (1 : Int) ≤ (z : Int) + 1 := by omega
          have htb := lt_heap HR.out.tw.blk
          clear hz hq L0 L1
          obtain ⟨ro, hro⟩ : ∃ ro, on lb (evOf x.k x.p x.c) = ro := ⟨_, rfl⟩
          have HN : Hid (runs m true ⟨la, ro.1, put q0 ro.2, r⟩ = T) := by
            have h9 : step true ⟨la, lb, q0, x :: r⟩ = some (hearB ⟨la, lb, q0, x :: r⟩ x r) := by simp [step]
            have h8 := HU.out
            unfold runs at h8
            rw [h9] at h8
            unfold hearB at h8
            dsimp only at h8
            rw [hro] at h8
            exact h8
          have HO : Hid ro.1.Ok := by show ro.1.Ok; rw [← hro]; exact on_ok HR.out.ob _
          have CH : Hid (∀ w, LkAt w pb lb → Calls Try.prog 21 #[ptr pb, .int .u8 x.k, .bool x.p, .bool x.c] w fun e w' => e = .returned (av ro.2) ∧ Does pb ro.1 w w') := Lib.hid fun w h => fHear w pb lb x.k x.p x.c HR.out.ob h ro hro
          obtain ⟨rl, ra⟩ := ro
          clear hro HU
          go_wp2_with fail
          have H1 : Hid (TwAt w0 pa pb tb (.slice o0 n0 c0) (.slice (some ⟨g, off, none⟩) (z + 1) c1) ⟨la, lb, q0, x :: r⟩ (wr.alloc (aO x 30)).drew) := Lib.hid (HR.out.tw.on ((nest_below wr [_]).drew))
          have HQ1 : Hid (Qz 5 fcA (wr.alloc (aO x 30)).drew (tb + 1) (.slice (if c1 = 1 then some ⟨g, off, none⟩ else some ⟨g, off + 5, none⟩) z (c1 - 1)) r) := Lib.hid (HQ.out.below ((nest_below wr [_]).drew))
          have hA1 : (wr.alloc (aO x 30)).drew.heap[wr.heap.size]? = some (aO x 30) := nest wr [_] 0 _ rfl
          have HW : Hid (∀ g, Value.ownBlock (.slice o0 n0 c0) = some g → g < wr.heap.size) := Lib.hid fun g hg => (HR.out.tw.h0.lt g hg).2
          obtain ⟨n6, hn6⟩ : ∃ n, n = wr.heap.size := ⟨_, rfl⟩
          rw [← hn6] at hA1 HW
          have hne6 : tb < n6 := by rw [hn6]; exact htb
          simp only [← hn6]
          clear hn6 e0 e1 e2 e3 e4 y0 y1 y2 y3 hgw htb HQ
          generalize hw1 : (wr.alloc (aO x 30)).drew = w1 at H1 HQ1 hA1
          have b2 := cell_of (i := 3) H1.out.blk rfl
          have f2 : ∀ i, w1.frozen? ⟨tb, i, none⟩ = false := H1.out.free
          refine wp_region_held_drew (S := (fun _ => True)) (by kernel_rfl) trivial (fun hHeld => ?_)
          refine' wpAnyH_take (i := 0) (oi := { dst := some 46, op := Go.Op.move (Go.Operand.tmp 0), type := 40, pos := "law.go:94", after := #[], guard := none }) (v := _) rfl (by kernel_rfl) (by kernel_rfl) (by kernel_rfl) (fun _ _ _ h => h) (Or.inl ⟨by rfl, ?hy1⟩) (by assumption) ?hr1
          case hy1 => (intro _ hSw; (try dsimp only at hSw); go_simp <;> with_reducible rfl)
          simp only [Act.put, List.setIfInBounds_toArray, List.set_cons_zero, List.set_cons_succ]
          refine' wpAnyH_take (i := 1) (oi := { dst := some 47, op := Go.Op.move (Go.Operand.tmp 5), type := 3, pos := "law.go:94", after := #[], guard := none }) (v := _) rfl (by kernel_rfl) (by kernel_rfl) (by kernel_rfl) (fun _ _ _ h => h) (Or.inl ⟨by rfl, ?hy2⟩) (by assumption) ?hr2
          case hy2 => (intro _ hSw; (try dsimp only at hSw); go_simp <;> with_reducible rfl)
          simp only [Act.put, List.setIfInBounds_toArray, List.set_cons_zero, List.set_cons_succ]
          refine' wpAnyH_take (i := 2) (oi := { dst := some 48, op := Go.Op.move (Go.Operand.tmp 0), type := 40, pos := "law.go:94", after := #[], guard := none }) (v := _) rfl (by kernel_rfl) (by kernel_rfl) (by kernel_rfl) (fun _ _ _ h => h) (Or.inl ⟨by rfl, ?hy3⟩) (by assumption) ?hr3
          case hy3 => (intro _ hSw; (try dsimp only at hSw); go_simp <;> with_reducible rfl)
          simp only [Act.put, List.setIfInBounds_toArray, List.set_cons_zero, List.set_cons_succ]
          refine' wpAnyH_take (i := 3) (oi := { dst := some 49, op := Go.Op.move (Go.Operand.tmp 5), type := 3, pos := "law.go:94", after := #[], guard := none }) (v := _) rfl (by kernel_rfl) (by kernel_rfl) (by kernel_rfl) (fun _ _ _ h => h) (Or.inl ⟨by rfl, ?hy4⟩) (by assumption) ?hr4
          case hy4 => (intro _ hSw; (try dsimp only at hSw); go_simp <;> with_reducible rfl)
          simp only [Act.put, List.setIfInBounds_toArray, List.set_cons_zero, List.set_cons_succ]
          refine' wpAnyH_take (i := 4) (oi := { dst := some 50, op := Go.Op.nilCheck (Go.Operand.tmp 48), type := 0, pos := "law.go:94", after := #[{ on := 2, ground := Go.Ground.data }], guard := none }) (v := _) rfl (by kernel_rfl) (by kernel_rfl) (by kernel_rfl) (fun _ _ _ h => h) (Or.inl ⟨by rfl, ?hy5⟩) (by assumption) ?hr5
          case hy5 => (intro _ hSw; (try dsimp only at hSw); go_simp <;> with_reducible rfl)
          simp only [Act.put, List.setIfInBounds_toArray, List.set_cons_zero, List.set_cons_succ]
          refine' wpAnyH_take (i := 5) (oi := { dst := some 51, op := Go.Op.fieldAddr 45 (Go.Operand.tmp 50) 1, type := 0, pos := "law.go:94", after := #[{ on := 4, ground := Go.Ground.data }], guard := none }) (v := _) rfl (by kernel_rfl) (by kernel_rfl) (by kernel_rfl) (fun _ _ _ h => h) (Or.inl ⟨by rfl, ?hy6⟩) (by assumption) ?hr6
          case hy6 => (intro _ hSw; (try dsimp only at hSw); go_simp <;> with_reducible rfl)
          simp only [Act.put, List.setIfInBounds_toArray, List.set_cons_zero, List.set_cons_succ]
          refine' wpAnyH_take (i := 6) (oi := { dst := some 52, op := Go.Op.indexAddr 43 (Go.Operand.tmp 51) (Go.Operand.tmp 49), type := 0, pos := "law.go:94", after := #[{ on := 5, ground := Go.Ground.data }, { on := 3, ground := Go.Ground.data }], guard := none }) (v := _) rfl (by kernel_rfl) (by kernel_rfl) (by kernel_rfl) (fun _ _ _ h => h) (Or.inl ⟨by rfl, ?hy7⟩) (by assumption) ?hr7
          case hy7 => (intro _ hSw; (try dsimp only at hSw); go_simp <;> with_reducible rfl)
          simp only [Act.put, List.setIfInBounds_toArray, List.set_cons_zero, List.set_cons_succ]
          refine' wpAnyH_take (i := 9) (oi := { dst := some 55, op := Go.Op.nilCheck (Go.Operand.tmp 46), type := 0, pos := "law.go:94", after := #[{ on := 0, ground := Go.Ground.data }], guard := none }) (v := _) rfl (by kernel_rfl) (by kernel_rfl) (by kernel_rfl) (fun _ _ _ h => h) (Or.inl ⟨by rfl, ?hy8⟩) (by assumption) ?hr8
          case hy8 => (intro _ hSw; (try dsimp only at hSw); go_simp <;> with_reducible rfl)
          simp only [Act.put, List.setIfInBounds_toArray, List.set_cons_zero, List.set_cons_succ]
          refine' wpAnyH_take (i := 10) (oi := { dst := some 56, op := Go.Op.fieldAddr 45 (Go.Operand.tmp 55) 1, type := 0, pos := "law.go:94", after := #[{ on := 9, ground := Go.Ground.data }], guard := none }) (v := _) rfl (by kernel_rfl) (by kernel_rfl) (by kernel_rfl) (fun _ _ _ h => h) (Or.inl ⟨by rfl, ?hy9⟩) (by assumption) ?hr9
          case hy9 => (intro _ hSw; (try dsimp only at hSw); go_simp <;> with_reducible rfl)
          simp only [Act.put, List.setIfInBounds_toArray, List.set_cons_zero, List.set_cons_succ]
          rw [hw1]
          clear hw1
          refine wpAnyH_ready (rs := [7]) (by kernel_rfl) (by simp) ?_
          refine AllReadyH.cons (o := { dst := some 53, op := Go.Op.load 42 (Go.Operand.tmp 52), type := 42, pos := "law.go:94", after := #[{ on := 6, ground := Go.Ground.data }], guard := none }) rfl (fun K hK => ?_) AllReadyH.nil
          go_simp
          refine hK.out _ _ trivial (fun hNext => ?_)
          clear hHeld
          clear hK K
          have hHeld := hNext
          clear hNext
          (try simp only [Act.put, List.setIfInBounds_toArray, List.set_cons_zero, List.set_cons_succ])
          by_cases hc1 : c1 = 1
          · rw [if_pos hc1] at HQ1
            subst hc1
            obtain rfl : z = 0 := by omega
            refine' wpAnyH_take (i := 8) (oi := { dst := some 54, op := Go.Op.slice 42 (Go.Operand.tmp 53) (some (Go.Operand.const (Go.Value.int Go.IntKind.i64 1))) none none, type := 42, pos := "law.go:94", after := #[{ on := 7, ground := Go.Ground.data }], guard := none }) (v := _) rfl (by kernel_rfl) (by kernel_rfl) (by kernel_rfl) (fun _ _ _ h => h) (Or.inl ⟨by rfl, ?hy10⟩) (by assumption) ?hr10
            case hy10 => (intro _ hSw; (try dsimp only at hSw); go_simp <;> with_reducible rfl)
            simp only [Act.put, List.setIfInBounds_toArray, List.set_cons_zero, List.set_cons_succ]
            refine' wpAnyH_take (i := 11) (oi := { dst := some 57, op := Go.Op.indexAddr 43 (Go.Operand.tmp 56) (Go.Operand.tmp 47), type := 0, pos := "law.go:94", after := #[{ on := 10, ground := Go.Ground.data }, { on := 1, ground := Go.Ground.data }, { on := 0, ground := Go.Ground.phase }, { on := 1, ground := Go.Ground.phase }, { on := 2, ground := Go.Ground.phase }, { on := 3, ground := Go.Ground.phase }, { on := 4, ground := Go.Ground.phase }, { on := 5, ground := Go.Ground.phase }, { on := 6, ground := Go.Ground.phase }, { on := 7, ground := Go.Ground.phase }, { on := 8, ground := Go.Ground.phase }], guard := none }) (v := _) rfl (by kernel_rfl) (by kernel_rfl) (by kernel_rfl) (fun _ _ _ h => h) (Or.inl ⟨by rfl, ?hy11⟩) (by assumption) ?hr11
            case hy11 => (intro _ hSw; (try dsimp only at hSw); go_simp <;> with_reducible rfl)
            simp only [Act.put, List.setIfInBounds_toArray, List.set_cons_zero, List.set_cons_succ]
            refine wpAnyH_ready (rs := [12]) (by kernel_rfl) (by simp) ?_
            refine AllReadyH.cons (o := { dst := none, op := Go.Op.store 42 (Go.Operand.tmp 57) (Go.Operand.tmp 54), type := 0, pos := "law.go:94", after := #[{ on := 11, ground := Go.Ground.data }, { on := 8, ground := Go.Ground.data }, { on := 0, ground := Go.Ground.phase }, { on := 1, ground := Go.Ground.phase }, { on := 2, ground := Go.Ground.phase }, { on := 3, ground := Go.Ground.phase }, { on := 4, ground := Go.Ground.phase }, { on := 5, ground := Go.Ground.phase }, { on := 6, ground := Go.Ground.phase }, { on := 7, ground := Go.Ground.phase }, { on := 8, ground := Go.Ground.phase }], guard := none }) rfl (fun K hK => ?_) AllReadyH.nil
            go_simp
            refine hK.out _ _ trivial (fun hNext => ?_)
            clear hNext hHeld
            refine wpAnyH_done (by kernel_rfl) ?_ _
            clear hK K
            have H2 : Hid (TwAt w0 pa pb tb (.slice o0 n0 c0) (.slice (some ⟨g, off, none⟩) 0 0) ⟨la, lb, q0, r⟩ (w1.setCell ⟨tb, 3, none⟩ (.slice (some ⟨g, off, none⟩) 0 0))) := Lib.hid (H1.out.put1 ⟨rfl, rfl, rfl, Nat.le_refl _, fun _ _ _ => rfl⟩ HQ1.out (Or.inl rfl))
            have hA2 : (w1.setCell ⟨tb, 3, none⟩ (.slice (some ⟨g, off, none⟩) 0 0)).heap[n6]? = some (aO x 30) := (set_other (by omega) _).trans hA1
            clear HQ1 H1 hA1 b2 f2
            generalize w1.setCell ⟨tb, 3, none⟩ (.slice (some ⟨g, off, none⟩) 0 0) = w2 at H2 hA2 ⊢
            go_wp2_with fail
            have H3 := Lib.hid H2.out.drew
            have hA3 : w2.drew.heap[n6]? = some (aO x 30) := hA2
            clear H2 hA2
            refine wp_region_held_drew (S := (fun w' => w'.cell? ⟨tb, 1, none⟩ = some (ptr pb) ∧ w'.heap[n6]? = some (aO x 30))) (by kernel_rfl) ⟨cell_of H3.out.blk rfl, hA3⟩ (fun hHeld => ?_)
            refine' wpAnyH_take (i := 0) (oi := { dst := some 58, op := Go.Op.move (Go.Operand.tmp 0), type := 40, pos := "law.go:95", after := #[], guard := none }) (v := _) rfl (by kernel_rfl) (by kernel_rfl) (by kernel_rfl) (fun _ _ _ h => h) (Or.inl ⟨by rfl, ?hy12⟩) (by assumption) ?hr12
            case hy12 => (intro _ hSw; (try dsimp only at hSw); go_simp <;> with_reducible rfl)
            simp only [Act.put, List.setIfInBounds_toArray, List.set_cons_zero, List.set_cons_succ]
            refine' wpAnyH_take (i := 1) (oi := { dst := some 59, op := Go.Op.move (Go.Operand.tmp 5), type := 3, pos := "law.go:95", after := #[], guard := none }) (v := _) rfl (by kernel_rfl) (by kernel_rfl) (by kernel_rfl) (fun _ _ _ h => h) (Or.inl ⟨by rfl, ?hy13⟩) (by assumption) ?hr13
            case hy13 => (intro _ hSw; (try dsimp only at hSw); go_simp <;> with_reducible rfl)
            simp only [Act.put, List.setIfInBounds_toArray, List.set_cons_zero, List.set_cons_succ]
            refine' wpAnyH_take (i := 2) (oi := { dst := some 60, op := Go.Op.move (Go.Operand.tmp 0), type := 40, pos := "law.go:95", after := #[], guard := none }) (v := _) rfl (by kernel_rfl) (by kernel_rfl) (by kernel_rfl) (fun _ _ _ h => h) (Or.inl ⟨by rfl, ?hy14⟩) (by assumption) ?hr14
            case hy14 => (intro _ hSw; (try dsimp only at hSw); go_simp <;> with_reducible rfl)
            simp only [Act.put, List.setIfInBounds_toArray, List.set_cons_zero, List.set_cons_succ]
            refine' wpAnyH_take (i := 3) (oi := { dst := some 61, op := Go.Op.move (Go.Operand.tmp 5), type := 3, pos := "law.go:95", after := #[], guard := none }) (v := _) rfl (by kernel_rfl) (by kernel_rfl) (by kernel_rfl) (fun _ _ _ h => h) (Or.inl ⟨by rfl, ?hy15⟩) (by assumption) ?hr15
            case hy15 => (intro _ hSw; (try dsimp only at hSw); go_simp <;> with_reducible rfl)
            simp only [Act.put, List.setIfInBounds_toArray, List.set_cons_zero, List.set_cons_succ]
            refine' wpAnyH_take (i := 4) (oi := { dst := some 62, op := Go.Op.nilCheck (Go.Operand.tmp 60), type := 0, pos := "law.go:95", after := #[{ on := 2, ground := Go.Ground.data }], guard := none }) (v := _) rfl (by kernel_rfl) (by kernel_rfl) (by kernel_rfl) (fun _ _ _ h => h) (Or.inl ⟨by rfl, ?hy16⟩) (by assumption) ?hr16
            case hy16 => (intro _ hSw; (try dsimp only at hSw); go_simp <;> with_reducible rfl)
            simp only [Act.put, List.setIfInBounds_toArray, List.set_cons_zero, List.set_cons_succ]
            refine' wpAnyH_take (i := 5) (oi := { dst := some 63, op := Go.Op.fieldAddr 45 (Go.Operand.tmp 62) 0, type := 0, pos := "law.go:95", after := #[{ on := 4, ground := Go.Ground.data }], guard := none }) (v := _) rfl (by kernel_rfl) (by kernel_rfl) (by kernel_rfl) (fun _ _ _ h => h) (Or.inl ⟨by rfl, ?hy17⟩) (by assumption) ?hr17
            case hy17 => (intro _ hSw; (try dsimp only at hSw); go_simp <;> with_reducible rfl)
            simp only [Act.put, List.setIfInBounds_toArray, List.set_cons_zero, List.set_cons_succ]
            refine' wpAnyH_take (i := 6) (oi := { dst := some 64, op := Go.Op.indexAddr 41 (Go.Operand.tmp 63) (Go.Operand.tmp 61), type := 0, pos := "law.go:95", after := #[{ on := 5, ground := Go.Ground.data }, { on := 3, ground := Go.Ground.data }], guard := none }) (v := _) rfl (by kernel_rfl) (by kernel_rfl) (by kernel_rfl) (fun _ _ _ h => h) (Or.inl ⟨by rfl, ?hy18⟩) (by assumption) ?hr18
            case hy18 => (intro _ hSw; (try dsimp only at hSw); go_simp <;> with_reducible rfl)
            simp only [Act.put, List.setIfInBounds_toArray, List.set_cons_zero, List.set_cons_succ]
            refine' wpAnyH_take (i := 7) (oi := { dst := some 65, op := Go.Op.load 24 (Go.Operand.tmp 64), type := 24, pos := "law.go:95", after := #[{ on := 6, ground := Go.Ground.data }], guard := none }) (v := _) rfl (by kernel_rfl) (by kernel_rfl) (by kernel_rfl) (fun _ _ _ h => h) (Or.inl ⟨by rfl, ?hy19⟩) (by assumption) ?hr19
            case hy19 => (intro _ hSw; (try dsimp only at hSw); have hc := hSw.1; go_simp <;> with_reducible rfl)
            simp only [Act.put, List.setIfInBounds_toArray, List.set_cons_zero, List.set_cons_succ]
            refine' wpAnyH_take (i := 8) (oi := { dst := some 66, op := Go.Op.fieldAddr 30 (Go.Operand.tmp 6) 0, type := 0, pos := "law.go:95", after := #[], guard := none }) (v := _) rfl (by kernel_rfl) (by kernel_rfl) (by kernel_rfl) (fun _ _ _ h => h) (Or.inl ⟨by rfl, ?hy20⟩) (by assumption) ?hr20
            case hy20 => (intro _ hSw; (try dsimp only at hSw); go_simp <;> with_reducible rfl)
            simp only [Act.put, List.setIfInBounds_toArray, List.set_cons_zero, List.set_cons_succ]
            refine' wpAnyH_take (i := 9) (oi := { dst := some 67, op := Go.Op.load 5 (Go.Operand.tmp 66), type := 5, pos := "law.go:95", after := #[{ on := 8, ground := Go.Ground.data }], guard := none }) (v := _) rfl (by kernel_rfl) (by kernel_rfl) (by kernel_rfl) (fun _ _ _ h => h) (Or.inl ⟨by rfl, ?hy21⟩) (by assumption) ?hr21
            case hy21 => (intro _ hSw; (try dsimp only at hSw); obtain ⟨⟨x0, x1, x2, x3, x4⟩, -⟩ := cells5 hSw.2; go_simp <;> with_reducible rfl)
            simp only [Act.put, List.setIfInBounds_toArray, List.set_cons_zero, List.set_cons_succ]
            refine' wpAnyH_take (i := 10) (oi := { dst := some 68, op := Go.Op.fieldAddr 30 (Go.Operand.tmp 6) 2, type := 0, pos := "law.go:95", after := #[], guard := none }) (v := _) rfl (by kernel_rfl) (by kernel_rfl) (by kernel_rfl) (fun _ _ _ h => h) (Or.inl ⟨by rfl, ?hy22⟩) (by assumption) ?hr22
            case hy22 => (intro _ hSw; (try dsimp only at hSw); go_simp <;> with_reducible rfl)
            simp only [Act.put, List.setIfInBounds_toArray, List.set_cons_zero, List.set_cons_succ]
            refine' wpAnyH_take (i := 11) (oi := { dst := some 69, op := Go.Op.load 4 (Go.Operand.tmp 68), type := 4, pos := "law.go:95", after := #[{ on := 10, ground := Go.Ground.data }], guard := none }) (v := _) rfl (by kernel_rfl) (by kernel_rfl) (by kernel_rfl) (fun _ _ _ h => h) (Or.inl ⟨by rfl, ?hy23⟩) (by assumption) ?hr23
            case hy23 => (intro _ hSw; (try dsimp only at hSw); obtain ⟨⟨x0, x1, x2, x3, x4⟩, -⟩ := cells5 hSw.2; go_simp <;> with_reducible rfl)
            simp only [Act.put, List.setIfInBounds_toArray, List.set_cons_zero, List.set_cons_succ]
            refine' wpAnyH_take (i := 12) (oi := { dst := some 70, op := Go.Op.fieldAddr 30 (Go.Operand.tmp 6) 1, type := 0, pos := "law.go:95", after := #[], guard := none }) (v := _) rfl (by kernel_rfl) (by kernel_rfl) (by kernel_rfl) (fun _ _ _ h => h) (Or.inl ⟨by rfl, ?hy24⟩) (by assumption) ?hr24
            case hy24 => (intro _ hSw; (try dsimp only at hSw); go_simp <;> with_reducible rfl)
            simp only [Act.put, List.setIfInBounds_toArray, List.set_cons_zero, List.set_cons_succ]
            refine' wpAnyH_take (i := 13) (oi := { dst := some 71, op := Go.Op.load 4 (Go.Operand.tmp 70), type := 4, pos := "law.go:95", after := #[{ on := 12, ground := Go.Ground.data }], guard := none }) (v := _) rfl (by kernel_rfl) (by kernel_rfl) (by kernel_rfl) (fun _ _ _ h => h) (Or.inl ⟨by rfl, ?hy25⟩) (by assumption) ?hr25
            case hy25 => (intro _ hSw; (try dsimp only at hSw); obtain ⟨⟨x0, x1, x2, x3, x4⟩, -⟩ := cells5 hSw.2; go_simp <;> with_reducible rfl)
            simp only [Act.put, List.setIfInBounds_toArray, List.set_cons_zero, List.set_cons_succ]
            refine wpAnyH_ready (rs := [14]) (by kernel_rfl) (by simp) ?_
            refine AllReadyH.cons (o := { dst := some 72, op := Go.Op.call { callee := Go.Callee.value (Go.Operand.func 21), args := #[Go.Operand.tmp 65, Go.Operand.tmp 67, Go.Operand.tmp 69, Go.Operand.tmp 71], argTypes := #[24, 5, 4, 4] }, type := 30, pos := "law.go:95", after := #[{ on := 7, ground := Go.Ground.data }, { on := 9, ground := Go.Ground.data }, { on := 11, ground := Go.Ground.data }, { on := 13, ground := Go.Ground.data }], guard := none }) rfl (fun K hK => ?_) AllReadyH.nil
            go_simp
            refine (CH.out _ H3.out.lb).mono ?_
            rintro _ w4 ⟨rfl, hd⟩
            have H4 := Lib.hid (H3.out.doB hd)
            have hA4 : w4.heap[n6]? = some (aO x 30) := hd.chg.stays hA3 (by have := H3.out.ab; have := H3.out.bt; omega)
            clear hd H3 hA3 CH
            go_wp2_with fail
            refine hK.out _ _ ⟨cell_of H4.out.blk rfl, hA4⟩ (fun hNext => ?_)
            clear hHeld
            clear hK K
            have hHeld := hNext
            clear hNext
            (try simp only [Act.put, List.setIfInBounds_toArray, List.set_cons_zero, List.set_cons_succ])
            refine wpAnyH_ready (rs := [15]) (by kernel_rfl) (by simp) ?_
            refine AllReadyH.cons (o := { dst := some 73, op := Go.Op.call { callee := Go.Callee.value (Go.Operand.func 17), args := #[Go.Operand.tmp 58, Go.Operand.tmp 59, Go.Operand.tmp 72], argTypes := #[40, 3, 30] }, type := 0, pos := "law.go:95", after := #[{ on := 0, ground := Go.Ground.data }, { on := 1, ground := Go.Ground.data }, { on := 14, ground := Go.Ground.data }, { on := 14, ground := Go.Ground.chain }], guard := none }) rfl (fun K hK => ?_) AllReadyH.nil
            go_simp
            have L0 := HR.out.l0
            have L1 := HR.out.l1
            have LF := HR.out.few
            dsimp only at L0 L1
            by_cases hk0 : ra.k = 0
            · refine (fsaid1_no _ _ ra hk0).mono ?_
              rintro _ w5 ⟨rfl, hb5⟩
              have H5 := Lib.hid (H4.out.on hb5)
              have hA5 := stays hA4 hb5
              have hp : put q0 ra = q0 := if_pos hk0
              rw [hp] at HN
              have hlen : (q0 : List Ac).length + r.length ≤ 1000 := by have := HZ.out; omega
              have HF : Hid (∃ a0 a1 a2 a3 a4 a5, Rn w0 pa pb tb a0 a1 a2 a3 a4 a5 ⟨la, rl, q0, r⟩ w5) := Rn.of H5.out HR.out.oa HO.out hlen
              have HG : Hid (runs (100 - (k + 1)) true ⟨la, rl, q0, r⟩ = T) := by show _ = _; rw [HM.out]; exact HN.out
              go_wp2_with fail
              refine hK.out _ _ ⟨cell_of H5.out.blk rfl, hA5⟩ (fun hNext => ?_)
              clear hNext hHeld hK K
              refine wpAnyH_done (by kernel_rfl) ?_ _
              clear hb5 hA5 hA4 H4 H5 hp hlen HN HM HR HO HW L0 L1 LF HZ
              go_wp2
              go_roundg (100 - (k + 1))
              case measure => omega
              case rel => exact ⟨k + 1, _, by first | rfl | go_num, Nat.le_refl _, by omega, HF, HG⟩
            · refine (fsaid1 w0 _ pa pb tb _ _ _ ra hk0 (by dsimp only; omega) H4.out).mono ?_
              rintro _ w5 ⟨rfl, u, hu, hc⟩
              have H5 := Lib.hid hu
              have hA5 : w5.heap[n6]? = some (aO x 30) := hc.stays hA4 (fun e => by
                rcases e with e | e
                · omega
                · have := HW.out n6 e; omega)
              have hp : put q0 ra = q0 ++ [ra] := if_neg hk0
              rw [hp] at HN
              have hlen : (q0 ++ [ra]).length + r.length ≤ 1000 := by have := HZ.out; rw [List.length_append, List.length_singleton]; omega
              have HF : Hid (∃ a0 a1 a2 a3 a4 a5, Rn w0 pa pb tb a0 a1 a2 a3 a4 a5 ⟨la, rl, q0 ++ [ra], r⟩ w5) := Rn.of H5.out HR.out.oa HO.out hlen
              have HG : Hid (runs (100 - (k + 1)) true ⟨la, rl, q0 ++ [ra], r⟩ = T) := by show _ = _; rw [HM.out]; exact HN.out
              go_wp2_with fail
              refine hK.out _ _ ⟨cell_of H5.out.blk rfl, hA5⟩ (fun hNext => ?_)
              clear hNext hHeld hK K
              refine wpAnyH_done (by kernel_rfl) ?_ _
              clear hu hc hA5 hA4 H4 H5 hp hlen HN HM HR HO HW L0 L1 LF HZ
              go_wp2
              go_roundg (100 - (k + 1))
              case measure => omega
              case rel => exact ⟨k + 1, _, by first | rfl | go_num, Nat.le_refl _, by omega, HF, HG⟩
          rw [if_neg hc1] at HQ1
          refine' wpAnyH_take (i := 8) (oi := { dst := some 54, op := Go.Op.slice 42 (Go.Operand.tmp 53) (some (Go.Operand.const (Go.Value.int Go.IntKind.i64 1))) none none, type := 42, pos := "law.go:94", after := #[{ on := 7, ground := Go.Ground.data }], guard := none }) (v := _) rfl (by kernel_rfl) (by kernel_rfl) (by kernel_rfl) (fun _ _ _ h => h) (Or.inl ⟨by rfl, ?hy26⟩) (by assumption) ?hr26
          case hy26 => (intro _ hSw; (try dsimp only at hSw); go_simp <;> with_reducible rfl)
          simp only [Act.put, List.setIfInBounds_toArray, List.set_cons_zero, List.set_cons_succ]
          refine' wpAnyH_take (i := 11) (oi := { dst := some 57, op := Go.Op.indexAddr 43 (Go.Operand.tmp 56) (Go.Operand.tmp 47), type := 0, pos := "law.go:94", after := #[{ on := 10, ground := Go.Ground.data }, { on := 1, ground := Go.Ground.data }, { on := 0, ground := Go.Ground.phase }, { on := 1, ground := Go.Ground.phase }, { on := 2, ground := Go.Ground.phase }, { on := 3, ground := Go.Ground.phase }, { on := 4, ground := Go.Ground.phase }, { on := 5, ground := Go.Ground.phase }, { on := 6, ground := Go.Ground.phase }, { on := 7, ground := Go.Ground.phase }, { on := 8, ground := Go.Ground.phase }], guard := none }) (v := _) rfl (by kernel_rfl) (by kernel_rfl) (by kernel_rfl) (fun _ _ _ h => h) (Or.inl ⟨by rfl, ?hy27⟩) (by assumption) ?hr27
          case hy27 => (intro _ hSw; (try dsimp only at hSw); go_simp <;> with_reducible rfl)
          simp only [Act.put, List.setIfInBounds_toArray, List.set_cons_zero, List.set_cons_succ]
          refine wpAnyH_ready (rs := [12]) (by kernel_rfl) (by simp) ?_
          refine AllReadyH.cons (o := { dst := none, op := Go.Op.store 42 (Go.Operand.tmp 57) (Go.Operand.tmp 54), type := 0, pos := "law.go:94", after := #[{ on := 11, ground := Go.Ground.data }, { on := 8, ground := Go.Ground.data }, { on := 0, ground := Go.Ground.phase }, { on := 1, ground := Go.Ground.phase }, { on := 2, ground := Go.Ground.phase }, { on := 3, ground := Go.Ground.phase }, { on := 4, ground := Go.Ground.phase }, { on := 5, ground := Go.Ground.phase }, { on := 6, ground := Go.Ground.phase }, { on := 7, ground := Go.Ground.phase }, { on := 8, ground := Go.Ground.phase }], guard := none }) rfl (fun K hK => ?_) AllReadyH.nil
          go_simp
          refine hK.out _ _ trivial (fun hNext => ?_)
          clear hNext hHeld
          refine wpAnyH_done (by kernel_rfl) ?_ _
          clear hK K
          have H2 : Hid (TwAt w0 pa pb tb (.slice o0 n0 c0) (.slice (some ⟨g, off + 5, none⟩) z (c1 - 1)) ⟨la, lb, q0, r⟩ (w1.setCell ⟨tb, 3, none⟩ (.slice (some ⟨g, off + 5, none⟩) z (c1 - 1)))) := Lib.hid (H1.out.put1 ⟨rfl, rfl, rfl, Nat.le_refl _, fun _ _ _ => rfl⟩ HQ1.out (Or.inl rfl))
          have hA2 : (w1.setCell ⟨tb, 3, none⟩ (.slice (some ⟨g, off + 5, none⟩) z (c1 - 1))).heap[n6]? = some (aO x 30) := (set_other (by omega) _).trans hA1
          clear HQ1 H1 hA1 b2 f2
          generalize w1.setCell ⟨tb, 3, none⟩ (.slice (some ⟨g, off + 5, none⟩) z (c1 - 1)) = w2 at H2 hA2 ⊢
          go_wp2_with fail
          have H3 := Lib.hid H2.out.drew
          have hA3 : w2.drew.heap[n6]? = some (aO x 30) := hA2
          clear H2 hA2
          refine wp_region_held_drew (S := (fun w' => w'.cell? ⟨tb, 1, none⟩ = some (ptr pb) ∧ w'.heap[n6]? = some (aO x 30))) (by kernel_rfl) ⟨cell_of H3.out.blk rfl, hA3⟩ (fun hHeld => ?_)
          refine' wpAnyH_take (i := 0) (oi := { dst := some 58, op := Go.Op.move (Go.Operand.tmp 0), type := 40, pos := "law.go:95", after := #[], guard := none }) (v := _) rfl (by kernel_rfl) (by kernel_rfl) (by kernel_rfl) (fun _ _ _ h => h) (Or.inl ⟨by rfl, ?hy28⟩) (by assumption) ?hr28
          case hy28 => (intro _ hSw; (try dsimp only at hSw); go_simp <;> with_reducible rfl)
          simp only [Act.put, List.setIfInBounds_toArray, List.set_cons_zero, List.set_cons_succ]
          refine' wpAnyH_take (i := 1) (oi := { dst := some 59, op := Go.Op.move (Go.Operand.tmp 5), type := 3, pos := "law.go:95", after := #[], guard := none }) (v := _) rfl (by kernel_rfl) (by kernel_rfl) (by kernel_rfl) (fun _ _ _ h => h) (Or.inl ⟨by rfl, ?hy29⟩) (by assumption) ?hr29
          case hy29 => (intro _ hSw; (try dsimp only at hSw); go_simp <;> with_reducible rfl)
          simp only [Act.put, List.setIfInBounds_toArray, List.set_cons_zero, List.set_cons_succ]
          refine' wpAnyH_take (i := 2) (oi := { dst := some 60, op := Go.Op.move (Go.Operand.tmp 0), type := 40, pos := "law.go:95", after := #[], guard := none }) (v := _) rfl (by kernel_rfl) (by kernel_rfl) (by kernel_rfl) (fun _ _ _ h => h) (Or.inl ⟨by rfl, ?hy30⟩) (by assumption) ?hr30
          case hy30 => (intro _ hSw; (try dsimp only at hSw); go_simp <;> with_reducible rfl)
          simp only [Act.put, List.setIfInBounds_toArray, List.set_cons_zero, List.set_cons_succ]
          refine' wpAnyH_take (i := 3) (oi := { dst := some 61, op := Go.Op.move (Go.Operand.tmp 5), type := 3, pos := "law.go:95", after := #[], guard := none }) (v := _) rfl (by kernel_rfl) (by kernel_rfl) (by kernel_rfl) (fun _ _ _ h => h) (Or.inl ⟨by rfl, ?hy31⟩) (by assumption) ?hr31
          case hy31 => (intro _ hSw; (try dsimp only at hSw); go_simp <;> with_reducible rfl)
          simp only [Act.put, List.setIfInBounds_toArray, List.set_cons_zero, List.set_cons_succ]
          refine' wpAnyH_take (i := 4) (oi := { dst := some 62, op := Go.Op.nilCheck (Go.Operand.tmp 60), type := 0, pos := "law.go:95", after := #[{ on := 2, ground := Go.Ground.data }], guard := none }) (v := _) rfl (by kernel_rfl) (by kernel_rfl) (by kernel_rfl) (fun _ _ _ h => h) (Or.inl ⟨by rfl, ?hy32⟩) (by assumption) ?hr32
          case hy32 => (intro _ hSw; (try dsimp only at hSw); go_simp <;> with_reducible rfl)
          simp only [Act.put, List.setIfInBounds_toArray, List.set_cons_zero, List.set_cons_succ]
          refine' wpAnyH_take (i := 5) (oi := { dst := some 63, op := Go.Op.fieldAddr 45 (Go.Operand.tmp 62) 0, type := 0, pos := "law.go:95", after := #[{ on := 4, ground := Go.Ground.data }], guard := none }) (v := _) rfl (by kernel_rfl) (by kernel_rfl) (by kernel_rfl) (fun _ _ _ h => h) (Or.inl ⟨by rfl, ?hy33⟩) (by assumption) ?hr33
          case hy33 => (intro _ hSw; (try dsimp only at hSw); go_simp <;> with_reducible rfl)
          simp only [Act.put, List.setIfInBounds_toArray, List.set_cons_zero, List.set_cons_succ]
          refine' wpAnyH_take (i := 6) (oi := { dst := some 64, op := Go.Op.indexAddr 41 (Go.Operand.tmp 63) (Go.Operand.tmp 61), type := 0, pos := "law.go:95", after := #[{ on := 5, ground := Go.Ground.data }, { on := 3, ground := Go.Ground.data }], guard := none }) (v := _) rfl (by kernel_rfl) (by kernel_rfl) (by kernel_rfl) (fun _ _ _ h => h) (Or.inl ⟨by rfl, ?hy34⟩) (by assumption) ?hr34
          case hy34 => (intro _ hSw; (try dsimp only at hSw); go_simp <;> with_reducible rfl)
          simp only [Act.put, List.setIfInBounds_toArray, List.set_cons_zero, List.set_cons_succ]
          refine' wpAnyH_take (i := 7) (oi := { dst := some 65, op := Go.Op.load 24 (Go.Operand.tmp 64), type := 24, pos := "law.go:95", after := #[{ on := 6, ground := Go.Ground.data }], guard := none }) (v := _) rfl (by kernel_rfl) (by kernel_rfl) (by kernel_rfl) (fun _ _ _ h => h) (Or.inl ⟨by rfl, ?hy35⟩) (by assumption) ?hr35
          case hy35 => (intro _ hSw; (try dsimp only at hSw); have hc := hSw.1; go_simp <;> with_reducible rfl)
          simp only [Act.put, List.setIfInBounds_toArray, List.set_cons_zero, List.set_cons_succ]
          refine' wpAnyH_take (i := 8) (oi := { dst := some 66, op := Go.Op.fieldAddr 30 (Go.Operand.tmp 6) 0, type := 0, pos := "law.go:95", after := #[], guard := none }) (v := _) rfl (by kernel_rfl) (by kernel_rfl) (by kernel_rfl) (fun _ _ _ h => h) (Or.inl ⟨by rfl, ?hy36⟩) (by assumption) ?hr36
          case hy36 => (intro _ hSw; (try dsimp only at hSw); go_simp <;> with_reducible rfl)
          simp only [Act.put, List.setIfInBounds_toArray, List.set_cons_zero, List.set_cons_succ]
          refine' wpAnyH_take (i := 9) (oi := { dst := some 67, op := Go.Op.load 5 (Go.Operand.tmp 66), type := 5, pos := "law.go:95", after := #[{ on := 8, ground := Go.Ground.data }], guard := none }) (v := _) rfl (by kernel_rfl) (by kernel_rfl) (by kernel_rfl) (fun _ _ _ h => h) (Or.inl ⟨by rfl, ?hy37⟩) (by assumption) ?hr37
          case hy37 => (intro _ hSw; (try dsimp only at hSw); obtain ⟨⟨x0, x1, x2, x3, x4⟩, -⟩ := cells5 hSw.2; go_simp <;> with_reducible rfl)
          simp only [Act.put, List.setIfInBounds_toArray, List.set_cons_zero, List.set_cons_succ]
          refine' wpAnyH_take (i := 10) (oi := { dst := some 68, op := Go.Op.fieldAddr 30 (Go.Operand.tmp 6) 2, type := 0, pos := "law.go:95", after := #[], guard := none }) (v := _) rfl (by kernel_rfl) (by kernel_rfl) (by kernel_rfl) (fun _ _ _ h => h) (Or.inl ⟨by rfl, ?hy38⟩) (by assumption) ?hr38
          case hy38 => (intro _ hSw; (try dsimp only at hSw); go_simp <;> with_reducible rfl)
          simp only [Act.put, List.setIfInBounds_toArray, List.set_cons_zero, List.set_cons_succ]
          refine' wpAnyH_take (i := 11) (oi := { dst := some 69, op := Go.Op.load 4 (Go.Operand.tmp 68), type := 4, pos := "law.go:95", after := #[{ on := 10, ground := Go.Ground.data }], guard := none }) (v := _) rfl (by kernel_rfl) (by kernel_rfl) (by kernel_rfl) (fun _ _ _ h => h) (Or.inl ⟨by rfl, ?hy39⟩) (by assumption) ?hr39
          case hy39 => (intro _ hSw; (try dsimp only at hSw); obtain ⟨⟨x0, x1, x2, x3, x4⟩, -⟩ := cells5 hSw.2; go_simp <;> with_reducible rfl)
          simp only [Act.put, List.setIfInBounds_toArray, List.set_cons_zero, List.set_cons_succ]
          refine' wpAnyH_take (i := 12) (oi := { dst := some 70, op := Go.Op.fieldAddr 30 (Go.Operand.tmp 6) 1, type := 0, pos := "law.go:95", after := #[], guard := none }) (v := _) rfl (by kernel_rfl) (by kernel_rfl) (by kernel_rfl) (fun _ _ _ h => h) (Or.inl ⟨by rfl, ?hy40⟩) (by assumption) ?hr40
          case hy40 => (intro _ hSw; (try dsimp only at hSw); go_simp <;> with_reducible rfl)
          simp only [Act.put, List.setIfInBounds_toArray, List.set_cons_zero, List.set_cons_succ]
          refine' wpAnyH_take (i := 13) (oi := { dst := some 71, op := Go.Op.load 4 (Go.Operand.tmp 70), type := 4, pos := "law.go:95", after := #[{ on := 12, ground := Go.Ground.data }], guard := none }) (v := _) rfl (by kernel_rfl) (by kernel_rfl) (by kernel_rfl) (fun _ _ _ h => h) (Or.inl ⟨by rfl, ?hy41⟩) (by assumption) ?hr41
          case hy41 => (intro _ hSw; (try dsimp only at hSw); obtain ⟨⟨x0, x1, x2, x3, x4⟩, -⟩ := cells5 hSw.2; go_simp <;> with_reducible rfl)
          simp only [Act.put, List.setIfInBounds_toArray, List.set_cons_zero, List.set_cons_succ]
          refine wpAnyH_ready (rs := [14]) (by kernel_rfl) (by simp) ?_
          refine AllReadyH.cons (o := { dst := some 72, op := Go.Op.call { callee := Go.Callee.value (Go.Operand.func 21), args := #[Go.Operand.tmp 65, Go.Operand.tmp 67, Go.Operand.tmp 69, Go.Operand.tmp 71], argTypes := #[24, 5, 4, 4] }, type := 30, pos := "law.go:95", after := #[{ on := 7, ground := Go.Ground.data }, { on := 9, ground := Go.Ground.data }, { on := 11, ground := Go.Ground.data }, { on := 13, ground := Go.Ground.data }], guard := none }) rfl (fun K hK => ?_) AllReadyH.nil
          go_simp
          refine (CH.out _ H3.out.lb).mono ?_
          rintro _ w4 ⟨rfl, hd⟩
          have H4 := Lib.hid (H3.out.doB hd)
          have hA4 : w4.heap[n6]? = some (aO x 30) := hd.chg.stays hA3 (by have := H3.out.ab; have := H3.out.bt; omega)
          clear hd H3 hA3 CH
          go_wp2_with fail
          refine hK.out _ _ ⟨cell_of H4.out.blk rfl, hA4⟩ (fun hNext => ?_)
          clear hHeld
          clear hK K
          have hHeld := hNext
          clear hNext
          (try simp only [Act.put, List.setIfInBounds_toArray, List.set_cons_zero, List.set_cons_succ])
          refine wpAnyH_ready (rs := [15]) (by kernel_rfl) (by simp) ?_
          refine AllReadyH.cons (o := { dst := some 73, op := Go.Op.call { callee := Go.Callee.value (Go.Operand.func 17), args := #[Go.Operand.tmp 58, Go.Operand.tmp 59, Go.Operand.tmp 72], argTypes := #[40, 3, 30] }, type := 0, pos := "law.go:95", after := #[{ on := 0, ground := Go.Ground.data }, { on := 1, ground := Go.Ground.data }, { on := 14, ground := Go.Ground.data }, { on := 14, ground := Go.Ground.chain }], guard := none }) rfl (fun K hK => ?_) AllReadyH.nil
          go_simp
          have L0 := HR.out.l0
          have L1 := HR.out.l1
          have LF := HR.out.few
          dsimp only at L0 L1
          by_cases hk0 : ra.k = 0
          · refine (fsaid1_no _ _ ra hk0).mono ?_
            rintro _ w5 ⟨rfl, hb5⟩
            have H5 := Lib.hid (H4.out.on hb5)
            have hA5 := stays hA4 hb5
            have hp : put q0 ra = q0 := if_pos hk0
            rw [hp] at HN
            have hlen : (q0 : List Ac).length + r.length ≤ 1000 := by have := HZ.out; omega
            have HF : Hid (∃ a0 a1 a2 a3 a4 a5, Rn w0 pa pb tb a0 a1 a2 a3 a4 a5 ⟨la, rl, q0, r⟩ w5) := Rn.of H5.out HR.out.oa HO.out hlen
            have HG : Hid (runs (100 - (k + 1)) true ⟨la, rl, q0, r⟩ = T) := by show _ = _; rw [HM.out]; exact HN.out
            go_wp2_with fail
            refine hK.out _ _ ⟨cell_of H5.out.blk rfl, hA5⟩ (fun hNext => ?_)
            clear hNext hHeld hK K
            refine wpAnyH_done (by kernel_rfl) ?_ _
            clear hb5 hA5 hA4 H4 H5 hp hlen HN HM HR HO HW L0 L1 LF HZ
            go_wp2
            go_roundg (100 - (k + 1))
            case measure => omega
            case rel => exact ⟨k + 1, _, by first | rfl | go_num, Nat.le_refl _, by omega, HF, HG⟩
          · refine (fsaid1 w0 _ pa pb tb _ _ _ ra hk0 (by dsimp only; omega) H4.out).mono ?_
            rintro _ w5 ⟨rfl, u, hu, hc⟩
            have H5 := Lib.hid hu
            have hA5 : w5.heap[n6]? = some (aO x 30) := hc.stays hA4 (fun e => by
              rcases e with e | e
              · omega
              · have := HW.out n6 e; omega)
            have hp : put q0 ra = q0 ++ [ra] := if_neg hk0
            rw [hp] at HN
            have hlen : (q0 ++ [ra]).length + r.length ≤ 1000 := by have := HZ.out; rw [List.length_append, List.length_singleton]; omega
            have HF : Hid (∃ a0 a1 a2 a3 a4 a5, Rn w0 pa pb tb a0 a1 a2 a3 a4 a5 ⟨la, rl, q0 ++ [ra], r⟩ w5) := Rn.of H5.out HR.out.oa HO.out hlen
            have HG : Hid (runs (100 - (k + 1)) true ⟨la, rl, q0 ++ [ra], r⟩ = T) := by show _ = _; rw [HM.out]; exact HN.out
            go_wp2_with fail
            refine hK.out _ _ ⟨cell_of H5.out.blk rfl, hA5⟩ (fun hNext => ?_)
            clear hNext hHeld hK K
            refine wpAnyH_done (by kernel_rfl) ?_ _
            clear hu hc hA5 hA4 H4 H5 hp hlen HN HM HR HO HW L0 L1 LF HZ
            go_wp2
            go_roundg (100 - (k + 1))
            case measure => omega
            case rel => exact ⟨k + 1, _, by first | rfl | go_num, Nat.le_refl _, by omega, HF, HG⟩
        | nil =>
          cases q0 with
          | cons x r =>
            have hn1 : n1 = 0 := by rw [← L1]; rfl
            subst hn1
            obtain ⟨g, off, ho, hn, hcap, hmax, hbg, hgw, ⟨e0, e1, e2, e3, e4⟩, hq⟩ := qz_cons HR.out.tw.h0
            subst ho
            obtain ⟨z, hz⟩ : ∃ z, r.length = z := ⟨_, rfl⟩
            rw [hz] at hn hq
            subst hn
            have HZ := Lib.hid hz
            have HQ := Lib.hid hq
            have z0 : ((z + 1 : Nat) : Int) = (z : Int) + 1 := by omega
            have z1 : ¬ (z : Int) + 1 = 0 := by omega
            have z2 : decide ((0 : Int) < (z : Int) + 1) = true := decide_eq_true (by omega)
            have z3 : (((z : Int) + 1) == 0) = false := beq_false (by omega)
            have z4 : (0 : Int) < (z : Int) + 1 := by omega
            have z5 : (1 : Int) ≤ (z : Int) + 1 := by omega
            have htb := lt_heap HR.out.tw.blk
            clear hz hq L0 L1
            obtain ⟨ro, hro⟩ : ∃ ro, on la (evOf x.k x.p x.c) = ro := ⟨_, rfl⟩
            have HN : Hid (runs m true ⟨ro.1, lb, r, put [] ro.2⟩ = T) := by
              have h9 : step true ⟨la, lb, x :: r, []⟩ = some (hearA ⟨la, lb, x :: r, []⟩ x r) := by simp [step]
              have h8 := HU.out
              unfold runs at h8
              rw [h9] at h8
              unfold hearA at h8
              dsimp only at h8
              rw [hro] at h8
              exact h8
            have HO : Hid ro.1.Ok := by show ro.1.Ok; rw [← hro]; exact on_ok HR.out.oa _
            have CH : Hid (∀ w, LkAt w pa la → Calls Try.prog 21 #[ptr pa, .int .u8 x.k, .bool x.p, .bool x.c] w fun e w' => e = .returned (av ro.2) ∧ Does pa ro.1 w w') := Lib.hid fun w h => fHear w pa la x.k x.p x.c HR.out.oa h ro hro
            obtain ⟨rl, ra⟩ := ro
            clear hro HU
            go_wp2_with fail
            have H1 : Hid (TwAt w0 pa pb tb (.slice (some ⟨g, off, none⟩) (z + 1) c0) (.slice o1 0 c1) ⟨la, lb, x :: r, []⟩ (wr.alloc (aO x 30)).drew) := Lib.hid (HR.out.tw.on ((nest_below wr [_]).drew))
            have HQ1 : Hid (Qz 5 fcA (wr.alloc (aO x 30)).drew (tb + 1) (.slice (if c0 = 1 then some ⟨g, off, none⟩ else some ⟨g, off + 5, none⟩) z (c0 - 1)) r) := Lib.hid (HQ.out.below ((nest_below wr [_]).drew))
            have hA1 : (wr.alloc (aO x 30)).drew.heap[wr.heap.size]? = some (aO x 30) := nest wr [_] 0 _ rfl
            have HW : Hid (∀ g, Value.ownBlock (.slice o1 0 c1) = some g → g < wr.heap.size) := Lib.hid fun g hg => (HR.out.tw.h1.lt g hg).2
            obtain ⟨n6, hn6⟩ : ∃ n, n = wr.heap.size := ⟨_, rfl⟩
            rw [← hn6] at hA1 HW
            have hne6 : tb < n6 := by rw [hn6]; exact htb
            simp only [← hn6]
            clear hn6 e0 e1 e2 e3 e4 y0 y1 y2 y3 hgw htb HQ
            generalize hw1 : (wr.alloc (aO x 30)).drew = w1 at H1 HQ1 hA1
            have b2 := cell_of (i := 2) H1.out.blk rfl
            have f2 : ∀ i, w1.frozen? ⟨tb, i, none⟩ = false := H1.out.free
            refine wp_region_held_drew (S := (fun _ => True)) (by kernel_rfl) trivial (fun hHeld => ?_)
            refine' wpAnyH_take (i := 0) (oi := { dst := some 46, op := Go.Op.move (Go.Operand.tmp 0), type := 40, pos := "law.go:94", after := #[], guard := none }) (v := _) rfl (by kernel_rfl) (by kernel_rfl) (by kernel_rfl) (fun _ _ _ h => h) (Or.inl ⟨by rfl, ?hy42⟩) (by assumption) ?hr42
            case hy42 => (intro _ hSw; (try dsimp only at hSw); go_simp <;> with_reducible rfl)
            simp only [Act.put, List.setIfInBounds_toArray, List.set_cons_zero, List.set_cons_succ]
            refine' wpAnyH_take (i := 1) (oi := { dst := some 47, op := Go.Op.move (Go.Operand.tmp 5), type := 3, pos := "law.go:94", after := #[], guard := none }) (v := _) rfl (by kernel_rfl) (by kernel_rfl) (by kernel_rfl) (fun _ _ _ h => h) (Or.inl ⟨by rfl, ?hy43⟩) (by assumption) ?hr43
            case hy43 => (intro _ hSw; (try dsimp only at hSw); go_simp <;> with_reducible rfl)
            simp only [Act.put, List.setIfInBounds_toArray, List.set_cons_zero, List.set_cons_succ]
            refine' wpAnyH_take (i := 2) (oi := { dst := some 48, op := Go.Op.move (Go.Operand.tmp 0), type := 40, pos := "law.go:94", after := #[], guard := none }) (v := _) rfl (by kernel_rfl) (by kernel_rfl) (by kernel_rfl) (fun _ _ _ h => h) (Or.inl ⟨by rfl, ?hy44⟩) (by assumption) ?hr44
            case hy44 => (intro _ hSw; (try dsimp only at hSw); go_simp <;> with_reducible rfl)
            simp only [Act.put, List.setIfInBounds_toArray, List.set_cons_zero, List.set_cons_succ]
            refine' wpAnyH_take (i := 3) (oi := { dst := some 49, op := Go.Op.move (Go.Operand.tmp 5), type := 3, pos := "law.go:94", after := #[], guard := none }) (v := _) rfl (by kernel_rfl) (by kernel_rfl) (by kernel_rfl) (fun _ _ _ h => h) (Or.inl ⟨by rfl, ?hy45⟩) (by assumption) ?hr45
            case hy45 => (intro _ hSw; (try dsimp only at hSw); go_simp <;> with_reducible rfl)
            simp only [Act.put, List.setIfInBounds_toArray, List.set_cons_zero, List.set_cons_succ]
            refine' wpAnyH_take (i := 4) (oi := { dst := some 50, op := Go.Op.nilCheck (Go.Operand.tmp 48), type := 0, pos := "law.go:94", after := #[{ on := 2, ground := Go.Ground.data }], guard := none }) (v := _) rfl (by kernel_rfl) (by kernel_rfl) (by kernel_rfl) (fun _ _ _ h => h) (Or.inl ⟨by rfl, ?hy46⟩) (by assumption) ?hr46
            case hy46 => (intro _ hSw; (try dsimp only at hSw); go_simp <;> with_reducible rfl)
            simp only [Act.put, List.setIfInBounds_toArray, List.set_cons_zero, List.set_cons_succ]
            refine' wpAnyH_take (i := 5) (oi := { dst := some 51, op := Go.Op.fieldAddr 45 (Go.Operand.tmp 50) 1, type := 0, pos := "law.go:94", after := #[{ on := 4, ground := Go.Ground.data }], guard := none }) (v := _) rfl (by kernel_rfl) (by kernel_rfl) (by kernel_rfl) (fun _ _ _ h => h) (Or.inl ⟨by rfl, ?hy47⟩) (by assumption) ?hr47
            case hy47 => (intro _ hSw; (try dsimp only at hSw); go_simp <;> with_reducible rfl)
            simp only [Act.put, List.setIfInBounds_toArray, List.set_cons_zero, List.set_cons_succ]
            refine' wpAnyH_take (i := 6) (oi := { dst := some 52, op := Go.Op.indexAddr 43 (Go.Operand.tmp 51) (Go.Operand.tmp 49), type := 0, pos := "law.go:94", after := #[{ on := 5, ground := Go.Ground.data }, { on := 3, ground := Go.Ground.data }], guard := none }) (v := _) rfl (by kernel_rfl) (by kernel_rfl) (by kernel_rfl) (fun _ _ _ h => h) (Or.inl ⟨by rfl, ?hy48⟩) (by assumption) ?hr48
            case hy48 => (intro _ hSw; (try dsimp only at hSw); go_simp <;> with_reducible rfl)
            simp only [Act.put, List.setIfInBounds_toArray, List.set_cons_zero, List.set_cons_succ]
            refine' wpAnyH_take (i := 9) (oi := { dst := some 55, op := Go.Op.nilCheck (Go.Operand.tmp 46), type := 0, pos := "law.go:94", after := #[{ on := 0, ground := Go.Ground.data }], guard := none }) (v := _) rfl (by kernel_rfl) (by kernel_rfl) (by kernel_rfl) (fun _ _ _ h => h) (Or.inl ⟨by rfl, ?hy49⟩) (by assumption) ?hr49
            case hy49 => (intro _ hSw; (try dsimp only at hSw); go_simp <;> with_reducible rfl)
            simp only [Act.put, List.setIfInBounds_toArray, List.set_cons_zero, List.set_cons_succ]
            refine' wpAnyH_take (i := 10) (oi := { dst := some 56, op := Go.Op.fieldAddr 45 (Go.Operand.tmp 55) 1, type := 0, pos := "law.go:94", after := #[{ on := 9, ground := Go.Ground.data }], guard := none }) (v := _) rfl (by kernel_rfl) (by kernel_rfl) (by kernel_rfl) (fun _ _ _ h => h) (Or.inl ⟨by rfl, ?hy50⟩) (by assumption) ?hr50
            case hy50 => (intro _ hSw; (try dsimp only at hSw); go_simp <;> with_reducible rfl)
            simp only [Act.put, List.setIfInBounds_toArray, List.set_cons_zero, List.set_cons_succ]
            rw [hw1]
            clear hw1
            refine wpAnyH_ready (rs := [7]) (by kernel_rfl) (by simp) ?_
            refine AllReadyH.cons (o := { dst := some 53, op := Go.Op.load 42 (Go.Operand.tmp 52), type := 42, pos := "law.go:94", after := #[{ on := 6, ground := Go.Ground.data }], guard := none }) rfl (fun K hK => ?_) AllReadyH.nil
            go_simp
            refine hK.out _ _ trivial (fun hNext => ?_)
            clear hHeld
            clear hK K
            have hHeld := hNext
            clear hNext
            (try simp only [Act.put, List.setIfInBounds_toArray, List.set_cons_zero, List.set_cons_succ])
            by_cases hc1 : c0 = 1
            · rw [if_pos hc1] at HQ1
              subst hc1
              obtain rfl : z = 0 := by omega
              refine' wpAnyH_take (i := 8) (oi := { dst := some 54, op := Go.Op.slice 42 (Go.Operand.tmp 53) (some (Go.Operand.const (Go.Value.int Go.IntKind.i64 1))) none none, type := 42, pos := "law.go:94", after := #[{ on := 7, ground := Go.Ground.data }], guard := none }) (v := _) rfl (by kernel_rfl) (by kernel_rfl) (by kernel_rfl) (fun _ _ _ h => h) (Or.inl ⟨by rfl, ?hy51⟩) (by assumption) ?hr51
              case hy51 => (intro _ hSw; (try dsimp only at hSw); go_simp <;> with_reducible rfl)
              simp only [Act.put, List.setIfInBounds_toArray, List.set_cons_zero, List.set_cons_succ]
              refine' wpAnyH_take (i := 11) (oi := { dst := some 57, op := Go.Op.indexAddr 43 (Go.Operand.tmp 56) (Go.Operand.tmp 47), type := 0, pos := "law.go:94", after := #[{ on := 10, ground := Go.Ground.data }, { on := 1, ground := Go.Ground.data }, { on := 0, ground := Go.Ground.phase }, { on := 1, ground := Go.Ground.phase }, { on := 2, ground := Go.Ground.phase }, { on := 3, ground := Go.Ground.phase }, { on := 4, ground := Go.Ground.phase }, { on := 5, ground := Go.Ground.phase }, { on := 6, ground := Go.Ground.phase }, { on := 7, ground := Go.Ground.phase }, { on := 8, ground := Go.Ground.phase }], guard := none }) (v := _) rfl (by kernel_rfl) (by kernel_rfl) (by kernel_rfl) (fun _ _ _ h => h) (Or.inl ⟨by rfl, ?hy52⟩) (by assumption) ?hr52
              case hy52 => (intro _ hSw; (try dsimp only at hSw); go_simp <;> with_reducible rfl)
              simp only [Act.put, List.setIfInBounds_toArray, List.set_cons_zero, List.set_cons_succ]
              refine wpAnyH_ready (rs := [12]) (by kernel_rfl) (by simp) ?_
              refine AllReadyH.cons (o := { dst := none, op := Go.Op.store 42 (Go.Operand.tmp 57) (Go.Operand.tmp 54), type := 0, pos := "law.go:94", after := #[{ on := 11, ground := Go.Ground.data }, { on := 8, ground := Go.Ground.data }, { on := 0, ground := Go.Ground.phase }, { on := 1, ground := Go.Ground.phase }, { on := 2, ground := Go.Ground.phase }, { on := 3, ground := Go.Ground.phase }, { on := 4, ground := Go.Ground.phase }, { on := 5, ground := Go.Ground.phase }, { on := 6, ground := Go.Ground.phase }, { on := 7, ground := Go.Ground.phase }, { on := 8, ground := Go.Ground.phase }], guard := none }) rfl (fun K hK => ?_) AllReadyH.nil
              go_simp
              refine hK.out _ _ trivial (fun hNext => ?_)
              clear hNext hHeld
              refine wpAnyH_done (by kernel_rfl) ?_ _
              clear hK K
              have H2 : Hid (TwAt w0 pa pb tb (.slice (some ⟨g, off, none⟩) 0 0) (.slice o1 0 c1) ⟨la, lb, r, []⟩ (w1.setCell ⟨tb, 2, none⟩ (.slice (some ⟨g, off, none⟩) 0 0))) := Lib.hid (H1.out.put0 ⟨rfl, rfl, rfl, Nat.le_refl _, fun _ _ _ => rfl⟩ HQ1.out (Or.inl rfl))
              have hA2 : (w1.setCell ⟨tb, 2, none⟩ (.slice (some ⟨g, off, none⟩) 0 0)).heap[n6]? = some (aO x 30) := (set_other (by omega) _).trans hA1
              clear HQ1 H1 hA1 b2 f2
              generalize w1.setCell ⟨tb, 2, none⟩ (.slice (some ⟨g, off, none⟩) 0 0) = w2 at H2 hA2 ⊢
              go_wp2_with fail
              have H3 := Lib.hid H2.out.drew
              have hA3 : w2.drew.heap[n6]? = some (aO x 30) := hA2
              clear H2 hA2
              refine wp_region_held_drew (S := (fun w' => w'.cell? ⟨tb, 0, none⟩ = some (ptr pa) ∧ w'.heap[n6]? = some (aO x 30))) (by kernel_rfl) ⟨cell_of H3.out.blk rfl, hA3⟩ (fun hHeld => ?_)
              refine' wpAnyH_take (i := 0) (oi := { dst := some 58, op := Go.Op.move (Go.Operand.tmp 0), type := 40, pos := "law.go:95", after := #[], guard := none }) (v := _) rfl (by kernel_rfl) (by kernel_rfl) (by kernel_rfl) (fun _ _ _ h => h) (Or.inl ⟨by rfl, ?hy53⟩) (by assumption) ?hr53
              case hy53 => (intro _ hSw; (try dsimp only at hSw); go_simp <;> with_reducible rfl)
              simp only [Act.put, List.setIfInBounds_toArray, List.set_cons_zero, List.set_cons_succ]
              refine' wpAnyH_take (i := 1) (oi := { dst := some 59, op := Go.Op.move (Go.Operand.tmp 5), type := 3, pos := "law.go:95", after := #[], guard := none }) (v := _) rfl (by kernel_rfl) (by kernel_rfl) (by kernel_rfl) (fun _ _ _ h => h) (Or.inl ⟨by rfl, ?hy54⟩) (by assumption) ?hr54
              case hy54 => (intro _ hSw; (try dsimp only at hSw); go_simp <;> with_reducible rfl)
              simp only [Act.put, List.setIfInBounds_toArray, List.set_cons_zero, List.set_cons_succ]
              refine' wpAnyH_take (i := 2) (oi := { dst := some 60, op := Go.Op.move (Go.Operand.tmp 0), type := 40, pos := "law.go:95", after := #[], guard := none }) (v := _) rfl (by kernel_rfl) (by kernel_rfl) (by kernel_rfl) (fun _ _ _ h => h) (Or.inl ⟨by rfl, ?hy55⟩) (by assumption) ?hr55
              case hy55 => (intro _ hSw; (try dsimp only at hSw); go_simp <;> with_reducible rfl)
              simp only [Act.put, List.setIfInBounds_toArray, List.set_cons_zero, List.set_cons_succ]
              refine' wpAnyH_take (i := 3) (oi := { dst := some 61, op := Go.Op.move (Go.Operand.tmp 5), type := 3, pos := "law.go:95", after := #[], guard := none }) (v := _) rfl (by kernel_rfl) (by kernel_rfl) (by kernel_rfl) (fun _ _ _ h => h) (Or.inl ⟨by rfl, ?hy56⟩) (by assumption) ?hr56
              case hy56 => (intro _ hSw; (try dsimp only at hSw); go_simp <;> with_reducible rfl)
              simp only [Act.put, List.setIfInBounds_toArray, List.set_cons_zero, List.set_cons_succ]
              refine' wpAnyH_take (i := 4) (oi := { dst := some 62, op := Go.Op.nilCheck (Go.Operand.tmp 60), type := 0, pos := "law.go:95", after := #[{ on := 2, ground := Go.Ground.data }], guard := none }) (v := _) rfl (by kernel_rfl) (by kernel_rfl) (by kernel_rfl) (fun _ _ _ h => h) (Or.inl ⟨by rfl, ?hy57⟩) (by assumption) ?hr57
              case hy57 => (intro _ hSw; (try dsimp only at hSw); go_simp <;> with_reducible rfl)
              simp only [Act.put, List.setIfInBounds_toArray, List.set_cons_zero, List.set_cons_succ]
              refine' wpAnyH_take (i := 5) (oi := { dst := some 63, op := Go.Op.fieldAddr 45 (Go.Operand.tmp 62) 0, type := 0, pos := "law.go:95", after := #[{ on := 4, ground := Go.Ground.data }], guard := none }) (v := _) rfl (by kernel_rfl) (by kernel_rfl) (by kernel_rfl) (fun _ _ _ h => h) (Or.inl ⟨by rfl, ?hy58⟩) (by assumption) ?hr58
              case hy58 => (intro _ hSw; (try dsimp only at hSw); go_simp <;> with_reducible rfl)
              simp only [Act.put, List.setIfInBounds_toArray, List.set_cons_zero, List.set_cons_succ]
              refine' wpAnyH_take (i := 6) (oi := { dst := some 64, op := Go.Op.indexAddr 41 (Go.Operand.tmp 63) (Go.Operand.tmp 61), type := 0, pos := "law.go:95", after := #[{ on := 5, ground := Go.Ground.data }, { on := 3, ground := Go.Ground.data }], guard := none }) (v := _) rfl (by kernel_rfl) (by kernel_rfl) (by kernel_rfl) (fun _ _ _ h => h) (Or.inl ⟨by rfl, ?hy59⟩) (by assumption) ?hr59
              case hy59 => (intro _ hSw; (try dsimp only at hSw); go_simp <;> with_reducible rfl)
              simp only [Act.put, List.setIfInBounds_toArray, List.set_cons_zero, List.set_cons_succ]
              refine' wpAnyH_take (i := 7) (oi := { dst := some 65, op := Go.Op.load 24 (Go.Operand.tmp 64), type := 24, pos := "law.go:95", after := #[{ on := 6, ground := Go.Ground.data }], guard := none }) (v := _) rfl (by kernel_rfl) (by kernel_rfl) (by kernel_rfl) (fun _ _ _ h => h) (Or.inl ⟨by rfl, ?hy60⟩) (by assumption) ?hr60
              case hy60 => (intro _ hSw; (try dsimp only at hSw); have hc := hSw.1; go_simp <;> with_reducible rfl)
              simp only [Act.put, List.setIfInBounds_toArray, List.set_cons_zero, List.set_cons_succ]
              refine' wpAnyH_take (i := 8) (oi := { dst := some 66, op := Go.Op.fieldAddr 30 (Go.Operand.tmp 6) 0, type := 0, pos := "law.go:95", after := #[], guard := none }) (v := _) rfl (by kernel_rfl) (by kernel_rfl) (by kernel_rfl) (fun _ _ _ h => h) (Or.inl ⟨by rfl, ?hy61⟩) (by assumption) ?hr61
              case hy61 => (intro _ hSw; (try dsimp only at hSw); go_simp <;> with_reducible rfl)
              simp only [Act.put, List.setIfInBounds_toArray, List.set_cons_zero, List.set_cons_succ]
              refine' wpAnyH_take (i := 9) (oi := { dst := some 67, op := Go.Op.load 5 (Go.Operand.tmp 66), type := 5, pos := "law.go:95", after := #[{ on := 8, ground := Go.Ground.data }], guard := none }) (v := _) rfl (by kernel_rfl) (by kernel_rfl) (by kernel_rfl) (fun _ _ _ h => h) (Or.inl ⟨by rfl, ?hy62⟩) (by assumption) ?hr62
              case hy62 => (intro _ hSw; (try dsimp only at hSw); obtain ⟨⟨x0, x1, x2, x3, x4⟩, -⟩ := cells5 hSw.2; go_simp <;> with_reducible rfl)
              simp only [Act.put, List.setIfInBounds_toArray, List.set_cons_zero, List.set_cons_succ]
              refine' wpAnyH_take (i := 10) (oi := { dst := some 68, op := Go.Op.fieldAddr 30 (Go.Operand.tmp 6) 2, type := 0, pos := "law.go:95", after := #[], guard := none }) (v := _) rfl (by kernel_rfl) (by kernel_rfl) (by kernel_rfl) (fun _ _ _ h => h) (Or.inl ⟨by rfl, ?hy63⟩) (by assumption) ?hr63
              case hy63 => (intro _ hSw; (try dsimp only at hSw); go_simp <;> with_reducible rfl)
              simp only [Act.put, List.setIfInBounds_toArray, List.set_cons_zero, List.set_cons_succ]
              refine' wpAnyH_take (i := 11) (oi := { dst := some 69, op := Go.Op.load 4 (Go.Operand.tmp 68), type := 4, pos := "law.go:95", after := #[{ on := 10, ground := Go.Ground.data }], guard := none }) (v := _) rfl (by kernel_rfl) (by kernel_rfl) (by kernel_rfl) (fun _ _ _ h => h) (Or.inl ⟨by rfl, ?hy64⟩) (by assumption) ?hr64
              case hy64 => (intro _ hSw; (try dsimp only at hSw); obtain ⟨⟨x0, x1, x2, x3, x4⟩, -⟩ := cells5 hSw.2; go_simp <;> with_reducible rfl)
              simp only [Act.put, List.setIfInBounds_toArray, List.set_cons_zero, List.set_cons_succ]
              refine' wpAnyH_take (i := 12) (oi := { dst := some 70, op := Go.Op.fieldAddr 30 (Go.Operand.tmp 6) 1, type := 0, pos := "law.go:95", after := #[], guard := none }) (v := _) rfl (by kernel_rfl) (by kernel_rfl) (by kernel_rfl) (fun _ _ _ h => h) (Or.inl ⟨by rfl, ?hy65⟩) (by assumption) ?hr65
              case hy65 => (intro _ hSw; (try dsimp only at hSw); go_simp <;> with_reducible rfl)
              simp only [Act.put, List.setIfInBounds_toArray, List.set_cons_zero, List.set_cons_succ]
              refine' wpAnyH_take (i := 13) (oi := { dst := some 71, op := Go.Op.load 4 (Go.Operand.tmp 70), type := 4, pos := "law.go:95", after := #[{ on := 12, ground := Go.Ground.data }], guard := none }) (v := _) rfl (by kernel_rfl) (by kernel_rfl) (by kernel_rfl) (fun _ _ _ h => h) (Or.inl ⟨by rfl, ?hy66⟩) (by assumption) ?hr66
              case hy66 => (intro _ hSw; (try dsimp only at hSw); obtain ⟨⟨x0, x1, x2, x3, x4⟩, -⟩ := cells5 hSw.2; go_simp <;> with_reducible rfl)
              simp only [Act.put, List.setIfInBounds_toArray, List.set_cons_zero, List.set_cons_succ]
              refine wpAnyH_ready (rs := [14]) (by kernel_rfl) (by simp) ?_
              refine AllReadyH.cons (o := { dst := some 72, op := Go.Op.call { callee := Go.Callee.value (Go.Operand.func 21), args := #[Go.Operand.tmp 65, Go.Operand.tmp 67, Go.Operand.tmp 69, Go.Operand.tmp 71], argTypes := #[24, 5, 4, 4] }, type := 30, pos := "law.go:95", after := #[{ on := 7, ground := Go.Ground.data }, { on := 9, ground := Go.Ground.data }, { on := 11, ground := Go.Ground.data }, { on := 13, ground := Go.Ground.data }], guard := none }) rfl (fun K hK => ?_) AllReadyH.nil
              go_simp
              refine (CH.out _ H3.out.la).mono ?_
              rintro _ w4 ⟨rfl, hd⟩
              have H4 := Lib.hid (H3.out.doA hd)
              have hA4 : w4.heap[n6]? = some (aO x 30) := hd.chg.stays hA3 (by have := H3.out.ab; have := H3.out.bt; omega)
              clear hd H3 hA3 CH
              go_wp2_with fail
              refine hK.out _ _ ⟨cell_of H4.out.blk rfl, hA4⟩ (fun hNext => ?_)
              clear hHeld
              clear hK K
              have hHeld := hNext
              clear hNext
              (try simp only [Act.put, List.setIfInBounds_toArray, List.set_cons_zero, List.set_cons_succ])
              refine wpAnyH_ready (rs := [15]) (by kernel_rfl) (by simp) ?_
              refine AllReadyH.cons (o := { dst := some 73, op := Go.Op.call { callee := Go.Callee.value (Go.Operand.func 17), args := #[Go.Operand.tmp 58, Go.Operand.tmp 59, Go.Operand.tmp 72], argTypes := #[40, 3, 30] }, type := 0, pos := "law.go:95", after := #[{ on := 0, ground := Go.Ground.data }, { on := 1, ground := Go.Ground.data }, { on := 14, ground := Go.Ground.data }, { on := 14, ground := Go.Ground.chain }], guard := none }) rfl (fun K hK => ?_) AllReadyH.nil
              go_simp
              have L0 := HR.out.l0
              have L1 := HR.out.l1
              have LF := HR.out.few
              dsimp only at L0 L1
              by_cases hk0 : ra.k = 0
              · refine (fsaid0_no _ _ ra hk0).mono ?_
                rintro _ w5 ⟨rfl, hb5⟩
                have H5 := Lib.hid (H4.out.on hb5)
                have hA5 := stays hA4 hb5
                have hp : put [] ra = [] := if_pos hk0
                rw [hp] at HN
                have hlen : r.length + ([] : List Ac).length ≤ 1000 := by have := HZ.out; omega
                have HF : Hid (∃ a0 a1 a2 a3 a4 a5, Rn w0 pa pb tb a0 a1 a2 a3 a4 a5 ⟨rl, lb, r, []⟩ w5) := Rn.of H5.out HO.out HR.out.ob hlen
                have HG : Hid (runs (100 - (k + 1)) true ⟨rl, lb, r, []⟩ = T) := by show _ = _; rw [HM.out]; exact HN.out
                go_wp2_with fail
                refine hK.out _ _ ⟨cell_of H5.out.blk rfl, hA5⟩ (fun hNext => ?_)
                clear hNext hHeld hK K
                refine wpAnyH_done (by kernel_rfl) ?_ _
                clear hb5 hA5 hA4 H4 H5 hp hlen HN HM HR HO HW L0 L1 LF HZ
                go_wp2
                go_roundg (100 - (k + 1))
                case measure => omega
                case rel => exact ⟨k + 1, _, by first | rfl | go_num, Nat.le_refl _, by omega, HF, HG⟩
              · refine (fsaid0 w0 _ pa pb tb _ _ _ ra hk0 (by dsimp only; omega) H4.out).mono ?_
                rintro _ w5 ⟨rfl, u, hu, hc⟩
                have H5 := Lib.hid hu
                have hA5 : w5.heap[n6]? = some (aO x 30) := hc.stays hA4 (fun e => by
                  rcases e with e | e
                  · omega
                  · have := HW.out n6 e; omega)
                have hp : put [] ra = [] ++ [ra] := if_neg hk0
                rw [hp] at HN
                have hlen : r.length + ([] ++ [ra]).length ≤ 1000 := by have := HZ.out; rw [List.length_append, List.length_singleton]; omega
                have HF : Hid (∃ a0 a1 a2 a3 a4 a5, Rn w0 pa pb tb a0 a1 a2 a3 a4 a5 ⟨rl, lb, r, [] ++ [ra]⟩ w5) := Rn.of H5.out HO.out HR.out.ob hlen
                have HG : Hid (runs (100 - (k + 1)) true ⟨rl, lb, r, [] ++ [ra]⟩ = T) := by show _ = _; rw [HM.out]; exact HN.out
                go_wp2_with fail
                refine hK.out _ _ ⟨cell_of H5.out.blk rfl, hA5⟩ (fun hNext => ?_)
                clear hNext hHeld hK K
                refine wpAnyH_done (by kernel_rfl) ?_ _
                clear hu hc hA5 hA4 H4 H5 hp hlen HN HM HR HO HW L0 L1 LF HZ
                go_wp2
                go_roundg (100 - (k + 1))
                case measure => omega
                case rel => exact ⟨k + 1, _, by first | rfl | go_num, Nat.le_refl _, by omega, HF, HG⟩
            rw [if_neg hc1] at HQ1
            refine' wpAnyH_take (i := 8) (oi := { dst := some 54, op := Go.Op.slice 42 (Go.Operand.tmp 53) (some (Go.Operand.const (Go.Value.int Go.IntKind.i64 1))) none none, type := 42, pos := "law.go:94", after := #[{ on := 7, ground := Go.Ground.data }], guard := none }) (v := _) rfl (by kernel_rfl) (by kernel_rfl) (by kernel_rfl) (fun _ _ _ h => h) (Or.inl ⟨by rfl, ?hy67⟩) (by assumption) ?hr67
            case hy67 => (intro _ hSw; (try dsimp only at hSw); go_simp <;> with_reducible rfl)
            simp only [Act.put, List.setIfInBounds_toArray, List.set_cons_zero, List.set_cons_succ]
            refine' wpAnyH_take (i := 11) (oi := { dst := some 57, op := Go.Op.indexAddr 43 (Go.Operand.tmp 56) (Go.Operand.tmp 47), type := 0, pos := "law.go:94", after := #[{ on := 10, ground := Go.Ground.data }, { on := 1, ground := Go.Ground.data }, { on := 0, ground := Go.Ground.phase }, { on := 1, ground := Go.Ground.phase }, { on := 2, ground := Go.Ground.phase }, { on := 3, ground := Go.Ground.phase }, { on := 4, ground := Go.Ground.phase }, { on := 5, ground := Go.Ground.phase }, { on := 6, ground := Go.Ground.phase }, { on := 7, ground := Go.Ground.phase }, { on := 8, ground := Go.Ground.phase }], guard := none }) (v := _) rfl (by kernel_rfl) (by kernel_rfl) (by kernel_rfl) (fun _ _ _ h => h) (Or.inl ⟨by rfl, ?hy68⟩) (by assumption) ?hr68
            case hy68 => (intro _ hSw; (try dsimp only at hSw); go_simp <;> with_reducible rfl)
            simp only [Act.put, List.setIfInBounds_toArray, List.set_cons_zero, List.set_cons_succ]
            refine wpAnyH_ready (rs := [12]) (by kernel_rfl) (by simp) ?_
            refine AllReadyH.cons (o := { dst := none, op := Go.Op.store 42 (Go.Operand.tmp 57) (Go.Operand.tmp 54), type := 0, pos := "law.go:94", after := #[{ on := 11, ground := Go.Ground.data }, { on := 8, ground := Go.Ground.data }, { on := 0, ground := Go.Ground.phase }, { on := 1, ground := Go.Ground.phase }, { on := 2, ground := Go.Ground.phase }, { on := 3, ground := Go.Ground.phase }, { on := 4, ground := Go.Ground.phase }, { on := 5, ground := Go.Ground.phase }, { on := 6, ground := Go.Ground.phase }, { on := 7, ground := Go.Ground.phase }, { on := 8, ground := Go.Ground.phase }], guard := none }) rfl (fun K hK => ?_) AllReadyH.nil
            go_simp
            refine hK.out _ _ trivial (fun hNext => ?_)
            clear hNext hHeld
            refine wpAnyH_done (by kernel_rfl) ?_ _
            clear hK K
            have H2 : Hid (TwAt w0 pa pb tb (.slice (some ⟨g, off + 5, none⟩) z (c0 - 1)) (.slice o1 0 c1) ⟨la, lb, r, []⟩ (w1.setCell ⟨tb, 2, none⟩ (.slice (some ⟨g, off + 5, none⟩) z (c0 - 1)))) := Lib.hid (H1.out.put0 ⟨rfl, rfl, rfl, Nat.le_refl _, fun _ _ _ => rfl⟩ HQ1.out (Or.inl rfl))
            have hA2 : (w1.setCell ⟨tb, 2, none⟩ (.slice (some ⟨g, off + 5, none⟩) z (c0 - 1))).heap[n6]? = some (aO x 30) := (set_other (by omega) _).trans hA1
            clear HQ1 H1 hA1 b2 f2
            generalize w1.setCell ⟨tb, 2, none⟩ (.slice (some ⟨g, off + 5, none⟩) z (c0 - 1)) = w2 at H2 hA2 ⊢
            go_wp2_with fail
            have H3 := Lib.hid H2.out.drew
            have hA3 : w2.drew.heap[n6]? = some (aO x 30) := hA2
            clear H2 hA2
            refine wp_region_held_drew (S := (fun w' => w'.cell? ⟨tb, 0, none⟩ = some (ptr pa) ∧ w'.heap[n6]? = some (aO x 30))) (by kernel_rfl) ⟨cell_of H3.out.blk rfl, hA3⟩ (fun hHeld => ?_)
            refine' wpAnyH_take (i := 0) (oi := { dst := some 58, op := Go.Op.move (Go.Operand.tmp 0), type := 40, pos := "law.go:95", after := #[], guard := none }) (v := _) rfl (by kernel_rfl) (by kernel_rfl) (by kernel_rfl) (fun _ _ _ h => h) (Or.inl ⟨by rfl, ?hy69⟩) (by assumption) ?hr69
            case hy69 => (intro _ hSw; (try dsimp only at hSw); go_simp <;> with_reducible rfl)
            simp only [Act.put, List.setIfInBounds_toArray, List.set_cons_zero, List.set_cons_succ]
            refine' wpAnyH_take (i := 1) (oi := { dst := some 59, op := Go.Op.move (Go.Operand.tmp 5), type := 3, pos := "law.go:95", after := #[], guard := none }) (v := _) rfl (by kernel_rfl) (by kernel_rfl) (by kernel_rfl) (fun _ _ _ h => h) (Or.inl ⟨by rfl, ?hy70⟩) (by assumption) ?hr70
            case hy70 => (intro _ hSw; (try dsimp only at hSw); go_simp <;> with_reducible rfl)
            simp only [Act.put, List.setIfInBounds_toArray, List.set_cons_zero, List.set_cons_succ]
            refine' wpAnyH_take (i := 2) (oi := { dst := some 60, op := Go.Op.move (Go.Operand.tmp 0), type := 40, pos := "law.go:95", after := #[], guard := none }) (v := _) rfl (by kernel_rfl) (by kernel_rfl) (by kernel_rfl) (fun _ _ _ h => h) (Or.inl ⟨by rfl, ?hy71⟩) (by assumption) ?hr71
            case hy71 => (intro _ hSw; (try dsimp only at hSw); go_simp <;> with_reducible rfl)
            simp only [Act.put, List.setIfInBounds_toArray, List.set_cons_zero, List.set_cons_succ]
            refine' wpAnyH_take (i := 3) (oi := { dst := some 61, op := Go.Op.move (Go.Operand.tmp 5), type := 3, pos := "law.go:95", after := #[], guard := none }) (v := _) rfl (by kernel_rfl) (by kernel_rfl) (by kernel_rfl) (fun _ _ _ h => h) (Or.inl ⟨by rfl, ?hy72⟩) (by assumption) ?hr72
            case hy72 => (intro _ hSw; (try dsimp only at hSw); go_simp <;> with_reducible rfl)
            simp only [Act.put, List.setIfInBounds_toArray, List.set_cons_zero, List.set_cons_succ]
            refine' wpAnyH_take (i := 4) (oi := { dst := some 62, op := Go.Op.nilCheck (Go.Operand.tmp 60), type := 0, pos := "law.go:95", after := #[{ on := 2, ground := Go.Ground.data }], guard := none }) (v := _) rfl (by kernel_rfl) (by kernel_rfl) (by kernel_rfl) (fun _ _ _ h => h) (Or.inl ⟨by rfl, ?hy73⟩) (by assumption) ?hr73
            case hy73 => (intro _ hSw; (try dsimp only at hSw); go_simp <;> with_reducible rfl)
            simp only [Act.put, List.setIfInBounds_toArray, List.set_cons_zero, List.set_cons_succ]
            refine' wpAnyH_take (i := 5) (oi := { dst := some 63, op := Go.Op.fieldAddr 45 (Go.Operand.tmp 62) 0, type := 0, pos := "law.go:95", after := #[{ on := 4, ground := Go.Ground.data }], guard := none }) (v := _) rfl (by kernel_rfl) (by kernel_rfl) (by kernel_rfl) (fun _ _ _ h => h) (Or.inl ⟨by rfl, ?hy74⟩) (by assumption) ?hr74
            case hy74 => (intro _ hSw; (try dsimp only at hSw); go_simp <;> with_reducible rfl)
            simp only [Act.put, List.setIfInBounds_toArray, List.set_cons_zero, List.set_cons_succ]
            refine' wpAnyH_take (i := 6) (oi := { dst := some 64, op := Go.Op.indexAddr 41 (Go.Operand.tmp 63) (Go.Operand.tmp 61), type := 0, pos := "law.go:95", after := #[{ on := 5, ground := Go.Ground.data }, { on := 3, ground := Go.Ground.data }], guard := none }) (v := _) rfl (by kernel_rfl) (by kernel_rfl) (by kernel_rfl) (fun _ _ _ h => h) (Or.inl ⟨by rfl, ?hy75⟩) (by assumption) ?hr75
            case hy75 => (intro _ hSw; (try dsimp only at hSw); go_simp <;> with_reducible rfl)
            simp only [Act.put, List.setIfInBounds_toArray, List.set_cons_zero, List.set_cons_succ]
            refine' wpAnyH_take (i := 7) (oi := { dst := some 65, op := Go.Op.load 24 (Go.Operand.tmp 64), type := 24, pos := "law.go:95", after := #[{ on := 6, ground := Go.Ground.data }], guard := none }) (v := _) rfl (by kernel_rfl) (by kernel_rfl) (by kernel_rfl) (fun _ _ _ h => h) (Or.inl ⟨by rfl, ?hy76⟩) (by assumption) ?hr76
            case hy76 => (intro _ hSw; (try dsimp only at hSw); have hc := hSw.1; go_simp <;> with_reducible rfl)
            simp only [Act.put, List.setIfInBounds_toArray, List.set_cons_zero, List.set_cons_succ]
            refine' wpAnyH_take (i := 8) (oi := { dst := some 66, op := Go.Op.fieldAddr 30 (Go.Operand.tmp 6) 0, type := 0, pos := "law.go:95", after := #[], guard := none }) (v := _) rfl (by kernel_rfl) (by kernel_rfl) (by kernel_rfl) (fun _ _ _ h => h) (Or.inl ⟨by rfl, ?hy77⟩) (by assumption) ?hr77
            case hy77 => (intro _ hSw; (try dsimp only at hSw); go_simp <;> with_reducible rfl)
            simp only [Act.put, List.setIfInBounds_toArray, List.set_cons_zero, List.set_cons_succ]
            refine' wpAnyH_take (i := 9) (oi := { dst := some 67, op := Go.Op.load 5 (Go.Operand.tmp 66), type := 5, pos := "law.go:95", after := #[{ on := 8, ground := Go.Ground.data }], guard := none }) (v := _) rfl (by kernel_rfl) (by kernel_rfl) (by kernel_rfl) (fun _ _ _ h => h) (Or.inl ⟨by rfl, ?hy78⟩) (by assumption) ?hr78
            case hy78 => (intro _ hSw; (try dsimp only at hSw); obtain ⟨⟨x0, x1, x2, x3, x4⟩, -⟩ := cells5 hSw.2; go_simp <;> with_reducible rfl)
            simp only [Act.put, List.setIfInBounds_toArray, List.set_cons_zero, List.set_cons_succ]
            refine' wpAnyH_take (i := 10) (oi := { dst := some 68, op := Go.Op.fieldAddr 30 (Go.Operand.tmp 6) 2, type := 0, pos := "law.go:95", after := #[], guard := none }) (v := _) rfl (by kernel_rfl) (by kernel_rfl) (by kernel_rfl) (fun _ _ _ h => h) (Or.inl ⟨by rfl, ?hy79⟩) (by assumption) ?hr79
            case hy79 => (intro _ hSw; (try dsimp only at hSw); go_simp <;> with_reducible rfl)
            simp only [Act.put, List.setIfInBounds_toArray, List.set_cons_zero, List.set_cons_succ]
            refine' wpAnyH_take (i := 11) (oi := { dst := some 69, op := Go.Op.load 4 (Go.Operand.tmp 68), type := 4, pos := "law.go:95", after := #[{ on := 10, ground := Go.Ground.data }], guard := none }) (v := _) rfl (by kernel_rfl) (by kernel_rfl) (by kernel_rfl) (fun _ _ _ h => h) (Or.inl ⟨by rfl, ?hy80⟩) (by assumption) ?hr80
            case hy80 => (intro _ hSw; (try dsimp only at hSw); obtain ⟨⟨x0, x1, x2, x3, x4⟩, -⟩ := cells5 hSw.2; go_simp <;> with_reducible rfl)
            simp only [Act.put, List.setIfInBounds_toArray, List.set_cons_zero, List.set_cons_succ]
            refine' wpAnyH_take (i := 12) (oi := { dst := some 70, op := Go.Op.fieldAddr 30 (Go.Operand.tmp 6) 1, type := 0, pos := "law.go:95", after := #[], guard := none }) (v := _) rfl (by kernel_rfl) (by kernel_rfl) (by kernel_rfl) (fun _ _ _ h => h) (Or.inl ⟨by rfl, ?hy81⟩) (by assumption) ?hr81
            case hy81 => (intro _ hSw; (try dsimp only at hSw); go_simp <;> with_reducible rfl)
            simp only [Act.put, List.setIfInBounds_toArray, List.set_cons_zero, List.set_cons_succ]
            refine' wpAnyH_take (i := 13) (oi := { dst := some 71, op := Go.Op.load 4 (Go.Operand.tmp 70), type := 4, pos := "law.go:95", after := #[{ on := 12, ground := Go.Ground.data }], guard := none }) (v := _) rfl (by kernel_rfl) (by kernel_rfl) (by kernel_rfl) (fun _ _ _ h => h) (Or.inl ⟨by rfl, ?hy82⟩) (by assumption) ?hr82
            case hy82 => (intro _ hSw; (try dsimp only at hSw); obtain ⟨⟨x0, x1, x2, x3, x4⟩, -⟩ := cells5 hSw.2; go_simp <;> with_reducible rfl)
            simp only [Act.put, List.setIfInBounds_toArray, List.set_cons_zero, List.set_cons_succ]
            refine wpAnyH_ready (rs := [14]) (by kernel_rfl) (by simp) ?_
            refine AllReadyH.cons (o := { dst := some 72, op := Go.Op.call { callee := Go.Callee.value (Go.Operand.func 21), args := #[Go.Operand.tmp 65, Go.Operand.tmp 67, Go.Operand.tmp 69, Go.Operand.tmp 71], argTypes := #[24, 5, 4, 4] }, type := 30, pos := "law.go:95", after := #[{ on := 7, ground := Go.Ground.data }, { on := 9, ground := Go.Ground.data }, { on := 11, ground := Go.Ground.data }, { on := 13, ground := Go.Ground.data }], guard := none }) rfl (fun K hK => ?_) AllReadyH.nil
            go_simp
            refine (CH.out _ H3.out.la).mono ?_
            rintro _ w4 ⟨rfl, hd⟩
            have H4 := Lib.hid (H3.out.doA hd)
            have hA4 : w4.heap[n6]? = some (aO x 30) := hd.chg.stays hA3 (by have := H3.out.ab; have := H3.out.bt; omega)
            clear hd H3 hA3 CH
            go_wp2_with fail
            refine hK.out _ _ ⟨cell_of H4.out.blk rfl, hA4⟩ (fun hNext => ?_)
            clear hHeld
            clear hK K
            have hHeld := hNext
            clear hNext
            (try simp only [Act.put, List.setIfInBounds_toArray, List.set_cons_zero, List.set_cons_succ])
            refine wpAnyH_ready (rs := [15]) (by kernel_rfl) (by simp) ?_
            refine AllReadyH.cons (o := { dst := some 73, op := Go.Op.call { callee := Go.Callee.value (Go.Operand.func 17), args := #[Go.Operand.tmp 58, Go.Operand.tmp 59, Go.Operand.tmp 72], argTypes := #[40, 3, 30] }, type := 0, pos := "law.go:95", after := #[{ on := 0, ground := Go.Ground.data }, { on := 1, ground := Go.Ground.data }, { on := 14, ground := Go.Ground.data }, { on := 14, ground := Go.Ground.chain }], guard := none }) rfl (fun K hK => ?_) AllReadyH.nil
            go_simp
            have L0 := HR.out.l0
            have L1 := HR.out.l1
            have LF := HR.out.few
            dsimp only at L0 L1
            by_cases hk0 : ra.k = 0
            · refine (fsaid0_no _ _ ra hk0).mono ?_
              rintro _ w5 ⟨rfl, hb5⟩
              have H5 := Lib.hid (H4.out.on hb5)
              have hA5 := stays hA4 hb5
              have hp : put [] ra = [] := if_pos hk0
              rw [hp] at HN
              have hlen : r.length + ([] : List Ac).length ≤ 1000 := by have := HZ.out; omega
              have HF : Hid (∃ a0 a1 a2 a3 a4 a5, Rn w0 pa pb tb a0 a1 a2 a3 a4 a5 ⟨rl, lb, r, []⟩ w5) := Rn.of H5.out HO.out HR.out.ob hlen
              have HG : Hid (runs (100 - (k + 1)) true ⟨rl, lb, r, []⟩ = T) := by show _ = _; rw [HM.out]; exact HN.out
              go_wp2_with fail
              refine hK.out _ _ ⟨cell_of H5.out.blk rfl, hA5⟩ (fun hNext => ?_)
              clear hNext hHeld hK K
              refine wpAnyH_done (by kernel_rfl) ?_ _
              clear hb5 hA5 hA4 H4 H5 hp hlen HN HM HR HO HW L0 L1 LF HZ
              go_wp2
              go_roundg (100 - (k + 1))
              case measure => omega
              case rel => exact ⟨k + 1, _, by first | rfl | go_num, Nat.le_refl _, by omega, HF, HG⟩
            · refine (fsaid0 w0 _ pa pb tb _ _ _ ra hk0 (by dsimp only; omega) H4.out).mono ?_
              rintro _ w5 ⟨rfl, u, hu, hc⟩
              have H5 := Lib.hid hu
              have hA5 : w5.heap[n6]? = some (aO x 30) := hc.stays hA4 (fun e => by
                rcases e with e | e
                · omega
                · have := HW.out n6 e; omega)
              have hp : put [] ra = [] ++ [ra] := if_neg hk0
              rw [hp] at HN
              have hlen : r.length + ([] ++ [ra]).length ≤ 1000 := by have := HZ.out; rw [List.length_append, List.length_singleton]; omega
              have HF : Hid (∃ a0 a1 a2 a3 a4 a5, Rn w0 pa pb tb a0 a1 a2 a3 a4 a5 ⟨rl, lb, r, [] ++ [ra]⟩ w5) := Rn.of H5.out HO.out HR.out.ob hlen
              have HG : Hid (runs (100 - (k + 1)) true ⟨rl, lb, r, [] ++ [ra]⟩ = T) := by show _ = _; rw [HM.out]; exact HN.out
              go_wp2_with fail
              refine hK.out _ _ ⟨cell_of H5.out.blk rfl, hA5⟩ (fun hNext => ?_)
              clear hNext hHeld hK K
              refine wpAnyH_done (by kernel_rfl) ?_ _
              clear hu hc hA5 hA4 H4 H5 hp hlen HN HM HR HO HW L0 L1 LF HZ
              go_wp2
              go_roundg (100 - (k + 1))
              case measure => omega
              case rel => exact ⟨k + 1, _, by first | rfl | go_num, Nat.le_refl _, by omega, HF, HG⟩
          | nil =>
            have hn0 : n0 = 0 := by rw [← L0]; rfl
            have hn1 : n1 = 0 := by rw [← L1]; rfl
            subst hn0 hn1
            have HE : Hid (TwAt w0 pa pb tb (.slice o0 0 c0) (.slice o1 0 c1) T wr) := by
              have h8 := HU.out
              have h9 : step true ⟨la, lb, [], []⟩ = none := rfl
              unfold runs at h8
              rw [h9] at h8
              dsimp only at h8
              show TwAt _ _ _ _ _ _ _ _
              rw [← h8]
              exact HR.out.tw
            clear HR HU L0 L1
            go_wp2
            refine bodyPost_ret (results_none rfl _ _ _) rfl ?_
            exact ⟨rfl, _, _, HE.out⟩
      | false =>
        cases q0 with
        | cons x r =>
          obtain ⟨g, off, ho, hn, hcap, hmax, hbg, hgw, ⟨e0, e1, e2, e3, e4⟩, hq⟩ := qz_cons HR.out.tw.h0
          subst ho
          obtain ⟨z, hz⟩ : ∃ z, r.length = z := ⟨_, rfl⟩
          rw [hz] at hn hq
          subst hn
          have HZ := Lib.hid hz
          have HQ := Lib.hid hq
          have z0 : ((z + 1 : Nat) : Int) = (z : Int) + 1 := by omega
          have z1 : ¬ (z : Int) + 1 = 0 := by omega
          have z2 : decide ((0 : Int) < (z : Int) + 1) = true := decide_eq_true (by omega)
          have z3 : (((z : Int) + 1) == 0) = false := beq_false (by omega)
          have z4 : (0 : Int) < (z : Int) + 1 := by omega
          have z5 : (1 : Int) ≤ (z : Int) + 1 := by omega
          have htb := lt_heap HR.out.tw.blk
          clear hz hq L0 L1
          obtain ⟨ro, hro⟩ : ∃ ro, on la (evOf x.k x.p x.c) = ro := ⟨_, rfl⟩
          have HN : Hid (runs m false ⟨ro.1, lb, r, put q1 ro.2⟩ = T) := by
            have h9 : step false ⟨la, lb, x :: r, q1⟩ = some (hearA ⟨la, lb, x :: r, q1⟩ x r) := by simp [step]
            have h8 := HU.out
            unfold runs at h8
            rw [h9] at h8
            unfold hearA at h8
            dsimp only at h8
            rw [hro] at h8
            exact h8
          have HO : Hid ro.1.Ok := by show ro.1.Ok; rw [← hro]; exact on_ok HR.out.oa _
          have CH : Hid (∀ w, LkAt w pa la → Calls Try.prog 21 #[ptr pa, .int .u8 x.k, .bool x.p, .bool x.c] w fun e w' => e = .returned (av ro.2) ∧ Does pa ro.1 w w') := Lib.hid fun w h => fHear w pa la x.k x.p x.c HR.out.oa h ro hro
          obtain ⟨rl, ra⟩ := ro
          clear hro HU
          go_wp2_with fail
          have H1 : Hid (TwAt w0 pa pb tb (.slice (some ⟨g, off, none⟩) (z + 1) c0) (.slice o1 n1 c1) ⟨la, lb, x :: r, q1⟩ (wr.alloc (aO x 30)).drew) := Lib.hid (HR.out.tw.on ((nest_below wr [_]).drew))
          have HQ1 : Hid (Qz 5 fcA (wr.alloc (aO x 30)).drew (tb + 1) (.slice (if c0 = 1 then some ⟨g, off, none⟩ else some ⟨g, off + 5, none⟩) z (c0 - 1)) r) := Lib.hid (HQ.out.below ((nest_below wr [_]).drew))
          have hA1 : (wr.alloc (aO x 30)).drew.heap[wr.heap.size]? = some (aO x 30) := nest wr [_] 0 _ rfl
          have HW : Hid (∀ g, Value.ownBlock (.slice o1 n1 c1) = some g → g < wr.heap.size) := Lib.hid fun g hg => (HR.out.tw.h1.lt g hg).2
          obtain ⟨n6, hn6⟩ : ∃ n, n = wr.heap.size := ⟨_, rfl⟩
          rw [← hn6] at hA1 HW
          have hne6 : tb < n6 := by rw [hn6]; exact htb
          simp only [← hn6]
          clear hn6 e0 e1 e2 e3 e4 y0 y1 y2 y3 hgw htb HQ
          generalize hw1 : (wr.alloc (aO x 30)).drew = w1 at H1 HQ1 hA1
          have b2 := cell_of (i := 2) H1.out.blk rfl
          have f2 : ∀ i, w1.frozen? ⟨tb, i, none⟩ = false := H1.out.free
          refine wp_region_held_drew (S := (fun _ => True)) (by kernel_rfl) trivial (fun hHeld => ?_)
          refine' wpAnyH_take (i := 0) (oi := { dst := some 46, op := Go.Op.move (Go.Operand.tmp 0), type := 40, pos := "law.go:94", after := #[], guard := none }) (v := _) rfl (by kernel_rfl) (by kernel_rfl) (by kernel_rfl) (fun _ _ _ h => h) (Or.inl ⟨by rfl, ?hy83⟩) (by assumption) ?hr83
          case hy83 => (intro _ hSw; (try dsimp only at hSw); go_simp <;> with_reducible rfl)
          simp only [Act.put, List.setIfInBounds_toArray, List.set_cons_zero, List.set_cons_succ]
          refine' wpAnyH_take (i := 1) (oi := { dst := some 47, op := Go.Op.move (Go.Operand.tmp 5), type := 3, pos := "law.go:94", after := #[], guard := none }) (v := _) rfl (by kernel_rfl) (by kernel_rfl) (by kernel_rfl) (fun _ _ _ h => h) (Or.inl ⟨by rfl, ?hy84⟩) (by assumption) ?hr84
          case hy84 => (intro _ hSw; (try dsimp only at hSw); go_simp <;> with_reducible rfl)
          simp only [Act.put, List.setIfInBounds_toArray, List.set_cons_zero, List.set_cons_succ]
          refine' wpAnyH_take (i := 2) (oi := { dst := some 48, op := Go.Op.move (Go.Operand.tmp 0), type := 40, pos := "law.go:94", after := #[], guard := none }) (v := _) rfl (by kernel_rfl) (by kernel_rfl) (by kernel_rfl) (fun _ _ _ h => h) (Or.inl ⟨by rfl, ?hy85⟩) (by assumption) ?hr85
          case hy85 => (intro _ hSw; (try dsimp only at hSw); go_simp <;> with_reducible rfl)
          simp only [Act.put, List.setIfInBounds_toArray, List.set_cons_zero, List.set_cons_succ]
          refine' wpAnyH_take (i := 3) (oi := { dst := some 49, op := Go.Op.move (Go.Operand.tmp 5), type := 3, pos := "law.go:94", after := #[], guard := none }) (v := _) rfl (by kernel_rfl) (by kernel_rfl) (by kernel_rfl) (fun _ _ _ h => h) (Or.inl ⟨by rfl, ?hy86⟩) (by assumption) ?hr86
          case hy86 => (intro _ hSw; (try dsimp only at hSw); go_simp <;> with_reducible rfl)
          simp only [Act.put, List.setIfInBounds_toArray, List.set_cons_zero, List.set_cons_succ]
          refine' wpAnyH_take (i := 4) (oi := { dst := some 50, op := Go.Op.nilCheck (Go.Operand.tmp 48), type := 0, pos := "law.go:94", after := #[{ on := 2, ground := Go.Ground.data }], guard := none }) (v := _) rfl (by kernel_rfl) (by kernel_rfl) (by kernel_rfl) (fun _ _ _ h => h) (Or.inl ⟨by rfl, ?hy87⟩) (by assumption) ?hr87
          case hy87 => (intro _ hSw; (try dsimp only at hSw); go_simp <;> with_reducible rfl)
          simp only [Act.put, List.setIfInBounds_toArray, List.set_cons_zero, List.set_cons_succ]
          refine' wpAnyH_take (i := 5) (oi := { dst := some 51, op := Go.Op.fieldAddr 45 (Go.Operand.tmp 50) 1, type := 0, pos := "law.go:94", after := #[{ on := 4, ground := Go.Ground.data }], guard := none }) (v := _) rfl (by kernel_rfl) (by kernel_rfl) (by kernel_rfl) (fun _ _ _ h => h) (Or.inl ⟨by rfl, ?hy88⟩) (by assumption) ?hr88
          case hy88 => (intro _ hSw; (try dsimp only at hSw); go_simp <;> with_reducible rfl)
          simp only [Act.put, List.setIfInBounds_toArray, List.set_cons_zero, List.set_cons_succ]
          refine' wpAnyH_take (i := 6) (oi := { dst := some 52, op := Go.Op.indexAddr 43 (Go.Operand.tmp 51) (Go.Operand.tmp 49), type := 0, pos := "law.go:94", after := #[{ on := 5, ground := Go.Ground.data }, { on := 3, ground := Go.Ground.data }], guard := none }) (v := _) rfl (by kernel_rfl) (by kernel_rfl) (by kernel_rfl) (fun _ _ _ h => h) (Or.inl ⟨by rfl, ?hy89⟩) (by assumption) ?hr89
          case hy89 => (intro _ hSw; (try dsimp only at hSw); go_simp <;> with_reducible rfl)
          simp only [Act.put, List.setIfInBounds_toArray, List.set_cons_zero, List.set_cons_succ]
          refine' wpAnyH_take (i := 9) (oi := { dst := some 55, op := Go.Op.nilCheck (Go.Operand.tmp 46), type := 0, pos := "law.go:94", after := #[{ on := 0, ground := Go.Ground.data }], guard := none }) (v := _) rfl (by kernel_rfl) (by kernel_rfl) (by kernel_rfl) (fun _ _ _ h => h) (Or.inl ⟨by rfl, ?hy90⟩) (by assumption) ?hr90
          case hy90 => (intro _ hSw; (try dsimp only at hSw); go_simp <;> with_reducible rfl)
          simp only [Act.put, List.setIfInBounds_toArray, List.set_cons_zero, List.set_cons_succ]
          refine' wpAnyH_take (i := 10) (oi := { dst := some 56, op := Go.Op.fieldAddr 45 (Go.Operand.tmp 55) 1, type := 0, pos := "law.go:94", after := #[{ on := 9, ground := Go.Ground.data }], guard := none }) (v := _) rfl (by kernel_rfl) (by kernel_rfl) (by kernel_rfl) (fun _ _ _ h => h) (Or.inl ⟨by rfl, ?hy91⟩) (by assumption) ?hr91
          case hy91 => (intro _ hSw; (try dsimp only at hSw); go_simp <;> with_reducible rfl)
          simp only [Act.put, List.setIfInBounds_toArray, List.set_cons_zero, List.set_cons_succ]
          rw [hw1]
          clear hw1
          refine wpAnyH_ready (rs := [7]) (by kernel_rfl) (by simp) ?_
          refine AllReadyH.cons (o := { dst := some 53, op := Go.Op.load 42 (Go.Operand.tmp 52), type := 42, pos := "law.go:94", after := #[{ on := 6, ground := Go.Ground.data }], guard := none }) rfl (fun K hK => ?_) AllReadyH.nil
          go_simp
          refine hK.out _ _ trivial (fun hNext => ?_)
          clear hHeld
          clear hK K
          have hHeld := hNext
          clear hNext
          (try simp only [Act.put, List.setIfInBounds_toArray, List.set_cons_zero, List.set_cons_succ])
          by_cases hc1 : c0 = 1
          · rw [if_pos hc1] at HQ1
            subst hc1
            obtain rfl : z = 0 := by omega
            refine' wpAnyH_take (i := 8) (oi := { dst := some 54, op := Go.Op.slice 42 (Go.Operand.tmp 53) (some (Go.Operand.const (Go.Value.int Go.IntKind.i64 1))) none none, type := 42, pos := "law.go:94", after := #[{ on := 7, ground := Go.Ground.data }], guard := none }) (v := _) rfl (by kernel_rfl) (by kernel_rfl) (by kernel_rfl) (fun _ _ _ h => h) (Or.inl ⟨by rfl, ?hy92⟩) (by assumption) ?hr92
            case hy92 => (intro _ hSw; (try dsimp only at hSw); go_simp <;> with_reducible rfl)
            simp only [Act.put, List.setIfInBounds_toArray, List.set_cons_zero, List.set_cons_succ]
            refine' wpAnyH_take (i := 11) (oi := { dst := some 57, op := Go.Op.indexAddr 43 (Go.Operand.tmp 56) (Go.Operand.tmp 47), type := 0, pos := "law.go:94", after := #[{ on := 10, ground := Go.Ground.data }, { on := 1, ground := Go.Ground.data }, { on := 0, ground := Go.Ground.phase }, { on := 1, ground := Go.Ground.phase }, { on := 2, ground := Go.Ground.phase }, { on := 3, ground := Go.Ground.phase }, { on := 4, ground := Go.Ground.phase }, { on := 5, ground := Go.Ground.phase }, { on := 6, ground := Go.Ground.phase }, { on := 7, ground := Go.Ground.phase }, { on := 8, ground := Go.Ground.phase }], guard := none }) (v := _) rfl (by kernel_rfl) (by kernel_rfl) (by kernel_rfl) (fun _ _ _ h => h) (Or.inl ⟨by rfl, ?hy93⟩) (by assumption) ?hr93
            case hy93 => (intro _ hSw; (try dsimp only at hSw); go_simp <;> with_reducible rfl)
            simp only [Act.put, List.setIfInBounds_toArray, List.set_cons_zero, List.set_cons_succ]
            refine wpAnyH_ready (rs := [12]) (by kernel_rfl) (by simp) ?_
            refine AllReadyH.cons (o := { dst := none, op := Go.Op.store 42 (Go.Operand.tmp 57) (Go.Operand.tmp 54), type := 0, pos := "law.go:94", after := #[{ on := 11, ground := Go.Ground.data }, { on := 8, ground := Go.Ground.data }, { on := 0, ground := Go.Ground.phase }, { on := 1, ground := Go.Ground.phase }, { on := 2, ground := Go.Ground.phase }, { on := 3, ground := Go.Ground.phase }, { on := 4, ground := Go.Ground.phase }, { on := 5, ground := Go.Ground.phase }, { on := 6, ground := Go.Ground.phase }, { on := 7, ground := Go.Ground.phase }, { on := 8, ground := Go.Ground.phase }], guard := none }) rfl (fun K hK => ?_) AllReadyH.nil
            go_simp
            refine hK.out _ _ trivial (fun hNext => ?_)
            clear hNext hHeld
            refine wpAnyH_done (by kernel_rfl) ?_ _
            clear hK K
            have H2 : Hid (TwAt w0 pa pb tb (.slice (some ⟨g, off, none⟩) 0 0) (.slice o1 n1 c1) ⟨la, lb, r, q1⟩ (w1.setCell ⟨tb, 2, none⟩ (.slice (some ⟨g, off, none⟩) 0 0))) := Lib.hid (H1.out.put0 ⟨rfl, rfl, rfl, Nat.le_refl _, fun _ _ _ => rfl⟩ HQ1.out (Or.inl rfl))
            have hA2 : (w1.setCell ⟨tb, 2, none⟩ (.slice (some ⟨g, off, none⟩) 0 0)).heap[n6]? = some (aO x 30) := (set_other (by omega) _).trans hA1
            clear HQ1 H1 hA1 b2 f2
            generalize w1.setCell ⟨tb, 2, none⟩ (.slice (some ⟨g, off, none⟩) 0 0) = w2 at H2 hA2 ⊢
            go_wp2_with fail
            have H3 := Lib.hid H2.out.drew
            have hA3 : w2.drew.heap[n6]? = some (aO x 30) := hA2
            clear H2 hA2
            refine wp_region_held_drew (S := (fun w' => w'.cell? ⟨tb, 0, none⟩ = some (ptr pa) ∧ w'.heap[n6]? = some (aO x 30))) (by kernel_rfl) ⟨cell_of H3.out.blk rfl, hA3⟩ (fun hHeld => ?_)
            refine' wpAnyH_take (i := 0) (oi := { dst := some 58, op := Go.Op.move (Go.Operand.tmp 0), type := 40, pos := "law.go:95", after := #[], guard := none }) (v := _) rfl (by kernel_rfl) (by kernel_rfl) (by kernel_rfl) (fun _ _ _ h => h) (Or.inl ⟨by rfl, ?hy94⟩) (by assumption) ?hr94
            case hy94 => (intro _ hSw; (try dsimp only at hSw); go_simp <;> with_reducible rfl)
            simp only [Act.put, List.setIfInBounds_toArray, List.set_cons_zero, List.set_cons_succ]
            refine' wpAnyH_take (i := 1) (oi := { dst := some 59, op := Go.Op.move (Go.Operand.tmp 5), type := 3, pos := "law.go:95", after := #[], guard := none }) (v := _) rfl (by kernel_rfl) (by kernel_rfl) (by kernel_rfl) (fun _ _ _ h => h) (Or.inl ⟨by rfl, ?hy95⟩) (by assumption) ?hr95
            case hy95 => (intro _ hSw; (try dsimp only at hSw); go_simp <;> with_reducible rfl)
            simp only [Act.put, List.setIfInBounds_toArray, List.set_cons_zero, List.set_cons_succ]
            refine' wpAnyH_take (i := 2) (oi := { dst := some 60, op := Go.Op.move (Go.Operand.tmp 0), type := 40, pos := "law.go:95", after := #[], guard := none }) (v := _) rfl (by kernel_rfl) (by kernel_rfl) (by kernel_rfl) (fun _ _ _ h => h) (Or.inl ⟨by rfl, ?hy96⟩) (by assumption) ?hr96
            case hy96 => (intro _ hSw; (try dsimp only at hSw); go_simp <;> with_reducible rfl)
            simp only [Act.put, List.setIfInBounds_toArray, List.set_cons_zero, List.set_cons_succ]
            refine' wpAnyH_take (i := 3) (oi := { dst := some 61, op := Go.Op.move (Go.Operand.tmp 5), type := 3, pos := "law.go:95", after := #[], guard := none }) (v := _) rfl (by kernel_rfl) (by kernel_rfl) (by kernel_rfl) (fun _ _ _ h => h) (Or.inl ⟨by rfl, ?hy97⟩) (by assumption) ?hr97
            case hy97 => (intro _ hSw; (try dsimp only at hSw); go_simp <;> with_reducible rfl)
            simp only [Act.put, List.setIfInBounds_toArray, List.set_cons_zero, List.set_cons_succ]
            refine' wpAnyH_take (i := 4) (oi := { dst := some 62, op := Go.Op.nilCheck (Go.Operand.tmp 60), type := 0, pos := "law.go:95", after := #[{ on := 2, ground := Go.Ground.data }], guard := none }) (v := _) rfl (by kernel_rfl) (by kernel_rfl) (by kernel_rfl) (fun _ _ _ h => h) (Or.inl ⟨by rfl, ?hy98⟩) (by assumption) ?hr98
            case hy98 => (intro _ hSw; (try dsimp only at hSw); go_simp <;> with_reducible rfl)
            simp only [Act.put, List.setIfInBounds_toArray, List.set_cons_zero, List.set_cons_succ]
            refine' wpAnyH_take (i := 5) (oi := { dst := some 63, op := Go.Op.fieldAddr 45 (Go.Operand.tmp 62) 0, type := 0, pos := "law.go:95", after := #[{ on := 4, ground := Go.Ground.data }], guard := none }) (v := _) rfl (by kernel_rfl) (by kernel_rfl) (by kernel_rfl) (fun _ _ _ h => h) (Or.inl ⟨by rfl, ?hy99⟩) (by assumption) ?hr99
            case hy99 => (intro _ hSw; (try dsimp only at hSw); go_simp <;> with_reducible rfl)
            simp only [Act.put, List.setIfInBounds_toArray, List.set_cons_zero, List.set_cons_succ]
            refine' wpAnyH_take (i := 6) (oi := { dst := some 64, op := Go.Op.indexAddr 41 (Go.Operand.tmp 63) (Go.Operand.tmp 61), type := 0, pos := "law.go:95", after := #[{ on := 5, ground := Go.Ground.data }, { on := 3, ground := Go.Ground.data }], guard := none }) (v := _) rfl (by kernel_rfl) (by kernel_rfl) (by kernel_rfl) (fun _ _ _ h => h) (Or.inl ⟨by rfl, ?hy100⟩) (by assumption) ?hr100
            case hy100 => (intro _ hSw; (try dsimp only at hSw); go_simp <;> with_reducible rfl)
            simp only [Act.put, List.setIfInBounds_toArray, List.set_cons_zero, List.set_cons_succ]
            refine' wpAnyH_take (i := 7) (oi := { dst := some 65, op := Go.Op.load 24 (Go.Operand.tmp 64), type := 24, pos := "law.go:95", after := #[{ on := 6, ground := Go.Ground.data }], guard := none }) (v := _) rfl (by kernel_rfl) (by kernel_rfl) (by kernel_rfl) (fun _ _ _ h => h) (Or.inl ⟨by rfl, ?hy101⟩) (by assumption) ?hr101
            case hy101 => (intro _ hSw; (try dsimp only at hSw); have hc := hSw.1; go_simp <;> with_reducible rfl)
            simp only [Act.put, List.setIfInBounds_toArray, List.set_cons_zero, List.set_cons_succ]
            refine' wpAnyH_take (i := 8) (oi := { dst := some 66, op := Go.Op.fieldAddr 30 (Go.Operand.tmp 6) 0, type := 0, pos := "law.go:95", after := #[], guard := none }) (v := _) rfl (by kernel_rfl) (by kernel_rfl) (by kernel_rfl) (fun _ _ _ h => h) (Or.inl ⟨by rfl, ?hy102⟩) (by assumption) ?hr102
            case hy102 => (intro _ hSw; (try dsimp only at hSw); go_simp <;> with_reducible rfl)
            simp only [Act.put, List.setIfInBounds_toArray, List.set_cons_zero, List.set_cons_succ]
            refine' wpAnyH_take (i := 9) (oi := { dst := some 67, op := Go.Op.load 5 (Go.Operand.tmp 66), type := 5, pos := "law.go:95", after := #[{ on := 8, ground := Go.Ground.data }], guard := none }) (v := _) rfl (by kernel_rfl) (by kernel_rfl) (by kernel_rfl) (fun _ _ _ h => h) (Or.inl ⟨by rfl, ?hy103⟩) (by assumption) ?hr103
            case hy103 => (intro _ hSw; (try dsimp only at hSw); obtain ⟨⟨x0, x1, x2, x3, x4⟩, -⟩ := cells5 hSw.2; go_simp <;> with_reducible rfl)
            simp only [Act.put, List.setIfInBounds_toArray, List.set_cons_zero, List.set_cons_succ]
            refine' wpAnyH_take (i := 10) (oi := { dst := some 68, op := Go.Op.fieldAddr 30 (Go.Operand.tmp 6) 2, type := 0, pos := "law.go:95", after := #[], guard := none }) (v := _) rfl (by kernel_rfl) (by kernel_rfl) (by kernel_rfl) (fun _ _ _ h => h) (Or.inl ⟨by rfl, ?hy104⟩) (by assumption) ?hr104
            case hy104 => (intro _ hSw; (try dsimp only at hSw); go_simp <;> with_reducible rfl)
            simp only [Act.put, List.setIfInBounds_toArray, List.set_cons_zero, List.set_cons_succ]
            refine' wpAnyH_take (i := 11) (oi := { dst := some 69, op := Go.Op.load 4 (Go.Operand.tmp 68), type := 4, pos := "law.go:95", after := #[{ on := 10, ground := Go.Ground.data }], guard := none }) (v := _) rfl (by kernel_rfl) (by kernel_rfl) (by kernel_rfl) (fun _ _ _ h => h) (Or.inl ⟨by rfl, ?hy105⟩) (by assumption) ?hr105
            case hy105 => (intro _ hSw; (try dsimp only at hSw); obtain ⟨⟨x0, x1, x2, x3, x4⟩, -⟩ := cells5 hSw.2; go_simp <;> with_reducible rfl)
            simp only [Act.put, List.setIfInBounds_toArray, List.set_cons_zero, List.set_cons_succ]
            refine' wpAnyH_take (i := 12) (oi := { dst := some 70, op := Go.Op.fieldAddr 30 (Go.Operand.tmp 6) 1, type := 0, pos := "law.go:95", after := #[], guard := none }) (v := _) rfl (by kernel_rfl) (by kernel_rfl) (by kernel_rfl) (fun _ _ _ h => h) (Or.inl ⟨by rfl, ?hy106⟩) (by assumption) ?hr106
            case hy106 => (intro _ hSw; (try dsimp only at hSw); go_simp <;> with_reducible rfl)
            simp only [Act.put, List.setIfInBounds_toArray, List.set_cons_zero, List.set_cons_succ]
            refine' wpAnyH_take (i := 13) (oi := { dst := some 71, op := Go.Op.load 4 (Go.Operand.tmp 70), type := 4, pos := "law.go:95", after := #[{ on := 12, ground := Go.Ground.data }], guard := none }) (v := _) rfl (by kernel_rfl) (by kernel_rfl) (by kernel_rfl) (fun _ _ _ h => h) (Or.inl ⟨by rfl, ?hy107⟩) (by assumption) ?hr107
            case hy107 => (intro _ hSw; (try dsimp only at hSw); obtain ⟨⟨x0, x1, x2, x3, x4⟩, -⟩ := cells5 hSw.2; go_simp <;> with_reducible rfl)
            simp only [Act.put, List.setIfInBounds_toArray, List.set_cons_zero, List.set_cons_succ]
            refine wpAnyH_ready (rs := [14]) (by kernel_rfl) (by simp) ?_
            refine AllReadyH.cons (o := { dst := some 72, op := Go.Op.call { callee := Go.Callee.value (Go.Operand.func 21), args := #[Go.Operand.tmp 65, Go.Operand.tmp 67, Go.Operand.tmp 69, Go.Operand.tmp 71], argTypes := #[24, 5, 4, 4] }, type := 30, pos := "law.go:95", after := #[{ on := 7, ground := Go.Ground.data }, { on := 9, ground := Go.Ground.data }, { on := 11, ground := Go.Ground.data }, { on := 13, ground := Go.Ground.data }], guard := none }) rfl (fun K hK => ?_) AllReadyH.nil
            go_simp
            refine (CH.out _ H3.out.la).mono ?_
            rintro _ w4 ⟨rfl, hd⟩
            have H4 := Lib.hid (H3.out.doA hd)
            have hA4 : w4.heap[n6]? = some (aO x 30) := hd.chg.stays hA3 (by have := H3.out.ab; have := H3.out.bt; omega)
            clear hd H3 hA3 CH
            go_wp2_with fail
            refine hK.out _ _ ⟨cell_of H4.out.blk rfl, hA4⟩ (fun hNext => ?_)
            clear hHeld
            clear hK K
            have hHeld := hNext
            clear hNext
            (try simp only [Act.put, List.setIfInBounds_toArray, List.set_cons_zero, List.set_cons_succ])
            refine wpAnyH_ready (rs := [15]) (by kernel_rfl) (by simp) ?_
            refine AllReadyH.cons (o := { dst := some 73, op := Go.Op.call { callee := Go.Callee.value (Go.Operand.func 17), args := #[Go.Operand.tmp 58, Go.Operand.tmp 59, Go.Operand.tmp 72], argTypes := #[40, 3, 30] }, type := 0, pos := "law.go:95", after := #[{ on := 0, ground := Go.Ground.data }, { on := 1, ground := Go.Ground.data }, { on := 14, ground := Go.Ground.data }, { on := 14, ground := Go.Ground.chain }], guard := none }) rfl (fun K hK => ?_) AllReadyH.nil
            go_simp
            have L0 := HR.out.l0
            have L1 := HR.out.l1
            have LF := HR.out.few
            dsimp only at L0 L1
            by_cases hk0 : ra.k = 0
            · refine (fsaid0_no _ _ ra hk0).mono ?_
              rintro _ w5 ⟨rfl, hb5⟩
              have H5 := Lib.hid (H4.out.on hb5)
              have hA5 := stays hA4 hb5
              have hp : put q1 ra = q1 := if_pos hk0
              rw [hp] at HN
              have hlen : r.length + (q1 : List Ac).length ≤ 1000 := by have := HZ.out; omega
              have HF : Hid (∃ a0 a1 a2 a3 a4 a5, Rn w0 pa pb tb a0 a1 a2 a3 a4 a5 ⟨rl, lb, r, q1⟩ w5) := Rn.of H5.out HO.out HR.out.ob hlen
              have HG : Hid (runs (100 - (k + 1)) false ⟨rl, lb, r, q1⟩ = T) := by show _ = _; rw [HM.out]; exact HN.out
              go_wp2_with fail
              refine hK.out _ _ ⟨cell_of H5.out.blk rfl, hA5⟩ (fun hNext => ?_)
              clear hNext hHeld hK K
              refine wpAnyH_done (by kernel_rfl) ?_ _
              clear hb5 hA5 hA4 H4 H5 hp hlen HN HM HR HO HW L0 L1 LF HZ
              go_wp2
              go_roundg (100 - (k + 1))
              case measure => omega
              case rel => exact ⟨k + 1, _, by first | rfl | go_num, Nat.le_refl _, by omega, HF, HG⟩
            · refine (fsaid0 w0 _ pa pb tb _ _ _ ra hk0 (by dsimp only; omega) H4.out).mono ?_
              rintro _ w5 ⟨rfl, u, hu, hc⟩
              have H5 := Lib.hid hu
              have hA5 : w5.heap[n6]? = some (aO x 30) := hc.stays hA4 (fun e => by
                rcases e with e | e
                · omega
                · have := HW.out n6 e; omega)
              have hp : put q1 ra = q1 ++ [ra] := if_neg hk0
              rw [hp] at HN
              have hlen : r.length + (q1 ++ [ra]).length ≤ 1000 := by have := HZ.out; rw [List.length_append, List.length_singleton]; omega
              have HF : Hid (∃ a0 a1 a2 a3 a4 a5, Rn w0 pa pb tb a0 a1 a2 a3 a4 a5 ⟨rl, lb, r, q1 ++ [ra]⟩ w5) := Rn.of H5.out HO.out HR.out.ob hlen
              have HG : Hid (runs (100 - (k + 1)) false ⟨rl, lb, r, q1 ++ [ra]⟩ = T) := by show _ = _; rw [HM.out]; exact HN.out
              go_wp2_with fail
              refine hK.out _ _ ⟨cell_of H5.out.blk rfl, hA5⟩ (fun hNext => ?_)
              clear hNext hHeld hK K
              refine wpAnyH_done (by kernel_rfl) ?_ _
              clear hu hc hA5 hA4 H4 H5 hp hlen HN HM HR HO HW L0 L1 LF HZ
              go_wp2
              go_roundg (100 - (k + 1))
              case measure => omega
              case rel => exact ⟨k + 1, _, by first | rfl | go_num, Nat.le_refl _, by omega, HF, HG⟩
          rw [if_neg hc1] at HQ1
          refine' wpAnyH_take (i := 8) (oi := { dst := some 54, op := Go.Op.slice 42 (Go.Operand.tmp 53) (some (Go.Operand.const (Go.Value.int Go.IntKind.i64 1))) none none, type := 42, pos := "law.go:94", after := #[{ on := 7, ground := Go.Ground.data }], guard := none }) (v := _) rfl (by kernel_rfl) (by kernel_rfl) (by kernel_rfl) (fun _ _ _ h => h) (Or.inl ⟨by rfl, ?hy108⟩) (by assumption) ?hr108
          case hy108 => (intro _ hSw; (try dsimp only at hSw); go_simp <;> with_reducible rfl)
          simp only [Act.put, List.setIfInBounds_toArray, List.set_cons_zero, List.set_cons_succ]
          refine' wpAnyH_take (i := 11) (oi := { dst := some 57, op := Go.Op.indexAddr 43 (Go.Operand.tmp 56) (Go.Operand.tmp 47), type := 0, pos := "law.go:94", after := #[{ on := 10, ground := Go.Ground.data }, { on := 1, ground := Go.Ground.data }, { on := 0, ground := Go.Ground.phase }, { on := 1, ground := Go.Ground.phase }, { on := 2, ground := Go.Ground.phase }, { on := 3, ground := Go.Ground.phase }, { on := 4, ground := Go.Ground.phase }, { on := 5, ground := Go.Ground.phase }, { on := 6, ground := Go.Ground.phase }, { on := 7, ground := Go.Ground.phase }, { on := 8, ground := Go.Ground.phase }], guard := none }) (v := _) rfl (by kernel_rfl) (by kernel_rfl) (by kernel_rfl) (fun _ _ _ h => h) (Or.inl ⟨by rfl, ?hy109⟩) (by assumption) ?hr109
          case hy109 => (intro _ hSw; (try dsimp only at hSw); go_simp <;> with_reducible rfl)
          simp only [Act.put, List.setIfInBounds_toArray, List.set_cons_zero, List.set_cons_succ]
          refine wpAnyH_ready (rs := [12]) (by kernel_rfl) (by simp) ?_
          refine AllReadyH.cons (o := { dst := none, op := Go.Op.store 42 (Go.Operand.tmp 57) (Go.Operand.tmp 54), type := 0, pos := "law.go:94", after := #[{ on := 11, ground := Go.Ground.data }, { on := 8, ground := Go.Ground.data }, { on := 0, ground := Go.Ground.phase }, { on := 1, ground := Go.Ground.phase }, { on := 2, ground := Go.Ground.phase }, { on := 3, ground := Go.Ground.phase }, { on := 4, ground := Go.Ground.phase }, { on := 5, ground := Go.Ground.phase }, { on := 6, ground := Go.Ground.phase }, { on := 7, ground := Go.Ground.phase }, { on := 8, ground := Go.Ground.phase }], guard := none }) rfl (fun K hK => ?_) AllReadyH.nil
          go_simp
          refine hK.out _ _ trivial (fun hNext => ?_)
          clear hNext hHeld
          refine wpAnyH_done (by kernel_rfl) ?_ _
          clear hK K
          have H2 : Hid (TwAt w0 pa pb tb (.slice (some ⟨g, off + 5, none⟩) z (c0 - 1)) (.slice o1 n1 c1) ⟨la, lb, r, q1⟩ (w1.setCell ⟨tb, 2, none⟩ (.slice (some ⟨g, off + 5, none⟩) z (c0 - 1)))) := Lib.hid (H1.out.put0 ⟨rfl, rfl, rfl, Nat.le_refl _, fun _ _ _ => rfl⟩ HQ1.out (Or.inl rfl))
          have hA2 : (w1.setCell ⟨tb, 2, none⟩ (.slice (some ⟨g, off + 5, none⟩) z (c0 - 1))).heap[n6]? = some (aO x 30) := (set_other (by omega) _).trans hA1
          clear HQ1 H1 hA1 b2 f2
          generalize w1.setCell ⟨tb, 2, none⟩ (.slice (some ⟨g, off + 5, none⟩) z (c0 - 1)) = w2 at H2 hA2 ⊢
          go_wp2_with fail
          have H3 := Lib.hid H2.out.drew
          have hA3 : w2.drew.heap[n6]? = some (aO x 30) := hA2
          clear H2 hA2
          refine wp_region_held_drew (S := (fun w' => w'.cell? ⟨tb, 0, none⟩ = some (ptr pa) ∧ w'.heap[n6]? = some (aO x 30))) (by kernel_rfl) ⟨cell_of H3.out.blk rfl, hA3⟩ (fun hHeld => ?_)
          refine' wpAnyH_take (i := 0) (oi := { dst := some 58, op := Go.Op.move (Go.Operand.tmp 0), type := 40, pos := "law.go:95", after := #[], guard := none }) (v := _) rfl (by kernel_rfl) (by kernel_rfl) (by kernel_rfl) (fun _ _ _ h => h) (Or.inl ⟨by rfl, ?hy110⟩) (by assumption) ?hr110
          case hy110 => (intro _ hSw; (try dsimp only at hSw); go_simp <;> with_reducible rfl)
          simp only [Act.put, List.setIfInBounds_toArray, List.set_cons_zero, List.set_cons_succ]
          refine' wpAnyH_take (i := 1) (oi := { dst := some 59, op := Go.Op.move (Go.Operand.tmp 5), type := 3, pos := "law.go:95", after := #[], guard := none }) (v := _) rfl (by kernel_rfl) (by kernel_rfl) (by kernel_rfl) (fun _ _ _ h => h) (Or.inl ⟨by rfl, ?hy111⟩) (by assumption) ?hr111
          case hy111 => (intro _ hSw; (try dsimp only at hSw); go_simp <;> with_reducible rfl)
          simp only [Act.put, List.setIfInBounds_toArray, List.set_cons_zero, List.set_cons_succ]
          refine' wpAnyH_take (i := 2) (oi := { dst := some 60, op := Go.Op.move (Go.Operand.tmp 0), type := 40, pos := "law.go:95", after := #[], guard := none }) (v := _) rfl (by kernel_rfl) (by kernel_rfl) (by kernel_rfl) (fun _ _ _ h => h) (Or.inl ⟨by rfl, ?hy112⟩) (by assumption) ?hr112
          case hy112 => (intro _ hSw; (try dsimp only at hSw); go_simp <;> with_reducible rfl)
          simp only [Act.put, List.setIfInBounds_toArray, List.set_cons_zero, List.set_cons_succ]
          refine' wpAnyH_take (i := 3) (oi := { dst := some 61, op := Go.Op.move (Go.Operand.tmp 5), type := 3, pos := "law.go:95", after := #[], guard := none }) (v := _) rfl (by kernel_rfl) (by kernel_rfl) (by kernel_rfl) (fun _ _ _ h => h) (Or.inl ⟨by rfl, ?hy113⟩) (by assumption) ?hr113
          case hy113 => (intro _ hSw; (try dsimp only at hSw); go_simp <;> with_reducible rfl)
          simp only [Act.put, List.setIfInBounds_toArray, List.set_cons_zero, List.set_cons_succ]
          refine' wpAnyH_take (i := 4) (oi := { dst := some 62, op := Go.Op.nilCheck (Go.Operand.tmp 60), type := 0, pos := "law.go:95", after := #[{ on := 2, ground := Go.Ground.data }], guard := none }) (v := _) rfl (by kernel_rfl) (by kernel_rfl) (by kernel_rfl) (fun _ _ _ h => h) (Or.inl ⟨by rfl, ?hy114⟩) (by assumption) ?hr114
          case hy114 => (intro _ hSw; (try dsimp only at hSw); go_simp <;> with_reducible rfl)
          simp only [Act.put, List.setIfInBounds_toArray, List.set_cons_zero, List.set_cons_succ]
          refine' wpAnyH_take (i := 5) (oi := { dst := some 63, op := Go.Op.fieldAddr 45 (Go.Operand.tmp 62) 0, type := 0, pos := "law.go:95", after := #[{ on := 4, ground := Go.Ground.data }], guard := none }) (v := _) rfl (by kernel_rfl) (by kernel_rfl) (by kernel_rfl) (fun _ _ _ h => h) (Or.inl ⟨by rfl, ?hy115⟩) (by assumption) ?hr115
          case hy115 => (intro _ hSw; (try dsimp only at hSw); go_simp <;> with_reducible rfl)
          simp only [Act.put, List.setIfInBounds_toArray, List.set_cons_zero, List.set_cons_succ]
          refine' wpAnyH_take (i := 6) (oi := { dst := some 64, op := Go.Op.indexAddr 41 (Go.Operand.tmp 63) (Go.Operand.tmp 61), type := 0, pos := "law.go:95", after := #[{ on := 5, ground := Go.Ground.data }, { on := 3, ground := Go.Ground.data }], guard := none }) (v := _) rfl (by kernel_rfl) (by kernel_rfl) (by kernel_rfl) (fun _ _ _ h => h) (Or.inl ⟨by rfl, ?hy116⟩) (by assumption) ?hr116
          case hy116 => (intro _ hSw; (try dsimp only at hSw); go_simp <;> with_reducible rfl)
          simp only [Act.put, List.setIfInBounds_toArray, List.set_cons_zero, List.set_cons_succ]
          refine' wpAnyH_take (i := 7) (oi := { dst := some 65, op := Go.Op.load 24 (Go.Operand.tmp 64), type := 24, pos := "law.go:95", after := #[{ on := 6, ground := Go.Ground.data }], guard := none }) (v := _) rfl (by kernel_rfl) (by kernel_rfl) (by kernel_rfl) (fun _ _ _ h => h) (Or.inl ⟨by rfl, ?hy117⟩) (by assumption) ?hr117
          case hy117 => (intro _ hSw; (try dsimp only at hSw); have hc := hSw.1; go_simp <;> with_reducible rfl)
          simp only [Act.put, List.setIfInBounds_toArray, List.set_cons_zero, List.set_cons_succ]
          refine' wpAnyH_take (i := 8) (oi := { dst := some 66, op := Go.Op.fieldAddr 30 (Go.Operand.tmp 6) 0, type := 0, pos := "law.go:95", after := #[], guard := none }) (v := _) rfl (by kernel_rfl) (by kernel_rfl) (by kernel_rfl) (fun _ _ _ h => h) (Or.inl ⟨by rfl, ?hy118⟩) (by assumption) ?hr118
          case hy118 => (intro _ hSw; (try dsimp only at hSw); go_simp <;> with_reducible rfl)
          simp only [Act.put, List.setIfInBounds_toArray, List.set_cons_zero, List.set_cons_succ]
          refine' wpAnyH_take (i := 9) (oi := { dst := some 67, op := Go.Op.load 5 (Go.Operand.tmp 66), type := 5, pos := "law.go:95", after := #[{ on := 8, ground := Go.Ground.data }], guard := none }) (v := _) rfl (by kernel_rfl) (by kernel_rfl) (by kernel_rfl) (fun _ _ _ h => h) (Or.inl ⟨by rfl, ?hy119⟩) (by assumption) ?hr119
          case hy119 => (intro _ hSw; (try dsimp only at hSw); obtain ⟨⟨x0, x1, x2, x3, x4⟩, -⟩ := cells5 hSw.2; go_simp <;> with_reducible rfl)
          simp only [Act.put, List.setIfInBounds_toArray, List.set_cons_zero, List.set_cons_succ]
          refine' wpAnyH_take (i := 10) (oi := { dst := some 68, op := Go.Op.fieldAddr 30 (Go.Operand.tmp 6) 2, type := 0, pos := "law.go:95", after := #[], guard := none }) (v := _) rfl (by kernel_rfl) (by kernel_rfl) (by kernel_rfl) (fun _ _ _ h => h) (Or.inl ⟨by rfl, ?hy120⟩) (by assumption) ?hr120
          case hy120 => (intro _ hSw; (try dsimp only at hSw); go_simp <;> with_reducible rfl)
          simp only [Act.put, List.setIfInBounds_toArray, List.set_cons_zero, List.set_cons_succ]
          refine' wpAnyH_take (i := 11) (oi := { dst := some 69, op := Go.Op.load 4 (Go.Operand.tmp 68), type := 4, pos := "law.go:95", after := #[{ on := 10, ground := Go.Ground.data }], guard := none }) (v := _) rfl (by kernel_rfl) (by kernel_rfl) (by kernel_rfl) (fun _ _ _ h => h) (Or.inl ⟨by rfl, ?hy121⟩) (by assumption) ?hr121
          case hy121 => (intro _ hSw; (try dsimp only at hSw); obtain ⟨⟨x0, x1, x2, x3, x4⟩, -⟩ := cells5 hSw.2; go_simp <;> with_reducible rfl)
          simp only [Act.put, List.setIfInBounds_toArray, List.set_cons_zero, List.set_cons_succ]
          refine' wpAnyH_take (i := 12) (oi := { dst := some 70, op := Go.Op.fieldAddr 30 (Go.Operand.tmp 6) 1, type := 0, pos := "law.go:95", after := #[], guard := none }) (v := _) rfl (by kernel_rfl) (by kernel_rfl) (by kernel_rfl) (fun _ _ _ h => h) (Or.inl ⟨by rfl, ?hy122⟩) (by assumption) ?hr122
          case hy122 => (intro _ hSw; (try dsimp only at hSw); go_simp <;> with_reducible rfl)
          simp only [Act.put, List.setIfInBounds_toArray, List.set_cons_zero, List.set_cons_succ]
          refine' wpAnyH_take (i := 13) (oi := { dst := some 71, op := Go.Op.load 4 (Go.Operand.tmp 70), type := 4, pos := "law.go:95", after := #[{ on := 12, ground := Go.Ground.data }], guard := none }) (v := _) rfl (by kernel_rfl) (by kernel_rfl) (by kernel_rfl) (fun _ _ _ h => h) (Or.inl ⟨by rfl, ?hy123⟩) (by assumption) ?hr123
          case hy123 => (intro _ hSw; (try dsimp only at hSw); obtain ⟨⟨x0, x1, x2, x3, x4⟩, -⟩ := cells5 hSw.2; go_simp <;> with_reducible rfl)
          simp only [Act.put, List.setIfInBounds_toArray, List.set_cons_zero, List.set_cons_succ]
          refine wpAnyH_ready (rs := [14]) (by kernel_rfl) (by simp) ?_
          refine AllReadyH.cons (o := { dst := some 72, op := Go.Op.call { callee := Go.Callee.value (Go.Operand.func 21), args := #[Go.Operand.tmp 65, Go.Operand.tmp 67, Go.Operand.tmp 69, Go.Operand.tmp 71], argTypes := #[24, 5, 4, 4] }, type := 30, pos := "law.go:95", after := #[{ on := 7, ground := Go.Ground.data }, { on := 9, ground := Go.Ground.data }, { on := 11, ground := Go.Ground.data }, { on := 13, ground := Go.Ground.data }], guard := none }) rfl (fun K hK => ?_) AllReadyH.nil
          go_simp
          refine (CH.out _ H3.out.la).mono ?_
          rintro _ w4 ⟨rfl, hd⟩
          have H4 := Lib.hid (H3.out.doA hd)
          have hA4 : w4.heap[n6]? = some (aO x 30) := hd.chg.stays hA3 (by have := H3.out.ab; have := H3.out.bt; omega)
          clear hd H3 hA3 CH
          go_wp2_with fail
          refine hK.out _ _ ⟨cell_of H4.out.blk rfl, hA4⟩ (fun hNext => ?_)
          clear hHeld
          clear hK K
          have hHeld := hNext
          clear hNext
          (try simp only [Act.put, List.setIfInBounds_toArray, List.set_cons_zero, List.set_cons_succ])
          refine wpAnyH_ready (rs := [15]) (by kernel_rfl) (by simp) ?_
          refine AllReadyH.cons (o := { dst := some 73, op := Go.Op.call { callee := Go.Callee.value (Go.Operand.func 17), args := #[Go.Operand.tmp 58, Go.Operand.tmp 59, Go.Operand.tmp 72], argTypes := #[40, 3, 30] }, type := 0, pos := "law.go:95", after := #[{ on := 0, ground := Go.Ground.data }, { on := 1, ground := Go.Ground.data }, { on := 14, ground := Go.Ground.data }, { on := 14, ground := Go.Ground.chain }], guard := none }) rfl (fun K hK => ?_) AllReadyH.nil
          go_simp
          have L0 := HR.out.l0
          have L1 := HR.out.l1
          have LF := HR.out.few
          dsimp only at L0 L1
          by_cases hk0 : ra.k = 0
          · refine (fsaid0_no _ _ ra hk0).mono ?_
            rintro _ w5 ⟨rfl, hb5⟩
            have H5 := Lib.hid (H4.out.on hb5)
            have hA5 := stays hA4 hb5
            have hp : put q1 ra = q1 := if_pos hk0
            rw [hp] at HN
            have hlen : r.length + (q1 : List Ac).length ≤ 1000 := by have := HZ.out; omega
            have HF : Hid (∃ a0 a1 a2 a3 a4 a5, Rn w0 pa pb tb a0 a1 a2 a3 a4 a5 ⟨rl, lb, r, q1⟩ w5) := Rn.of H5.out HO.out HR.out.ob hlen
            have HG : Hid (runs (100 - (k + 1)) false ⟨rl, lb, r, q1⟩ = T) := by show _ = _; rw [HM.out]; exact HN.out
            go_wp2_with fail
            refine hK.out _ _ ⟨cell_of H5.out.blk rfl, hA5⟩ (fun hNext => ?_)
            clear hNext hHeld hK K
            refine wpAnyH_done (by kernel_rfl) ?_ _
            clear hb5 hA5 hA4 H4 H5 hp hlen HN HM HR HO HW L0 L1 LF HZ
            go_wp2
            go_roundg (100 - (k + 1))
            case measure => omega
            case rel => exact ⟨k + 1, _, by first | rfl | go_num, Nat.le_refl _, by omega, HF, HG⟩
          · refine (fsaid0 w0 _ pa pb tb _ _ _ ra hk0 (by dsimp only; omega) H4.out).mono ?_
            rintro _ w5 ⟨rfl, u, hu, hc⟩
            have H5 := Lib.hid hu
            have hA5 : w5.heap[n6]? = some (aO x 30) := hc.stays hA4 (fun e => by
              rcases e with e | e
              · omega
              · have := HW.out n6 e; omega)
            have hp : put q1 ra = q1 ++ [ra] := if_neg hk0
            rw [hp] at HN
            have hlen : r.length + (q1 ++ [ra]).length ≤ 1000 := by have := HZ.out; rw [List.length_append, List.length_singleton]; omega
            have HF : Hid (∃ a0 a1 a2 a3 a4 a5, Rn w0 pa pb tb a0 a1 a2 a3 a4 a5 ⟨rl, lb, r, q1 ++ [ra]⟩ w5) := Rn.of H5.out HO.out HR.out.ob hlen
            have HG : Hid (runs (100 - (k + 1)) false ⟨rl, lb, r, q1 ++ [ra]⟩ = T) := by show _ = _; rw [HM.out]; exact HN.out
            go_wp2_with fail
            refine hK.out _ _ ⟨cell_of H5.out.blk rfl, hA5⟩ (fun hNext => ?_)
            clear hNext hHeld hK K
            refine wpAnyH_done (by kernel_rfl) ?_ _
            clear hu hc hA5 hA4 H4 H5 hp hlen HN HM HR HO HW L0 L1 LF HZ
            go_wp2
            go_roundg (100 - (k + 1))
            case measure => omega
            case rel => exact ⟨k + 1, _, by first | rfl | go_num, Nat.le_refl _, by omega, HF, HG⟩
        | nil =>
          cases q1 with
          | cons x r =>
            have hn0 : n0 = 0 := by rw [← L0]; rfl
            subst hn0
            obtain ⟨g, off, ho, hn, hcap, hmax, hbg, hgw, ⟨e0, e1, e2, e3, e4⟩, hq⟩ := qz_cons HR.out.tw.h1
            subst ho
            obtain ⟨z, hz⟩ : ∃ z, r.length = z := ⟨_, rfl⟩
            rw [hz] at hn hq
            subst hn
            have HZ := Lib.hid hz
            have HQ := Lib.hid hq
            have z0 : ((z + 1 : Nat) : Int) = (z : Int) + 1 := by omega
            have z1 : ¬ (z : Int) + 1 = 0 := by omega
            have z2 : decide ((0 : Int) < (z : Int) + 1) = true := decide_eq_true (by omega)
            have z3 : (((z : Int) + 1) == 0) = false := beq_false (by omega)
            have z4 : (0 : Int) < (z : Int) + 1 := by omega
            have z5 : (1 : Int) ≤ (z : Int) + 1 := by omega
            have htb := lt_heap HR.out.tw.blk
            clear hz hq L0 L1
            obtain ⟨ro, hro⟩ : ∃ ro, on lb (evOf x.k x.p x.c) = ro := ⟨_, rfl⟩
            have HN : Hid (runs m false ⟨la, ro.1, put [] ro.2, r⟩ = T) := by
              have h9 : step false ⟨la, lb, [], x :: r⟩ = some (hearB ⟨la, lb, [], x :: r⟩ x r) := by simp [step]
              have h8 := HU.out
              unfold runs at h8
              rw [h9] at h8
              unfold hearB at h8
              dsimp only at h8
              rw [hro] at h8
              exact h8
            have HO : Hid ro.1.Ok := by show ro.1.Ok; rw [← hro]; exact on_ok HR.out.ob _
            have CH : Hid (∀ w, LkAt w pb lb → Calls Try.prog 21 #[ptr pb, .int .u8 x.k, .bool x.p, .bool x.c] w fun e w' => e = .returned (av ro.2) ∧ Does pb ro.1 w w') := Lib.hid fun w h => fHear w pb lb x.k x.p x.c HR.out.ob h ro hro
            obtain ⟨rl, ra⟩ := ro
            clear hro HU
            go_wp2_with fail
            have H1 : Hid (TwAt w0 pa pb tb (.slice o0 0 c0) (.slice (some ⟨g, off, none⟩) (z + 1) c1) ⟨la, lb, [], x :: r⟩ (wr.alloc (aO x 30)).drew) := Lib.hid (HR.out.tw.on ((nest_below wr [_]).drew))
            have HQ1 : Hid (Qz 5 fcA (wr.alloc (aO x 30)).drew (tb + 1) (.slice (if c1 = 1 then some ⟨g, off, none⟩ else some ⟨g, off + 5, none⟩) z (c1 - 1)) r) := Lib.hid (HQ.out.below ((nest_below wr [_]).drew))
            have hA1 : (wr.alloc (aO x 30)).drew.heap[wr.heap.size]? = some (aO x 30) := nest wr [_] 0 _ rfl
            have HW : Hid (∀ g, Value.ownBlock (.slice o0 0 c0) = some g → g < wr.heap.size) := Lib.hid fun g hg => (HR.out.tw.h0.lt g hg).2
            obtain ⟨n6, hn6⟩ : ∃ n, n = wr.heap.size := ⟨_, rfl⟩
            rw [← hn6] at hA1 HW
            have hne6 : tb < n6 := by rw [hn6]; exact htb
            simp only [← hn6]
            clear hn6 e0 e1 e2 e3 e4 y0 y1 y2 y3 hgw htb HQ
            generalize hw1 : (wr.alloc (aO x 30)).drew = w1 at H1 HQ1 hA1
            have b2 := cell_of (i := 3) H1.out.blk rfl
            have f2 : ∀ i, w1.frozen? ⟨tb, i, none⟩ = false := H1.out.free
            refine wp_region_held_drew (S := (fun _ => True)) (by kernel_rfl) trivial (fun hHeld => ?_)
            refine' wpAnyH_take (i := 0) (oi := { dst := some 46, op := Go.Op.move (Go.Operand.tmp 0), type := 40, pos := "law.go:94", after := #[], guard := none }) (v := _) rfl (by kernel_rfl) (by kernel_rfl) (by kernel_rfl) (fun _ _ _ h => h) (Or.inl ⟨by rfl, ?hy124⟩) (by assumption) ?hr124
            case hy124 => (intro _ hSw; (try dsimp only at hSw); go_simp <;> with_reducible rfl)
            simp only [Act.put, List.setIfInBounds_toArray, List.set_cons_zero, List.set_cons_succ]
            refine' wpAnyH_take (i := 1) (oi := { dst := some 47, op := Go.Op.move (Go.Operand.tmp 5), type := 3, pos := "law.go:94", after := #[], guard := none }) (v := _) rfl (by kernel_rfl) (by kernel_rfl) (by kernel_rfl) (fun _ _ _ h => h) (Or.inl ⟨by rfl, ?hy125⟩) (by assumption) ?hr125
            case hy125 => (intro _ hSw; (try dsimp only at hSw); go_simp <;> with_reducible rfl)
            simp only [Act.put, List.setIfInBounds_toArray, List.set_cons_zero, List.set_cons_succ]
            refine' wpAnyH_take (i := 2) (oi := { dst := some 48, op := Go.Op.move (Go.Operand.tmp 0), type := 40, pos := "law.go:94", after := #[], guard := none }) (v := _) rfl (by kernel_rfl) (by kernel_rfl) (by kernel_rfl) (fun _ _ _ h => h) (Or.inl ⟨by rfl, ?hy126⟩) (by assumption) ?hr126
            case hy126 => (intro _ hSw; (try dsimp only at hSw); go_simp <;> with_reducible rfl)
            simp only [Act.put, List.setIfInBounds_toArray, List.set_cons_zero, List.set_cons_succ]
            refine' wpAnyH_take (i := 3) (oi := { dst := some 49, op := Go.Op.move (Go.Operand.tmp 5), type := 3, pos := "law.go:94", after := #[], guard := none }) (v := _) rfl (by kernel_rfl) (by kernel_rfl) (by kernel_rfl) (fun _ _ _ h => h) (Or.inl ⟨by rfl, ?hy127⟩) (by assumption) ?hr127
            case hy127 => (intro _ hSw; (try dsimp only at hSw); go_simp <;> with_reducible rfl)
            simp only [Act.put, List.setIfInBounds_toArray, List.set_cons_zero, List.set_cons_succ]
            refine' wpAnyH_take (i := 4) (oi := { dst := some 50, op := Go.Op.nilCheck (Go.Operand.tmp 48), type := 0, pos := "law.go:94", after := #[{ on := 2, ground := Go.Ground.data }], guard := none }) (v := _) rfl (by kernel_rfl) (by kernel_rfl) (by kernel_rfl) (fun _ _ _ h => h) (Or.inl ⟨by rfl, ?hy128⟩) (by assumption) ?hr128
            case hy128 => (intro _ hSw; (try dsimp only at hSw); go_simp <;> with_reducible rfl)
            simp only [Act.put, List.setIfInBounds_toArray, List.set_cons_zero, List.set_cons_succ]
            refine' wpAnyH_take (i := 5) (oi := { dst := some 51, op := Go.Op.fieldAddr 45 (Go.Operand.tmp 50) 1, type := 0, pos := "law.go:94", after := #[{ on := 4, ground := Go.Ground.data }], guard := none }) (v := _) rfl (by kernel_rfl) (by kernel_rfl) (by kernel_rfl) (fun _ _ _ h => h) (Or.inl ⟨by rfl, ?hy129⟩) (by assumption) ?hr129
            case hy129 => (intro _ hSw; (try dsimp only at hSw); go_simp <;> with_reducible rfl)
            simp only [Act.put, List.setIfInBounds_toArray, List.set_cons_zero, List.set_cons_succ]
            refine' wpAnyH_take (i := 6) (oi := { dst := some 52, op := Go.Op.indexAddr 43 (Go.Operand.tmp 51) (Go.Operand.tmp 49), type := 0, pos := "law.go:94", after := #[{ on := 5, ground := Go.Ground.data }, { on := 3, ground := Go.Ground.data }], guard := none }) (v := _) rfl (by kernel_rfl) (by kernel_rfl) (by kernel_rfl) (fun _ _ _ h => h) (Or.inl ⟨by rfl, ?hy130⟩) (by assumption) ?hr130
            case hy130 => (intro _ hSw; (try dsimp only at hSw); go_simp <;> with_reducible rfl)
            simp only [Act.put, List.setIfInBounds_toArray, List.set_cons_zero, List.set_cons_succ]
            refine' wpAnyH_take (i := 9) (oi := { dst := some 55, op := Go.Op.nilCheck (Go.Operand.tmp 46), type := 0, pos := "law.go:94", after := #[{ on := 0, ground := Go.Ground.data }], guard := none }) (v := _) rfl (by kernel_rfl) (by kernel_rfl) (by kernel_rfl) (fun _ _ _ h => h) (Or.inl ⟨by rfl, ?hy131⟩) (by assumption) ?hr131
            case hy131 => (intro _ hSw; (try dsimp only at hSw); go_simp <;> with_reducible rfl)
            simp only [Act.put, List.setIfInBounds_toArray, List.set_cons_zero, List.set_cons_succ]
            refine' wpAnyH_take (i := 10) (oi := { dst := some 56, op := Go.Op.fieldAddr 45 (Go.Operand.tmp 55) 1, type := 0, pos := "law.go:94", after := #[{ on := 9, ground := Go.Ground.data }], guard := none }) (v := _) rfl (by kernel_rfl) (by kernel_rfl) (by kernel_rfl) (fun _ _ _ h => h) (Or.inl ⟨by rfl, ?hy132⟩) (by assumption) ?hr132
            case hy132 => (intro _ hSw; (try dsimp only at hSw); go_simp <;> with_reducible rfl)
            simp only [Act.put, List.setIfInBounds_toArray, List.set_cons_zero, List.set_cons_succ]
            rw [hw1]
            clear hw1
            refine wpAnyH_ready (rs := [7]) (by kernel_rfl) (by simp) ?_
            refine AllReadyH.cons (o := { dst := some 53, op := Go.Op.load 42 (Go.Operand.tmp 52), type := 42, pos := "law.go:94", after := #[{ on := 6, ground := Go.Ground.data }], guard := none }) rfl (fun K hK => ?_) AllReadyH.nil
            go_simp
            refine hK.out _ _ trivial (fun hNext => ?_)
            clear hHeld
            clear hK K
            have hHeld := hNext
            clear hNext
            (try simp only [Act.put, List.setIfInBounds_toArray, List.set_cons_zero, List.set_cons_succ])
            by_cases hc1 : c1 = 1
            · rw [if_pos hc1] at HQ1
              subst hc1
              obtain rfl : z = 0 := by omega
              refine' wpAnyH_take (i := 8) (oi := { dst := some 54, op := Go.Op.slice 42 (Go.Operand.tmp 53) (some (Go.Operand.const (Go.Value.int Go.IntKind.i64 1))) none none, type := 42, pos := "law.go:94", after := #[{ on := 7, ground := Go.Ground.data }], guard := none }) (v := _) rfl (by kernel_rfl) (by kernel_rfl) (by kernel_rfl) (fun _ _ _ h => h) (Or.inl ⟨by rfl, ?hy133⟩) (by assumption) ?hr133
              case hy133 => (intro _ hSw; (try dsimp only at hSw); go_simp <;> with_reducible rfl)
              simp only [Act.put, List.setIfInBounds_toArray, List.set_cons_zero, List.set_cons_succ]
              refine' wpAnyH_take (i := 11) (oi := { dst := some 57, op := Go.Op.indexAddr 43 (Go.Operand.tmp 56) (Go.Operand.tmp 47), type := 0, pos := "law.go:94", after := #[{ on := 10, ground := Go.Ground.data }, { on := 1, ground := Go.Ground.data }, { on := 0, ground := Go.Ground.phase }, { on := 1, ground := Go.Ground.phase }, { on := 2, ground := Go.Ground.phase }, { on := 3, ground := Go.Ground.phase }, { on := 4, ground := Go.Ground.phase }, { on := 5, ground := Go.Ground.phase }, { on := 6, ground := Go.Ground.phase }, { on := 7, ground := Go.Ground.phase }, { on := 8, ground := Go.Ground.phase }], guard := none }) (v := _) rfl (by kernel_rfl) (by kernel_rfl) (by kernel_rfl) (fun _ _ _ h => h) (Or.inl ⟨by rfl, ?hy134⟩) (by assumption) ?hr134
              case hy134 => (intro _ hSw; (try dsimp only at hSw); go_simp <;> with_reducible rfl)
              simp only [Act.put, List.setIfInBounds_toArray, List.set_cons_zero, List.set_cons_succ]
              refine wpAnyH_ready (rs := [12]) (by kernel_rfl) (by simp) ?_
              refine AllReadyH.cons (o := { dst := none, op := Go.Op.store 42 (Go.Operand.tmp 57) (Go.Operand.tmp 54), type := 0, pos := "law.go:94", after := #[{ on := 11, ground := Go.Ground.data }, { on := 8, ground := Go.Ground.data }, { on := 0, ground := Go.Ground.phase }, { on := 1, ground := Go.Ground.phase }, { on := 2, ground := Go.Ground.phase }, { on := 3, ground := Go.Ground.phase }, { on := 4, ground := Go.Ground.phase }, { on := 5, ground := Go.Ground.phase }, { on := 6, ground := Go.Ground.phase }, { on := 7, ground := Go.Ground.phase }, { on := 8, ground := Go.Ground.phase }], guard := none }) rfl (fun K hK => ?_) AllReadyH.nil
              go_simp
              refine hK.out _ _ trivial (fun hNext => ?_)
              clear hNext hHeld
              refine wpAnyH_done (by kernel_rfl) ?_ _
              clear hK K
              have H2 : Hid (TwAt w0 pa pb tb (.slice o0 0 c0) (.slice (some ⟨g, off, none⟩) 0 0) ⟨la, lb, [], r⟩ (w1.setCell ⟨tb, 3, none⟩ (.slice (some ⟨g, off, none⟩) 0 0))) := Lib.hid (H1.out.put1 ⟨rfl, rfl, rfl, Nat.le_refl _, fun _ _ _ => rfl⟩ HQ1.out (Or.inl rfl))
              have hA2 : (w1.setCell ⟨tb, 3, none⟩ (.slice (some ⟨g, off, none⟩) 0 0)).heap[n6]? = some (aO x 30) := (set_other (by omega) _).trans hA1
              clear HQ1 H1 hA1 b2 f2
              generalize w1.setCell ⟨tb, 3, none⟩ (.slice (some ⟨g, off, none⟩) 0 0) = w2 at H2 hA2 ⊢
              go_wp2_with fail
              have H3 := Lib.hid H2.out.drew
              have hA3 : w2.drew.heap[n6]? = some (aO x 30) := hA2
              clear H2 hA2
              refine wp_region_held_drew (S := (fun w' => w'.cell? ⟨tb, 1, none⟩ = some (ptr pb) ∧ w'.heap[n6]? = some (aO x 30))) (by kernel_rfl) ⟨cell_of H3.out.blk rfl, hA3⟩ (fun hHeld => ?_)
              refine' wpAnyH_take (i := 0) (oi := { dst := some 58, op := Go.Op.move (Go.Operand.tmp 0), type := 40, pos := "law.go:95", after := #[], guard := none }) (v := _) rfl (by kernel_rfl) (by kernel_rfl) (by kernel_rfl) (fun _ _ _ h => h) (Or.inl ⟨by rfl, ?hy135⟩) (by assumption) ?hr135
              case hy135 => (intro _ hSw; (try dsimp only at hSw); go_simp <;> with_reducible rfl)
              simp only [Act.put, List.setIfInBounds_toArray, List.set_cons_zero, List.set_cons_succ]
              refine' wpAnyH_take (i := 1) (oi := { dst := some 59, op := Go.Op.move (Go.Operand.tmp 5), type := 3, pos := "law.go:95", after := #[], guard := none }) (v := _) rfl (by kernel_rfl) (by kernel_rfl) (by kernel_rfl) (fun _ _ _ h => h) (Or.inl ⟨by rfl, ?hy136⟩) (by assumption) ?hr136
              case hy136 => (intro _ hSw; (try dsimp only at hSw); go_simp <;> with_reducible rfl)
              simp only [Act.put, List.setIfInBounds_toArray, List.set_cons_zero, List.set_cons_succ]
              refine' wpAnyH_take (i := 2) (oi := { dst := some 60, op := Go.Op.move (Go.Operand.tmp 0), type := 40, pos := "law.go:95", after := #[], guard := none }) (v := _) rfl (by kernel_rfl) (by kernel_rfl) (by kernel_rfl) (fun _ _ _ h => h) (Or.inl ⟨by rfl, ?hy137⟩) (by assumption) ?hr137
              case hy137 => (intro _ hSw; (try dsimp only at hSw); go_simp <;> with_reducible rfl)
              simp only [Act.put, List.setIfInBounds_toArray, List.set_cons_zero, List.set_cons_succ]
              refine' wpAnyH_take (i := 3) (oi := { dst := some 61, op := Go.Op.move (Go.Operand.tmp 5), type := 3, pos := "law.go:95", after := #[], guard := none }) (v := _) rfl (by kernel_rfl) (by kernel_rfl) (by kernel_rfl) (fun _ _ _ h => h) (Or.inl ⟨by rfl, ?hy138⟩) (by assumption) ?hr138
              case hy138 => (intro _ hSw; (try dsimp only at hSw); go_simp <;> with_reducible rfl)
              simp only [Act.put, List.setIfInBounds_toArray, List.set_cons_zero, List.set_cons_succ]
              refine' wpAnyH_take (i := 4) (oi := { dst := some 62, op := Go.Op.nilCheck (Go.Operand.tmp 60), type := 0, pos := "law.go:95", after := #[{ on := 2, ground := Go.Ground.data }], guard := none }) (v := _) rfl (by kernel_rfl) (by kernel_rfl) (by kernel_rfl) (fun _ _ _ h => h) (Or.inl ⟨by rfl, ?hy139⟩) (by assumption) ?hr139
              case hy139 => (intro _ hSw; (try dsimp only at hSw); go_simp <;> with_reducible rfl)
              simp only [Act.put, List.setIfInBounds_toArray, List.set_cons_zero, List.set_cons_succ]
              refine' wpAnyH_take (i := 5) (oi := { dst := some 63, op := Go.Op.fieldAddr 45 (Go.Operand.tmp 62) 0, type := 0, pos := "law.go:95", after := #[{ on := 4, ground := Go.Ground.data }], guard := none }) (v := _) rfl (by kernel_rfl) (by kernel_rfl) (by kernel_rfl) (fun _ _ _ h => h) (Or.inl ⟨by rfl, ?hy140⟩) (by assumption) ?hr140
              case hy140 => (intro _ hSw; (try dsimp only at hSw); go_simp <;> with_reducible rfl)
              simp only [Act.put, List.setIfInBounds_toArray, List.set_cons_zero, List.set_cons_succ]
              refine' wpAnyH_take (i := 6) (oi := { dst := some 64, op := Go.Op.indexAddr 41 (Go.Operand.tmp 63) (Go.Operand.tmp 61), type := 0, pos := "law.go:95", after := #[{ on := 5, ground := Go.Ground.data }, { on := 3, ground := Go.Ground.data }], guard := none }) (v := _) rfl (by kernel_rfl) (by kernel_rfl) (by kernel_rfl) (fun _ _ _ h => h) (Or.inl ⟨by rfl, ?hy141⟩) (by assumption) ?hr141
              case hy141 => (intro _ hSw; (try dsimp only at hSw); go_simp <;> with_reducible rfl)
              simp only [Act.put, List.setIfInBounds_toArray, List.set_cons_zero, List.set_cons_succ]
              refine' wpAnyH_take (i := 7) (oi := { dst := some 65, op := Go.Op.load 24 (Go.Operand.tmp 64), type := 24, pos := "law.go:95", after := #[{ on := 6, ground := Go.Ground.data }], guard := none }) (v := _) rfl (by kernel_rfl) (by kernel_rfl) (by kernel_rfl) (fun _ _ _ h => h) (Or.inl ⟨by rfl, ?hy142⟩) (by assumption) ?hr142
              case hy142 => (intro _ hSw; (try dsimp only at hSw); have hc := hSw.1; go_simp <;> with_reducible rfl)
              simp only [Act.put, List.setIfInBounds_toArray, List.set_cons_zero, List.set_cons_succ]
              refine' wpAnyH_take (i := 8) (oi := { dst := some 66, op := Go.Op.fieldAddr 30 (Go.Operand.tmp 6) 0, type := 0, pos := "law.go:95", after := #[], guard := none }) (v := _) rfl (by kernel_rfl) (by kernel_rfl) (by kernel_rfl) (fun _ _ _ h => h) (Or.inl ⟨by rfl, ?hy143⟩) (by assumption) ?hr143
              case hy143 => (intro _ hSw; (try dsimp only at hSw); go_simp <;> with_reducible rfl)
              simp only [Act.put, List.setIfInBounds_toArray, List.set_cons_zero, List.set_cons_succ]
              refine' wpAnyH_take (i := 9) (oi := { dst := some 67, op := Go.Op.load 5 (Go.Operand.tmp 66), type := 5, pos := "law.go:95", after := #[{ on := 8, ground := Go.Ground.data }], guard := none }) (v := _) rfl (by kernel_rfl) (by kernel_rfl) (by kernel_rfl) (fun _ _ _ h => h) (Or.inl ⟨by rfl, ?hy144⟩) (by assumption) ?hr144
              case hy144 => (intro _ hSw; (try dsimp only at hSw); obtain ⟨⟨x0, x1, x2, x3, x4⟩, -⟩ := cells5 hSw.2; go_simp <;> with_reducible rfl)
              simp only [Act.put, List.setIfInBounds_toArray, List.set_cons_zero, List.set_cons_succ]
              refine' wpAnyH_take (i := 10) (oi := { dst := some 68, op := Go.Op.fieldAddr 30 (Go.Operand.tmp 6) 2, type := 0, pos := "law.go:95", after := #[], guard := none }) (v := _) rfl (by kernel_rfl) (by kernel_rfl) (by kernel_rfl) (fun _ _ _ h => h) (Or.inl ⟨by rfl, ?hy145⟩) (by assumption) ?hr145
              case hy145 => (intro _ hSw; (try dsimp only at hSw); go_simp <;> with_reducible rfl)
              simp only [Act.put, List.setIfInBounds_toArray, List.set_cons_zero, List.set_cons_succ]
              refine' wpAnyH_take (i := 11) (oi := { dst := some 69, op := Go.Op.load 4 (Go.Operand.tmp 68), type := 4, pos := "law.go:95", after := #[{ on := 10, ground := Go.Ground.data }], guard := none }) (v := _) rfl (by kernel_rfl) (by kernel_rfl) (by kernel_rfl) (fun _ _ _ h => h) (Or.inl ⟨by rfl, ?hy146⟩) (by assumption) ?hr146
              case hy146 => (intro _ hSw; (try dsimp only at hSw); obtain ⟨⟨x0, x1, x2, x3, x4⟩, -⟩ := cells5 hSw.2; go_simp <;> with_reducible rfl)
              simp only [Act.put, List.setIfInBounds_toArray, List.set_cons_zero, List.set_cons_succ]
              refine' wpAnyH_take (i := 12) (oi := { dst := some 70, op := Go.Op.fieldAddr 30 (Go.Operand.tmp 6) 1, type := 0, pos := "law.go:95", after := #[], guard := none }) (v := _) rfl (by kernel_rfl) (by kernel_rfl) (by kernel_rfl) (fun _ _ _ h => h) (Or.inl ⟨by rfl, ?hy147⟩) (by assumption) ?hr147
              case hy147 => (intro _ hSw; (try dsimp only at hSw); go_simp <;> with_reducible rfl)
              simp only [Act.put, List.setIfInBounds_toArray, List.set_cons_zero, List.set_cons_succ]
              refine' wpAnyH_take (i := 13) (oi := { dst := some 71, op := Go.Op.load 4 (Go.Operand.tmp 70), type := 4, pos := "law.go:95", after := #[{ on := 12, ground := Go.Ground.data }], guard := none }) (v := _) rfl (by kernel_rfl) (by kernel_rfl) (by kernel_rfl) (fun _ _ _ h => h) (Or.inl ⟨by rfl, ?hy148⟩) (by assumption) ?hr148
              case hy148 => (intro _ hSw; (try dsimp only at hSw); obtain ⟨⟨x0, x1, x2, x3, x4⟩, -⟩ := cells5 hSw.2; go_simp <;> with_reducible rfl)
              simp only [Act.put, List.setIfInBounds_toArray, List.set_cons_zero, List.set_cons_succ]
              refine wpAnyH_ready (rs := [14]) (by kernel_rfl) (by simp) ?_
              refine AllReadyH.cons (o := { dst := some 72, op := Go.Op.call { callee := Go.Callee.value (Go.Operand.func 21), args := #[Go.Operand.tmp 65, Go.Operand.tmp 67, Go.Operand.tmp 69, Go.Operand.tmp 71], argTypes := #[24, 5, 4, 4] }, type := 30, pos := "law.go:95", after := #[{ on := 7, ground := Go.Ground.data }, { on := 9, ground := Go.Ground.data }, { on := 11, ground := Go.Ground.data }, { on := 13, ground := Go.Ground.data }], guard := none }) rfl (fun K hK => ?_) AllReadyH.nil
              go_simp
              refine (CH.out _ H3.out.lb).mono ?_
              rintro _ w4 ⟨rfl, hd⟩
              have H4 := Lib.hid (H3.out.doB hd)
              have hA4 : w4.heap[n6]? = some (aO x 30) := hd.chg.stays hA3 (by have := H3.out.ab; have := H3.out.bt; omega)
              clear hd H3 hA3 CH
              go_wp2_with fail
              refine hK.out _ _ ⟨cell_of H4.out.blk rfl, hA4⟩ (fun hNext => ?_)
              clear hHeld
              clear hK K
              have hHeld := hNext
              clear hNext
              (try simp only [Act.put, List.setIfInBounds_toArray, List.set_cons_zero, List.set_cons_succ])
              refine wpAnyH_ready (rs := [15]) (by kernel_rfl) (by simp) ?_
              refine AllReadyH.cons (o := { dst := some 73, op := Go.Op.call { callee := Go.Callee.value (Go.Operand.func 17), args := #[Go.Operand.tmp 58, Go.Operand.tmp 59, Go.Operand.tmp 72], argTypes := #[40, 3, 30] }, type := 0, pos := "law.go:95", after := #[{ on := 0, ground := Go.Ground.data }, { on := 1, ground := Go.Ground.data }, { on := 14, ground := Go.Ground.data }, { on := 14, ground := Go.Ground.chain }], guard := none }) rfl (fun K hK => ?_) AllReadyH.nil
              go_simp
              have L0 := HR.out.l0
              have L1 := HR.out.l1
              have LF := HR.out.few
              dsimp only at L0 L1
              by_cases hk0 : ra.k = 0
              · refine (fsaid1_no _ _ ra hk0).mono ?_
                rintro _ w5 ⟨rfl, hb5⟩
                have H5 := Lib.hid (H4.out.on hb5)
                have hA5 := stays hA4 hb5
                have hp : put [] ra = [] := if_pos hk0
                rw [hp] at HN
                have hlen : ([] : List Ac).length + r.length ≤ 1000 := by have := HZ.out; omega
                have HF : Hid (∃ a0 a1 a2 a3 a4 a5, Rn w0 pa pb tb a0 a1 a2 a3 a4 a5 ⟨la, rl, [], r⟩ w5) := Rn.of H5.out HR.out.oa HO.out hlen
                have HG : Hid (runs (100 - (k + 1)) false ⟨la, rl, [], r⟩ = T) := by show _ = _; rw [HM.out]; exact HN.out
                go_wp2_with fail
                refine hK.out _ _ ⟨cell_of H5.out.blk rfl, hA5⟩ (fun hNext => ?_)
                clear hNext hHeld hK K
                refine wpAnyH_done (by kernel_rfl) ?_ _
                clear hb5 hA5 hA4 H4 H5 hp hlen HN HM HR HO HW L0 L1 LF HZ
                go_wp2
                go_roundg (100 - (k + 1))
                case measure => omega
                case rel => exact ⟨k + 1, _, by first | rfl | go_num, Nat.le_refl _, by omega, HF, HG⟩
              · refine (fsaid1 w0 _ pa pb tb _ _ _ ra hk0 (by dsimp only; omega) H4.out).mono ?_
                rintro _ w5 ⟨rfl, u, hu, hc⟩
                have H5 := Lib.hid hu
                have hA5 : w5.heap[n6]? = some (aO x 30) := hc.stays hA4 (fun e => by
                  rcases e with e | e
                  · omega
                  · have := HW.out n6 e; omega)
                have hp : put [] ra = [] ++ [ra] := if_neg hk0
                rw [hp] at HN
                have hlen : ([] ++ [ra]).length + r.length ≤ 1000 := by have := HZ.out; rw [List.length_append, List.length_singleton]; omega
                have HF : Hid (∃ a0 a1 a2 a3 a4 a5, Rn w0 pa pb tb a0 a1 a2 a3 a4 a5 ⟨la, rl, [] ++ [ra], r⟩ w5) := Rn.of H5.out HR.out.oa HO.out hlen
                have HG : Hid (runs (100 - (k + 1)) false ⟨la, rl, [] ++ [ra], r⟩ = T) := by show _ = _; rw [HM.out]; exact HN.out
                go_wp2_with fail
                refine hK.out _ _ ⟨cell_of H5.out.blk rfl, hA5⟩ (fun hNext => ?_)
                clear hNext hHeld hK K
                refine wpAnyH_done (by kernel_rfl) ?_ _
                clear hu hc hA5 hA4 H4 H5 hp hlen HN HM HR HO HW L0 L1 LF HZ
                go_wp2
                go_roundg (100 - (k + 1))
                case measure => omega
                case rel => exact ⟨k + 1, _, by first | rfl | go_num, Nat.le_refl _, by omega, HF, HG⟩
            rw [if_neg hc1] at HQ1
            refine' wpAnyH_take (i := 8) (oi := { dst := some 54, op := Go.Op.slice 42 (Go.Operand.tmp 53) (some (Go.Operand.const (Go.Value.int Go.IntKind.i64 1))) none none, type := 42, pos := "law.go:94", after := #[{ on := 7, ground := Go.Ground.data }], guard := none }) (v := _) rfl (by kernel_rfl) (by kernel_rfl) (by kernel_rfl) (fun _ _ _ h => h) (Or.inl ⟨by rfl, ?hy149⟩) (by assumption) ?hr149
            case hy149 => (intro _ hSw; (try dsimp only at hSw); go_simp <;> with_reducible rfl)
            simp only [Act.put, List.setIfInBounds_toArray, List.set_cons_zero, List.set_cons_succ]
            refine' wpAnyH_take (i := 11) (oi := { dst := some 57, op := Go.Op.indexAddr 43 (Go.Operand.tmp 56) (Go.Operand.tmp 47), type := 0, pos := "law.go:94", after := #[{ on := 10, ground := Go.Ground.data }, { on := 1, ground := Go.Ground.data }, { on := 0, ground := Go.Ground.phase }, { on := 1, ground := Go.Ground.phase }, { on := 2, ground := Go.Ground.phase }, { on := 3, ground := Go.Ground.phase }, { on := 4, ground := Go.Ground.phase }, { on := 5, ground := Go.Ground.phase }, { on := 6, ground := Go.Ground.phase }, { on := 7, ground := Go.Ground.phase }, { on := 8, ground := Go.Ground.phase }], guard := none }) (v := _) rfl (by kernel_rfl) (by kernel_rfl) (by kernel_rfl) (fun _ _ _ h => h) (Or.inl ⟨by rfl, ?hy150⟩) (by assumption) ?hr150
            case hy150 => (intro _ hSw; (try dsimp only at hSw); go_simp <;> with_reducible rfl)
            simp only [Act.put, List.setIfInBounds_toArray, List.set_cons_zero, List.set_cons_succ]
            refine wpAnyH_ready (rs := [12]) (by kernel_rfl) (by simp) ?_
            refine AllReadyH.cons (o := { dst := none, op := Go.Op.store 42 (Go.Operand.tmp 57) (Go.Operand.tmp 54), type := 0, pos := "law.go:94", after := #[{ on := 11, ground := Go.Ground.data }, { on := 8, ground := Go.Ground.data }, { on := 0, ground := Go.Ground.phase }, { on := 1, ground := Go.Ground.phase }, { on := 2, ground := Go.Ground.phase }, { on := 3, ground := Go.Ground.phase }, { on := 4, ground := Go.Ground.phase }, { on := 5, ground := Go.Ground.phase }, { on := 6, ground := Go.Ground.phase }, { on := 7, ground := Go.Ground.phase }, { on := 8, ground := Go.Ground.phase }], guard := none }) rfl (fun K hK => ?_) AllReadyH.nil
            go_simp
            refine hK.out _ _ trivial (fun hNext => ?_)
            clear hNext hHeld
            refine wpAnyH_done (by kernel_rfl) ?_ _
            clear hK K
            have H2 : Hid (TwAt w0 pa pb tb (.slice o0 0 c0) (.slice (some ⟨g, off + 5, none⟩) z (c1 - 1)) ⟨la, lb, [], r⟩ (w1.setCell ⟨tb, 3, none⟩ (.slice (some ⟨g, off + 5, none⟩) z (c1 - 1)))) := Lib.hid (H1.out.put1 ⟨rfl, rfl, rfl, Nat.le_refl _, fun _ _ _ => rfl⟩ HQ1.out (Or.inl rfl))
            have hA2 : (w1.setCell ⟨tb, 3, none⟩ (.slice (some ⟨g, off + 5, none⟩) z (c1 - 1))).heap[n6]? = some (aO x 30) := (set_other (by omega) _).trans hA1
            clear HQ1 H1 hA1 b2 f2
            generalize w1.setCell ⟨tb, 3, none⟩ (.slice (some ⟨g, off + 5, none⟩) z (c1 - 1)) = w2 at H2 hA2 ⊢
            go_wp2_with fail
            have H3 := Lib.hid H2.out.drew
            have hA3 : w2.drew.heap[n6]? = some (aO x 30) := hA2
            clear H2 hA2
            refine wp_region_held_drew (S := (fun w' => w'.cell? ⟨tb, 1, none⟩ = some (ptr pb) ∧ w'.heap[n6]? = some (aO x 30))) (by kernel_rfl) ⟨cell_of H3.out.blk rfl, hA3⟩ (fun hHeld => ?_)
            refine' wpAnyH_take (i := 0) (oi := { dst := some 58, op := Go.Op.move (Go.Operand.tmp 0), type := 40, pos := "law.go:95", after := #[], guard := none }) (v := _) rfl (by kernel_rfl) (by kernel_rfl) (by kernel_rfl) (fun _ _ _ h => h) (Or.inl ⟨by rfl, ?hy151⟩) (by assumption) ?hr151
            case hy151 => (intro _ hSw; (try dsimp only at hSw); go_simp <;> with_reducible rfl)
            simp only [Act.put, List.setIfInBounds_toArray, List.set_cons_zero, List.set_cons_succ]
            refine' wpAnyH_take (i := 1) (oi := { dst := some 59, op := Go.Op.move (Go.Operand.tmp 5), type := 3, pos := "law.go:95", after := #[], guard := none }) (v := _) rfl (by kernel_rfl) (by kernel_rfl) (by kernel_rfl) (fun _ _ _ h => h) (Or.inl ⟨by rfl, ?hy152⟩) (by assumption) ?hr152
            case hy152 => (intro _ hSw; (try dsimp only at hSw); go_simp <;> with_reducible rfl)
            simp only [Act.put, List.setIfInBounds_toArray, List.set_cons_zero, List.set_cons_succ]
            refine' wpAnyH_take (i := 2) (oi := { dst := some 60, op := Go.Op.move (Go.Operand.tmp 0), type := 40, pos := "law.go:95", after := #[], guard := none }) (v := _) rfl (by kernel_rfl) (by kernel_rfl) (by kernel_rfl) (fun _ _ _ h => h) (Or.inl ⟨by rfl, ?hy153⟩) (by assumption) ?hr153
            case hy153 => (intro _ hSw; (try dsimp only at hSw); go_simp <;> with_reducible rfl)
            simp only [Act.put, List.setIfInBounds_toArray, List.set_cons_zero, List.set_cons_succ]
            refine' wpAnyH_take (i := 3) (oi := { dst := some 61, op := Go.Op.move (Go.Operand.tmp 5), type := 3, pos := "law.go:95", after := #[], guard := none }) (v := _) rfl (by kernel_rfl) (by kernel_rfl) (by kernel_rfl) (fun _ _ _ h => h) (Or.inl ⟨by rfl, ?hy154⟩) (by assumption) ?hr154
            case hy154 => (intro _ hSw; (try dsimp only at hSw); go_simp <;> with_reducible rfl)
            simp only [Act.put, List.setIfInBounds_toArray, List.set_cons_zero, List.set_cons_succ]
            refine' wpAnyH_take (i := 4) (oi := { dst := some 62, op := Go.Op.nilCheck (Go.Operand.tmp 60), type := 0, pos := "law.go:95", after := #[{ on := 2, ground := Go.Ground.data }], guard := none }) (v := _) rfl (by kernel_rfl) (by kernel_rfl) (by kernel_rfl) (fun _ _ _ h => h) (Or.inl ⟨by rfl, ?hy155⟩) (by assumption) ?hr155
            case hy155 => (intro _ hSw; (try dsimp only at hSw); go_simp <;> with_reducible rfl)
            simp only [Act.put, List.setIfInBounds_toArray, List.set_cons_zero, List.set_cons_succ]
            refine' wpAnyH_take (i := 5) (oi := { dst := some 63, op := Go.Op.fieldAddr 45 (Go.Operand.tmp 62) 0, type := 0, pos := "law.go:95", after := #[{ on := 4, ground := Go.Ground.data }], guard := none }) (v := _) rfl (by kernel_rfl) (by kernel_rfl) (by kernel_rfl) (fun _ _ _ h => h) (Or.inl ⟨by rfl, ?hy156⟩) (by assumption) ?hr156
            case hy156 => (intro _ hSw; (try dsimp only at hSw); go_simp <;> with_reducible rfl)
            simp only [Act.put, List.setIfInBounds_toArray, List.set_cons_zero, List.set_cons_succ]
            refine' wpAnyH_take (i := 6) (oi := { dst := some 64, op := Go.Op.indexAddr 41 (Go.Operand.tmp 63) (Go.Operand.tmp 61), type := 0, pos := "law.go:95", after := #[{ on := 5, ground := Go.Ground.data }, { on := 3, ground := Go.Ground.data }], guard := none }) (v := _) rfl (by kernel_rfl) (by kernel_rfl) (by kernel_rfl) (fun _ _ _ h => h) (Or.inl ⟨by rfl, ?hy157⟩) (by assumption) ?hr157
            case hy157 => (intro _ hSw; (try dsimp only at hSw); go_simp <;> with_reducible rfl)
            simp only [Act.put, List.setIfInBounds_toArray, List.set_cons_zero, List.set_cons_succ]
            refine' wpAnyH_take (i := 7) (oi := { dst := some 65, op := Go.Op.load 24 (Go.Operand.tmp 64), type := 24, pos := "law.go:95", after := #[{ on := 6, ground := Go.Ground.data }], guard := none }) (v := _) rfl (by kernel_rfl) (by kernel_rfl) (by kernel_rfl) (fun _ _ _ h => h) (Or.inl ⟨by rfl, ?hy158⟩) (by assumption) ?hr158
            case hy158 => (intro _ hSw; (try dsimp only at hSw); have hc := hSw.1; go_simp <;> with_reducible rfl)
            simp only [Act.put, List.setIfInBounds_toArray, List.set_cons_zero, List.set_cons_succ]
            refine' wpAnyH_take (i := 8) (oi := { dst := some 66, op := Go.Op.fieldAddr 30 (Go.Operand.tmp 6) 0, type := 0, pos := "law.go:95", after := #[], guard := none }) (v := _) rfl (by kernel_rfl) (by kernel_rfl) (by kernel_rfl) (fun _ _ _ h => h) (Or.inl ⟨by rfl, ?hy159⟩) (by assumption) ?hr159
            case hy159 => (intro _ hSw; (try dsimp only at hSw); go_simp <;> with_reducible rfl)
            simp only [Act.put, List.setIfInBounds_toArray, List.set_cons_zero, List.set_cons_succ]
            refine' wpAnyH_take (i := 9) (oi := { dst := some 67, op := Go.Op.load 5 (Go.Operand.tmp 66), type := 5, pos := "law.go:95", after := #[{ on := 8, ground := Go.Ground.data }], guard := none }) (v := _) rfl (by kernel_rfl) (by kernel_rfl) (by kernel_rfl) (fun _ _ _ h => h) (Or.inl ⟨by rfl, ?hy160⟩) (by assumption) ?hr160
            case hy160 => (intro _ hSw; (try dsimp only at hSw); obtain ⟨⟨x0, x1, x2, x3, x4⟩, -⟩ := cells5 hSw.2; go_simp <;> with_reducible rfl)
            simp only [Act.put, List.setIfInBounds_toArray, List.set_cons_zero, List.set_cons_succ]
            refine' wpAnyH_take (i := 10) (oi := { dst := some 68, op := Go.Op.fieldAddr 30 (Go.Operand.tmp 6) 2, type := 0, pos := "law.go:95", after := #[], guard := none }) (v := _) rfl (by kernel_rfl) (by kernel_rfl) (by kernel_rfl) (fun _ _ _ h => h) (Or.inl ⟨by rfl, ?hy161⟩) (by assumption) ?hr161
            case hy161 => (intro _ hSw; (try dsimp only at hSw); go_simp <;> with_reducible rfl)
            simp only [Act.put, List.setIfInBounds_toArray, List.set_cons_zero, List.set_cons_succ]
            refine' wpAnyH_take (i := 11) (oi := { dst := some 69, op := Go.Op.load 4 (Go.Operand.tmp 68), type := 4, pos := "law.go:95", after := #[{ on := 10, ground := Go.Ground.data }], guard := none }) (v := _) rfl (by kernel_rfl) (by kernel_rfl) (by kernel_rfl) (fun _ _ _ h => h) (Or.inl ⟨by rfl, ?hy162⟩) (by assumption) ?hr162
            case hy162 => (intro _ hSw; (try dsimp only at hSw); obtain ⟨⟨x0, x1, x2, x3, x4⟩, -⟩ := cells5 hSw.2; go_simp <;> with_reducible rfl)
            simp only [Act.put, List.setIfInBounds_toArray, List.set_cons_zero, List.set_cons_succ]
            refine' wpAnyH_take (i := 12) (oi := { dst := some 70, op := Go.Op.fieldAddr 30 (Go.Operand.tmp 6) 1, type := 0, pos := "law.go:95", after := #[], guard := none }) (v := _) rfl (by kernel_rfl) (by kernel_rfl) (by kernel_rfl) (fun _ _ _ h => h) (Or.inl ⟨by rfl, ?hy163⟩) (by assumption) ?hr163
            case hy163 => (intro _ hSw; (try dsimp only at hSw); go_simp <;> with_reducible rfl)
            simp only [Act.put, List.setIfInBounds_toArray, List.set_cons_zero, List.set_cons_succ]
            refine' wpAnyH_take (i := 13) (oi := { dst := some 71, op := Go.Op.load 4 (Go.Operand.tmp 70), type := 4, pos := "law.go:95", after := #[{ on := 12, ground := Go.Ground.data }], guard := none }) (v := _) rfl (by kernel_rfl) (by kernel_rfl) (by kernel_rfl) (fun _ _ _ h => h) (Or.inl ⟨by rfl, ?hy164⟩) (by assumption) ?hr164
            case hy164 => (intro _ hSw; (try dsimp only at hSw); obtain ⟨⟨x0, x1, x2, x3, x4⟩, -⟩ := cells5 hSw.2; go_simp <;> with_reducible rfl)
            simp only [Act.put, List.setIfInBounds_toArray, List.set_cons_zero, List.set_cons_succ]
            refine wpAnyH_ready (rs := [14]) (by kernel_rfl) (by simp) ?_
            refine AllReadyH.cons (o := { dst := some 72, op := Go.Op.call { callee := Go.Callee.value (Go.Operand.func 21), args := #[Go.Operand.tmp 65, Go.Operand.tmp 67, Go.Operand.tmp 69, Go.Operand.tmp 71], argTypes := #[24, 5, 4, 4] }, type := 30, pos := "law.go:95", after := #[{ on := 7, ground := Go.Ground.data }, { on := 9, ground := Go.Ground.data }, { on := 11, ground := Go.Ground.data }, { on := 13, ground := Go.Ground.data }], guard := none }) rfl (fun K hK => ?_) AllReadyH.nil
            go_simp
            refine (CH.out _ H3.out.lb).mono ?_
            rintro _ w4 ⟨rfl, hd⟩
            have H4 := Lib.hid (H3.out.doB hd)
            have hA4 : w4.heap[n6]? = some (aO x 30) := hd.chg.stays hA3 (by have := H3.out.ab; have := H3.out.bt; omega)
            clear hd H3 hA3 CH
            go_wp2_with fail
            refine hK.out _ _ ⟨cell_of H4.out.blk rfl, hA4⟩ (fun hNext => ?_)
            clear hHeld
            clear hK K
            have hHeld := hNext
            clear hNext
            (try simp only [Act.put, List.setIfInBounds_toArray, List.set_cons_zero, List.set_cons_succ])
            refine wpAnyH_ready (rs := [15]) (by kernel_rfl) (by simp) ?_
            refine AllReadyH.cons (o := { dst := some 73, op := Go.Op.call { callee := Go.Callee.value (Go.Operand.func 17), args := #[Go.Operand.tmp 58, Go.Operand.tmp 59, Go.Operand.tmp 72], argTypes := #[40, 3, 30] }, type := 0, pos := "law.go:95", after := #[{ on := 0, ground := Go.Ground.data }, { on := 1, ground := Go.Ground.data }, { on := 14, ground := Go.Ground.data }, { on := 14, ground := Go.Ground.chain }], guard := none }) rfl (fun K hK => ?_) AllReadyH.nil
            go_simp
            have L0 := HR.out.l0
            have L1 := HR.out.l1
            have LF := HR.out.few
            dsimp only at L0 L1
            by_cases hk0 : ra.k = 0
            · refine (fsaid1_no _ _ ra hk0).mono ?_
              rintro _ w5 ⟨rfl, hb5⟩
              have H5 := Lib.hid (H4.out.on hb5)
              have hA5 := stays hA4 hb5
              have hp : put [] ra = [] := if_pos hk0
              rw [hp] at HN
              have hlen : ([] : List Ac).length + r.length ≤ 1000 := by have := HZ.out; omega
              have HF : Hid (∃ a0 a1 a2 a3 a4 a5, Rn w0 pa pb tb a0 a1 a2 a3 a4 a5 ⟨la, rl, [], r⟩ w5) := Rn.of H5.out HR.out.oa HO.out hlen
              have HG : Hid (runs (100 - (k + 1)) false ⟨la, rl, [], r⟩ = T) := by show _ = _; rw [HM.out]; exact HN.out
              go_wp2_with fail
              refine hK.out _ _ ⟨cell_of H5.out.blk rfl, hA5⟩ (fun hNext => ?_)
              clear hNext hHeld hK K
              refine wpAnyH_done (by kernel_rfl) ?_ _
              clear hb5 hA5 hA4 H4 H5 hp hlen HN HM HR HO HW L0 L1 LF HZ
              go_wp2
              go_roundg (100 - (k + 1))
              case measure => omega
              case rel => exact ⟨k + 1, _, by first | rfl | go_num, Nat.le_refl _, by omega, HF, HG⟩
            · refine (fsaid1 w0 _ pa pb tb _ _ _ ra hk0 (by dsimp only; omega) H4.out).mono ?_
              rintro _ w5 ⟨rfl, u, hu, hc⟩
              have H5 := Lib.hid hu
              have hA5 : w5.heap[n6]? = some (aO x 30) := hc.stays hA4 (fun e => by
                rcases e with e | e
                · omega
                · have := HW.out n6 e; omega)
              have hp : put [] ra = [] ++ [ra] := if_neg hk0
              rw [hp] at HN
              have hlen : ([] ++ [ra]).length + r.length ≤ 1000 := by have := HZ.out; rw [List.length_append, List.length_singleton]; omega
              have HF : Hid (∃ a0 a1 a2 a3 a4 a5, Rn w0 pa pb tb a0 a1 a2 a3 a4 a5 ⟨la, rl, [] ++ [ra], r⟩ w5) := Rn.of H5.out HR.out.oa HO.out hlen
              have HG : Hid (runs (100 - (k + 1)) false ⟨la, rl, [] ++ [ra], r⟩ = T) := by show _ = _; rw [HM.out]; exact HN.out
              go_wp2_with fail
              refine hK.out _ _ ⟨cell_of H5.out.blk rfl, hA5⟩ (fun hNext => ?_)
              clear hNext hHeld hK K
              refine wpAnyH_done (by kernel_rfl) ?_ _
              clear hu hc hA5 hA4 H4 H5 hp hlen HN HM HR HO HW L0 L1 LF HZ
              go_wp2
              go_roundg (100 - (k + 1))
              case measure => omega
              case rel => exact ⟨k + 1, _, by first | rfl | go_num, Nat.le_refl _, by omega, HF, HG⟩
          | nil =>
            have hn0 : n0 = 0 := by rw [← L0]; rfl
            have hn1 : n1 = 0 := by rw [← L1]; rfl
            subst hn0 hn1
            have HE : Hid (TwAt w0 pa pb tb (.slice o0 0 c0) (.slice o1 0 c1) T wr) := by
              have h8 := HU.out
              have h9 : step false ⟨la, lb, [], []⟩ = none := rfl
              unfold runs at h8
              rw [h9] at h8
              dsimp only at h8
              show TwAt _ _ _ _ _ _ _ _
              rw [← h8]
              exact HR.out.tw
            clear HR HU L0 L1
            go_wp2
            refine bodyPost_ret (results_none rfl _ _ _) rfl ?_
            exact ⟨rfl, _, _, HE.out⟩
    · obtain rfl : k = 100 := by omega
      have t1 : decide (((100 : Nat) : Int) < 100) = false := by decide
      obtain ⟨o0, n0, c0, o1, n1, c1, hR⟩ := HS.out
      have HE : Hid (TwAt w0 pa pb tb (.slice o0 n0 c0) (.slice o1 n1 c1) T wr) := by
        have h8 := HT.out
        show TwAt _ _ _ _ _ _ _ _
        rw [← h8]
        exact hR.tw
      clear hR HS HT
      go_wp2
      go_end0
      exact ⟨rfl, _, _, HE.out⟩
end Go.Proofs.Ytfflbaiddiahnaa.Lk
