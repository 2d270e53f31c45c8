/-
  What New, least, May, Take of the program answer; what is asked of a number that is none, of nil. Condition: it lies where it says.
-/
import Derived.Test.YtiicgfkcjpeiiaaPiMem
import Derived.Deep.RegionHeld
namespace Go.Proofs.Ytiicgfkcjpeiiaa.Pi
open Go.RowKit Go.Proofs.Ytiicgfkcjpeiiaa.Base Go.Proofs.Ytiicgfkcjpeiiaa.Mem Go.Proofs.Ytiicgfkcjpeiiaa.Cr
def zk (k : Nat) : St := ⟨fun d => if d < k then firstC d else 0, fun _ => false, fun _ => 0⟩
theorem zk_ok (k : Nat) : (zk k).Ok := ⟨fun d => by show (if d < k then firstC d else 0) < 64; split <;> first | exact firstC_lt d | decide, fun _ => Nat.zero_le _⟩
theorem zk_next (k : Nat) : (zk k).setC k (firstC k) = zk (k + 1) := by
  have : upd (zk k).cl k (firstC k) = (zk (k + 1)).cl := funext fun d => by
    show (if d = k then firstC k else if d < k then firstC d else 0) = if d < k + 1 then firstC d else 0
    by_cases e : d = k
    · subst e; rw [if_pos rfl, if_pos (by omega)]
    · rw [if_neg e]
      by_cases h : d < k
      · rw [if_pos h, if_pos (by omega)]
      · rw [if_neg h, if_neg (by omega)]
  show (⟨upd (zk k).cl k (firstC k), fun _ => false, fun _ => 0⟩ : St) = _
  rw [this]; rfl
theorem P.start {w : World} {b : Nat} (h : P w b (zk 64)) : P w b St.new := by
  obtain ⟨⟨cs, ha, hs, hc⟩, _⟩ := h
  refine ⟨⟨cs, ha, hs, fun d hd => (hc d hd).trans ?_⟩, .new⟩
  unfold pg
  by_cases h1 : d < 64
  · rw [if_pos h1, if_pos h1]
    have : (zk 64).cl d = firstC d := if_pos h1
    rw [this]; rfl
  · rw [if_neg h1, if_neg h1]; rfl
def z0 : Array Value := ((List.range 192).map (pg (zk 0))).toArray
theorem built0 : Try.prog.built PT [] = some z0 := by kernel_rfl
theorem P.first (w : World) : P (w.alloc (.cells z0 PT)) w.heap.size (zk 0) :=
  ⟨⟨z0, nest w [_] 0 _ rfl, by show 192 ≤ (((List.range 192).map (pg (zk 0))).toArray).size; simp, fun d hd => by
    show (((List.range 192).map (pg (zk 0))).toArray)[d]? = _
    simp [hd]⟩, zk_ok 0⟩
section
variable {ops : Array Oper} {rest : List Oper} {a : Act} {Q : Exit → Act → World → Prop} {d : Option Tmp} {x : Operand} {ty : TypeId} {pos : String} {af : Array Edge} {w : World} {T : Nat}
theorem bdB {parts : Array (Nat × Operand)} {l : List (Nat × Value)} {c : Array Value} (hb : Try.prog.built T l = some c) (hl : (parts.map fun (i, x) => (i, a.eval x)).toList = l) (k : wpList Try.prog ops Q rest (a.put d (.agg c)) w) :
    wpList Try.prog ops Q ({ dst := d, op := .build T parts, type := ty, pos := pos, after := af, guard := none } :: rest) a w := by
  subst hl
  refine wpList_build rfl T parts rfl (by rw [hb]; rfl) ?_
  rw [hb]
  exact k
theorem bxB (c : Array Value) (hx : a.eval x = .agg c) (k : wpList Try.prog ops Q rest (a.put d (ptr w.heap.size)) (w.alloc (.cells c T))) :
    wpList Try.prog ops Q ({ dst := d, op := .box T x, type := ty, pos := pos, after := af, guard := none } :: rest) a w :=
  wpList_plain rfl fun _ hK => by
    unfold Oper.wp execOp
    simp only [hx, Instr.box, newVar, newRow, Value.cells, Sem.run_bind, Sem.run_pure, Result.andThen_ok, run_newObj]
    exact hK _ _ k
end
theorem wrap_u8 (n : Nat) (h : n < 256) : IntKind.u8.wrap (n : Int) = (n : Int) := by rw [IntKind.wrap_u8]; omega
set_option maxRecDepth 100000 in
set_option maxHeartbeats 2000000 in
theorem fnew (w : World) : Calls Try.prog 8 #[] w fun e w' => e = .returned (ptr w.heap.size) ∧ P w' w.heap.size St.new ∧ Below w.heap.size w w' := by
  have HC := Lib.hid built0
  have HP0 := Lib.hid (And.intro (P.first w) (nest_below w [.cells z0 PT]))
  generalize z0 = c at HC HP0
  go_enter Try.func8, Try.ntmps8
  go_wp2_with (first
    | ((with_reducible refine bdB HC.out ?hl ?_); (case hl => kernel_rfl))
    | ((with_reducible refine bxB c ?hx ?_); (case hx => rfl)))
  have HP : Hid (P (w.alloc (.cells c PT)) w.heap.size (zk 0) ∧ Below w.heap.size w (w.alloc (.cells c PT))) := HP0
  clear HP0 HC
  generalize w.alloc (.cells c PT) = w1 at HP ⊢
  generalize hb : w.heap.size = b at HP ⊢
  have HB := Lib.hid hb
  clear hb
  go_loopg [5] 64 (fun gm s wr => ∃ (k : Nat), s = oc k ∧ 64 - k ≤ gm ∧ k ≤ 64 ∧ Hid (P wr b (zk k) ∧ Below b w wr))
  case atStart => exact ⟨0, rfl, by omega, by omega, HP⟩
  case round =>
    clear HP
    obtain ⟨k, rfl, hgm, hkn, HP⟩ := hrel
    by_cases hlt : k < 64
    · have t1 : decide ((k : Int) < 64) = true := decide_eq_true (by omega)
      have t2 : (k : Int) < 64 := by omega
      have vk := wrap_u8 (k + 1) (by omega)
      have CA := Lib.hid (fatFirst k hlt)
      have hlt2 := HP.out.1.lt
      go_wp2_with fail
      have hf : ∀ i, wr.drew.frozen? ⟨b, i, none⟩ = false := HP.out.1.drew.free
      have c0 : wr.drew.cell? ⟨b, k, none⟩ = some (oc ((zk k).cl k)) := HP.out.1.drew.cl hlt
      have HP2 : Hid (P (wr.setCell ⟨b, k, none⟩ (oc (firstC k))).drew b (zk (k + 1)) ∧ Below b w (wr.setCell ⟨b, k, none⟩ (oc (firstC k))).drew) := Lib.hid (by
        refine ⟨(zk_next k ▸ HP.out.1.setC hlt (firstC_lt k)).drew, ?_⟩
        exact below_drewN (HP.out.2.setCell (Nat.le_refl _) _) 1)
      clear HP
      refine wp_region_held_drew (S := (fun _ => True)) (by kernel_rfl) trivial (fun hHeld => ?_)
      refine' wpAnyH_take (i := 0) (oi := { dst := some 8, op := Go.Op.move (Go.Operand.tmp 1), type := 24, pos := "prio.go:23", after := #[], guard := none }) (v := _) rfl (by kernel_rfl) (by kernel_rfl) (by kernel_rfl) (fun _ _ _ h => h) (Or.inl ⟨by rfl, ?hy1⟩) (by assumption) ?hr1
      case hy1 => (intro _ hSw; (try dsimp only at hSw); go_simp <;> with_reducible rfl)
      simp only [Act.put, List.setIfInBounds_toArray, List.set_cons_zero, List.set_cons_succ]
      refine' wpAnyH_take (i := 1) (oi := { dst := some 9, op := Go.Op.move (Go.Operand.tmp 2), type := 5, pos := "prio.go:23", after := #[], guard := none }) (v := _) rfl (by kernel_rfl) (by kernel_rfl) (by kernel_rfl) (fun _ _ _ h => h) (Or.inl ⟨by rfl, ?hy2⟩) (by assumption) ?hr2
      case hy2 => (intro _ hSw; (try dsimp only at hSw); go_simp <;> with_reducible rfl)
      simp only [Act.put, List.setIfInBounds_toArray, List.set_cons_zero, List.set_cons_succ]
      refine' wpAnyH_take (i := 2) (oi := { dst := some 10, op := Go.Op.move (Go.Operand.tmp 2), type := 5, pos := "prio.go:23", after := #[], guard := none }) (v := _) rfl (by kernel_rfl) (by kernel_rfl) (by kernel_rfl) (fun _ _ _ h => h) (Or.inl ⟨by rfl, ?hy3⟩) (by assumption) ?hr3
      case hy3 => (intro _ hSw; (try dsimp only at hSw); go_simp <;> with_reducible rfl)
      simp only [Act.put, List.setIfInBounds_toArray, List.set_cons_zero, List.set_cons_succ]
      refine' wpAnyH_take (i := 4) (oi := { dst := some 12, op := Go.Op.nilCheck (Go.Operand.tmp 8), type := 0, pos := "prio.go:23", after := #[{ on := 0, ground := Go.Ground.data }], guard := none }) (v := _) rfl (by kernel_rfl) (by kernel_rfl) (by kernel_rfl) (fun _ _ _ h => h) (Or.inl ⟨by rfl, ?hy4⟩) (by assumption) ?hr4
      case hy4 => (intro _ hSw; (try dsimp only at hSw); go_simp <;> with_reducible rfl)
      simp only [Act.put, List.setIfInBounds_toArray, List.set_cons_zero, List.set_cons_succ]
      refine' wpAnyH_take (i := 5) (oi := { dst := some 13, op := Go.Op.fieldAddr 46 (Go.Operand.tmp 12) 0, type := 0, pos := "prio.go:23", after := #[{ on := 4, ground := Go.Ground.data }], guard := none }) (v := _) rfl (by kernel_rfl) (by kernel_rfl) (by kernel_rfl) (fun _ _ _ h => h) (Or.inl ⟨by rfl, ?hy5⟩) (by assumption) ?hr5
      case hy5 => (intro _ hSw; (try dsimp only at hSw); go_simp <;> with_reducible rfl)
      simp only [Act.put, List.setIfInBounds_toArray, List.set_cons_zero, List.set_cons_succ]
      refine wpAnyH_ready (rs := [3]) (by kernel_rfl) (by simp) ?_
      refine AllReadyH.cons (o := { dst := some 11, op := Go.Op.call { callee := Go.Callee.value (Go.Operand.func 20), args := #[Go.Operand.tmp 10], argTypes := #[5] }, type := 5, pos := "prio.go:23", after := #[{ on := 2, ground := Go.Ground.data }], guard := none }) rfl (fun K hK => ?_) AllReadyH.nil
      go_simp
      refine (CA.out _).mono ?_
      rintro _ _ ⟨rfl, rfl⟩
      go_wp2_with fail
      refine hK.out _ _ trivial (fun hNext => ?_)
      clear hK K hHeld
      have hHeld := hNext
      clear hNext
      (try simp only [Act.put, List.setIfInBounds_toArray, List.set_cons_zero, List.set_cons_succ])
      refine' wpAnyH_take (i := 6) (oi := { dst := some 14, op := Go.Op.indexAddr 43 (Go.Operand.tmp 13) (Go.Operand.tmp 9), type := 0, pos := "prio.go:23", after := #[{ on := 5, ground := Go.Ground.data }, { on := 1, ground := Go.Ground.data }, { on := 0, ground := Go.Ground.phase }, { on := 1, ground := Go.Ground.phase }, { on := 2, ground := Go.Ground.phase }, { on := 3, ground := Go.Ground.phase }], guard := none }) (v := _) rfl (by kernel_rfl) (by kernel_rfl) (by kernel_rfl) (fun _ _ _ h => h) (Or.inl ⟨by rfl, ?hy6⟩) (by assumption) ?hr6
      case hy6 => (intro _ hSw; (try dsimp only at hSw); go_simp <;> with_reducible rfl)
      simp only [Act.put, List.setIfInBounds_toArray, List.set_cons_zero, List.set_cons_succ]
      refine wpAnyH_ready (rs := [7]) (by kernel_rfl) (by simp) ?_
      refine AllReadyH.cons (o := { dst := none, op := Go.Op.store 5 (Go.Operand.tmp 14) (Go.Operand.tmp 11), type := 0, pos := "prio.go:23", after := #[{ on := 6, ground := Go.Ground.data }, { on := 3, ground := Go.Ground.data }, { on := 3, ground := Go.Ground.chain }, { on := 0, ground := Go.Ground.phase }, { on := 1, ground := Go.Ground.phase }, { on := 2, ground := Go.Ground.phase }, { on := 3, ground := Go.Ground.phase }], guard := none }) rfl (fun K hK => ?_) AllReadyH.nil
      go_simp
      refine hK.out _ _ trivial (fun hNext => ?_)
      clear hK K hHeld
      have hHeld := hNext
      clear hNext
      (try simp only [Act.put, List.setIfInBounds_toArray, List.set_cons_zero, List.set_cons_succ])
      refine wpAnyH_done (by kernel_rfl) ?_ _
      clear hHeld hf c0 CA
      generalize (wr.setCell ⟨b, k, none⟩ (oc (firstC k))).drew = w2 at HP2 ⊢
      go_wp2
      go_roundg (64 - (k + 1))
      case measure => omega
      case rel => exact ⟨k + 1, by first | rfl | go_num, Nat.le_refl _, by omega, HP2⟩
    · have hk : k = 64 := by omega
      subst hk
      go_wp2
      go_ret
      rw [HB.out]
      exact ⟨rfl, HP.out.1.start, HP.out.2⟩
theorem fclass_hi (b d : Nat) (hd : 64 ≤ d) (w : World) : Calls Try.prog 16 #[ptr b, oc d] w fun e w' => e = .returned (oc 0) ∧ w = w' := by
  have t0 : decide ((64 : Int) ≤ (d : Int)) = true := decide_eq_true (by omega)
  have t1 : (64 : Int) ≤ (d : Int) := by omega
  have t2 : ¬ (d : Int) < 64 := by omega
  have t3 : decide ((d : Int) < 64) = false := decide_eq_false (by omega)
  go_enter Try.func16, Try.ntmps16
  go_wp2
  go_ret
  exact ⟨rfl, rfl⟩
theorem fclass_nil (d : Nat) (w : World) : Calls Try.prog 16 #[.pointer none, oc d] w fun e w' => e = .returned (oc 0) ∧ w = w' := by
  go_enter Try.func16, Try.ntmps16
  go_wp2
  go_ret
  exact ⟨rfl, rfl⟩
theorem fready_hi (b d : Nat) (hd : 64 ≤ d) (w : World) : Calls Try.prog 15 #[ptr b, oc d] w fun e w' => e = .returned (.bool false) ∧ w = w' := by
  have t0 : decide ((64 : Int) ≤ (d : Int)) = true := decide_eq_true (by omega)
  have t1 : (64 : Int) ≤ (d : Int) := by omega
  have t2 : ¬ (d : Int) < 64 := by omega
  have t3 : decide ((d : Int) < 64) = false := decide_eq_false (by omega)
  go_enter Try.func15, Try.ntmps15
  go_wp2
  go_ret
  exact ⟨rfl, rfl⟩
theorem fready_nil (d : Nat) (w : World) : Calls Try.prog 15 #[.pointer none, oc d] w fun e w' => e = .returned (.bool false) ∧ w = w' := by
  go_enter Try.func15, Try.ntmps15
  go_wp2
  go_ret
  exact ⟨rfl, rfl⟩
theorem fsetC_hi (b d c : Nat) (hd : 64 ≤ d) (w : World) : Calls Try.prog 18 #[ptr b, oc d, oc c] w fun e w' => e = .returned (nm 2) ∧ w = w' := by
  have t0 : decide ((64 : Int) ≤ (d : Int)) = true := decide_eq_true (by omega)
  have t1 : (64 : Int) ≤ (d : Int) := by omega
  have t2 : ¬ (d : Int) < 64 := by omega
  have t3 : decide ((d : Int) < 64) = false := decide_eq_false (by omega)
  go_enter Try.func18, Try.ntmps18
  go_wp2
  go_ret
  exact ⟨rfl, rfl⟩
theorem fsetC_hi2 (b d c : Nat) (hd : d < 64) (hc : 64 ≤ c) (w : World) : Calls Try.prog 18 #[ptr b, oc d, oc c] w fun e w' => e = .returned (nm 2) ∧ w = w' := by
  have t0 : decide ((64 : Int) ≤ (d : Int)) = false := decide_eq_false (by omega)
  have t1 : ¬ (64 : Int) ≤ (d : Int) := by omega
  have t2 : (d : Int) < 64 := by omega
  have t3 : decide ((d : Int) < 64) = true := decide_eq_true (by omega)
  have s0 : decide ((64 : Int) ≤ (c : Int)) = true := decide_eq_true (by omega)
  have s1 : (64 : Int) ≤ (c : Int) := by omega
  have s2 : ¬ (c : Int) < 64 := by omega
  have s3 : decide ((c : Int) < 64) = false := decide_eq_false (by omega)
  go_enter Try.func18, Try.ntmps18
  go_wp2
  go_ret
  exact ⟨rfl, rfl⟩
theorem fsetC_nil (d c : Nat) (w : World) : Calls Try.prog 18 #[.pointer none, oc d, oc c] w fun e w' => e = .returned (nm 1) ∧ w = w' := by
  go_enter Try.func18, Try.ntmps18
  go_wp2
  go_ret
  exact ⟨rfl, rfl⟩
theorem fsetR_hi (b d : Nat) (o : Bool) (hd : 64 ≤ d) (w : World) : Calls Try.prog 17 #[ptr b, oc d, .bool o] w fun e w' => e = .returned (nm 2) ∧ w = w' := by
  have t0 : decide ((64 : Int) ≤ (d : Int)) = true := decide_eq_true (by omega)
  have t1 : (64 : Int) ≤ (d : Int) := by omega
  have t2 : ¬ (d : Int) < 64 := by omega
  have t3 : decide ((d : Int) < 64) = false := decide_eq_false (by omega)
  go_enter Try.func17, Try.ntmps17
  go_wp2
  go_ret
  exact ⟨rfl, rfl⟩
theorem fsetR_nil (d : Nat) (o : Bool) (w : World) : Calls Try.prog 17 #[.pointer none, oc d, .bool o] w fun e w' => e = .returned (nm 1) ∧ w = w' := by
  go_enter Try.func17, Try.ntmps17
  go_wp2
  go_ret
  exact ⟨rfl, rfl⟩
set_option maxHeartbeats 2000000 in
theorem fleast {w : World} {b : Nat} {x : St} (h : P w b x) : Calls Try.prog 26 #[ptr b] w fun e w' => e = .returned (oc x.least) ∧ w = w' := by
  have HP := Lib.hid h
  have hlt := h.lt
  clear h
  go_enter Try.func26, Try.ntmps26
  go_wp2_with fail
  go_loopg [3, 5] 64 (fun gm s3 s5 wr => ∃ (k v : Nat), s3 = oc v ∧ s5 = oc k ∧ 64 - k ≤ gm ∧ k ≤ 64 ∧ Hid (x.lt k = v) ∧ w = wr)
  case atStart => exact ⟨0, 64, rfl, rfl, by omega, by omega, Lib.hid rfl, rfl⟩
  case round =>
    obtain ⟨k, v, rfl, rfl, hgm, hkn, HV, rfl⟩ := hrel
    by_cases hlt : k < 64
    · have t1 : decide ((k : Int) < 64) = true := decide_eq_true (by omega)
      have t2 : (k : Int) < 64 := by omega
      have vk := wrap_u8 (k + 1) (by omega)
      have c0 := HP.out.cl hlt
      have c1 := HP.out.rd hlt
      have HN : Hid (x.lt (k + 1) = if x.rd k then min v (x.cl k) else v) := Lib.hid (by rw [← HV.out]; rfl)
      obtain ⟨c, hc⟩ : ∃ c, x.cl k = c := ⟨_, rfl⟩
      rw [hc] at c0 HN
      clear hc
      generalize x.rd k = r at c1 HN
      cases r with
      | true =>
        go_wp2
        go_roundg (64 - (k + 1))
        case measure => omega
        case rel => exact ⟨k + 1, min v c, by first | rfl | (congr 1; omega), by first | rfl | go_num, Nat.le_refl _, by omega, HN, rfl⟩
      | false =>
        go_wp2
        go_roundg (64 - (k + 1))
        case measure => omega
        case rel => exact ⟨k + 1, v, rfl, by first | rfl | go_num, Nat.le_refl _, by omega, HN, rfl⟩
    · have hk : k = 64 := by omega
      subst hk
      go_wp2
      go_ret
      exact ⟨by rw [← HV.out]; rfl, rfl⟩
theorem fmay_nil (d : Nat) (w : World) : Calls Try.prog 13 #[.pointer none, oc d] w fun e w' => e = .returned (.bool false) ∧ ∃ k, w' = w.drewN k := by
  have C := Lib.hid (fun k => fready_nil d (w.drewN k))
  go_enter Try.func13, Try.ntmps13
  go_wp2_with fail
  go_quiet (first | (go_at_call 15; exact quiet_left (C.out _)))
  go_wp2
  go_ret
  exact ⟨rfl, nq, rfl⟩
theorem fmay_hi (b d : Nat) (hd : 64 ≤ d) (w : World) : Calls Try.prog 13 #[ptr b, oc d] w fun e w' => e = .returned (.bool false) ∧ ∃ k, w' = w.drewN k := by
  have C := Lib.hid (fun k => fready_hi b d hd (w.drewN k))
  go_enter Try.func13, Try.ntmps13
  go_wp2_with fail
  go_quiet (first | (go_at_call 15; exact quiet_left (C.out _)))
  go_wp2
  go_ret
  exact ⟨rfl, nq, rfl⟩
theorem quiet_drew {P : Program} {f : FuncId} {args : Array Value} {w : World} {n : Nat} {v : Value}
    (h : Calls P f args (w.drewN n) fun e w' => e = .returned v ∧ ∃ k, w' = (w.drewN n).drewN k) : Calls P f args (w.drewN n) fun e w'' => e = .returned v ∧ ∃ m, w'' = w.drewN m :=
  h.mono fun _ _ ⟨he, k, hk⟩ => ⟨he, n + k, hk.trans (World.drewN_drewN _ _ _)⟩
theorem may_at {x : St} {d : Nat} (hd : d < 64) : x.may d = (x.rd d && decide (x.cl d = x.least)) := by
  unfold St.may; rw [decide_eq_true hd, Bool.true_and]
theorem oc_beq (a b : Nat) : ((a : Int) == (b : Int)) = decide (a = b) := by
  by_cases h : a = b
  · rw [decide_eq_true h, h]; exact beq_self_eq_true _
  · rw [decide_eq_false h]; exact beq_false (by omega)
set_option maxHeartbeats 2000000 in
theorem fmay {w : World} {b : Nat} {x : St} (h : P w b x) (d : Nat) (hd : d < 64) : Calls Try.prog 13 #[ptr b, oc d] w fun e w' => e = .returned (.bool (x.may d)) ∧ ∃ k, w' = w.drewN k := by
  have C := Lib.hid (fun k => fready (h.drewN k) d hd)
  have D := Lib.hid (fun k => fleast (h.drewN k))
  rw [may_at hd]
  have c0 := h.cl hd
  have hlt := h.lt
  have t2 : (d : Int) < 64 := by omega
  have e := oc_beq (x.cl d) x.least
  generalize x.least = l at D e ⊢
  obtain ⟨c, hc⟩ : ∃ c, x.cl d = c := ⟨_, rfl⟩
  rw [hc] at c0 e ⊢
  clear hc
  generalize x.rd d = r at C ⊢
  generalize decide (c = l) = q at e ⊢
  clear h
  cases r with
  | true =>
    go_enter Try.func13, Try.ntmps13
    go_wp2_with fail
    go_quiet (first | (go_at_call 15; exact quiet_left (C.out _)) | (go_at_call 26; exact quiet_left (D.out _)))
    go_wp2
    go_ret
    exact ⟨by first | rfl | trace_state, nq, rfl⟩
  | false =>
    go_enter Try.func13, Try.ntmps13
    go_wp2_with fail
    go_quiet (first | (go_at_call 15; exact quiet_left (C.out _)) | (go_at_call 26; exact quiet_left (D.out _)))
    go_wp2
    go_ret
    exact ⟨rfl, nq, rfl⟩
theorem ftake_no {w : World} {b : Value} {d : Nat} (hm : Calls Try.prog 13 #[b, oc d] w fun e w' => e = .returned (.bool false) ∧ ∃ k, w' = w.drewN k) : Calls Try.prog 19 #[b, oc d] w fun e w' => e = .returned (.bool false) ∧ ∃ k, w' = w.drewN k := by
  have C := Lib.hid hm
  clear hm
  go_enter Try.func19, Try.ntmps19
  go_wp2_with (go_at_call 13; refine C.out.mono ?_; rintro _ _ ⟨rfl, nq, rfl⟩)
  go_ret
  exact ⟨rfl, _, rfl⟩
set_option maxHeartbeats 2000000 in
theorem ftake_yes {w : World} {b : Nat} {x : St} (h : P w b x) (d : Nat) (hm : x.may d = true) : Calls Try.prog 19 #[ptr b, oc d] w fun e w' => e = .returned (.bool true) ∧ P w' b (x.tak d) ∧ Chg (Bs b) w w' := by
  have hd := (may_iff.1 hm).1
  have C := fmay h d hd
  rw [hm] at C
  have C := Lib.hid C
  have HP := Lib.hid h
  have HD := Lib.hid hd
  have hk := h.ok.cl d
  have t2 : (d : Int) < 64 := by omega
  obtain ⟨e, he⟩ : ∃ e, d + 1 = e := ⟨_, rfl⟩
  have vk : IntKind.u8.wrap ((d : Int) + 1) = (e : Int) := by rw [IntKind.wrap_u8]; omega
  have HE := Lib.hid he
  clear h hm hd he
  go_enter Try.func19, Try.ntmps19
  go_wp2_with fail
  refine C.out.mono ?_
  rintro _ _ ⟨rfl, nq, rfl⟩
  have HQ := Lib.hid (And.intro (HP.out.drewN nq) (Chg.drewN (Chg.refl (Bs b) w) nq))
  clear HP C
  generalize w.drewN nq = w1 at HQ ⊢
  go_wp2_with fail
  have c0 : w1.drew.cell? ⟨b, d, none⟩ = some (oc (x.cl d)) := HQ.out.1.drew.cl HD.out
  have c1 : w1.drew.cell? ⟨b, 128 + x.cl d, none⟩ = some (oc (x.la (x.cl d))) := HQ.out.1.drew.la hk
  have hf : ∀ i, w1.drew.frozen? ⟨b, i, none⟩ = false := HQ.out.1.drew.free
  have HP : Hid (P (w1.setCell ⟨b, 128 + x.cl d, none⟩ (oc e)).drew b (x.tak d) ∧ Chg (Bs b) w (w1.setCell ⟨b, 128 + x.cl d, none⟩ (oc e)).drew) := Lib.hid
    ⟨(HE.out ▸ HQ.out.1.tak HD.out).drew, (HQ.out.2.setCell b _ _ fun _ => rfl).drew⟩
  obtain ⟨c, hc⟩ : ∃ c, x.cl d = c := ⟨_, rfl⟩
  rw [hc] at c0 c1 HP hk
  have t3 : (c : Int) < 64 := by omega
  clear hc HQ
  refine wp_region_held_drew (S := (fun _ => True)) (by kernel_rfl) trivial (fun hHeld => ?_)
  refine' wpAnyH_take (i := 0) (oi := { dst := some 9, op := Go.Op.move (Go.Operand.tmp 0), type := 24, pos := "prio.go:75", after := #[], guard := none }) (v := _) rfl (by kernel_rfl) (by kernel_rfl) (by kernel_rfl) (fun _ _ _ h => h) (Or.inl ⟨by rfl, ?hy7⟩) (by assumption) ?hr7
  case hy7 => (intro _ hSw; (try dsimp only at hSw); go_simp <;> with_reducible rfl)
  simp only [Act.put, List.setIfInBounds_toArray, List.set_cons_zero, List.set_cons_succ]
  refine' wpAnyH_take (i := 1) (oi := { dst := some 10, op := Go.Op.move (Go.Operand.tmp 0), type := 24, pos := "prio.go:75", after := #[], guard := none }) (v := _) rfl (by kernel_rfl) (by kernel_rfl) (by kernel_rfl) (fun _ _ _ h => h) (Or.inl ⟨by rfl, ?hy8⟩) (by assumption) ?hr8
  case hy8 => (intro _ hSw; (try dsimp only at hSw); go_simp <;> with_reducible rfl)
  simp only [Act.put, List.setIfInBounds_toArray, List.set_cons_zero, List.set_cons_succ]
  refine' wpAnyH_take (i := 2) (oi := { dst := some 11, op := Go.Op.move (Go.Operand.tmp 1), type := 5, pos := "prio.go:75", after := #[], guard := none }) (v := _) rfl (by kernel_rfl) (by kernel_rfl) (by kernel_rfl) (fun _ _ _ h => h) (Or.inl ⟨by rfl, ?hy9⟩) (by assumption) ?hr9
  case hy9 => (intro _ hSw; (try dsimp only at hSw); go_simp <;> with_reducible rfl)
  simp only [Act.put, List.setIfInBounds_toArray, List.set_cons_zero, List.set_cons_succ]
  refine' wpAnyH_take (i := 3) (oi := { dst := some 12, op := Go.Op.nilCheck (Go.Operand.tmp 10), type := 0, pos := "prio.go:75", after := #[{ on := 1, ground := Go.Ground.data }], guard := none }) (v := _) rfl (by kernel_rfl) (by kernel_rfl) (by kernel_rfl) (fun _ _ _ h => h) (Or.inl ⟨by rfl, ?hy10⟩) (by assumption) ?hr10
  case hy10 => (intro _ hSw; (try dsimp only at hSw); go_simp <;> with_reducible rfl)
  simp only [Act.put, List.setIfInBounds_toArray, List.set_cons_zero, List.set_cons_succ]
  refine' wpAnyH_take (i := 4) (oi := { dst := some 13, op := Go.Op.fieldAddr 46 (Go.Operand.tmp 12) 0, type := 0, pos := "prio.go:75", after := #[{ on := 3, ground := Go.Ground.data }], guard := none }) (v := _) rfl (by kernel_rfl) (by kernel_rfl) (by kernel_rfl) (fun _ _ _ h => h) (Or.inl ⟨by rfl, ?hy11⟩) (by assumption) ?hr11
  case hy11 => (intro _ hSw; (try dsimp only at hSw); go_simp <;> with_reducible rfl)
  simp only [Act.put, List.setIfInBounds_toArray, List.set_cons_zero, List.set_cons_succ]
  refine' wpAnyH_take (i := 5) (oi := { dst := some 14, op := Go.Op.indexAddr 43 (Go.Operand.tmp 13) (Go.Operand.tmp 11), type := 0, pos := "prio.go:75", after := #[{ on := 4, ground := Go.Ground.data }, { on := 2, ground := Go.Ground.data }], guard := none }) (v := _) rfl (by kernel_rfl) (by kernel_rfl) (by kernel_rfl) (fun _ _ _ h => h) (Or.inl ⟨by rfl, ?hy12⟩) (by assumption) ?hr12
  case hy12 => (intro _ hSw; (try dsimp only at hSw); go_simp <;> with_reducible rfl)
  simp only [Act.put, List.setIfInBounds_toArray, List.set_cons_zero, List.set_cons_succ]
  refine' wpAnyH_take (i := 7) (oi := { dst := some 16, op := Go.Op.move (Go.Operand.tmp 1), type := 5, pos := "prio.go:75", after := #[], guard := none }) (v := _) rfl (by kernel_rfl) (by kernel_rfl) (by kernel_rfl) (fun _ _ _ h => h) (Or.inl ⟨by rfl, ?hy13⟩) (by assumption) ?hr13
  case hy13 => (intro _ hSw; (try dsimp only at hSw); go_simp <;> with_reducible rfl)
  simp only [Act.put, List.setIfInBounds_toArray, List.set_cons_zero, List.set_cons_succ]
  refine' wpAnyH_take (i := 8) (oi := { dst := some 17, op := Go.Op.binOp Go.BinOp.add 5 (Go.Operand.tmp 16) (Go.Operand.const (Go.Value.int Go.IntKind.u8 1)) 5, type := 5, pos := "prio.go:75", after := #[{ on := 7, ground := Go.Ground.data }], guard := none }) (v := _) rfl (by kernel_rfl) (by kernel_rfl) (by kernel_rfl) (fun _ _ _ h => h) (Or.inl ⟨by rfl, ?hy14⟩) (by assumption) ?hr14
  case hy14 => (intro _ hSw; (try dsimp only at hSw); go_simp <;> with_reducible rfl)
  simp only [Act.put, List.setIfInBounds_toArray, List.set_cons_zero, List.set_cons_succ]
  refine' wpAnyH_take (i := 9) (oi := { dst := some 18, op := Go.Op.nilCheck (Go.Operand.tmp 9), type := 0, pos := "prio.go:75", after := #[{ on := 0, ground := Go.Ground.data }], guard := none }) (v := _) rfl (by kernel_rfl) (by kernel_rfl) (by kernel_rfl) (fun _ _ _ h => h) (Or.inl ⟨by rfl, ?hy15⟩) (by assumption) ?hr15
  case hy15 => (intro _ hSw; (try dsimp only at hSw); go_simp <;> with_reducible rfl)
  simp only [Act.put, List.setIfInBounds_toArray, List.set_cons_zero, List.set_cons_succ]
  refine' wpAnyH_take (i := 10) (oi := { dst := some 19, op := Go.Op.fieldAddr 46 (Go.Operand.tmp 18) 2, type := 0, pos := "prio.go:75", after := #[{ on := 9, ground := Go.Ground.data }], guard := none }) (v := _) rfl (by kernel_rfl) (by kernel_rfl) (by kernel_rfl) (fun _ _ _ h => h) (Or.inl ⟨by rfl, ?hy16⟩) (by assumption) ?hr16
  case hy16 => (intro _ hSw; (try dsimp only at hSw); go_simp <;> with_reducible rfl)
  simp only [Act.put, List.setIfInBounds_toArray, List.set_cons_zero, List.set_cons_succ]
  refine wpAnyH_ready (rs := [6]) (by kernel_rfl) (by simp) ?_
  refine AllReadyH.cons (o := { dst := some 15, op := Go.Op.load 5 (Go.Operand.tmp 14), type := 5, pos := "prio.go:75", after := #[{ on := 5, ground := Go.Ground.data }], guard := none }) rfl (fun K hK => ?_) AllReadyH.nil
  go_simp
  refine hK.out _ _ trivial (fun hNext => ?_)
  clear hK K hHeld
  have hHeld := hNext
  clear hNext
  (try simp only [Act.put, List.setIfInBounds_toArray, List.set_cons_zero, List.set_cons_succ])
  refine' wpAnyH_take (i := 11) (oi := { dst := some 20, op := Go.Op.indexAddr 43 (Go.Operand.tmp 19) (Go.Operand.tmp 15), type := 0, pos := "prio.go:75", after := #[{ on := 10, ground := Go.Ground.data }, { on := 6, ground := Go.Ground.data }, { on := 0, ground := Go.Ground.phase }, { on := 1, ground := Go.Ground.phase }, { on := 2, ground := Go.Ground.phase }, { on := 3, ground := Go.Ground.phase }, { on := 4, ground := Go.Ground.phase }, { on := 5, ground := Go.Ground.phase }, { on := 6, ground := Go.Ground.phase }, { on := 7, ground := Go.Ground.phase }, { on := 8, ground := Go.Ground.phase }], guard := none }) (v := _) rfl (by kernel_rfl) (by kernel_rfl) (by kernel_rfl) (fun _ _ _ h => h) (Or.inl ⟨by rfl, ?hy17⟩) (by assumption) ?hr17
  case hy17 => (intro _ hSw; (try dsimp only at hSw); go_simp <;> with_reducible rfl)
  simp only [Act.put, List.setIfInBounds_toArray, List.set_cons_zero, List.set_cons_succ]
  refine wpAnyH_ready (rs := [12]) (by kernel_rfl) (by simp) ?_
  refine AllReadyH.cons (o := { dst := none, op := Go.Op.store 5 (Go.Operand.tmp 20) (Go.Operand.tmp 17), type := 0, pos := "prio.go:75", after := #[{ on := 11, ground := Go.Ground.data }, { on := 8, ground := Go.Ground.data }, { on := 0, ground := Go.Ground.phase }, { on := 1, ground := Go.Ground.phase }, { on := 2, ground := Go.Ground.phase }, { on := 3, ground := Go.Ground.phase }, { on := 4, ground := Go.Ground.phase }, { on := 5, ground := Go.Ground.phase }, { on := 6, ground := Go.Ground.phase }, { on := 7, ground := Go.Ground.phase }, { on := 8, ground := Go.Ground.phase }], guard := none }) rfl (fun K hK => ?_) AllReadyH.nil
  go_simp
  refine hK.out _ _ trivial (fun hNext => ?_)
  clear hK K hHeld
  have hHeld := hNext
  clear hNext
  (try simp only [Act.put, List.setIfInBounds_toArray, List.set_cons_zero, List.set_cons_succ])
  refine wpAnyH_done (by kernel_rfl) ?_ _
  clear hHeld hf c0 c1
  generalize (w1.setCell ⟨b, 128 + c, none⟩ (oc e)).drew = w2 at HP ⊢
  go_wp2
  go_ret
  exact ⟨rfl, HP.out⟩
end Go.Proofs.Ytiicgfkcjpeiiaa.Pi
