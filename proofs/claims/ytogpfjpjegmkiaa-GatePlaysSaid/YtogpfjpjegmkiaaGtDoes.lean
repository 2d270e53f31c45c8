/-
  What New, Stop, Stopped of the program's own answer; a row of octets that a call makes. Condition: it lies where it says.
-/
import Derived.Test.YtogpfjpjegmkiaaGtMem
import Derived.Test.YtogpfjpjegmkiaaOwnS
namespace Go.Proofs.Ytogpfjpjegmkiaa.Gt
open Go.RowKit Go.Proofs.Ytogpfjpjegmkiaa.Base Go.Proofs.Ytogpfjpjegmkiaa.Mem Go.Proofs.Ytogpfjpjegmkiaa.Cr
abbrev fcC (c : Nat) : List Value := [oc c]
theorem eltU : Elt 5 32 1 fcC :=
  ⟨Try.underlying32, ⟨.int .u8 0, 1, by kernel_rfl, rfl, by decide⟩, fun _ => rfl, fun x u hu => by
    simp only [fcC, List.mem_cons, List.not_mem_nil, or_false] at hu
    rcases hu with rfl; rfl, by decide⟩
theorem infoU : (Try.prog.info? 5).map (fun i => (i.zero, i.size, i.bytes)) = some (some (.int .u8 0), 1, 1) := by kernel_rfl
theorem row1 (w : World) (v : Value) (T : TypeId) : ∀ j, j < 1 → (w.alloc (.cells #[v] T (0, 0))).cell? ⟨w.heap.size, j, none⟩ = ([v] : List Value)[j]? := by
  intro j hj
  have hb : (w.alloc (.cells #[v] T (0, 0))).heap[w.heap.size]? = some (.cells #[v] T (0, 0)) := nest w [_] 0 _ rfl
  obtain rfl : j = 0 := by omega
  exact cell_of hb rfl
/-- A row of octets, in memory made since w0. -/
structure Gs (w0 : World) (v : Value) (l : List Nat) (w : World) : Prop where
  own : OwnS 5 1 fcC w w0.heap.size v l
  below : Below w0.heap.size w0 w
section
variable {w0 w w' : World} {v : Value} {l : List Nat}
theorem Gs.on (h : Gs w0 v l w) (hb : Below w.heap.size w w') : Gs w0 v l w' := ⟨h.own.below hb, below_on h.below hb⟩
theorem Gs.drewN (h : Gs w0 v l w) (n : Nat) : Gs w0 v l (w.drewN n) := h.on ⟨rfl, rfl, rfl, Nat.le_refl _, fun _ _ => rfl⟩
theorem Gs.cast {m : List Nat} (h : Gs w0 v l w) (e : m = l) : Gs w0 v m w := e ▸ h
theorem Gs.nil (w : World) : Gs w (.slice none 0 0) [] w := ⟨ownS_nil _ _, Below.refl _ _⟩
section
variable {ops : Array Oper} {rest : List Oper} {o : Oper} {a : Act} {Q : Exit → Act → World → Prop} {s z p q : Operand} {c : Nat}
theorem Gs.app (h : Gs w0 v l w) (d : Nat) (hl : l.length ≤ 1000) (hgd : o.guard = none) (hop : o.op = .call { callee := .builtin .append, args := #[s, z], argTypes := #[32, 32] })
    (hs : a.eval s = v) (hx : a.eval z = .slice (some ⟨w.heap.size, 0, none⟩) 1 c)
    (k : ∀ v4 w4, Hid (Gs w0 v4 (l ++ [d]) w4) → wpList Try.prog ops Q rest (a.put o.dst v4) w4) :
    wpList Try.prog ops Q (o :: rest) a (w.alloc (.cells #[oc d] 5 (0, 0))) :=
  wpList_append_elt eltU _ hgd s z hop w0.heap.size v hs l (h.own.alloc _) w.heap.size c hx d (row1 w (oc d) _) (by omega) (by have := h.below.size; simp; omega) fun v4 w4 ho hg _ => by
    have hb := h.below.alloc h.below.size (.cells #[oc d] 5 (0, 0))
    have hcg := Chg.of_grown (S := fun k => v.ownBlock = some k) hg fun _ e => e
    exact k v4 w4 (Lib.hid ⟨ho, hcg.below hb hb.size fun k hk => (h.own.lt k hk).1⟩)
theorem made_row (hgd : o.guard = none) (hop : o.op = Op.makeSlice 32 p q) {k : Nat} (hk : k < 128) (hp : a.eval p = nm 0) (hq : a.eval q = nm k)
    (K : ∀ v4 w4, Hid (Gs w v4 [] w4) → wpList Try.prog ops Q rest (a.put o.dst v4) w4) : wpList Try.prog ops Q (o :: rest) a w := by
  obtain ⟨i, hi, hz0, hz1, hz2⟩ := info_parts infoU
  refine wpList_make_own w hgd p q 32 hop w.heap.size 5 i _ 1 Try.underlying32 hi hz0 hz1 .i64 .i64 (k : Int) k hp hq rfl (by rw [hz2]; omega) (by unfold maxLen; omega) (Nat.le_refl _) fun w' ho hg => K _ _ (Lib.hid ⟨ho, ?_⟩)
  exact (Chg.of_grown (S := fun _ => False) hg fun _ e => by cases e).below (Below.refl _ _) (Nat.le_refl _) fun _ e => e.elim
end
end
section
variable {ops : Array Oper} {rest : List Oper} {a : Act} {Q : Exit → Act → World → Prop} {d : Option Tmp} {x : Operand} {ty : TypeId} {pos : String} {af : Array Edge} {w : World} {T : Nat}
theorem bdB {parts : Array (Nat × Operand)} {l : List (Nat × Value)} {c : Array Value} (hb : Try.prog.built T l = some c) (hl : (parts.map fun (i, x) => (i, a.eval x)).toList = l) (k : wpList Try.prog ops Q rest (a.put d (.agg c)) w) :
    wpList Try.prog ops Q ({ dst := d, op := .build T parts, type := ty, pos := pos, after := af, guard := none } :: rest) a w := by
  subst hl
  refine wpList_build rfl T parts rfl (by rw [hb]; rfl) ?_
  rw [hb]
  exact k
theorem bxB (c : Array Value) (hx : a.eval x = .agg c) (k : wpList Try.prog ops Q rest (a.put d (ptr w.heap.size)) (w.alloc (.cells c T))) :
    wpList Try.prog ops Q ({ dst := d, op := .box T x, type := ty, pos := pos, after := af, guard := none } :: rest) a w :=
  wpList_plain rfl fun _ hK => by
    unfold Oper.wp execOp
    simp only [hx, Instr.box, newVar, newRow, Value.cells, Sem.run_bind, Sem.run_pure, Result.andThen_ok, run_newObj]
    exact hK _ _ k
end
abbrev z0 : Array Value := #[.bool false, .int .u64 0]
theorem built0 : Try.prog.built PT [] = some z0 := by kernel_rfl
theorem fnew (w : World) : Calls Try.prog 8 #[] w fun e w' => e = .returned (ptr w.heap.size) ∧ P w' w.heap.size St.new ∧ Below w.heap.size w w' := by
  have HC := Lib.hid built0
  go_enter Try.func8, Try.ntmps8
  go_wp2_with (first
    | ((with_reducible refine bdB HC.out ?hl ?_); (case hl => kernel_rfl))
    | ((with_reducible refine bxB z0 ?hx ?_); (case hx => rfl)))
  go_ret
  exact ⟨rfl, ⟨nest w [_] 0 _ rfl, .new⟩, nest_below w [_]⟩
section
variable {w : World} {b : Nat} {x : St}
set_option maxHeartbeats 4000000 in
theorem fstop_on (h : P w b x) (d : Nat) (hd : 0 < d ∧ d ≤ 63) : Calls Try.prog 18 #[ptr b, oc d, .bool true] w fun e w' => e = .returned (.tuple #[]) ∧ P w' b (x.stop d true) ∧ Chg (Bs b) w w' := by
  have CS := Lib.hid (fun w => fstop1 d hd w)
  have cb := fun w => fbit d (by omega) w
  have hc := h.drew.c1
  have hf := h.drew.free
  have hl := h.lt
  have e0 := bit_on (n := x.n) (d := d) h.ok.lt (by omega)
  have HX := Lib.hid (And.intro (h.stop true hd).drew ((Chg.set (S := Bs b) b 1 (lm (setB x.n d true)) rfl w).drew))
  generalize x.stop d true = z at HX ⊢
  generalize setB x.n d true = m at HX e0
  generalize x.n = n at hc e0
  generalize 2 ^ d = p at cb e0
  have CB := Lib.hid cb
  clear h hd cb
  go_enter Try.func18, Try.ntmps18
  go_wp2_with fail
  refine (CS.out _).mono ?_
  rintro _ _ ⟨rfl, rfl⟩
  go_wp2_with fail
  go_region_with (go_at_call 22; refine (CB.out _).mono ?_; rintro _ _ ⟨rfl, rfl⟩)
  all_goals (go_wp2; go_end0; exact ⟨rfl, HX.out⟩)
set_option maxHeartbeats 4000000 in
theorem fstop_off (h : P w b x) (d : Nat) (hd : 0 < d ∧ d ≤ 63) : Calls Try.prog 18 #[ptr b, oc d, .bool false] w fun e w' => e = .returned (.tuple #[]) ∧ P w' b (x.stop d false) ∧ Chg (Bs b) w w' := by
  have CS := Lib.hid (fun w => fstop1 d hd w)
  have cb := fun w => fbit d (by omega) w
  have hc := h.drew.c1
  have hf := h.drew.free
  have hl := h.lt
  have e0 := bit_off (n := x.n) (d := d) h.ok.lt (by omega)
  have HX := Lib.hid (And.intro (h.stop false hd).drew ((Chg.set (S := Bs b) b 1 (lm (setB x.n d false)) rfl w).drew))
  generalize x.stop d false = z at HX ⊢
  generalize setB x.n d false = m at HX e0
  generalize x.n = n at hc e0
  generalize 2 ^ d = p at cb e0
  have CB := Lib.hid cb
  clear h hd cb
  go_enter Try.func18, Try.ntmps18
  go_wp2_with fail
  refine (CS.out _).mono ?_
  rintro _ _ ⟨rfl, rfl⟩
  go_wp2_with fail
  go_region_with (go_at_call 22; refine (CB.out _).mono ?_; rintro _ _ ⟨rfl, rfl⟩)
  all_goals (go_wp2; go_end0; exact ⟨rfl, HX.out⟩)
theorem fstop (h : P w b x) (d : Nat) (y : Bool) : Calls Try.prog 18 #[ptr b, oc d, .bool y] w fun e w' => e = .returned (.tuple #[]) ∧ P w' b (x.stop d y) ∧ Chg (Bs b) w w' := by
  by_cases hd : 0 < d ∧ d ≤ 63
  · cases y with
    | true => exact fstop_on h d hd
    | false => exact fstop_off h d hd
  · rw [stop_no y hd]
    exact (fstop_no b d y hd w).mono fun _ _ ⟨he, hw⟩ => ⟨he, hw ▸ ⟨h, Chg.refl _ _⟩⟩
theorem fstopped_nil (w : World) : Calls Try.prog 14 #[.pointer none] w fun e w' => e = .returned (.slice none 0 0) ∧ w = w' := by
  go_enter Try.func14, Try.ntmps14
  go_wp2
  go_ret
  exact ⟨rfl, rfl⟩
set_option maxHeartbeats 4000000 in
theorem fstopped (h : P w b x) : Calls Try.prog 14 #[ptr b] w fun e w' => ∃ v, e = .returned v ∧ Gs w v (x.sl 64) w' := by
  have CO := Lib.hid (fun w => fones x.n w)
  have HP := Lib.hid h
  have c1 := h.c1
  have hl := h.lt
  clear h
  go_enter Try.func14, Try.ntmps14
  go_wp2_with fail
  refine (CO.out _).mono ?_
  rintro _ _ ⟨⟨k, hk, rfl⟩, rfl⟩
  have HK := Lib.hid hk
  clear hk c1 CO
  go_wp2_with (at_make; refine made_row rfl rfl HK.out rfl rfl ?_; intro v4 w4 h1; have H1 := h1; clear h1)
  go_loopg [3, 4, 13] 64 (fun gm s3 s4 s13 wr => ∃ k : Nat, s13 = oc k ∧ 64 - k ≤ gm ∧ k ≤ 64 ∧ Hid (Gs w s3 (x.sl k) wr))
  case atStart => exact ⟨0, rfl, by omega, by omega, H1⟩
  case round =>
    clear H1
    obtain ⟨k, rfl, hgm, hk64, HG⟩ := hrel
    by_cases hlt : k < 64
    · have t1 : decide ((k : Int) < 64) = true := decide_eq_true (by omega)
      have t2 : (k : Int) < 64 := by omega
      have vk := wrap_u8 (k + 1) (by omega)
      have c1 := (HP.out.below (HG.out.below)).c1
      have hl2 := (HP.out.below (HG.out.below)).lt
      have cb := fun w => fbit k hlt w
      obtain ⟨q, e0, e1, e2⟩ := bit_test (n := x.n) (d := k) HP.out.ok.lt hlt
      have HN := Lib.hid (sl_next x k)
      have HL : Hid ((x.sl k).length ≤ 1000) := Lib.hid (by have := sl_len x k; omega)
      change x.st k = true → q ≠ 0 at e1
      change x.st k = false → q = 0 at e2
      generalize x.st k = s at e1 e2 HN
      generalize 2 ^ k = p at cb e0
      have CB := Lib.hid cb
      clear cb
      cases s with
      | true =>
        have q0 : ((q : Int) == 0) = false := beq_false (by have := e1 rfl; omega)
        clear e1 e2
        go_wp2_with fail
        go_quiet (first | (go_at_call 22; exact quiet_left (CB.out _)))
        have HG2 := Lib.hid (HG.out.drewN nq)
        clear HG CB c1 hl2
        generalize wr.drewN nq = w2 at HG2 ⊢
        go_wp2_with (at_builtin; refine HG2.out.app k HL.out rfl rfl rfl rfl ?_; intro v4 w4 h1; have HG3 := h1; clear h1)
        have HG4 := Lib.hid (HG3.out.cast HN.out)
        go_roundg (64 - (k + 1))
        case measure => omega
        case rel => exact ⟨k + 1, by first | rfl | go_num, Nat.le_refl _, by omega, HG4⟩
      | false =>
        have hq := e2 rfl
        subst hq
        clear e1 e2
        go_wp2_with fail
        go_quiet (first | (go_at_call 22; exact quiet_left (CB.out _)))
        have HG2 := Lib.hid (HG.out.drewN nq)
        clear HG CB c1 hl2
        generalize wr.drewN nq = w2 at HG2 ⊢
        go_wp2
        have HG4 := Lib.hid (HG2.out.cast HN.out)
        go_roundg (64 - (k + 1))
        case measure => omega
        case rel => exact ⟨k + 1, by first | rfl | go_num, Nat.le_refl _, by omega, HG4⟩
    · obtain rfl : k = 64 := by omega
      go_wp2
      go_ret
      exact ⟨_, rfl, HG.out⟩
end
end Go.Proofs.Ytogpfjpjegmkiaa.Gt
