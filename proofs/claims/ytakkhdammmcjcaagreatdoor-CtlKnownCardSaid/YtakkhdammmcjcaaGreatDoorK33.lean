/-
  Layer 22, put together: CtlDoes, PnOpen, MscOpen, Args, MsgsOpen. Conditions: as each theorem names them.
-/
import Derived.Test.YtakkhdammmcjcaaGreatDoorK32
import Derived.Test.YtakkhdammmcjcaaGreatDoorK01
import Derived.Test.YtakkhdammmcjcaaGreatDoorRows
import Derived.Test.YtakkhdammmcjcaaGreatDoorK04
import Derived.Test.YtakkhdammmcjcaaGreatDoorK05
import Derived.Test.YtakkhdammmcjcaaGreatDoorK06
import Derived.ProofKit
import Derived.OpenShut
namespace Go.Proofs.YtakkhdammmcjcaaGreatDoor.Ctl
open Go.RowKit Base Mem Msgs Cr
set_option maxRecDepth 100000
/-- A call to a side. -/
def stp (x : Ct) (q : Cl) : Ct :=
 if place q.k 5 = 0 then x.ask q.m else if place q.k 5 = 1 then x.next.2 else if place q.k 5 = 2 then (x.hear (putS q.m ++ q.s)).1 else x.tick.1
theorem say_any (t2 : Nat) : ∀ l : List Wt, (say t2 l).1.isSome = l.any (fun w => w.lf == 0)
 | [] => rfl
 | w :: r => by
  unfold say
  by_cases h : w.lf = 0
  · rw [if_pos h, List.any_cons, h]; rfl
  · rw [if_neg h, List.any_cons, beq_eq_false_iff_ne.2 h, Bool.false_or]; exact say_any t2 r
theorem has_next (x : Ct) : x.has = x.next.1.isSome := by
 unfold Ct.has Ct.next
 cases h : x.an with
 | nil => rw [← say_any x.t2]; simp
 | cons a r => simp
theorem putS_few (m : Ms) : (putS m).size ≤ 200 := by
 by_cases h0 : putE m = 0
 · rw [putS_size h0]
   have := (putE_may h0).2
   omega
 · unfold putS putE at *
   split
   · next e =>
     rw [if_pos e] at h0
     unfold Tlv.putS
     rw [if_neg h0]; exact Nat.zero_le _
   · exact Nat.zero_le _
theorem xm_at {u : World} {g : Nat} {q : Cl} (h : u.heap[g]? = some (.cells (xl q).toArray QT (0, 0))) : u.rangeAt g 1 (ml q.m) := fun j v hv => by
 have hj : j < 20 := (List.getElem?_eq_some_iff.1 hv).1
 have := rangez_of (vs := xl q) h (j + 1) v (by unfold xl; rw [List.getElem?_cons_succ, List.getElem?_append_left hj]; exact hv)
 rw [show 1 + j = 0 + (j + 1) by omega]
 exact this
theorem xs_at {u : World} {g : Nat} {q : Cl} (h : u.heap[g]? = some (.cells (xl q).toArray QT (0, 0))) : u.cell? ⟨g, 0, none⟩ = some (.int .i64 q.k) ∧ u.cell? ⟨g, 21, none⟩ = some (.string q.s) := ⟨cell_of h rfl, cell_of h rfl⟩
theorem builtGz : Tryz.prog.built GT [] = some (fc zG) := by kernel_rfl
section
variable {w0 u : World} {c r kb : Nat} {ko : Obj} {a b t n : Int} {x : Ct} {v : Value} {F : List Fa}
set_option maxHeartbeats 8000000 in
theorem does0 (q : Cl) (hq : q.Fit) (h0 : Bo w0 c r a b t n kb ko x x v F u) (hp : place q.k 5 = 0) : Calls Tryz.prog 14 #[ptr c, ptr r, xv q] u fun e u' => e = .returned (.bool true) ∧ ∃ kb ko, Bo w0 c r a b t n kb ko (x.ask q.m) (x.ask q.m) NS [] u' := by
 have cp := fun w => pick q.k 5 (by decide) (by decide) w
 rw [hp] at cp
 have CP := Lib.hid cp
 have H0 := Lib.hid h0
 have HQ := Lib.hid hq
 clear cp hp h0 hq
 go_enter Tryz.func14, Tryz.ntmps14
 go_wp2_with (first
  | ((with_reducible refine bxz (xl q).toArray ?hx ?_); (case hx => rfl); intro b5 w1 h F; have HB1 := Lib.hid (H0.out.key F.below h (Nat.le_of_eq F.eq.symm)); obtain ⟨k1, k2⟩ := xs_at HB1.out.kept; clear h F)
  | (go_at_call 26; refine (CP.out _).mono ?_; rintro _ w2 ⟨rfl, rfl⟩))
 have CA1 := Lib.hid (bask1 HB1.out q.m HQ.out.m (by have := HQ.out.b; omega))
 replace CA1 := Lib.hid (bask1 (HB1.out.on (u' := w1.drew) ⟨rfl, rfl, rfl, Nat.le_refl _, fun _ _ => rfl⟩) q.m HQ.out.m (by have := HQ.out.b; omega))
 refine wp_region_held_drew (S := (fun w' => w'.heap[b5]? = some (.cells (xl q).toArray QT (0, 0)))) (by kernel_rfl) HB1.out.kept (fun hHeld => ?_)
 refine' tk9 0 rfl ?_
 refine' tk9 1 rfl ?_
 refine' tv9 2 rfl (by intro _ hSw; (try dsimp only at hSw); refine ex_ldr isM (xm_at hSw) ?_; rfl) ?_
 refine' tk9 4 rfl ?_
 refine' tk9 5 rfl ?_
 refine' tv9 6 rfl (by intro _ hSw; (try dsimp only at hSw); refine ex_ldr isM (xm_at hSw) ?_; rfl) ?_
 refine ry [3] (.cons rfl (fun K hK => ?_) .nil)
 go_simp
 (with_reducible refine CA1.out.mono ?_)
 rintro e w8 ⟨rfl, h8⟩
 go_wp2_with fail
 have HB8 := Lib.hid h8
 clear h8
 have HS3 := Lib.hid HB8.out.kept
 refine hK.out _ _ HS3.out (fun hNext => ?_)
 clear hK K hHeld
 have hHeld := hNext; clear hNext
 (try simp only [Act.put, z1', z2', z3'])
 refine ry [7] (.cons rfl (fun K hK => ?_) .nil)
 go_simp
 (with_reducible refine (fref q.m _).mono ?_)
 rintro e w9 ⟨rfl, hb⟩
 go_wp2_with fail
 have HB9 := Lib.hid (HB8.out.on hb)
 clear hb
 have HS7 := Lib.hid HB9.out.kept
 refine hK.out _ _ HS7.out (fun hNext => ?_)
 clear hK K hHeld
 have hHeld := hNext; clear hNext
 (try simp only [Act.put, z1', z2', z3'])
 refine ry [8] (.cons rfl (fun K hK => ?_) .nil)
 go_simp
 (with_reducible refine (bask2 HB9.out q.m HQ.out.m).mono ?_)
 rintro e w10 ⟨rfl, h10⟩
 go_wp2_with fail
 have HB10 := Lib.hid h10
 clear h10
 have HS8 := Lib.hid HB10.out.kept
 refine hK.out _ _ HS8.out (fun hNext => ?_)
 clear hK K hHeld
 have hHeld := hNext; clear hNext
 (try simp only [Act.put, z1', z2', z3'])
 refine' tk9 9 rfl ?_
 refine' tk9 10 rfl ?_
 refine wpAnyH_done (by kernel_rfl) ?_ _
 clear hHeld HS3 HS7 HS8 HB8 HB9 CA1
 go_wp2
 go_ret
 exact ⟨rfl, b5, _, HB10.out⟩
set_option maxHeartbeats 8000000 in
theorem does1 (q : Cl) (hq : q.Fit) (h0 : Bo w0 c r a b t n kb ko x x v F u) (hp : place q.k 5 = 1) : Calls Tryz.prog 14 #[ptr c, ptr r, xv q] u fun e u' => e = .returned (.bool true) ∧ ∃ kb ko, Bo w0 c r a b t n kb ko (x.next.2) (x.next.2) NS [] u' := by
 obtain ⟨N, hN⟩ : ∃ N, x.next.1 = N := ⟨_, rfl⟩
 have e0 : x.has = N.isSome := by rw [has_next, hN]
 have H1 : Hid (∀ (k : Nat) (o : Obj) (u : World), Bo w0 c r a b t n k o x x v F u → Calls Tryz.prog 20 #[ptr c] u fun e u' => e = .returned (nv N) ∧ Bo w0 c r a b t n k o x.next.2 x NS [] u') := Lib.hid (fun k o u h => by have := bnext1 h; rwa [hN] at this)
 have H2 : Hid (∀ (k : Nat) (o : Obj) (u : World), Bo w0 c r a b t n k o x.next.2 x NS [] u → Calls Tryz.prog 29 #[ptr r] u fun e u' => e = .returned (nv N) ∧ Bo w0 c r a b t n k o x.next.2 x.next.2 NS [] u') := Lib.hid (fun k o u h => by have := bnext2 h; rwa [hN] at this)
 have HH : Hid (∀ (k : Nat) (o : Obj) (u : World), Bo w0 c r a b t n k o x x v F u → Calls Tryz.prog 16 #[ptr c] u fun e u' => e = .returned (.bool N.isSome) ∧ Below u.heap.size u u') := Lib.hid (fun k o u h => by have := bhas1 h; rwa [e0] at this)
 clear hN e0
 cases N with
 | none =>
  dsimp only [nv, Option.isSome] at H1 H2 HH
  have cp := fun w => pick q.k 5 (by decide) (by decide) w
  rw [hp] at cp
  have CP := Lib.hid cp
  have H0 := Lib.hid h0
  have HQ := Lib.hid hq
  clear cp hp h0 hq
  go_enter Tryz.func14, Tryz.ntmps14
  go_wp2_with (first
   | ((with_reducible refine bxz (xl q).toArray ?hx ?_); (case hx => rfl); intro b5 w1 h F; have HB1 := Lib.hid (H0.out.key F.below h (Nat.le_of_eq F.eq.symm)); obtain ⟨k1, k2⟩ := xs_at HB1.out.kept; clear h F)
   | (go_at_call 26; refine (CP.out _).mono ?_; rintro _ w2 ⟨rfl, rfl⟩)
   | (go_at_call 16; (with_reducible refine (HH.out _ _ _ HB1.out).mono ?_); rintro _ w3 ⟨rfl, hb⟩; have HB3 := Lib.hid (HB1.out.on hb); clear hb)
   | (go_at_call 20; (with_reducible refine (H1.out _ _ _ HB3.out).mono ?_); rintro _ w4 ⟨rfl, hb⟩; have HB4 := Lib.hid hb; clear hb)
   | (go_at_call 29; (with_reducible refine (H2.out _ _ _ HB4.out).mono ?_); rintro _ w5 ⟨rfl, hb⟩; have HB5 := Lib.hid hb; clear hb))
  go_ret
  exact ⟨rfl, b5, _, HB5.out⟩
 | some m =>
  dsimp only [nv, Option.isSome] at H1 H2 HH
  have e2 : ((ch m : Int) == (ch m : Int)) = true := beq_self_eq_true _
  have cp := fun w => pick q.k 5 (by decide) (by decide) w
  rw [hp] at cp
  have CP := Lib.hid cp
  have H0 := Lib.hid h0
  have HQ := Lib.hid hq
  clear cp hp h0 hq
  go_enter Tryz.func14, Tryz.ntmps14
  go_wp2_with (first
   | ((with_reducible refine bxz (xl q).toArray ?hx ?_); (case hx => rfl); intro b5 w1 h F; have HB1 := Lib.hid (H0.out.key F.below h (Nat.le_of_eq F.eq.symm)); obtain ⟨k1, k2⟩ := xs_at HB1.out.kept; clear h F)
   | (go_at_call 26; refine (CP.out _).mono ?_; rintro _ w2 ⟨rfl, rfl⟩)
   | (go_at_call 16; (with_reducible refine (HH.out _ _ _ HB1.out).mono ?_); rintro _ w3 ⟨rfl, hb⟩; have HB3 := Lib.hid (HB1.out.on hb); clear hb)
   | (go_at_call 20; (with_reducible refine (H1.out _ _ _ HB3.out).mono ?_); rintro _ w4 ⟨rfl, hb⟩; have HB4 := Lib.hid hb; clear hb)
   | (go_at_call 29; (with_reducible refine (H2.out _ _ _ HB4.out).mono ?_); rintro _ w5 ⟨rfl, hb⟩; have HB5 := Lib.hid hb; clear hb))
  go_ret
  exact ⟨rfl, b5, _, HB5.out⟩
theorem hear_len (x : Ct) (s : ByteArray) (hs : s.size ≤ 5000) : (x.hear s).2.length ≤ 1000000 := by
 have h1 := hears_len (all s).1 x
 have h2 := all_len s
 unfold Ct.hear
 omega
theorem tick_len (x : Ct) (hx : x.Ok) : x.tick.2.length ≤ 1000000 := by
 have h1 := (ticks_len x.n2 x.cs).2
 have h2 := hx.cs_few
 show (ticks x.n2 x.cs).2.length ≤ 1000000
 omega
set_option maxHeartbeats 8000000 in
theorem does2 (q : Cl) (hq : q.Fit) (h0 : Bo w0 c r a b t n kb ko x x v F u) (hp : place q.k 5 = 2) : Calls Tryz.prog 14 #[ptr c, ptr r, xv q] u fun e u' => e = .returned (.bool true) ∧ ∃ kb ko, Bo w0 c r a b t n kb ko ((x.hear (putS q.m ++ q.s)).1) ((x.hear (putS q.m ++ q.s)).1) NS [] u' := by
 have hsz : (putS q.m ++ q.s).size ≤ 5000 := by
  have h1 := putS_few q.m
  have h2 := hq.s
  rw [ByteArray.size_append]; omega
 have v1 : (putS q.m).size ≤ 200 := putS_few q.m
 have v2 : q.s.size ≤ 130 := hq.s
 have v3 : ¬ 9223372036854775807 < (putS q.m).size + q.s.size := by omega
 have CX := Lib.hid (fun (k : Nat) (o : Obj) (u : World) (h : Bo w0 c r a b t n k o x x v F u) => bhear1 h (putS q.m ++ q.s) hsz)
 have CY := Lib.hid (fun (y : Ct) (k : Nat) (o : Obj) (v : Value) (F : List Fa) (u : World) (h : Bo w0 c r a b t n k o y x v F u) => bhear2 h (putS q.m ++ q.s) hsz)
 have CR := Lib.hid (fun (w : World) => fref q.m w)
 have CPUT := Lib.hid (fun (w : World) => rput q.m hq.m (by have := hq.b; omega) w)
 have HLN := Lib.hid (hear_len x _ hsz)
 generalize x.hear (putS q.m ++ q.s) = G at CX CY HLN ⊢
 obtain ⟨y, L⟩ := G
 dsimp only at CX CY HLN ⊢
 clear hsz
 have cp := fun w => pick q.k 5 (by decide) (by decide) w
 rw [hp] at cp
 have CP := Lib.hid cp
 have H0 := Lib.hid h0
 have HQ := Lib.hid hq
 clear cp hp h0 hq
 go_enter Tryz.func14, Tryz.ntmps14
 go_wp2_with (first
  | ((with_reducible refine bxz (xl q).toArray ?hx ?_); (case hx => rfl); intro b5 w1 h F; have HB1 := Lib.hid (H0.out.key F.below h (Nat.le_of_eq F.eq.symm)); obtain ⟨k1, k2⟩ := xs_at HB1.out.kept; clear h F)
  | (go_at_call 26; refine (CP.out _).mono ?_; rintro _ w2 ⟨rfl, rfl⟩)
  | ((with_reducible refine ldr (m := q.m) isM (xm_at HB1.out.kept) ?hx ?_); (case hx => rfl))
  | (go_at_call 28; (with_reducible refine (CR.out _).mono ?_); rintro _ w3 ⟨rfl, hb⟩; have HB3 := Lib.hid (HB1.out.on hb); clear hb)
  | (go_at_call 30; (with_reducible refine (CPUT.out _).mono ?_); rintro _ w4 ⟨rfl, hb⟩; have HB4 := Lib.hid (HB3.out.on hb); clear hb k1 k2; obtain ⟨k1, k2⟩ := xs_at HB4.out.kept)
  | (go_at_call 21; (with_reducible refine (CX.out _ _ _ HB4.out).mono ?_); rintro _ w5 ⟨v5, rfl, hb⟩; have HB5 := Lib.hid hb; clear hb k1 k2; obtain ⟨k1, k2⟩ := xs_at HB5.out.kept; obtain ⟨oa, cap, rfl, ga⟩ := row_form HB5.out.row; have GA := Lib.hid ga; clear ga)
  | (go_at_call 32; (with_reducible refine (CY.out _ _ _ _ _ _ HB5.out).mono ?_); rintro _ w6 ⟨v6, rfl, hq6, hb⟩; have HB6 := Lib.hid hb; have HQ6 := Lib.hid (rd_qz fl_len hq6); clear hb hq6)
  | (go_at_call 31; (with_reducible refine (lsame HB6.out.row HQ6.out HLN.out).mono ?_); rintro _ w7 ⟨rfl, hb⟩; have HB7 := Lib.hid (HB6.out.on hb); clear hb HB6 HB5 HB4 HB3 HB1 k1 k2 CX CY CR CPUT HQ6))
 obtain ⟨m, hm⟩ : ∃ m, L.length = m := ⟨_, rfl⟩
 rw [hm] at HB7 GA ⊢
 have hmx : m ≤ 1000000 := by rw [← hm]; exact HLN.out
 have HB0 : Hid (∃ G : List Fa, G.length = m ∧ Bo w0 c r a b t n b5 (.cells (xl q).toArray QT (0, 0)) y y (.slice oa m cap) G w7) := Lib.hid ⟨L, hm, HB7.out⟩
 clear HB7 hm HLN v1 v2 v3
 go_loopg [17] m (fun gm s17 wr => ∃ k : Nat, s17 = nm k ∧ m - k ≤ gm ∧ k ≤ m ∧ Hid (∃ G : List Fa, G.length = m ∧ Bo w0 c r a b t n b5 (.cells (xl q).toArray QT (0, 0)) y y (.slice oa m cap) G wr))
 case atStart => exact ⟨0, by first | rfl | go_num, by omega, by omega, HB0⟩
 case round =>
  clear HB0
  obtain ⟨k, rfl, hgm, hkn, HG⟩ := hrel
  by_cases hlt : k < m
  · have t1 : decide ((k : Int) < (m : Int)) = true := decide_eq_true (by omega)
    have t2 : (k : Int) < (m : Int) := by omega
    have j0 : (0 : Int) ≤ (k : Int) := by omega
    have vk := nat_wrap (k + 1) (by omega)
    obtain ⟨G, hgl, hbo⟩ := HG.out
    have HGL := Lib.hid hgl
    have HBO := Lib.hid hbo
    obtain ⟨g, rfl⟩ := GA.out k hlt
    have HNE : Hid (g ≠ b5) := Lib.hid (by
     obtain ⟨cs, hcs⟩ := row_blk hbo.row (b := g) rfl
     exact type_ne hcs hbo.kept (by decide))
    clear hgl hbo HG
    go_wp2_with (first
     | ((with_reducible refine bdB (l := []) builtGz ?hl ?_); (case hl => rfl))
     | ((with_reducible refine stz (fc := fl) fl_len fl_one isG HBO.out.row (i := k) ?hi zG ?hx ?hy ?_); (case hi => (rw [HGL.out]; exact hlt)); (case hx => rfl); (case hy => rfl); intro w8 ho M; have HB8 := Lib.hid (HBO.out.mod HNE.out rfl ho M); clear ho M))
    go_roundg (m - (k + 1))
    case measure => omega
    case rel => exact ⟨k + 1, by first | rfl | go_num, Nat.le_refl _, by omega, Lib.hid ⟨_, by rw [List.length_set]; exact HGL.out, HB8.out⟩⟩
  · obtain rfl : m = k := by omega
    have t1 : decide ((m : Int) < (m : Int)) = false := decide_eq_false (by omega)
    have t2 : ¬ (m : Int) < (m : Int) := by omega
    have HE : Hid (∃ kb ko, Bo w0 c r a b t n kb ko y y NS [] wr) := Lib.hid (by obtain ⟨G, _, hbo⟩ := HG.out; exact ⟨_, _, hbo.drop⟩)
    go_wp2_with fail
    go_ret
    exact ⟨rfl, HE.out⟩
set_option maxHeartbeats 8000000 in
theorem does3 (q : Cl) (i : Nat) (hi : 2 < i) (h0 : Bo w0 c r a b t n kb ko x x v F u) (hp : place q.k 5 = i) : Calls Tryz.prog 14 #[ptr c, ptr r, xv q] u fun e u' => e = .returned (.bool true) ∧ ∃ kb ko, Bo w0 c r a b t n kb ko x.tick.1 x.tick.1 NS [] u' := by
 have i0 : ((i : Int) == 0) = false := Mem.beq_false (by omega)
 have i1 : ((i : Int) == 1) = false := Mem.beq_false (by omega)
 have i2 : ((i : Int) == 2) = false := Mem.beq_false (by omega)
 have CX := Lib.hid (fun (k : Nat) (o : Obj) (u : World) (h : Bo w0 c r a b t n k o x x v F u) => btick1 h)
 have CY := Lib.hid (fun (y : Ct) (k : Nat) (o : Obj) (v : Value) (F : List Fa) (u : World) (h : Bo w0 c r a b t n k o y x v F u) => btick2 h)
 have HLN := Lib.hid (tick_len x h0.okx)
 have hq : True := trivial
 generalize x.tick = G at CX CY HLN ⊢
 obtain ⟨y, L⟩ := G
 dsimp only at CX CY HLN ⊢
 have cp := fun w => pick q.k 5 (by decide) (by decide) w
 rw [hp] at cp
 have CP := Lib.hid cp
 have H0 := Lib.hid h0
 clear cp hp h0 hq hi
 go_enter Tryz.func14, Tryz.ntmps14
 go_wp2_with (first
  | ((with_reducible refine bxz (xl q).toArray ?hx ?_); (case hx => rfl); intro b5 w1 h F; have HB1 := Lib.hid (H0.out.key F.below h (Nat.le_of_eq F.eq.symm)); obtain ⟨k1, k2⟩ := xs_at HB1.out.kept; clear h F)
  | (go_at_call 26; refine (CP.out _).mono ?_; rintro _ w2 ⟨rfl, rfl⟩)
  | (go_at_call 25; (with_reducible refine (CX.out _ _ _ HB1.out).mono ?_); rintro _ w5 ⟨v5, rfl, hb⟩; have HB5 := Lib.hid hb; clear hb k1 k2)
  | (go_at_call 33; (with_reducible refine (CY.out _ _ _ _ _ _ HB5.out).mono ?_); rintro _ w6 ⟨v6, rfl, hq6, hb⟩; have HB6 := Lib.hid hb; have HQ6 := Lib.hid (rd_own fl_len hq6); clear hb hq6)
  | (go_at_call 31; (with_reducible refine (lsame HB6.out.row HQ6.out HLN.out).mono ?_); rintro _ w7 ⟨rfl, hb⟩; have HB7 := Lib.hid (HB6.out.on hb); clear hb))
 go_ret
 exact ⟨rfl, b5, _, HB7.out.drop⟩
theorem ldoes (h : ∃ kb ko, Bo w0 c r a b t n kb ko x x NS [] u) (q : Cl) (hq : q.Fit) : Calls Tryz.prog 14 #[ptr c, ptr r, xv q] u fun e u' => e = .returned (.bool true) ∧ ∃ kb ko, Bo w0 c r a b t n kb ko (stp x q) (stp x q) NS [] u' := by
 obtain ⟨kb, ko, h⟩ := h
 obtain ⟨i, hp⟩ : ∃ i, place q.k 5 = i := ⟨_, rfl⟩
 unfold stp
 rw [hp]
 by_cases h0 : i = 0
 · subst h0; rw [if_pos rfl]; exact does0 q hq h hp
 by_cases h1 : i = 1
 · subst h1; rw [if_neg (by decide), if_pos rfl]; exact does1 q hq h hp
 by_cases h2 : i = 2
 · subst h2; rw [if_neg (by decide), if_neg (by decide), if_pos rfl]; exact does2 q hq h hp
 · rw [if_neg h0, if_neg h1, if_neg h2]; exact does3 q i (by omega) h hp
end
end Go.Proofs.YtakkhdammmcjcaaGreatDoor.Ctl
namespace Go.Proofs.YtakkhdammmcjcaaGreatDoor.Pn
set_option maxRecDepth 20000
open Go.ChangeShapes Go.WideShapes Go.ChangeAt Go.ChangeMaps Go.RowKit
/-- The datum. -/
abbrev pd {H : Type} (p : Pr) : DataW H := .agg [.lit (.int .u8 p.d), .lit (.int .u8 p.f), .lit (.int .u8 p.c), .lit (.int .u8 p.r), .lit (.int .i64 p.t), .lit (.int .i64 p.n), .lit (.int .i64 p.z), .lit (.int .i64 p.k)]
/-- Its numbers are Go's. -/
structure Pr.Wf (p : Pr) : Prop where
 d : (Lit.int .u8 p.d).wf = true
 f : (Lit.int .u8 p.f).wf = true
 c : (Lit.int .u8 p.c).wf = true
 r : (Lit.int .u8 p.r).wf = true
 t : (Lit.int .i64 p.t).wf = true
 n : (Lit.int .i64 p.n).wf = true
 z : (Lit.int .i64 p.z).wf = true
 k : (Lit.int .i64 p.k).wf = true
theorem cellsP : Tryz.prog.cellsOf 25 = 8 := by kernel_rfl
theorem cellsU : Tryz.prog.cellsOf 5 = 1 := by kernel_rfl
theorem cellsI : Tryz.prog.cellsOf 3 = 1 := by kernel_rfl
section
variable {H : Type} {enc : TypeId × Value → H} {w : World} {base : Nat} {spare : Nat → Bool} {held : Bool}
theorem open_params {r : Reach} {b0 : Nat} {v : Value} {d : DataW H} {p : List MemPlace} (hv : Value.okWide Tryz.prog w r b0 25 v) (h : DataW.Trod enc Tryz.prog w base spare held 25 v d p) :
 ∃ q : Pr, v = pv q ∧ d = pd q ∧ p = [] ∧ q.In ∧ q.Wf := by
 obtain ⟨⟨cs⟩, rfl, hz⟩ := okWide_struct Tryz.underlying25 hv
 rw [cellsP] at hz
 obtain ⟨fuel, hf⟩ := h
 obtain ⟨ys, n, _, hx, _, hlen, hg⟩ := DataW.trod_struct Tryz.underlying25 hf
 match cs, hz, ys, hlen with
 | [c0, c1, c2, c3, c4, c5, c6, c7], _, [y0, y1, y2, y3, y4, y5, y6, y7], _ =>
  have g0 : DataW.trod enc Tryz.prog w base spare held n 5 ((([c0, c1, c2, c3, c4, c5, c6, c7] : List Value).drop 0).take (Tryz.prog.cellsOf 5)) = some y0 := hg 0 _ rfl
  rw [cellsU] at g0
  have g1 : DataW.trod enc Tryz.prog w base spare held n 5 ((([c0, c1, c2, c3, c4, c5, c6, c7] : List Value).drop 1).take (Tryz.prog.cellsOf 5)) = some y1 := hg 1 _ rfl
  rw [cellsU] at g1
  have g2 : DataW.trod enc Tryz.prog w base spare held n 5 ((([c0, c1, c2, c3, c4, c5, c6, c7] : List Value).drop 2).take (Tryz.prog.cellsOf 5)) = some y2 := hg 2 _ rfl
  rw [cellsU] at g2
  have g3 : DataW.trod enc Tryz.prog w base spare held n 5 ((([c0, c1, c2, c3, c4, c5, c6, c7] : List Value).drop 3).take (Tryz.prog.cellsOf 5)) = some y3 := hg 3 _ rfl
  rw [cellsU] at g3
  have g4 : DataW.trod enc Tryz.prog w base spare held n 3 ((([c0, c1, c2, c3, c4, c5, c6, c7] : List Value).drop 4).take (Tryz.prog.cellsOf 3)) = some y4 := hg 4 _ rfl
  rw [cellsI] at g4
  have g5 : DataW.trod enc Tryz.prog w base spare held n 3 ((([c0, c1, c2, c3, c4, c5, c6, c7] : List Value).drop 5).take (Tryz.prog.cellsOf 3)) = some y5 := hg 5 _ rfl
  rw [cellsI] at g5
  have g6 : DataW.trod enc Tryz.prog w base spare held n 3 ((([c0, c1, c2, c3, c4, c5, c6, c7] : List Value).drop 6).take (Tryz.prog.cellsOf 3)) = some y6 := hg 6 _ rfl
  rw [cellsI] at g6
  have g7 : DataW.trod enc Tryz.prog w base spare held n 3 ((([c0, c1, c2, c3, c4, c5, c6, c7] : List Value).drop 7).take (Tryz.prog.cellsOf 3)) = some y7 := hg 7 _ rfl
  rw [cellsI] at g7
  obtain ⟨n0, e0, rfl, k0⟩ := DataW.trod_int Tryz.underlying5 g0
  obtain ⟨n1, e1, rfl, k1⟩ := DataW.trod_int Tryz.underlying5 g1
  obtain ⟨n2, e2, rfl, k2⟩ := DataW.trod_int Tryz.underlying5 g2
  obtain ⟨n3, e3, rfl, k3⟩ := DataW.trod_int Tryz.underlying5 g3
  obtain ⟨n4, e4, rfl, k4⟩ := DataW.trod_int Tryz.underlying3 g4
  obtain ⟨n5, e5, rfl, k5⟩ := DataW.trod_int Tryz.underlying3 g5
  obtain ⟨n6, e6, rfl, k6⟩ := DataW.trod_int Tryz.underlying3 g6
  obtain ⟨n7, e7, rfl, k7⟩ := DataW.trod_int Tryz.underlying3 g7
  obtain rfl : c0 = _ := List.head_eq_of_cons_eq e0
  obtain rfl : c1 = _ := List.head_eq_of_cons_eq e1
  obtain rfl : c2 = _ := List.head_eq_of_cons_eq e2
  obtain rfl : c3 = _ := List.head_eq_of_cons_eq e3
  obtain rfl : c4 = _ := List.head_eq_of_cons_eq e4
  obtain rfl : c5 = _ := List.head_eq_of_cons_eq e5
  obtain rfl : c6 = _ := List.head_eq_of_cons_eq e6
  obtain rfl : c7 = _ := List.head_eq_of_cons_eq e7
  obtain ⟨m0, r0, l0⟩ := Base.wf_u8 k0
  obtain ⟨m1, r1, l1⟩ := Base.wf_u8 k1
  obtain ⟨m2, r2, l2⟩ := Base.wf_u8 k2
  obtain ⟨m3, r3, l3⟩ := Base.wf_u8 k3
  simp only [Prod.mk.injEq] at hx
  exact ⟨⟨n0, n1, n2, n3, n4, n5, n6, n7⟩, rfl, hx.1, hx.2, ⟨by show 0 ≤ n0 ∧ n0 < 256; omega, by show 0 ≤ n1 ∧ n1 < 256; omega, by show 0 ≤ n2 ∧ n2 < 256; omega, by show 0 ≤ n3 ∧ n3 < 256; omega⟩, ⟨k0, k1, k2, k3, k4, k5, k6, k7⟩⟩
theorem shut_params (p : Pr) (h : p.Wf) : DataW.Trod enc Tryz.prog w base spare held 25 (pv p) (pd p) [] := by
 refine ⟨3, ?_⟩
 obtain ⟨h0, h1, h2, h3, h4, h5, h6, h7⟩ := h
 simp [DataW.trod, Value.cells, Tryz.underlying25, Tryz.underlying5, Tryz.underlying3, cellsP, cellsU, cellsI, h0, h1, h2, h3, h4, h5, h6, h7]
end
end Go.Proofs.YtakkhdammmcjcaaGreatDoor.Pn
namespace Go.Proofs.YtakkhdammmcjcaaGreatDoor.Msc
set_option maxRecDepth 20000
open Go.ChangeShapes Go.WideShapes Go.ChangeAt Go.ChangeMaps Go.RowKit
/-- The datum. -/
abbrev sd {H : Type} (s : St) : DataW H := .agg [.lit (.int .u8 (s.d : Int)), .lit (.bool s.f), .lit (.bool s.c), .lit (.bool s.r), .lit (.bool s.i), .lit (.bool s.v), .lit (.bool s.b), .lit (.int .u8 (s.k : Int))]
/-- Its numbers are Go's. -/
structure St.Wf (s : St) : Prop where
 d : (Lit.int .u8 (s.d : Int)).wf = true
 k : (Lit.int .u8 (s.k : Int)).wf = true
theorem cellsS : Tryz.prog.cellsOf 27 = 8 := by kernel_rfl
theorem cells_u8 : Tryz.prog.cellsOf 5 = 1 := by kernel_rfl
theorem cells_bool : Tryz.prog.cellsOf 4 = 1 := by kernel_rfl
section
variable {H : Type} {enc : TypeId × Value → H} {w : World} {base : Nat} {spare : Nat → Bool} {held : Bool}
theorem open_status {r : Reach} {b0 : Nat} {v : Value} {d : DataW H} {p : List MemPlace} (hv : Value.okWide Tryz.prog w r b0 27 v) (h : DataW.Trod enc Tryz.prog w base spare held 27 v d p) :
 ∃ q : St, v = sv q ∧ d = sd q ∧ p = [] ∧ q.In ∧ q.Wf := by
 obtain ⟨⟨cs⟩, rfl, hz⟩ := okWide_struct Tryz.underlying27 hv
 rw [cellsS] at hz
 obtain ⟨fuel, hf⟩ := h
 obtain ⟨ys, n, _, hx, _, hlen, hg⟩ := DataW.trod_struct Tryz.underlying27 hf
 match cs, hz, ys, hlen with
 | [c0, c1, c2, c3, c4, c5, c6, c7], _, [y0, y1, y2, y3, y4, y5, y6, y7], _ =>
  have g0 : DataW.trod enc Tryz.prog w base spare held n 5 ((([c0, c1, c2, c3, c4, c5, c6, c7] : List Value).drop 0).take (Tryz.prog.cellsOf 5)) = some y0 := hg 0 _ rfl
  rw [cells_u8] at g0
  have g1 : DataW.trod enc Tryz.prog w base spare held n 4 ((([c0, c1, c2, c3, c4, c5, c6, c7] : List Value).drop 1).take (Tryz.prog.cellsOf 4)) = some y1 := hg 1 _ rfl
  rw [cells_bool] at g1
  have g2 : DataW.trod enc Tryz.prog w base spare held n 4 ((([c0, c1, c2, c3, c4, c5, c6, c7] : List Value).drop 2).take (Tryz.prog.cellsOf 4)) = some y2 := hg 2 _ rfl
  rw [cells_bool] at g2
  have g3 : DataW.trod enc Tryz.prog w base spare held n 4 ((([c0, c1, c2, c3, c4, c5, c6, c7] : List Value).drop 3).take (Tryz.prog.cellsOf 4)) = some y3 := hg 3 _ rfl
  rw [cells_bool] at g3
  have g4 : DataW.trod enc Tryz.prog w base spare held n 4 ((([c0, c1, c2, c3, c4, c5, c6, c7] : List Value).drop 4).take (Tryz.prog.cellsOf 4)) = some y4 := hg 4 _ rfl
  rw [cells_bool] at g4
  have g5 : DataW.trod enc Tryz.prog w base spare held n 4 ((([c0, c1, c2, c3, c4, c5, c6, c7] : List Value).drop 5).take (Tryz.prog.cellsOf 4)) = some y5 := hg 5 _ rfl
  rw [cells_bool] at g5
  have g6 : DataW.trod enc Tryz.prog w base spare held n 4 ((([c0, c1, c2, c3, c4, c5, c6, c7] : List Value).drop 6).take (Tryz.prog.cellsOf 4)) = some y6 := hg 6 _ rfl
  rw [cells_bool] at g6
  have g7 : DataW.trod enc Tryz.prog w base spare held n 5 ((([c0, c1, c2, c3, c4, c5, c6, c7] : List Value).drop 7).take (Tryz.prog.cellsOf 5)) = some y7 := hg 7 _ rfl
  rw [cells_u8] at g7
  obtain ⟨n0, e0, rfl, k0⟩ := DataW.trod_int Tryz.underlying5 g0
  obtain ⟨n1, e1, rfl⟩ := DataW.trod_bool Tryz.underlying4 g1
  obtain ⟨n2, e2, rfl⟩ := DataW.trod_bool Tryz.underlying4 g2
  obtain ⟨n3, e3, rfl⟩ := DataW.trod_bool Tryz.underlying4 g3
  obtain ⟨n4, e4, rfl⟩ := DataW.trod_bool Tryz.underlying4 g4
  obtain ⟨n5, e5, rfl⟩ := DataW.trod_bool Tryz.underlying4 g5
  obtain ⟨n6, e6, rfl⟩ := DataW.trod_bool Tryz.underlying4 g6
  obtain ⟨n7, e7, rfl, k7⟩ := DataW.trod_int Tryz.underlying5 g7
  obtain rfl : c0 = _ := List.head_eq_of_cons_eq e0
  obtain rfl : c1 = _ := List.head_eq_of_cons_eq e1
  obtain rfl : c2 = _ := List.head_eq_of_cons_eq e2
  obtain rfl : c3 = _ := List.head_eq_of_cons_eq e3
  obtain rfl : c4 = _ := List.head_eq_of_cons_eq e4
  obtain rfl : c5 = _ := List.head_eq_of_cons_eq e5
  obtain rfl : c6 = _ := List.head_eq_of_cons_eq e6
  obtain rfl : c7 = _ := List.head_eq_of_cons_eq e7
  obtain ⟨m0, rfl, l0⟩ := Base.wf_u8 k0
  obtain ⟨m7, rfl, l7⟩ := Base.wf_u8 k7
  simp only [Prod.mk.injEq] at hx
  exact ⟨⟨m0, n1, n2, n3, n4, n5, n6, m7⟩, rfl, hx.1, hx.2, ⟨l0, l7⟩, ⟨k0, k7⟩⟩
theorem shut_status (s : St) (h : s.Wf) : DataW.Trod enc Tryz.prog w base spare held 27 (sv s) (sd s) [] := by
 refine ⟨3, ?_⟩
 obtain ⟨h0, h7⟩ := h
 simp [DataW.trod, Value.cells, Tryz.underlying27, Tryz.underlying5, Tryz.underlying4, cellsS, cells_u8, cells_bool, h0, h7]
end
end Go.Proofs.YtakkhdammmcjcaaGreatDoor.Msc
namespace Go.Proofs.YtakkhdammmcjcaaGreatDoor.Mem
set_option maxRecDepth 20000
open Go.ChangeShapes Go.WideShapes Go.ChangeAt Go.ChangeMaps Go.RowKit Go.Deep
theorem cellsU : Tryz.prog.cellsOf 5 = 1 := by kernel_rfl
theorem cellsB : Tryz.prog.cellsOf 4 = 1 := by kernel_rfl
theorem cellsS : Tryz.prog.cellsOf 9 = 1 := by kernel_rfl
theorem cellsI : Tryz.prog.cellsOf 3 = 1 := by kernel_rfl
theorem open_any {H : Type} {enc : TypeId × Value → H} {α : Type} {E S z : Nat} {fc : α → List Value} {P : α → Prop} {w : World} (hu : Tryz.prog.underlying S = some (.slice E)) (hc : Tryz.prog.cellsOf E = z) (hz : 0 < z) (hl : ∀ x, (fc x).length = z) (a0 : α)
 (h1 : ∀ (n : Nat) (cs : List Value) (x : DataW H × List MemPlace), cs.length = z → DataW.trod enc Tryz.prog w 0 (fun _ => true) true n E cs = some x → ∃ a : α, cs = fc a ∧ P a)
 {r : Reach} {b0 : Nat} {v : Value} {d : DataW H} {p : List MemPlace} (hv : Value.okWide Tryz.prog w r b0 S v) (h : DataW.Trod enc Tryz.prog w 0 (fun _ => true) true S v d p) :
 ∃ (oa : Option Addr) (n cap : Nat) (F : Nat → α), v = .slice oa n cap ∧ n ≤ maxLen ∧ ArgS z fc P w oa n F := by
 obtain ⟨oa, n, cap, rfl⟩ := okWide_slice hu hv
 obtain ⟨fuel, hf⟩ := h
 rcases open_slice hu hf with ⟨e, _⟩ | ⟨a, len, cap', m, n', D, Pl, e, hb, hle, hm, hmm, _, hx⟩
 · simp only [Value.cells, List.cons.injEq, and_true] at e
   injection e with e1 e2 e3
   subst e1 e2 e3
   exact ⟨none, 0, 0, fun _ => a0, rfl, Nat.zero_le _, fun h => absurd h (by decide), fun k hk => absurd hk (by omega), fun a h => by cases h⟩
 · simp only [Value.cells, List.cons.injEq, and_true] at e
   injection e with e1 e2 e3
   subst e1 e2 e3
   have hnm : n ≤ m := by rw [hmm]; simp; omega
   rw [hc] at hx
   haveI : Inhabited α := ⟨a0⟩
   obtain ⟨F, hF⟩ := choose_lt (α := α) (p := fun i f => P f ∧ ∀ j, j < z → w.cell? ((a.add (i * z)).add j) = (fc f)[j]?) (fun i hi => by
    obtain ⟨cs', g1, g2⟩ := hx i hi
    obtain ⟨_, hz', hc'⟩ := World.cells?_some g1
    obtain ⟨f, rfl, f1⟩ := h1 _ _ _ hz' g2
    exact ⟨f, f1, fun j hj => hc' j hj⟩)
   refine ⟨some a, n, cap, F, rfl, Nat.le_trans hle hm, fun h0 => ⟨a, rfl, ?_⟩, fun k hk => (hF k (by omega)).1, fun a' e k hk j hj => ?_⟩
   · have h7 := (hF 0 (by omega)).2 0 hz
     rw [List.getElem?_eq_getElem (by rw [hl]; exact hz)] at h7
     have := World.block_lt_of_cell? w _ h7
     rw [add_block, add_block] at this
     exact this
   · injection e with e
     subst e
     exact (hF k (by omega)).2 j hj
end Go.Proofs.YtakkhdammmcjcaaGreatDoor.Mem
namespace Go.Proofs.YtakkhdammmcjcaaGreatDoor.Msgs
open Go.ChangeShapes Go.WideShapes Go.ChangeAt Go.ChangeMaps Go.RowKit Mem
set_option maxRecDepth 20000
/-- The datum. -/
abbrev md {H : Type} (m : Ms) : DataW H := .agg [.lit (.int .u8 (m.k : Int)), .lit (.bool m.c), Pn.pd m.p, Msc.sd m.s, .lit (.int .u8 (m.t : Int)), .lit (.string m.b.data.toList)]
/-- Its numbers are Go's. -/
structure Ms.Wf (m : Ms) : Prop where
 k : (Lit.int .u8 (m.k : Int)).wf = true
 p : m.p.Wf
 s : m.s.Wf
 t : (Lit.int .u8 (m.t : Int)).wf = true
 b : m.b.size ≤ maxLen
theorem cellsM : Tryz.prog.cellsOf 29 = 20 := by kernel_rfl
section
variable {H : Type} {enc : TypeId × Value → H} {w : World} {base : Nat} {spare : Nat → Bool} {held : Bool}
theorem open_p {n : Nat} {cs : List Value} {x : DataW H × List MemPlace} (hz : cs.length = 8) (hf : DataW.trod enc Tryz.prog w base spare held n 25 cs = some x) :
 ∃ q : Pn.Pr, cs = [.int .u8 q.d, .int .u8 q.f, .int .u8 q.c, .int .u8 q.r, .int .i64 q.t, .int .i64 q.n, .int .i64 q.z, .int .i64 q.k] ∧ x = (Pn.pd q, []) ∧ q.In ∧ q.Wf := by
 obtain ⟨ys, n, _, hx, _, hlen, hg⟩ := DataW.trod_struct Tryz.underlying25 hf
 match cs, hz, ys, hlen with
 | [c0, c1, c2, c3, c4, c5, c6, c7], _, [y0, y1, y2, y3, y4, y5, y6, y7], _ =>
  have g0 : DataW.trod enc Tryz.prog w base spare held n 5 ((([c0, c1, c2, c3, c4, c5, c6, c7] : List Value).drop 0).take (Tryz.prog.cellsOf 5)) = some y0 := hg 0 _ rfl
  rw [cellsU] at g0
  have g1 : DataW.trod enc Tryz.prog w base spare held n 5 ((([c0, c1, c2, c3, c4, c5, c6, c7] : List Value).drop 1).take (Tryz.prog.cellsOf 5)) = some y1 := hg 1 _ rfl
  rw [cellsU] at g1
  have g2 : DataW.trod enc Tryz.prog w base spare held n 5 ((([c0, c1, c2, c3, c4, c5, c6, c7] : List Value).drop 2).take (Tryz.prog.cellsOf 5)) = some y2 := hg 2 _ rfl
  rw [cellsU] at g2
  have g3 : DataW.trod enc Tryz.prog w base spare held n 5 ((([c0, c1, c2, c3, c4, c5, c6, c7] : List Value).drop 3).take (Tryz.prog.cellsOf 5)) = some y3 := hg 3 _ rfl
  rw [cellsU] at g3
  have g4 : DataW.trod enc Tryz.prog w base spare held n 3 ((([c0, c1, c2, c3, c4, c5, c6, c7] : List Value).drop 4).take (Tryz.prog.cellsOf 3)) = some y4 := hg 4 _ rfl
  rw [cellsI] at g4
  have g5 : DataW.trod enc Tryz.prog w base spare held n 3 ((([c0, c1, c2, c3, c4, c5, c6, c7] : List Value).drop 5).take (Tryz.prog.cellsOf 3)) = some y5 := hg 5 _ rfl
  rw [cellsI] at g5
  have g6 : DataW.trod enc Tryz.prog w base spare held n 3 ((([c0, c1, c2, c3, c4, c5, c6, c7] : List Value).drop 6).take (Tryz.prog.cellsOf 3)) = some y6 := hg 6 _ rfl
  rw [cellsI] at g6
  have g7 : DataW.trod enc Tryz.prog w base spare held n 3 ((([c0, c1, c2, c3, c4, c5, c6, c7] : List Value).drop 7).take (Tryz.prog.cellsOf 3)) = some y7 := hg 7 _ rfl
  rw [cellsI] at g7
  obtain ⟨n0, e0, rfl, k0⟩ := DataW.trod_int Tryz.underlying5 g0
  obtain ⟨n1, e1, rfl, k1⟩ := DataW.trod_int Tryz.underlying5 g1
  obtain ⟨n2, e2, rfl, k2⟩ := DataW.trod_int Tryz.underlying5 g2
  obtain ⟨n3, e3, rfl, k3⟩ := DataW.trod_int Tryz.underlying5 g3
  obtain ⟨n4, e4, rfl, k4⟩ := DataW.trod_int Tryz.underlying3 g4
  obtain ⟨n5, e5, rfl, k5⟩ := DataW.trod_int Tryz.underlying3 g5
  obtain ⟨n6, e6, rfl, k6⟩ := DataW.trod_int Tryz.underlying3 g6
  obtain ⟨n7, e7, rfl, k7⟩ := DataW.trod_int Tryz.underlying3 g7
  obtain rfl : c0 = _ := List.head_eq_of_cons_eq e0
  obtain rfl : c1 = _ := List.head_eq_of_cons_eq e1
  obtain rfl : c2 = _ := List.head_eq_of_cons_eq e2
  obtain rfl : c3 = _ := List.head_eq_of_cons_eq e3
  obtain rfl : c4 = _ := List.head_eq_of_cons_eq e4
  obtain rfl : c5 = _ := List.head_eq_of_cons_eq e5
  obtain rfl : c6 = _ := List.head_eq_of_cons_eq e6
  obtain rfl : c7 = _ := List.head_eq_of_cons_eq e7
  obtain ⟨m0, r0, l0⟩ := Base.wf_u8 k0
  obtain ⟨m1, r1, l1⟩ := Base.wf_u8 k1
  obtain ⟨m2, r2, l2⟩ := Base.wf_u8 k2
  obtain ⟨m3, r3, l3⟩ := Base.wf_u8 k3
  exact ⟨⟨n0, n1, n2, n3, n4, n5, n6, n7⟩, rfl, hx, ⟨by show 0 ≤ n0 ∧ n0 < 256; omega, by show 0 ≤ n1 ∧ n1 < 256; omega, by show 0 ≤ n2 ∧ n2 < 256; omega, by show 0 ≤ n3 ∧ n3 < 256; omega⟩, ⟨k0, k1, k2, k3, k4, k5, k6, k7⟩⟩
theorem open_s {n : Nat} {cs : List Value} {x : DataW H × List MemPlace} (hz : cs.length = 8) (hf : DataW.trod enc Tryz.prog w base spare held n 27 cs = some x) :
 ∃ q : Msc.St, cs = [.int .u8 (q.d : Int), .bool q.f, .bool q.c, .bool q.r, .bool q.i, .bool q.v, .bool q.b, .int .u8 (q.k : Int)] ∧ x = (Msc.sd q, []) ∧ q.In ∧ q.Wf := by
 obtain ⟨ys, n, _, hx, _, hlen, hg⟩ := DataW.trod_struct Tryz.underlying27 hf
 match cs, hz, ys, hlen with
 | [c0, c1, c2, c3, c4, c5, c6, c7], _, [y0, y1, y2, y3, y4, y5, y6, y7], _ =>
  have g0 : DataW.trod enc Tryz.prog w base spare held n 5 ((([c0, c1, c2, c3, c4, c5, c6, c7] : List Value).drop 0).take (Tryz.prog.cellsOf 5)) = some y0 := hg 0 _ rfl
  rw [cellsU] at g0
  have g1 : DataW.trod enc Tryz.prog w base spare held n 4 ((([c0, c1, c2, c3, c4, c5, c6, c7] : List Value).drop 1).take (Tryz.prog.cellsOf 4)) = some y1 := hg 1 _ rfl
  rw [cellsB] at g1
  have g2 : DataW.trod enc Tryz.prog w base spare held n 4 ((([c0, c1, c2, c3, c4, c5, c6, c7] : List Value).drop 2).take (Tryz.prog.cellsOf 4)) = some y2 := hg 2 _ rfl
  rw [cellsB] at g2
  have g3 : DataW.trod enc Tryz.prog w base spare held n 4 ((([c0, c1, c2, c3, c4, c5, c6, c7] : List Value).drop 3).take (Tryz.prog.cellsOf 4)) = some y3 := hg 3 _ rfl
  rw [cellsB] at g3
  have g4 : DataW.trod enc Tryz.prog w base spare held n 4 ((([c0, c1, c2, c3, c4, c5, c6, c7] : List Value).drop 4).take (Tryz.prog.cellsOf 4)) = some y4 := hg 4 _ rfl
  rw [cellsB] at g4
  have g5 : DataW.trod enc Tryz.prog w base spare held n 4 ((([c0, c1, c2, c3, c4, c5, c6, c7] : List Value).drop 5).take (Tryz.prog.cellsOf 4)) = some y5 := hg 5 _ rfl
  rw [cellsB] at g5
  have g6 : DataW.trod enc Tryz.prog w base spare held n 4 ((([c0, c1, c2, c3, c4, c5, c6, c7] : List Value).drop 6).take (Tryz.prog.cellsOf 4)) = some y6 := hg 6 _ rfl
  rw [cellsB] at g6
  have g7 : DataW.trod enc Tryz.prog w base spare held n 5 ((([c0, c1, c2, c3, c4, c5, c6, c7] : List Value).drop 7).take (Tryz.prog.cellsOf 5)) = some y7 := hg 7 _ rfl
  rw [cellsU] at g7
  obtain ⟨n0, e0, rfl, k0⟩ := DataW.trod_int Tryz.underlying5 g0
  obtain ⟨n1, e1, rfl⟩ := DataW.trod_bool Tryz.underlying4 g1
  obtain ⟨n2, e2, rfl⟩ := DataW.trod_bool Tryz.underlying4 g2
  obtain ⟨n3, e3, rfl⟩ := DataW.trod_bool Tryz.underlying4 g3
  obtain ⟨n4, e4, rfl⟩ := DataW.trod_bool Tryz.underlying4 g4
  obtain ⟨n5, e5, rfl⟩ := DataW.trod_bool Tryz.underlying4 g5
  obtain ⟨n6, e6, rfl⟩ := DataW.trod_bool Tryz.underlying4 g6
  obtain ⟨n7, e7, rfl, k7⟩ := DataW.trod_int Tryz.underlying5 g7
  obtain rfl : c0 = _ := List.head_eq_of_cons_eq e0
  obtain rfl : c1 = _ := List.head_eq_of_cons_eq e1
  obtain rfl : c2 = _ := List.head_eq_of_cons_eq e2
  obtain rfl : c3 = _ := List.head_eq_of_cons_eq e3
  obtain rfl : c4 = _ := List.head_eq_of_cons_eq e4
  obtain rfl : c5 = _ := List.head_eq_of_cons_eq e5
  obtain rfl : c6 = _ := List.head_eq_of_cons_eq e6
  obtain rfl : c7 = _ := List.head_eq_of_cons_eq e7
  obtain ⟨m0, rfl, l0⟩ := Base.wf_u8 k0
  obtain ⟨m7, rfl, l7⟩ := Base.wf_u8 k7
  exact ⟨⟨m0, n1, n2, n3, n4, n5, n6, m7⟩, rfl, hx, ⟨l0, l7⟩, ⟨k0, k7⟩⟩
theorem open_m {n : Nat} {cs : List Value} {x : DataW H × List MemPlace} (hz : cs.length = 20) (hf : DataW.trod enc Tryz.prog w base spare held n 29 cs = some x) :
 ∃ m : Ms, cs = ml m ∧ x = (md m, []) ∧ m.In ∧ m.Wf := by
 obtain ⟨ys, n, _, hx, _, hlen, hg⟩ := DataW.trod_struct Tryz.underlying29 hf
 match cs, hz, ys, hlen with
 | [c0, c1, c2, c3, c4, c5, c6, c7, c8, c9, c10, c11, c12, c13, c14, c15, c16, c17, c18, c19], _, [y0, y1, y2, y3, y4, y5], _ =>
  have g0 : DataW.trod enc Tryz.prog w base spare held n 5 ((([c0, c1, c2, c3, c4, c5, c6, c7, c8, c9, c10, c11, c12, c13, c14, c15, c16, c17, c18, c19] : List Value).drop 0).take (Tryz.prog.cellsOf 5)) = some y0 := hg 0 _ rfl
  rw [cellsU] at g0
  have g1 : DataW.trod enc Tryz.prog w base spare held n 4 ((([c0, c1, c2, c3, c4, c5, c6, c7, c8, c9, c10, c11, c12, c13, c14, c15, c16, c17, c18, c19] : List Value).drop 1).take (Tryz.prog.cellsOf 4)) = some y1 := hg 1 _ rfl
  rw [cellsB] at g1
  have g2 : DataW.trod enc Tryz.prog w base spare held n 25 ((([c0, c1, c2, c3, c4, c5, c6, c7, c8, c9, c10, c11, c12, c13, c14, c15, c16, c17, c18, c19] : List Value).drop 2).take (Tryz.prog.cellsOf 25)) = some y2 := hg 2 _ rfl
  rw [Pn.cellsP] at g2
  have g3 : DataW.trod enc Tryz.prog w base spare held n 27 ((([c0, c1, c2, c3, c4, c5, c6, c7, c8, c9, c10, c11, c12, c13, c14, c15, c16, c17, c18, c19] : List Value).drop 10).take (Tryz.prog.cellsOf 27)) = some y3 := hg 3 _ rfl
  rw [Msc.cellsS] at g3
  have g4 : DataW.trod enc Tryz.prog w base spare held n 5 ((([c0, c1, c2, c3, c4, c5, c6, c7, c8, c9, c10, c11, c12, c13, c14, c15, c16, c17, c18, c19] : List Value).drop 18).take (Tryz.prog.cellsOf 5)) = some y4 := hg 4 _ rfl
  rw [cellsU] at g4
  have g5 : DataW.trod enc Tryz.prog w base spare held n 9 ((([c0, c1, c2, c3, c4, c5, c6, c7, c8, c9, c10, c11, c12, c13, c14, c15, c16, c17, c18, c19] : List Value).drop 19).take (Tryz.prog.cellsOf 9)) = some y5 := hg 5 _ rfl
  rw [cellsS] at g5
  obtain ⟨n0, e0, rfl, k0⟩ := DataW.trod_int Tryz.underlying5 g0
  obtain ⟨b1, e1, rfl⟩ := DataW.trod_bool Tryz.underlying4 g1
  obtain ⟨p, e2, rfl, p1, p2⟩ := open_p rfl g2
  obtain ⟨s, e3, rfl, s1, s2⟩ := open_s rfl g3
  obtain ⟨n4, e4, rfl, k4⟩ := DataW.trod_int Tryz.underlying5 g4
  obtain ⟨s5, e5, rfl, k5⟩ := DataW.trod_string Tryz.underlying9 g5
  obtain ⟨m0, rfl, l0⟩ := Base.wf_u8 k0
  obtain ⟨m4, rfl, l4⟩ := Base.wf_u8 k4
  simp only [List.drop_succ_cons, List.drop_zero, List.take_succ_cons, List.take_zero, List.cons.injEq, and_true] at e0 e1 e2 e3 e4 e5
  obtain ⟨f2, f3, f4, f5, f6, f7, f8, f9⟩ := e2
  obtain ⟨f10, f11, f12, f13, f14, f15, f16, f17⟩ := e3
  subst e0 e1 e4 e5 f2 f3 f4 f5 f6 f7 f8 f9 f10 f11 f12 f13 f14 f15 f16 f17
  exact ⟨⟨m0, b1, p, s, m4, s5⟩, rfl, hx, ⟨l0, p1, s1, l4⟩, ⟨k0, p2, s2, k4, k5⟩⟩
theorem open_message {r : Reach} {b0 : Nat} {v : Value} {d : DataW H} {p : List MemPlace} (hv : Value.okWide Tryz.prog w r b0 29 v) (h : DataW.Trod enc Tryz.prog w base spare held 29 v d p) :
 ∃ q : Ms, v = mv q ∧ d = md q ∧ p = [] ∧ q.In ∧ q.Wf := by
 obtain ⟨⟨cs⟩, rfl, hz⟩ := okWide_struct Tryz.underlying29 hv
 rw [cellsM] at hz
 obtain ⟨fuel, hf⟩ := h
 obtain ⟨m, h1, h2, h3, h4⟩ := open_m (cs := cs) hz hf
 simp only [Prod.mk.injEq] at h2
 subst h1
 exact ⟨m, rfl, h2.1, h2.2, h3, h4⟩
theorem shut_message (m : Ms) (h : m.Wf) : DataW.Trod enc Tryz.prog w base spare held 29 (mv m) (md m) [] := by
 refine ⟨4, ?_⟩
 obtain ⟨h0, ⟨p0, p1, p2, p3, p4, p5, p6, p7⟩, ⟨s0, s7⟩, h4, h5⟩ := h
 show DataW.trod enc Tryz.prog w base spare held 4 29 (mc m).toList = _
 unfold mc
 simp [DataW.trod, Value.cells, Tryz.underlying29, Tryz.underlying25, Tryz.underlying27, Tryz.underlying5, Tryz.underlying3, Tryz.underlying4, Tryz.underlying9, cellsM, Pn.cellsP, Msc.cellsS, cellsU, cellsI, cellsB, cellsS, h0, p0, p1, p2, p3, p4, p5, p6, p7, s0, s7, h4, h5]
end
section
variable {H : Type} {enc : TypeId × Value → H} {w : World}
/-- A message that came in: its numbers are octets, its string is no longer than Go has. -/
def Fits (m : Ms) : Prop := m.In ∧ m.b.size ≤ maxLen
theorem open_msgs {r : Reach} {b0 : Nat} {v : Value} {d : DataW H} {p : List MemPlace} (hv : Value.okWide Tryz.prog w r b0 22 v) (h : DataW.Trod enc Tryz.prog w 0 (fun _ => true) true 22 v d p) :
 ∃ (oa : Option Addr) (n cap : Nat) (F : Nat → Ms), v = .slice oa n cap ∧ n ≤ maxLen ∧ ArgS 20 ml Fits w oa n F :=
 open_any Tryz.underlying22 cellsM (by decide) ml_len zero (fun _ _ _ hz hf => let ⟨m, h1, _, h3, h4⟩ := open_m hz hf; ⟨m, h1, h3, h4.b⟩) hv h
end
end Go.Proofs.YtakkhdammmcjcaaGreatDoor.Msgs
