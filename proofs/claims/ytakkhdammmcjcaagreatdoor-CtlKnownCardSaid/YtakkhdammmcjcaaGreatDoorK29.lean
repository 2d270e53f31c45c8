/-
  Layer 22, put together: CtlPhear, CtlPz. Conditions: as each theorem names them.
-/
import Derived.Test.YtakkhdammmcjcaaGreatDoorK24
import Derived.Test.YtakkhdammmcjcaaGreatDoorK28
namespace Go.Proofs.YtakkhdammmcjcaaGreatDoor.Ctl
open Go.RowKit Base Mem Msgs Cr
set_option maxRecDepth 100000
theorem hear_results (tmps : Array Value) (w : World) (b : Nat) (f : Fa) (q : Bool) (h : w.heap[b]? = some (.cells (fc f) GT (0, 0))) (p2 : tmps[4]?.getD undef = ptr b) (p3 : tmps[5]?.getD undef = .bool q) :
 (results Tryz.f46 tmps).run Tryz.prog w = .ok (.tuple #[.agg (fc f), .bool q]) w := by
 have e := run_ldz (T := GT) (cs := fc f) isG h
 simp [results, Tryz.results46, asAddr, p2, p3, e]
def hF : List Fa → Fa
 | [] => zG
 | f :: _ => f
theorem hv_eq (l : List Fa) : hv l = .tuple #[.agg (fc (hF l)), .bool (!l.isEmpty)] := by cases l <;> rfl
section
variable {w u u' : World} {c base : Nat} {a b t n : Int} {va vc : Value} {x : Ct}
set_option maxHeartbeats 16000000 in
theorem fhear1 (h : P w c base a b t n va vc x) (m : Ms) (hm : m.Ok) : Calls Tryz.prog 46 #[ptr c, mv m] w fun e w' => e = .returned (hv (x.hear1 m).2) ∧ Px w c base a b t n va vc (x.hear1 m).1 w' := by
 have HP := Lib.hid h
 have CK := Lib.hid (fun w => fresp m.k w)
 have hk := may_k hm.may
 cases hc : m.c with
 | false =>
  have e1 : x.hear1 m = x.response m := by unfold Ct.hear1; rw [hc]; rfl
  rw [e1, hv_eq]
  have cr := fun (u : World) (hu : P u c base a b t n va vc x) => fhresp hu m hm
  rw [hv_eq] at cr
  generalize (!(x.response m).2.isEmpty) = q at cr ⊢
  generalize hF (x.response m).2 = f at cr ⊢
  have CR := Lib.hid cr
  clear cr e1 hk hm h
  go_enter Tryz.func46, Tryz.ntmps46
  go_wp2_with (first
   | ((with_reducible refine bxm (m := m) ?hx ?_); (case hx => rfl); intro b3 w1 h F0; have H3 := Lib.hid h; have F3 := Lib.hid F0; clear h F0)
   | ((with_reducible refine alr (T := GT) (cs := fc zG) (by kernel_rfl) ?_); intro b4 w2 h F0; have HH := Lib.hid (Hc.start HP.out F3.out H3.out F0 h); clear h F0 H3 F3; obtain ⟨d0, d1, d2, d3, d4, d5⟩ := lay HH.out.h3)
   | (go_at_call 60; ((with_reducible refine (CK.out _).mono ?_); rintro e w3 ⟨rfl, rfl⟩; skip))
   | ((with_reducible refine ldm isM HH.out.h3 ?hx ?_); (case hx => rfl))
   | (go_at_call 64; refine (CR.out _ HH.out.p).mono ?_; rintro e w5 ⟨rfl, hx⟩; have HX := Lib.hid hx; have H45 := Lib.hid (HH.out.after4 hx); clear hx d0 d1 d2 d3 d4 d5)
   | ((with_reducible refine str (fc f) isG H45.out ?h0 ?h1 ?hc ?hx ?hy ?_); (case h0 => rfl); (case h1 => rfl); (case hc => exact all_oneCell_toArray (fl_one f)); (case hx => rfl); (case hy => rfl); intro w8 h8 M8; have HR8 := Lib.hid h8; have HE := Lib.hid (HH.out.close HX.out M8); clear h8 M8))
  exact bodyPost_ret (hear_results _ _ _ _ _ HR8.out rfl rfl) rfl ⟨rfl, HE.out⟩
 | true =>
  have e1 : x.hear1 m = x.command m := by unfold Ct.hear1; rw [hc]; rfl
  rw [e1]
  by_cases h6 : m.k ≤ 6
  · have e2 : hr m.k = true := by unfold hr; rw [decide_eq_true hk.1, decide_eq_true h6]; rfl
    rw [hv_eq]
    have cr := fun (u : World) (hu : P u c base a b t n va vc x) => fhcmd hu m hm h6
    rw [hv_eq] at cr
    rw [e2] at CK
    generalize (!(x.command m).2.isEmpty) = q at cr ⊢
    generalize hF (x.command m).2 = f at cr ⊢
    have CR := Lib.hid cr
    clear cr e1 hk hm h h6 e2
    go_enter Tryz.func46, Tryz.ntmps46
    go_wp2_with (first
     | ((with_reducible refine bxm (m := m) ?hx ?_); (case hx => rfl); intro b3 w1 h F0; have H3 := Lib.hid h; have F3 := Lib.hid F0; clear h F0)
     | ((with_reducible refine alr (T := GT) (cs := fc zG) (by kernel_rfl) ?_); intro b4 w2 h F0; have HH := Lib.hid (Hc.start HP.out F3.out H3.out F0 h); clear h F0 H3 F3; obtain ⟨d0, d1, d2, d3, d4, d5⟩ := lay HH.out.h3)
     | (go_at_call 60; ((with_reducible refine (CK.out _).mono ?_); rintro e w3 ⟨rfl, rfl⟩; skip))
     | ((with_reducible refine ldm isM HH.out.h3 ?hx ?_); (case hx => rfl))
     | (go_at_call 65; refine (CR.out _ HH.out.p).mono ?_; rintro e w5 ⟨rfl, hx⟩; have HX := Lib.hid hx; have H45 := Lib.hid (HH.out.after4 hx); clear hx d0 d1 d2 d3 d4 d5)
     | ((with_reducible refine str (fc f) isG H45.out ?h0 ?h1 ?hc ?hx ?hy ?_); (case h0 => rfl); (case h1 => rfl); (case hc => exact all_oneCell_toArray (fl_one f)); (case hx => rfl); (case hy => rfl); intro w8 h8 M8; have HR8 := Lib.hid h8; have HE := Lib.hid (HH.out.close HX.out M8); clear h8 M8))
    exact bodyPost_ret (hear_results _ _ _ _ _ HR8.out rfl rfl) rfl ⟨rfl, HE.out⟩
  · have e2 : hr m.k = false := by unfold hr; rw [decide_eq_false h6, Bool.and_false]
    rw [e2] at CK
    by_cases h8 : m.k = 8
    · have t8 : ((m.k : Int) == 8) = true := by rw [h8]; rfl
      have co := fun w ht => foctet m hm.in_ w ht
      have hn : nsc m = nscO (oct m) := rfl
      have hok := nsc_ok m
      by_cases hl : x.an.length < 64
      · have e3 : x.command m = ({ x with an := x.an ++ [nsc m] }, []) := by unfold Ct.command; rw [if_neg (by omega), if_pos h8]
        rw [e3]
        rw [hn] at hok ⊢
        generalize oct m = o at co hok ⊢
        have CO := Lib.hid co
        have CW := Lib.hid (fun (u : World) (hu : P u c base a b t n va vc x) => fowe hu (nscO o) hok hl)
        clear co e1 e2 e3 hk hm h h6 h8 hn hok hl
        go_enter Tryz.func46, Tryz.ntmps46
        go_wp2_with (first
         | ((with_reducible refine bxm (m := m) ?hx ?_); (case hx => rfl); intro b3 w1 h F0; have H3 := Lib.hid h; have F3 := Lib.hid F0; clear h F0)
         | ((with_reducible refine alr (T := GT) (cs := fc zG) (by kernel_rfl) ?_); intro b4 w2 h F0; have HH := Lib.hid (Hc.start HP.out F3.out H3.out F0 h); clear h F0 H3 F3; obtain ⟨d0, d1, d2, d3, d4, d5⟩ := lay HH.out.h3)
         | (go_at_call 60; ((with_reducible refine (CK.out _).mono ?_); rintro e w3 ⟨rfl, rfl⟩; skip))
         | ((with_reducible refine ldm isM HH.out.h3 ?hx ?_); (case hx => rfl))
         | (go_at_call 67; ((with_reducible refine (CO.out _ HH.out.p.tab).mono ?_); rintro e w4 ⟨rfl, hb⟩; have HH4 := Lib.hid (HH.out.on hb); clear hb d0 d1 d2 d3 d4 d5 HH; have HH := HH4; clear HH4))
         | ((with_reducible refine bdm (T := 29) (nscO o) ?hb ?_); (case hb => kernel_rfl))
         | (go_at_call 66; refine (CW.out _ HH.out.p).mono ?_; rintro e w5 ⟨rfl, hx⟩; have HX := Lib.hid hx; have H45 := Lib.hid (HH.out.after4 hx); clear hx)
         | ((with_reducible refine bdB (parts := #[]) builtG0 ?hl ?_); (case hl => kernel_rfl))
         | ((with_reducible refine str (fc zG) isG H45.out ?h0 ?h1 ?hc ?hx ?hy ?_); (case h0 => rfl); (case h1 => rfl); (case hc => exact all_oneCell_toArray (fl_one zG)); (case hx => rfl); (case hy => rfl); intro w8 h8 M8; have HR8 := Lib.hid h8; have HE := Lib.hid (HH.out.close HX.out M8); clear h8 M8))
        exact bodyPost_ret (hear_results _ _ _ _ _ HR8.out rfl rfl) rfl ⟨rfl, HE.out⟩
      · have e3 : x.command m = (x, []) := by unfold Ct.command; rw [if_pos (.inr (by omega))]
        rw [e3]
        generalize oct m = o at co
        have CO := Lib.hid co
        have CW := Lib.hid (fun (u : World) (hu : P u c base a b t n va vc x) => fowe_no hu (nscO o) hl)
        clear co e1 e2 e3 hk hm h h6 h8 hn hok hl
        go_enter Tryz.func46, Tryz.ntmps46
        go_wp2_with (first
         | ((with_reducible refine bxm (m := m) ?hx ?_); (case hx => rfl); intro b3 w1 h F0; have H3 := Lib.hid h; have F3 := Lib.hid F0; clear h F0)
         | ((with_reducible refine alr (T := GT) (cs := fc zG) (by kernel_rfl) ?_); intro b4 w2 h F0; have HH := Lib.hid (Hc.start HP.out F3.out H3.out F0 h); clear h F0 H3 F3; obtain ⟨d0, d1, d2, d3, d4, d5⟩ := lay HH.out.h3)
         | (go_at_call 60; ((with_reducible refine (CK.out _).mono ?_); rintro e w3 ⟨rfl, rfl⟩; skip))
         | ((with_reducible refine ldm isM HH.out.h3 ?hx ?_); (case hx => rfl))
         | (go_at_call 67; ((with_reducible refine (CO.out _ HH.out.p.tab).mono ?_); rintro e w4 ⟨rfl, hb⟩; have HH4 := Lib.hid (HH.out.on hb); clear hb d0 d1 d2 d3 d4 d5 HH; have HH := HH4; clear HH4))
         | ((with_reducible refine bdm (T := 29) (nscO o) ?hb ?_); (case hb => kernel_rfl))
         | (go_at_call 66; refine (CW.out _ HH.out.p).mono ?_; rintro e w5 ⟨rfl, hx⟩; have HX := Lib.hid hx; have H45 := Lib.hid (HH.out.after4 hx); clear hx)
         | ((with_reducible refine bdB (parts := #[]) builtG0 ?hl ?_); (case hl => kernel_rfl))
         | ((with_reducible refine str (fc zG) isG H45.out ?h0 ?h1 ?hc ?hx ?hy ?_); (case h0 => rfl); (case h1 => rfl); (case hc => exact all_oneCell_toArray (fl_one zG)); (case hx => rfl); (case hy => rfl); intro w8 h8 M8; have HR8 := Lib.hid h8; have HE := Lib.hid (HH.out.close HX.out M8); clear h8 M8))
        exact bodyPost_ret (hear_results _ _ _ _ _ HR8.out rfl rfl) rfl ⟨rfl, HE.out⟩
    · have t8 : ((m.k : Int) == 8) = false := Mem.beq_false (by omega)
      have e3 : x.command m = (x, []) := by unfold Ct.command; rw [if_pos (.inl (by omega))]
      rw [e3]
      clear e1 e2 e3 hk hm h h6 h8
      go_enter Tryz.func46, Tryz.ntmps46
      go_wp2_with (first
       | ((with_reducible refine bxm (m := m) ?hx ?_); (case hx => rfl); intro b3 w1 h F0; have H3 := Lib.hid h; have F3 := Lib.hid F0; clear h F0)
       | ((with_reducible refine alr (T := GT) (cs := fc zG) (by kernel_rfl) ?_); intro b4 w2 h F0; have HH := Lib.hid (Hc.start HP.out F3.out H3.out F0 h); clear h F0 H3 F3; obtain ⟨d0, d1, d2, d3, d4, d5⟩ := lay HH.out.h3)
       | (go_at_call 60; ((with_reducible refine (CK.out _).mono ?_); rintro e w3 ⟨rfl, rfl⟩; skip))
       | ((with_reducible refine bdB (parts := #[]) builtG0 ?hl ?_); (case hl => kernel_rfl))
       | ((with_reducible refine str (fc zG) isG HH.out.h4 ?h0 ?h1 ?hc ?hx ?hy ?_); (case h0 => rfl); (case h1 => rfl); (case hc => exact all_oneCell_toArray (fl_one zG)); (case hx => rfl); (case hy => rfl); intro w8 h8 M8; have HR8 := Lib.hid h8; have HE := Lib.hid (HH.out.close (HH.out.p.px_below (Below.refl _ _)) M8); clear h8 M8))
      exact bodyPost_ret (hear_results _ _ _ _ _ HR8.out rfl rfl) rfl ⟨rfl, HE.out⟩
end
section
variable {w u u' : World} {c base bn : Nat} {a b t n : Int} {va vc vl v va' vc' : Value} {x x' y : Ct} {L : List Ms} {F : List Fa}
/-- Within Hear: its own, the messages that were read, the facts so far. -/
structure Hp (w : World) (c base : Nat) (a b t n : Int) (va vc : Value) (x' : Ct) (vl : Value) (L : List Ms) (v : Value) (F : List Fa) (va' vc' : Value) (u : World) : Prop where
 p : P u c base a b t n va' vc' x'
 sub : ∀ k, PS c va' vc' k → PS c va vc k ∨ w.heap.size ≤ k
 nl : ∀ k, vl.ownBlock = some k → ¬ PS c va' vc' k
 nf : ∀ k, v.ownBlock = some k → ¬ PS c va' vc' k
 chg : Chg (PS c va vc) w u
 l : OwnS MT 20 ml u w.heap.size vl L
 f : OwnS GT 21 fl u w.heap.size v F
 tb : TB < w.heap.size
theorem Hp.on (h : Hp w c base a b t n va vc x' vl L v F va' vc' u) (hb : Below u.heap.size u u') : Hp w c base a b t n va vc x' vl L v F va' vc' u' := ⟨h.p.below hb, h.sub, h.nl, h.nf, h.chg.on hb, h.l.below hb, h.f.below hb, h.tb⟩
/-- A block that came later. -/
structure Nf (w : World) (c : Nat) (va' vc' vl v : Value) (bn : Nat) : Prop where
 n : ¬ PS c va' vc' bn
 l : vl.ownBlock ≠ some bn
 f : v.ownBlock ≠ some bn
 le : w.heap.size ≤ bn
theorem Hp.new (h : Hp w c base a b t n va vc x' vl L v F va' vc' u) (G : Fresh bn u u') : Nf w c va' vc' vl v bn :=
 ⟨h.p.not_new (by rw [G.eq]; exact Nat.le_refl _), fun e => by have := (h.l.lt bn e).2; have := G.eq; omega, fun e => by have := (h.f.lt bn e).2; have := G.eq; omega, by rw [G.eq]; exact h.chg.size⟩
theorem Hp.mod (h : Hp w c base a b t n va vc x' vl L v F va' vc' u) (M : Mod bn u u') (N : Nf w c va' vc' vl v bn) : Hp w c base a b t n va vc x' vl L v F va' vc' u' :=
 ⟨h.p.mod M N.n (fun e => by have := N.le; have := h.tb; omega), h.sub, h.nl, h.nf, h.chg.trans (mod_chg M) fun k hk e => by have := N.le; omega, row_keep h.l fun k hk => M.rest k fun e => N.l (by rw [← e]; exact hk), row_keep h.f fun k hk => M.rest k fun e => N.f (by rw [← e]; exact hk), h.tb⟩
theorem Hp.step (h : Hp w c base a b t n va vc x' vl L v F va' vc' u) (hn : Px u c base a b t n va' vc' y u') : ∃ va2 vc2, Hp w c base a b t n va vc y vl L v F va2 vc2 u' := by
 obtain ⟨va2, vc2, hd, hs⟩ := hn.at_
 have keep : ∀ k, k < u.heap.size → ¬ PS c va' vc' k → ¬ PS c va2 vc2 k := fun k hk h1 h2 => by
  rcases hs k h2 with h3 | h3
  · exact h1 h3
  · omega
 refine ⟨va2, vc2, hd, fun k hk => ?_, fun k hk => keep k (h.l.lt k hk).2 (h.nl k hk), fun k hk => keep k (h.f.lt k hk).2 (h.nf k hk), h.chg.trans hn.chg fun k hk hs => ?_, row_keep h.l fun k hk => hn.chg.block k (h.l.lt k hk).2 (h.nl k hk), row_keep h.f fun k hk => hn.chg.block k (h.f.lt k hk).2 (h.nf k hk), h.tb⟩
 · rcases hs k hk with h3 | h3
   · exact h.sub k h3
   · exact .inr (Nat.le_trans h.chg.size h3)
 · rcases h.sub k hs with h3 | h3
   · exact h3
   · omega
theorem Hp.more {v' : Value} {F' : List Fa} (h : Hp w c base a b t n va vc x' vl L v F va' vc' u) (hq : OwnS GT 21 fl u' w.heap.size v' F') (hg : u.grownBy u' v.ownBlock) (ho : v'.ownBlock = v.ownBlock ∨ v'.ownBlock = some u.heap.size) : Hp w c base a b t n va vc x' vl L v' F' va' vc' u' := by
 have hcg := Chg.of_grown (S := fun k => v.ownBlock = some k) hg fun _ e => e
 refine ⟨h.p.chg hcg (fun k hk e => h.nf k e hk) (fun e => by have := (h.f.lt _ e).1; have := h.tb; omega), h.sub, h.nl, fun k hk hs => ?_, h.chg.trans hcg fun k hk e => ?_, row_keep h.l fun k hk => hcg.block k (h.l.lt k hk).2 fun e => ?_, hq, h.tb⟩
 · rcases ho with e | e
   · exact h.nf k (e ▸ hk) hs
   · rw [e] at hk; cases hk
     have := (h.p.own_lt _ hs).2; omega
 · have := (h.f.lt k e).1; omega
 · obtain ⟨cs, h1⟩ := row_blk h.l hk
   obtain ⟨cs', h2⟩ := row_blk h.f e
   exact type_ne h1 h2 (by decide) rfl
theorem Hp.cast {F' : List Fa} (h : Hp w c base a b t n va vc x' vl L v F va' vc' u) (e : F' = F) (e2 : y = x') : Hp w c base a b t n va vc y vl L v F' va' vc' u := by rw [e, e2]; exact h
set_option maxHeartbeats 16000000 in
theorem fhear (h : P w c base a b t n va vc x) (s : ByteArray) (hs : s.size ≤ 5000) : Calls Tryz.prog 21 #[ptr c, .string s] w fun e w' => ∃ v, e = .returned v ∧ OwnS GT 21 fl w' w.heap.size v (x.hear s).2 ∧ Px w c base a b t n va vc (x.hear s).1 w' := by
 have CA := Lib.hid (fall s hs w h.tab)
 have hall := all_ok s
 have hal := all_len s
 obtain ⟨L, hL⟩ : ∃ L, (all s).1 = L := ⟨_, rfl⟩
 have HH : Hid (x.hear s = x.hears L) := Lib.hid (by unfold Ct.hear; rw [hL])
 rw [hL] at hall hal
 have HAL := Lib.hid hall
 have HLS := Lib.hid hL
 have HP := Lib.hid h
 rw [HH.out]
 clear hall hL h
 go_enter Tryz.func21, Tryz.ntmps21
 go_wp2_with fail
 refine CA.out.mono ?_
 rintro _ w1 ⟨vl, rfl, ho, hb⟩
 rw [HLS.out] at ho
 obtain ⟨oa, cap, rfl, ga⟩ := row_form ho
 obtain ⟨m, hn⟩ : ∃ m, L.length = m := ⟨_, rfl⟩
 rw [hn] at ho hal ga
 have HN := Lib.hid hn
 have GA := Lib.hid ga
 have HK0 : Hid (Hp w c base a b t n va vc (x.hears (L.take 0)).1 (.slice oa m cap) L (.slice none 0 0) (x.hears (L.take 0)).2 va vc w1) := Lib.hid ⟨HP.out.below hb, fun k hk => .inl hk, fun k hk hs => by
  have h1 := (HP.out.own_lt k hs).2
  have h2 := (ho.lt k hk).1
  omega, fun k hk => (by cases hk), Chg.of_below hb, ho, ownS_nil _ _, HP.out.tb_lt⟩
 rw [hn]
 clear ho hb CA hn ga
 go_wp2_with fail
 go_loopg [7, 21] m (fun gm s7 s21 wr => ∃ k : Nat, s21 = nm k ∧ m - k ≤ gm ∧ k ≤ m ∧ Hid (∃ va' vc', Hp w c base a b t n va vc (x.hears (L.take k)).1 (.slice oa m cap) L s7 (x.hears (L.take k)).2 va' vc' wr))
 case atStart => exact ⟨0, rfl, by omega, by omega, Lib.hid ⟨_, _, HK0.out⟩⟩
 case round =>
  clear HK0
  obtain ⟨k, rfl, hgm, hkn, HKE⟩ := hrel
  obtain ⟨va1, vc1, hk⟩ := HKE.out
  have HK := Lib.hid hk
  clear hk HKE
  by_cases hlt : k < m
  · have t1 : decide ((k : Int) < (m : Int)) = true := decide_eq_true (by omega)
    have t2 : (k : Int) < (m : Int) := by omega
    have j0 : (0 : Int) ≤ (k : Int) := by omega
    have vk := nat_wrap (k + 1) (by omega)
    obtain ⟨g, rfl⟩ := GA.out k hlt
    obtain ⟨y, hy⟩ : ∃ y, L[k]? = some y := ⟨_, List.getElem?_eq_getElem (by rw [HN.out]; exact hlt)⟩
    have HR := Lib.hid (own_rangez ml_len HK.out.l k y hy)
    have HXN := Lib.hid (hears_next (x := x) hy)
    have hok := HAL.out y (List.mem_of_getElem? hy)
    have hh := hear1_len (x.hears (L.take k)).1 y
    have HLn : Hid ((x.hears (L.take k)).2.length + 1 ≤ 1000000) := Lib.hid (by
     have := hears_len (L.take k) x
     rw [List.length_take] at this
     omega)
    have ch := fun (u : World) (hu : P u c base a b t n va1 vc1 (x.hears (L.take k)).1) => fhear1 hu y hok
    rw [hv_eq] at ch
    cases hl : ((x.hears (L.take k)).1.hear1 y).2 with
    | nil =>
     rw [hl] at ch
     obtain ⟨f, hf⟩ : ∃ f, hF [] = f := ⟨_, rfl⟩
     rw [hf, show (!([] : List Fa).isEmpty) = false from rfl] at ch
     have CH := Lib.hid ch
     have HE1 : Hid ((x.hears (L.take (k + 1))).2 = (x.hears (L.take k)).2 ∧ (x.hears (L.take (k + 1))).1 = ((x.hears (L.take k)).1.hear1 y).1) := Lib.hid ⟨by rw [HXN.out]; show _ ++ _ = _; rw [hl, List.append_nil], by rw [HXN.out]⟩
     clear hy hok hh ch hl hf
     go_wp2_with (first
      | ((with_reducible refine ldr (m := y) isM HR.out ?hx ?_); (case hx => rfl))
      | ((with_reducible refine alm zeroM ?_); intro b9 w2 h F; have K2 := Lib.hid (HK.out.on F.below); have H9 := Lib.hid h; have N9 := Lib.hid (HK.out.new F); clear h F)
      | ((with_reducible refine stm (m := y) isM H9.out ?hx ?hy ?_); (case hx => rfl); (case hy => rfl); intro w3 h M; have K3 := Lib.hid (K2.out.mod M N9.out); replace H9 := Lib.hid h; clear h M K2)
      | ((with_reducible refine ldm isM H9.out ?hx ?_); (case hx => rfl))
      | (go_at_call 46; refine (CH.out _ K3.out.p).mono ?_; rintro e w5 ⟨rfl, hx⟩; obtain ⟨va2, vc2, hK5⟩ := K3.out.step hx; have K5 := Lib.hid hK5; clear hx hK5 K3)
      | ((with_reducible refine alr (T := GT) (cs := fc zG) (by kernel_rfl) ?_); intro b10 w6 h F; have K6 := Lib.hid (K5.out.on F.below); have H10 := Lib.hid h; have N10 := Lib.hid (K5.out.new F); clear h F)
      | ((with_reducible refine str (fc f) isG H10.out ?h0 ?h1 ?hc ?hx ?hy ?_); (case h0 => rfl); (case h1 => rfl); (case hc => exact all_oneCell_toArray (fl_one f)); (case hx => rfl); (case hy => rfl); intro w7 h M; have K7 := Lib.hid (K6.out.mod M N10.out); replace H10 := Lib.hid h; clear h M K6))
     have K9 := Lib.hid (K7.out.cast HE1.out.1 HE1.out.2)
     go_roundg (m - (k + 1))
     case measure => omega
     case rel => exact ⟨k + 1, by first | rfl | go_num, Nat.le_refl _, by omega, Lib.hid ⟨_, _, K9.out⟩⟩
    | cons f r =>
     rw [hl] at ch hh
     obtain rfl : r = [] := List.eq_nil_of_length_eq_zero (by rw [List.length_cons] at hh; omega)
     rw [show hF [f] = f from rfl, show (!([f] : List Fa).isEmpty) = true from rfl] at ch
     have CH := Lib.hid ch
     have HE1 : Hid ((x.hears (L.take (k + 1))).2 = (x.hears (L.take k)).2 ++ [f] ∧ (x.hears (L.take (k + 1))).1 = ((x.hears (L.take k)).1.hear1 y).1) := Lib.hid ⟨by rw [HXN.out]; show _ ++ _ = _; rw [hl], by rw [HXN.out]⟩
     clear hy hok hh ch hl
     go_wp2_with (first
      | ((with_reducible refine ldr (m := y) isM HR.out ?hx ?_); (case hx => rfl))
      | ((with_reducible refine alm zeroM ?_); intro b9 w2 h F; have K2 := Lib.hid (HK.out.on F.below); have H9 := Lib.hid h; have N9 := Lib.hid (HK.out.new F); clear h F)
      | ((with_reducible refine stm (m := y) isM H9.out ?hx ?hy ?_); (case hx => rfl); (case hy => rfl); intro w3 h M; have K3 := Lib.hid (K2.out.mod M N9.out); replace H9 := Lib.hid h; clear h M K2)
      | ((with_reducible refine ldm isM H9.out ?hx ?_); (case hx => rfl))
      | (go_at_call 46; refine (CH.out _ K3.out.p).mono ?_; rintro e w5 ⟨rfl, hx⟩; obtain ⟨va2, vc2, hK5⟩ := K3.out.step hx; have K5 := Lib.hid hK5; clear hx hK5 K3)
      | ((with_reducible refine alr (T := GT) (cs := fc zG) (by kernel_rfl) ?_); intro b10 w6 h F; have K6 := Lib.hid (K5.out.on F.below); have H10 := Lib.hid h; have N10 := Lib.hid (K5.out.new F); clear h F)
      | ((with_reducible refine str (fc f) isG H10.out ?h0 ?h1 ?hc ?hx ?hy ?_); (case h0 => rfl); (case h1 => rfl); (case hc => exact all_oneCell_toArray (fl_one f)); (case hx => rfl); (case hy => rfl); intro w7 h M; have K7 := Lib.hid (K6.out.mod M N10.out); replace H10 := Lib.hid h; clear h M K6)
      | ((with_reducible refine ldz isG (rangez_of (vs := fl f) H10.out) ?hz ?hx ?_); (case hz => rfl); (case hx => rfl))
      | ((with_reducible refine bslz (z := 21) (fc f) Tryz.underlying54 infoG ?hl ?hz ?hf ?_); (case hl => exact ⟨by decide, by decide⟩); (case hz => exact ⟨by decide, by decide⟩); (case hf => kernel_rfl); intro b11 w8 h F; have K8 := Lib.hid (K7.out.on F.below); have H11 := Lib.hid h; clear h F)
      | (at_builtin; refine wpList_append_elt eltG _ rfl _ _ rfl w.heap.size _ rfl _ K8.out.f b11 _ rfl f (row_ofk H11.out) HLn.out K8.out.chg.size ?_; intro v' w9 ho hg hv; have K9 := Lib.hid (K8.out.more ho hg hv); clear ho hg hv))
     have K99 := Lib.hid (K9.out.cast HE1.out.1 HE1.out.2)
     go_roundg (m - (k + 1))
     case measure => omega
     case rel => exact ⟨k + 1, by first | rfl | go_num, Nat.le_refl _, by omega, Lib.hid ⟨_, _, K99.out⟩⟩
  · obtain rfl : k = m := by omega
    have t1 : decide ((k : Int) < (k : Int)) = false := decide_eq_false (by omega)
    have t2 : ¬ (k : Int) < (k : Int) := by omega
    have HT : Hid (L.take k = L) := Lib.hid (List.take_of_length_le (by rw [HN.out]; exact Nat.le_refl _))
    rw [HT.out] at HK
    go_wp2
    go_ret
    exact ⟨_, rfl, HK.out.f, ⟨⟨_, _, HK.out.p, HK.out.sub⟩, HK.out.chg⟩⟩
end
end Go.Proofs.YtakkhdammmcjcaaGreatDoor.Ctl
namespace Go.Proofs.YtakkhdammmcjcaaGreatDoor.Ctl
open Go.RowKit Base Mem Msgs Cr
set_option maxRecDepth 20000
/-- Blocks of other kinds than the program's own stay. -/
def Keep (u u' : World) : Prop := ∀ (b : Nat) (cs : Array Value) (T : TypeId), u.heap[b]? = some (.cells cs T (0, 0)) → T ≠ CT → T ≠ AT → T ≠ KT → u'.heap[b]? = some (.cells cs T (0, 0))
section
variable {w0 w u u' v' : World} {c base : Nat} {a b t n : Int} {va vc v : Value} {x y : Ct} {F : List Fa} {L : List Ms}
theorem Keep.refl (u : World) : Keep u u := fun _ _ _ h _ _ _ => h
theorem Keep.trans (h : Keep u u') (h' : Keep u' v') : Keep u v' := fun b cs T e h1 h2 h3 => h' b cs T (h b cs T e h1 h2 h3) h1 h2 h3
theorem Keep.of_below (h : Below u.heap.size u u') : Keep u u' := fun _ _ _ e _ _ _ => stays e h
theorem Px.keep (h : P u c base a b t n va vc x) (hx : Px u c base a b t n va vc y u') : Keep u u' := fun k cs T e h1 h2 h3 => hx.chg.stays e fun hs => by
 rcases hs with rfl | q | q
 · exact type_ne h.hd e (fun q => h1 q.symm) rfl
 · obtain ⟨cs', hc⟩ := row_blk h.an q
   exact type_ne hc e (fun q => h2 q.symm) rfl
 · obtain ⟨cs', hc⟩ := row_blk h.cs q
   exact type_ne hc e (fun q => h3 q.symm) rfl
theorem Keep.row {α : Type} {E z : Nat} {fc : α → List Value} {l : List α} (h : Keep u u') (hr : OwnS E z fc u base v l) (h1 : E ≠ CT) (h2 : E ≠ AT) (h3 : E ≠ KT) : OwnS E z fc u' base v l := row_keep hr fun k hk => by
 obtain ⟨cs, hc⟩ := row_blk hr hk
 rw [h k cs E hc h1 h2 h3, hc]
theorem Keep.facts (h : Keep u u') (hr : OwnS GT 21 fl u base v F) : OwnS GT 21 fl u' base v F := h.row hr (by decide) (by decide) (by decide)
theorem Px.below_ (h : P u c w0.heap.size a b t n va vc x) (hx : Px u c w0.heap.size a b t n va vc y u') (hb : Below w0.heap.size w0 u) : Below w0.heap.size w0 u' := hx.chg.below hb hb.size fun k hk => (h.own_lt k hk).1
/-- It lies in memory that was made since. -/
structure Pz (w0 : World) (c : Nat) (a b t n : Int) (x : Ct) (u : World) : Prop where
 p : ∃ va vc, P u c w0.heap.size a b t n va vc x
 below : Below w0.heap.size w0 u
theorem Pz.on (h : Pz w0 c a b t n x u) (hb : Below u.heap.size u u') : Pz w0 c a b t n x u' := by
 obtain ⟨⟨va, vc, hp⟩, h2⟩ := h
 exact ⟨⟨va, vc, hp.below hb⟩, below_on h2 hb⟩
theorem Pz.ok (h : Pz w0 c a b t n x u) : x.Ok := by obtain ⟨⟨va, vc, hp⟩, _⟩ := h; exact hp.ok
theorem Pz.tab (h : Pz w0 c a b t n x u) : Tab u := by obtain ⟨⟨va, vc, hp⟩, _⟩ := h; exact hp.tab
theorem Pz.of (hp : P u c w0.heap.size a b t n va vc x) (hb : Below w0.heap.size w0 u) (hx : Px u c w0.heap.size a b t n va vc y u') : Pz w0 c a b t n y u' ∧ Keep u u' := by
 refine ⟨⟨?_, Px.below_ hp hx hb⟩, Px.keep hp hx⟩
 obtain ⟨⟨va', vc', h', _⟩, _⟩ := hx
 exact ⟨va', vc', h'⟩
theorem znew (p : Pn.Pr) (t n : Int) (w : World) (ht : Tab w) : Calls Tryz.prog 11 #[Pn.pv p, im t, im n] w fun e w' => ∃ c, e = .returned (ptr c) ∧ Pz w c p.n p.k t n (Ct.new p t n) w' :=
 (fnew p t n w ht).mono fun _ _ ⟨c, h1, h2, h3⟩ => ⟨c, h1, ⟨⟨_, _, h2⟩, h3⟩⟩
theorem zask (h : Pz w0 c a b t n x u) (m : Ms) (hm : m.In) (hb : m.b.size ≤ 281474976710656) : Calls Tryz.prog 18 #[ptr c, mv m] u fun e u' => e = .returned (nm (askE m)) ∧ Pz w0 c a b t n (x.ask m) u' ∧ Keep u u' := by
 obtain ⟨⟨va, vc, hp⟩, h2⟩ := h
 exact (fask hp m hm hb).mono fun _ _ ⟨e, hx⟩ => ⟨e, Pz.of hp h2 hx⟩
theorem znext (h : Pz w0 c a b t n x u) : Calls Tryz.prog 20 #[ptr c] u fun e u' => e = .returned (nv x.next.1) ∧ Pz w0 c a b t n x.next.2 u' ∧ Keep u u' := by
 obtain ⟨⟨va, vc, hp⟩, h2⟩ := h
 exact (fnext hp).mono fun _ _ ⟨e, hx⟩ => ⟨e, Pz.of hp h2 hx⟩
theorem zhas (h : Pz w0 c a b t n x u) : Calls Tryz.prog 16 #[ptr c] u fun e u' => e = .returned (.bool x.has) ∧ Below u.heap.size u u' := by
 obtain ⟨⟨va, vc, hp⟩, h2⟩ := h
 exact fhas hp
theorem zwaits (h : Pz w0 c a b t n x u) : Calls Tryz.prog 15 #[ptr c] u fun e u' => e = .returned (.tuple #[nm x.an.length, nm x.cs.length]) ∧ Below u.heap.size u u' := by
 obtain ⟨⟨va, vc, hp⟩, h2⟩ := h
 exact fwaits hp
theorem zhear (h : Pz w0 c a b t n x u) (s : ByteArray) (hs : s.size ≤ 5000) : Calls Tryz.prog 21 #[ptr c, .string s] u fun e u' => ∃ v, e = .returned v ∧ OwnS GT 21 fl u' u.heap.size v (x.hear s).2 ∧ Pz w0 c a b t n (x.hear s).1 u' ∧ Keep u u' := by
 obtain ⟨⟨va, vc, hp⟩, h2⟩ := h
 exact (fhear hp s hs).mono fun _ _ ⟨v, e, ho, hx⟩ => ⟨v, e, ho, Pz.of hp h2 hx⟩
theorem ztick (h : Pz w0 c a b t n x u) : Calls Tryz.prog 25 #[ptr c] u fun e u' => ∃ v, e = .returned v ∧ OwnS GT 21 fl u' u.heap.size v x.tick.2 ∧ Pz w0 c a b t n x.tick.1 u' ∧ Keep u u' := by
 obtain ⟨⟨va, vc, hp⟩, h2⟩ := h
 exact (ftick hp).mono fun _ _ ⟨v, e, ho, hx⟩ => ⟨v, e, ho, Pz.of hp h2 hx⟩
end
end Go.Proofs.YtakkhdammmcjcaaGreatDoor.Ctl
