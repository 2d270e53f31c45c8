/-
  Layer 22, put together: CtlGivesLaw. Conditions: as each theorem names them.
-/
import Derived.Test.YtakkhdammmcjcaaGreatDoorK32
import Derived.Test.YtakkhdammmcjcaaGreatDoorK18
import Derived.Test.YtakkhdammmcjcaaGreatDoorK33
import Derived.Test.YtakkhdammmcjcaaGreatDoorK01
import Derived.Lib.MinMax
namespace Go.Proofs.YtakkhdammmcjcaaGreatDoor.Ctl
open Go.RowKit Base Mem Msgs Cr
set_option maxRecDepth 100000
/-- The row of messages that came in. -/
def rowOf (F : Nat → Ms) (k : Nat) : List Ms := (List.range k).map F
theorem rowOf_next (F : Nat → Ms) (k : Nat) : rowOf F (k + 1) = rowOf F k ++ [F k] := by unfold rowOf; rw [List.range_succ, List.map_append]; rfl
theorem rowOf_len (F : Nat → Ms) (k : Nat) : (rowOf F k).length = k := by unfold rowOf; simp
theorem rowOf_mem {F : Nat → Ms} {k : Nat} {y : Ms} (h : y ∈ rowOf F k) : ∃ i, i < k ∧ y = F i := by
 unfold rowOf at h
 obtain ⟨i, hi, rfl⟩ := List.mem_map.1 h
 exact ⟨i, List.mem_range.1 hi, rfl⟩
theorem rowOf_get {F : Nat → Ms} {k i : Nat} (h : i < k) : (rowOf F k)[i]? = some (F i) := by
 unfold rowOf
 rw [List.getElem?_map, List.getElem?_range h]; rfl
/-- A side all of whose commands are alike. -/
def gx (o : Pn.Pr) (T N : Nat) (A : List Ms) (k lf : Nat) (sd : Bool) : Ct := ⟨o, T, N, [], row A k lf sd⟩
/-- The same, while some were said anew. -/
def gy (o : Pn.Pr) (T N : Nat) (A : List Ms) (k : Nat) (sd : Bool) (i : Nat) : Ct := ⟨o, T, N, [], row (A.take i) k T true ++ row (A.drop i) k 0 sd⟩
theorem gy_start (o : Pn.Pr) (T N : Nat) (A : List Ms) (k : Nat) (sd : Bool) : gy o T N A k sd 0 = gx o T N A k 0 sd := by unfold gy gx; simp [row]
theorem gy_end (o : Pn.Pr) (T N : Nat) (A : List Ms) (k : Nat) (sd : Bool) (i : Nat) (h : A.length ≤ i) : gy o T N A k sd i = gx o T N A k T true := by
 unfold gy gx; rw [List.take_of_length_le h, List.drop_of_length_le h]; simp [row]
theorem gy_next {o : Pn.Pr} {T N : Nat} {A : List Ms} {k : Nat} {sd : Bool} {i : Nat} (hT : T ≠ 0) {y : Ms} (hy : A[i]? = some y) : (gy o T N A k sd i).next = (some y, gy o T N A k sd (i + 1)) := by
 obtain ⟨hi, he⟩ := List.getElem?_eq_some_iff.1 hy
 have e1 : A.drop i = y :: A.drop (i + 1) := by rw [List.drop_eq_getElem_cons hi, he]
 have e2 : A.take (i + 1) = A.take i ++ [y] := by rw [List.take_add_one, hy]; rfl
 unfold gy Ct.next
 dsimp only
 rw [e1, say_row T k hT sd y (A.drop (i + 1)) (A.take i), e2]
theorem gy_none {o : Pn.Pr} {T N : Nat} {A : List Ms} {k : Nat} {sd : Bool} {i : Nat} (hT : T ≠ 0) (hi : A.length ≤ i) : (gy o T N A k sd i).next = (none, gy o T N A k sd (i + 1)) := by
 rw [gy_end o T N A k sd i hi, gy_end o T N A k sd (i + 1) (by omega)]
 unfold gx Ct.next
 dsimp only
 rw [say_none T k T hT true A]
theorem gx_tick {o : Pn.Pr} {T N : Nat} {A : List Ms} {k lf : Nat} (h : lf ≠ 1) : (gx o T N A k lf true).tick = (gx o T N A k (lf - 1) true, []) := by
 unfold gx Ct.tick; dsimp only; rw [ticks_row N k lf h true A]
theorem gx_more {o : Pn.Pr} {T N : Nat} {A : List Ms} {k : Nat} (h : k + 1 ≤ N) : (gx o T N A k 1 true).tick = (gx o T N A (k + 1) 0 true, []) := by
 unfold gx Ct.tick; dsimp only; rw [ticks_more N k h true A]
theorem gx_lost {o : Pn.Pr} {T N : Nat} {A : List Ms} {k : Nat} (h : N < k + 1) : (gx o T N A k 1 true).tick = (⟨o, T, N, [], []⟩, A.map fun m => ⟨4, m⟩) := by
 unfold gx Ct.tick; dsimp only; rw [ticks_lost N k h true A]
theorem give_gx (own : Pn.Pr) (t n : Int) (l : List Ms) (m : Ms) (hm : mayAsk m = true) : ∃ A : List Ms, (l.foldl Ct.ask (Ct.new own t n)).ask m = gx (Ct.new own t n).own (Ct.new own t n).t2 (Ct.new own t n).n2 (A ++ [m]) 0 0 false ∧ A.length ≤ l.length := by
 obtain ⟨A, h1, h2⟩ := give_start own t n l m hm
 refine ⟨A, ?_, h2⟩
 obtain ⟨a1, a2, a3, a4⟩ := ask_own (l.foldl Ct.ask (Ct.new own t n)) m
 obtain ⟨b1, b2, b3, b4⟩ := asks_own (Ct.new own t n) l
 refine (show (l.foldl Ct.ask (Ct.new own t n)).ask m = (⟨((l.foldl Ct.ask (Ct.new own t n)).ask m).own, ((l.foldl Ct.ask (Ct.new own t n)).ask m).t2, ((l.foldl Ct.ask (Ct.new own t n)).ask m).n2, ((l.foldl Ct.ask (Ct.new own t n)).ask m).an, ((l.foldl Ct.ask (Ct.new own t n)).ask m).cs⟩ : Ct) from rfl).trans ?_
 rw [a1, a2, a3, a4, b1, b2, b3, b4, h1]
 rfl
theorem row_un {A : List Ms} {k lf : Nat} {sd : Bool} (h : (row A k lf sd).Pairwise fun a b => same a.m b.m = false) : A.Pairwise fun a b => same a b = false := List.pairwise_map.1 h
/-- Only the one itself is said in its octets. -/
theorem sayhit {A AL : List Ms} {m y : Ms} {i : Nat} (hA : A ++ [m] = AL) (hu : AL.Pairwise fun a b => same a b = false) (hk : ∀ y ∈ AL, Askable y) (hy : AL[i]? = some y) : ((putS y).toList == (putS m).toList) = decide (i = A.length) := by
 obtain ⟨hi, he⟩ := List.getElem?_eq_some_iff.1 hy
 by_cases h : i = A.length
 · subst hA
   subst h
   rw [List.getElem?_append_right (Nat.le_refl _), Nat.sub_self] at hy
   obtain rfl : m = y := by simpa using hy
   rw [beq_self_eq_true, decide_eq_true rfl]
 · rw [decide_eq_false h, beq_eq_false_iff_ne]
   intro e
   have hm : m ∈ AL := by rw [← hA]; exact List.mem_append_right _ (List.mem_singleton.2 rfl)
   have e1 : putS y = putS m := by
    rw [ByteArray.toList_eq, ByteArray.toList_eq] at e
    exact bext e
   have e2 : y = m := putS_inj (hk y (List.mem_of_getElem? hy)).ok (hk m hm).ok e1
   subst hA
   rw [List.length_append, List.length_singleton] at hi
   have h1 : i < A.length := by omega
   have h2 := List.pairwise_append.1 hu
   rw [List.getElem?_append_left h1] at hy
   have h3 := h2.2.2 y (List.mem_of_getElem? hy) m (List.mem_singleton.2 rfl)
   rw [e2, same_self] at h3
   cases h3
/-- What CtlGives keeps: the side, the message in its box, the document's numbers. -/
structure Gv (w w0 : World) (c d b6 : Nat) (a b t n : Int) (T N : Nat) (m : Ms) (x : Ct) (u : World) : Prop where
 z : Pz w0 c a b t n x u
 m : u.heap[b6]? = some (mO m MT)
 d : ∃ dc : Array Value, u.heap[d]? = some (.cells dc DT (0, 0)) ∧ dc[8]? = some (nm T) ∧ dc[9]? = some (nm N)
 below : Below w.heap.size w w0
section
variable {w w0 u u' : World} {c d b6 : Nat} {a b t n : Int} {T N : Nat} {m : Ms} {x y : Ct}
theorem Gv.on (h : Gv w w0 c d b6 a b t n T N m x u) (hb : Below u.heap.size u u') : Gv w w0 c d b6 a b t n T N m x u' := by
 obtain ⟨dc, h1, h2⟩ := h.d
 exact ⟨h.z.on hb, stays h.m hb, ⟨dc, stays h1 hb, h2⟩, h.below⟩
theorem Gv.keep (h : Gv w w0 c d b6 a b t n T N m x u) (hz : Pz w0 c a b t n y u') (hk : Keep u u') : Gv w w0 c d b6 a b t n T N m y u' := by
 obtain ⟨dc, h1, h2⟩ := h.d
 exact ⟨hz, hk b6 _ _ h.m (by decide) (by decide) (by decide), ⟨dc, hk d _ _ h1 (by decide) (by decide) (by decide), h2⟩, h.below⟩
theorem Gv.cells (h : Gv w w0 c d b6 a b t n T N m x u) : u.cell? ⟨d, 8, none⟩ = some (nm T) ∧ u.cell? ⟨d, 9, none⟩ = some (nm N) ∧ d < u.heap.size := by
 obtain ⟨dc, h1, h2, h3⟩ := h.d
 exact ⟨cell_of h1 h2, cell_of h1 h3, lt_heap h1⟩
theorem Gv.all (h : Gv w w0 c d b6 a b t n T N m x u) : Below w.heap.size w u := below_on h.below (h.z.below)
theorem Gv.cast (h : Gv w w0 c d b6 a b t n T N m x u) (e : y = x) : Gv w w0 c d b6 a b t n T N m y u := e ▸ h
end
/-- An element that came in, at some world since. -/
theorem arg_m {w : World} {oa : Option Addr} {n : Nat} {F : Nat → Ms} (h : ArgS 20 ml Fits w oa n F) {k : Nat} (hk : k < n) : ∃ a gb go, oa = some a ∧ a.add (k * 20) = ⟨gb, go, none⟩ ∧ gb < w.heap.size ∧
 ∀ u, Below w.heap.size w u → u.rangeAt gb go (ml (F k)) ∧ u.cell? ⟨gb, go + 19, none⟩ = some (.string (F k).b) ∧ u.cell? ⟨gb, go, none⟩ = some (.int .u8 ((F k).k : Int)) := by
 obtain ⟨a, rfl, gb, go, ha, hgb, hrw⟩ := ArgS.at' (z := 20) (fc := ml) (by decide) (fun _ => rfl) h hk
 refine ⟨a, gb, go, rfl, ha, hgb, fun u hb => ?_⟩
 have hr : u.rangeAt gb go (ml (F k)) := fun j v hv => (hb.cell (p := ⟨gb, go + j, none⟩) hgb).trans ((hrw j (List.getElem?_eq_some_iff.1 hv).1).trans hv)
 exact ⟨hr, hr 19 _ rfl, by have := hr 0 _ rfl; rwa [Nat.add_zero] at this⟩
end Go.Proofs.YtakkhdammmcjcaaGreatDoor.Ctl
namespace Go.Proofs.YtakkhdammmcjcaaGreatDoor.ctlGives
open Go.RowKit Base Mem Msgs Cr Ctl
set_option maxRecDepth 100000
set_option maxHeartbeats 16000000 in
theorem all (t n2 : Int) (m : Ms) (hm : m.In) (oa : Option Addr) (n cap : Nat) (F : Nat → Ms) (w : World) (ht : Tab w) (hA : ArgS 20 ml Fits w oa n F) :
 Calls Tryz.prog 7 #[im t, im n2, mv m, .slice oa n cap] w fun e w' => e = .returned (.bool true) ∧ Below w.heap.size w w' := by
 have CW := Lib.hid (fun (u : World) hu => works u hu)
 have HT := Lib.hid ht
 have cm := fun (u : World) hu => lmay m hm u hu
 by_cases h10 : 10 < n
 · have t1 : decide ((10 : Int) < (n : Int)) = true := decide_eq_true (by omega)
   have t2 : (10 : Int) < (n : Int) := by omega
   have CM := Lib.hid cm
   clear hA ht cm h10
   go_enter Tryz.func7, Tryz.ntmps7
   go_wp2_with (first
    | ((with_reducible refine bxm (m := m) ?hx ?_); (case hx => rfl); intro b6 w1 h F; have H6 := Lib.hid h; have HB := Lib.hid F.below; have HT1 := Lib.hid (tab_below HT.out F.below); obtain ⟨c0, c1, c2, c3, c4, c5⟩ := lay h; clear h F)
    | ((with_reducible refine ldmg isM H6.out ?hg ?hx ?_); (case hg => rfl); (case hx => rfl))
    | (go_at_call 19; ((with_reducible refine (CM.out _ HT1.out).mono ?_); rintro e w2 ⟨rfl, hb⟩; have H62 := Lib.hid (stays H6.out hb); have HB2 := Lib.hid (below_on HB.out hb); have HT2 := Lib.hid (tab_below HT1.out hb); clear hb c0 c1 c2 c3 c4 c5; obtain ⟨c0, c1, c2, c3, c4, c5⟩ := lay H62.out))
    | (go_at_call 9; refine (CW.out _ HT1.out).mono ?_; rintro _ w9 ⟨rfl, hb⟩; have HB9 := Lib.hid (below_on HB.out hb); clear hb))
   go_ret
   exact ⟨rfl, HB9.out⟩
 have t1 : decide ((10 : Int) < (n : Int)) = false := decide_eq_false (by omega)
 have t2 : ¬ (10 : Int) < (n : Int) := by omega
 cases hq : mayAsk m with
 | false =>
  rw [hq] at cm
  have CM := Lib.hid cm
  clear hA ht cm h10 hq
  go_enter Tryz.func7, Tryz.ntmps7
  go_wp2_with (first
   | ((with_reducible refine bxm (m := m) ?hx ?_); (case hx => rfl); intro b6 w1 h F; have H6 := Lib.hid h; have HB := Lib.hid F.below; have HT1 := Lib.hid (tab_below HT.out F.below); obtain ⟨c0, c1, c2, c3, c4, c5⟩ := lay h; clear h F)
   | ((with_reducible refine ldmg isM H6.out ?hg ?hx ?_); (case hg => rfl); (case hx => rfl))
   | (go_at_call 19; ((with_reducible refine (CM.out _ HT1.out).mono ?_); rintro e w2 ⟨rfl, hb⟩; have H62 := Lib.hid (stays H6.out hb); have HB2 := Lib.hid (below_on HB.out hb); have HT2 := Lib.hid (tab_below HT1.out hb); clear hb c0 c1 c2 c3 c4 c5; obtain ⟨c0, c1, c2, c3, c4, c5⟩ := lay H62.out))
   | (go_at_call 9; refine (CW.out _ HT2.out).mono ?_; rintro _ w9 ⟨rfl, hb⟩; have HB9 := Lib.hid (below_on HB2.out hb); clear hb))
  go_ret
  exact ⟨rfl, HB9.out⟩
 | true =>
  rw [hq] at cm
  have CM := Lib.hid cm
  have ha := (mayAsk_iff hm).1 hq
  have u1 : decide ((127 : Int) < (m.b.size : Int)) = false := decide_eq_false (by have := ha.b; omega)
  have u2 : ¬ (127 : Int) < (m.b.size : Int) := by have := ha.b; omega
  have HA := Lib.hid hA
  have HMQ := Lib.hid hq
  have HMA := Lib.hid ha
  have HMI := Lib.hid hm
  have CP := Lib.hid (fun (u : World) hu => fput m hm (by have := ha.b; omega) u hu)
  have CN := Lib.hid (fun (u : World) => rnew Pn.zero t n2 u)
  clear hA ht cm hq ha hm
  go_enter Tryz.func7, Tryz.ntmps7
  go_wp2_with (first
   | ((with_reducible refine bxm (m := m) ?hx ?_); (case hx => rfl); intro b6 w1 h F; have H6 := Lib.hid h; have HB := Lib.hid F.below; have HT1 := Lib.hid (tab_below HT.out F.below); obtain ⟨c0, c1, c2, c3, c4, c5⟩ := lay h; clear h F)
   | ((with_reducible refine ldmg isM H6.out ?hg ?hx ?_); (case hg => rfl); (case hx => rfl))
   | (go_at_call 19; ((with_reducible refine (CM.out _ HT1.out).mono ?_); rintro e w2 ⟨rfl, hb⟩; have H62 := Lib.hid (stays H6.out hb); have HB2 := Lib.hid (below_on HB.out hb); have HT2 := Lib.hid (tab_below HT1.out hb); clear hb c0 c1 c2 c3 c4 c5; obtain ⟨c0, c1, c2, c3, c4, c5⟩ := lay H62.out))
   | (go_at_call 12; refine (CN.out _).mono ?_; rintro _ w3 ⟨d, rfl, hd, hb⟩; have HD3 := Lib.hid hd; have HB3 := Lib.hid (below_on HB2.out hb); have HT3 := Lib.hid (tab_below HT2.out hb); have H63 := Lib.hid (stays H62.out hb); clear hd hb c0 c1 c2 c3 c4 c5)
   | (go_at_call 11; refine (znew Pn.zero t n2 _ HT3.out).mono ?_; rintro _ w4 ⟨c, rfl, hz⟩; have HZ4 := Lib.hid hz; clear hz))
  obtain ⟨x0, hx0⟩ : ∃ x0, Ct.new Pn.zero t n2 = x0 := ⟨_, rfl⟩
  have HX0 := Lib.hid hx0
  rw [hx0] at HD3 HZ4
  obtain ⟨T, hT⟩ : ∃ T, x0.t2 = T := ⟨_, rfl⟩
  obtain ⟨N, hN⟩ : ∃ N, x0.n2 = N := ⟨_, rfl⟩
  have HTE := Lib.hid (And.intro hT hN)
  have hok0 := HZ4.out.ok
  have hT1 : 1 ≤ T ∧ T ≤ 255 := by rw [← hT]; exact hok0.t2
  have hN1 : N ≤ 255 := by rw [← hN]; exact hok0.n2
  have HG0 : Hid (Gv w w3 c d b6 Pn.zero.n Pn.zero.k t n2 T N m ((rowOf F 0).foldl Ct.ask x0) w4) := Lib.hid ⟨HZ4.out, stays H63.out HZ4.out.below, ⟨_, stays HD3.out.hd HZ4.out.below, by rw [← hT]; rfl, by rw [← hN]; rfl⟩, HB3.out⟩
  clear HD3 HZ4 H63 H62 H6 HB HB2 HB3 HT1 HT2 HT3 hx0 hT hN hok0 CN CM
  generalize Pn.zero.n = an at *
  generalize Pn.zero.k = ak at *
  go_loopg [11] n (fun gm s wr => ∃ k : Nat, s = nm k ∧ n - k ≤ gm ∧ k ≤ n ∧ Hid (Gv w w3 c d b6 an ak t n2 T N m ((rowOf F k).foldl Ct.ask x0) wr))
  case atStart => exact ⟨0, by first | rfl | go_num, by omega, by omega, HG0⟩
  case round =>
   clear HG0
   obtain ⟨k, rfl, hgm, hkn, HG⟩ := hrel
   by_cases hlt : k < n
   · have s1 : decide ((k : Int) < (n : Int)) = true := decide_eq_true (by omega)
     have s2 : (k : Int) < (n : Int) := by omega
     have s3 : (0 : Int) ≤ (k : Int) := by omega
     have vk := nat_wrap (k + 1) (by omega)
     have hyi := HA.out.inb k hlt
     obtain ⟨a, gb, go, rfl, hadd, hgb, hrw⟩ := arg_m HA.out hlt
     have HN1 : Hid ((rowOf F (k + 1)).foldl Ct.ask x0 = ((rowOf F k).foldl Ct.ask x0).ask (F k)) := Lib.hid (by rw [rowOf_next, List.foldl_append]; rfl)
     generalize F k = y at hyi hrw HN1
     have HW := Lib.hid (hrw wr HG.out.all)
     have c19 := HW.out.2.1
     have HYI := Lib.hid hyi
     clear hrw hyi
     by_cases h127 : 127 < y.b.size
     · have r1 : decide ((127 : Int) < (y.b.size : Int)) = true := decide_eq_true (by omega)
       have r2 : (127 : Int) < (y.b.size : Int) := by omega
       clear h127
       go_wp2_with (go_at_call 9; refine (CW.out _ HG.out.z.tab).mono ?_; rintro _ w9 ⟨rfl, hb⟩; have HB9 := Lib.hid (below_on HG.out.all hb); clear hb)
       go_ret
       exact ⟨rfl, HB9.out⟩
     · have r1 : decide ((127 : Int) < (y.b.size : Int)) = false := decide_eq_false (by omega)
       have r2 : ¬ (127 : Int) < (y.b.size : Int) := by omega
       have CA := Lib.hid (fun (u : World) (x : Ct) (hu : Pz w3 c an ak t n2 x u) => zask hu y HYI.out.1 (by omega))
       clear h127
       go_wp2_with (first
        | ((with_reducible refine ldr (m := y) isM HW.out.1 ?hx ?_); (case hx => rfl))
        | (go_at_call 18; refine (CA.out _ _ HG.out.z).mono ?_; rintro _ w5 ⟨rfl, hz, hk⟩; have HG5 := Lib.hid (HG.out.keep hz hk); clear hz hk c19))
       have HG6 := Lib.hid (HG5.out.cast HN1.out)
       go_roundg (n - (k + 1))
       case measure => omega
       case rel => exact ⟨k + 1, by first | rfl | go_num, Nat.le_refl _, by omega, HG6⟩
   · obtain rfl : k = n := by omega
     have s1 : decide ((k : Int) < (k : Int)) = false := decide_eq_false (by omega)
     have s2 : ¬ (k : Int) < (k : Int) := by omega
     have CA := Lib.hid (fun (u : World) (x : Ct) (hu : Pz w3 c an ak t n2 x u) => zask hu m HMI.out (by have := HMA.out.b; omega))
     obtain ⟨A, hA1, hA2⟩ := give_gx Pn.zero t n2 (rowOf F k) m HMQ.out
     rw [HX0.out, HTE.out.1, HTE.out.2] at hA1
     rw [rowOf_len] at hA2
     generalize x0.own = ow at hA1
     have HA1 := Lib.hid hA1
     have hA11 : A.length ≤ 10 := by omega
     clear hA1 hA2
     go_wp2_with (first
      | ((with_reducible refine ldm isM HG.out.m ?hx ?_); (case hx => rfl))
      | (go_at_call 18; refine (CA.out _ _ HG.out.z).mono ?_; rintro _ w5 ⟨rfl, hz, hk⟩; have HG5 := Lib.hid ((HG.out.keep hz hk).cast HA1.out.symm); clear hz hk HG)
      | ((with_reducible refine ldm isM HG5.out.m ?hx ?_); (case hx => rfl))
      | (go_at_call 24; refine (CP.out _ HG5.out.z.tab).mono ?_; rintro _ w6 ⟨rfl, hb⟩; have HG6 := Lib.hid (HG5.out.on hb); clear hb HG5))
     obtain ⟨AL, hAL⟩ : ∃ AL, A ++ [m] = AL := ⟨_, rfl⟩
     rw [hAL] at HG6
     have hokx := HG6.out.z.ok
     have HAL := Lib.hid hAL
     have hlen : AL.length = A.length + 1 := by rw [← hAL]; simp
     have HU : Hid (AL.Pairwise fun a b => same a b = false) := Lib.hid (row_un hokx.un)
     have HK : Hid (∀ y ∈ AL, Askable y) := Lib.hid (fun y hy => hokx.cs _ (List.mem_map.2 ⟨y, hy, rfl⟩))
     clear hAL hokx HA1 CA
     have HM0 : Hid (∃ y, Gv w w3 c d b6 an ak t n2 T N m y w6 ∧ (0 ≤ N → ∃ sd, y = gx ow T N AL 0 0 sd)) := Lib.hid ⟨_, HG6.out, fun _ => ⟨_, rfl⟩⟩
     clear HG6
     go_loopg [14, 15] 300 (fun gm s14 s15 wr => ∃ k : Nat, s14 = nm k ∧ s15 = nm k ∧ 300 - k ≤ gm ∧ k ≤ min N 20 + 1 ∧ Hid (∃ y, Gv w w3 c d b6 an ak t n2 T N m y wr ∧ (k ≤ N → ∃ sd, y = gx ow T N AL k 0 sd)))
     case atStart => exact ⟨0, by first | rfl | go_num, by first | rfl | go_num, by omega, by omega, HM0⟩
     case round =>
      clear HM0
      obtain ⟨kk, rfl, rfl, hgm2, hkn2, HGE⟩ := hrel
      obtain ⟨yy, hg, hy⟩ := HGE.out
      obtain ⟨d8, d9, dl⟩ := hg.cells
      by_cases hlt2 : kk ≤ min N 20
      · obtain ⟨sd, rfl⟩ := hy (by omega)
        have HG := Lib.hid hg
        have p1 : decide ((kk : Int) ≤ min (N : Int) 20) = true := decide_eq_true (by omega)
        have p2 : (kk : Int) ≤ min (N : Int) 20 := by omega
        have vk := nat_wrap (kk + 1) (by omega)
        have hkN : kk ≤ N := by omega
        clear hg hy HGE
        have HGy : Hid (Gv w w3 c d b6 an ak t n2 T N m (gy ow T N AL kk sd 0) wr) := Lib.hid (HG.out.cast (gy_start _ _ _ _ _ _))
        clear HG
        go_wp2_with fail
        go_loopg [16, 17] 20 (fun gm s16 s17 wr => ∃ i z : Nat, s17 = nm i ∧ s16 = nm z ∧ 20 - i ≤ gm ∧ i ≤ 20 ∧ Hid (z = if A.length < i then 1 else 0) ∧ Hid (Gv w w3 c d b6 an ak t n2 T N m (gy ow T N AL kk sd i) wr))
        case atStart => exact ⟨0, 0, by first | rfl | go_num, by first | rfl | go_num, by omega, by omega, Lib.hid rfl, HGy⟩
        case round =>
         clear HGy d8 d9 dl
         obtain ⟨i, z, rfl, rfl, hgm3, hin, HZ, HG⟩ := hrel
         by_cases hlt3 : i < 20
         · have o1 : decide ((i : Int) < 20) = true := decide_eq_true (by omega)
           have o2 : (i : Int) < 20 := by omega
           have vi := nat_wrap (i + 1) (by omega)
           have CN := Lib.hid (znext HG.out.z)
           by_cases hi : i < AL.length
           · obtain ⟨y, hy⟩ : ∃ y, AL[i]? = some y := ⟨_, List.getElem?_eq_getElem hi⟩
             have hnx := gy_next (o := ow) (N := N) (k := kk) (sd := sd) (show T ≠ 0 by omega) hy
             rw [hnx] at CN
             dsimp only [nv] at CN
             have HNX := Lib.hid (show gy ow T N AL kk sd (i + 1) = (some y, gy ow T N AL kk sd (i + 1)).2 from rfl)
             have hcmp := sayhit HAL.out HU.out HK.out hy
             obtain ⟨q, hq⟩ : ∃ q, decide (i = A.length) = q := ⟨_, rfl⟩
             rw [hq] at hcmp
             cases hqq : q with
             | true =>
              subst hqq
              have hiA : i = A.length := of_decide_eq_true hq
              have HZ1 : Hid (z = 0) := Lib.hid (by rw [HZ.out, if_neg (by omega)])
              have HZ2 : Hid (1 = if A.length < i + 1 then 1 else 0) := Lib.hid (by rw [if_pos (by omega)])
              obtain rfl := HZ1.out
              clear hy hnx hq hiA hi HZ HZ1
              go_wp2_with (go_at_call 20; refine CN.out.mono ?_; rintro _ w7 ⟨rfl, hz, hk⟩; have HG7 := Lib.hid (HG.out.keep hz hk); clear hz hk)
              go_roundg (20 - (i + 1))
              case measure => omega
              case rel => exact ⟨i + 1, 1, by first | rfl | go_num, by first | rfl | go_num, Nat.le_refl _, by omega, HZ2, HG7⟩
             | false =>
              subst hqq
              have hiA : ¬ i = A.length := of_decide_eq_false hq
              have HZ2 : Hid (z = if A.length < i + 1 then 1 else 0) := Lib.hid (by
               rw [HZ.out]
               by_cases h : A.length < i
               · rw [if_pos h, if_pos (by omega)]
               · rw [if_neg h, if_neg (by omega)])
              clear hy hnx hq hiA hi HZ
              go_wp2_with (go_at_call 20; refine CN.out.mono ?_; rintro _ w7 ⟨rfl, hz, hk⟩; have HG7 := Lib.hid (HG.out.keep hz hk); clear hz hk)
              go_roundg (20 - (i + 1))
              case measure => omega
              case rel => exact ⟨i + 1, z, by first | rfl | go_num, by first | rfl | go_num, Nat.le_refl _, by omega, HZ2, HG7⟩
           · have hnx := gy_none (o := ow) (N := N) (A := AL) (k := kk) (sd := sd) (i := i) (show T ≠ 0 by omega) (by omega)
             rw [hnx] at CN
             dsimp only [nv] at CN
             have HZ2 : Hid (z = if A.length < i + 1 then 1 else 0) := Lib.hid (by rw [HZ.out, if_pos (by omega), if_pos (by omega)])
             clear hnx hi HZ
             go_wp2_with (go_at_call 20; refine CN.out.mono ?_; rintro _ w7 ⟨rfl, hz, hk⟩; have HG7 := Lib.hid (HG.out.keep hz hk); clear hz hk)
             go_roundg (20 - (i + 1))
             case measure => omega
             case rel => exact ⟨i + 1, z, by first | rfl | go_num, by first | rfl | go_num, Nat.le_refl _, by omega, HZ2, HG7⟩
         · obtain rfl : i = 20 := by omega
           obtain rfl : z = 1 := by rw [HZ.out, if_pos (by omega)]
           have o1 : decide ((((20 : Nat) : Int)) < 20) = false := by decide
           have HGx : Hid (Gv w w3 c d b6 an ak t n2 T N m (gx ow T N AL kk T true) wr) := Lib.hid (HG.out.cast (gy_end _ _ _ _ _ _ _ (by omega)).symm)
           clear HG HZ
           obtain ⟨d8, d9, dl⟩ := HGx.out.cells
           go_wp2_with fail
           have HT0 : Hid (∃ y, Gv w w3 c d b6 an ak t n2 T N m y wr ∧ (0 < T → y = gx ow T N AL kk (T - 0) true) ∧ (0 = T → kk + 1 ≤ N → y = gx ow T N AL (kk + 1) 0 true)) := Lib.hid ⟨_, HGx.out, fun _ => rfl, fun e => by omega⟩
           clear HGx d8 d9 dl
           go_loopg [21] T (fun gm s wr => ∃ i : Nat, s = nm i ∧ T - i ≤ gm ∧ i ≤ T ∧ Hid (∃ y, Gv w w3 c d b6 an ak t n2 T N m y wr ∧ (i < T → y = gx ow T N AL kk (T - i) true) ∧ (i = T → kk + 1 ≤ N → y = gx ow T N AL (kk + 1) 0 true)))
           case atStart => exact ⟨0, by first | rfl | go_num, by omega, by omega, HT0⟩
           case round =>
            clear HT0
            obtain ⟨i, rfl, hgm4, hiT, HGE⟩ := hrel
            obtain ⟨y, hg, hy1, hy2⟩ := HGE.out
            obtain ⟨d8, d9, dl⟩ := hg.cells
            by_cases hlt4 : i < T
            · have o3 : decide ((i : Int) < (T : Int)) = true := decide_eq_true (by omega)
              have o4 : (i : Int) < (T : Int) := by omega
              have vi := nat_wrap (i + 1) (by omega)
              have vT : IntKind.i64.wrap ((T : Int) - 1) = (T : Int) - 1 := by rw [IntKind.wrap_i64]; omega
              have vN : IntKind.i64.wrap ((N : Int) + 1) = (N : Int) + 1 := by rw [IntKind.wrap_i64]; omega
              have HG := Lib.hid hg
              have hye := hy1 hlt4
              clear hg hy1 hy2 HGE
              by_cases hi1 : i + 1 = T
              · rw [show T - i = 1 by omega] at hye
                obtain rfl : T = i + 1 := hi1.symm
                have wi := nat_wrap i (by omega)
                clear o3 o4 vT hi1
                by_cases hkk : kk + 1 ≤ N
                · have o6 : (((kk + 1 : Nat) : Int) == (N : Int) + 1) = false := Mem.beq_false (by omega)
                  have htk := gx_more (o := ow) (T := i + 1) (A := AL) hkk
                  rw [← hye] at htk
                  have HTK : Hid (cnt 4 m y.tick.2 = 0) := Lib.hid (by rw [htk]; rfl)
                  have HFL : Hid (y.tick.2.length ≤ 1000000) := Lib.hid (by rw [htk]; exact Nat.zero_le _)
                  have HFI : Hid (∀ f ∈ y.tick.2, f.m.In) := Lib.hid (by rw [htk]; exact fun f hf => by cases hf)
                  have HTS : Hid (gx ow (i + 1) N AL (kk + 1) 0 true = y.tick.1) := Lib.hid (by rw [htk])
                  clear htk hye
                  go_wp2_with fail
                  replace HG := Lib.hid (HG.out.on (u' := wr.drew) ⟨rfl, rfl, rfl, Nat.le_refl _, fun _ _ => rfl⟩)
                  clear d8 d9 dl
                  refine wp_region_held_drew (S := (fun w' => w'.heap[b6]? = some (mO m MT))) (by kernel_rfl) HG.out.m (fun hHeld => ?_)
                  refine' tk9 0 rfl ?_
                  refine' tv9 2 rfl (by intro _ hSw; (try dsimp only at hSw); refine ex_ld isM hSw ?_; rfl) ?_
                  refine ry [1] (.cons rfl (fun K hK => ?_) .nil)
                  go_simp
                  refine (ztick HG.out.z).mono ?_
                  rintro e w8 ⟨v8, rfl, ho, hz, hk⟩
                  obtain ⟨oo, oc, rfl, _⟩ := row_form ho
                  go_wp2_with fail
                  have HG2 := Lib.hid (HG.out.keep hz hk)
                  have HO := Lib.hid ho
                  clear HG ho hz hk
                  refine hK.out _ _ HG2.out.m (fun hNext => ?_)
                  clear hK K hHeld
                  have hHeld := hNext; clear hNext
                  (try simp only [Act.put, z1', z2', z3'])
                  refine ry [3] (.cons rfl (fun K hK => ?_) .nil)
                  go_simp
                  refine (lof HO.out HFL.out 4 m HMI.out HFI.out).mono ?_
                  rw [HTK.out]
                  rintro e w9 ⟨rfl, hb⟩
                  go_wp2_with fail
                  have HG3 := Lib.hid (HG2.out.on hb)
                  clear hb HO
                  refine hK.out _ _ HG3.out.m (fun hNext => ?_)
                  clear hK K hHeld
                  have hHeld := hNext; clear hNext
                  (try simp only [Act.put, z1', z2', z3'])
                  refine' tk9 4 rfl ?_
                  refine wpAnyH_done (by kernel_rfl) ?_ _
                  clear hHeld HTK HFL HFI HG2
                  have HG4 := Lib.hid (HG3.out.cast HTS.out)
                  clear HG3
                  obtain ⟨d8, d9, dl⟩ := HG4.out.cells
                  go_wp2
                  go_roundg ((i + 1) - (i + 1))
                  case measure => omega
                  case rel => exact ⟨i + 1, by first | rfl | go_num, Nat.le_refl _, by omega, Lib.hid ⟨_, HG4.out, fun h => by omega, fun _ _ => rfl⟩⟩
                · obtain rfl : N = kk := by omega
                  have htk := gx_lost (o := ow) (T := i + 1) (A := AL) (show N < N + 1 by omega)
                  rw [← hye] at htk
                  have HTK : Hid (cnt 4 m y.tick.2 = 1) := Lib.hid (by rw [htk]; exact lost_one HU.out (by rw [← HAL.out]; exact List.mem_append_right _ (List.mem_singleton.2 rfl)))
                  have HFL : Hid (y.tick.2.length ≤ 1000000) := Lib.hid (by rw [htk]; show (AL.map _).length ≤ _; rw [List.length_map]; omega)
                  have HFI : Hid (∀ f ∈ y.tick.2, f.m.In) := Lib.hid (by
                   rw [htk]
                   intro f hf
                   obtain ⟨z, hz, rfl⟩ := List.mem_map.1 hf
                   exact (HK.out z hz).in_)
                  have HTS : Hid (⟨ow, i + 1, N, [], []⟩ = y.tick.1) := Lib.hid (by rw [htk])
                  clear htk hye
                  go_wp2_with fail
                  replace HG := Lib.hid (HG.out.on (u' := wr.drew) ⟨rfl, rfl, rfl, Nat.le_refl _, fun _ _ => rfl⟩)
                  clear d8 d9 dl
                  refine wp_region_held_drew (S := (fun w' => w'.heap[b6]? = some (mO m MT))) (by kernel_rfl) HG.out.m (fun hHeld => ?_)
                  refine' tk9 0 rfl ?_
                  refine' tv9 2 rfl (by intro _ hSw; (try dsimp only at hSw); refine ex_ld isM hSw ?_; rfl) ?_
                  refine ry [1] (.cons rfl (fun K hK => ?_) .nil)
                  go_simp
                  refine (ztick HG.out.z).mono ?_
                  rintro e w8 ⟨v8, rfl, ho, hz, hk⟩
                  obtain ⟨oo, oc, rfl, _⟩ := row_form ho
                  go_wp2_with fail
                  have HG2 := Lib.hid (HG.out.keep hz hk)
                  have HO := Lib.hid ho
                  clear HG ho hz hk
                  refine hK.out _ _ HG2.out.m (fun hNext => ?_)
                  clear hK K hHeld
                  have hHeld := hNext; clear hNext
                  (try simp only [Act.put, z1', z2', z3'])
                  refine ry [3] (.cons rfl (fun K hK => ?_) .nil)
                  go_simp
                  refine (lof HO.out HFL.out 4 m HMI.out HFI.out).mono ?_
                  rw [HTK.out]
                  rintro e w9 ⟨rfl, hb⟩
                  go_wp2_with fail
                  have HG3 := Lib.hid (HG2.out.on hb)
                  clear hb HO
                  refine hK.out _ _ HG3.out.m (fun hNext => ?_)
                  clear hK K hHeld
                  have hHeld := hNext; clear hNext
                  (try simp only [Act.put, z1', z2', z3'])
                  refine' tk9 4 rfl ?_
                  refine wpAnyH_done (by kernel_rfl) ?_ _
                  clear hHeld HTK HFL HFI HG2
                  have HG4 := Lib.hid (HG3.out.cast HTS.out)
                  clear HG3
                  obtain ⟨d8, d9, dl⟩ := HG4.out.cells
                  go_wp2
                  go_roundg ((i + 1) - (i + 1))
                  case measure => omega
                  case rel => exact ⟨i + 1, by first | rfl | go_num, Nat.le_refl _, by omega, Lib.hid ⟨_, HG4.out, fun h => by omega, fun _ h => absurd h hkk⟩⟩
              · have o5 : ((i : Int) == (T : Int) - 1) = false := Mem.beq_false (by omega)
                have htk := gx_tick (o := ow) (T := T) (N := N) (A := AL) (k := kk) (show T - i ≠ 1 by omega)
                rw [← hye] at htk
                have HTK : Hid (cnt 4 m y.tick.2 = 0) := Lib.hid (by rw [htk]; rfl)
                have HFL : Hid (y.tick.2.length ≤ 1000000) := Lib.hid (by rw [htk]; exact Nat.zero_le _)
                have HFI : Hid (∀ f ∈ y.tick.2, f.m.In) := Lib.hid (by rw [htk]; exact fun f hf => by cases hf)
                have HTS : Hid (gx ow T N AL kk (T - (i + 1)) true = y.tick.1) := Lib.hid (by rw [htk]; rfl)
                clear htk hye
                by_cases hkk : kk + 1 ≤ N
                · have o6 : (((kk + 1 : Nat) : Int) == (N : Int) + 1) = false := Mem.beq_false (by omega)
                  go_wp2_with fail
                  replace HG := Lib.hid (HG.out.on (u' := wr.drew) ⟨rfl, rfl, rfl, Nat.le_refl _, fun _ _ => rfl⟩)
                  clear d8 d9 dl
                  refine wp_region_held_drew (S := (fun w' => w'.heap[b6]? = some (mO m MT))) (by kernel_rfl) HG.out.m (fun hHeld => ?_)
                  refine' tk9 0 rfl ?_
                  refine' tv9 2 rfl (by intro _ hSw; (try dsimp only at hSw); refine ex_ld isM hSw ?_; rfl) ?_
                  refine ry [1] (.cons rfl (fun K hK => ?_) .nil)
                  go_simp
                  refine (ztick HG.out.z).mono ?_
                  rintro e w8 ⟨v8, rfl, ho, hz, hk⟩
                  obtain ⟨oo, oc, rfl, _⟩ := row_form ho
                  go_wp2_with fail
                  have HG2 := Lib.hid (HG.out.keep hz hk)
                  have HO := Lib.hid ho
                  clear HG ho hz hk
                  refine hK.out _ _ HG2.out.m (fun hNext => ?_)
                  clear hK K hHeld
                  have hHeld := hNext; clear hNext
                  (try simp only [Act.put, z1', z2', z3'])
                  refine ry [3] (.cons rfl (fun K hK => ?_) .nil)
                  go_simp
                  refine (lof HO.out HFL.out 4 m HMI.out HFI.out).mono ?_
                  rw [HTK.out]
                  rintro e w9 ⟨rfl, hb⟩
                  go_wp2_with fail
                  have HG3 := Lib.hid (HG2.out.on hb)
                  clear hb HO
                  refine hK.out _ _ HG3.out.m (fun hNext => ?_)
                  clear hK K hHeld
                  have hHeld := hNext; clear hNext
                  (try simp only [Act.put, z1', z2', z3'])
                  refine' tk9 4 rfl ?_
                  refine wpAnyH_done (by kernel_rfl) ?_ _
                  clear hHeld HTK HFL HFI HG2
                  have HG4 := Lib.hid (HG3.out.cast HTS.out)
                  clear HG3
                  obtain ⟨d8, d9, dl⟩ := HG4.out.cells
                  go_wp2
                  go_roundg (T - (i + 1))
                  case measure => omega
                  case rel => exact ⟨i + 1, by first | rfl | go_num, Nat.le_refl _, by omega, Lib.hid ⟨_, HG4.out, fun _ => rfl, fun h => by omega⟩⟩
                · obtain rfl : N = kk := by omega
                  go_wp2_with fail
                  replace HG := Lib.hid (HG.out.on (u' := wr.drew) ⟨rfl, rfl, rfl, Nat.le_refl _, fun _ _ => rfl⟩)
                  clear d8 d9 dl
                  refine wp_region_held_drew (S := (fun w' => w'.heap[b6]? = some (mO m MT))) (by kernel_rfl) HG.out.m (fun hHeld => ?_)
                  refine' tk9 0 rfl ?_
                  refine' tv9 2 rfl (by intro _ hSw; (try dsimp only at hSw); refine ex_ld isM hSw ?_; rfl) ?_
                  refine ry [1] (.cons rfl (fun K hK => ?_) .nil)
                  go_simp
                  refine (ztick HG.out.z).mono ?_
                  rintro e w8 ⟨v8, rfl, ho, hz, hk⟩
                  obtain ⟨oo, oc, rfl, _⟩ := row_form ho
                  go_wp2_with fail
                  have HG2 := Lib.hid (HG.out.keep hz hk)
                  have HO := Lib.hid ho
                  clear HG ho hz hk
                  refine hK.out _ _ HG2.out.m (fun hNext => ?_)
                  clear hK K hHeld
                  have hHeld := hNext; clear hNext
                  (try simp only [Act.put, z1', z2', z3'])
                  refine ry [3] (.cons rfl (fun K hK => ?_) .nil)
                  go_simp
                  refine (lof HO.out HFL.out 4 m HMI.out HFI.out).mono ?_
                  rw [HTK.out]
                  rintro e w9 ⟨rfl, hb⟩
                  go_wp2_with fail
                  have HG3 := Lib.hid (HG2.out.on hb)
                  clear hb HO
                  refine hK.out _ _ HG3.out.m (fun hNext => ?_)
                  clear hK K hHeld
                  have hHeld := hNext; clear hNext
                  (try simp only [Act.put, z1', z2', z3'])
                  refine' tk9 4 rfl ?_
                  refine wpAnyH_done (by kernel_rfl) ?_ _
                  clear hHeld HTK HFL HFI HG2
                  have HG4 := Lib.hid (HG3.out.cast HTS.out)
                  clear HG3
                  obtain ⟨d8, d9, dl⟩ := HG4.out.cells
                  go_wp2
                  go_roundg (T - (i + 1))
                  case measure => omega
                  case rel => exact ⟨i + 1, by first | rfl | go_num, Nat.le_refl _, by omega, Lib.hid ⟨_, HG4.out, fun _ => rfl, fun h => by omega⟩⟩
            · obtain rfl : i = T := by omega
              have o3 : decide ((i : Int) < (i : Int)) = false := decide_eq_false (by omega)
              have o4 : ¬ (i : Int) < (i : Int) := by omega
              have HGN : Hid (∃ y, Gv w w3 c d b6 an ak t n2 i N m y wr ∧ (kk + 1 ≤ N → ∃ sd, y = gx ow i N AL (kk + 1) 0 sd)) := Lib.hid ⟨y, hg, fun h => ⟨true, hy2 rfl h⟩⟩
              clear hg hy1 hy2 HGE
              go_wp2
              go_roundg (300 - (kk + 1))
              case measure => omega
              case rel => exact ⟨kk + 1, by first | rfl | go_num, by first | rfl | go_num, Nat.le_refl _, by omega, HGN⟩
      · have p1 : decide ((kk : Int) ≤ min (N : Int) 20) = false := decide_eq_false (by omega)
        have p2 : ¬ (kk : Int) ≤ min (N : Int) 20 := by omega
        have HG := Lib.hid hg
        clear hg hy HGE
        go_wp2_with (go_at_call 9; refine (CW.out _ HG.out.z.tab).mono ?_; rintro _ w9 ⟨rfl, hb⟩; have HB9 := Lib.hid (below_on HG.out.all hb); clear hb)
        go_ret
        exact ⟨rfl, HB9.out⟩
theorem law (t : Int) (_ : -9223372036854775808 ≤ t ∧ t ≤ 9223372036854775807) (n2 : Int) (_ : -9223372036854775808 ≤ n2 ∧ n2 ≤ 9223372036854775807) (m : Ms) (hm : m.In) (oa : Option Addr) (n cap : Nat) (F : Nat → Ms) (_ : n ≤ maxLen) (w : World) (ht : Tab w) (hA : ArgS 20 ml Fits w oa n F) :
 Calls Tryz.prog 7 #[im t, im n2, mv m, .slice oa n cap] w fun e w' => e = .returned (.bool true) ∧ Below w.heap.size w w' := all t n2 m hm oa n cap F w ht hA
end Go.Proofs.YtakkhdammmcjcaaGreatDoor.ctlGives
