/-
  A pair's step, as the mathematics has it: pushes, frames onto lines and off them, ticks, busy or not. Condition: the pair is in order, and few were pushed.
-/
import Derived.Test.YtkoaplmlabagnaaTk
import Derived.Test.YtkoaplmlabagnaaAqPr4
import Derived.Deep.DeepCutAuto
namespace Go.Proofs.Ytkoaplmlabagnaa.Aq
open Go.RowKit Go.Proofs.Ytkoaplmlabagnaa.Base Go.Proofs.Ytkoaplmlabagnaa.Mem
section
variable {w0 w : World} {b : Bk} {x : Pr} {N M : Nat}
theorem PrE.held (h : PrE w0 b x w) : w.heap[b.tb]? = some (.cells #[two b.ba, two b.bl, two b.bu, two b.bk, .bool x.bad] 46 (0, 0)) ∧ w.heap[b.ba]? = some (.cells #[ptr b.p0, ptr b.p1] 28 (0, 0)) ∧ w.heap[b.bu]? = some (.cells #[nm x.u0, nm x.u1] 3 (0, 0)) := by
  obtain ⟨q0, q1, v0, v1, tag, h⟩ := h
  exact ⟨h.blk, h.a, h.u⟩
theorem PrE.lt (h : PrE w0 b x w) : b.p0 < w.heap.size ∧ b.p1 < w.heap.size := by
  obtain ⟨q0, q1, v0, v1, tag, h⟩ := h
  exact ⟨h.s0.lt, h.s1.lt⟩
theorem oright (h : PrE w0 b x w) (hk : Pok N M x) (hN : N ≤ 1000000) : Calls Try.prog 39 #[ptr b.tb] w fun e w' => e = .returned (.bool true) ∧ PrE w0 b x w' :=
  fright w0 w b x N h hk.a hk.b hk.g (Nat.le_trans hk.u0 hN) (Nat.le_trans hk.u1 hN)
theorem obusy0 (h : PrE w0 b x w) (hk : Pok N M x) (on : Bool) : Calls Try.prog 22 #[ptr b.p0, .bool on] w fun e w' => e = .returned (.tuple #[]) ∧ PrE w0 b (pBusy on x) w' ∧ Chg (fun k => k = b.p0) w w' := by
  obtain ⟨q0, q1, v0, v1, tag, h⟩ := h
  refine (fsetBusy w b.p0 _ _ on h.s0).mono fun _ _ ⟨e1, e2⟩ => ⟨e1, ?_⟩
  rw [setBusy_of on x.A hk.a.ord] at e2
  exact ⟨⟨_, _, _, _, _, h.doA (QDo.of e2)⟩, e2.chg⟩
theorem obusy1 (h : PrE w0 b x w) (hk : Pok N M x) (on : Bool) : Calls Try.prog 22 #[ptr b.p1, .bool on] w fun e w' => e = .returned (.tuple #[]) ∧ PrE w0 b (swp (pBusy on (swp x))) w' ∧ Chg (fun k => k = b.p1) w w' := by
  obtain ⟨q0, q1, v0, v1, tag, h⟩ := h
  refine (fsetBusy w b.p1 _ _ on h.s1).mono fun _ _ ⟨e1, e2⟩ => ⟨e1, ?_⟩
  rw [setBusy_of on x.B hk.b.ord] at e2
  exact ⟨⟨_, _, _, _, _, h.doB (QDo.of e2)⟩, e2.chg⟩
theorem otick0 (h : PrE w0 b x w) (hk : Inv N x.A) : Calls Try.prog 20 #[ptr b.p0] w fun e w' => e = .returned (amv (tick x.A).2) ∧ PrE w0 b { x with A := (tick x.A).1 } w' := by
  obtain ⟨q0, q1, v0, v1, tag, h⟩ := h
  refine (ftick w b.p0 _ _ h.s0 hk.pfit).mono fun _ _ ⟨e1, e2⟩ => ?_
  rw [tick_of x.A] at e1 e2
  exact ⟨e1, _, _, _, _, _, h.doA (QDo.of e2)⟩
theorem otick1 (h : PrE w0 b x w) (hk : Inv N x.B) : Calls Try.prog 20 #[ptr b.p1] w fun e w' => e = .returned (amv (tick x.B).2) ∧ PrE w0 b { x with B := (tick x.B).1 } w' := by
  obtain ⟨q0, q1, v0, v1, tag, h⟩ := h
  refine (ftick w b.p1 _ _ h.s1 hk.pfit).mono fun _ _ ⟨e1, e2⟩ => ?_
  rw [tick_of x.B] at e1 e2
  exact ⟨e1, _, _, _, _, _, h.doB (QDo.of e2)⟩
theorem opush0 (h : PrE w0 b x w) (hk : Inv N x.A) (i : ByteArray) (A2 : Sd) (c : Nat) (hp : Aq.push i x.A = (A2, c)) : Calls Try.prog 18 #[ptr b.p0, .string i] w fun e w' => e = .returned (nm c) ∧ PrE w0 b { x with A := A2 } w' := by
  obtain ⟨q0, q1, v0, v1, tag, h⟩ := h
  refine (fpush w b.p0 _ _ i h.s0 hk.pfit.q).mono fun _ _ ⟨e1, u, e2⟩ => ?_
  rw [push_of i x.A hk.ord, hp] at e1 e2
  exact ⟨e1, _, _, _, _, _, h.doA e2⟩
theorem opush1 (h : PrE w0 b x w) (hk : Inv N x.B) (i : ByteArray) (A2 : Sd) (c : Nat) (hp : Aq.push i x.B = (A2, c)) : Calls Try.prog 18 #[ptr b.p1, .string i] w fun e w' => e = .returned (nm c) ∧ PrE w0 b { x with B := A2 } w' := by
  obtain ⟨q0, q1, v0, v1, tag, h⟩ := h
  refine (fpush w b.p1 _ _ i h.s1 hk.pfit.q).mono fun _ _ ⟨e1, u, e2⟩ => ?_
  rw [push_of i x.B hk.ord, hp] at e1 e2
  exact ⟨e1, _, _, _, _, _, h.doB e2⟩
theorem push_code (i : ByteArray) (y : Sd) : (Aq.push i y).2 = 0 ∨ (Aq.push i y).2 = 3 ∨ (Aq.push i y).2 = 4 := by
  unfold Aq.push
  split
  · exact Or.inr (Or.inr rfl)
  split
  · exact Or.inr (Or.inl rfl)
  · exact Or.inl rfl
end
set_option maxHeartbeats 4000000 in
set_option maxRecDepth 100000 in
theorem fst2_0 (w0 w : World) (b : Bk) (x : Pr) (N M : Nat) (h : PrE w0 b x w) (hk : Pok N M x) (hN : N ≤ 1000) (hM : M ≤ 1000) (d : Nat) (hd : (d : Int) % 9 = 2) (on : Bool) :
    Calls Try.prog 17 #[ptr b.tb, .agg #[.int .u8 (d : Int), .bool false, .bool on]] w fun e w' => e = .returned (.bool true) ∧ PrE w0 b (pSend x) w' := by
  have HP := Lib.hid (h.on (show Below w.heap.size w (w.alloc (.cells #[.int .u8 (d : Int), .bool false, .bool on] 49 (0, 0))) from nest_below w [_]))
  have HK := Lib.hid hk
  have HN := Lib.hid hN
  have HM := Lib.hid hM
  have hn : (w.alloc (.cells #[.int .u8 (d : Int), .bool false, .bool on] 49 (0, 0))).heap[w.heap.size]? = some (.cells #[.int .u8 (d : Int), .bool false, .bool on] 49 (0, 0)) := nest w [_] 0 _ rfl
  have HLT := Lib.hid h.lt
  clear h hk hN hM
  go_enter Try.func17, Try.ntmps17
  go_upto_region 1 with fail
  generalize w.alloc (.cells #[.int .u8 (d : Int), .bool false, .bool on] 49 (0, 0)) = w1 at HP hn ⊢
  generalize w.heap.size = sb at hn HLT ⊢
  obtain ⟨⟨c0, c1, c2⟩, -⟩ := cells3 hn
  have CS := Lib.hid (osend0 HP.out HK.out HM.out)
  clear hn
  go_wp2_with fail
  refine CS.out.mono ?_
  rintro _ w2 ⟨rfl, h2⟩
  have H2 := Lib.hid h2
  clear h2 CS c0 c1 c2
  have HR := Lib.hid (oright H2.out ((HK.out.send).more (Nat.le_succ N) (Nat.le_refl _)) (Nat.le_trans (Nat.add_le_add_right HN.out 1) (by decide)))
  clear HP HK HN HM
  go_wp2_with fail
  refine HR.out.mono ?_
  rintro _ w9 ⟨rfl, h9⟩
  have H9 := Lib.hid h9
  clear h9 HR
  go_wp2
  go_ret
  exact ⟨rfl, H9.out⟩
set_option maxHeartbeats 4000000 in
set_option maxRecDepth 100000 in
theorem fst3_0 (w0 w : World) (b : Bk) (x : Pr) (N M : Nat) (h : PrE w0 b x w) (hk : Pok N M x) (hN : N ≤ 1000) (hM : M ≤ 1000) (d : Nat) (hd : (d : Int) % 9 = 3) (on : Bool) :
    Calls Try.prog 17 #[ptr b.tb, .agg #[.int .u8 (d : Int), .bool false, .bool on]] w fun e w' => e = .returned (.bool true) ∧ PrE w0 b (pSend x) w' := by
  have HP := Lib.hid (h.on (show Below w.heap.size w (w.alloc (.cells #[.int .u8 (d : Int), .bool false, .bool on] 49 (0, 0))) from nest_below w [_]))
  have HK := Lib.hid hk
  have HN := Lib.hid hN
  have HM := Lib.hid hM
  have hn : (w.alloc (.cells #[.int .u8 (d : Int), .bool false, .bool on] 49 (0, 0))).heap[w.heap.size]? = some (.cells #[.int .u8 (d : Int), .bool false, .bool on] 49 (0, 0)) := nest w [_] 0 _ rfl
  have HLT := Lib.hid h.lt
  clear h hk hN hM
  go_enter Try.func17, Try.ntmps17
  go_upto_region 1 with fail
  generalize w.alloc (.cells #[.int .u8 (d : Int), .bool false, .bool on] 49 (0, 0)) = w1 at HP hn ⊢
  generalize w.heap.size = sb at hn HLT ⊢
  obtain ⟨⟨c0, c1, c2⟩, -⟩ := cells3 hn
  have CS := Lib.hid (osend0 HP.out HK.out HM.out)
  clear hn
  go_wp2_with fail
  refine CS.out.mono ?_
  rintro _ w2 ⟨rfl, h2⟩
  have H2 := Lib.hid h2
  clear h2 CS c0 c1 c2
  have HR := Lib.hid (oright H2.out ((HK.out.send).more (Nat.le_succ N) (Nat.le_refl _)) (Nat.le_trans (Nat.add_le_add_right HN.out 1) (by decide)))
  clear HP HK HN HM
  go_wp2_with fail
  refine HR.out.mono ?_
  rintro _ w9 ⟨rfl, h9⟩
  have H9 := Lib.hid h9
  clear h9 HR
  go_wp2
  go_ret
  exact ⟨rfl, H9.out⟩
set_option maxHeartbeats 4000000 in
set_option maxRecDepth 100000 in
theorem fst4_0 (w0 w : World) (b : Bk) (x : Pr) (N M : Nat) (h : PrE w0 b x w) (hk : Pok N M x) (hN : N ≤ 1000) (hM : M ≤ 1000) (d : Nat) (hd : (d : Int) % 9 = 4) (on : Bool) :
    Calls Try.prog 17 #[ptr b.tb, .agg #[.int .u8 (d : Int), .bool false, .bool on]] w fun e w' => e = .returned (.bool true) ∧ PrE w0 b (pHand x) w' := by
  have HP := Lib.hid (h.on (show Below w.heap.size w (w.alloc (.cells #[.int .u8 (d : Int), .bool false, .bool on] 49 (0, 0))) from nest_below w [_]))
  have HK := Lib.hid hk
  have HN := Lib.hid hN
  have HM := Lib.hid hM
  have hn : (w.alloc (.cells #[.int .u8 (d : Int), .bool false, .bool on] 49 (0, 0))).heap[w.heap.size]? = some (.cells #[.int .u8 (d : Int), .bool false, .bool on] 49 (0, 0)) := nest w [_] 0 _ rfl
  have HLT := Lib.hid h.lt
  clear h hk hN hM
  go_enter Try.func17, Try.ntmps17
  go_upto_region 1 with fail
  generalize w.alloc (.cells #[.int .u8 (d : Int), .bool false, .bool on] 49 (0, 0)) = w1 at HP hn ⊢
  generalize w.heap.size = sb at hn HLT ⊢
  obtain ⟨⟨c0, c1, c2⟩, -⟩ := cells3 hn
  have CS := Lib.hid (ohand0 HP.out HK.out (Nat.le_trans HN.out (by decide)))
  clear hn
  go_wp2_with fail
  refine CS.out.mono ?_
  rintro _ w2 ⟨rfl, h2⟩
  have H2 := Lib.hid h2
  clear h2 CS c0 c1 c2
  have HR := Lib.hid (oright H2.out ((HK.out.hand).more (Nat.le_succ N) (Nat.le_refl _)) (Nat.le_trans (Nat.add_le_add_right HN.out 1) (by decide)))
  clear HP HK HN HM
  go_wp2_with fail
  refine HR.out.mono ?_
  rintro _ w9 ⟨rfl, h9⟩
  have H9 := Lib.hid h9
  clear h9 HR
  go_wp2
  go_ret
  exact ⟨rfl, H9.out⟩
set_option maxHeartbeats 4000000 in
set_option maxRecDepth 100000 in
theorem fst5_0 (w0 w : World) (b : Bk) (x : Pr) (N M : Nat) (h : PrE w0 b x w) (hk : Pok N M x) (hN : N ≤ 1000) (hM : M ≤ 1000) (d : Nat) (hd : (d : Int) % 9 = 5) (on : Bool) :
    Calls Try.prog 17 #[ptr b.tb, .agg #[.int .u8 (d : Int), .bool false, .bool on]] w fun e w' => e = .returned (.bool true) ∧ PrE w0 b (pHand x) w' := by
  have HP := Lib.hid (h.on (show Below w.heap.size w (w.alloc (.cells #[.int .u8 (d : Int), .bool false, .bool on] 49 (0, 0))) from nest_below w [_]))
  have HK := Lib.hid hk
  have HN := Lib.hid hN
  have HM := Lib.hid hM
  have hn : (w.alloc (.cells #[.int .u8 (d : Int), .bool false, .bool on] 49 (0, 0))).heap[w.heap.size]? = some (.cells #[.int .u8 (d : Int), .bool false, .bool on] 49 (0, 0)) := nest w [_] 0 _ rfl
  have HLT := Lib.hid h.lt
  clear h hk hN hM
  go_enter Try.func17, Try.ntmps17
  go_upto_region 1 with fail
  generalize w.alloc (.cells #[.int .u8 (d : Int), .bool false, .bool on] 49 (0, 0)) = w1 at HP hn ⊢
  generalize w.heap.size = sb at hn HLT ⊢
  obtain ⟨⟨c0, c1, c2⟩, -⟩ := cells3 hn
  have CS := Lib.hid (ohand0 HP.out HK.out (Nat.le_trans HN.out (by decide)))
  clear hn
  go_wp2_with fail
  refine CS.out.mono ?_
  rintro _ w2 ⟨rfl, h2⟩
  have H2 := Lib.hid h2
  clear h2 CS c0 c1 c2
  have HR := Lib.hid (oright H2.out ((HK.out.hand).more (Nat.le_succ N) (Nat.le_refl _)) (Nat.le_trans (Nat.add_le_add_right HN.out 1) (by decide)))
  clear HP HK HN HM
  go_wp2_with fail
  refine HR.out.mono ?_
  rintro _ w9 ⟨rfl, h9⟩
  have H9 := Lib.hid h9
  clear h9 HR
  go_wp2
  go_ret
  exact ⟨rfl, H9.out⟩
set_option maxHeartbeats 4000000 in
set_option maxRecDepth 100000 in
theorem fst6_0 (w0 w : World) (b : Bk) (x : Pr) (N M : Nat) (h : PrE w0 b x w) (hk : Pok N M x) (hN : N ≤ 1000) (hM : M ≤ 1000) (d : Nat) (hd : (d : Int) % 9 = 6) (on : Bool) :
    Calls Try.prog 17 #[ptr b.tb, .agg #[.int .u8 (d : Int), .bool false, .bool on]] w fun e w' => e = .returned (.bool true) ∧ PrE w0 b (pLose x) w' := by
  have HP := Lib.hid (h.on (show Below w.heap.size w (w.alloc (.cells #[.int .u8 (d : Int), .bool false, .bool on] 49 (0, 0))) from nest_below w [_]))
  have HK := Lib.hid hk
  have HN := Lib.hid hN
  have HM := Lib.hid hM
  have hn : (w.alloc (.cells #[.int .u8 (d : Int), .bool false, .bool on] 49 (0, 0))).heap[w.heap.size]? = some (.cells #[.int .u8 (d : Int), .bool false, .bool on] 49 (0, 0)) := nest w [_] 0 _ rfl
  have HLT := Lib.hid h.lt
  clear h hk hN hM
  go_enter Try.func17, Try.ntmps17
  go_upto_region 1 with fail
  generalize w.alloc (.cells #[.int .u8 (d : Int), .bool false, .bool on] 49 (0, 0)) = w1 at HP hn ⊢
  generalize w.heap.size = sb at hn HLT ⊢
  obtain ⟨⟨c0, c1, c2⟩, -⟩ := cells3 hn
  have CS := Lib.hid (olose0 HP.out true rfl)
  clear hn
  go_wp2_with fail
  refine CS.out.mono ?_
  rintro _ w2 ⟨⟨o, rfl⟩, h2⟩
  have H2 := Lib.hid h2
  clear h2 CS c0 c1 c2
  have HR := Lib.hid (oright H2.out ((HK.out.lose).more (Nat.le_succ N) (Nat.le_refl _)) (Nat.le_trans (Nat.add_le_add_right HN.out 1) (by decide)))
  clear HP HK HN HM
  go_wp2_with fail
  refine HR.out.mono ?_
  rintro _ w9 ⟨rfl, h9⟩
  have H9 := Lib.hid h9
  clear h9 HR
  go_wp2
  go_ret
  exact ⟨rfl, H9.out⟩
set_option maxHeartbeats 4000000 in
set_option maxRecDepth 100000 in
theorem fst7_0 (w0 w : World) (b : Bk) (x : Pr) (N M : Nat) (h : PrE w0 b x w) (hk : Pok N M x) (hN : N ≤ 1000) (hM : M ≤ 1000) (d : Nat) (hd : (d : Int) % 9 = 7) (on : Bool) :
    Calls Try.prog 17 #[ptr b.tb, .agg #[.int .u8 (d : Int), .bool false, .bool on]] w fun e w' => e = .returned (.bool true) ∧ PrE w0 b (pTick x) w' := by
  have HP := Lib.hid (h.on (show Below w.heap.size w (w.alloc (.cells #[.int .u8 (d : Int), .bool false, .bool on] 49 (0, 0))) from nest_below w [_]))
  have HK := Lib.hid hk
  have HN := Lib.hid hN
  have HM := Lib.hid hM
  have hn : (w.alloc (.cells #[.int .u8 (d : Int), .bool false, .bool on] 49 (0, 0))).heap[w.heap.size]? = some (.cells #[.int .u8 (d : Int), .bool false, .bool on] 49 (0, 0)) := nest w [_] 0 _ rfl
  have HLT := Lib.hid h.lt
  clear h hk hN hM
  go_enter Try.func17, Try.ntmps17
  go_upto_region 1 with fail
  generalize w.alloc (.cells #[.int .u8 (d : Int), .bool false, .bool on] 49 (0, 0)) = w1 at HP hn ⊢
  generalize w.heap.size = sb at hn HLT ⊢
  obtain ⟨⟨c0, c1, c2⟩, -⟩ := cells3 hn
  obtain ⟨htb, hba, -⟩ := PrE.held HP.out
  have e0 : w1.cell? ⟨b.tb, 0, none⟩ = some (two b.ba) := cell_of htb rfl
  have a0 : w1.cell? ⟨b.ba, 0, none⟩ = some (ptr b.p0) := cell_of hba rfl
  have CS := Lib.hid (otick0 HP.out HK.out.a)
  clear hn htb hba
  go_wp2_with fail
  refine CS.out.mono ?_
  rintro _ w2 ⟨rfl, h2⟩
  have H2 := Lib.hid h2
  clear h2 CS c0 c1 c2 e0 a0
  obtain ⟨htb, hba, -⟩ := PrE.held H2.out
  have e0 : w2.cell? ⟨b.tb, 0, none⟩ = some (two b.ba) := cell_of htb rfl
  have a1 : w2.cell? ⟨b.ba, 1, none⟩ = some (ptr b.p1) := cell_of hba rfl
  have CT := Lib.hid (otick1 H2.out HK.out.b)
  clear htb hba HP
  generalize amv (tick x.A).2 = av
  go_wp2_with fail
  refine CT.out.mono ?_
  rintro _ w3 ⟨rfl, h3⟩
  have H3 : Hid (PrE w0 b (pTick x) w3) := Lib.hid h3
  clear h3 CT e0 a1 H2
  generalize amv (tick x.B).2 = av2
  have HR := Lib.hid (oright H3.out ((HK.out.tick).more (Nat.le_succ N) (Nat.le_refl _)) (Nat.le_trans (Nat.add_le_add_right HN.out 1) (by decide)))
  clear HK HN HM
  go_wp2_with fail
  refine HR.out.mono ?_
  rintro _ w9 ⟨rfl, h9⟩
  have H9 := Lib.hid h9
  clear h9 HR
  go_wp2
  go_ret
  exact ⟨rfl, H9.out⟩
set_option maxHeartbeats 4000000 in
set_option maxRecDepth 100000 in
theorem fst8_0 (w0 w : World) (b : Bk) (x : Pr) (N M : Nat) (h : PrE w0 b x w) (hk : Pok N M x) (hN : N ≤ 1000) (hM : M ≤ 1000) (d : Nat) (hd : (d : Int) % 9 = 8) (on : Bool) :
    Calls Try.prog 17 #[ptr b.tb, .agg #[.int .u8 (d : Int), .bool false, .bool on]] w fun e w' => e = .returned (.bool true) ∧ PrE w0 b (pBusy on x) w' := by
  have HP := Lib.hid (h.on (show Below w.heap.size w (w.alloc (.cells #[.int .u8 (d : Int), .bool false, .bool on] 49 (0, 0))) from nest_below w [_]))
  have HK := Lib.hid hk
  have HN := Lib.hid hN
  have HM := Lib.hid hM
  have hn : (w.alloc (.cells #[.int .u8 (d : Int), .bool false, .bool on] 49 (0, 0))).heap[w.heap.size]? = some (.cells #[.int .u8 (d : Int), .bool false, .bool on] 49 (0, 0)) := nest w [_] 0 _ rfl
  have HLT := Lib.hid h.lt
  clear h hk hN hM
  go_enter Try.func17, Try.ntmps17
  go_upto_region 1 with fail
  generalize w.alloc (.cells #[.int .u8 (d : Int), .bool false, .bool on] 49 (0, 0)) = w1 at HP hn ⊢
  generalize w.heap.size = sb at hn HLT ⊢
  obtain ⟨⟨c0, c1, c2⟩, -⟩ := cells3 hn
  go_wp2_with fail
  have H2 := Lib.hid (HP.out.on (w' := w1.drew) ⟨rfl, rfl, rfl, Nat.le_refl _, fun _ _ => rfl⟩)
  have hn2 : w1.drew.heap[sb]? = some (.cells #[.int .u8 (d : Int), .bool false, .bool on] 49 (0, 0)) := hn
  clear hn c0 c1 c2
  refine wp_region_held_drew (S := (fun w' => w'.heap[b.tb]? = some (.cells #[two b.ba, two b.bl, two b.bu, two b.bk, .bool x.bad] 46 (0, 0)) ∧ w'.heap[b.ba]? = some (.cells #[ptr b.p0, ptr b.p1] 28 (0, 0)) ∧ w'.heap[sb]? = some (.cells #[.int .u8 (d : Int), .bool false, .bool on] 49 (0, 0)))) (by kernel_rfl) ⟨H2.out.held.1, H2.out.held.2.1, hn2⟩ (fun hHeld => ?_)
  refine' tk 0 ⟨some 11, .move (.tmp 0), 40, "law.go:172", #[], none⟩ ?_
  simp only [Act.put, z1', z2', z3']
  refine' tk 1 ⟨some 12, .nilCheck (.tmp 11), 0, "law.go:172", #[⟨0, .data⟩], none⟩ ?_
  simp only [Act.put, z1', z2', z3']
  refine' tk 2 ⟨some 13, .fieldAddr 46 (.tmp 12) 0, 0, "law.go:172", #[⟨1, .data⟩], none⟩ ?_
  simp only [Act.put, z1', z2', z3']
  refine' tv 3 ⟨some 14, .load 42 (.tmp 13), 42, "law.go:172", #[⟨2, .data⟩], none⟩ ?hy4 ?hr4
  case hy4 => (intro _ hSw; (try dsimp only at hSw); have hc := cell_of (i := 0) (v := two b.ba) hSw.1 rfl; go_simp <;> with_reducible rfl)
  simp only [Act.put, z1', z2', z3']
  refine' tk 4 ⟨some 15, .move (.tmp 5), 3, "law.go:172", #[], none⟩ ?_
  simp only [Act.put, z1', z2', z3']
  refine' tk 5 ⟨some 16, .indexAddr 42 (.tmp 14) (.tmp 15), 0, "law.go:172", #[⟨3, .data⟩, ⟨4, .data⟩], none⟩ ?_
  simp only [Act.put, z1', z2', z3']
  refine' tv 6 ⟨some 17, .load 28 (.tmp 16), 28, "law.go:172", #[⟨5, .data⟩], none⟩ ?hy7 ?hr7
  case hy7 => (intro _ hSw; (try dsimp only at hSw); have hc := cell_of (i := 0) (v := ptr b.p0) hSw.2.1 rfl; go_simp <;> with_reducible rfl)
  simp only [Act.put, z1', z2', z3']
  refine' tk 7 ⟨some 18, .fieldAddr 49 (.tmp 3) 2, 0, "law.go:172", #[], none⟩ ?_
  simp only [Act.put, z1', z2', z3']
  refine' tv 8 ⟨some 19, .load 4 (.tmp 18), 4, "law.go:172", #[⟨7, .data⟩], none⟩ ?hy9 ?hr9
  case hy9 => (intro _ hSw; (try dsimp only at hSw); have hc := cell_of (i := 2) (v := .bool on) hSw.2.2 rfl; go_simp <;> with_reducible rfl)
  simp only [Act.put, z1', z2', z3']
  clear hHeld
  generalize w1.drew = w2 at H2 hn2 ⊢
  refine ry [9] ?_
  refine AllReadyH.cons rfl (fun K hK => ?_) AllReadyH.nil
  go_simp
  refine (obusy0 H2.out HK.out on).mono ?_
  rintro _ w3 ⟨rfl, h3, hc3⟩
  have H3 := Lib.hid h3
  have hn3 := hc3.stays hn2 (fun e => by have := HLT.out.1; have e2 : sb = b.p0 := e; omega)
  clear h3 hc3 H2 HP hn2
  go_wp2_with fail
  refine hK.out _ _ ⟨H3.out.held.1, H3.out.held.2.1, hn3⟩ (fun hNext => ?_)
  clear hK K hNext
  (try simp only [Act.put, z1', z2', z3'])
  refine wpAnyH_done (by kernel_rfl) ?_ _
  have HR := Lib.hid (oright H3.out (((HK.out.busy on)).more (Nat.le_succ N) (Nat.le_succ M)) (Nat.le_trans (Nat.add_le_add_right HN.out 1) (by decide)))
  clear HK HN HM
  go_wp2_with fail
  refine HR.out.mono ?_
  rintro _ w9 ⟨rfl, h9⟩
  have H9 := Lib.hid h9
  clear h9 HR
  go_wp2
  go_ret
  exact ⟨rfl, H9.out⟩
set_option maxHeartbeats 4000000 in
set_option maxRecDepth 100000 in
theorem fst0_0_0 (w0 w : World) (b : Bk) (x : Pr) (N M : Nat) (h : PrE w0 b x w) (hk : Pok N M x) (hN : N ≤ 1000) (hM : M ≤ 1000) (d : Nat) (hd : (d : Int) % 9 = 0) (on : Bool) (A2 : Sd) (hp : Aq.push (inf x.u0) x.A = (A2, 0)) :
    Calls Try.prog 17 #[ptr b.tb, .agg #[.int .u8 (d : Int), .bool false, .bool on]] w fun e w' => e = .returned (.bool true) ∧ PrE w0 b (pPush x) w' := by
  have HP := Lib.hid (h.on (show Below w.heap.size w (w.alloc (.cells #[.int .u8 (d : Int), .bool false, .bool on] 49 (0, 0))) from nest_below w [_]))
  have HK := Lib.hid hk
  have HN := Lib.hid hN
  have HM := Lib.hid hM
  have hn : (w.alloc (.cells #[.int .u8 (d : Int), .bool false, .bool on] 49 (0, 0))).heap[w.heap.size]? = some (.cells #[.int .u8 (d : Int), .bool false, .bool on] 49 (0, 0)) := nest w [_] 0 _ rfl
  have HLT := Lib.hid h.lt
  clear h hk hN hM
  go_enter Try.func17, Try.ntmps17
  go_upto_region 1 with fail
  generalize w.alloc (.cells #[.int .u8 (d : Int), .bool false, .bool on] 49 (0, 0)) = w1 at HP hn ⊢
  generalize w.heap.size = sb at hn HLT ⊢
  obtain ⟨⟨c0, c1, c2⟩, -⟩ := cells3 hn
  go_wp2_with fail
  have HPU := Lib.hid hp
  have HI : Hid (∀ w, Calls Try.prog 36 #[.int .i64 (x.u0 : Int)] w fun e w' => e = .returned (.string (inf x.u0)) ∧ Below w.heap.size w w') := Lib.hid (finf x.u0 (Nat.le_trans HK.out.u0 (Nat.le_trans HN.out (by decide))))
  have H2 := Lib.hid (HP.out.on (w' := w1.drew) ⟨rfl, rfl, rfl, Nat.le_refl _, fun _ _ => rfl⟩)
  clear hn c0 c1 c2 hp HP
  refine wp_region_held_drew (S := (fun w' => w'.heap[b.tb]? = some (.cells #[two b.ba, two b.bl, two b.bu, two b.bk, .bool x.bad] 46 (0, 0)) ∧ w'.heap[b.ba]? = some (.cells #[ptr b.p0, ptr b.p1] 28 (0, 0)) ∧ w'.heap[b.bu]? = some (.cells #[nm x.u0, nm x.u1] 3 (0, 0)))) (by kernel_rfl) H2.out.held (fun hHeld => ?_)
  refine' tk 0 ⟨some 24, .move (.tmp 0), 40, "law.go:159", #[], none⟩ ?_
  simp only [Act.put, z1', z2', z3']
  refine' tk 1 ⟨some 25, .nilCheck (.tmp 24), 0, "law.go:159", #[⟨0, .data⟩], none⟩ ?_
  simp only [Act.put, z1', z2', z3']
  refine' tk 2 ⟨some 26, .fieldAddr 46 (.tmp 25) 0, 0, "law.go:159", #[⟨1, .data⟩], none⟩ ?_
  simp only [Act.put, z1', z2', z3']
  refine' tv 3 ⟨some 27, .load 42 (.tmp 26), 42, "law.go:159", #[⟨2, .data⟩], none⟩ ?hy13 ?hr13
  case hy13 => (intro _ hSw; (try dsimp only at hSw); have hc := cell_of (i := 0) (v := two b.ba) hSw.1 rfl; go_simp <;> with_reducible rfl)
  simp only [Act.put, z1', z2', z3']
  refine' tk 4 ⟨some 28, .move (.tmp 5), 3, "law.go:159", #[], none⟩ ?_
  simp only [Act.put, z1', z2', z3']
  refine' tk 5 ⟨some 29, .indexAddr 42 (.tmp 27) (.tmp 28), 0, "law.go:159", #[⟨3, .data⟩, ⟨4, .data⟩], none⟩ ?_
  simp only [Act.put, z1', z2', z3']
  refine' tv 6 ⟨some 30, .load 28 (.tmp 29), 28, "law.go:159", #[⟨5, .data⟩], none⟩ ?hy16 ?hr16
  case hy16 => (intro _ hSw; (try dsimp only at hSw); have hc := cell_of (i := 0) (v := ptr b.p0) hSw.2.1 rfl; go_simp <;> with_reducible rfl)
  simp only [Act.put, z1', z2', z3']
  refine' tk 7 ⟨some 31, .move (.tmp 0), 40, "law.go:159", #[], none⟩ ?_
  simp only [Act.put, z1', z2', z3']
  refine' tk 8 ⟨some 32, .nilCheck (.tmp 31), 0, "law.go:159", #[⟨7, .data⟩], none⟩ ?_
  simp only [Act.put, z1', z2', z3']
  refine' tk 9 ⟨some 33, .fieldAddr 46 (.tmp 32) 2, 0, "law.go:159", #[⟨8, .data⟩], none⟩ ?_
  simp only [Act.put, z1', z2', z3']
  refine' tv 10 ⟨some 34, .load 44 (.tmp 33), 44, "law.go:159", #[⟨9, .data⟩], none⟩ ?hy20 ?hr20
  case hy20 => (intro _ hSw; (try dsimp only at hSw); have hc := cell_of (i := 2) (v := two b.bu) hSw.1 rfl; go_simp <;> with_reducible rfl)
  simp only [Act.put, z1', z2', z3']
  refine' tk 11 ⟨some 35, .move (.tmp 5), 3, "law.go:159", #[], none⟩ ?_
  simp only [Act.put, z1', z2', z3']
  refine' tk 12 ⟨some 36, .indexAddr 44 (.tmp 34) (.tmp 35), 0, "law.go:159", #[⟨10, .data⟩, ⟨11, .data⟩], none⟩ ?_
  simp only [Act.put, z1', z2', z3']
  refine' tv 13 ⟨some 37, .load 3 (.tmp 36), 3, "law.go:159", #[⟨12, .data⟩], none⟩ ?hy23 ?hr23
  case hy23 => (intro _ hSw; (try dsimp only at hSw); have hc := cell_of (i := 0) (v := nm x.u0) hSw.2.2 rfl; go_simp <;> with_reducible rfl)
  simp only [Act.put, z1', z2', z3']
  clear hHeld
  generalize w1.drew = w2 at H2 ⊢
  refine ry [14] ?_
  refine AllReadyH.cons rfl (fun K hK => ?_) AllReadyH.nil
  go_simp
  refine (HI.out _).mono ?_
  rintro _ w3 ⟨rfl, hb⟩
  have H3 := Lib.hid (H2.out.on hb)
  clear hb H2 HI
  go_wp2_with fail
  refine hK.out _ _ H3.out.held (fun hNext => ?_)
  clear hK K
  have hHeld := hNext
  clear hNext
  (try simp only [Act.put, z1', z2', z3'])
  clear hHeld
  refine ry [15] ?_
  refine AllReadyH.cons rfl (fun K hK => ?_) AllReadyH.nil
  go_simp
  refine (opush0 H3.out HK.out.a _ A2 0 HPU.out).mono ?_
  rintro _ w4 ⟨rfl, h4⟩
  have H4 : Hid (PrE w0 b { x with A := A2 } w4) := Lib.hid h4
  clear h4 H3
  go_wp2_with fail
  refine hK.out _ _ H4.out.held (fun hNext => ?_)
  clear hK K
  have hHeld := hNext
  clear hNext
  (try simp only [Act.put, z1', z2', z3'])
  refine' tk 16 ⟨some 40, .binOp .eql 51 (.tmp 39) (.const (.int .i64 0)) 51, 4, "law.go:159", #[⟨15, .data⟩], none⟩ ?_
  simp only [Act.put, z1', z2', z3']
  refine wpAnyH_done (by kernel_rfl) ?_ _
  clear hHeld
  obtain ⟨q0, q1, v0, v1, tag, hp⟩ := H4.out
  have c2 : w4.cell? ⟨b.tb, 2, none⟩ = some (two b.bu) := cell_of hp.blk rfl
  have cu : w4.cell? ⟨b.bu, 0, none⟩ = some (nm x.u0) := cell_of hp.u rfl
  have fu : ∀ i, w4.frozen? ⟨b.bu, i, none⟩ = false := fun _ => free_of hp.u
  have hub : x.u0 ≤ 1000 := Nat.le_trans HK.out.u0 HN.out
  have vk : IntKind.i64.wrap ((x.u0 : Int) + 1) = ((x.u0 + 1 : Nat) : Int) := by rw [IntKind.wrap_i64]; omega
  have H5 : Hid (PrE w0 b (pPush x) (w4.setCell ⟨b.bu, 0, none⟩ (.int .i64 ((x.u0 + 1 : Nat) : Int)))) := by
    have hq : (pPush x) = { x with A := A2, u0 := x.u0 + 1 } := by
      show ({ x with A := (Aq.push (inf x.u0) x.A).1, u0 := if (Aq.push (inf x.u0) x.A).2 = 0 then x.u0 + 1 else x.u0 } : Pr) = _
      rw [HPU.out]
      rfl
    rw [hq]
    exact Lib.hid ⟨_, _, _, _, _, hp.put_u (x.u0 + 1) x.u1 (chg_cell w4 b.bu 0 _) (block_set (i := 0) hp.u _)⟩
  have HY : Hid (Pok (N + 1) M (pPush x)) := Lib.hid (HK.out.push)
  clear hp H4 HPU
  clear q0 q1 v0 v1 tag
  obtain ⟨kn, hkn⟩ : ∃ kn, x.u0 + 1 = kn := ⟨_, rfl⟩
  rw [hkn] at vk H5
  clear hub hkn
  go_wp2_with fail
  generalize w4.setCell ⟨b.bu, 0, none⟩ (.int .i64 (kn : Int)) = w5 at H5 ⊢
  have HR := Lib.hid (oright H5.out HY.out (Nat.le_trans (Nat.add_le_add_right HN.out 1) (by decide)))
  clear HY HK c2 cu fu vk HN HM
  go_wp2_with fail
  refine HR.out.mono ?_
  rintro _ w9 ⟨rfl, h9⟩
  have H9 := Lib.hid h9
  clear h9 HR
  go_wp2
  go_ret
  exact ⟨rfl, H9.out⟩
set_option maxHeartbeats 4000000 in
set_option maxRecDepth 100000 in
theorem fst0_0_3 (w0 w : World) (b : Bk) (x : Pr) (N M : Nat) (h : PrE w0 b x w) (hk : Pok N M x) (hN : N ≤ 1000) (hM : M ≤ 1000) (d : Nat) (hd : (d : Int) % 9 = 0) (on : Bool) (A2 : Sd) (hp : Aq.push (inf x.u0) x.A = (A2, 3)) :
    Calls Try.prog 17 #[ptr b.tb, .agg #[.int .u8 (d : Int), .bool false, .bool on]] w fun e w' => e = .returned (.bool true) ∧ PrE w0 b (pPush x) w' := by
  have HP := Lib.hid (h.on (show Below w.heap.size w (w.alloc (.cells #[.int .u8 (d : Int), .bool false, .bool on] 49 (0, 0))) from nest_below w [_]))
  have HK := Lib.hid hk
  have HN := Lib.hid hN
  have HM := Lib.hid hM
  have hn : (w.alloc (.cells #[.int .u8 (d : Int), .bool false, .bool on] 49 (0, 0))).heap[w.heap.size]? = some (.cells #[.int .u8 (d : Int), .bool false, .bool on] 49 (0, 0)) := nest w [_] 0 _ rfl
  have HLT := Lib.hid h.lt
  clear h hk hN hM
  go_enter Try.func17, Try.ntmps17
  go_upto_region 1 with fail
  generalize w.alloc (.cells #[.int .u8 (d : Int), .bool false, .bool on] 49 (0, 0)) = w1 at HP hn ⊢
  generalize w.heap.size = sb at hn HLT ⊢
  obtain ⟨⟨c0, c1, c2⟩, -⟩ := cells3 hn
  go_wp2_with fail
  have HPU := Lib.hid hp
  have HI : Hid (∀ w, Calls Try.prog 36 #[.int .i64 (x.u0 : Int)] w fun e w' => e = .returned (.string (inf x.u0)) ∧ Below w.heap.size w w') := Lib.hid (finf x.u0 (Nat.le_trans HK.out.u0 (Nat.le_trans HN.out (by decide))))
  have H2 := Lib.hid (HP.out.on (w' := w1.drew) ⟨rfl, rfl, rfl, Nat.le_refl _, fun _ _ => rfl⟩)
  clear hn c0 c1 c2 hp HP
  refine wp_region_held_drew (S := (fun w' => w'.heap[b.tb]? = some (.cells #[two b.ba, two b.bl, two b.bu, two b.bk, .bool x.bad] 46 (0, 0)) ∧ w'.heap[b.ba]? = some (.cells #[ptr b.p0, ptr b.p1] 28 (0, 0)) ∧ w'.heap[b.bu]? = some (.cells #[nm x.u0, nm x.u1] 3 (0, 0)))) (by kernel_rfl) H2.out.held (fun hHeld => ?_)
  refine' tk 0 ⟨some 24, .move (.tmp 0), 40, "law.go:159", #[], none⟩ ?_
  simp only [Act.put, z1', z2', z3']
  refine' tk 1 ⟨some 25, .nilCheck (.tmp 24), 0, "law.go:159", #[⟨0, .data⟩], none⟩ ?_
  simp only [Act.put, z1', z2', z3']
  refine' tk 2 ⟨some 26, .fieldAddr 46 (.tmp 25) 0, 0, "law.go:159", #[⟨1, .data⟩], none⟩ ?_
  simp only [Act.put, z1', z2', z3']
  refine' tv 3 ⟨some 27, .load 42 (.tmp 26), 42, "law.go:159", #[⟨2, .data⟩], none⟩ ?hy28 ?hr28
  case hy28 => (intro _ hSw; (try dsimp only at hSw); have hc := cell_of (i := 0) (v := two b.ba) hSw.1 rfl; go_simp <;> with_reducible rfl)
  simp only [Act.put, z1', z2', z3']
  refine' tk 4 ⟨some 28, .move (.tmp 5), 3, "law.go:159", #[], none⟩ ?_
  simp only [Act.put, z1', z2', z3']
  refine' tk 5 ⟨some 29, .indexAddr 42 (.tmp 27) (.tmp 28), 0, "law.go:159", #[⟨3, .data⟩, ⟨4, .data⟩], none⟩ ?_
  simp only [Act.put, z1', z2', z3']
  refine' tv 6 ⟨some 30, .load 28 (.tmp 29), 28, "law.go:159", #[⟨5, .data⟩], none⟩ ?hy31 ?hr31
  case hy31 => (intro _ hSw; (try dsimp only at hSw); have hc := cell_of (i := 0) (v := ptr b.p0) hSw.2.1 rfl; go_simp <;> with_reducible rfl)
  simp only [Act.put, z1', z2', z3']
  refine' tk 7 ⟨some 31, .move (.tmp 0), 40, "law.go:159", #[], none⟩ ?_
  simp only [Act.put, z1', z2', z3']
  refine' tk 8 ⟨some 32, .nilCheck (.tmp 31), 0, "law.go:159", #[⟨7, .data⟩], none⟩ ?_
  simp only [Act.put, z1', z2', z3']
  refine' tk 9 ⟨some 33, .fieldAddr 46 (.tmp 32) 2, 0, "law.go:159", #[⟨8, .data⟩], none⟩ ?_
  simp only [Act.put, z1', z2', z3']
  refine' tv 10 ⟨some 34, .load 44 (.tmp 33), 44, "law.go:159", #[⟨9, .data⟩], none⟩ ?hy35 ?hr35
  case hy35 => (intro _ hSw; (try dsimp only at hSw); have hc := cell_of (i := 2) (v := two b.bu) hSw.1 rfl; go_simp <;> with_reducible rfl)
  simp only [Act.put, z1', z2', z3']
  refine' tk 11 ⟨some 35, .move (.tmp 5), 3, "law.go:159", #[], none⟩ ?_
  simp only [Act.put, z1', z2', z3']
  refine' tk 12 ⟨some 36, .indexAddr 44 (.tmp 34) (.tmp 35), 0, "law.go:159", #[⟨10, .data⟩, ⟨11, .data⟩], none⟩ ?_
  simp only [Act.put, z1', z2', z3']
  refine' tv 13 ⟨some 37, .load 3 (.tmp 36), 3, "law.go:159", #[⟨12, .data⟩], none⟩ ?hy38 ?hr38
  case hy38 => (intro _ hSw; (try dsimp only at hSw); have hc := cell_of (i := 0) (v := nm x.u0) hSw.2.2 rfl; go_simp <;> with_reducible rfl)
  simp only [Act.put, z1', z2', z3']
  clear hHeld
  generalize w1.drew = w2 at H2 ⊢
  refine ry [14] ?_
  refine AllReadyH.cons rfl (fun K hK => ?_) AllReadyH.nil
  go_simp
  refine (HI.out _).mono ?_
  rintro _ w3 ⟨rfl, hb⟩
  have H3 := Lib.hid (H2.out.on hb)
  clear hb H2 HI
  go_wp2_with fail
  refine hK.out _ _ H3.out.held (fun hNext => ?_)
  clear hK K
  have hHeld := hNext
  clear hNext
  (try simp only [Act.put, z1', z2', z3'])
  clear hHeld
  refine ry [15] ?_
  refine AllReadyH.cons rfl (fun K hK => ?_) AllReadyH.nil
  go_simp
  refine (opush0 H3.out HK.out.a _ A2 3 HPU.out).mono ?_
  rintro _ w4 ⟨rfl, h4⟩
  have H4 : Hid (PrE w0 b { x with A := A2 } w4) := Lib.hid h4
  clear h4 H3
  go_wp2_with fail
  refine hK.out _ _ H4.out.held (fun hNext => ?_)
  clear hK K
  have hHeld := hNext
  clear hNext
  (try simp only [Act.put, z1', z2', z3'])
  refine' tk 16 ⟨some 40, .binOp .eql 51 (.tmp 39) (.const (.int .i64 0)) 51, 4, "law.go:159", #[⟨15, .data⟩], none⟩ ?_
  simp only [Act.put, z1', z2', z3']
  refine wpAnyH_done (by kernel_rfl) ?_ _
  clear hHeld
  have H5 : Hid (PrE w0 b (pPush x) w4) := by
    have hq : (pPush x) = { x with A := A2 } := by
      show ({ x with A := (Aq.push (inf x.u0) x.A).1, u0 := if (Aq.push (inf x.u0) x.A).2 = 0 then x.u0 + 1 else x.u0 } : Pr) = _
      rw [HPU.out]
      rfl
    rw [hq]
    exact H4
  clear H4
  have HR := Lib.hid (oright H5.out (HK.out.push) (Nat.le_trans (Nat.add_le_add_right HN.out 1) (by decide)))
  clear HK HN HM
  go_wp2_with fail
  refine HR.out.mono ?_
  rintro _ w9 ⟨rfl, h9⟩
  have H9 := Lib.hid h9
  clear h9 HR
  go_wp2
  go_ret
  exact ⟨rfl, H9.out⟩
set_option maxHeartbeats 4000000 in
set_option maxRecDepth 100000 in
theorem fst0_0_4 (w0 w : World) (b : Bk) (x : Pr) (N M : Nat) (h : PrE w0 b x w) (hk : Pok N M x) (hN : N ≤ 1000) (hM : M ≤ 1000) (d : Nat) (hd : (d : Int) % 9 = 0) (on : Bool) (A2 : Sd) (hp : Aq.push (inf x.u0) x.A = (A2, 4)) :
    Calls Try.prog 17 #[ptr b.tb, .agg #[.int .u8 (d : Int), .bool false, .bool on]] w fun e w' => e = .returned (.bool true) ∧ PrE w0 b (pPush x) w' := by
  have HP := Lib.hid (h.on (show Below w.heap.size w (w.alloc (.cells #[.int .u8 (d : Int), .bool false, .bool on] 49 (0, 0))) from nest_below w [_]))
  have HK := Lib.hid hk
  have HN := Lib.hid hN
  have HM := Lib.hid hM
  have hn : (w.alloc (.cells #[.int .u8 (d : Int), .bool false, .bool on] 49 (0, 0))).heap[w.heap.size]? = some (.cells #[.int .u8 (d : Int), .bool false, .bool on] 49 (0, 0)) := nest w [_] 0 _ rfl
  have HLT := Lib.hid h.lt
  clear h hk hN hM
  go_enter Try.func17, Try.ntmps17
  go_upto_region 1 with fail
  generalize w.alloc (.cells #[.int .u8 (d : Int), .bool false, .bool on] 49 (0, 0)) = w1 at HP hn ⊢
  generalize w.heap.size = sb at hn HLT ⊢
  obtain ⟨⟨c0, c1, c2⟩, -⟩ := cells3 hn
  go_wp2_with fail
  have HPU := Lib.hid hp
  have HI : Hid (∀ w, Calls Try.prog 36 #[.int .i64 (x.u0 : Int)] w fun e w' => e = .returned (.string (inf x.u0)) ∧ Below w.heap.size w w') := Lib.hid (finf x.u0 (Nat.le_trans HK.out.u0 (Nat.le_trans HN.out (by decide))))
  have H2 := Lib.hid (HP.out.on (w' := w1.drew) ⟨rfl, rfl, rfl, Nat.le_refl _, fun _ _ => rfl⟩)
  clear hn c0 c1 c2 hp HP
  refine wp_region_held_drew (S := (fun w' => w'.heap[b.tb]? = some (.cells #[two b.ba, two b.bl, two b.bu, two b.bk, .bool x.bad] 46 (0, 0)) ∧ w'.heap[b.ba]? = some (.cells #[ptr b.p0, ptr b.p1] 28 (0, 0)) ∧ w'.heap[b.bu]? = some (.cells #[nm x.u0, nm x.u1] 3 (0, 0)))) (by kernel_rfl) H2.out.held (fun hHeld => ?_)
  refine' tk 0 ⟨some 24, .move (.tmp 0), 40, "law.go:159", #[], none⟩ ?_
  simp only [Act.put, z1', z2', z3']
  refine' tk 1 ⟨some 25, .nilCheck (.tmp 24), 0, "law.go:159", #[⟨0, .data⟩], none⟩ ?_
  simp only [Act.put, z1', z2', z3']
  refine' tk 2 ⟨some 26, .fieldAddr 46 (.tmp 25) 0, 0, "law.go:159", #[⟨1, .data⟩], none⟩ ?_
  simp only [Act.put, z1', z2', z3']
  refine' tv 3 ⟨some 27, .load 42 (.tmp 26), 42, "law.go:159", #[⟨2, .data⟩], none⟩ ?hy43 ?hr43
  case hy43 => (intro _ hSw; (try dsimp only at hSw); have hc := cell_of (i := 0) (v := two b.ba) hSw.1 rfl; go_simp <;> with_reducible rfl)
  simp only [Act.put, z1', z2', z3']
  refine' tk 4 ⟨some 28, .move (.tmp 5), 3, "law.go:159", #[], none⟩ ?_
  simp only [Act.put, z1', z2', z3']
  refine' tk 5 ⟨some 29, .indexAddr 42 (.tmp 27) (.tmp 28), 0, "law.go:159", #[⟨3, .data⟩, ⟨4, .data⟩], none⟩ ?_
  simp only [Act.put, z1', z2', z3']
  refine' tv 6 ⟨some 30, .load 28 (.tmp 29), 28, "law.go:159", #[⟨5, .data⟩], none⟩ ?hy46 ?hr46
  case hy46 => (intro _ hSw; (try dsimp only at hSw); have hc := cell_of (i := 0) (v := ptr b.p0) hSw.2.1 rfl; go_simp <;> with_reducible rfl)
  simp only [Act.put, z1', z2', z3']
  refine' tk 7 ⟨some 31, .move (.tmp 0), 40, "law.go:159", #[], none⟩ ?_
  simp only [Act.put, z1', z2', z3']
  refine' tk 8 ⟨some 32, .nilCheck (.tmp 31), 0, "law.go:159", #[⟨7, .data⟩], none⟩ ?_
  simp only [Act.put, z1', z2', z3']
  refine' tk 9 ⟨some 33, .fieldAddr 46 (.tmp 32) 2, 0, "law.go:159", #[⟨8, .data⟩], none⟩ ?_
  simp only [Act.put, z1', z2', z3']
  refine' tv 10 ⟨some 34, .load 44 (.tmp 33), 44, "law.go:159", #[⟨9, .data⟩], none⟩ ?hy50 ?hr50
  case hy50 => (intro _ hSw; (try dsimp only at hSw); have hc := cell_of (i := 2) (v := two b.bu) hSw.1 rfl; go_simp <;> with_reducible rfl)
  simp only [Act.put, z1', z2', z3']
  refine' tk 11 ⟨some 35, .move (.tmp 5), 3, "law.go:159", #[], none⟩ ?_
  simp only [Act.put, z1', z2', z3']
  refine' tk 12 ⟨some 36, .indexAddr 44 (.tmp 34) (.tmp 35), 0, "law.go:159", #[⟨10, .data⟩, ⟨11, .data⟩], none⟩ ?_
  simp only [Act.put, z1', z2', z3']
  refine' tv 13 ⟨some 37, .load 3 (.tmp 36), 3, "law.go:159", #[⟨12, .data⟩], none⟩ ?hy53 ?hr53
  case hy53 => (intro _ hSw; (try dsimp only at hSw); have hc := cell_of (i := 0) (v := nm x.u0) hSw.2.2 rfl; go_simp <;> with_reducible rfl)
  simp only [Act.put, z1', z2', z3']
  clear hHeld
  generalize w1.drew = w2 at H2 ⊢
  refine ry [14] ?_
  refine AllReadyH.cons rfl (fun K hK => ?_) AllReadyH.nil
  go_simp
  refine (HI.out _).mono ?_
  rintro _ w3 ⟨rfl, hb⟩
  have H3 := Lib.hid (H2.out.on hb)
  clear hb H2 HI
  go_wp2_with fail
  refine hK.out _ _ H3.out.held (fun hNext => ?_)
  clear hK K
  have hHeld := hNext
  clear hNext
  (try simp only [Act.put, z1', z2', z3'])
  clear hHeld
  refine ry [15] ?_
  refine AllReadyH.cons rfl (fun K hK => ?_) AllReadyH.nil
  go_simp
  refine (opush0 H3.out HK.out.a _ A2 4 HPU.out).mono ?_
  rintro _ w4 ⟨rfl, h4⟩
  have H4 : Hid (PrE w0 b { x with A := A2 } w4) := Lib.hid h4
  clear h4 H3
  go_wp2_with fail
  refine hK.out _ _ H4.out.held (fun hNext => ?_)
  clear hK K
  have hHeld := hNext
  clear hNext
  (try simp only [Act.put, z1', z2', z3'])
  refine' tk 16 ⟨some 40, .binOp .eql 51 (.tmp 39) (.const (.int .i64 0)) 51, 4, "law.go:159", #[⟨15, .data⟩], none⟩ ?_
  simp only [Act.put, z1', z2', z3']
  refine wpAnyH_done (by kernel_rfl) ?_ _
  clear hHeld
  have H5 : Hid (PrE w0 b (pPush x) w4) := by
    have hq : (pPush x) = { x with A := A2 } := by
      show ({ x with A := (Aq.push (inf x.u0) x.A).1, u0 := if (Aq.push (inf x.u0) x.A).2 = 0 then x.u0 + 1 else x.u0 } : Pr) = _
      rw [HPU.out]
      rfl
    rw [hq]
    exact H4
  clear H4
  have HR := Lib.hid (oright H5.out (HK.out.push) (Nat.le_trans (Nat.add_le_add_right HN.out 1) (by decide)))
  clear HK HN HM
  go_wp2_with fail
  refine HR.out.mono ?_
  rintro _ w9 ⟨rfl, h9⟩
  have H9 := Lib.hid h9
  clear h9 HR
  go_wp2
  go_ret
  exact ⟨rfl, H9.out⟩
set_option maxHeartbeats 4000000 in
set_option maxRecDepth 100000 in
theorem fst1_0_0 (w0 w : World) (b : Bk) (x : Pr) (N M : Nat) (h : PrE w0 b x w) (hk : Pok N M x) (hN : N ≤ 1000) (hM : M ≤ 1000) (d : Nat) (hd : (d : Int) % 9 = 1) (on : Bool) (A2 : Sd) (hp : Aq.push (inf x.u0) x.A = (A2, 0)) :
    Calls Try.prog 17 #[ptr b.tb, .agg #[.int .u8 (d : Int), .bool false, .bool on]] w fun e w' => e = .returned (.bool true) ∧ PrE w0 b (pPush x) w' := by
  have HP := Lib.hid (h.on (show Below w.heap.size w (w.alloc (.cells #[.int .u8 (d : Int), .bool false, .bool on] 49 (0, 0))) from nest_below w [_]))
  have HK := Lib.hid hk
  have HN := Lib.hid hN
  have HM := Lib.hid hM
  have hn : (w.alloc (.cells #[.int .u8 (d : Int), .bool false, .bool on] 49 (0, 0))).heap[w.heap.size]? = some (.cells #[.int .u8 (d : Int), .bool false, .bool on] 49 (0, 0)) := nest w [_] 0 _ rfl
  have HLT := Lib.hid h.lt
  clear h hk hN hM
  go_enter Try.func17, Try.ntmps17
  go_upto_region 1 with fail
  generalize w.alloc (.cells #[.int .u8 (d : Int), .bool false, .bool on] 49 (0, 0)) = w1 at HP hn ⊢
  generalize w.heap.size = sb at hn HLT ⊢
  obtain ⟨⟨c0, c1, c2⟩, -⟩ := cells3 hn
  go_wp2_with fail
  have HPU := Lib.hid hp
  have HI : Hid (∀ w, Calls Try.prog 36 #[.int .i64 (x.u0 : Int)] w fun e w' => e = .returned (.string (inf x.u0)) ∧ Below w.heap.size w w') := Lib.hid (finf x.u0 (Nat.le_trans HK.out.u0 (Nat.le_trans HN.out (by decide))))
  have H2 := Lib.hid (HP.out.on (w' := w1.drew) ⟨rfl, rfl, rfl, Nat.le_refl _, fun _ _ => rfl⟩)
  clear hn c0 c1 c2 hp HP
  refine wp_region_held_drew (S := (fun w' => w'.heap[b.tb]? = some (.cells #[two b.ba, two b.bl, two b.bu, two b.bk, .bool x.bad] 46 (0, 0)) ∧ w'.heap[b.ba]? = some (.cells #[ptr b.p0, ptr b.p1] 28 (0, 0)) ∧ w'.heap[b.bu]? = some (.cells #[nm x.u0, nm x.u1] 3 (0, 0)))) (by kernel_rfl) H2.out.held (fun hHeld => ?_)
  refine' tk 0 ⟨some 24, .move (.tmp 0), 40, "law.go:159", #[], none⟩ ?_
  simp only [Act.put, z1', z2', z3']
  refine' tk 1 ⟨some 25, .nilCheck (.tmp 24), 0, "law.go:159", #[⟨0, .data⟩], none⟩ ?_
  simp only [Act.put, z1', z2', z3']
  refine' tk 2 ⟨some 26, .fieldAddr 46 (.tmp 25) 0, 0, "law.go:159", #[⟨1, .data⟩], none⟩ ?_
  simp only [Act.put, z1', z2', z3']
  refine' tv 3 ⟨some 27, .load 42 (.tmp 26), 42, "law.go:159", #[⟨2, .data⟩], none⟩ ?hy58 ?hr58
  case hy58 => (intro _ hSw; (try dsimp only at hSw); have hc := cell_of (i := 0) (v := two b.ba) hSw.1 rfl; go_simp <;> with_reducible rfl)
  simp only [Act.put, z1', z2', z3']
  refine' tk 4 ⟨some 28, .move (.tmp 5), 3, "law.go:159", #[], none⟩ ?_
  simp only [Act.put, z1', z2', z3']
  refine' tk 5 ⟨some 29, .indexAddr 42 (.tmp 27) (.tmp 28), 0, "law.go:159", #[⟨3, .data⟩, ⟨4, .data⟩], none⟩ ?_
  simp only [Act.put, z1', z2', z3']
  refine' tv 6 ⟨some 30, .load 28 (.tmp 29), 28, "law.go:159", #[⟨5, .data⟩], none⟩ ?hy61 ?hr61
  case hy61 => (intro _ hSw; (try dsimp only at hSw); have hc := cell_of (i := 0) (v := ptr b.p0) hSw.2.1 rfl; go_simp <;> with_reducible rfl)
  simp only [Act.put, z1', z2', z3']
  refine' tk 7 ⟨some 31, .move (.tmp 0), 40, "law.go:159", #[], none⟩ ?_
  simp only [Act.put, z1', z2', z3']
  refine' tk 8 ⟨some 32, .nilCheck (.tmp 31), 0, "law.go:159", #[⟨7, .data⟩], none⟩ ?_
  simp only [Act.put, z1', z2', z3']
  refine' tk 9 ⟨some 33, .fieldAddr 46 (.tmp 32) 2, 0, "law.go:159", #[⟨8, .data⟩], none⟩ ?_
  simp only [Act.put, z1', z2', z3']
  refine' tv 10 ⟨some 34, .load 44 (.tmp 33), 44, "law.go:159", #[⟨9, .data⟩], none⟩ ?hy65 ?hr65
  case hy65 => (intro _ hSw; (try dsimp only at hSw); have hc := cell_of (i := 2) (v := two b.bu) hSw.1 rfl; go_simp <;> with_reducible rfl)
  simp only [Act.put, z1', z2', z3']
  refine' tk 11 ⟨some 35, .move (.tmp 5), 3, "law.go:159", #[], none⟩ ?_
  simp only [Act.put, z1', z2', z3']
  refine' tk 12 ⟨some 36, .indexAddr 44 (.tmp 34) (.tmp 35), 0, "law.go:159", #[⟨10, .data⟩, ⟨11, .data⟩], none⟩ ?_
  simp only [Act.put, z1', z2', z3']
  refine' tv 13 ⟨some 37, .load 3 (.tmp 36), 3, "law.go:159", #[⟨12, .data⟩], none⟩ ?hy68 ?hr68
  case hy68 => (intro _ hSw; (try dsimp only at hSw); have hc := cell_of (i := 0) (v := nm x.u0) hSw.2.2 rfl; go_simp <;> with_reducible rfl)
  simp only [Act.put, z1', z2', z3']
  clear hHeld
  generalize w1.drew = w2 at H2 ⊢
  refine ry [14] ?_
  refine AllReadyH.cons rfl (fun K hK => ?_) AllReadyH.nil
  go_simp
  refine (HI.out _).mono ?_
  rintro _ w3 ⟨rfl, hb⟩
  have H3 := Lib.hid (H2.out.on hb)
  clear hb H2 HI
  go_wp2_with fail
  refine hK.out _ _ H3.out.held (fun hNext => ?_)
  clear hK K
  have hHeld := hNext
  clear hNext
  (try simp only [Act.put, z1', z2', z3'])
  clear hHeld
  refine ry [15] ?_
  refine AllReadyH.cons rfl (fun K hK => ?_) AllReadyH.nil
  go_simp
  refine (opush0 H3.out HK.out.a _ A2 0 HPU.out).mono ?_
  rintro _ w4 ⟨rfl, h4⟩
  have H4 : Hid (PrE w0 b { x with A := A2 } w4) := Lib.hid h4
  clear h4 H3
  go_wp2_with fail
  refine hK.out _ _ H4.out.held (fun hNext => ?_)
  clear hK K
  have hHeld := hNext
  clear hNext
  (try simp only [Act.put, z1', z2', z3'])
  refine' tk 16 ⟨some 40, .binOp .eql 51 (.tmp 39) (.const (.int .i64 0)) 51, 4, "law.go:159", #[⟨15, .data⟩], none⟩ ?_
  simp only [Act.put, z1', z2', z3']
  refine wpAnyH_done (by kernel_rfl) ?_ _
  clear hHeld
  obtain ⟨q0, q1, v0, v1, tag, hp⟩ := H4.out
  have c2 : w4.cell? ⟨b.tb, 2, none⟩ = some (two b.bu) := cell_of hp.blk rfl
  have cu : w4.cell? ⟨b.bu, 0, none⟩ = some (nm x.u0) := cell_of hp.u rfl
  have fu : ∀ i, w4.frozen? ⟨b.bu, i, none⟩ = false := fun _ => free_of hp.u
  have hub : x.u0 ≤ 1000 := Nat.le_trans HK.out.u0 HN.out
  have vk : IntKind.i64.wrap ((x.u0 : Int) + 1) = ((x.u0 + 1 : Nat) : Int) := by rw [IntKind.wrap_i64]; omega
  have H5 : Hid (PrE w0 b (pPush x) (w4.setCell ⟨b.bu, 0, none⟩ (.int .i64 ((x.u0 + 1 : Nat) : Int)))) := by
    have hq : (pPush x) = { x with A := A2, u0 := x.u0 + 1 } := by
      show ({ x with A := (Aq.push (inf x.u0) x.A).1, u0 := if (Aq.push (inf x.u0) x.A).2 = 0 then x.u0 + 1 else x.u0 } : Pr) = _
      rw [HPU.out]
      rfl
    rw [hq]
    exact Lib.hid ⟨_, _, _, _, _, hp.put_u (x.u0 + 1) x.u1 (chg_cell w4 b.bu 0 _) (block_set (i := 0) hp.u _)⟩
  have HY : Hid (Pok (N + 1) M (pPush x)) := Lib.hid (HK.out.push)
  clear hp H4 HPU
  clear q0 q1 v0 v1 tag
  obtain ⟨kn, hkn⟩ : ∃ kn, x.u0 + 1 = kn := ⟨_, rfl⟩
  rw [hkn] at vk H5
  clear hub hkn
  go_wp2_with fail
  generalize w4.setCell ⟨b.bu, 0, none⟩ (.int .i64 (kn : Int)) = w5 at H5 ⊢
  have HR := Lib.hid (oright H5.out HY.out (Nat.le_trans (Nat.add_le_add_right HN.out 1) (by decide)))
  clear HY HK c2 cu fu vk HN HM
  go_wp2_with fail
  refine HR.out.mono ?_
  rintro _ w9 ⟨rfl, h9⟩
  have H9 := Lib.hid h9
  clear h9 HR
  go_wp2
  go_ret
  exact ⟨rfl, H9.out⟩
set_option maxHeartbeats 4000000 in
set_option maxRecDepth 100000 in
theorem fst1_0_3 (w0 w : World) (b : Bk) (x : Pr) (N M : Nat) (h : PrE w0 b x w) (hk : Pok N M x) (hN : N ≤ 1000) (hM : M ≤ 1000) (d : Nat) (hd : (d : Int) % 9 = 1) (on : Bool) (A2 : Sd) (hp : Aq.push (inf x.u0) x.A = (A2, 3)) :
    Calls Try.prog 17 #[ptr b.tb, .agg #[.int .u8 (d : Int), .bool false, .bool on]] w fun e w' => e = .returned (.bool true) ∧ PrE w0 b (pPush x) w' := by
  have HP := Lib.hid (h.on (show Below w.heap.size w (w.alloc (.cells #[.int .u8 (d : Int), .bool false, .bool on] 49 (0, 0))) from nest_below w [_]))
  have HK := Lib.hid hk
  have HN := Lib.hid hN
  have HM := Lib.hid hM
  have hn : (w.alloc (.cells #[.int .u8 (d : Int), .bool false, .bool on] 49 (0, 0))).heap[w.heap.size]? = some (.cells #[.int .u8 (d : Int), .bool false, .bool on] 49 (0, 0)) := nest w [_] 0 _ rfl
  have HLT := Lib.hid h.lt
  clear h hk hN hM
  go_enter Try.func17, Try.ntmps17
  go_upto_region 1 with fail
  generalize w.alloc (.cells #[.int .u8 (d : Int), .bool false, .bool on] 49 (0, 0)) = w1 at HP hn ⊢
  generalize w.heap.size = sb at hn HLT ⊢
  obtain ⟨⟨c0, c1, c2⟩, -⟩ := cells3 hn
  go_wp2_with fail
  have HPU := Lib.hid hp
  have HI : Hid (∀ w, Calls Try.prog 36 #[.int .i64 (x.u0 : Int)] w fun e w' => e = .returned (.string (inf x.u0)) ∧ Below w.heap.size w w') := Lib.hid (finf x.u0 (Nat.le_trans HK.out.u0 (Nat.le_trans HN.out (by decide))))
  have H2 := Lib.hid (HP.out.on (w' := w1.drew) ⟨rfl, rfl, rfl, Nat.le_refl _, fun _ _ => rfl⟩)
  clear hn c0 c1 c2 hp HP
  refine wp_region_held_drew (S := (fun w' => w'.heap[b.tb]? = some (.cells #[two b.ba, two b.bl, two b.bu, two b.bk, .bool x.bad] 46 (0, 0)) ∧ w'.heap[b.ba]? = some (.cells #[ptr b.p0, ptr b.p1] 28 (0, 0)) ∧ w'.heap[b.bu]? = some (.cells #[nm x.u0, nm x.u1] 3 (0, 0)))) (by kernel_rfl) H2.out.held (fun hHeld => ?_)
  refine' tk 0 ⟨some 24, .move (.tmp 0), 40, "law.go:159", #[], none⟩ ?_
  simp only [Act.put, z1', z2', z3']
  refine' tk 1 ⟨some 25, .nilCheck (.tmp 24), 0, "law.go:159", #[⟨0, .data⟩], none⟩ ?_
  simp only [Act.put, z1', z2', z3']
  refine' tk 2 ⟨some 26, .fieldAddr 46 (.tmp 25) 0, 0, "law.go:159", #[⟨1, .data⟩], none⟩ ?_
  simp only [Act.put, z1', z2', z3']
  refine' tv 3 ⟨some 27, .load 42 (.tmp 26), 42, "law.go:159", #[⟨2, .data⟩], none⟩ ?hy73 ?hr73
  case hy73 => (intro _ hSw; (try dsimp only at hSw); have hc := cell_of (i := 0) (v := two b.ba) hSw.1 rfl; go_simp <;> with_reducible rfl)
  simp only [Act.put, z1', z2', z3']
  refine' tk 4 ⟨some 28, .move (.tmp 5), 3, "law.go:159", #[], none⟩ ?_
  simp only [Act.put, z1', z2', z3']
  refine' tk 5 ⟨some 29, .indexAddr 42 (.tmp 27) (.tmp 28), 0, "law.go:159", #[⟨3, .data⟩, ⟨4, .data⟩], none⟩ ?_
  simp only [Act.put, z1', z2', z3']
  refine' tv 6 ⟨some 30, .load 28 (.tmp 29), 28, "law.go:159", #[⟨5, .data⟩], none⟩ ?hy76 ?hr76
  case hy76 => (intro _ hSw; (try dsimp only at hSw); have hc := cell_of (i := 0) (v := ptr b.p0) hSw.2.1 rfl; go_simp <;> with_reducible rfl)
  simp only [Act.put, z1', z2', z3']
  refine' tk 7 ⟨some 31, .move (.tmp 0), 40, "law.go:159", #[], none⟩ ?_
  simp only [Act.put, z1', z2', z3']
  refine' tk 8 ⟨some 32, .nilCheck (.tmp 31), 0, "law.go:159", #[⟨7, .data⟩], none⟩ ?_
  simp only [Act.put, z1', z2', z3']
  refine' tk 9 ⟨some 33, .fieldAddr 46 (.tmp 32) 2, 0, "law.go:159", #[⟨8, .data⟩], none⟩ ?_
  simp only [Act.put, z1', z2', z3']
  refine' tv 10 ⟨some 34, .load 44 (.tmp 33), 44, "law.go:159", #[⟨9, .data⟩], none⟩ ?hy80 ?hr80
  case hy80 => (intro _ hSw; (try dsimp only at hSw); have hc := cell_of (i := 2) (v := two b.bu) hSw.1 rfl; go_simp <;> with_reducible rfl)
  simp only [Act.put, z1', z2', z3']
  refine' tk 11 ⟨some 35, .move (.tmp 5), 3, "law.go:159", #[], none⟩ ?_
  simp only [Act.put, z1', z2', z3']
  refine' tk 12 ⟨some 36, .indexAddr 44 (.tmp 34) (.tmp 35), 0, "law.go:159", #[⟨10, .data⟩, ⟨11, .data⟩], none⟩ ?_
  simp only [Act.put, z1', z2', z3']
  refine' tv 13 ⟨some 37, .load 3 (.tmp 36), 3, "law.go:159", #[⟨12, .data⟩], none⟩ ?hy83 ?hr83
  case hy83 => (intro _ hSw; (try dsimp only at hSw); have hc := cell_of (i := 0) (v := nm x.u0) hSw.2.2 rfl; go_simp <;> with_reducible rfl)
  simp only [Act.put, z1', z2', z3']
  clear hHeld
  generalize w1.drew = w2 at H2 ⊢
  refine ry [14] ?_
  refine AllReadyH.cons rfl (fun K hK => ?_) AllReadyH.nil
  go_simp
  refine (HI.out _).mono ?_
  rintro _ w3 ⟨rfl, hb⟩
  have H3 := Lib.hid (H2.out.on hb)
  clear hb H2 HI
  go_wp2_with fail
  refine hK.out _ _ H3.out.held (fun hNext => ?_)
  clear hK K
  have hHeld := hNext
  clear hNext
  (try simp only [Act.put, z1', z2', z3'])
  clear hHeld
  refine ry [15] ?_
  refine AllReadyH.cons rfl (fun K hK => ?_) AllReadyH.nil
  go_simp
  refine (opush0 H3.out HK.out.a _ A2 3 HPU.out).mono ?_
  rintro _ w4 ⟨rfl, h4⟩
  have H4 : Hid (PrE w0 b { x with A := A2 } w4) := Lib.hid h4
  clear h4 H3
  go_wp2_with fail
  refine hK.out _ _ H4.out.held (fun hNext => ?_)
  clear hK K
  have hHeld := hNext
  clear hNext
  (try simp only [Act.put, z1', z2', z3'])
  refine' tk 16 ⟨some 40, .binOp .eql 51 (.tmp 39) (.const (.int .i64 0)) 51, 4, "law.go:159", #[⟨15, .data⟩], none⟩ ?_
  simp only [Act.put, z1', z2', z3']
  refine wpAnyH_done (by kernel_rfl) ?_ _
  clear hHeld
  have H5 : Hid (PrE w0 b (pPush x) w4) := by
    have hq : (pPush x) = { x with A := A2 } := by
      show ({ x with A := (Aq.push (inf x.u0) x.A).1, u0 := if (Aq.push (inf x.u0) x.A).2 = 0 then x.u0 + 1 else x.u0 } : Pr) = _
      rw [HPU.out]
      rfl
    rw [hq]
    exact H4
  clear H4
  have HR := Lib.hid (oright H5.out (HK.out.push) (Nat.le_trans (Nat.add_le_add_right HN.out 1) (by decide)))
  clear HK HN HM
  go_wp2_with fail
  refine HR.out.mono ?_
  rintro _ w9 ⟨rfl, h9⟩
  have H9 := Lib.hid h9
  clear h9 HR
  go_wp2
  go_ret
  exact ⟨rfl, H9.out⟩
set_option maxHeartbeats 4000000 in
set_option maxRecDepth 100000 in
theorem fst1_0_4 (w0 w : World) (b : Bk) (x : Pr) (N M : Nat) (h : PrE w0 b x w) (hk : Pok N M x) (hN : N ≤ 1000) (hM : M ≤ 1000) (d : Nat) (hd : (d : Int) % 9 = 1) (on : Bool) (A2 : Sd) (hp : Aq.push (inf x.u0) x.A = (A2, 4)) :
    Calls Try.prog 17 #[ptr b.tb, .agg #[.int .u8 (d : Int), .bool false, .bool on]] w fun e w' => e = .returned (.bool true) ∧ PrE w0 b (pPush x) w' := by
  have HP := Lib.hid (h.on (show Below w.heap.size w (w.alloc (.cells #[.int .u8 (d : Int), .bool false, .bool on] 49 (0, 0))) from nest_below w [_]))
  have HK := Lib.hid hk
  have HN := Lib.hid hN
  have HM := Lib.hid hM
  have hn : (w.alloc (.cells #[.int .u8 (d : Int), .bool false, .bool on] 49 (0, 0))).heap[w.heap.size]? = some (.cells #[.int .u8 (d : Int), .bool false, .bool on] 49 (0, 0)) := nest w [_] 0 _ rfl
  have HLT := Lib.hid h.lt
  clear h hk hN hM
  go_enter Try.func17, Try.ntmps17
  go_upto_region 1 with fail
  generalize w.alloc (.cells #[.int .u8 (d : Int), .bool false, .bool on] 49 (0, 0)) = w1 at HP hn ⊢
  generalize w.heap.size = sb at hn HLT ⊢
  obtain ⟨⟨c0, c1, c2⟩, -⟩ := cells3 hn
  go_wp2_with fail
  have HPU := Lib.hid hp
  have HI : Hid (∀ w, Calls Try.prog 36 #[.int .i64 (x.u0 : Int)] w fun e w' => e = .returned (.string (inf x.u0)) ∧ Below w.heap.size w w') := Lib.hid (finf x.u0 (Nat.le_trans HK.out.u0 (Nat.le_trans HN.out (by decide))))
  have H2 := Lib.hid (HP.out.on (w' := w1.drew) ⟨rfl, rfl, rfl, Nat.le_refl _, fun _ _ => rfl⟩)
  clear hn c0 c1 c2 hp HP
  refine wp_region_held_drew (S := (fun w' => w'.heap[b.tb]? = some (.cells #[two b.ba, two b.bl, two b.bu, two b.bk, .bool x.bad] 46 (0, 0)) ∧ w'.heap[b.ba]? = some (.cells #[ptr b.p0, ptr b.p1] 28 (0, 0)) ∧ w'.heap[b.bu]? = some (.cells #[nm x.u0, nm x.u1] 3 (0, 0)))) (by kernel_rfl) H2.out.held (fun hHeld => ?_)
  refine' tk 0 ⟨some 24, .move (.tmp 0), 40, "law.go:159", #[], none⟩ ?_
  simp only [Act.put, z1', z2', z3']
  refine' tk 1 ⟨some 25, .nilCheck (.tmp 24), 0, "law.go:159", #[⟨0, .data⟩], none⟩ ?_
  simp only [Act.put, z1', z2', z3']
  refine' tk 2 ⟨some 26, .fieldAddr 46 (.tmp 25) 0, 0, "law.go:159", #[⟨1, .data⟩], none⟩ ?_
  simp only [Act.put, z1', z2', z3']
  refine' tv 3 ⟨some 27, .load 42 (.tmp 26), 42, "law.go:159", #[⟨2, .data⟩], none⟩ ?hy88 ?hr88
  case hy88 => (intro _ hSw; (try dsimp only at hSw); have hc := cell_of (i := 0) (v := two b.ba) hSw.1 rfl; go_simp <;> with_reducible rfl)
  simp only [Act.put, z1', z2', z3']
  refine' tk 4 ⟨some 28, .move (.tmp 5), 3, "law.go:159", #[], none⟩ ?_
  simp only [Act.put, z1', z2', z3']
  refine' tk 5 ⟨some 29, .indexAddr 42 (.tmp 27) (.tmp 28), 0, "law.go:159", #[⟨3, .data⟩, ⟨4, .data⟩], none⟩ ?_
  simp only [Act.put, z1', z2', z3']
  refine' tv 6 ⟨some 30, .load 28 (.tmp 29), 28, "law.go:159", #[⟨5, .data⟩], none⟩ ?hy91 ?hr91
  case hy91 => (intro _ hSw; (try dsimp only at hSw); have hc := cell_of (i := 0) (v := ptr b.p0) hSw.2.1 rfl; go_simp <;> with_reducible rfl)
  simp only [Act.put, z1', z2', z3']
  refine' tk 7 ⟨some 31, .move (.tmp 0), 40, "law.go:159", #[], none⟩ ?_
  simp only [Act.put, z1', z2', z3']
  refine' tk 8 ⟨some 32, .nilCheck (.tmp 31), 0, "law.go:159", #[⟨7, .data⟩], none⟩ ?_
  simp only [Act.put, z1', z2', z3']
  refine' tk 9 ⟨some 33, .fieldAddr 46 (.tmp 32) 2, 0, "law.go:159", #[⟨8, .data⟩], none⟩ ?_
  simp only [Act.put, z1', z2', z3']
  refine' tv 10 ⟨some 34, .load 44 (.tmp 33), 44, "law.go:159", #[⟨9, .data⟩], none⟩ ?hy95 ?hr95
  case hy95 => (intro _ hSw; (try dsimp only at hSw); have hc := cell_of (i := 2) (v := two b.bu) hSw.1 rfl; go_simp <;> with_reducible rfl)
  simp only [Act.put, z1', z2', z3']
  refine' tk 11 ⟨some 35, .move (.tmp 5), 3, "law.go:159", #[], none⟩ ?_
  simp only [Act.put, z1', z2', z3']
  refine' tk 12 ⟨some 36, .indexAddr 44 (.tmp 34) (.tmp 35), 0, "law.go:159", #[⟨10, .data⟩, ⟨11, .data⟩], none⟩ ?_
  simp only [Act.put, z1', z2', z3']
  refine' tv 13 ⟨some 37, .load 3 (.tmp 36), 3, "law.go:159", #[⟨12, .data⟩], none⟩ ?hy98 ?hr98
  case hy98 => (intro _ hSw; (try dsimp only at hSw); have hc := cell_of (i := 0) (v := nm x.u0) hSw.2.2 rfl; go_simp <;> with_reducible rfl)
  simp only [Act.put, z1', z2', z3']
  clear hHeld
  generalize w1.drew = w2 at H2 ⊢
  refine ry [14] ?_
  refine AllReadyH.cons rfl (fun K hK => ?_) AllReadyH.nil
  go_simp
  refine (HI.out _).mono ?_
  rintro _ w3 ⟨rfl, hb⟩
  have H3 := Lib.hid (H2.out.on hb)
  clear hb H2 HI
  go_wp2_with fail
  refine hK.out _ _ H3.out.held (fun hNext => ?_)
  clear hK K
  have hHeld := hNext
  clear hNext
  (try simp only [Act.put, z1', z2', z3'])
  clear hHeld
  refine ry [15] ?_
  refine AllReadyH.cons rfl (fun K hK => ?_) AllReadyH.nil
  go_simp
  refine (opush0 H3.out HK.out.a _ A2 4 HPU.out).mono ?_
  rintro _ w4 ⟨rfl, h4⟩
  have H4 : Hid (PrE w0 b { x with A := A2 } w4) := Lib.hid h4
  clear h4 H3
  go_wp2_with fail
  refine hK.out _ _ H4.out.held (fun hNext => ?_)
  clear hK K
  have hHeld := hNext
  clear hNext
  (try simp only [Act.put, z1', z2', z3'])
  refine' tk 16 ⟨some 40, .binOp .eql 51 (.tmp 39) (.const (.int .i64 0)) 51, 4, "law.go:159", #[⟨15, .data⟩], none⟩ ?_
  simp only [Act.put, z1', z2', z3']
  refine wpAnyH_done (by kernel_rfl) ?_ _
  clear hHeld
  have H5 : Hid (PrE w0 b (pPush x) w4) := by
    have hq : (pPush x) = { x with A := A2 } := by
      show ({ x with A := (Aq.push (inf x.u0) x.A).1, u0 := if (Aq.push (inf x.u0) x.A).2 = 0 then x.u0 + 1 else x.u0 } : Pr) = _
      rw [HPU.out]
      rfl
    rw [hq]
    exact H4
  clear H4
  have HR := Lib.hid (oright H5.out (HK.out.push) (Nat.le_trans (Nat.add_le_add_right HN.out 1) (by decide)))
  clear HK HN HM
  go_wp2_with fail
  refine HR.out.mono ?_
  rintro _ w9 ⟨rfl, h9⟩
  have H9 := Lib.hid h9
  clear h9 HR
  go_wp2
  go_ret
  exact ⟨rfl, H9.out⟩
set_option maxHeartbeats 4000000 in
set_option maxRecDepth 100000 in
theorem fst2_1 (w0 w : World) (b : Bk) (x : Pr) (N M : Nat) (h : PrE w0 b x w) (hk : Pok N M x) (hN : N ≤ 1000) (hM : M ≤ 1000) (d : Nat) (hd : (d : Int) % 9 = 2) (on : Bool) :
    Calls Try.prog 17 #[ptr b.tb, .agg #[.int .u8 (d : Int), .bool true, .bool on]] w fun e w' => e = .returned (.bool true) ∧ PrE w0 b (swp (pSend (swp x))) w' := by
  have HP := Lib.hid (h.on (show Below w.heap.size w (w.alloc (.cells #[.int .u8 (d : Int), .bool true, .bool on] 49 (0, 0))) from nest_below w [_]))
  have HK := Lib.hid hk
  have HN := Lib.hid hN
  have HM := Lib.hid hM
  have hn : (w.alloc (.cells #[.int .u8 (d : Int), .bool true, .bool on] 49 (0, 0))).heap[w.heap.size]? = some (.cells #[.int .u8 (d : Int), .bool true, .bool on] 49 (0, 0)) := nest w [_] 0 _ rfl
  have HLT := Lib.hid h.lt
  clear h hk hN hM
  go_enter Try.func17, Try.ntmps17
  go_upto_region 1 with fail
  generalize w.alloc (.cells #[.int .u8 (d : Int), .bool true, .bool on] 49 (0, 0)) = w1 at HP hn ⊢
  generalize w.heap.size = sb at hn HLT ⊢
  obtain ⟨⟨c0, c1, c2⟩, -⟩ := cells3 hn
  have CS := Lib.hid (osend1 HP.out HK.out HM.out)
  clear hn
  go_wp2_with fail
  refine CS.out.mono ?_
  rintro _ w2 ⟨rfl, h2⟩
  have H2 := Lib.hid h2
  clear h2 CS c0 c1 c2
  have HR := Lib.hid (oright H2.out (((HK.out.swp.send).swp).more (Nat.le_succ N) (Nat.le_refl _)) (Nat.le_trans (Nat.add_le_add_right HN.out 1) (by decide)))
  clear HP HK HN HM
  go_wp2_with fail
  refine HR.out.mono ?_
  rintro _ w9 ⟨rfl, h9⟩
  have H9 := Lib.hid h9
  clear h9 HR
  go_wp2
  go_ret
  exact ⟨rfl, H9.out⟩
set_option maxHeartbeats 4000000 in
set_option maxRecDepth 100000 in
theorem fst3_1 (w0 w : World) (b : Bk) (x : Pr) (N M : Nat) (h : PrE w0 b x w) (hk : Pok N M x) (hN : N ≤ 1000) (hM : M ≤ 1000) (d : Nat) (hd : (d : Int) % 9 = 3) (on : Bool) :
    Calls Try.prog 17 #[ptr b.tb, .agg #[.int .u8 (d : Int), .bool true, .bool on]] w fun e w' => e = .returned (.bool true) ∧ PrE w0 b (swp (pSend (swp x))) w' := by
  have HP := Lib.hid (h.on (show Below w.heap.size w (w.alloc (.cells #[.int .u8 (d : Int), .bool true, .bool on] 49 (0, 0))) from nest_below w [_]))
  have HK := Lib.hid hk
  have HN := Lib.hid hN
  have HM := Lib.hid hM
  have hn : (w.alloc (.cells #[.int .u8 (d : Int), .bool true, .bool on] 49 (0, 0))).heap[w.heap.size]? = some (.cells #[.int .u8 (d : Int), .bool true, .bool on] 49 (0, 0)) := nest w [_] 0 _ rfl
  have HLT := Lib.hid h.lt
  clear h hk hN hM
  go_enter Try.func17, Try.ntmps17
  go_upto_region 1 with fail
  generalize w.alloc (.cells #[.int .u8 (d : Int), .bool true, .bool on] 49 (0, 0)) = w1 at HP hn ⊢
  generalize w.heap.size = sb at hn HLT ⊢
  obtain ⟨⟨c0, c1, c2⟩, -⟩ := cells3 hn
  have CS := Lib.hid (osend1 HP.out HK.out HM.out)
  clear hn
  go_wp2_with fail
  refine CS.out.mono ?_
  rintro _ w2 ⟨rfl, h2⟩
  have H2 := Lib.hid h2
  clear h2 CS c0 c1 c2
  have HR := Lib.hid (oright H2.out (((HK.out.swp.send).swp).more (Nat.le_succ N) (Nat.le_refl _)) (Nat.le_trans (Nat.add_le_add_right HN.out 1) (by decide)))
  clear HP HK HN HM
  go_wp2_with fail
  refine HR.out.mono ?_
  rintro _ w9 ⟨rfl, h9⟩
  have H9 := Lib.hid h9
  clear h9 HR
  go_wp2
  go_ret
  exact ⟨rfl, H9.out⟩
set_option maxHeartbeats 4000000 in
set_option maxRecDepth 100000 in
theorem fst4_1 (w0 w : World) (b : Bk) (x : Pr) (N M : Nat) (h : PrE w0 b x w) (hk : Pok N M x) (hN : N ≤ 1000) (hM : M ≤ 1000) (d : Nat) (hd : (d : Int) % 9 = 4) (on : Bool) :
    Calls Try.prog 17 #[ptr b.tb, .agg #[.int .u8 (d : Int), .bool true, .bool on]] w fun e w' => e = .returned (.bool true) ∧ PrE w0 b (swp (pHand (swp x))) w' := by
  have HP := Lib.hid (h.on (show Below w.heap.size w (w.alloc (.cells #[.int .u8 (d : Int), .bool true, .bool on] 49 (0, 0))) from nest_below w [_]))
  have HK := Lib.hid hk
  have HN := Lib.hid hN
  have HM := Lib.hid hM
  have hn : (w.alloc (.cells #[.int .u8 (d : Int), .bool true, .bool on] 49 (0, 0))).heap[w.heap.size]? = some (.cells #[.int .u8 (d : Int), .bool true, .bool on] 49 (0, 0)) := nest w [_] 0 _ rfl
  have HLT := Lib.hid h.lt
  clear h hk hN hM
  go_enter Try.func17, Try.ntmps17
  go_upto_region 1 with fail
  generalize w.alloc (.cells #[.int .u8 (d : Int), .bool true, .bool on] 49 (0, 0)) = w1 at HP hn ⊢
  generalize w.heap.size = sb at hn HLT ⊢
  obtain ⟨⟨c0, c1, c2⟩, -⟩ := cells3 hn
  have CS := Lib.hid (ohand1 HP.out HK.out (Nat.le_trans HN.out (by decide)))
  clear hn
  go_wp2_with fail
  refine CS.out.mono ?_
  rintro _ w2 ⟨rfl, h2⟩
  have H2 := Lib.hid h2
  clear h2 CS c0 c1 c2
  have HR := Lib.hid (oright H2.out (((HK.out.swp.hand).swp).more (Nat.le_succ N) (Nat.le_refl _)) (Nat.le_trans (Nat.add_le_add_right HN.out 1) (by decide)))
  clear HP HK HN HM
  go_wp2_with fail
  refine HR.out.mono ?_
  rintro _ w9 ⟨rfl, h9⟩
  have H9 := Lib.hid h9
  clear h9 HR
  go_wp2
  go_ret
  exact ⟨rfl, H9.out⟩
set_option maxHeartbeats 4000000 in
set_option maxRecDepth 100000 in
theorem fst5_1 (w0 w : World) (b : Bk) (x : Pr) (N M : Nat) (h : PrE w0 b x w) (hk : Pok N M x) (hN : N ≤ 1000) (hM : M ≤ 1000) (d : Nat) (hd : (d : Int) % 9 = 5) (on : Bool) :
    Calls Try.prog 17 #[ptr b.tb, .agg #[.int .u8 (d : Int), .bool true, .bool on]] w fun e w' => e = .returned (.bool true) ∧ PrE w0 b (swp (pHand (swp x))) w' := by
  have HP := Lib.hid (h.on (show Below w.heap.size w (w.alloc (.cells #[.int .u8 (d : Int), .bool true, .bool on] 49 (0, 0))) from nest_below w [_]))
  have HK := Lib.hid hk
  have HN := Lib.hid hN
  have HM := Lib.hid hM
  have hn : (w.alloc (.cells #[.int .u8 (d : Int), .bool true, .bool on] 49 (0, 0))).heap[w.heap.size]? = some (.cells #[.int .u8 (d : Int), .bool true, .bool on] 49 (0, 0)) := nest w [_] 0 _ rfl
  have HLT := Lib.hid h.lt
  clear h hk hN hM
  go_enter Try.func17, Try.ntmps17
  go_upto_region 1 with fail
  generalize w.alloc (.cells #[.int .u8 (d : Int), .bool true, .bool on] 49 (0, 0)) = w1 at HP hn ⊢
  generalize w.heap.size = sb at hn HLT ⊢
  obtain ⟨⟨c0, c1, c2⟩, -⟩ := cells3 hn
  have CS := Lib.hid (ohand1 HP.out HK.out (Nat.le_trans HN.out (by decide)))
  clear hn
  go_wp2_with fail
  refine CS.out.mono ?_
  rintro _ w2 ⟨rfl, h2⟩
  have H2 := Lib.hid h2
  clear h2 CS c0 c1 c2
  have HR := Lib.hid (oright H2.out (((HK.out.swp.hand).swp).more (Nat.le_succ N) (Nat.le_refl _)) (Nat.le_trans (Nat.add_le_add_right HN.out 1) (by decide)))
  clear HP HK HN HM
  go_wp2_with fail
  refine HR.out.mono ?_
  rintro _ w9 ⟨rfl, h9⟩
  have H9 := Lib.hid h9
  clear h9 HR
  go_wp2
  go_ret
  exact ⟨rfl, H9.out⟩
set_option maxHeartbeats 4000000 in
set_option maxRecDepth 100000 in
theorem fst6_1 (w0 w : World) (b : Bk) (x : Pr) (N M : Nat) (h : PrE w0 b x w) (hk : Pok N M x) (hN : N ≤ 1000) (hM : M ≤ 1000) (d : Nat) (hd : (d : Int) % 9 = 6) (on : Bool) :
    Calls Try.prog 17 #[ptr b.tb, .agg #[.int .u8 (d : Int), .bool true, .bool on]] w fun e w' => e = .returned (.bool true) ∧ PrE w0 b (swp (pLose (swp x))) w' := by
  have HP := Lib.hid (h.on (show Below w.heap.size w (w.alloc (.cells #[.int .u8 (d : Int), .bool true, .bool on] 49 (0, 0))) from nest_below w [_]))
  have HK := Lib.hid hk
  have HN := Lib.hid hN
  have HM := Lib.hid hM
  have hn : (w.alloc (.cells #[.int .u8 (d : Int), .bool true, .bool on] 49 (0, 0))).heap[w.heap.size]? = some (.cells #[.int .u8 (d : Int), .bool true, .bool on] 49 (0, 0)) := nest w [_] 0 _ rfl
  have HLT := Lib.hid h.lt
  clear h hk hN hM
  go_enter Try.func17, Try.ntmps17
  go_upto_region 1 with fail
  generalize w.alloc (.cells #[.int .u8 (d : Int), .bool true, .bool on] 49 (0, 0)) = w1 at HP hn ⊢
  generalize w.heap.size = sb at hn HLT ⊢
  obtain ⟨⟨c0, c1, c2⟩, -⟩ := cells3 hn
  have CS := Lib.hid (olose1 HP.out true rfl)
  clear hn
  go_wp2_with fail
  refine CS.out.mono ?_
  rintro _ w2 ⟨⟨o, rfl⟩, h2⟩
  have H2 := Lib.hid h2
  clear h2 CS c0 c1 c2
  have HR := Lib.hid (oright H2.out (((HK.out.swp.lose).swp).more (Nat.le_succ N) (Nat.le_refl _)) (Nat.le_trans (Nat.add_le_add_right HN.out 1) (by decide)))
  clear HP HK HN HM
  go_wp2_with fail
  refine HR.out.mono ?_
  rintro _ w9 ⟨rfl, h9⟩
  have H9 := Lib.hid h9
  clear h9 HR
  go_wp2
  go_ret
  exact ⟨rfl, H9.out⟩
set_option maxHeartbeats 4000000 in
set_option maxRecDepth 100000 in
theorem fst7_1 (w0 w : World) (b : Bk) (x : Pr) (N M : Nat) (h : PrE w0 b x w) (hk : Pok N M x) (hN : N ≤ 1000) (hM : M ≤ 1000) (d : Nat) (hd : (d : Int) % 9 = 7) (on : Bool) :
    Calls Try.prog 17 #[ptr b.tb, .agg #[.int .u8 (d : Int), .bool true, .bool on]] w fun e w' => e = .returned (.bool true) ∧ PrE w0 b (swp (pTick (swp x))) w' := by
  have HP := Lib.hid (h.on (show Below w.heap.size w (w.alloc (.cells #[.int .u8 (d : Int), .bool true, .bool on] 49 (0, 0))) from nest_below w [_]))
  have HK := Lib.hid hk
  have HN := Lib.hid hN
  have HM := Lib.hid hM
  have hn : (w.alloc (.cells #[.int .u8 (d : Int), .bool true, .bool on] 49 (0, 0))).heap[w.heap.size]? = some (.cells #[.int .u8 (d : Int), .bool true, .bool on] 49 (0, 0)) := nest w [_] 0 _ rfl
  have HLT := Lib.hid h.lt
  clear h hk hN hM
  go_enter Try.func17, Try.ntmps17
  go_upto_region 1 with fail
  generalize w.alloc (.cells #[.int .u8 (d : Int), .bool true, .bool on] 49 (0, 0)) = w1 at HP hn ⊢
  generalize w.heap.size = sb at hn HLT ⊢
  obtain ⟨⟨c0, c1, c2⟩, -⟩ := cells3 hn
  obtain ⟨htb, hba, -⟩ := PrE.held HP.out
  have e0 : w1.cell? ⟨b.tb, 0, none⟩ = some (two b.ba) := cell_of htb rfl
  have a0 : w1.cell? ⟨b.ba, 0, none⟩ = some (ptr b.p0) := cell_of hba rfl
  have CS := Lib.hid (otick0 HP.out HK.out.a)
  clear hn htb hba
  go_wp2_with fail
  refine CS.out.mono ?_
  rintro _ w2 ⟨rfl, h2⟩
  have H2 := Lib.hid h2
  clear h2 CS c0 c1 c2 e0 a0
  obtain ⟨htb, hba, -⟩ := PrE.held H2.out
  have e0 : w2.cell? ⟨b.tb, 0, none⟩ = some (two b.ba) := cell_of htb rfl
  have a1 : w2.cell? ⟨b.ba, 1, none⟩ = some (ptr b.p1) := cell_of hba rfl
  have CT := Lib.hid (otick1 H2.out HK.out.b)
  clear htb hba HP
  generalize amv (tick x.A).2 = av
  go_wp2_with fail
  refine CT.out.mono ?_
  rintro _ w3 ⟨rfl, h3⟩
  have H3 : Hid (PrE w0 b (swp (pTick (swp x))) w3) := Lib.hid h3
  clear h3 CT e0 a1 H2
  generalize amv (tick x.B).2 = av2
  have HR := Lib.hid (oright H3.out (((HK.out.swp.tick).swp).more (Nat.le_succ N) (Nat.le_refl _)) (Nat.le_trans (Nat.add_le_add_right HN.out 1) (by decide)))
  clear HK HN HM
  go_wp2_with fail
  refine HR.out.mono ?_
  rintro _ w9 ⟨rfl, h9⟩
  have H9 := Lib.hid h9
  clear h9 HR
  go_wp2
  go_ret
  exact ⟨rfl, H9.out⟩
set_option maxHeartbeats 4000000 in
set_option maxRecDepth 100000 in
theorem fst8_1 (w0 w : World) (b : Bk) (x : Pr) (N M : Nat) (h : PrE w0 b x w) (hk : Pok N M x) (hN : N ≤ 1000) (hM : M ≤ 1000) (d : Nat) (hd : (d : Int) % 9 = 8) (on : Bool) :
    Calls Try.prog 17 #[ptr b.tb, .agg #[.int .u8 (d : Int), .bool true, .bool on]] w fun e w' => e = .returned (.bool true) ∧ PrE w0 b (swp (pBusy on (swp x))) w' := by
  have HP := Lib.hid (h.on (show Below w.heap.size w (w.alloc (.cells #[.int .u8 (d : Int), .bool true, .bool on] 49 (0, 0))) from nest_below w [_]))
  have HK := Lib.hid hk
  have HN := Lib.hid hN
  have HM := Lib.hid hM
  have hn : (w.alloc (.cells #[.int .u8 (d : Int), .bool true, .bool on] 49 (0, 0))).heap[w.heap.size]? = some (.cells #[.int .u8 (d : Int), .bool true, .bool on] 49 (0, 0)) := nest w [_] 0 _ rfl
  have HLT := Lib.hid h.lt
  clear h hk hN hM
  go_enter Try.func17, Try.ntmps17
  go_upto_region 1 with fail
  generalize w.alloc (.cells #[.int .u8 (d : Int), .bool true, .bool on] 49 (0, 0)) = w1 at HP hn ⊢
  generalize w.heap.size = sb at hn HLT ⊢
  obtain ⟨⟨c0, c1, c2⟩, -⟩ := cells3 hn
  go_wp2_with fail
  have H2 := Lib.hid (HP.out.on (w' := w1.drew) ⟨rfl, rfl, rfl, Nat.le_refl _, fun _ _ => rfl⟩)
  have hn2 : w1.drew.heap[sb]? = some (.cells #[.int .u8 (d : Int), .bool true, .bool on] 49 (0, 0)) := hn
  clear hn c0 c1 c2
  refine wp_region_held_drew (S := (fun w' => w'.heap[b.tb]? = some (.cells #[two b.ba, two b.bl, two b.bu, two b.bk, .bool x.bad] 46 (0, 0)) ∧ w'.heap[b.ba]? = some (.cells #[ptr b.p0, ptr b.p1] 28 (0, 0)) ∧ w'.heap[sb]? = some (.cells #[.int .u8 (d : Int), .bool true, .bool on] 49 (0, 0)))) (by kernel_rfl) ⟨H2.out.held.1, H2.out.held.2.1, hn2⟩ (fun hHeld => ?_)
  refine' tk 0 ⟨some 11, .move (.tmp 0), 40, "law.go:172", #[], none⟩ ?_
  simp only [Act.put, z1', z2', z3']
  refine' tk 1 ⟨some 12, .nilCheck (.tmp 11), 0, "law.go:172", #[⟨0, .data⟩], none⟩ ?_
  simp only [Act.put, z1', z2', z3']
  refine' tk 2 ⟨some 13, .fieldAddr 46 (.tmp 12) 0, 0, "law.go:172", #[⟨1, .data⟩], none⟩ ?_
  simp only [Act.put, z1', z2', z3']
  refine' tv 3 ⟨some 14, .load 42 (.tmp 13), 42, "law.go:172", #[⟨2, .data⟩], none⟩ ?hy103 ?hr103
  case hy103 => (intro _ hSw; (try dsimp only at hSw); have hc := cell_of (i := 0) (v := two b.ba) hSw.1 rfl; go_simp <;> with_reducible rfl)
  simp only [Act.put, z1', z2', z3']
  refine' tk 4 ⟨some 15, .move (.tmp 5), 3, "law.go:172", #[], none⟩ ?_
  simp only [Act.put, z1', z2', z3']
  refine' tk 5 ⟨some 16, .indexAddr 42 (.tmp 14) (.tmp 15), 0, "law.go:172", #[⟨3, .data⟩, ⟨4, .data⟩], none⟩ ?_
  simp only [Act.put, z1', z2', z3']
  refine' tv 6 ⟨some 17, .load 28 (.tmp 16), 28, "law.go:172", #[⟨5, .data⟩], none⟩ ?hy106 ?hr106
  case hy106 => (intro _ hSw; (try dsimp only at hSw); have hc := cell_of (i := 1) (v := ptr b.p1) hSw.2.1 rfl; go_simp <;> with_reducible rfl)
  simp only [Act.put, z1', z2', z3']
  refine' tk 7 ⟨some 18, .fieldAddr 49 (.tmp 3) 2, 0, "law.go:172", #[], none⟩ ?_
  simp only [Act.put, z1', z2', z3']
  refine' tv 8 ⟨some 19, .load 4 (.tmp 18), 4, "law.go:172", #[⟨7, .data⟩], none⟩ ?hy108 ?hr108
  case hy108 => (intro _ hSw; (try dsimp only at hSw); have hc := cell_of (i := 2) (v := .bool on) hSw.2.2 rfl; go_simp <;> with_reducible rfl)
  simp only [Act.put, z1', z2', z3']
  clear hHeld
  generalize w1.drew = w2 at H2 hn2 ⊢
  refine ry [9] ?_
  refine AllReadyH.cons rfl (fun K hK => ?_) AllReadyH.nil
  go_simp
  refine (obusy1 H2.out HK.out on).mono ?_
  rintro _ w3 ⟨rfl, h3, hc3⟩
  have H3 := Lib.hid h3
  have hn3 := hc3.stays hn2 (fun e => by have := HLT.out.2; have e2 : sb = b.p1 := e; omega)
  clear h3 hc3 H2 HP hn2
  go_wp2_with fail
  refine hK.out _ _ ⟨H3.out.held.1, H3.out.held.2.1, hn3⟩ (fun hNext => ?_)
  clear hK K hNext
  (try simp only [Act.put, z1', z2', z3'])
  refine wpAnyH_done (by kernel_rfl) ?_ _
  have HR := Lib.hid (oright H3.out ((((HK.out.swp.busy on).swp)).more (Nat.le_succ N) (Nat.le_succ M)) (Nat.le_trans (Nat.add_le_add_right HN.out 1) (by decide)))
  clear HK HN HM
  go_wp2_with fail
  refine HR.out.mono ?_
  rintro _ w9 ⟨rfl, h9⟩
  have H9 := Lib.hid h9
  clear h9 HR
  go_wp2
  go_ret
  exact ⟨rfl, H9.out⟩
set_option maxHeartbeats 4000000 in
set_option maxRecDepth 100000 in
theorem fst0_1_0 (w0 w : World) (b : Bk) (x : Pr) (N M : Nat) (h : PrE w0 b x w) (hk : Pok N M x) (hN : N ≤ 1000) (hM : M ≤ 1000) (d : Nat) (hd : (d : Int) % 9 = 0) (on : Bool) (A2 : Sd) (hp : Aq.push (inf x.u1) x.B = (A2, 0)) :
    Calls Try.prog 17 #[ptr b.tb, .agg #[.int .u8 (d : Int), .bool true, .bool on]] w fun e w' => e = .returned (.bool true) ∧ PrE w0 b (swp (pPush (swp x))) w' := by
  have HP := Lib.hid (h.on (show Below w.heap.size w (w.alloc (.cells #[.int .u8 (d : Int), .bool true, .bool on] 49 (0, 0))) from nest_below w [_]))
  have HK := Lib.hid hk
  have HN := Lib.hid hN
  have HM := Lib.hid hM
  have hn : (w.alloc (.cells #[.int .u8 (d : Int), .bool true, .bool on] 49 (0, 0))).heap[w.heap.size]? = some (.cells #[.int .u8 (d : Int), .bool true, .bool on] 49 (0, 0)) := nest w [_] 0 _ rfl
  have HLT := Lib.hid h.lt
  clear h hk hN hM
  go_enter Try.func17, Try.ntmps17
  go_upto_region 1 with fail
  generalize w.alloc (.cells #[.int .u8 (d : Int), .bool true, .bool on] 49 (0, 0)) = w1 at HP hn ⊢
  generalize w.heap.size = sb at hn HLT ⊢
  obtain ⟨⟨c0, c1, c2⟩, -⟩ := cells3 hn
  go_wp2_with fail
  have HPU := Lib.hid hp
  have HI : Hid (∀ w, Calls Try.prog 36 #[.int .i64 (x.u1 : Int)] w fun e w' => e = .returned (.string (inf x.u1)) ∧ Below w.heap.size w w') := Lib.hid (finf x.u1 (Nat.le_trans HK.out.u1 (Nat.le_trans HN.out (by decide))))
  have H2 := Lib.hid (HP.out.on (w' := w1.drew) ⟨rfl, rfl, rfl, Nat.le_refl _, fun _ _ => rfl⟩)
  clear hn c0 c1 c2 hp HP
  refine wp_region_held_drew (S := (fun w' => w'.heap[b.tb]? = some (.cells #[two b.ba, two b.bl, two b.bu, two b.bk, .bool x.bad] 46 (0, 0)) ∧ w'.heap[b.ba]? = some (.cells #[ptr b.p0, ptr b.p1] 28 (0, 0)) ∧ w'.heap[b.bu]? = some (.cells #[nm x.u0, nm x.u1] 3 (0, 0)))) (by kernel_rfl) H2.out.held (fun hHeld => ?_)
  refine' tk 0 ⟨some 24, .move (.tmp 0), 40, "law.go:159", #[], none⟩ ?_
  simp only [Act.put, z1', z2', z3']
  refine' tk 1 ⟨some 25, .nilCheck (.tmp 24), 0, "law.go:159", #[⟨0, .data⟩], none⟩ ?_
  simp only [Act.put, z1', z2', z3']
  refine' tk 2 ⟨some 26, .fieldAddr 46 (.tmp 25) 0, 0, "law.go:159", #[⟨1, .data⟩], none⟩ ?_
  simp only [Act.put, z1', z2', z3']
  refine' tv 3 ⟨some 27, .load 42 (.tmp 26), 42, "law.go:159", #[⟨2, .data⟩], none⟩ ?hy112 ?hr112
  case hy112 => (intro _ hSw; (try dsimp only at hSw); have hc := cell_of (i := 0) (v := two b.ba) hSw.1 rfl; go_simp <;> with_reducible rfl)
  simp only [Act.put, z1', z2', z3']
  refine' tk 4 ⟨some 28, .move (.tmp 5), 3, "law.go:159", #[], none⟩ ?_
  simp only [Act.put, z1', z2', z3']
  refine' tk 5 ⟨some 29, .indexAddr 42 (.tmp 27) (.tmp 28), 0, "law.go:159", #[⟨3, .data⟩, ⟨4, .data⟩], none⟩ ?_
  simp only [Act.put, z1', z2', z3']
  refine' tv 6 ⟨some 30, .load 28 (.tmp 29), 28, "law.go:159", #[⟨5, .data⟩], none⟩ ?hy115 ?hr115
  case hy115 => (intro _ hSw; (try dsimp only at hSw); have hc := cell_of (i := 1) (v := ptr b.p1) hSw.2.1 rfl; go_simp <;> with_reducible rfl)
  simp only [Act.put, z1', z2', z3']
  refine' tk 7 ⟨some 31, .move (.tmp 0), 40, "law.go:159", #[], none⟩ ?_
  simp only [Act.put, z1', z2', z3']
  refine' tk 8 ⟨some 32, .nilCheck (.tmp 31), 0, "law.go:159", #[⟨7, .data⟩], none⟩ ?_
  simp only [Act.put, z1', z2', z3']
  refine' tk 9 ⟨some 33, .fieldAddr 46 (.tmp 32) 2, 0, "law.go:159", #[⟨8, .data⟩], none⟩ ?_
  simp only [Act.put, z1', z2', z3']
  refine' tv 10 ⟨some 34, .load 44 (.tmp 33), 44, "law.go:159", #[⟨9, .data⟩], none⟩ ?hy119 ?hr119
  case hy119 => (intro _ hSw; (try dsimp only at hSw); have hc := cell_of (i := 2) (v := two b.bu) hSw.1 rfl; go_simp <;> with_reducible rfl)
  simp only [Act.put, z1', z2', z3']
  refine' tk 11 ⟨some 35, .move (.tmp 5), 3, "law.go:159", #[], none⟩ ?_
  simp only [Act.put, z1', z2', z3']
  refine' tk 12 ⟨some 36, .indexAddr 44 (.tmp 34) (.tmp 35), 0, "law.go:159", #[⟨10, .data⟩, ⟨11, .data⟩], none⟩ ?_
  simp only [Act.put, z1', z2', z3']
  refine' tv 13 ⟨some 37, .load 3 (.tmp 36), 3, "law.go:159", #[⟨12, .data⟩], none⟩ ?hy122 ?hr122
  case hy122 => (intro _ hSw; (try dsimp only at hSw); have hc := cell_of (i := 1) (v := nm x.u1) hSw.2.2 rfl; go_simp <;> with_reducible rfl)
  simp only [Act.put, z1', z2', z3']
  clear hHeld
  generalize w1.drew = w2 at H2 ⊢
  refine ry [14] ?_
  refine AllReadyH.cons rfl (fun K hK => ?_) AllReadyH.nil
  go_simp
  refine (HI.out _).mono ?_
  rintro _ w3 ⟨rfl, hb⟩
  have H3 := Lib.hid (H2.out.on hb)
  clear hb H2 HI
  go_wp2_with fail
  refine hK.out _ _ H3.out.held (fun hNext => ?_)
  clear hK K
  have hHeld := hNext
  clear hNext
  (try simp only [Act.put, z1', z2', z3'])
  clear hHeld
  refine ry [15] ?_
  refine AllReadyH.cons rfl (fun K hK => ?_) AllReadyH.nil
  go_simp
  refine (opush1 H3.out HK.out.b _ A2 0 HPU.out).mono ?_
  rintro _ w4 ⟨rfl, h4⟩
  have H4 : Hid (PrE w0 b { x with B := A2 } w4) := Lib.hid h4
  clear h4 H3
  go_wp2_with fail
  refine hK.out _ _ H4.out.held (fun hNext => ?_)
  clear hK K
  have hHeld := hNext
  clear hNext
  (try simp only [Act.put, z1', z2', z3'])
  refine' tk 16 ⟨some 40, .binOp .eql 51 (.tmp 39) (.const (.int .i64 0)) 51, 4, "law.go:159", #[⟨15, .data⟩], none⟩ ?_
  simp only [Act.put, z1', z2', z3']
  refine wpAnyH_done (by kernel_rfl) ?_ _
  clear hHeld
  obtain ⟨q0, q1, v0, v1, tag, hp⟩ := H4.out
  have c2 : w4.cell? ⟨b.tb, 2, none⟩ = some (two b.bu) := cell_of hp.blk rfl
  have cu : w4.cell? ⟨b.bu, 1, none⟩ = some (nm x.u1) := cell_of hp.u rfl
  have fu : ∀ i, w4.frozen? ⟨b.bu, i, none⟩ = false := fun _ => free_of hp.u
  have hub : x.u1 ≤ 1000 := Nat.le_trans HK.out.u1 HN.out
  have vk : IntKind.i64.wrap ((x.u1 : Int) + 1) = ((x.u1 + 1 : Nat) : Int) := by rw [IntKind.wrap_i64]; omega
  have H5 : Hid (PrE w0 b (swp (pPush (swp x))) (w4.setCell ⟨b.bu, 1, none⟩ (.int .i64 ((x.u1 + 1 : Nat) : Int)))) := by
    have hq : (swp (pPush (swp x))) = { x with B := A2, u1 := x.u1 + 1 } := by
      show ({ x with B := (Aq.push (inf x.u1) x.B).1, u1 := if (Aq.push (inf x.u1) x.B).2 = 0 then x.u1 + 1 else x.u1 } : Pr) = _
      rw [HPU.out]
      rfl
    rw [hq]
    exact Lib.hid ⟨_, _, _, _, _, hp.put_u x.u0 (x.u1 + 1) (chg_cell w4 b.bu 1 _) (block_set (i := 1) hp.u _)⟩
  have HY : Hid (Pok (N + 1) M (swp (pPush (swp x)))) := Lib.hid ((HK.out.swp.push).swp)
  clear hp H4 HPU
  clear q0 q1 v0 v1 tag
  obtain ⟨kn, hkn⟩ : ∃ kn, x.u1 + 1 = kn := ⟨_, rfl⟩
  rw [hkn] at vk H5
  clear hub hkn
  go_wp2_with fail
  generalize w4.setCell ⟨b.bu, 1, none⟩ (.int .i64 (kn : Int)) = w5 at H5 ⊢
  have HR := Lib.hid (oright H5.out HY.out (Nat.le_trans (Nat.add_le_add_right HN.out 1) (by decide)))
  clear HY HK c2 cu fu vk HN HM
  go_wp2_with fail
  refine HR.out.mono ?_
  rintro _ w9 ⟨rfl, h9⟩
  have H9 := Lib.hid h9
  clear h9 HR
  go_wp2
  go_ret
  exact ⟨rfl, H9.out⟩
set_option maxHeartbeats 4000000 in
set_option maxRecDepth 100000 in
theorem fst0_1_3 (w0 w : World) (b : Bk) (x : Pr) (N M : Nat) (h : PrE w0 b x w) (hk : Pok N M x) (hN : N ≤ 1000) (hM : M ≤ 1000) (d : Nat) (hd : (d : Int) % 9 = 0) (on : Bool) (A2 : Sd) (hp : Aq.push (inf x.u1) x.B = (A2, 3)) :
    Calls Try.prog 17 #[ptr b.tb, .agg #[.int .u8 (d : Int), .bool true, .bool on]] w fun e w' => e = .returned (.bool true) ∧ PrE w0 b (swp (pPush (swp x))) w' := by
  have HP := Lib.hid (h.on (show Below w.heap.size w (w.alloc (.cells #[.int .u8 (d : Int), .bool true, .bool on] 49 (0, 0))) from nest_below w [_]))
  have HK := Lib.hid hk
  have HN := Lib.hid hN
  have HM := Lib.hid hM
  have hn : (w.alloc (.cells #[.int .u8 (d : Int), .bool true, .bool on] 49 (0, 0))).heap[w.heap.size]? = some (.cells #[.int .u8 (d : Int), .bool true, .bool on] 49 (0, 0)) := nest w [_] 0 _ rfl
  have HLT := Lib.hid h.lt
  clear h hk hN hM
  go_enter Try.func17, Try.ntmps17
  go_upto_region 1 with fail
  generalize w.alloc (.cells #[.int .u8 (d : Int), .bool true, .bool on] 49 (0, 0)) = w1 at HP hn ⊢
  generalize w.heap.size = sb at hn HLT ⊢
  obtain ⟨⟨c0, c1, c2⟩, -⟩ := cells3 hn
  go_wp2_with fail
  have HPU := Lib.hid hp
  have HI : Hid (∀ w, Calls Try.prog 36 #[.int .i64 (x.u1 : Int)] w fun e w' => e = .returned (.string (inf x.u1)) ∧ Below w.heap.size w w') := Lib.hid (finf x.u1 (Nat.le_trans HK.out.u1 (Nat.le_trans HN.out (by decide))))
  have H2 := Lib.hid (HP.out.on (w' := w1.drew) ⟨rfl, rfl, rfl, Nat.le_refl _, fun _ _ => rfl⟩)
  clear hn c0 c1 c2 hp HP
  refine wp_region_held_drew (S := (fun w' => w'.heap[b.tb]? = some (.cells #[two b.ba, two b.bl, two b.bu, two b.bk, .bool x.bad] 46 (0, 0)) ∧ w'.heap[b.ba]? = some (.cells #[ptr b.p0, ptr b.p1] 28 (0, 0)) ∧ w'.heap[b.bu]? = some (.cells #[nm x.u0, nm x.u1] 3 (0, 0)))) (by kernel_rfl) H2.out.held (fun hHeld => ?_)
  refine' tk 0 ⟨some 24, .move (.tmp 0), 40, "law.go:159", #[], none⟩ ?_
  simp only [Act.put, z1', z2', z3']
  refine' tk 1 ⟨some 25, .nilCheck (.tmp 24), 0, "law.go:159", #[⟨0, .data⟩], none⟩ ?_
  simp only [Act.put, z1', z2', z3']
  refine' tk 2 ⟨some 26, .fieldAddr 46 (.tmp 25) 0, 0, "law.go:159", #[⟨1, .data⟩], none⟩ ?_
  simp only [Act.put, z1', z2', z3']
  refine' tv 3 ⟨some 27, .load 42 (.tmp 26), 42, "law.go:159", #[⟨2, .data⟩], none⟩ ?hy127 ?hr127
  case hy127 => (intro _ hSw; (try dsimp only at hSw); have hc := cell_of (i := 0) (v := two b.ba) hSw.1 rfl; go_simp <;> with_reducible rfl)
  simp only [Act.put, z1', z2', z3']
  refine' tk 4 ⟨some 28, .move (.tmp 5), 3, "law.go:159", #[], none⟩ ?_
  simp only [Act.put, z1', z2', z3']
  refine' tk 5 ⟨some 29, .indexAddr 42 (.tmp 27) (.tmp 28), 0, "law.go:159", #[⟨3, .data⟩, ⟨4, .data⟩], none⟩ ?_
  simp only [Act.put, z1', z2', z3']
  refine' tv 6 ⟨some 30, .load 28 (.tmp 29), 28, "law.go:159", #[⟨5, .data⟩], none⟩ ?hy130 ?hr130
  case hy130 => (intro _ hSw; (try dsimp only at hSw); have hc := cell_of (i := 1) (v := ptr b.p1) hSw.2.1 rfl; go_simp <;> with_reducible rfl)
  simp only [Act.put, z1', z2', z3']
  refine' tk 7 ⟨some 31, .move (.tmp 0), 40, "law.go:159", #[], none⟩ ?_
  simp only [Act.put, z1', z2', z3']
  refine' tk 8 ⟨some 32, .nilCheck (.tmp 31), 0, "law.go:159", #[⟨7, .data⟩], none⟩ ?_
  simp only [Act.put, z1', z2', z3']
  refine' tk 9 ⟨some 33, .fieldAddr 46 (.tmp 32) 2, 0, "law.go:159", #[⟨8, .data⟩], none⟩ ?_
  simp only [Act.put, z1', z2', z3']
  refine' tv 10 ⟨some 34, .load 44 (.tmp 33), 44, "law.go:159", #[⟨9, .data⟩], none⟩ ?hy134 ?hr134
  case hy134 => (intro _ hSw; (try dsimp only at hSw); have hc := cell_of (i := 2) (v := two b.bu) hSw.1 rfl; go_simp <;> with_reducible rfl)
  simp only [Act.put, z1', z2', z3']
  refine' tk 11 ⟨some 35, .move (.tmp 5), 3, "law.go:159", #[], none⟩ ?_
  simp only [Act.put, z1', z2', z3']
  refine' tk 12 ⟨some 36, .indexAddr 44 (.tmp 34) (.tmp 35), 0, "law.go:159", #[⟨10, .data⟩, ⟨11, .data⟩], none⟩ ?_
  simp only [Act.put, z1', z2', z3']
  refine' tv 13 ⟨some 37, .load 3 (.tmp 36), 3, "law.go:159", #[⟨12, .data⟩], none⟩ ?hy137 ?hr137
  case hy137 => (intro _ hSw; (try dsimp only at hSw); have hc := cell_of (i := 1) (v := nm x.u1) hSw.2.2 rfl; go_simp <;> with_reducible rfl)
  simp only [Act.put, z1', z2', z3']
  clear hHeld
  generalize w1.drew = w2 at H2 ⊢
  refine ry [14] ?_
  refine AllReadyH.cons rfl (fun K hK => ?_) AllReadyH.nil
  go_simp
  refine (HI.out _).mono ?_
  rintro _ w3 ⟨rfl, hb⟩
  have H3 := Lib.hid (H2.out.on hb)
  clear hb H2 HI
  go_wp2_with fail
  refine hK.out _ _ H3.out.held (fun hNext => ?_)
  clear hK K
  have hHeld := hNext
  clear hNext
  (try simp only [Act.put, z1', z2', z3'])
  clear hHeld
  refine ry [15] ?_
  refine AllReadyH.cons rfl (fun K hK => ?_) AllReadyH.nil
  go_simp
  refine (opush1 H3.out HK.out.b _ A2 3 HPU.out).mono ?_
  rintro _ w4 ⟨rfl, h4⟩
  have H4 : Hid (PrE w0 b { x with B := A2 } w4) := Lib.hid h4
  clear h4 H3
  go_wp2_with fail
  refine hK.out _ _ H4.out.held (fun hNext => ?_)
  clear hK K
  have hHeld := hNext
  clear hNext
  (try simp only [Act.put, z1', z2', z3'])
  refine' tk 16 ⟨some 40, .binOp .eql 51 (.tmp 39) (.const (.int .i64 0)) 51, 4, "law.go:159", #[⟨15, .data⟩], none⟩ ?_
  simp only [Act.put, z1', z2', z3']
  refine wpAnyH_done (by kernel_rfl) ?_ _
  clear hHeld
  have H5 : Hid (PrE w0 b (swp (pPush (swp x))) w4) := by
    have hq : (swp (pPush (swp x))) = { x with B := A2 } := by
      show ({ x with B := (Aq.push (inf x.u1) x.B).1, u1 := if (Aq.push (inf x.u1) x.B).2 = 0 then x.u1 + 1 else x.u1 } : Pr) = _
      rw [HPU.out]
      rfl
    rw [hq]
    exact H4
  clear H4
  have HR := Lib.hid (oright H5.out ((HK.out.swp.push).swp) (Nat.le_trans (Nat.add_le_add_right HN.out 1) (by decide)))
  clear HK HN HM
  go_wp2_with fail
  refine HR.out.mono ?_
  rintro _ w9 ⟨rfl, h9⟩
  have H9 := Lib.hid h9
  clear h9 HR
  go_wp2
  go_ret
  exact ⟨rfl, H9.out⟩
set_option maxHeartbeats 4000000 in
set_option maxRecDepth 100000 in
theorem fst0_1_4 (w0 w : World) (b : Bk) (x : Pr) (N M : Nat) (h : PrE w0 b x w) (hk : Pok N M x) (hN : N ≤ 1000) (hM : M ≤ 1000) (d : Nat) (hd : (d : Int) % 9 = 0) (on : Bool) (A2 : Sd) (hp : Aq.push (inf x.u1) x.B = (A2, 4)) :
    Calls Try.prog 17 #[ptr b.tb, .agg #[.int .u8 (d : Int), .bool true, .bool on]] w fun e w' => e = .returned (.bool true) ∧ PrE w0 b (swp (pPush (swp x))) w' := by
  have HP := Lib.hid (h.on (show Below w.heap.size w (w.alloc (.cells #[.int .u8 (d : Int), .bool true, .bool on] 49 (0, 0))) from nest_below w [_]))
  have HK := Lib.hid hk
  have HN := Lib.hid hN
  have HM := Lib.hid hM
  have hn : (w.alloc (.cells #[.int .u8 (d : Int), .bool true, .bool on] 49 (0, 0))).heap[w.heap.size]? = some (.cells #[.int .u8 (d : Int), .bool true, .bool on] 49 (0, 0)) := nest w [_] 0 _ rfl
  have HLT := Lib.hid h.lt
  clear h hk hN hM
  go_enter Try.func17, Try.ntmps17
  go_upto_region 1 with fail
  generalize w.alloc (.cells #[.int .u8 (d : Int), .bool true, .bool on] 49 (0, 0)) = w1 at HP hn ⊢
  generalize w.heap.size = sb at hn HLT ⊢
  obtain ⟨⟨c0, c1, c2⟩, -⟩ := cells3 hn
  go_wp2_with fail
  have HPU := Lib.hid hp
  have HI : Hid (∀ w, Calls Try.prog 36 #[.int .i64 (x.u1 : Int)] w fun e w' => e = .returned (.string (inf x.u1)) ∧ Below w.heap.size w w') := Lib.hid (finf x.u1 (Nat.le_trans HK.out.u1 (Nat.le_trans HN.out (by decide))))
  have H2 := Lib.hid (HP.out.on (w' := w1.drew) ⟨rfl, rfl, rfl, Nat.le_refl _, fun _ _ => rfl⟩)
  clear hn c0 c1 c2 hp HP
  refine wp_region_held_drew (S := (fun w' => w'.heap[b.tb]? = some (.cells #[two b.ba, two b.bl, two b.bu, two b.bk, .bool x.bad] 46 (0, 0)) ∧ w'.heap[b.ba]? = some (.cells #[ptr b.p0, ptr b.p1] 28 (0, 0)) ∧ w'.heap[b.bu]? = some (.cells #[nm x.u0, nm x.u1] 3 (0, 0)))) (by kernel_rfl) H2.out.held (fun hHeld => ?_)
  refine' tk 0 ⟨some 24, .move (.tmp 0), 40, "law.go:159", #[], none⟩ ?_
  simp only [Act.put, z1', z2', z3']
  refine' tk 1 ⟨some 25, .nilCheck (.tmp 24), 0, "law.go:159", #[⟨0, .data⟩], none⟩ ?_
  simp only [Act.put, z1', z2', z3']
  refine' tk 2 ⟨some 26, .fieldAddr 46 (.tmp 25) 0, 0, "law.go:159", #[⟨1, .data⟩], none⟩ ?_
  simp only [Act.put, z1', z2', z3']
  refine' tv 3 ⟨some 27, .load 42 (.tmp 26), 42, "law.go:159", #[⟨2, .data⟩], none⟩ ?hy142 ?hr142
  case hy142 => (intro _ hSw; (try dsimp only at hSw); have hc := cell_of (i := 0) (v := two b.ba) hSw.1 rfl; go_simp <;> with_reducible rfl)
  simp only [Act.put, z1', z2', z3']
  refine' tk 4 ⟨some 28, .move (.tmp 5), 3, "law.go:159", #[], none⟩ ?_
  simp only [Act.put, z1', z2', z3']
  refine' tk 5 ⟨some 29, .indexAddr 42 (.tmp 27) (.tmp 28), 0, "law.go:159", #[⟨3, .data⟩, ⟨4, .data⟩], none⟩ ?_
  simp only [Act.put, z1', z2', z3']
  refine' tv 6 ⟨some 30, .load 28 (.tmp 29), 28, "law.go:159", #[⟨5, .data⟩], none⟩ ?hy145 ?hr145
  case hy145 => (intro _ hSw; (try dsimp only at hSw); have hc := cell_of (i := 1) (v := ptr b.p1) hSw.2.1 rfl; go_simp <;> with_reducible rfl)
  simp only [Act.put, z1', z2', z3']
  refine' tk 7 ⟨some 31, .move (.tmp 0), 40, "law.go:159", #[], none⟩ ?_
  simp only [Act.put, z1', z2', z3']
  refine' tk 8 ⟨some 32, .nilCheck (.tmp 31), 0, "law.go:159", #[⟨7, .data⟩], none⟩ ?_
  simp only [Act.put, z1', z2', z3']
  refine' tk 9 ⟨some 33, .fieldAddr 46 (.tmp 32) 2, 0, "law.go:159", #[⟨8, .data⟩], none⟩ ?_
  simp only [Act.put, z1', z2', z3']
  refine' tv 10 ⟨some 34, .load 44 (.tmp 33), 44, "law.go:159", #[⟨9, .data⟩], none⟩ ?hy149 ?hr149
  case hy149 => (intro _ hSw; (try dsimp only at hSw); have hc := cell_of (i := 2) (v := two b.bu) hSw.1 rfl; go_simp <;> with_reducible rfl)
  simp only [Act.put, z1', z2', z3']
  refine' tk 11 ⟨some 35, .move (.tmp 5), 3, "law.go:159", #[], none⟩ ?_
  simp only [Act.put, z1', z2', z3']
  refine' tk 12 ⟨some 36, .indexAddr 44 (.tmp 34) (.tmp 35), 0, "law.go:159", #[⟨10, .data⟩, ⟨11, .data⟩], none⟩ ?_
  simp only [Act.put, z1', z2', z3']
  refine' tv 13 ⟨some 37, .load 3 (.tmp 36), 3, "law.go:159", #[⟨12, .data⟩], none⟩ ?hy152 ?hr152
  case hy152 => (intro _ hSw; (try dsimp only at hSw); have hc := cell_of (i := 1) (v := nm x.u1) hSw.2.2 rfl; go_simp <;> with_reducible rfl)
  simp only [Act.put, z1', z2', z3']
  clear hHeld
  generalize w1.drew = w2 at H2 ⊢
  refine ry [14] ?_
  refine AllReadyH.cons rfl (fun K hK => ?_) AllReadyH.nil
  go_simp
  refine (HI.out _).mono ?_
  rintro _ w3 ⟨rfl, hb⟩
  have H3 := Lib.hid (H2.out.on hb)
  clear hb H2 HI
  go_wp2_with fail
  refine hK.out _ _ H3.out.held (fun hNext => ?_)
  clear hK K
  have hHeld := hNext
  clear hNext
  (try simp only [Act.put, z1', z2', z3'])
  clear hHeld
  refine ry [15] ?_
  refine AllReadyH.cons rfl (fun K hK => ?_) AllReadyH.nil
  go_simp
  refine (opush1 H3.out HK.out.b _ A2 4 HPU.out).mono ?_
  rintro _ w4 ⟨rfl, h4⟩
  have H4 : Hid (PrE w0 b { x with B := A2 } w4) := Lib.hid h4
  clear h4 H3
  go_wp2_with fail
  refine hK.out _ _ H4.out.held (fun hNext => ?_)
  clear hK K
  have hHeld := hNext
  clear hNext
  (try simp only [Act.put, z1', z2', z3'])
  refine' tk 16 ⟨some 40, .binOp .eql 51 (.tmp 39) (.const (.int .i64 0)) 51, 4, "law.go:159", #[⟨15, .data⟩], none⟩ ?_
  simp only [Act.put, z1', z2', z3']
  refine wpAnyH_done (by kernel_rfl) ?_ _
  clear hHeld
  have H5 : Hid (PrE w0 b (swp (pPush (swp x))) w4) := by
    have hq : (swp (pPush (swp x))) = { x with B := A2 } := by
      show ({ x with B := (Aq.push (inf x.u1) x.B).1, u1 := if (Aq.push (inf x.u1) x.B).2 = 0 then x.u1 + 1 else x.u1 } : Pr) = _
      rw [HPU.out]
      rfl
    rw [hq]
    exact H4
  clear H4
  have HR := Lib.hid (oright H5.out ((HK.out.swp.push).swp) (Nat.le_trans (Nat.add_le_add_right HN.out 1) (by decide)))
  clear HK HN HM
  go_wp2_with fail
  refine HR.out.mono ?_
  rintro _ w9 ⟨rfl, h9⟩
  have H9 := Lib.hid h9
  clear h9 HR
  go_wp2
  go_ret
  exact ⟨rfl, H9.out⟩
set_option maxHeartbeats 4000000 in
set_option maxRecDepth 100000 in
theorem fst1_1_0 (w0 w : World) (b : Bk) (x : Pr) (N M : Nat) (h : PrE w0 b x w) (hk : Pok N M x) (hN : N ≤ 1000) (hM : M ≤ 1000) (d : Nat) (hd : (d : Int) % 9 = 1) (on : Bool) (A2 : Sd) (hp : Aq.push (inf x.u1) x.B = (A2, 0)) :
    Calls Try.prog 17 #[ptr b.tb, .agg #[.int .u8 (d : Int), .bool true, .bool on]] w fun e w' => e = .returned (.bool true) ∧ PrE w0 b (swp (pPush (swp x))) w' := by
  have HP := Lib.hid (h.on (show Below w.heap.size w (w.alloc (.cells #[.int .u8 (d : Int), .bool true, .bool on] 49 (0, 0))) from nest_below w [_]))
  have HK := Lib.hid hk
  have HN := Lib.hid hN
  have HM := Lib.hid hM
  have hn : (w.alloc (.cells #[.int .u8 (d : Int), .bool true, .bool on] 49 (0, 0))).heap[w.heap.size]? = some (.cells #[.int .u8 (d : Int), .bool true, .bool on] 49 (0, 0)) := nest w [_] 0 _ rfl
  have HLT := Lib.hid h.lt
  clear h hk hN hM
  go_enter Try.func17, Try.ntmps17
  go_upto_region 1 with fail
  generalize w.alloc (.cells #[.int .u8 (d : Int), .bool true, .bool on] 49 (0, 0)) = w1 at HP hn ⊢
  generalize w.heap.size = sb at hn HLT ⊢
  obtain ⟨⟨c0, c1, c2⟩, -⟩ := cells3 hn
  go_wp2_with fail
  have HPU := Lib.hid hp
  have HI : Hid (∀ w, Calls Try.prog 36 #[.int .i64 (x.u1 : Int)] w fun e w' => e = .returned (.string (inf x.u1)) ∧ Below w.heap.size w w') := Lib.hid (finf x.u1 (Nat.le_trans HK.out.u1 (Nat.le_trans HN.out (by decide))))
  have H2 := Lib.hid (HP.out.on (w' := w1.drew) ⟨rfl, rfl, rfl, Nat.le_refl _, fun _ _ => rfl⟩)
  clear hn c0 c1 c2 hp HP
  refine wp_region_held_drew (S := (fun w' => w'.heap[b.tb]? = some (.cells #[two b.ba, two b.bl, two b.bu, two b.bk, .bool x.bad] 46 (0, 0)) ∧ w'.heap[b.ba]? = some (.cells #[ptr b.p0, ptr b.p1] 28 (0, 0)) ∧ w'.heap[b.bu]? = some (.cells #[nm x.u0, nm x.u1] 3 (0, 0)))) (by kernel_rfl) H2.out.held (fun hHeld => ?_)
  refine' tk 0 ⟨some 24, .move (.tmp 0), 40, "law.go:159", #[], none⟩ ?_
  simp only [Act.put, z1', z2', z3']
  refine' tk 1 ⟨some 25, .nilCheck (.tmp 24), 0, "law.go:159", #[⟨0, .data⟩], none⟩ ?_
  simp only [Act.put, z1', z2', z3']
  refine' tk 2 ⟨some 26, .fieldAddr 46 (.tmp 25) 0, 0, "law.go:159", #[⟨1, .data⟩], none⟩ ?_
  simp only [Act.put, z1', z2', z3']
  refine' tv 3 ⟨some 27, .load 42 (.tmp 26), 42, "law.go:159", #[⟨2, .data⟩], none⟩ ?hy157 ?hr157
  case hy157 => (intro _ hSw; (try dsimp only at hSw); have hc := cell_of (i := 0) (v := two b.ba) hSw.1 rfl; go_simp <;> with_reducible rfl)
  simp only [Act.put, z1', z2', z3']
  refine' tk 4 ⟨some 28, .move (.tmp 5), 3, "law.go:159", #[], none⟩ ?_
  simp only [Act.put, z1', z2', z3']
  refine' tk 5 ⟨some 29, .indexAddr 42 (.tmp 27) (.tmp 28), 0, "law.go:159", #[⟨3, .data⟩, ⟨4, .data⟩], none⟩ ?_
  simp only [Act.put, z1', z2', z3']
  refine' tv 6 ⟨some 30, .load 28 (.tmp 29), 28, "law.go:159", #[⟨5, .data⟩], none⟩ ?hy160 ?hr160
  case hy160 => (intro _ hSw; (try dsimp only at hSw); have hc := cell_of (i := 1) (v := ptr b.p1) hSw.2.1 rfl; go_simp <;> with_reducible rfl)
  simp only [Act.put, z1', z2', z3']
  refine' tk 7 ⟨some 31, .move (.tmp 0), 40, "law.go:159", #[], none⟩ ?_
  simp only [Act.put, z1', z2', z3']
  refine' tk 8 ⟨some 32, .nilCheck (.tmp 31), 0, "law.go:159", #[⟨7, .data⟩], none⟩ ?_
  simp only [Act.put, z1', z2', z3']
  refine' tk 9 ⟨some 33, .fieldAddr 46 (.tmp 32) 2, 0, "law.go:159", #[⟨8, .data⟩], none⟩ ?_
  simp only [Act.put, z1', z2', z3']
  refine' tv 10 ⟨some 34, .load 44 (.tmp 33), 44, "law.go:159", #[⟨9, .data⟩], none⟩ ?hy164 ?hr164
  case hy164 => (intro _ hSw; (try dsimp only at hSw); have hc := cell_of (i := 2) (v := two b.bu) hSw.1 rfl; go_simp <;> with_reducible rfl)
  simp only [Act.put, z1', z2', z3']
  refine' tk 11 ⟨some 35, .move (.tmp 5), 3, "law.go:159", #[], none⟩ ?_
  simp only [Act.put, z1', z2', z3']
  refine' tk 12 ⟨some 36, .indexAddr 44 (.tmp 34) (.tmp 35), 0, "law.go:159", #[⟨10, .data⟩, ⟨11, .data⟩], none⟩ ?_
  simp only [Act.put, z1', z2', z3']
  refine' tv 13 ⟨some 37, .load 3 (.tmp 36), 3, "law.go:159", #[⟨12, .data⟩], none⟩ ?hy167 ?hr167
  case hy167 => (intro _ hSw; (try dsimp only at hSw); have hc := cell_of (i := 1) (v := nm x.u1) hSw.2.2 rfl; go_simp <;> with_reducible rfl)
  simp only [Act.put, z1', z2', z3']
  clear hHeld
  generalize w1.drew = w2 at H2 ⊢
  refine ry [14] ?_
  refine AllReadyH.cons rfl (fun K hK => ?_) AllReadyH.nil
  go_simp
  refine (HI.out _).mono ?_
  rintro _ w3 ⟨rfl, hb⟩
  have H3 := Lib.hid (H2.out.on hb)
  clear hb H2 HI
  go_wp2_with fail
  refine hK.out _ _ H3.out.held (fun hNext => ?_)
  clear hK K
  have hHeld := hNext
  clear hNext
  (try simp only [Act.put, z1', z2', z3'])
  clear hHeld
  refine ry [15] ?_
  refine AllReadyH.cons rfl (fun K hK => ?_) AllReadyH.nil
  go_simp
  refine (opush1 H3.out HK.out.b _ A2 0 HPU.out).mono ?_
  rintro _ w4 ⟨rfl, h4⟩
  have H4 : Hid (PrE w0 b { x with B := A2 } w4) := Lib.hid h4
  clear h4 H3
  go_wp2_with fail
  refine hK.out _ _ H4.out.held (fun hNext => ?_)
  clear hK K
  have hHeld := hNext
  clear hNext
  (try simp only [Act.put, z1', z2', z3'])
  refine' tk 16 ⟨some 40, .binOp .eql 51 (.tmp 39) (.const (.int .i64 0)) 51, 4, "law.go:159", #[⟨15, .data⟩], none⟩ ?_
  simp only [Act.put, z1', z2', z3']
  refine wpAnyH_done (by kernel_rfl) ?_ _
  clear hHeld
  obtain ⟨q0, q1, v0, v1, tag, hp⟩ := H4.out
  have c2 : w4.cell? ⟨b.tb, 2, none⟩ = some (two b.bu) := cell_of hp.blk rfl
  have cu : w4.cell? ⟨b.bu, 1, none⟩ = some (nm x.u1) := cell_of hp.u rfl
  have fu : ∀ i, w4.frozen? ⟨b.bu, i, none⟩ = false := fun _ => free_of hp.u
  have hub : x.u1 ≤ 1000 := Nat.le_trans HK.out.u1 HN.out
  have vk : IntKind.i64.wrap ((x.u1 : Int) + 1) = ((x.u1 + 1 : Nat) : Int) := by rw [IntKind.wrap_i64]; omega
  have H5 : Hid (PrE w0 b (swp (pPush (swp x))) (w4.setCell ⟨b.bu, 1, none⟩ (.int .i64 ((x.u1 + 1 : Nat) : Int)))) := by
    have hq : (swp (pPush (swp x))) = { x with B := A2, u1 := x.u1 + 1 } := by
      show ({ x with B := (Aq.push (inf x.u1) x.B).1, u1 := if (Aq.push (inf x.u1) x.B).2 = 0 then x.u1 + 1 else x.u1 } : Pr) = _
      rw [HPU.out]
      rfl
    rw [hq]
    exact Lib.hid ⟨_, _, _, _, _, hp.put_u x.u0 (x.u1 + 1) (chg_cell w4 b.bu 1 _) (block_set (i := 1) hp.u _)⟩
  have HY : Hid (Pok (N + 1) M (swp (pPush (swp x)))) := Lib.hid ((HK.out.swp.push).swp)
  clear hp H4 HPU
  clear q0 q1 v0 v1 tag
  obtain ⟨kn, hkn⟩ : ∃ kn, x.u1 + 1 = kn := ⟨_, rfl⟩
  rw [hkn] at vk H5
  clear hub hkn
  go_wp2_with fail
  generalize w4.setCell ⟨b.bu, 1, none⟩ (.int .i64 (kn : Int)) = w5 at H5 ⊢
  have HR := Lib.hid (oright H5.out HY.out (Nat.le_trans (Nat.add_le_add_right HN.out 1) (by decide)))
  clear HY HK c2 cu fu vk HN HM
  go_wp2_with fail
  refine HR.out.mono ?_
  rintro _ w9 ⟨rfl, h9⟩
  have H9 := Lib.hid h9
  clear h9 HR
  go_wp2
  go_ret
  exact ⟨rfl, H9.out⟩
set_option maxHeartbeats 4000000 in
set_option maxRecDepth 100000 in
theorem fst1_1_3 (w0 w : World) (b : Bk) (x : Pr) (N M : Nat) (h : PrE w0 b x w) (hk : Pok N M x) (hN : N ≤ 1000) (hM : M ≤ 1000) (d : Nat) (hd : (d : Int) % 9 = 1) (on : Bool) (A2 : Sd) (hp : Aq.push (inf x.u1) x.B = (A2, 3)) :
    Calls Try.prog 17 #[ptr b.tb, .agg #[.int .u8 (d : Int), .bool true, .bool on]] w fun e w' => e = .returned (.bool true) ∧ PrE w0 b (swp (pPush (swp x))) w' := by
  have HP := Lib.hid (h.on (show Below w.heap.size w (w.alloc (.cells #[.int .u8 (d : Int), .bool true, .bool on] 49 (0, 0))) from nest_below w [_]))
  have HK := Lib.hid hk
  have HN := Lib.hid hN
  have HM := Lib.hid hM
  have hn : (w.alloc (.cells #[.int .u8 (d : Int), .bool true, .bool on] 49 (0, 0))).heap[w.heap.size]? = some (.cells #[.int .u8 (d : Int), .bool true, .bool on] 49 (0, 0)) := nest w [_] 0 _ rfl
  have HLT := Lib.hid h.lt
  clear h hk hN hM
  go_enter Try.func17, Try.ntmps17
  go_upto_region 1 with fail
  generalize w.alloc (.cells #[.int .u8 (d : Int), .bool true, .bool on] 49 (0, 0)) = w1 at HP hn ⊢
  generalize w.heap.size = sb at hn HLT ⊢
  obtain ⟨⟨c0, c1, c2⟩, -⟩ := cells3 hn
  go_wp2_with fail
  have HPU := Lib.hid hp
  have HI : Hid (∀ w, Calls Try.prog 36 #[.int .i64 (x.u1 : Int)] w fun e w' => e = .returned (.string (inf x.u1)) ∧ Below w.heap.size w w') := Lib.hid (finf x.u1 (Nat.le_trans HK.out.u1 (Nat.le_trans HN.out (by decide))))
  have H2 := Lib.hid (HP.out.on (w' := w1.drew) ⟨rfl, rfl, rfl, Nat.le_refl _, fun _ _ => rfl⟩)
  clear hn c0 c1 c2 hp HP
  refine wp_region_held_drew (S := (fun w' => w'.heap[b.tb]? = some (.cells #[two b.ba, two b.bl, two b.bu, two b.bk, .bool x.bad] 46 (0, 0)) ∧ w'.heap[b.ba]? = some (.cells #[ptr b.p0, ptr b.p1] 28 (0, 0)) ∧ w'.heap[b.bu]? = some (.cells #[nm x.u0, nm x.u1] 3 (0, 0)))) (by kernel_rfl) H2.out.held (fun hHeld => ?_)
  refine' tk 0 ⟨some 24, .move (.tmp 0), 40, "law.go:159", #[], none⟩ ?_
  simp only [Act.put, z1', z2', z3']
  refine' tk 1 ⟨some 25, .nilCheck (.tmp 24), 0, "law.go:159", #[⟨0, .data⟩], none⟩ ?_
  simp only [Act.put, z1', z2', z3']
  refine' tk 2 ⟨some 26, .fieldAddr 46 (.tmp 25) 0, 0, "law.go:159", #[⟨1, .data⟩], none⟩ ?_
  simp only [Act.put, z1', z2', z3']
  refine' tv 3 ⟨some 27, .load 42 (.tmp 26), 42, "law.go:159", #[⟨2, .data⟩], none⟩ ?hy172 ?hr172
  case hy172 => (intro _ hSw; (try dsimp only at hSw); have hc := cell_of (i := 0) (v := two b.ba) hSw.1 rfl; go_simp <;> with_reducible rfl)
  simp only [Act.put, z1', z2', z3']
  refine' tk 4 ⟨some 28, .move (.tmp 5), 3, "law.go:159", #[], none⟩ ?_
  simp only [Act.put, z1', z2', z3']
  refine' tk 5 ⟨some 29, .indexAddr 42 (.tmp 27) (.tmp 28), 0, "law.go:159", #[⟨3, .data⟩, ⟨4, .data⟩], none⟩ ?_
  simp only [Act.put, z1', z2', z3']
  refine' tv 6 ⟨some 30, .load 28 (.tmp 29), 28, "law.go:159", #[⟨5, .data⟩], none⟩ ?hy175 ?hr175
  case hy175 => (intro _ hSw; (try dsimp only at hSw); have hc := cell_of (i := 1) (v := ptr b.p1) hSw.2.1 rfl; go_simp <;> with_reducible rfl)
  simp only [Act.put, z1', z2', z3']
  refine' tk 7 ⟨some 31, .move (.tmp 0), 40, "law.go:159", #[], none⟩ ?_
  simp only [Act.put, z1', z2', z3']
  refine' tk 8 ⟨some 32, .nilCheck (.tmp 31), 0, "law.go:159", #[⟨7, .data⟩], none⟩ ?_
  simp only [Act.put, z1', z2', z3']
  refine' tk 9 ⟨some 33, .fieldAddr 46 (.tmp 32) 2, 0, "law.go:159", #[⟨8, .data⟩], none⟩ ?_
  simp only [Act.put, z1', z2', z3']
  refine' tv 10 ⟨some 34, .load 44 (.tmp 33), 44, "law.go:159", #[⟨9, .data⟩], none⟩ ?hy179 ?hr179
  case hy179 => (intro _ hSw; (try dsimp only at hSw); have hc := cell_of (i := 2) (v := two b.bu) hSw.1 rfl; go_simp <;> with_reducible rfl)
  simp only [Act.put, z1', z2', z3']
  refine' tk 11 ⟨some 35, .move (.tmp 5), 3, "law.go:159", #[], none⟩ ?_
  simp only [Act.put, z1', z2', z3']
  refine' tk 12 ⟨some 36, .indexAddr 44 (.tmp 34) (.tmp 35), 0, "law.go:159", #[⟨10, .data⟩, ⟨11, .data⟩], none⟩ ?_
  simp only [Act.put, z1', z2', z3']
  refine' tv 13 ⟨some 37, .load 3 (.tmp 36), 3, "law.go:159", #[⟨12, .data⟩], none⟩ ?hy182 ?hr182
  case hy182 => (intro _ hSw; (try dsimp only at hSw); have hc := cell_of (i := 1) (v := nm x.u1) hSw.2.2 rfl; go_simp <;> with_reducible rfl)
  simp only [Act.put, z1', z2', z3']
  clear hHeld
  generalize w1.drew = w2 at H2 ⊢
  refine ry [14] ?_
  refine AllReadyH.cons rfl (fun K hK => ?_) AllReadyH.nil
  go_simp
  refine (HI.out _).mono ?_
  rintro _ w3 ⟨rfl, hb⟩
  have H3 := Lib.hid (H2.out.on hb)
  clear hb H2 HI
  go_wp2_with fail
  refine hK.out _ _ H3.out.held (fun hNext => ?_)
  clear hK K
  have hHeld := hNext
  clear hNext
  (try simp only [Act.put, z1', z2', z3'])
  clear hHeld
  refine ry [15] ?_
  refine AllReadyH.cons rfl (fun K hK => ?_) AllReadyH.nil
  go_simp
  refine (opush1 H3.out HK.out.b _ A2 3 HPU.out).mono ?_
  rintro _ w4 ⟨rfl, h4⟩
  have H4 : Hid (PrE w0 b { x with B := A2 } w4) := Lib.hid h4
  clear h4 H3
  go_wp2_with fail
  refine hK.out _ _ H4.out.held (fun hNext => ?_)
  clear hK K
  have hHeld := hNext
  clear hNext
  (try simp only [Act.put, z1', z2', z3'])
  refine' tk 16 ⟨some 40, .binOp .eql 51 (.tmp 39) (.const (.int .i64 0)) 51, 4, "law.go:159", #[⟨15, .data⟩], none⟩ ?_
  simp only [Act.put, z1', z2', z3']
  refine wpAnyH_done (by kernel_rfl) ?_ _
  clear hHeld
  have H5 : Hid (PrE w0 b (swp (pPush (swp x))) w4) := by
    have hq : (swp (pPush (swp x))) = { x with B := A2 } := by
      show ({ x with B := (Aq.push (inf x.u1) x.B).1, u1 := if (Aq.push (inf x.u1) x.B).2 = 0 then x.u1 + 1 else x.u1 } : Pr) = _
      rw [HPU.out]
      rfl
    rw [hq]
    exact H4
  clear H4
  have HR := Lib.hid (oright H5.out ((HK.out.swp.push).swp) (Nat.le_trans (Nat.add_le_add_right HN.out 1) (by decide)))
  clear HK HN HM
  go_wp2_with fail
  refine HR.out.mono ?_
  rintro _ w9 ⟨rfl, h9⟩
  have H9 := Lib.hid h9
  clear h9 HR
  go_wp2
  go_ret
  exact ⟨rfl, H9.out⟩
set_option maxHeartbeats 4000000 in
set_option maxRecDepth 100000 in
theorem fst1_1_4 (w0 w : World) (b : Bk) (x : Pr) (N M : Nat) (h : PrE w0 b x w) (hk : Pok N M x) (hN : N ≤ 1000) (hM : M ≤ 1000) (d : Nat) (hd : (d : Int) % 9 = 1) (on : Bool) (A2 : Sd) (hp : Aq.push (inf x.u1) x.B = (A2, 4)) :
    Calls Try.prog 17 #[ptr b.tb, .agg #[.int .u8 (d : Int), .bool true, .bool on]] w fun e w' => e = .returned (.bool true) ∧ PrE w0 b (swp (pPush (swp x))) w' := by
  have HP := Lib.hid (h.on (show Below w.heap.size w (w.alloc (.cells #[.int .u8 (d : Int), .bool true, .bool on] 49 (0, 0))) from nest_below w [_]))
  have HK := Lib.hid hk
  have HN := Lib.hid hN
  have HM := Lib.hid hM
  have hn : (w.alloc (.cells #[.int .u8 (d : Int), .bool true, .bool on] 49 (0, 0))).heap[w.heap.size]? = some (.cells #[.int .u8 (d : Int), .bool true, .bool on] 49 (0, 0)) := nest w [_] 0 _ rfl
  have HLT := Lib.hid h.lt
  clear h hk hN hM
  go_enter Try.func17, Try.ntmps17
  go_upto_region 1 with fail
  generalize w.alloc (.cells #[.int .u8 (d : Int), .bool true, .bool on] 49 (0, 0)) = w1 at HP hn ⊢
  generalize w.heap.size = sb at hn HLT ⊢
  obtain ⟨⟨c0, c1, c2⟩, -⟩ := cells3 hn
  go_wp2_with fail
  have HPU := Lib.hid hp
  have HI : Hid (∀ w, Calls Try.prog 36 #[.int .i64 (x.u1 : Int)] w fun e w' => e = .returned (.string (inf x.u1)) ∧ Below w.heap.size w w') := Lib.hid (finf x.u1 (Nat.le_trans HK.out.u1 (Nat.le_trans HN.out (by decide))))
  have H2 := Lib.hid (HP.out.on (w' := w1.drew) ⟨rfl, rfl, rfl, Nat.le_refl _, fun _ _ => rfl⟩)
  clear hn c0 c1 c2 hp HP
  refine wp_region_held_drew (S := (fun w' => w'.heap[b.tb]? = some (.cells #[two b.ba, two b.bl, two b.bu, two b.bk, .bool x.bad] 46 (0, 0)) ∧ w'.heap[b.ba]? = some (.cells #[ptr b.p0, ptr b.p1] 28 (0, 0)) ∧ w'.heap[b.bu]? = some (.cells #[nm x.u0, nm x.u1] 3 (0, 0)))) (by kernel_rfl) H2.out.held (fun hHeld => ?_)
  refine' tk 0 ⟨some 24, .move (.tmp 0), 40, "law.go:159", #[], none⟩ ?_
  simp only [Act.put, z1', z2', z3']
  refine' tk 1 ⟨some 25, .nilCheck (.tmp 24), 0, "law.go:159", #[⟨0, .data⟩], none⟩ ?_
  simp only [Act.put, z1', z2', z3']
  refine' tk 2 ⟨some 26, .fieldAddr 46 (.tmp 25) 0, 0, "law.go:159", #[⟨1, .data⟩], none⟩ ?_
  simp only [Act.put, z1', z2', z3']
  refine' tv 3 ⟨some 27, .load 42 (.tmp 26), 42, "law.go:159", #[⟨2, .data⟩], none⟩ ?hy187 ?hr187
  case hy187 => (intro _ hSw; (try dsimp only at hSw); have hc := cell_of (i := 0) (v := two b.ba) hSw.1 rfl; go_simp <;> with_reducible rfl)
  simp only [Act.put, z1', z2', z3']
  refine' tk 4 ⟨some 28, .move (.tmp 5), 3, "law.go:159", #[], none⟩ ?_
  simp only [Act.put, z1', z2', z3']
  refine' tk 5 ⟨some 29, .indexAddr 42 (.tmp 27) (.tmp 28), 0, "law.go:159", #[⟨3, .data⟩, ⟨4, .data⟩], none⟩ ?_
  simp only [Act.put, z1', z2', z3']
  refine' tv 6 ⟨some 30, .load 28 (.tmp 29), 28, "law.go:159", #[⟨5, .data⟩], none⟩ ?hy190 ?hr190
  case hy190 => (intro _ hSw; (try dsimp only at hSw); have hc := cell_of (i := 1) (v := ptr b.p1) hSw.2.1 rfl; go_simp <;> with_reducible rfl)
  simp only [Act.put, z1', z2', z3']
  refine' tk 7 ⟨some 31, .move (.tmp 0), 40, "law.go:159", #[], none⟩ ?_
  simp only [Act.put, z1', z2', z3']
  refine' tk 8 ⟨some 32, .nilCheck (.tmp 31), 0, "law.go:159", #[⟨7, .data⟩], none⟩ ?_
  simp only [Act.put, z1', z2', z3']
  refine' tk 9 ⟨some 33, .fieldAddr 46 (.tmp 32) 2, 0, "law.go:159", #[⟨8, .data⟩], none⟩ ?_
  simp only [Act.put, z1', z2', z3']
  refine' tv 10 ⟨some 34, .load 44 (.tmp 33), 44, "law.go:159", #[⟨9, .data⟩], none⟩ ?hy194 ?hr194
  case hy194 => (intro _ hSw; (try dsimp only at hSw); have hc := cell_of (i := 2) (v := two b.bu) hSw.1 rfl; go_simp <;> with_reducible rfl)
  simp only [Act.put, z1', z2', z3']
  refine' tk 11 ⟨some 35, .move (.tmp 5), 3, "law.go:159", #[], none⟩ ?_
  simp only [Act.put, z1', z2', z3']
  refine' tk 12 ⟨some 36, .indexAddr 44 (.tmp 34) (.tmp 35), 0, "law.go:159", #[⟨10, .data⟩, ⟨11, .data⟩], none⟩ ?_
  simp only [Act.put, z1', z2', z3']
  refine' tv 13 ⟨some 37, .load 3 (.tmp 36), 3, "law.go:159", #[⟨12, .data⟩], none⟩ ?hy197 ?hr197
  case hy197 => (intro _ hSw; (try dsimp only at hSw); have hc := cell_of (i := 1) (v := nm x.u1) hSw.2.2 rfl; go_simp <;> with_reducible rfl)
  simp only [Act.put, z1', z2', z3']
  clear hHeld
  generalize w1.drew = w2 at H2 ⊢
  refine ry [14] ?_
  refine AllReadyH.cons rfl (fun K hK => ?_) AllReadyH.nil
  go_simp
  refine (HI.out _).mono ?_
  rintro _ w3 ⟨rfl, hb⟩
  have H3 := Lib.hid (H2.out.on hb)
  clear hb H2 HI
  go_wp2_with fail
  refine hK.out _ _ H3.out.held (fun hNext => ?_)
  clear hK K
  have hHeld := hNext
  clear hNext
  (try simp only [Act.put, z1', z2', z3'])
  clear hHeld
  refine ry [15] ?_
  refine AllReadyH.cons rfl (fun K hK => ?_) AllReadyH.nil
  go_simp
  refine (opush1 H3.out HK.out.b _ A2 4 HPU.out).mono ?_
  rintro _ w4 ⟨rfl, h4⟩
  have H4 : Hid (PrE w0 b { x with B := A2 } w4) := Lib.hid h4
  clear h4 H3
  go_wp2_with fail
  refine hK.out _ _ H4.out.held (fun hNext => ?_)
  clear hK K
  have hHeld := hNext
  clear hNext
  (try simp only [Act.put, z1', z2', z3'])
  refine' tk 16 ⟨some 40, .binOp .eql 51 (.tmp 39) (.const (.int .i64 0)) 51, 4, "law.go:159", #[⟨15, .data⟩], none⟩ ?_
  simp only [Act.put, z1', z2', z3']
  refine wpAnyH_done (by kernel_rfl) ?_ _
  clear hHeld
  have H5 : Hid (PrE w0 b (swp (pPush (swp x))) w4) := by
    have hq : (swp (pPush (swp x))) = { x with B := A2 } := by
      show ({ x with B := (Aq.push (inf x.u1) x.B).1, u1 := if (Aq.push (inf x.u1) x.B).2 = 0 then x.u1 + 1 else x.u1 } : Pr) = _
      rw [HPU.out]
      rfl
    rw [hq]
    exact H4
  clear H4
  have HR := Lib.hid (oright H5.out ((HK.out.swp.push).swp) (Nat.le_trans (Nat.add_le_add_right HN.out 1) (by decide)))
  clear HK HN HM
  go_wp2_with fail
  refine HR.out.mono ?_
  rintro _ w9 ⟨rfl, h9⟩
  have H9 := Lib.hid h9
  clear h9 HR
  go_wp2
  go_ret
  exact ⟨rfl, H9.out⟩
end Go.Proofs.Ytkoaplmlabagnaa.Aq
