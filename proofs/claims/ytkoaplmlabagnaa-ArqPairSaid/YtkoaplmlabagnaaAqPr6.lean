/-
  A pair's step, as the mathematics has it: pushes, frames onto lines and off them, ticks, busy or not. Condition: the pair is in order, and few were pushed.
-/
import Derived.Test.YtkoaplmlabagnaaAqPr4
import Derived.Test.YtkoaplmlabagnaaAqPr5
import Derived.Deep.DeepCutAuto
namespace Go.Proofs.Ytkoaplmlabagnaa.Aq
open Go.RowKit Go.Proofs.Ytkoaplmlabagnaa.Base Go.Proofs.Ytkoaplmlabagnaa.Mem
section
variable {w0 w : World} {b : Bk} {x : Pr} {N M : Nat}
theorem PrE.held (h : PrE w0 b x w) : w.heap[b.tb]? = some (.cells #[two b.ba, two b.bl, two b.bu, two b.bk, .bool x.bad] 46 (0, 0)) ∧ w.heap[b.ba]? = some (.cells #[ptr b.p0, ptr b.p1] 28 (0, 0)) ∧ w.heap[b.bu]? = some (.cells #[nm x.u0, nm x.u1] 3 (0, 0)) := by
  obtain ⟨q0, q1, v0, v1, tag, h⟩ := h
  exact ⟨h.blk, h.a, h.u⟩
theorem PrE.lt (h : PrE w0 b x w) : b.p0 < w.heap.size ∧ b.p1 < w.heap.size := by
  obtain ⟨q0, q1, v0, v1, tag, h⟩ := h
  exact ⟨h.s0.lt, h.s1.lt⟩
theorem oright (h : PrE w0 b x w) (hk : Pok N M x) (hN : N ≤ 1000000) : Calls Try.prog 39 #[ptr b.tb] w fun e w' => e = .returned (.bool true) ∧ PrE w0 b x w' :=
  fright w0 w b x N h hk.a hk.b hk.g (Nat.le_trans hk.u0 hN) (Nat.le_trans hk.u1 hN)
theorem obusy0 (h : PrE w0 b x w) (hk : Pok N M x) (on : Bool) : Calls Try.prog 22 #[ptr b.p0, .bool on] w fun e w' => e = .returned (.tuple #[]) ∧ PrE w0 b (pBusy on x) w' ∧ Chg (fun k => k = b.p0) w w' := by
  obtain ⟨q0, q1, v0, v1, tag, h⟩ := h
  refine (fsetBusy w b.p0 _ _ on h.s0).mono fun _ _ ⟨e1, e2⟩ => ⟨e1, ?_⟩
  rw [setBusy_of on x.A hk.a.ord] at e2
  exact ⟨⟨_, _, _, _, _, h.doA (QDo.of e2)⟩, e2.chg⟩
theorem obusy1 (h : PrE w0 b x w) (hk : Pok N M x) (on : Bool) : Calls Try.prog 22 #[ptr b.p1, .bool on] w fun e w' => e = .returned (.tuple #[]) ∧ PrE w0 b (swp (pBusy on (swp x))) w' ∧ Chg (fun k => k = b.p1) w w' := by
  obtain ⟨q0, q1, v0, v1, tag, h⟩ := h
  refine (fsetBusy w b.p1 _ _ on h.s1).mono fun _ _ ⟨e1, e2⟩ => ⟨e1, ?_⟩
  rw [setBusy_of on x.B hk.b.ord] at e2
  exact ⟨⟨_, _, _, _, _, h.doB (QDo.of e2)⟩, e2.chg⟩
theorem otick0 (h : PrE w0 b x w) (hk : Inv N x.A) : Calls Try.prog 20 #[ptr b.p0] w fun e w' => e = .returned (amv (tick x.A).2) ∧ PrE w0 b { x with A := (tick x.A).1 } w' := by
  obtain ⟨q0, q1, v0, v1, tag, h⟩ := h
  refine (ftick w b.p0 _ _ h.s0 hk.pfit).mono fun _ _ ⟨e1, e2⟩ => ?_
  rw [tick_of x.A] at e1 e2
  exact ⟨e1, _, _, _, _, _, h.doA (QDo.of e2)⟩
theorem otick1 (h : PrE w0 b x w) (hk : Inv N x.B) : Calls Try.prog 20 #[ptr b.p1] w fun e w' => e = .returned (amv (tick x.B).2) ∧ PrE w0 b { x with B := (tick x.B).1 } w' := by
  obtain ⟨q0, q1, v0, v1, tag, h⟩ := h
  refine (ftick w b.p1 _ _ h.s1 hk.pfit).mono fun _ _ ⟨e1, e2⟩ => ?_
  rw [tick_of x.B] at e1 e2
  exact ⟨e1, _, _, _, _, _, h.doB (QDo.of e2)⟩
theorem opush0 (h : PrE w0 b x w) (hk : Inv N x.A) (i : ByteArray) (A2 : Sd) (c : Nat) (hp : Aq.push i x.A = (A2, c)) : Calls Try.prog 18 #[ptr b.p0, .string i] w fun e w' => e = .returned (nm c) ∧ PrE w0 b { x with A := A2 } w' := by
  obtain ⟨q0, q1, v0, v1, tag, h⟩ := h
  refine (fpush w b.p0 _ _ i h.s0 hk.pfit.q).mono fun _ _ ⟨e1, u, e2⟩ => ?_
  rw [push_of i x.A hk.ord, hp] at e1 e2
  exact ⟨e1, _, _, _, _, _, h.doA e2⟩
theorem opush1 (h : PrE w0 b x w) (hk : Inv N x.B) (i : ByteArray) (A2 : Sd) (c : Nat) (hp : Aq.push i x.B = (A2, c)) : Calls Try.prog 18 #[ptr b.p1, .string i] w fun e w' => e = .returned (nm c) ∧ PrE w0 b { x with B := A2 } w' := by
  obtain ⟨q0, q1, v0, v1, tag, h⟩ := h
  refine (fpush w b.p1 _ _ i h.s1 hk.pfit.q).mono fun _ _ ⟨e1, u, e2⟩ => ?_
  rw [push_of i x.B hk.ord, hp] at e1 e2
  exact ⟨e1, _, _, _, _, _, h.doB e2⟩
theorem push_code (i : ByteArray) (y : Sd) : (Aq.push i y).2 = 0 ∨ (Aq.push i y).2 = 3 ∨ (Aq.push i y).2 = 4 := by
  unfold Aq.push
  split
  · exact Or.inr (Or.inr rfl)
  split
  · exact Or.inr (Or.inl rfl)
  · exact Or.inl rfl
end
set_option maxHeartbeats 4000000 in
set_option maxRecDepth 100000 in
theorem fst2_0 (w0 w : World) (b : Bk) (x : Pr) (N M : Nat) (h : PrE w0 b x w) (hk : Pok N M x) (hN : N ≤ 1000) (hM : M ≤ 1000) (d : Nat) (hd : (d : Int) % 9 = 2) (on : Bool) :
    Calls Try.prog 17 #[ptr b.tb, .agg #[.int .u8 (d : Int), .bool false, .bool on]] w fun e w' => e = .returned (.bool true) ∧ PrE w0 b (pSend x) w' := by
  have HP := Lib.hid (h.on (show Below w.heap.size w (w.alloc (.cells #[.int .u8 (d : Int), .bool false, .bool on] 49 (0, 0))) from nest_below w [_]))
  have HK := Lib.hid hk
  have HN := Lib.hid hN
  have HM := Lib.hid hM
  have hn : (w.alloc (.cells #[.int .u8 (d : Int), .bool false, .bool on] 49 (0, 0))).heap[w.heap.size]? = some (.cells #[.int .u8 (d : Int), .bool false, .bool on] 49 (0, 0)) := nest w [_] 0 _ rfl
  have HLT := Lib.hid h.lt
  clear h hk hN hM
  go_enter Try.func17, Try.ntmps17
  go_upto_region 1 with fail
  generalize w.alloc (.cells #[.int .u8 (d : Int), .bool false, .bool on] 49 (0, 0)) = w1 at HP hn ⊢
  generalize w.heap.size = sb at hn HLT ⊢
  obtain ⟨⟨c0, c1, c2⟩, -⟩ := cells3 hn
  have CS := Lib.hid (osend0 HP.out HK.out HM.out)
  clear hn
  go_wp2_with fail
  refine CS.out.mono ?_
  rintro _ w2 ⟨rfl, h2⟩
  have H2 := Lib.hid h2
  clear h2 CS c0 c1 c2
  have HR := Lib.hid (oright H2.out ((HK.out.send).more (Nat.le_succ N) (Nat.le_refl _)) (Nat.le_trans (Nat.add_le_add_right HN.out 1) (by decide)))
  clear HP HK HN HM
  go_wp2_with fail
  refine HR.out.mono ?_
  rintro _ w9 ⟨rfl, h9⟩
  have H9 := Lib.hid h9
  clear h9 HR
  go_wp2
  go_ret
  exact ⟨rfl, H9.out⟩
set_option maxHeartbeats 4000000 in
set_option maxRecDepth 100000 in
theorem fst3_0 (w0 w : World) (b : Bk) (x : Pr) (N M : Nat) (h : PrE w0 b x w) (hk : Pok N M x) (hN : N ≤ 1000) (hM : M ≤ 1000) (d : Nat) (hd : (d : Int) % 9 = 3) (on : Bool) :
    Calls Try.prog 17 #[ptr b.tb, .agg #[.int .u8 (d : Int), .bool false, .bool on]] w fun e w' => e = .returned (.bool true) ∧ PrE w0 b (pSend x) w' := by
  have HP := Lib.hid (h.on (show Below w.heap.size w (w.alloc (.cells #[.int .u8 (d : Int), .bool false, .bool on] 49 (0, 0))) from nest_below w [_]))
  have HK := Lib.hid hk
  have HN := Lib.hid hN
  have HM := Lib.hid hM
  have hn : (w.alloc (.cells #[.int .u8 (d : Int), .bool false, .bool on] 49 (0, 0))).heap[w.heap.size]? = some (.cells #[.int .u8 (d : Int), .bool false, .bool on] 49 (0, 0)) := nest w [_] 0 _ rfl
  have HLT := Lib.hid h.lt
  clear h hk hN hM
  go_enter Try.func17, Try.ntmps17
  go_upto_region 1 with fail
  generalize w.alloc (.cells #[.int .u8 (d : Int), .bool false, .bool on] 49 (0, 0)) = w1 at HP hn ⊢
  generalize w.heap.size = sb at hn HLT ⊢
  obtain ⟨⟨c0, c1, c2⟩, -⟩ := cells3 hn
  have CS := Lib.hid (osend0 HP.out HK.out HM.out)
  clear hn
  go_wp2_with fail
  refine CS.out.mono ?_
  rintro _ w2 ⟨rfl, h2⟩
  have H2 := Lib.hid h2
  clear h2 CS c0 c1 c2
  have HR := Lib.hid (oright H2.out ((HK.out.send).more (Nat.le_succ N) (Nat.le_refl _)) (Nat.le_trans (Nat.add_le_add_right HN.out 1) (by decide)))
  clear HP HK HN HM
  go_wp2_with fail
  refine HR.out.mono ?_
  rintro _ w9 ⟨rfl, h9⟩
  have H9 := Lib.hid h9
  clear h9 HR
  go_wp2
  go_ret
  exact ⟨rfl, H9.out⟩
set_option maxHeartbeats 4000000 in
set_option maxRecDepth 100000 in
theorem fst4_0 (w0 w : World) (b : Bk) (x : Pr) (N M : Nat) (h : PrE w0 b x w) (hk : Pok N M x) (hN : N ≤ 1000) (hM : M ≤ 1000) (d : Nat) (hd : (d : Int) % 9 = 4) (on : Bool) :
    Calls Try.prog 17 #[ptr b.tb, .agg #[.int .u8 (d : Int), .bool false, .bool on]] w fun e w' => e = .returned (.bool true) ∧ PrE w0 b (pHand x) w' := by
  have HP := Lib.hid (h.on (show Below w.heap.size w (w.alloc (.cells #[.int .u8 (d : Int), .bool false, .bool on] 49 (0, 0))) from nest_below w [_]))
  have HK := Lib.hid hk
  have HN := Lib.hid hN
  have HM := Lib.hid hM
  have hn : (w.alloc (.cells #[.int .u8 (d : Int), .bool false, .bool on] 49 (0, 0))).heap[w.heap.size]? = some (.cells #[.int .u8 (d : Int), .bool false, .bool on] 49 (0, 0)) := nest w [_] 0 _ rfl
  have HLT := Lib.hid h.lt
  clear h hk hN hM
  go_enter Try.func17, Try.ntmps17
  go_upto_region 1 with fail
  generalize w.alloc (.cells #[.int .u8 (d : Int), .bool false, .bool on] 49 (0, 0)) = w1 at HP hn ⊢
  generalize w.heap.size = sb at hn HLT ⊢
  obtain ⟨⟨c0, c1, c2⟩, -⟩ := cells3 hn
  have CS := Lib.hid (ohand0 HP.out HK.out (Nat.le_trans HN.out (by decide)))
  clear hn
  go_wp2_with fail
  refine CS.out.mono ?_
  rintro _ w2 ⟨rfl, h2⟩
  have H2 := Lib.hid h2
  clear h2 CS c0 c1 c2
  have HR := Lib.hid (oright H2.out ((HK.out.hand).more (Nat.le_succ N) (Nat.le_refl _)) (Nat.le_trans (Nat.add_le_add_right HN.out 1) (by decide)))
  clear HP HK HN HM
  go_wp2_with fail
  refine HR.out.mono ?_
  rintro _ w9 ⟨rfl, h9⟩
  have H9 := Lib.hid h9
  clear h9 HR
  go_wp2
  go_ret
  exact ⟨rfl, H9.out⟩
set_option maxHeartbeats 4000000 in
set_option maxRecDepth 100000 in
theorem fst5_0 (w0 w : World) (b : Bk) (x : Pr) (N M : Nat) (h : PrE w0 b x w) (hk : Pok N M x) (hN : N ≤ 1000) (hM : M ≤ 1000) (d : Nat) (hd : (d : Int) % 9 = 5) (on : Bool) :
    Calls Try.prog 17 #[ptr b.tb, .agg #[.int .u8 (d : Int), .bool false, .bool on]] w fun e w' => e = .returned (.bool true) ∧ PrE w0 b (pHand x) w' := by
  have HP := Lib.hid (h.on (show Below w.heap.size w (w.alloc (.cells #[.int .u8 (d : Int), .bool false, .bool on] 49 (0, 0))) from nest_below w [_]))
  have HK := Lib.hid hk
  have HN := Lib.hid hN
  have HM := Lib.hid hM
  have hn : (w.alloc (.cells #[.int .u8 (d : Int), .bool false, .bool on] 49 (0, 0))).heap[w.heap.size]? = some (.cells #[.int .u8 (d : Int), .bool false, .bool on] 49 (0, 0)) := nest w [_] 0 _ rfl
  have HLT := Lib.hid h.lt
  clear h hk hN hM
  go_enter Try.func17, Try.ntmps17
  go_upto_region 1 with fail
  generalize w.alloc (.cells #[.int .u8 (d : Int), .bool false, .bool on] 49 (0, 0)) = w1 at HP hn ⊢
  generalize w.heap.size = sb at hn HLT ⊢
  obtain ⟨⟨c0, c1, c2⟩, -⟩ := cells3 hn
  have CS := Lib.hid (ohand0 HP.out HK.out (Nat.le_trans HN.out (by decide)))
  clear hn
  go_wp2_with fail
  refine CS.out.mono ?_
  rintro _ w2 ⟨rfl, h2⟩
  have H2 := Lib.hid h2
  clear h2 CS c0 c1 c2
  have HR := Lib.hid (oright H2.out ((HK.out.hand).more (Nat.le_succ N) (Nat.le_refl _)) (Nat.le_trans (Nat.add_le_add_right HN.out 1) (by decide)))
  clear HP HK HN HM
  go_wp2_with fail
  refine HR.out.mono ?_
  rintro _ w9 ⟨rfl, h9⟩
  have H9 := Lib.hid h9
  clear h9 HR
  go_wp2
  go_ret
  exact ⟨rfl, H9.out⟩
set_option maxHeartbeats 4000000 in
set_option maxRecDepth 100000 in
theorem fst6_0 (w0 w : World) (b : Bk) (x : Pr) (N M : Nat) (h : PrE w0 b x w) (hk : Pok N M x) (hN : N ≤ 1000) (hM : M ≤ 1000) (d : Nat) (hd : (d : Int) % 9 = 6) (on : Bool) :
    Calls Try.prog 17 #[ptr b.tb, .agg #[.int .u8 (d : Int), .bool false, .bool on]] w fun e w' => e = .returned (.bool true) ∧ PrE w0 b (pLose x) w' := by
  have HP := Lib.hid (h.on (show Below w.heap.size w (w.alloc (.cells #[.int .u8 (d : Int), .bool false, .bool on] 49 (0, 0))) from nest_below w [_]))
  have HK := Lib.hid hk
  have HN := Lib.hid hN
  have HM := Lib.hid hM
  have hn : (w.alloc (.cells #[.int .u8 (d : Int), .bool false, .bool on] 49 (0, 0))).heap[w.heap.size]? = some (.cells #[.int .u8 (d : Int), .bool false, .bool on] 49 (0, 0)) := nest w [_] 0 _ rfl
  have HLT := Lib.hid h.lt
  clear h hk hN hM
  go_enter Try.func17, Try.ntmps17
  go_upto_region 1 with fail
  generalize w.alloc (.cells #[.int .u8 (d : Int), .bool false, .bool on] 49 (0, 0)) = w1 at HP hn ⊢
  generalize w.heap.size = sb at hn HLT ⊢
  obtain ⟨⟨c0, c1, c2⟩, -⟩ := cells3 hn
  have CS := Lib.hid (olose0 HP.out true rfl)
  clear hn
  go_wp2_with fail
  refine CS.out.mono ?_
  rintro _ w2 ⟨⟨o, rfl⟩, h2⟩
  have H2 := Lib.hid h2
  clear h2 CS c0 c1 c2
  have HR := Lib.hid (oright H2.out ((HK.out.lose).more (Nat.le_succ N) (Nat.le_refl _)) (Nat.le_trans (Nat.add_le_add_right HN.out 1) (by decide)))
  clear HP HK HN HM
  go_wp2_with fail
  refine HR.out.mono ?_
  rintro _ w9 ⟨rfl, h9⟩
  have H9 := Lib.hid h9
  clear h9 HR
  go_wp2
  go_ret
  exact ⟨rfl, H9.out⟩
set_option maxHeartbeats 4000000 in
set_option maxRecDepth 100000 in
theorem fst7_0 (w0 w : World) (b : Bk) (x : Pr) (N M : Nat) (h : PrE w0 b x w) (hk : Pok N M x) (hN : N ≤ 1000) (hM : M ≤ 1000) (d : Nat) (hd : (d : Int) % 9 = 7) (on : Bool) :
    Calls Try.prog 17 #[ptr b.tb, .agg #[.int .u8 (d : Int), .bool false, .bool on]] w fun e w' => e = .returned (.bool true) ∧ PrE w0 b (pTick x) w' := by
  have HP := Lib.hid (h.on (show Below w.heap.size w (w.alloc (.cells #[.int .u8 (d : Int), .bool false, .bool on] 49 (0, 0))) from nest_below w [_]))
  have HK := Lib.hid hk
  have HN := Lib.hid hN
  have HM := Lib.hid hM
  have hn : (w.alloc (.cells #[.int .u8 (d : Int), .bool false, .bool on] 49 (0, 0))).heap[w.heap.size]? = some (.cells #[.int .u8 (d : Int), .bool false, .bool on] 49 (0, 0)) := nest w [_] 0 _ rfl
  have HLT := Lib.hid h.lt
  clear h hk hN hM
  go_enter Try.func17, Try.ntmps17
  go_upto_region 1 with fail
  generalize w.alloc (.cells #[.int .u8 (d : Int), .bool false, .bool on] 49 (0, 0)) = w1 at HP hn ⊢
  generalize w.heap.size = sb at hn HLT ⊢
  obtain ⟨⟨c0, c1, c2⟩, -⟩ := cells3 hn
  obtain ⟨htb, hba, -⟩ := PrE.held HP.out
  have e0 : w1.cell? ⟨b.tb, 0, none⟩ = some (two b.ba) := cell_of htb rfl
  have a0 : w1.cell? ⟨b.ba, 0, none⟩ = some (ptr b.p0) := cell_of hba rfl
  have CS := Lib.hid (otick0 HP.out HK.out.a)
  clear hn htb hba
  go_wp2_with fail
  refine CS.out.mono ?_
  rintro _ w2 ⟨rfl, h2⟩
  have H2 := Lib.hid h2
  clear h2 CS c0 c1 c2 e0 a0
  obtain ⟨htb, hba, -⟩ := PrE.held H2.out
  have e0 : w2.cell? ⟨b.tb, 0, none⟩ = some (two b.ba) := cell_of htb rfl
  have a1 : w2.cell? ⟨b.ba, 1, none⟩ = some (ptr b.p1) := cell_of hba rfl
  have CT := Lib.hid (otick1 H2.out HK.out.b)
  clear htb hba HP
  generalize amv (tick x.A).2 = av
  go_wp2_with fail
  refine CT.out.mono ?_
  rintro _ w3 ⟨rfl, h3⟩
  have H3 : Hid (PrE w0 b (pTick x) w3) := Lib.hid h3
  clear h3 CT e0 a1 H2
  generalize amv (tick x.B).2 = av2
  have HR := Lib.hid (oright H3.out ((HK.out.tick).more (Nat.le_succ N) (Nat.le_refl _)) (Nat.le_trans (Nat.add_le_add_right HN.out 1) (by decide)))
  clear HK HN HM
  go_wp2_with fail
  refine HR.out.mono ?_
  rintro _ w9 ⟨rfl, h9⟩
  have H9 := Lib.hid h9
  clear h9 HR
  go_wp2
  go_ret
  exact ⟨rfl, H9.out⟩
set_option maxHeartbeats 4000000 in
set_option maxRecDepth 100000 in
theorem fst8_0 (w0 w : World) (b : Bk) (x : Pr) (N M : Nat) (h : PrE w0 b x w) (hk : Pok N M x) (hN : N ≤ 1000) (hM : M ≤ 1000) (d : Nat) (hd : (d : Int) % 9 = 8) (on : Bool) :
    Calls Try.prog 17 #[ptr b.tb, .agg #[.int .u8 (d : Int), .bool false, .bool on]] w fun e w' => e = .returned (.bool true) ∧ PrE w0 b (pBusy on x) w' := by
  have HP := Lib.hid (h.on (show Below w.heap.size w (w.alloc (.cells #[.int .u8 (d : Int), .bool false, .bool on] 49 (0, 0))) from nest_below w [_]))
  have HK := Lib.hid hk
  have HN := Lib.hid hN
  have HM := Lib.hid hM
  have hn : (w.alloc (.cells #[.int .u8 (d : Int), .bool false, .bool on] 49 (0, 0))).heap[w.heap.size]? = some (.cells #[.int .u8 (d : Int), .bool false, .bool on] 49 (0, 0)) := nest w [_] 0 _ rfl
  have HLT := Lib.hid h.lt
  clear h hk hN hM
  go_enter Try.func17, Try.ntmps17
  go_upto_region 1 with fail
  generalize w.alloc (.cells #[.int .u8 (d : Int), .bool false, .bool on] 49 (0, 0)) = w1 at HP hn ⊢
  generalize w.heap.size = sb at hn HLT ⊢
  obtain ⟨⟨c0, c1, c2⟩, -⟩ := cells3 hn
  go_wp2_with fail
  have H2 := Lib.hid (HP.out.on (w' := w1.drew) ⟨rfl, rfl, rfl, Nat.le_refl _, fun _ _ => rfl⟩)
  have hn2 : w1.drew.heap[sb]? = some (.cells #[.int .u8 (d : Int), .bool false, .bool on] 49 (0, 0)) := hn
  clear hn c0 c1 c2
  refine wp_region_held_drew (S := (fun w' => w'.heap[b.tb]? = some (.cells #[two b.ba, two b.bl, two b.bu, two b.bk, .bool x.bad] 46 (0, 0)) ∧ w'.heap[b.ba]? = some (.cells #[ptr b.p0, ptr b.p1] 28 (0, 0)) ∧ w'.heap[sb]? = some (.cells #[.int .u8 (d : Int), .bool false, .bool on] 49 (0, 0)))) (by kernel_rfl) ⟨H2.out.held.1, H2.out.held.2.1, hn2⟩ (fun hHeld => ?_)
  refine' wpAnyH_take (i := 0) (oi := { dst := some 11, op := Go.Op.move (Go.Operand.tmp 0), type := 40, pos := "law.go:172", after := #[], guard := none }) (v := _) rfl (by kernel_rfl) (by kernel_rfl) (by kernel_rfl) (fun _ _ _ h => h) (Or.inl ⟨by rfl, ?hy1⟩) (by assumption) ?hr1
  case hy1 => (intro _ hSw; (try dsimp only at hSw); go_simp <;> with_reducible rfl)
  simp only [Act.put, List.setIfInBounds_toArray, List.set_cons_zero, List.set_cons_succ]
  refine' wpAnyH_take (i := 1) (oi := { dst := some 12, op := Go.Op.nilCheck (Go.Operand.tmp 11), type := 0, pos := "law.go:172", after := #[{ on := 0, ground := Go.Ground.data }], guard := none }) (v := _) rfl (by kernel_rfl) (by kernel_rfl) (by kernel_rfl) (fun _ _ _ h => h) (Or.inl ⟨by rfl, ?hy2⟩) (by assumption) ?hr2
  case hy2 => (intro _ hSw; (try dsimp only at hSw); go_simp <;> with_reducible rfl)
  simp only [Act.put, List.setIfInBounds_toArray, List.set_cons_zero, List.set_cons_succ]
  refine' wpAnyH_take (i := 2) (oi := { dst := some 13, op := Go.Op.fieldAddr 46 (Go.Operand.tmp 12) 0, type := 0, pos := "law.go:172", after := #[{ on := 1, ground := Go.Ground.data }], guard := none }) (v := _) rfl (by kernel_rfl) (by kernel_rfl) (by kernel_rfl) (fun _ _ _ h => h) (Or.inl ⟨by rfl, ?hy3⟩) (by assumption) ?hr3
  case hy3 => (intro _ hSw; (try dsimp only at hSw); go_simp <;> with_reducible rfl)
  simp only [Act.put, List.setIfInBounds_toArray, List.set_cons_zero, List.set_cons_succ]
  refine' wpAnyH_take (i := 3) (oi := { dst := some 14, op := Go.Op.load 42 (Go.Operand.tmp 13), type := 42, pos := "law.go:172", after := #[{ on := 2, ground := Go.Ground.data }], guard := none }) (v := _) rfl (by kernel_rfl) (by kernel_rfl) (by kernel_rfl) (fun _ _ _ h => h) (Or.inl ⟨by rfl, ?hy4⟩) (by assumption) ?hr4
  case hy4 => (intro _ hSw; (try dsimp only at hSw); have hc := cell_of (i := 0) (v := two b.ba) hSw.1 rfl; go_simp <;> with_reducible rfl)
  simp only [Act.put, List.setIfInBounds_toArray, List.set_cons_zero, List.set_cons_succ]
  refine' wpAnyH_take (i := 4) (oi := { dst := some 15, op := Go.Op.move (Go.Operand.tmp 5), type := 3, pos := "law.go:172", after := #[], guard := none }) (v := _) rfl (by kernel_rfl) (by kernel_rfl) (by kernel_rfl) (fun _ _ _ h => h) (Or.inl ⟨by rfl, ?hy5⟩) (by assumption) ?hr5
  case hy5 => (intro _ hSw; (try dsimp only at hSw); go_simp <;> with_reducible rfl)
  simp only [Act.put, List.setIfInBounds_toArray, List.set_cons_zero, List.set_cons_succ]
  refine' wpAnyH_take (i := 5) (oi := { dst := some 16, op := Go.Op.indexAddr 42 (Go.Operand.tmp 14) (Go.Operand.tmp 15), type := 0, pos := "law.go:172", after := #[{ on := 3, ground := Go.Ground.data }, { on := 4, ground := Go.Ground.data }], guard := none }) (v := _) rfl (by kernel_rfl) (by kernel_rfl) (by kernel_rfl) (fun _ _ _ h => h) (Or.inl ⟨by rfl, ?hy6⟩) (by assumption) ?hr6
  case hy6 => (intro _ hSw; (try dsimp only at hSw); go_simp <;> with_reducible rfl)
  simp only [Act.put, List.setIfInBounds_toArray, List.set_cons_zero, List.set_cons_succ]
  refine' wpAnyH_take (i := 6) (oi := { dst := some 17, op := Go.Op.load 28 (Go.Operand.tmp 16), type := 28, pos := "law.go:172", after := #[{ on := 5, ground := Go.Ground.data }], guard := none }) (v := _) rfl (by kernel_rfl) (by kernel_rfl) (by kernel_rfl) (fun _ _ _ h => h) (Or.inl ⟨by rfl, ?hy7⟩) (by assumption) ?hr7
  case hy7 => (intro _ hSw; (try dsimp only at hSw); have hc := cell_of (i := 0) (v := ptr b.p0) hSw.2.1 rfl; go_simp <;> with_reducible rfl)
  simp only [Act.put, List.setIfInBounds_toArray, List.set_cons_zero, List.set_cons_succ]
  refine' wpAnyH_take (i := 7) (oi := { dst := some 18, op := Go.Op.fieldAddr 49 (Go.Operand.tmp 3) 2, type := 0, pos := "law.go:172", after := #[], guard := none }) (v := _) rfl (by kernel_rfl) (by kernel_rfl) (by kernel_rfl) (fun _ _ _ h => h) (Or.inl ⟨by rfl, ?hy8⟩) (by assumption) ?hr8
  case hy8 => (intro _ hSw; (try dsimp only at hSw); go_simp <;> with_reducible rfl)
  simp only [Act.put, List.setIfInBounds_toArray, List.set_cons_zero, List.set_cons_succ]
  refine' wpAnyH_take (i := 8) (oi := { dst := some 19, op := Go.Op.load 4 (Go.Operand.tmp 18), type := 4, pos := "law.go:172", after := #[{ on := 7, ground := Go.Ground.data }], guard := none }) (v := _) rfl (by kernel_rfl) (by kernel_rfl) (by kernel_rfl) (fun _ _ _ h => h) (Or.inl ⟨by rfl, ?hy9⟩) (by assumption) ?hr9
  case hy9 => (intro _ hSw; (try dsimp only at hSw); have hc := cell_of (i := 2) (v := .bool on) hSw.2.2 rfl; go_simp <;> with_reducible rfl)
  simp only [Act.put, List.setIfInBounds_toArray, List.set_cons_zero, List.set_cons_succ]
  clear hHeld
  generalize w1.drew = w2 at H2 hn2 ⊢
  refine wpAnyH_ready (rs := [9]) (by kernel_rfl) (by simp) ?_
  refine AllReadyH.cons (o := { dst := some 20, op := Go.Op.call { callee := Go.Callee.value (Go.Operand.func 22), args := #[Go.Operand.tmp 17, Go.Operand.tmp 19], argTypes := #[28, 4] }, type := 0, pos := "law.go:172", after := #[{ on := 6, ground := Go.Ground.data }, { on := 8, ground := Go.Ground.data }], guard := none }) rfl (fun K hK => ?_) AllReadyH.nil
  go_simp
  refine (obusy0 H2.out HK.out on).mono ?_
  rintro _ w3 ⟨rfl, h3, hc3⟩
  have H3 := Lib.hid h3
  have hn3 := hc3.stays hn2 (fun e => by have := HLT.out.1; have e2 : sb = b.p0 := e; omega)
  clear h3 hc3 H2 HP hn2
  go_wp2_with fail
  refine hK.out _ _ ⟨H3.out.held.1, H3.out.held.2.1, hn3⟩ (fun hNext => ?_)
  clear hK K hNext
  (try simp only [Act.put, List.setIfInBounds_toArray, List.set_cons_zero, List.set_cons_succ])
  refine wpAnyH_done (by kernel_rfl) ?_ _
  have HR := Lib.hid (oright H3.out (((HK.out.busy on)).more (Nat.le_succ N) (Nat.le_succ M)) (Nat.le_trans (Nat.add_le_add_right HN.out 1) (by decide)))
  clear HK HN HM
  go_wp2_with fail
  refine HR.out.mono ?_
  rintro _ w9 ⟨rfl, h9⟩
  have H9 := Lib.hid h9
  clear h9 HR
  go_wp2
  go_ret
  exact ⟨rfl, H9.out⟩
set_option maxHeartbeats 4000000 in
set_option maxRecDepth 100000 in
theorem fst0_0_0 (w0 w : World) (b : Bk) (x : Pr) (N M : Nat) (h : PrE w0 b x w) (hk : Pok N M x) (hN : N ≤ 1000) (hM : M ≤ 1000) (d : Nat) (hd : (d : Int) % 9 = 0) (on : Bool) (A2 : Sd) (hp : Aq.push (inf x.u0) x.A = (A2, 0)) :
    Calls Try.prog 17 #[ptr b.tb, .agg #[.int .u8 (d : Int), .bool false, .bool on]] w fun e w' => e = .returned (.bool true) ∧ PrE w0 b (pPush x) w' := by
  have HP := Lib.hid (h.on (show Below w.heap.size w (w.alloc (.cells #[.int .u8 (d : Int), .bool false, .bool on] 49 (0, 0))) from nest_below w [_]))
  have HK := Lib.hid hk
  have HN := Lib.hid hN
  have HM := Lib.hid hM
  have hn : (w.alloc (.cells #[.int .u8 (d : Int), .bool false, .bool on] 49 (0, 0))).heap[w.heap.size]? = some (.cells #[.int .u8 (d : Int), .bool false, .bool on] 49 (0, 0)) := nest w [_] 0 _ rfl
  have HLT := Lib.hid h.lt
  clear h hk hN hM
  go_enter Try.func17, Try.ntmps17
  go_upto_region 1 with fail
  generalize w.alloc (.cells #[.int .u8 (d : Int), .bool false, .bool on] 49 (0, 0)) = w1 at HP hn ⊢
  generalize w.heap.size = sb at hn HLT ⊢
  obtain ⟨⟨c0, c1, c2⟩, -⟩ := cells3 hn
  go_wp2_with fail
  have HPU := Lib.hid hp
  have HI : Hid (∀ w, Calls Try.prog 36 #[.int .i64 (x.u0 : Int)] w fun e w' => e = .returned (.string (inf x.u0)) ∧ Below w.heap.size w w') := Lib.hid (finf x.u0 (Nat.le_trans HK.out.u0 (Nat.le_trans HN.out (by decide))))
  have H2 := Lib.hid (HP.out.on (w' := w1.drew) ⟨rfl, rfl, rfl, Nat.le_refl _, fun _ _ => rfl⟩)
  clear hn c0 c1 c2 hp HP
  refine wp_region_held_drew (S := (fun w' => w'.heap[b.tb]? = some (.cells #[two b.ba, two b.bl, two b.bu, two b.bk, .bool x.bad] 46 (0, 0)) ∧ w'.heap[b.ba]? = some (.cells #[ptr b.p0, ptr b.p1] 28 (0, 0)) ∧ w'.heap[b.bu]? = some (.cells #[nm x.u0, nm x.u1] 3 (0, 0)))) (by kernel_rfl) H2.out.held (fun hHeld => ?_)
  refine' wpAnyH_take (i := 0) (oi := { dst := some 24, op := Go.Op.move (Go.Operand.tmp 0), type := 40, pos := "law.go:159", after := #[], guard := none }) (v := _) rfl (by kernel_rfl) (by kernel_rfl) (by kernel_rfl) (fun _ _ _ h => h) (Or.inl ⟨by rfl, ?hy10⟩) (by assumption) ?hr10
  case hy10 => (intro _ hSw; (try dsimp only at hSw); go_simp <;> with_reducible rfl)
  simp only [Act.put, List.setIfInBounds_toArray, List.set_cons_zero, List.set_cons_succ]
  refine' wpAnyH_take (i := 1) (oi := { dst := some 25, op := Go.Op.nilCheck (Go.Operand.tmp 24), type := 0, pos := "law.go:159", after := #[{ on := 0, ground := Go.Ground.data }], guard := none }) (v := _) rfl (by kernel_rfl) (by kernel_rfl) (by kernel_rfl) (fun _ _ _ h => h) (Or.inl ⟨by rfl, ?hy11⟩) (by assumption) ?hr11
  case hy11 => (intro _ hSw; (try dsimp only at hSw); go_simp <;> with_reducible rfl)
  simp only [Act.put, List.setIfInBounds_toArray, List.set_cons_zero, List.set_cons_succ]
  refine' wpAnyH_take (i := 2) (oi := { dst := some 26, op := Go.Op.fieldAddr 46 (Go.Operand.tmp 25) 0, type := 0, pos := "law.go:159", after := #[{ on := 1, ground := Go.Ground.data }], guard := none }) (v := _) rfl (by kernel_rfl) (by kernel_rfl) (by kernel_rfl) (fun _ _ _ h => h) (Or.inl ⟨by rfl, ?hy12⟩) (by assumption) ?hr12
  case hy12 => (intro _ hSw; (try dsimp only at hSw); go_simp <;> with_reducible rfl)
  simp only [Act.put, List.setIfInBounds_toArray, List.set_cons_zero, List.set_cons_succ]
  refine' wpAnyH_take (i := 3) (oi := { dst := some 27, op := Go.Op.load 42 (Go.Operand.tmp 26), type := 42, pos := "law.go:159", after := #[{ on := 2, ground := Go.Ground.data }], guard := none }) (v := _) rfl (by kernel_rfl) (by kernel_rfl) (by kernel_rfl) (fun _ _ _ h => h) (Or.inl ⟨by rfl, ?hy13⟩) (by assumption) ?hr13
  case hy13 => (intro _ hSw; (try dsimp only at hSw); have hc := cell_of (i := 0) (v := two b.ba) hSw.1 rfl; go_simp <;> with_reducible rfl)
  simp only [Act.put, List.setIfInBounds_toArray, List.set_cons_zero, List.set_cons_succ]
  refine' wpAnyH_take (i := 4) (oi := { dst := some 28, op := Go.Op.move (Go.Operand.tmp 5), type := 3, pos := "law.go:159", after := #[], guard := none }) (v := _) rfl (by kernel_rfl) (by kernel_rfl) (by kernel_rfl) (fun _ _ _ h => h) (Or.inl ⟨by rfl, ?hy14⟩) (by assumption) ?hr14
  case hy14 => (intro _ hSw; (try dsimp only at hSw); go_simp <;> with_reducible rfl)
  simp only [Act.put, List.setIfInBounds_toArray, List.set_cons_zero, List.set_cons_succ]
  refine' wpAnyH_take (i := 5) (oi := { dst := some 29, op := Go.Op.indexAddr 42 (Go.Operand.tmp 27) (Go.Operand.tmp 28), type := 0, pos := "law.go:159", after := #[{ on := 3, ground := Go.Ground.data }, { on := 4, ground := Go.Ground.data }], guard := none }) (v := _) rfl (by kernel_rfl) (by kernel_rfl) (by kernel_rfl) (fun _ _ _ h => h) (Or.inl ⟨by rfl, ?hy15⟩) (by assumption) ?hr15
  case hy15 => (intro _ hSw; (try dsimp only at hSw); go_simp <;> with_reducible rfl)
  simp only [Act.put, List.setIfInBounds_toArray, List.set_cons_zero, List.set_cons_succ]
  refine' wpAnyH_take (i := 6) (oi := { dst := some 30, op := Go.Op.load 28 (Go.Operand.tmp 29), type := 28, pos := "law.go:159", after := #[{ on := 5, ground := Go.Ground.data }], guard := none }) (v := _) rfl (by kernel_rfl) (by kernel_rfl) (by kernel_rfl) (fun _ _ _ h => h) (Or.inl ⟨by rfl, ?hy16⟩) (by assumption) ?hr16
  case hy16 => (intro _ hSw; (try dsimp only at hSw); have hc := cell_of (i := 0) (v := ptr b.p0) hSw.2.1 rfl; go_simp <;> with_reducible rfl)
  simp only [Act.put, List.setIfInBounds_toArray, List.set_cons_zero, List.set_cons_succ]
  refine' wpAnyH_take (i := 7) (oi := { dst := some 31, op := Go.Op.move (Go.Operand.tmp 0), type := 40, pos := "law.go:159", after := #[], guard := none }) (v := _) rfl (by kernel_rfl) (by kernel_rfl) (by kernel_rfl) (fun _ _ _ h => h) (Or.inl ⟨by rfl, ?hy17⟩) (by assumption) ?hr17
  case hy17 => (intro _ hSw; (try dsimp only at hSw); go_simp <;> with_reducible rfl)
  simp only [Act.put, List.setIfInBounds_toArray, List.set_cons_zero, List.set_cons_succ]
  refine' wpAnyH_take (i := 8) (oi := { dst := some 32, op := Go.Op.nilCheck (Go.Operand.tmp 31), type := 0, pos := "law.go:159", after := #[{ on := 7, ground := Go.Ground.data }], guard := none }) (v := _) rfl (by kernel_rfl) (by kernel_rfl) (by kernel_rfl) (fun _ _ _ h => h) (Or.inl ⟨by rfl, ?hy18⟩) (by assumption) ?hr18
  case hy18 => (intro _ hSw; (try dsimp only at hSw); go_simp <;> with_reducible rfl)
  simp only [Act.put, List.setIfInBounds_toArray, List.set_cons_zero, List.set_cons_succ]
  refine' wpAnyH_take (i := 9) (oi := { dst := some 33, op := Go.Op.fieldAddr 46 (Go.Operand.tmp 32) 2, type := 0, pos := "law.go:159", after := #[{ on := 8, ground := Go.Ground.data }], guard := none }) (v := _) rfl (by kernel_rfl) (by kernel_rfl) (by kernel_rfl) (fun _ _ _ h => h) (Or.inl ⟨by rfl, ?hy19⟩) (by assumption) ?hr19
  case hy19 => (intro _ hSw; (try dsimp only at hSw); go_simp <;> with_reducible rfl)
  simp only [Act.put, List.setIfInBounds_toArray, List.set_cons_zero, List.set_cons_succ]
  refine' wpAnyH_take (i := 10) (oi := { dst := some 34, op := Go.Op.load 44 (Go.Operand.tmp 33), type := 44, pos := "law.go:159", after := #[{ on := 9, ground := Go.Ground.data }], guard := none }) (v := _) rfl (by kernel_rfl) (by kernel_rfl) (by kernel_rfl) (fun _ _ _ h => h) (Or.inl ⟨by rfl, ?hy20⟩) (by assumption) ?hr20
  case hy20 => (intro _ hSw; (try dsimp only at hSw); have hc := cell_of (i := 2) (v := two b.bu) hSw.1 rfl; go_simp <;> with_reducible rfl)
  simp only [Act.put, List.setIfInBounds_toArray, List.set_cons_zero, List.set_cons_succ]
  refine' wpAnyH_take (i := 11) (oi := { dst := some 35, op := Go.Op.move (Go.Operand.tmp 5), type := 3, pos := "law.go:159", after := #[], guard := none }) (v := _) rfl (by kernel_rfl) (by kernel_rfl) (by kernel_rfl) (fun _ _ _ h => h) (Or.inl ⟨by rfl, ?hy21⟩) (by assumption) ?hr21
  case hy21 => (intro _ hSw; (try dsimp only at hSw); go_simp <;> with_reducible rfl)
  simp only [Act.put, List.setIfInBounds_toArray, List.set_cons_zero, List.set_cons_succ]
  refine' wpAnyH_take (i := 12) (oi := { dst := some 36, op := Go.Op.indexAddr 44 (Go.Operand.tmp 34) (Go.Operand.tmp 35), type := 0, pos := "law.go:159", after := #[{ on := 10, ground := Go.Ground.data }, { on := 11, ground := Go.Ground.data }], guard := none }) (v := _) rfl (by kernel_rfl) (by kernel_rfl) (by kernel_rfl) (fun _ _ _ h => h) (Or.inl ⟨by rfl, ?hy22⟩) (by assumption) ?hr22
  case hy22 => (intro _ hSw; (try dsimp only at hSw); go_simp <;> with_reducible rfl)
  simp only [Act.put, List.setIfInBounds_toArray, List.set_cons_zero, List.set_cons_succ]
  refine' wpAnyH_take (i := 13) (oi := { dst := some 37, op := Go.Op.load 3 (Go.Operand.tmp 36), type := 3, pos := "law.go:159", after := #[{ on := 12, ground := Go.Ground.data }], guard := none }) (v := _) rfl (by kernel_rfl) (by kernel_rfl) (by kernel_rfl) (fun _ _ _ h => h) (Or.inl ⟨by rfl, ?hy23⟩) (by assumption) ?hr23
  case hy23 => (intro _ hSw; (try dsimp only at hSw); have hc := cell_of (i := 0) (v := nm x.u0) hSw.2.2 rfl; go_simp <;> with_reducible rfl)
  simp only [Act.put, List.setIfInBounds_toArray, List.set_cons_zero, List.set_cons_succ]
  clear hHeld
  generalize w1.drew = w2 at H2 ⊢
  refine wpAnyH_ready (rs := [14]) (by kernel_rfl) (by simp) ?_
  refine AllReadyH.cons (o := { dst := some 38, op := Go.Op.call { callee := Go.Callee.value (Go.Operand.func 36), args := #[Go.Operand.tmp 37], argTypes := #[3] }, type := 9, pos := "law.go:159", after := #[{ on := 13, ground := Go.Ground.data }], guard := none }) rfl (fun K hK => ?_) AllReadyH.nil
  go_simp
  refine (HI.out _).mono ?_
  rintro _ w3 ⟨rfl, hb⟩
  have H3 := Lib.hid (H2.out.on hb)
  clear hb H2 HI
  go_wp2_with fail
  refine hK.out _ _ H3.out.held (fun hNext => ?_)
  clear hK K
  have hHeld := hNext
  clear hNext
  (try simp only [Act.put, List.setIfInBounds_toArray, List.set_cons_zero, List.set_cons_succ])
  clear hHeld
  refine wpAnyH_ready (rs := [15]) (by kernel_rfl) (by simp) ?_
  refine AllReadyH.cons (o := { dst := some 39, op := Go.Op.call { callee := Go.Callee.value (Go.Operand.func 18), args := #[Go.Operand.tmp 30, Go.Operand.tmp 38], argTypes := #[28, 9] }, type := 51, pos := "law.go:159", after := #[{ on := 6, ground := Go.Ground.data }, { on := 14, ground := Go.Ground.data }, { on := 14, ground := Go.Ground.chain }], guard := none }) rfl (fun K hK => ?_) AllReadyH.nil
  go_simp
  refine (opush0 H3.out HK.out.a _ A2 0 HPU.out).mono ?_
  rintro _ w4 ⟨rfl, h4⟩
  have H4 : Hid (PrE w0 b { x with A := A2 } w4) := Lib.hid h4
  clear h4 H3
  go_wp2_with fail
  refine hK.out _ _ H4.out.held (fun hNext => ?_)
  clear hK K
  have hHeld := hNext
  clear hNext
  (try simp only [Act.put, List.setIfInBounds_toArray, List.set_cons_zero, List.set_cons_succ])
  refine' wpAnyH_take (i := 16) (oi := { dst := some 40, op := Go.Op.binOp Go.BinOp.eql 51 (Go.Operand.tmp 39) (Go.Operand.const (Go.Value.int Go.IntKind.i64 0)) 51, type := 4, pos := "law.go:159", after := #[{ on := 15, ground := Go.Ground.data }], guard := none }) (v := _) rfl (by kernel_rfl) (by kernel_rfl) (by kernel_rfl) (fun _ _ _ h => h) (Or.inl ⟨by rfl, ?hy24⟩) (by assumption) ?hr24
  case hy24 => (intro _ hSw; (try dsimp only at hSw); go_simp <;> with_reducible rfl)
  simp only [Act.put, List.setIfInBounds_toArray, List.set_cons_zero, List.set_cons_succ]
  refine wpAnyH_done (by kernel_rfl) ?_ _
  clear hHeld
  obtain ⟨q0, q1, v0, v1, tag, hp⟩ := H4.out
  have c2 : w4.cell? ⟨b.tb, 2, none⟩ = some (two b.bu) := cell_of hp.blk rfl
  have cu : w4.cell? ⟨b.bu, 0, none⟩ = some (nm x.u0) := cell_of hp.u rfl
  have fu : ∀ i, w4.frozen? ⟨b.bu, i, none⟩ = false := fun _ => free_of hp.u
  have hub : x.u0 ≤ 1000 := Nat.le_trans HK.out.u0 HN.out
  have vk : IntKind.i64.wrap ((x.u0 : Int) + 1) = ((x.u0 + 1 : Nat) : Int) := by rw [IntKind.wrap_i64]; omega
  have H5 : Hid (PrE w0 b (pPush x) (w4.setCell ⟨b.bu, 0, none⟩ (.int .i64 ((x.u0 + 1 : Nat) : Int)))) := by
    have hq : (pPush x) = { x with A := A2, u0 := x.u0 + 1 } := by
      show ({ x with A := (Aq.push (inf x.u0) x.A).1, u0 := if (Aq.push (inf x.u0) x.A).2 = 0 then x.u0 + 1 else x.u0 } : Pr) = _
      rw [HPU.out]
      rfl
    rw [hq]
    exact Lib.hid ⟨_, _, _, _, _, hp.put_u (x.u0 + 1) x.u1 (chg_cell w4 b.bu 0 _) (block_set (i := 0) hp.u _)⟩
  have HY : Hid (Pok (N + 1) M (pPush x)) := Lib.hid (HK.out.push)
  clear hp H4 HPU
  clear q0 q1 v0 v1 tag
  obtain ⟨kn, hkn⟩ : ∃ kn, x.u0 + 1 = kn := ⟨_, rfl⟩
  rw [hkn] at vk H5
  clear hub hkn
  go_wp2_with fail
  generalize w4.setCell ⟨b.bu, 0, none⟩ (.int .i64 (kn : Int)) = w5 at H5 ⊢
  have HR := Lib.hid (oright H5.out HY.out (Nat.le_trans (Nat.add_le_add_right HN.out 1) (by decide)))
  clear HY HK c2 cu fu vk HN HM
  go_wp2_with fail
  refine HR.out.mono ?_
  rintro _ w9 ⟨rfl, h9⟩
  have H9 := Lib.hid h9
  clear h9 HR
  go_wp2
  go_ret
  exact ⟨rfl, H9.out⟩
set_option maxHeartbeats 4000000 in
set_option maxRecDepth 100000 in
theorem fst0_0_3 (w0 w : World) (b : Bk) (x : Pr) (N M : Nat) (h : PrE w0 b x w) (hk : Pok N M x) (hN : N ≤ 1000) (hM : M ≤ 1000) (d : Nat) (hd : (d : Int) % 9 = 0) (on : Bool) (A2 : Sd) (hp : Aq.push (inf x.u0) x.A = (A2, 3)) :
    Calls Try.prog 17 #[ptr b.tb, .agg #[.int .u8 (d : Int), .bool false, .bool on]] w fun e w' => e = .returned (.bool true) ∧ PrE w0 b (pPush x) w' := by
  have HP := Lib.hid (h.on (show Below w.heap.size w (w.alloc (.cells #[.int .u8 (d : Int), .bool false, .bool on] 49 (0, 0))) from nest_below w [_]))
  have HK := Lib.hid hk
  have HN := Lib.hid hN
  have HM := Lib.hid hM
  have hn : (w.alloc (.cells #[.int .u8 (d : Int), .bool false, .bool on] 49 (0, 0))).heap[w.heap.size]? = some (.cells #[.int .u8 (d : Int), .bool false, .bool on] 49 (0, 0)) := nest w [_] 0 _ rfl
  have HLT := Lib.hid h.lt
  clear h hk hN hM
  go_enter Try.func17, Try.ntmps17
  go_upto_region 1 with fail
  generalize w.alloc (.cells #[.int .u8 (d : Int), .bool false, .bool on] 49 (0, 0)) = w1 at HP hn ⊢
  generalize w.heap.size = sb at hn HLT ⊢
  obtain ⟨⟨c0, c1, c2⟩, -⟩ := cells3 hn
  go_wp2_with fail
  have HPU := Lib.hid hp
  have HI : Hid (∀ w, Calls Try.prog 36 #[.int .i64 (x.u0 : Int)] w fun e w' => e = .returned (.string (inf x.u0)) ∧ Below w.heap.size w w') := Lib.hid (finf x.u0 (Nat.le_trans HK.out.u0 (Nat.le_trans HN.out (by decide))))
  have H2 := Lib.hid (HP.out.on (w' := w1.drew) ⟨rfl, rfl, rfl, Nat.le_refl _, fun _ _ => rfl⟩)
  clear hn c0 c1 c2 hp HP
  refine wp_region_held_drew (S := (fun w' => w'.heap[b.tb]? = some (.cells #[two b.ba, two b.bl, two b.bu, two b.bk, .bool x.bad] 46 (0, 0)) ∧ w'.heap[b.ba]? = some (.cells #[ptr b.p0, ptr b.p1] 28 (0, 0)) ∧ w'.heap[b.bu]? = some (.cells #[nm x.u0, nm x.u1] 3 (0, 0)))) (by kernel_rfl) H2.out.held (fun hHeld => ?_)
  refine' wpAnyH_take (i := 0) (oi := { dst := some 24, op := Go.Op.move (Go.Operand.tmp 0), type := 40, pos := "law.go:159", after := #[], guard := none }) (v := _) rfl (by kernel_rfl) (by kernel_rfl) (by kernel_rfl) (fun _ _ _ h => h) (Or.inl ⟨by rfl, ?hy25⟩) (by assumption) ?hr25
  case hy25 => (intro _ hSw; (try dsimp only at hSw); go_simp <;> with_reducible rfl)
  simp only [Act.put, List.setIfInBounds_toArray, List.set_cons_zero, List.set_cons_succ]
  refine' wpAnyH_take (i := 1) (oi := { dst := some 25, op := Go.Op.nilCheck (Go.Operand.tmp 24), type := 0, pos := "law.go:159", after := #[{ on := 0, ground := Go.Ground.data }], guard := none }) (v := _) rfl (by kernel_rfl) (by kernel_rfl) (by kernel_rfl) (fun _ _ _ h => h) (Or.inl ⟨by rfl, ?hy26⟩) (by assumption) ?hr26
  case hy26 => (intro _ hSw; (try dsimp only at hSw); go_simp <;> with_reducible rfl)
  simp only [Act.put, List.setIfInBounds_toArray, List.set_cons_zero, List.set_cons_succ]
  refine' wpAnyH_take (i := 2) (oi := { dst := some 26, op := Go.Op.fieldAddr 46 (Go.Operand.tmp 25) 0, type := 0, pos := "law.go:159", after := #[{ on := 1, ground := Go.Ground.data }], guard := none }) (v := _) rfl (by kernel_rfl) (by kernel_rfl) (by kernel_rfl) (fun _ _ _ h => h) (Or.inl ⟨by rfl, ?hy27⟩) (by assumption) ?hr27
  case hy27 => (intro _ hSw; (try dsimp only at hSw); go_simp <;> with_reducible rfl)
  simp only [Act.put, List.setIfInBounds_toArray, List.set_cons_zero, List.set_cons_succ]
  refine' wpAnyH_take (i := 3) (oi := { dst := some 27, op := Go.Op.load 42 (Go.Operand.tmp 26), type := 42, pos := "law.go:159", after := #[{ on := 2, ground := Go.Ground.data }], guard := none }) (v := _) rfl (by kernel_rfl) (by kernel_rfl) (by kernel_rfl) (fun _ _ _ h => h) (Or.inl ⟨by rfl, ?hy28⟩) (by assumption) ?hr28
  case hy28 => (intro _ hSw; (try dsimp only at hSw); have hc := cell_of (i := 0) (v := two b.ba) hSw.1 rfl; go_simp <;> with_reducible rfl)
  simp only [Act.put, List.setIfInBounds_toArray, List.set_cons_zero, List.set_cons_succ]
  refine' wpAnyH_take (i := 4) (oi := { dst := some 28, op := Go.Op.move (Go.Operand.tmp 5), type := 3, pos := "law.go:159", after := #[], guard := none }) (v := _) rfl (by kernel_rfl) (by kernel_rfl) (by kernel_rfl) (fun _ _ _ h => h) (Or.inl ⟨by rfl, ?hy29⟩) (by assumption) ?hr29
  case hy29 => (intro _ hSw; (try dsimp only at hSw); go_simp <;> with_reducible rfl)
  simp only [Act.put, List.setIfInBounds_toArray, List.set_cons_zero, List.set_cons_succ]
  refine' wpAnyH_take (i := 5) (oi := { dst := some 29, op := Go.Op.indexAddr 42 (Go.Operand.tmp 27) (Go.Operand.tmp 28), type := 0, pos := "law.go:159", after := #[{ on := 3, ground := Go.Ground.data }, { on := 4, ground := Go.Ground.data }], guard := none }) (v := _) rfl (by kernel_rfl) (by kernel_rfl) (by kernel_rfl) (fun _ _ _ h => h) (Or.inl ⟨by rfl, ?hy30⟩) (by assumption) ?hr30
  case hy30 => (intro _ hSw; (try dsimp only at hSw); go_simp <;> with_reducible rfl)
  simp only [Act.put, List.setIfInBounds_toArray, List.set_cons_zero, List.set_cons_succ]
  refine' wpAnyH_take (i := 6) (oi := { dst := some 30, op := Go.Op.load 28 (Go.Operand.tmp 29), type := 28, pos := "law.go:159", after := #[{ on := 5, ground := Go.Ground.data }], guard := none }) (v := _) rfl (by kernel_rfl) (by kernel_rfl) (by kernel_rfl) (fun _ _ _ h => h) (Or.inl ⟨by rfl, ?hy31⟩) (by assumption) ?hr31
  case hy31 => (intro _ hSw; (try dsimp only at hSw); have hc := cell_of (i := 0) (v := ptr b.p0) hSw.2.1 rfl; go_simp <;> with_reducible rfl)
  simp only [Act.put, List.setIfInBounds_toArray, List.set_cons_zero, List.set_cons_succ]
  refine' wpAnyH_take (i := 7) (oi := { dst := some 31, op := Go.Op.move (Go.Operand.tmp 0), type := 40, pos := "law.go:159", after := #[], guard := none }) (v := _) rfl (by kernel_rfl) (by kernel_rfl) (by kernel_rfl) (fun _ _ _ h => h) (Or.inl ⟨by rfl, ?hy32⟩) (by assumption) ?hr32
  case hy32 => (intro _ hSw; (try dsimp only at hSw); go_simp <;> with_reducible rfl)
  simp only [Act.put, List.setIfInBounds_toArray, List.set_cons_zero, List.set_cons_succ]
  refine' wpAnyH_take (i := 8) (oi := { dst := some 32, op := Go.Op.nilCheck (Go.Operand.tmp 31), type := 0, pos := "law.go:159", after := #[{ on := 7, ground := Go.Ground.data }], guard := none }) (v := _) rfl (by kernel_rfl) (by kernel_rfl) (by kernel_rfl) (fun _ _ _ h => h) (Or.inl ⟨by rfl, ?hy33⟩) (by assumption) ?hr33
  case hy33 => (intro _ hSw; (try dsimp only at hSw); go_simp <;> with_reducible rfl)
  simp only [Act.put, List.setIfInBounds_toArray, List.set_cons_zero, List.set_cons_succ]
  refine' wpAnyH_take (i := 9) (oi := { dst := some 33, op := Go.Op.fieldAddr 46 (Go.Operand.tmp 32) 2, type := 0, pos := "law.go:159", after := #[{ on := 8, ground := Go.Ground.data }], guard := none }) (v := _) rfl (by kernel_rfl) (by kernel_rfl) (by kernel_rfl) (fun _ _ _ h => h) (Or.inl ⟨by rfl, ?hy34⟩) (by assumption) ?hr34
  case hy34 => (intro _ hSw; (try dsimp only at hSw); go_simp <;> with_reducible rfl)
  simp only [Act.put, List.setIfInBounds_toArray, List.set_cons_zero, List.set_cons_succ]
  refine' wpAnyH_take (i := 10) (oi := { dst := some 34, op := Go.Op.load 44 (Go.Operand.tmp 33), type := 44, pos := "law.go:159", after := #[{ on := 9, ground := Go.Ground.data }], guard := none }) (v := _) rfl (by kernel_rfl) (by kernel_rfl) (by kernel_rfl) (fun _ _ _ h => h) (Or.inl ⟨by rfl, ?hy35⟩) (by assumption) ?hr35
  case hy35 => (intro _ hSw; (try dsimp only at hSw); have hc := cell_of (i := 2) (v := two b.bu) hSw.1 rfl; go_simp <;> with_reducible rfl)
  simp only [Act.put, List.setIfInBounds_toArray, List.set_cons_zero, List.set_cons_succ]
  refine' wpAnyH_take (i := 11) (oi := { dst := some 35, op := Go.Op.move (Go.Operand.tmp 5), type := 3, pos := "law.go:159", after := #[], guard := none }) (v := _) rfl (by kernel_rfl) (by kernel_rfl) (by kernel_rfl) (fun _ _ _ h => h) (Or.inl ⟨by rfl, ?hy36⟩) (by assumption) ?hr36
  case hy36 => (intro _ hSw; (try dsimp only at hSw); go_simp <;> with_reducible rfl)
  simp only [Act.put, List.setIfInBounds_toArray, List.set_cons_zero, List.set_cons_succ]
  refine' wpAnyH_take (i := 12) (oi := { dst := some 36, op := Go.Op.indexAddr 44 (Go.Operand.tmp 34) (Go.Operand.tmp 35), type := 0, pos := "law.go:159", after := #[{ on := 10, ground := Go.Ground.data }, { on := 11, ground := Go.Ground.data }], guard := none }) (v := _) rfl (by kernel_rfl) (by kernel_rfl) (by kernel_rfl) (fun _ _ _ h => h) (Or.inl ⟨by rfl, ?hy37⟩) (by assumption) ?hr37
  case hy37 => (intro _ hSw; (try dsimp only at hSw); go_simp <;> with_reducible rfl)
  simp only [Act.put, List.setIfInBounds_toArray, List.set_cons_zero, List.set_cons_succ]
  refine' wpAnyH_take (i := 13) (oi := { dst := some 37, op := Go.Op.load 3 (Go.Operand.tmp 36), type := 3, pos := "law.go:159", after := #[{ on := 12, ground := Go.Ground.data }], guard := none }) (v := _) rfl (by kernel_rfl) (by kernel_rfl) (by kernel_rfl) (fun _ _ _ h => h) (Or.inl ⟨by rfl, ?hy38⟩) (by assumption) ?hr38
  case hy38 => (intro _ hSw; (try dsimp only at hSw); have hc := cell_of (i := 0) (v := nm x.u0) hSw.2.2 rfl; go_simp <;> with_reducible rfl)
  simp only [Act.put, List.setIfInBounds_toArray, List.set_cons_zero, List.set_cons_succ]
  clear hHeld
  generalize w1.drew = w2 at H2 ⊢
  refine wpAnyH_ready (rs := [14]) (by kernel_rfl) (by simp) ?_
  refine AllReadyH.cons (o := { dst := some 38, op := Go.Op.call { callee := Go.Callee.value (Go.Operand.func 36), args := #[Go.Operand.tmp 37], argTypes := #[3] }, type := 9, pos := "law.go:159", after := #[{ on := 13, ground := Go.Ground.data }], guard := none }) rfl (fun K hK => ?_) AllReadyH.nil
  go_simp
  refine (HI.out _).mono ?_
  rintro _ w3 ⟨rfl, hb⟩
  have H3 := Lib.hid (H2.out.on hb)
  clear hb H2 HI
  go_wp2_with fail
  refine hK.out _ _ H3.out.held (fun hNext => ?_)
  clear hK K
  have hHeld := hNext
  clear hNext
  (try simp only [Act.put, List.setIfInBounds_toArray, List.set_cons_zero, List.set_cons_succ])
  clear hHeld
  refine wpAnyH_ready (rs := [15]) (by kernel_rfl) (by simp) ?_
  refine AllReadyH.cons (o := { dst := some 39, op := Go.Op.call { callee := Go.Callee.value (Go.Operand.func 18), args := #[Go.Operand.tmp 30, Go.Operand.tmp 38], argTypes := #[28, 9] }, type := 51, pos := "law.go:159", after := #[{ on := 6, ground := Go.Ground.data }, { on := 14, ground := Go.Ground.data }, { on := 14, ground := Go.Ground.chain }], guard := none }) rfl (fun K hK => ?_) AllReadyH.nil
  go_simp
  refine (opush0 H3.out HK.out.a _ A2 3 HPU.out).mono ?_
  rintro _ w4 ⟨rfl, h4⟩
  have H4 : Hid (PrE w0 b { x with A := A2 } w4) := Lib.hid h4
  clear h4 H3
  go_wp2_with fail
  refine hK.out _ _ H4.out.held (fun hNext => ?_)
  clear hK K
  have hHeld := hNext
  clear hNext
  (try simp only [Act.put, List.setIfInBounds_toArray, List.set_cons_zero, List.set_cons_succ])
  refine' wpAnyH_take (i := 16) (oi := { dst := some 40, op := Go.Op.binOp Go.BinOp.eql 51 (Go.Operand.tmp 39) (Go.Operand.const (Go.Value.int Go.IntKind.i64 0)) 51, type := 4, pos := "law.go:159", after := #[{ on := 15, ground := Go.Ground.data }], guard := none }) (v := _) rfl (by kernel_rfl) (by kernel_rfl) (by kernel_rfl) (fun _ _ _ h => h) (Or.inl ⟨by rfl, ?hy39⟩) (by assumption) ?hr39
  case hy39 => (intro _ hSw; (try dsimp only at hSw); go_simp <;> with_reducible rfl)
  simp only [Act.put, List.setIfInBounds_toArray, List.set_cons_zero, List.set_cons_succ]
  refine wpAnyH_done (by kernel_rfl) ?_ _
  clear hHeld
  have H5 : Hid (PrE w0 b (pPush x) w4) := by
    have hq : (pPush x) = { x with A := A2 } := by
      show ({ x with A := (Aq.push (inf x.u0) x.A).1, u0 := if (Aq.push (inf x.u0) x.A).2 = 0 then x.u0 + 1 else x.u0 } : Pr) = _
      rw [HPU.out]
      rfl
    rw [hq]
    exact H4
  clear H4
  have HR := Lib.hid (oright H5.out (HK.out.push) (Nat.le_trans (Nat.add_le_add_right HN.out 1) (by decide)))
  clear HK HN HM
  go_wp2_with fail
  refine HR.out.mono ?_
  rintro _ w9 ⟨rfl, h9⟩
  have H9 := Lib.hid h9
  clear h9 HR
  go_wp2
  go_ret
  exact ⟨rfl, H9.out⟩
set_option maxHeartbeats 4000000 in
set_option maxRecDepth 100000 in
theorem fst0_0_4 (w0 w : World) (b : Bk) (x : Pr) (N M : Nat) (h : PrE w0 b x w) (hk : Pok N M x) (hN : N ≤ 1000) (hM : M ≤ 1000) (d : Nat) (hd : (d : Int) % 9 = 0) (on : Bool) (A2 : Sd) (hp : Aq.push (inf x.u0) x.A = (A2, 4)) :
    Calls Try.prog 17 #[ptr b.tb, .agg #[.int .u8 (d : Int), .bool false, .bool on]] w fun e w' => e = .returned (.bool true) ∧ PrE w0 b (pPush x) w' := by
  have HP := Lib.hid (h.on (show Below w.heap.size w (w.alloc (.cells #[.int .u8 (d : Int), .bool false, .bool on] 49 (0, 0))) from nest_below w [_]))
  have HK := Lib.hid hk
  have HN := Lib.hid hN
  have HM := Lib.hid hM
  have hn : (w.alloc (.cells #[.int .u8 (d : Int), .bool false, .bool on] 49 (0, 0))).heap[w.heap.size]? = some (.cells #[.int .u8 (d : Int), .bool false, .bool on] 49 (0, 0)) := nest w [_] 0 _ rfl
  have HLT := Lib.hid h.lt
  clear h hk hN hM
  go_enter Try.func17, Try.ntmps17
  go_upto_region 1 with fail
  generalize w.alloc (.cells #[.int .u8 (d : Int), .bool false, .bool on] 49 (0, 0)) = w1 at HP hn ⊢
  generalize w.heap.size = sb at hn HLT ⊢
  obtain ⟨⟨c0, c1, c2⟩, -⟩ := cells3 hn
  go_wp2_with fail
  have HPU := Lib.hid hp
  have HI : Hid (∀ w, Calls Try.prog 36 #[.int .i64 (x.u0 : Int)] w fun e w' => e = .returned (.string (inf x.u0)) ∧ Below w.heap.size w w') := Lib.hid (finf x.u0 (Nat.le_trans HK.out.u0 (Nat.le_trans HN.out (by decide))))
  have H2 := Lib.hid (HP.out.on (w' := w1.drew) ⟨rfl, rfl, rfl, Nat.le_refl _, fun _ _ => rfl⟩)
  clear hn c0 c1 c2 hp HP
  refine wp_region_held_drew (S := (fun w' => w'.heap[b.tb]? = some (.cells #[two b.ba, two b.bl, two b.bu, two b.bk, .bool x.bad] 46 (0, 0)) ∧ w'.heap[b.ba]? = some (.cells #[ptr b.p0, ptr b.p1] 28 (0, 0)) ∧ w'.heap[b.bu]? = some (.cells #[nm x.u0, nm x.u1] 3 (0, 0)))) (by kernel_rfl) H2.out.held (fun hHeld => ?_)
  refine' wpAnyH_take (i := 0) (oi := { dst := some 24, op := Go.Op.move (Go.Operand.tmp 0), type := 40, pos := "law.go:159", after := #[], guard := none }) (v := _) rfl (by kernel_rfl) (by kernel_rfl) (by kernel_rfl) (fun _ _ _ h => h) (Or.inl ⟨by rfl, ?hy40⟩) (by assumption) ?hr40
  case hy40 => (intro _ hSw; (try dsimp only at hSw); go_simp <;> with_reducible rfl)
  simp only [Act.put, List.setIfInBounds_toArray, List.set_cons_zero, List.set_cons_succ]
  refine' wpAnyH_take (i := 1) (oi := { dst := some 25, op := Go.Op.nilCheck (Go.Operand.tmp 24), type := 0, pos := "law.go:159", after := #[{ on := 0, ground := Go.Ground.data }], guard := none }) (v := _) rfl (by kernel_rfl) (by kernel_rfl) (by kernel_rfl) (fun _ _ _ h => h) (Or.inl ⟨by rfl, ?hy41⟩) (by assumption) ?hr41
  case hy41 => (intro _ hSw; (try dsimp only at hSw); go_simp <;> with_reducible rfl)
  simp only [Act.put, List.setIfInBounds_toArray, List.set_cons_zero, List.set_cons_succ]
  refine' wpAnyH_take (i := 2) (oi := { dst := some 26, op := Go.Op.fieldAddr 46 (Go.Operand.tmp 25) 0, type := 0, pos := "law.go:159", after := #[{ on := 1, ground := Go.Ground.data }], guard := none }) (v := _) rfl (by kernel_rfl) (by kernel_rfl) (by kernel_rfl) (fun _ _ _ h => h) (Or.inl ⟨by rfl, ?hy42⟩) (by assumption) ?hr42
  case hy42 => (intro _ hSw; (try dsimp only at hSw); go_simp <;> with_reducible rfl)
  simp only [Act.put, List.setIfInBounds_toArray, List.set_cons_zero, List.set_cons_succ]
  refine' wpAnyH_take (i := 3) (oi := { dst := some 27, op := Go.Op.load 42 (Go.Operand.tmp 26), type := 42, pos := "law.go:159", after := #[{ on := 2, ground := Go.Ground.data }], guard := none }) (v := _) rfl (by kernel_rfl) (by kernel_rfl) (by kernel_rfl) (fun _ _ _ h => h) (Or.inl ⟨by rfl, ?hy43⟩) (by assumption) ?hr43
  case hy43 => (intro _ hSw; (try dsimp only at hSw); have hc := cell_of (i := 0) (v := two b.ba) hSw.1 rfl; go_simp <;> with_reducible rfl)
  simp only [Act.put, List.setIfInBounds_toArray, List.set_cons_zero, List.set_cons_succ]
  refine' wpAnyH_take (i := 4) (oi := { dst := some 28, op := Go.Op.move (Go.Operand.tmp 5), type := 3, pos := "law.go:159", after := #[], guard := none }) (v := _) rfl (by kernel_rfl) (by kernel_rfl) (by kernel_rfl) (fun _ _ _ h => h) (Or.inl ⟨by rfl, ?hy44⟩) (by assumption) ?hr44
  case hy44 => (intro _ hSw; (try dsimp only at hSw); go_simp <;> with_reducible rfl)
  simp only [Act.put, List.setIfInBounds_toArray, List.set_cons_zero, List.set_cons_succ]
  refine' wpAnyH_take (i := 5) (oi := { dst := some 29, op := Go.Op.indexAddr 42 (Go.Operand.tmp 27) (Go.Operand.tmp 28), type := 0, pos := "law.go:159", after := #[{ on := 3, ground := Go.Ground.data }, { on := 4, ground := Go.Ground.data }], guard := none }) (v := _) rfl (by kernel_rfl) (by kernel_rfl) (by kernel_rfl) (fun _ _ _ h => h) (Or.inl ⟨by rfl, ?hy45⟩) (by assumption) ?hr45
  case hy45 => (intro _ hSw; (try dsimp only at hSw); go_simp <;> with_reducible rfl)
  simp only [Act.put, List.setIfInBounds_toArray, List.set_cons_zero, List.set_cons_succ]
  refine' wpAnyH_take (i := 6) (oi := { dst := some 30, op := Go.Op.load 28 (Go.Operand.tmp 29), type := 28, pos := "law.go:159", after := #[{ on := 5, ground := Go.Ground.data }], guard := none }) (v := _) rfl (by kernel_rfl) (by kernel_rfl) (by kernel_rfl) (fun _ _ _ h => h) (Or.inl ⟨by rfl, ?hy46⟩) (by assumption) ?hr46
  case hy46 => (intro _ hSw; (try dsimp only at hSw); have hc := cell_of (i := 0) (v := ptr b.p0) hSw.2.1 rfl; go_simp <;> with_reducible rfl)
  simp only [Act.put, List.setIfInBounds_toArray, List.set_cons_zero, List.set_cons_succ]
  refine' wpAnyH_take (i := 7) (oi := { dst := some 31, op := Go.Op.move (Go.Operand.tmp 0), type := 40, pos := "law.go:159", after := #[], guard := none }) (v := _) rfl (by kernel_rfl) (by kernel_rfl) (by kernel_rfl) (fun _ _ _ h => h) (Or.inl ⟨by rfl, ?hy47⟩) (by assumption) ?hr47
  case hy47 => (intro _ hSw; (try dsimp only at hSw); go_simp <;> with_reducible rfl)
  simp only [Act.put, List.setIfInBounds_toArray, List.set_cons_zero, List.set_cons_succ]
  refine' wpAnyH_take (i := 8) (oi := { dst := some 32, op := Go.Op.nilCheck (Go.Operand.tmp 31), type := 0, pos := "law.go:159", after := #[{ on := 7, ground := Go.Ground.data }], guard := none }) (v := _) rfl (by kernel_rfl) (by kernel_rfl) (by kernel_rfl) (fun _ _ _ h => h) (Or.inl ⟨by rfl, ?hy48⟩) (by assumption) ?hr48
  case hy48 => (intro _ hSw; (try dsimp only at hSw); go_simp <;> with_reducible rfl)
  simp only [Act.put, List.setIfInBounds_toArray, List.set_cons_zero, List.set_cons_succ]
  refine' wpAnyH_take (i := 9) (oi := { dst := some 33, op := Go.Op.fieldAddr 46 (Go.Operand.tmp 32) 2, type := 0, pos := "law.go:159", after := #[{ on := 8, ground := Go.Ground.data }], guard := none }) (v := _) rfl (by kernel_rfl) (by kernel_rfl) (by kernel_rfl) (fun _ _ _ h => h) (Or.inl ⟨by rfl, ?hy49⟩) (by assumption) ?hr49
  case hy49 => (intro _ hSw; (try dsimp only at hSw); go_simp <;> with_reducible rfl)
  simp only [Act.put, List.setIfInBounds_toArray, List.set_cons_zero, List.set_cons_succ]
  refine' wpAnyH_take (i := 10) (oi := { dst := some 34, op := Go.Op.load 44 (Go.Operand.tmp 33), type := 44, pos := "law.go:159", after := #[{ on := 9, ground := Go.Ground.data }], guard := none }) (v := _) rfl (by kernel_rfl) (by kernel_rfl) (by kernel_rfl) (fun _ _ _ h => h) (Or.inl ⟨by rfl, ?hy50⟩) (by assumption) ?hr50
  case hy50 => (intro _ hSw; (try dsimp only at hSw); have hc := cell_of (i := 2) (v := two b.bu) hSw.1 rfl; go_simp <;> with_reducible rfl)
  simp only [Act.put, List.setIfInBounds_toArray, List.set_cons_zero, List.set_cons_succ]
  refine' wpAnyH_take (i := 11) (oi := { dst := some 35, op := Go.Op.move (Go.Operand.tmp 5), type := 3, pos := "law.go:159", after := #[], guard := none }) (v := _) rfl (by kernel_rfl) (by kernel_rfl) (by kernel_rfl) (fun _ _ _ h => h) (Or.inl ⟨by rfl, ?hy51⟩) (by assumption) ?hr51
  case hy51 => (intro _ hSw; (try dsimp only at hSw); go_simp <;> with_reducible rfl)
  simp only [Act.put, List.setIfInBounds_toArray, List.set_cons_zero, List.set_cons_succ]
  refine' wpAnyH_take (i := 12) (oi := { dst := some 36, op := Go.Op.indexAddr 44 (Go.Operand.tmp 34) (Go.Operand.tmp 35), type := 0, pos := "law.go:159", after := #[{ on := 10, ground := Go.Ground.data }, { on := 11, ground := Go.Ground.data }], guard := none }) (v := _) rfl (by kernel_rfl) (by kernel_rfl) (by kernel_rfl) (fun _ _ _ h => h) (Or.inl ⟨by rfl, ?hy52⟩) (by assumption) ?hr52
  case hy52 => (intro _ hSw; (try dsimp only at hSw); go_simp <;> with_reducible rfl)
  simp only [Act.put, List.setIfInBounds_toArray, List.set_cons_zero, List.set_cons_succ]
  refine' wpAnyH_take (i := 13) (oi := { dst := some 37, op := Go.Op.load 3 (Go.Operand.tmp 36), type := 3, pos := "law.go:159", after := #[{ on := 12, ground := Go.Ground.data }], guard := none }) (v := _) rfl (by kernel_rfl) (by kernel_rfl) (by kernel_rfl) (fun _ _ _ h => h) (Or.inl ⟨by rfl, ?hy53⟩) (by assumption) ?hr53
  case hy53 => (intro _ hSw; (try dsimp only at hSw); have hc := cell_of (i := 0) (v := nm x.u0) hSw.2.2 rfl; go_simp <;> with_reducible rfl)
  simp only [Act.put, List.setIfInBounds_toArray, List.set_cons_zero, List.set_cons_succ]
  clear hHeld
  generalize w1.drew = w2 at H2 ⊢
  refine wpAnyH_ready (rs := [14]) (by kernel_rfl) (by simp) ?_
  refine AllReadyH.cons (o := { dst := some 38, op := Go.Op.call { callee := Go.Callee.value (Go.Operand.func 36), args := #[Go.Operand.tmp 37], argTypes := #[3] }, type := 9, pos := "law.go:159", after := #[{ on := 13, ground := Go.Ground.data }], guard := none }) rfl (fun K hK => ?_) AllReadyH.nil
  go_simp
  refine (HI.out _).mono ?_
  rintro _ w3 ⟨rfl, hb⟩
  have H3 := Lib.hid (H2.out.on hb)
  clear hb H2 HI
  go_wp2_with fail
  refine hK.out _ _ H3.out.held (fun hNext => ?_)
  clear hK K
  have hHeld := hNext
  clear hNext
  (try simp only [Act.put, List.setIfInBounds_toArray, List.set_cons_zero, List.set_cons_succ])
  clear hHeld
  refine wpAnyH_ready (rs := [15]) (by kernel_rfl) (by simp) ?_
  refine AllReadyH.cons (o := { dst := some 39, op := Go.Op.call { callee := Go.Callee.value (Go.Operand.func 18), args := #[Go.Operand.tmp 30, Go.Operand.tmp 38], argTypes := #[28, 9] }, type := 51, pos := "law.go:159", after := #[{ on := 6, ground := Go.Ground.data }, { on := 14, ground := Go.Ground.data }, { on := 14, ground := Go.Ground.chain }], guard := none }) rfl (fun K hK => ?_) AllReadyH.nil
  go_simp
  refine (opush0 H3.out HK.out.a _ A2 4 HPU.out).mono ?_
  rintro _ w4 ⟨rfl, h4⟩
  have H4 : Hid (PrE w0 b { x with A := A2 } w4) := Lib.hid h4
  clear h4 H3
  go_wp2_with fail
  refine hK.out _ _ H4.out.held (fun hNext => ?_)
  clear hK K
  have hHeld := hNext
  clear hNext
  (try simp only [Act.put, List.setIfInBounds_toArray, List.set_cons_zero, List.set_cons_succ])
  refine' wpAnyH_take (i := 16) (oi := { dst := some 40, op := Go.Op.binOp Go.BinOp.eql 51 (Go.Operand.tmp 39) (Go.Operand.const (Go.Value.int Go.IntKind.i64 0)) 51, type := 4, pos := "law.go:159", after := #[{ on := 15, ground := Go.Ground.data }], guard := none }) (v := _) rfl (by kernel_rfl) (by kernel_rfl) (by kernel_rfl) (fun _ _ _ h => h) (Or.inl ⟨by rfl, ?hy54⟩) (by assumption) ?hr54
  case hy54 => (intro _ hSw; (try dsimp only at hSw); go_simp <;> with_reducible rfl)
  simp only [Act.put, List.setIfInBounds_toArray, List.set_cons_zero, List.set_cons_succ]
  refine wpAnyH_done (by kernel_rfl) ?_ _
  clear hHeld
  have H5 : Hid (PrE w0 b (pPush x) w4) := by
    have hq : (pPush x) = { x with A := A2 } := by
      show ({ x with A := (Aq.push (inf x.u0) x.A).1, u0 := if (Aq.push (inf x.u0) x.A).2 = 0 then x.u0 + 1 else x.u0 } : Pr) = _
      rw [HPU.out]
      rfl
    rw [hq]
    exact H4
  clear H4
  have HR := Lib.hid (oright H5.out (HK.out.push) (Nat.le_trans (Nat.add_le_add_right HN.out 1) (by decide)))
  clear HK HN HM
  go_wp2_with fail
  refine HR.out.mono ?_
  rintro _ w9 ⟨rfl, h9⟩
  have H9 := Lib.hid h9
  clear h9 HR
  go_wp2
  go_ret
  exact ⟨rfl, H9.out⟩
set_option maxHeartbeats 4000000 in
set_option maxRecDepth 100000 in
theorem fst1_0_0 (w0 w : World) (b : Bk) (x : Pr) (N M : Nat) (h : PrE w0 b x w) (hk : Pok N M x) (hN : N ≤ 1000) (hM : M ≤ 1000) (d : Nat) (hd : (d : Int) % 9 = 1) (on : Bool) (A2 : Sd) (hp : Aq.push (inf x.u0) x.A = (A2, 0)) :
    Calls Try.prog 17 #[ptr b.tb, .agg #[.int .u8 (d : Int), .bool false, .bool on]] w fun e w' => e = .returned (.bool true) ∧ PrE w0 b (pPush x) w' := by
  have HP := Lib.hid (h.on (show Below w.heap.size w (w.alloc (.cells #[.int .u8 (d : Int), .bool false, .bool on] 49 (0, 0))) from nest_below w [_]))
  have HK := Lib.hid hk
  have HN := Lib.hid hN
  have HM := Lib.hid hM
  have hn : (w.alloc (.cells #[.int .u8 (d : Int), .bool false, .bool on] 49 (0, 0))).heap[w.heap.size]? = some (.cells #[.int .u8 (d : Int), .bool false, .bool on] 49 (0, 0)) := nest w [_] 0 _ rfl
  have HLT := Lib.hid h.lt
  clear h hk hN hM
  go_enter Try.func17, Try.ntmps17
  go_upto_region 1 with fail
  generalize w.alloc (.cells #[.int .u8 (d : Int), .bool false, .bool on] 49 (0, 0)) = w1 at HP hn ⊢
  generalize w.heap.size = sb at hn HLT ⊢
  obtain ⟨⟨c0, c1, c2⟩, -⟩ := cells3 hn
  go_wp2_with fail
  have HPU := Lib.hid hp
  have HI : Hid (∀ w, Calls Try.prog 36 #[.int .i64 (x.u0 : Int)] w fun e w' => e = .returned (.string (inf x.u0)) ∧ Below w.heap.size w w') := Lib.hid (finf x.u0 (Nat.le_trans HK.out.u0 (Nat.le_trans HN.out (by decide))))
  have H2 := Lib.hid (HP.out.on (w' := w1.drew) ⟨rfl, rfl, rfl, Nat.le_refl _, fun _ _ => rfl⟩)
  clear hn c0 c1 c2 hp HP
  refine wp_region_held_drew (S := (fun w' => w'.heap[b.tb]? = some (.cells #[two b.ba, two b.bl, two b.bu, two b.bk, .bool x.bad] 46 (0, 0)) ∧ w'.heap[b.ba]? = some (.cells #[ptr b.p0, ptr b.p1] 28 (0, 0)) ∧ w'.heap[b.bu]? = some (.cells #[nm x.u0, nm x.u1] 3 (0, 0)))) (by kernel_rfl) H2.out.held (fun hHeld => ?_)
  refine' wpAnyH_take (i := 0) (oi := { dst := some 24, op := Go.Op.move (Go.Operand.tmp 0), type := 40, pos := "law.go:159", after := #[], guard := none }) (v := _) rfl (by kernel_rfl) (by kernel_rfl) (by kernel_rfl) (fun _ _ _ h => h) (Or.inl ⟨by rfl, ?hy55⟩) (by assumption) ?hr55
  case hy55 => (intro _ hSw; (try dsimp only at hSw); go_simp <;> with_reducible rfl)
  simp only [Act.put, List.setIfInBounds_toArray, List.set_cons_zero, List.set_cons_succ]
  refine' wpAnyH_take (i := 1) (oi := { dst := some 25, op := Go.Op.nilCheck (Go.Operand.tmp 24), type := 0, pos := "law.go:159", after := #[{ on := 0, ground := Go.Ground.data }], guard := none }) (v := _) rfl (by kernel_rfl) (by kernel_rfl) (by kernel_rfl) (fun _ _ _ h => h) (Or.inl ⟨by rfl, ?hy56⟩) (by assumption) ?hr56
  case hy56 => (intro _ hSw; (try dsimp only at hSw); go_simp <;> with_reducible rfl)
  simp only [Act.put, List.setIfInBounds_toArray, List.set_cons_zero, List.set_cons_succ]
  refine' wpAnyH_take (i := 2) (oi := { dst := some 26, op := Go.Op.fieldAddr 46 (Go.Operand.tmp 25) 0, type := 0, pos := "law.go:159", after := #[{ on := 1, ground := Go.Ground.data }], guard := none }) (v := _) rfl (by kernel_rfl) (by kernel_rfl) (by kernel_rfl) (fun _ _ _ h => h) (Or.inl ⟨by rfl, ?hy57⟩) (by assumption) ?hr57
  case hy57 => (intro _ hSw; (try dsimp only at hSw); go_simp <;> with_reducible rfl)
  simp only [Act.put, List.setIfInBounds_toArray, List.set_cons_zero, List.set_cons_succ]
  refine' wpAnyH_take (i := 3) (oi := { dst := some 27, op := Go.Op.load 42 (Go.Operand.tmp 26), type := 42, pos := "law.go:159", after := #[{ on := 2, ground := Go.Ground.data }], guard := none }) (v := _) rfl (by kernel_rfl) (by kernel_rfl) (by kernel_rfl) (fun _ _ _ h => h) (Or.inl ⟨by rfl, ?hy58⟩) (by assumption) ?hr58
  case hy58 => (intro _ hSw; (try dsimp only at hSw); have hc := cell_of (i := 0) (v := two b.ba) hSw.1 rfl; go_simp <;> with_reducible rfl)
  simp only [Act.put, List.setIfInBounds_toArray, List.set_cons_zero, List.set_cons_succ]
  refine' wpAnyH_take (i := 4) (oi := { dst := some 28, op := Go.Op.move (Go.Operand.tmp 5), type := 3, pos := "law.go:159", after := #[], guard := none }) (v := _) rfl (by kernel_rfl) (by kernel_rfl) (by kernel_rfl) (fun _ _ _ h => h) (Or.inl ⟨by rfl, ?hy59⟩) (by assumption) ?hr59
  case hy59 => (intro _ hSw; (try dsimp only at hSw); go_simp <;> with_reducible rfl)
  simp only [Act.put, List.setIfInBounds_toArray, List.set_cons_zero, List.set_cons_succ]
  refine' wpAnyH_take (i := 5) (oi := { dst := some 29, op := Go.Op.indexAddr 42 (Go.Operand.tmp 27) (Go.Operand.tmp 28), type := 0, pos := "law.go:159", after := #[{ on := 3, ground := Go.Ground.data }, { on := 4, ground := Go.Ground.data }], guard := none }) (v := _) rfl (by kernel_rfl) (by kernel_rfl) (by kernel_rfl) (fun _ _ _ h => h) (Or.inl ⟨by rfl, ?hy60⟩) (by assumption) ?hr60
  case hy60 => (intro _ hSw; (try dsimp only at hSw); go_simp <;> with_reducible rfl)
  simp only [Act.put, List.setIfInBounds_toArray, List.set_cons_zero, List.set_cons_succ]
  refine' wpAnyH_take (i := 6) (oi := { dst := some 30, op := Go.Op.load 28 (Go.Operand.tmp 29), type := 28, pos := "law.go:159", after := #[{ on := 5, ground := Go.Ground.data }], guard := none }) (v := _) rfl (by kernel_rfl) (by kernel_rfl) (by kernel_rfl) (fun _ _ _ h => h) (Or.inl ⟨by rfl, ?hy61⟩) (by assumption) ?hr61
  case hy61 => (intro _ hSw; (try dsimp only at hSw); have hc := cell_of (i := 0) (v := ptr b.p0) hSw.2.1 rfl; go_simp <;> with_reducible rfl)
  simp only [Act.put, List.setIfInBounds_toArray, List.set_cons_zero, List.set_cons_succ]
  refine' wpAnyH_take (i := 7) (oi := { dst := some 31, op := Go.Op.move (Go.Operand.tmp 0), type := 40, pos := "law.go:159", after := #[], guard := none }) (v := _) rfl (by kernel_rfl) (by kernel_rfl) (by kernel_rfl) (fun _ _ _ h => h) (Or.inl ⟨by rfl, ?hy62⟩) (by assumption) ?hr62
  case hy62 => (intro _ hSw; (try dsimp only at hSw); go_simp <;> with_reducible rfl)
  simp only [Act.put, List.setIfInBounds_toArray, List.set_cons_zero, List.set_cons_succ]
  refine' wpAnyH_take (i := 8) (oi := { dst := some 32, op := Go.Op.nilCheck (Go.Operand.tmp 31), type := 0, pos := "law.go:159", after := #[{ on := 7, ground := Go.Ground.data }], guard := none }) (v := _) rfl (by kernel_rfl) (by kernel_rfl) (by kernel_rfl) (fun _ _ _ h => h) (Or.inl ⟨by rfl, ?hy63⟩) (by assumption) ?hr63
  case hy63 => (intro _ hSw; (try dsimp only at hSw); go_simp <;> with_reducible rfl)
  simp only [Act.put, List.setIfInBounds_toArray, List.set_cons_zero, List.set_cons_succ]
  refine' wpAnyH_take (i := 9) (oi := { dst := some 33, op := Go.Op.fieldAddr 46 (Go.Operand.tmp 32) 2, type := 0, pos := "law.go:159", after := #[{ on := 8, ground := Go.Ground.data }], guard := none }) (v := _) rfl (by kernel_rfl) (by kernel_rfl) (by kernel_rfl) (fun _ _ _ h => h) (Or.inl ⟨by rfl, ?hy64⟩) (by assumption) ?hr64
  case hy64 => (intro _ hSw; (try dsimp only at hSw); go_simp <;> with_reducible rfl)
  simp only [Act.put, List.setIfInBounds_toArray, List.set_cons_zero, List.set_cons_succ]
  refine' wpAnyH_take (i := 10) (oi := { dst := some 34, op := Go.Op.load 44 (Go.Operand.tmp 33), type := 44, pos := "law.go:159", after := #[{ on := 9, ground := Go.Ground.data }], guard := none }) (v := _) rfl (by kernel_rfl) (by kernel_rfl) (by kernel_rfl) (fun _ _ _ h => h) (Or.inl ⟨by rfl, ?hy65⟩) (by assumption) ?hr65
  case hy65 => (intro _ hSw; (try dsimp only at hSw); have hc := cell_of (i := 2) (v := two b.bu) hSw.1 rfl; go_simp <;> with_reducible rfl)
  simp only [Act.put, List.setIfInBounds_toArray, List.set_cons_zero, List.set_cons_succ]
  refine' wpAnyH_take (i := 11) (oi := { dst := some 35, op := Go.Op.move (Go.Operand.tmp 5), type := 3, pos := "law.go:159", after := #[], guard := none }) (v := _) rfl (by kernel_rfl) (by kernel_rfl) (by kernel_rfl) (fun _ _ _ h => h) (Or.inl ⟨by rfl, ?hy66⟩) (by assumption) ?hr66
  case hy66 => (intro _ hSw; (try dsimp only at hSw); go_simp <;> with_reducible rfl)
  simp only [Act.put, List.setIfInBounds_toArray, List.set_cons_zero, List.set_cons_succ]
  refine' wpAnyH_take (i := 12) (oi := { dst := some 36, op := Go.Op.indexAddr 44 (Go.Operand.tmp 34) (Go.Operand.tmp 35), type := 0, pos := "law.go:159", after := #[{ on := 10, ground := Go.Ground.data }, { on := 11, ground := Go.Ground.data }], guard := none }) (v := _) rfl (by kernel_rfl) (by kernel_rfl) (by kernel_rfl) (fun _ _ _ h => h) (Or.inl ⟨by rfl, ?hy67⟩) (by assumption) ?hr67
  case hy67 => (intro _ hSw; (try dsimp only at hSw); go_simp <;> with_reducible rfl)
  simp only [Act.put, List.setIfInBounds_toArray, List.set_cons_zero, List.set_cons_succ]
  refine' wpAnyH_take (i := 13) (oi := { dst := some 37, op := Go.Op.load 3 (Go.Operand.tmp 36), type := 3, pos := "law.go:159", after := #[{ on := 12, ground := Go.Ground.data }], guard := none }) (v := _) rfl (by kernel_rfl) (by kernel_rfl) (by kernel_rfl) (fun _ _ _ h => h) (Or.inl ⟨by rfl, ?hy68⟩) (by assumption) ?hr68
  case hy68 => (intro _ hSw; (try dsimp only at hSw); have hc := cell_of (i := 0) (v := nm x.u0) hSw.2.2 rfl; go_simp <;> with_reducible rfl)
  simp only [Act.put, List.setIfInBounds_toArray, List.set_cons_zero, List.set_cons_succ]
  clear hHeld
  generalize w1.drew = w2 at H2 ⊢
  refine wpAnyH_ready (rs := [14]) (by kernel_rfl) (by simp) ?_
  refine AllReadyH.cons (o := { dst := some 38, op := Go.Op.call { callee := Go.Callee.value (Go.Operand.func 36), args := #[Go.Operand.tmp 37], argTypes := #[3] }, type := 9, pos := "law.go:159", after := #[{ on := 13, ground := Go.Ground.data }], guard := none }) rfl (fun K hK => ?_) AllReadyH.nil
  go_simp
  refine (HI.out _).mono ?_
  rintro _ w3 ⟨rfl, hb⟩
  have H3 := Lib.hid (H2.out.on hb)
  clear hb H2 HI
  go_wp2_with fail
  refine hK.out _ _ H3.out.held (fun hNext => ?_)
  clear hK K
  have hHeld := hNext
  clear hNext
  (try simp only [Act.put, List.setIfInBounds_toArray, List.set_cons_zero, List.set_cons_succ])
  clear hHeld
  refine wpAnyH_ready (rs := [15]) (by kernel_rfl) (by simp) ?_
  refine AllReadyH.cons (o := { dst := some 39, op := Go.Op.call { callee := Go.Callee.value (Go.Operand.func 18), args := #[Go.Operand.tmp 30, Go.Operand.tmp 38], argTypes := #[28, 9] }, type := 51, pos := "law.go:159", after := #[{ on := 6, ground := Go.Ground.data }, { on := 14, ground := Go.Ground.data }, { on := 14, ground := Go.Ground.chain }], guard := none }) rfl (fun K hK => ?_) AllReadyH.nil
  go_simp
  refine (opush0 H3.out HK.out.a _ A2 0 HPU.out).mono ?_
  rintro _ w4 ⟨rfl, h4⟩
  have H4 : Hid (PrE w0 b { x with A := A2 } w4) := Lib.hid h4
  clear h4 H3
  go_wp2_with fail
  refine hK.out _ _ H4.out.held (fun hNext => ?_)
  clear hK K
  have hHeld := hNext
  clear hNext
  (try simp only [Act.put, List.setIfInBounds_toArray, List.set_cons_zero, List.set_cons_succ])
  refine' wpAnyH_take (i := 16) (oi := { dst := some 40, op := Go.Op.binOp Go.BinOp.eql 51 (Go.Operand.tmp 39) (Go.Operand.const (Go.Value.int Go.IntKind.i64 0)) 51, type := 4, pos := "law.go:159", after := #[{ on := 15, ground := Go.Ground.data }], guard := none }) (v := _) rfl (by kernel_rfl) (by kernel_rfl) (by kernel_rfl) (fun _ _ _ h => h) (Or.inl ⟨by rfl, ?hy69⟩) (by assumption) ?hr69
  case hy69 => (intro _ hSw; (try dsimp only at hSw); go_simp <;> with_reducible rfl)
  simp only [Act.put, List.setIfInBounds_toArray, List.set_cons_zero, List.set_cons_succ]
  refine wpAnyH_done (by kernel_rfl) ?_ _
  clear hHeld
  obtain ⟨q0, q1, v0, v1, tag, hp⟩ := H4.out
  have c2 : w4.cell? ⟨b.tb, 2, none⟩ = some (two b.bu) := cell_of hp.blk rfl
  have cu : w4.cell? ⟨b.bu, 0, none⟩ = some (nm x.u0) := cell_of hp.u rfl
  have fu : ∀ i, w4.frozen? ⟨b.bu, i, none⟩ = false := fun _ => free_of hp.u
  have hub : x.u0 ≤ 1000 := Nat.le_trans HK.out.u0 HN.out
  have vk : IntKind.i64.wrap ((x.u0 : Int) + 1) = ((x.u0 + 1 : Nat) : Int) := by rw [IntKind.wrap_i64]; omega
  have H5 : Hid (PrE w0 b (pPush x) (w4.setCell ⟨b.bu, 0, none⟩ (.int .i64 ((x.u0 + 1 : Nat) : Int)))) := by
    have hq : (pPush x) = { x with A := A2, u0 := x.u0 + 1 } := by
      show ({ x with A := (Aq.push (inf x.u0) x.A).1, u0 := if (Aq.push (inf x.u0) x.A).2 = 0 then x.u0 + 1 else x.u0 } : Pr) = _
      rw [HPU.out]
      rfl
    rw [hq]
    exact Lib.hid ⟨_, _, _, _, _, hp.put_u (x.u0 + 1) x.u1 (chg_cell w4 b.bu 0 _) (block_set (i := 0) hp.u _)⟩
  have HY : Hid (Pok (N + 1) M (pPush x)) := Lib.hid (HK.out.push)
  clear hp H4 HPU
  clear q0 q1 v0 v1 tag
  obtain ⟨kn, hkn⟩ : ∃ kn, x.u0 + 1 = kn := ⟨_, rfl⟩
  rw [hkn] at vk H5
  clear hub hkn
  go_wp2_with fail
  generalize w4.setCell ⟨b.bu, 0, none⟩ (.int .i64 (kn : Int)) = w5 at H5 ⊢
  have HR := Lib.hid (oright H5.out HY.out (Nat.le_trans (Nat.add_le_add_right HN.out 1) (by decide)))
  clear HY HK c2 cu fu vk HN HM
  go_wp2_with fail
  refine HR.out.mono ?_
  rintro _ w9 ⟨rfl, h9⟩
  have H9 := Lib.hid h9
  clear h9 HR
  go_wp2
  go_ret
  exact ⟨rfl, H9.out⟩
set_option maxHeartbeats 4000000 in
set_option maxRecDepth 100000 in
theorem fst1_0_3 (w0 w : World) (b : Bk) (x : Pr) (N M : Nat) (h : PrE w0 b x w) (hk : Pok N M x) (hN : N ≤ 1000) (hM : M ≤ 1000) (d : Nat) (hd : (d : Int) % 9 = 1) (on : Bool) (A2 : Sd) (hp : Aq.push (inf x.u0) x.A = (A2, 3)) :
    Calls Try.prog 17 #[ptr b.tb, .agg #[.int .u8 (d : Int), .bool false, .bool on]] w fun e w' => e = .returned (.bool true) ∧ PrE w0 b (pPush x) w' := by
  have HP := Lib.hid (h.on (show Below w.heap.size w (w.alloc (.cells #[.int .u8 (d : Int), .bool false, .bool on] 49 (0, 0))) from nest_below w [_]))
  have HK := Lib.hid hk
  have HN := Lib.hid hN
  have HM := Lib.hid hM
  have hn : (w.alloc (.cells #[.int .u8 (d : Int), .bool false, .bool on] 49 (0, 0))).heap[w.heap.size]? = some (.cells #[.int .u8 (d : Int), .bool false, .bool on] 49 (0, 0)) := nest w [_] 0 _ rfl
  have HLT := Lib.hid h.lt
  clear h hk hN hM
  go_enter Try.func17, Try.ntmps17
  go_upto_region 1 with fail
  generalize w.alloc (.cells #[.int .u8 (d : Int), .bool false, .bool on] 49 (0, 0)) = w1 at HP hn ⊢
  generalize w.heap.size = sb at hn HLT ⊢
  obtain ⟨⟨c0, c1, c2⟩, -⟩ := cells3 hn
  go_wp2_with fail
  have HPU := Lib.hid hp
  have HI : Hid (∀ w, Calls Try.prog 36 #[.int .i64 (x.u0 : Int)] w fun e w' => e = .returned (.string (inf x.u0)) ∧ Below w.heap.size w w') := Lib.hid (finf x.u0 (Nat.le_trans HK.out.u0 (Nat.le_trans HN.out (by decide))))
  have H2 := Lib.hid (HP.out.on (w' := w1.drew) ⟨rfl, rfl, rfl, Nat.le_refl _, fun _ _ => rfl⟩)
  clear hn c0 c1 c2 hp HP
  refine wp_region_held_drew (S := (fun w' => w'.heap[b.tb]? = some (.cells #[two b.ba, two b.bl, two b.bu, two b.bk, .bool x.bad] 46 (0, 0)) ∧ w'.heap[b.ba]? = some (.cells #[ptr b.p0, ptr b.p1] 28 (0, 0)) ∧ w'.heap[b.bu]? = some (.cells #[nm x.u0, nm x.u1] 3 (0, 0)))) (by kernel_rfl) H2.out.held (fun hHeld => ?_)
  refine' wpAnyH_take (i := 0) (oi := { dst := some 24, op := Go.Op.move (Go.Operand.tmp 0), type := 40, pos := "law.go:159", after := #[], guard := none }) (v := _) rfl (by kernel_rfl) (by kernel_rfl) (by kernel_rfl) (fun _ _ _ h => h) (Or.inl ⟨by rfl, ?hy70⟩) (by assumption) ?hr70
  case hy70 => (intro _ hSw; (try dsimp only at hSw); go_simp <;> with_reducible rfl)
  simp only [Act.put, List.setIfInBounds_toArray, List.set_cons_zero, List.set_cons_succ]
  refine' wpAnyH_take (i := 1) (oi := { dst := some 25, op := Go.Op.nilCheck (Go.Operand.tmp 24), type := 0, pos := "law.go:159", after := #[{ on := 0, ground := Go.Ground.data }], guard := none }) (v := _) rfl (by kernel_rfl) (by kernel_rfl) (by kernel_rfl) (fun _ _ _ h => h) (Or.inl ⟨by rfl, ?hy71⟩) (by assumption) ?hr71
  case hy71 => (intro _ hSw; (try dsimp only at hSw); go_simp <;> with_reducible rfl)
  simp only [Act.put, List.setIfInBounds_toArray, List.set_cons_zero, List.set_cons_succ]
  refine' wpAnyH_take (i := 2) (oi := { dst := some 26, op := Go.Op.fieldAddr 46 (Go.Operand.tmp 25) 0, type := 0, pos := "law.go:159", after := #[{ on := 1, ground := Go.Ground.data }], guard := none }) (v := _) rfl (by kernel_rfl) (by kernel_rfl) (by kernel_rfl) (fun _ _ _ h => h) (Or.inl ⟨by rfl, ?hy72⟩) (by assumption) ?hr72
  case hy72 => (intro _ hSw; (try dsimp only at hSw); go_simp <;> with_reducible rfl)
  simp only [Act.put, List.setIfInBounds_toArray, List.set_cons_zero, List.set_cons_succ]
  refine' wpAnyH_take (i := 3) (oi := { dst := some 27, op := Go.Op.load 42 (Go.Operand.tmp 26), type := 42, pos := "law.go:159", after := #[{ on := 2, ground := Go.Ground.data }], guard := none }) (v := _) rfl (by kernel_rfl) (by kernel_rfl) (by kernel_rfl) (fun _ _ _ h => h) (Or.inl ⟨by rfl, ?hy73⟩) (by assumption) ?hr73
  case hy73 => (intro _ hSw; (try dsimp only at hSw); have hc := cell_of (i := 0) (v := two b.ba) hSw.1 rfl; go_simp <;> with_reducible rfl)
  simp only [Act.put, List.setIfInBounds_toArray, List.set_cons_zero, List.set_cons_succ]
  refine' wpAnyH_take (i := 4) (oi := { dst := some 28, op := Go.Op.move (Go.Operand.tmp 5), type := 3, pos := "law.go:159", after := #[], guard := none }) (v := _) rfl (by kernel_rfl) (by kernel_rfl) (by kernel_rfl) (fun _ _ _ h => h) (Or.inl ⟨by rfl, ?hy74⟩) (by assumption) ?hr74
  case hy74 => (intro _ hSw; (try dsimp only at hSw); go_simp <;> with_reducible rfl)
  simp only [Act.put, List.setIfInBounds_toArray, List.set_cons_zero, List.set_cons_succ]
  refine' wpAnyH_take (i := 5) (oi := { dst := some 29, op := Go.Op.indexAddr 42 (Go.Operand.tmp 27) (Go.Operand.tmp 28), type := 0, pos := "law.go:159", after := #[{ on := 3, ground := Go.Ground.data }, { on := 4, ground := Go.Ground.data }], guard := none }) (v := _) rfl (by kernel_rfl) (by kernel_rfl) (by kernel_rfl) (fun _ _ _ h => h) (Or.inl ⟨by rfl, ?hy75⟩) (by assumption) ?hr75
  case hy75 => (intro _ hSw; (try dsimp only at hSw); go_simp <;> with_reducible rfl)
  simp only [Act.put, List.setIfInBounds_toArray, List.set_cons_zero, List.set_cons_succ]
  refine' wpAnyH_take (i := 6) (oi := { dst := some 30, op := Go.Op.load 28 (Go.Operand.tmp 29), type := 28, pos := "law.go:159", after := #[{ on := 5, ground := Go.Ground.data }], guard := none }) (v := _) rfl (by kernel_rfl) (by kernel_rfl) (by kernel_rfl) (fun _ _ _ h => h) (Or.inl ⟨by rfl, ?hy76⟩) (by assumption) ?hr76
  case hy76 => (intro _ hSw; (try dsimp only at hSw); have hc := cell_of (i := 0) (v := ptr b.p0) hSw.2.1 rfl; go_simp <;> with_reducible rfl)
  simp only [Act.put, List.setIfInBounds_toArray, List.set_cons_zero, List.set_cons_succ]
  refine' wpAnyH_take (i := 7) (oi := { dst := some 31, op := Go.Op.move (Go.Operand.tmp 0), type := 40, pos := "law.go:159", after := #[], guard := none }) (v := _) rfl (by kernel_rfl) (by kernel_rfl) (by kernel_rfl) (fun _ _ _ h => h) (Or.inl ⟨by rfl, ?hy77⟩) (by assumption) ?hr77
  case hy77 => (intro _ hSw; (try dsimp only at hSw); go_simp <;> with_reducible rfl)
  simp only [Act.put, List.setIfInBounds_toArray, List.set_cons_zero, List.set_cons_succ]
  refine' wpAnyH_take (i := 8) (oi := { dst := some 32, op := Go.Op.nilCheck (Go.Operand.tmp 31), type := 0, pos := "law.go:159", after := #[{ on := 7, ground := Go.Ground.data }], guard := none }) (v := _) rfl (by kernel_rfl) (by kernel_rfl) (by kernel_rfl) (fun _ _ _ h => h) (Or.inl ⟨by rfl, ?hy78⟩) (by assumption) ?hr78
  case hy78 => (intro _ hSw; (try dsimp only at hSw); go_simp <;> with_reducible rfl)
  simp only [Act.put, List.setIfInBounds_toArray, List.set_cons_zero, List.set_cons_succ]
  refine' wpAnyH_take (i := 9) (oi := { dst := some 33, op := Go.Op.fieldAddr 46 (Go.Operand.tmp 32) 2, type := 0, pos := "law.go:159", after := #[{ on := 8, ground := Go.Ground.data }], guard := none }) (v := _) rfl (by kernel_rfl) (by kernel_rfl) (by kernel_rfl) (fun _ _ _ h => h) (Or.inl ⟨by rfl, ?hy79⟩) (by assumption) ?hr79
  case hy79 => (intro _ hSw; (try dsimp only at hSw); go_simp <;> with_reducible rfl)
  simp only [Act.put, List.setIfInBounds_toArray, List.set_cons_zero, List.set_cons_succ]
  refine' wpAnyH_take (i := 10) (oi := { dst := some 34, op := Go.Op.load 44 (Go.Operand.tmp 33), type := 44, pos := "law.go:159", after := #[{ on := 9, ground := Go.Ground.data }], guard := none }) (v := _) rfl (by kernel_rfl) (by kernel_rfl) (by kernel_rfl) (fun _ _ _ h => h) (Or.inl ⟨by rfl, ?hy80⟩) (by assumption) ?hr80
  case hy80 => (intro _ hSw; (try dsimp only at hSw); have hc := cell_of (i := 2) (v := two b.bu) hSw.1 rfl; go_simp <;> with_reducible rfl)
  simp only [Act.put, List.setIfInBounds_toArray, List.set_cons_zero, List.set_cons_succ]
  refine' wpAnyH_take (i := 11) (oi := { dst := some 35, op := Go.Op.move (Go.Operand.tmp 5), type := 3, pos := "law.go:159", after := #[], guard := none }) (v := _) rfl (by kernel_rfl) (by kernel_rfl) (by kernel_rfl) (fun _ _ _ h => h) (Or.inl ⟨by rfl, ?hy81⟩) (by assumption) ?hr81
  case hy81 => (intro _ hSw; (try dsimp only at hSw); go_simp <;> with_reducible rfl)
  simp only [Act.put, List.setIfInBounds_toArray, List.set_cons_zero, List.set_cons_succ]
  refine' wpAnyH_take (i := 12) (oi := { dst := some 36, op := Go.Op.indexAddr 44 (Go.Operand.tmp 34) (Go.Operand.tmp 35), type := 0, pos := "law.go:159", after := #[{ on := 10, ground := Go.Ground.data }, { on := 11, ground := Go.Ground.data }], guard := none }) (v := _) rfl (by kernel_rfl) (by kernel_rfl) (by kernel_rfl) (fun _ _ _ h => h) (Or.inl ⟨by rfl, ?hy82⟩) (by assumption) ?hr82
  case hy82 => (intro _ hSw; (try dsimp only at hSw); go_simp <;> with_reducible rfl)
  simp only [Act.put, List.setIfInBounds_toArray, List.set_cons_zero, List.set_cons_succ]
  refine' wpAnyH_take (i := 13) (oi := { dst := some 37, op := Go.Op.load 3 (Go.Operand.tmp 36), type := 3, pos := "law.go:159", after := #[{ on := 12, ground := Go.Ground.data }], guard := none }) (v := _) rfl (by kernel_rfl) (by kernel_rfl) (by kernel_rfl) (fun _ _ _ h => h) (Or.inl ⟨by rfl, ?hy83⟩) (by assumption) ?hr83
  case hy83 => (intro _ hSw; (try dsimp only at hSw); have hc := cell_of (i := 0) (v := nm x.u0) hSw.2.2 rfl; go_simp <;> with_reducible rfl)
  simp only [Act.put, List.setIfInBounds_toArray, List.set_cons_zero, List.set_cons_succ]
  clear hHeld
  generalize w1.drew = w2 at H2 ⊢
  refine wpAnyH_ready (rs := [14]) (by kernel_rfl) (by simp) ?_
  refine AllReadyH.cons (o := { dst := some 38, op := Go.Op.call { callee := Go.Callee.value (Go.Operand.func 36), args := #[Go.Operand.tmp 37], argTypes := #[3] }, type := 9, pos := "law.go:159", after := #[{ on := 13, ground := Go.Ground.data }], guard := none }) rfl (fun K hK => ?_) AllReadyH.nil
  go_simp
  refine (HI.out _).mono ?_
  rintro _ w3 ⟨rfl, hb⟩
  have H3 := Lib.hid (H2.out.on hb)
  clear hb H2 HI
  go_wp2_with fail
  refine hK.out _ _ H3.out.held (fun hNext => ?_)
  clear hK K
  have hHeld := hNext
  clear hNext
  (try simp only [Act.put, List.setIfInBounds_toArray, List.set_cons_zero, List.set_cons_succ])
  clear hHeld
  refine wpAnyH_ready (rs := [15]) (by kernel_rfl) (by simp) ?_
  refine AllReadyH.cons (o := { dst := some 39, op := Go.Op.call { callee := Go.Callee.value (Go.Operand.func 18), args := #[Go.Operand.tmp 30, Go.Operand.tmp 38], argTypes := #[28, 9] }, type := 51, pos := "law.go:159", after := #[{ on := 6, ground := Go.Ground.data }, { on := 14, ground := Go.Ground.data }, { on := 14, ground := Go.Ground.chain }], guard := none }) rfl (fun K hK => ?_) AllReadyH.nil
  go_simp
  refine (opush0 H3.out HK.out.a _ A2 3 HPU.out).mono ?_
  rintro _ w4 ⟨rfl, h4⟩
  have H4 : Hid (PrE w0 b { x with A := A2 } w4) := Lib.hid h4
  clear h4 H3
  go_wp2_with fail
  refine hK.out _ _ H4.out.held (fun hNext => ?_)
  clear hK K
  have hHeld := hNext
  clear hNext
  (try simp only [Act.put, List.setIfInBounds_toArray, List.set_cons_zero, List.set_cons_succ])
  refine' wpAnyH_take (i := 16) (oi := { dst := some 40, op := Go.Op.binOp Go.BinOp.eql 51 (Go.Operand.tmp 39) (Go.Operand.const (Go.Value.int Go.IntKind.i64 0)) 51, type := 4, pos := "law.go:159", after := #[{ on := 15, ground := Go.Ground.data }], guard := none }) (v := _) rfl (by kernel_rfl) (by kernel_rfl) (by kernel_rfl) (fun _ _ _ h => h) (Or.inl ⟨by rfl, ?hy84⟩) (by assumption) ?hr84
  case hy84 => (intro _ hSw; (try dsimp only at hSw); go_simp <;> with_reducible rfl)
  simp only [Act.put, List.setIfInBounds_toArray, List.set_cons_zero, List.set_cons_succ]
  refine wpAnyH_done (by kernel_rfl) ?_ _
  clear hHeld
  have H5 : Hid (PrE w0 b (pPush x) w4) := by
    have hq : (pPush x) = { x with A := A2 } := by
      show ({ x with A := (Aq.push (inf x.u0) x.A).1, u0 := if (Aq.push (inf x.u0) x.A).2 = 0 then x.u0 + 1 else x.u0 } : Pr) = _
      rw [HPU.out]
      rfl
    rw [hq]
    exact H4
  clear H4
  have HR := Lib.hid (oright H5.out (HK.out.push) (Nat.le_trans (Nat.add_le_add_right HN.out 1) (by decide)))
  clear HK HN HM
  go_wp2_with fail
  refine HR.out.mono ?_
  rintro _ w9 ⟨rfl, h9⟩
  have H9 := Lib.hid h9
  clear h9 HR
  go_wp2
  go_ret
  exact ⟨rfl, H9.out⟩
set_option maxHeartbeats 4000000 in
set_option maxRecDepth 100000 in
theorem fst1_0_4 (w0 w : World) (b : Bk) (x : Pr) (N M : Nat) (h : PrE w0 b x w) (hk : Pok N M x) (hN : N ≤ 1000) (hM : M ≤ 1000) (d : Nat) (hd : (d : Int) % 9 = 1) (on : Bool) (A2 : Sd) (hp : Aq.push (inf x.u0) x.A = (A2, 4)) :
    Calls Try.prog 17 #[ptr b.tb, .agg #[.int .u8 (d : Int), .bool false, .bool on]] w fun e w' => e = .returned (.bool true) ∧ PrE w0 b (pPush x) w' := by
  have HP := Lib.hid (h.on (show Below w.heap.size w (w.alloc (.cells #[.int .u8 (d : Int), .bool false, .bool on] 49 (0, 0))) from nest_below w [_]))
  have HK := Lib.hid hk
  have HN := Lib.hid hN
  have HM := Lib.hid hM
  have hn : (w.alloc (.cells #[.int .u8 (d : Int), .bool false, .bool on] 49 (0, 0))).heap[w.heap.size]? = some (.cells #[.int .u8 (d : Int), .bool false, .bool on] 49 (0, 0)) := nest w [_] 0 _ rfl
  have HLT := Lib.hid h.lt
  clear h hk hN hM
  go_enter Try.func17, Try.ntmps17
  go_upto_region 1 with fail
  generalize w.alloc (.cells #[.int .u8 (d : Int), .bool false, .bool on] 49 (0, 0)) = w1 at HP hn ⊢
  generalize w.heap.size = sb at hn HLT ⊢
  obtain ⟨⟨c0, c1, c2⟩, -⟩ := cells3 hn
  go_wp2_with fail
  have HPU := Lib.hid hp
  have HI : Hid (∀ w, Calls Try.prog 36 #[.int .i64 (x.u0 : Int)] w fun e w' => e = .returned (.string (inf x.u0)) ∧ Below w.heap.size w w') := Lib.hid (finf x.u0 (Nat.le_trans HK.out.u0 (Nat.le_trans HN.out (by decide))))
  have H2 := Lib.hid (HP.out.on (w' := w1.drew) ⟨rfl, rfl, rfl, Nat.le_refl _, fun _ _ => rfl⟩)
  clear hn c0 c1 c2 hp HP
  refine wp_region_held_drew (S := (fun w' => w'.heap[b.tb]? = some (.cells #[two b.ba, two b.bl, two b.bu, two b.bk, .bool x.bad] 46 (0, 0)) ∧ w'.heap[b.ba]? = some (.cells #[ptr b.p0, ptr b.p1] 28 (0, 0)) ∧ w'.heap[b.bu]? = some (.cells #[nm x.u0, nm x.u1] 3 (0, 0)))) (by kernel_rfl) H2.out.held (fun hHeld => ?_)
  refine' wpAnyH_take (i := 0) (oi := { dst := some 24, op := Go.Op.move (Go.Operand.tmp 0), type := 40, pos := "law.go:159", after := #[], guard := none }) (v := _) rfl (by kernel_rfl) (by kernel_rfl) (by kernel_rfl) (fun _ _ _ h => h) (Or.inl ⟨by rfl, ?hy85⟩) (by assumption) ?hr85
  case hy85 => (intro _ hSw; (try dsimp only at hSw); go_simp <;> with_reducible rfl)
  simp only [Act.put, List.setIfInBounds_toArray, List.set_cons_zero, List.set_cons_succ]
  refine' wpAnyH_take (i := 1) (oi := { dst := some 25, op := Go.Op.nilCheck (Go.Operand.tmp 24), type := 0, pos := "law.go:159", after := #[{ on := 0, ground := Go.Ground.data }], guard := none }) (v := _) rfl (by kernel_rfl) (by kernel_rfl) (by kernel_rfl) (fun _ _ _ h => h) (Or.inl ⟨by rfl, ?hy86⟩) (by assumption) ?hr86
  case hy86 => (intro _ hSw; (try dsimp only at hSw); go_simp <;> with_reducible rfl)
  simp only [Act.put, List.setIfInBounds_toArray, List.set_cons_zero, List.set_cons_succ]
  refine' wpAnyH_take (i := 2) (oi := { dst := some 26, op := Go.Op.fieldAddr 46 (Go.Operand.tmp 25) 0, type := 0, pos := "law.go:159", after := #[{ on := 1, ground := Go.Ground.data }], guard := none }) (v := _) rfl (by kernel_rfl) (by kernel_rfl) (by kernel_rfl) (fun _ _ _ h => h) (Or.inl ⟨by rfl, ?hy87⟩) (by assumption) ?hr87
  case hy87 => (intro _ hSw; (try dsimp only at hSw); go_simp <;> with_reducible rfl)
  simp only [Act.put, List.setIfInBounds_toArray, List.set_cons_zero, List.set_cons_succ]
  refine' wpAnyH_take (i := 3) (oi := { dst := some 27, op := Go.Op.load 42 (Go.Operand.tmp 26), type := 42, pos := "law.go:159", after := #[{ on := 2, ground := Go.Ground.data }], guard := none }) (v := _) rfl (by kernel_rfl) (by kernel_rfl) (by kernel_rfl) (fun _ _ _ h => h) (Or.inl ⟨by rfl, ?hy88⟩) (by assumption) ?hr88
  case hy88 => (intro _ hSw; (try dsimp only at hSw); have hc := cell_of (i := 0) (v := two b.ba) hSw.1 rfl; go_simp <;> with_reducible rfl)
  simp only [Act.put, List.setIfInBounds_toArray, List.set_cons_zero, List.set_cons_succ]
  refine' wpAnyH_take (i := 4) (oi := { dst := some 28, op := Go.Op.move (Go.Operand.tmp 5), type := 3, pos := "law.go:159", after := #[], guard := none }) (v := _) rfl (by kernel_rfl) (by kernel_rfl) (by kernel_rfl) (fun _ _ _ h => h) (Or.inl ⟨by rfl, ?hy89⟩) (by assumption) ?hr89
  case hy89 => (intro _ hSw; (try dsimp only at hSw); go_simp <;> with_reducible rfl)
  simp only [Act.put, List.setIfInBounds_toArray, List.set_cons_zero, List.set_cons_succ]
  refine' wpAnyH_take (i := 5) (oi := { dst := some 29, op := Go.Op.indexAddr 42 (Go.Operand.tmp 27) (Go.Operand.tmp 28), type := 0, pos := "law.go:159", after := #[{ on := 3, ground := Go.Ground.data }, { on := 4, ground := Go.Ground.data }], guard := none }) (v := _) rfl (by kernel_rfl) (by kernel_rfl) (by kernel_rfl) (fun _ _ _ h => h) (Or.inl ⟨by rfl, ?hy90⟩) (by assumption) ?hr90
  case hy90 => (intro _ hSw; (try dsimp only at hSw); go_simp <;> with_reducible rfl)
  simp only [Act.put, List.setIfInBounds_toArray, List.set_cons_zero, List.set_cons_succ]
  refine' wpAnyH_take (i := 6) (oi := { dst := some 30, op := Go.Op.load 28 (Go.Operand.tmp 29), type := 28, pos := "law.go:159", after := #[{ on := 5, ground := Go.Ground.data }], guard := none }) (v := _) rfl (by kernel_rfl) (by kernel_rfl) (by kernel_rfl) (fun _ _ _ h => h) (Or.inl ⟨by rfl, ?hy91⟩) (by assumption) ?hr91
  case hy91 => (intro _ hSw; (try dsimp only at hSw); have hc := cell_of (i := 0) (v := ptr b.p0) hSw.2.1 rfl; go_simp <;> with_reducible rfl)
  simp only [Act.put, List.setIfInBounds_toArray, List.set_cons_zero, List.set_cons_succ]
  refine' wpAnyH_take (i := 7) (oi := { dst := some 31, op := Go.Op.move (Go.Operand.tmp 0), type := 40, pos := "law.go:159", after := #[], guard := none }) (v := _) rfl (by kernel_rfl) (by kernel_rfl) (by kernel_rfl) (fun _ _ _ h => h) (Or.inl ⟨by rfl, ?hy92⟩) (by assumption) ?hr92
  case hy92 => (intro _ hSw; (try dsimp only at hSw); go_simp <;> with_reducible rfl)
  simp only [Act.put, List.setIfInBounds_toArray, List.set_cons_zero, List.set_cons_succ]
  refine' wpAnyH_take (i := 8) (oi := { dst := some 32, op := Go.Op.nilCheck (Go.Operand.tmp 31), type := 0, pos := "law.go:159", after := #[{ on := 7, ground := Go.Ground.data }], guard := none }) (v := _) rfl (by kernel_rfl) (by kernel_rfl) (by kernel_rfl) (fun _ _ _ h => h) (Or.inl ⟨by rfl, ?hy93⟩) (by assumption) ?hr93
  case hy93 => (intro _ hSw; (try dsimp only at hSw); go_simp <;> with_reducible rfl)
  simp only [Act.put, List.setIfInBounds_toArray, List.set_cons_zero, List.set_cons_succ]
  refine' wpAnyH_take (i := 9) (oi := { dst := some 33, op := Go.Op.fieldAddr 46 (Go.Operand.tmp 32) 2, type := 0, pos := "law.go:159", after := #[{ on := 8, ground := Go.Ground.data }], guard := none }) (v := _) rfl (by kernel_rfl) (by kernel_rfl) (by kernel_rfl) (fun _ _ _ h => h) (Or.inl ⟨by rfl, ?hy94⟩) (by assumption) ?hr94
  case hy94 => (intro _ hSw; (try dsimp only at hSw); go_simp <;> with_reducible rfl)
  simp only [Act.put, List.setIfInBounds_toArray, List.set_cons_zero, List.set_cons_succ]
  refine' wpAnyH_take (i := 10) (oi := { dst := some 34, op := Go.Op.load 44 (Go.Operand.tmp 33), type := 44, pos := "law.go:159", after := #[{ on := 9, ground := Go.Ground.data }], guard := none }) (v := _) rfl (by kernel_rfl) (by kernel_rfl) (by kernel_rfl) (fun _ _ _ h => h) (Or.inl ⟨by rfl, ?hy95⟩) (by assumption) ?hr95
  case hy95 => (intro _ hSw; (try dsimp only at hSw); have hc := cell_of (i := 2) (v := two b.bu) hSw.1 rfl; go_simp <;> with_reducible rfl)
  simp only [Act.put, List.setIfInBounds_toArray, List.set_cons_zero, List.set_cons_succ]
  refine' wpAnyH_take (i := 11) (oi := { dst := some 35, op := Go.Op.move (Go.Operand.tmp 5), type := 3, pos := "law.go:159", after := #[], guard := none }) (v := _) rfl (by kernel_rfl) (by kernel_rfl) (by kernel_rfl) (fun _ _ _ h => h) (Or.inl ⟨by rfl, ?hy96⟩) (by assumption) ?hr96
  case hy96 => (intro _ hSw; (try dsimp only at hSw); go_simp <;> with_reducible rfl)
  simp only [Act.put, List.setIfInBounds_toArray, List.set_cons_zero, List.set_cons_succ]
  refine' wpAnyH_take (i := 12) (oi := { dst := some 36, op := Go.Op.indexAddr 44 (Go.Operand.tmp 34) (Go.Operand.tmp 35), type := 0, pos := "law.go:159", after := #[{ on := 10, ground := Go.Ground.data }, { on := 11, ground := Go.Ground.data }], guard := none }) (v := _) rfl (by kernel_rfl) (by kernel_rfl) (by kernel_rfl) (fun _ _ _ h => h) (Or.inl ⟨by rfl, ?hy97⟩) (by assumption) ?hr97
  case hy97 => (intro _ hSw; (try dsimp only at hSw); go_simp <;> with_reducible rfl)
  simp only [Act.put, List.setIfInBounds_toArray, List.set_cons_zero, List.set_cons_succ]
  refine' wpAnyH_take (i := 13) (oi := { dst := some 37, op := Go.Op.load 3 (Go.Operand.tmp 36), type := 3, pos := "law.go:159", after := #[{ on := 12, ground := Go.Ground.data }], guard := none }) (v := _) rfl (by kernel_rfl) (by kernel_rfl) (by kernel_rfl) (fun _ _ _ h => h) (Or.inl ⟨by rfl, ?hy98⟩) (by assumption) ?hr98
  case hy98 => (intro _ hSw; (try dsimp only at hSw); have hc := cell_of (i := 0) (v := nm x.u0) hSw.2.2 rfl; go_simp <;> with_reducible rfl)
  simp only [Act.put, List.setIfInBounds_toArray, List.set_cons_zero, List.set_cons_succ]
  clear hHeld
  generalize w1.drew = w2 at H2 ⊢
  refine wpAnyH_ready (rs := [14]) (by kernel_rfl) (by simp) ?_
  refine AllReadyH.cons (o := { dst := some 38, op := Go.Op.call { callee := Go.Callee.value (Go.Operand.func 36), args := #[Go.Operand.tmp 37], argTypes := #[3] }, type := 9, pos := "law.go:159", after := #[{ on := 13, ground := Go.Ground.data }], guard := none }) rfl (fun K hK => ?_) AllReadyH.nil
  go_simp
  refine (HI.out _).mono ?_
  rintro _ w3 ⟨rfl, hb⟩
  have H3 := Lib.hid (H2.out.on hb)
  clear hb H2 HI
  go_wp2_with fail
  refine hK.out _ _ H3.out.held (fun hNext => ?_)
  clear hK K
  have hHeld := hNext
  clear hNext
  (try simp only [Act.put, List.setIfInBounds_toArray, List.set_cons_zero, List.set_cons_succ])
  clear hHeld
  refine wpAnyH_ready (rs := [15]) (by kernel_rfl) (by simp) ?_
  refine AllReadyH.cons (o := { dst := some 39, op := Go.Op.call { callee := Go.Callee.value (Go.Operand.func 18), args := #[Go.Operand.tmp 30, Go.Operand.tmp 38], argTypes := #[28, 9] }, type := 51, pos := "law.go:159", after := #[{ on := 6, ground := Go.Ground.data }, { on := 14, ground := Go.Ground.data }, { on := 14, ground := Go.Ground.chain }], guard := none }) rfl (fun K hK => ?_) AllReadyH.nil
  go_simp
  refine (opush0 H3.out HK.out.a _ A2 4 HPU.out).mono ?_
  rintro _ w4 ⟨rfl, h4⟩
  have H4 : Hid (PrE w0 b { x with A := A2 } w4) := Lib.hid h4
  clear h4 H3
  go_wp2_with fail
  refine hK.out _ _ H4.out.held (fun hNext => ?_)
  clear hK K
  have hHeld := hNext
  clear hNext
  (try simp only [Act.put, List.setIfInBounds_toArray, List.set_cons_zero, List.set_cons_succ])
  refine' wpAnyH_take (i := 16) (oi := { dst := some 40, op := Go.Op.binOp Go.BinOp.eql 51 (Go.Operand.tmp 39) (Go.Operand.const (Go.Value.int Go.IntKind.i64 0)) 51, type := 4, pos := "law.go:159", after := #[{ on := 15, ground := Go.Ground.data }], guard := none }) (v := _) rfl (by kernel_rfl) (by kernel_rfl) (by kernel_rfl) (fun _ _ _ h => h) (Or.inl ⟨by rfl, ?hy99⟩) (by assumption) ?hr99
  case hy99 => (intro _ hSw; (try dsimp only at hSw); go_simp <;> with_reducible rfl)
  simp only [Act.put, List.setIfInBounds_toArray, List.set_cons_zero, List.set_cons_succ]
  refine wpAnyH_done (by kernel_rfl) ?_ _
  clear hHeld
  have H5 : Hid (PrE w0 b (pPush x) w4) := by
    have hq : (pPush x) = { x with A := A2 } := by
      show ({ x with A := (Aq.push (inf x.u0) x.A).1, u0 := if (Aq.push (inf x.u0) x.A).2 = 0 then x.u0 + 1 else x.u0 } : Pr) = _
      rw [HPU.out]
      rfl
    rw [hq]
    exact H4
  clear H4
  have HR := Lib.hid (oright H5.out (HK.out.push) (Nat.le_trans (Nat.add_le_add_right HN.out 1) (by decide)))
  clear HK HN HM
  go_wp2_with fail
  refine HR.out.mono ?_
  rintro _ w9 ⟨rfl, h9⟩
  have H9 := Lib.hid h9
  clear h9 HR
  go_wp2
  go_ret
  exact ⟨rfl, H9.out⟩
set_option maxHeartbeats 4000000 in
set_option maxRecDepth 100000 in
theorem fst2_1 (w0 w : World) (b : Bk) (x : Pr) (N M : Nat) (h : PrE w0 b x w) (hk : Pok N M x) (hN : N ≤ 1000) (hM : M ≤ 1000) (d : Nat) (hd : (d : Int) % 9 = 2) (on : Bool) :
    Calls Try.prog 17 #[ptr b.tb, .agg #[.int .u8 (d : Int), .bool true, .bool on]] w fun e w' => e = .returned (.bool true) ∧ PrE w0 b (swp (pSend (swp x))) w' := by
  have HP := Lib.hid (h.on (show Below w.heap.size w (w.alloc (.cells #[.int .u8 (d : Int), .bool true, .bool on] 49 (0, 0))) from nest_below w [_]))
  have HK := Lib.hid hk
  have HN := Lib.hid hN
  have HM := Lib.hid hM
  have hn : (w.alloc (.cells #[.int .u8 (d : Int), .bool true, .bool on] 49 (0, 0))).heap[w.heap.size]? = some (.cells #[.int .u8 (d : Int), .bool true, .bool on] 49 (0, 0)) := nest w [_] 0 _ rfl
  have HLT := Lib.hid h.lt
  clear h hk hN hM
  go_enter Try.func17, Try.ntmps17
  go_upto_region 1 with fail
  generalize w.alloc (.cells #[.int .u8 (d : Int), .bool true, .bool on] 49 (0, 0)) = w1 at HP hn ⊢
  generalize w.heap.size = sb at hn HLT ⊢
  obtain ⟨⟨c0, c1, c2⟩, -⟩ := cells3 hn
  have CS := Lib.hid (osend1 HP.out HK.out HM.out)
  clear hn
  go_wp2_with fail
  refine CS.out.mono ?_
  rintro _ w2 ⟨rfl, h2⟩
  have H2 := Lib.hid h2
  clear h2 CS c0 c1 c2
  have HR := Lib.hid (oright H2.out (((HK.out.swp.send).swp).more (Nat.le_succ N) (Nat.le_refl _)) (Nat.le_trans (Nat.add_le_add_right HN.out 1) (by decide)))
  clear HP HK HN HM
  go_wp2_with fail
  refine HR.out.mono ?_
  rintro _ w9 ⟨rfl, h9⟩
  have H9 := Lib.hid h9
  clear h9 HR
  go_wp2
  go_ret
  exact ⟨rfl, H9.out⟩
set_option maxHeartbeats 4000000 in
set_option maxRecDepth 100000 in
theorem fst3_1 (w0 w : World) (b : Bk) (x : Pr) (N M : Nat) (h : PrE w0 b x w) (hk : Pok N M x) (hN : N ≤ 1000) (hM : M ≤ 1000) (d : Nat) (hd : (d : Int) % 9 = 3) (on : Bool) :
    Calls Try.prog 17 #[ptr b.tb, .agg #[.int .u8 (d : Int), .bool true, .bool on]] w fun e w' => e = .returned (.bool true) ∧ PrE w0 b (swp (pSend (swp x))) w' := by
  have HP := Lib.hid (h.on (show Below w.heap.size w (w.alloc (.cells #[.int .u8 (d : Int), .bool true, .bool on] 49 (0, 0))) from nest_below w [_]))
  have HK := Lib.hid hk
  have HN := Lib.hid hN
  have HM := Lib.hid hM
  have hn : (w.alloc (.cells #[.int .u8 (d : Int), .bool true, .bool on] 49 (0, 0))).heap[w.heap.size]? = some (.cells #[.int .u8 (d : Int), .bool true, .bool on] 49 (0, 0)) := nest w [_] 0 _ rfl
  have HLT := Lib.hid h.lt
  clear h hk hN hM
  go_enter Try.func17, Try.ntmps17
  go_upto_region 1 with fail
  generalize w.alloc (.cells #[.int .u8 (d : Int), .bool true, .bool on] 49 (0, 0)) = w1 at HP hn ⊢
  generalize w.heap.size = sb at hn HLT ⊢
  obtain ⟨⟨c0, c1, c2⟩, -⟩ := cells3 hn
  have CS := Lib.hid (osend1 HP.out HK.out HM.out)
  clear hn
  go_wp2_with fail
  refine CS.out.mono ?_
  rintro _ w2 ⟨rfl, h2⟩
  have H2 := Lib.hid h2
  clear h2 CS c0 c1 c2
  have HR := Lib.hid (oright H2.out (((HK.out.swp.send).swp).more (Nat.le_succ N) (Nat.le_refl _)) (Nat.le_trans (Nat.add_le_add_right HN.out 1) (by decide)))
  clear HP HK HN HM
  go_wp2_with fail
  refine HR.out.mono ?_
  rintro _ w9 ⟨rfl, h9⟩
  have H9 := Lib.hid h9
  clear h9 HR
  go_wp2
  go_ret
  exact ⟨rfl, H9.out⟩
set_option maxHeartbeats 4000000 in
set_option maxRecDepth 100000 in
theorem fst4_1 (w0 w : World) (b : Bk) (x : Pr) (N M : Nat) (h : PrE w0 b x w) (hk : Pok N M x) (hN : N ≤ 1000) (hM : M ≤ 1000) (d : Nat) (hd : (d : Int) % 9 = 4) (on : Bool) :
    Calls Try.prog 17 #[ptr b.tb, .agg #[.int .u8 (d : Int), .bool true, .bool on]] w fun e w' => e = .returned (.bool true) ∧ PrE w0 b (swp (pHand (swp x))) w' := by
  have HP := Lib.hid (h.on (show Below w.heap.size w (w.alloc (.cells #[.int .u8 (d : Int), .bool true, .bool on] 49 (0, 0))) from nest_below w [_]))
  have HK := Lib.hid hk
  have HN := Lib.hid hN
  have HM := Lib.hid hM
  have hn : (w.alloc (.cells #[.int .u8 (d : Int), .bool true, .bool on] 49 (0, 0))).heap[w.heap.size]? = some (.cells #[.int .u8 (d : Int), .bool true, .bool on] 49 (0, 0)) := nest w [_] 0 _ rfl
  have HLT := Lib.hid h.lt
  clear h hk hN hM
  go_enter Try.func17, Try.ntmps17
  go_upto_region 1 with fail
  generalize w.alloc (.cells #[.int .u8 (d : Int), .bool true, .bool on] 49 (0, 0)) = w1 at HP hn ⊢
  generalize w.heap.size = sb at hn HLT ⊢
  obtain ⟨⟨c0, c1, c2⟩, -⟩ := cells3 hn
  have CS := Lib.hid (ohand1 HP.out HK.out (Nat.le_trans HN.out (by decide)))
  clear hn
  go_wp2_with fail
  refine CS.out.mono ?_
  rintro _ w2 ⟨rfl, h2⟩
  have H2 := Lib.hid h2
  clear h2 CS c0 c1 c2
  have HR := Lib.hid (oright H2.out (((HK.out.swp.hand).swp).more (Nat.le_succ N) (Nat.le_refl _)) (Nat.le_trans (Nat.add_le_add_right HN.out 1) (by decide)))
  clear HP HK HN HM
  go_wp2_with fail
  refine HR.out.mono ?_
  rintro _ w9 ⟨rfl, h9⟩
  have H9 := Lib.hid h9
  clear h9 HR
  go_wp2
  go_ret
  exact ⟨rfl, H9.out⟩
set_option maxHeartbeats 4000000 in
set_option maxRecDepth 100000 in
theorem fst5_1 (w0 w : World) (b : Bk) (x : Pr) (N M : Nat) (h : PrE w0 b x w) (hk : Pok N M x) (hN : N ≤ 1000) (hM : M ≤ 1000) (d : Nat) (hd : (d : Int) % 9 = 5) (on : Bool) :
    Calls Try.prog 17 #[ptr b.tb, .agg #[.int .u8 (d : Int), .bool true, .bool on]] w fun e w' => e = .returned (.bool true) ∧ PrE w0 b (swp (pHand (swp x))) w' := by
  have HP := Lib.hid (h.on (show Below w.heap.size w (w.alloc (.cells #[.int .u8 (d : Int), .bool true, .bool on] 49 (0, 0))) from nest_below w [_]))
  have HK := Lib.hid hk
  have HN := Lib.hid hN
  have HM := Lib.hid hM
  have hn : (w.alloc (.cells #[.int .u8 (d : Int), .bool true, .bool on] 49 (0, 0))).heap[w.heap.size]? = some (.cells #[.int .u8 (d : Int), .bool true, .bool on] 49 (0, 0)) := nest w [_] 0 _ rfl
  have HLT := Lib.hid h.lt
  clear h hk hN hM
  go_enter Try.func17, Try.ntmps17
  go_upto_region 1 with fail
  generalize w.alloc (.cells #[.int .u8 (d : Int), .bool true, .bool on] 49 (0, 0)) = w1 at HP hn ⊢
  generalize w.heap.size = sb at hn HLT ⊢
  obtain ⟨⟨c0, c1, c2⟩, -⟩ := cells3 hn
  have CS := Lib.hid (ohand1 HP.out HK.out (Nat.le_trans HN.out (by decide)))
  clear hn
  go_wp2_with fail
  refine CS.out.mono ?_
  rintro _ w2 ⟨rfl, h2⟩
  have H2 := Lib.hid h2
  clear h2 CS c0 c1 c2
  have HR := Lib.hid (oright H2.out (((HK.out.swp.hand).swp).more (Nat.le_succ N) (Nat.le_refl _)) (Nat.le_trans (Nat.add_le_add_right HN.out 1) (by decide)))
  clear HP HK HN HM
  go_wp2_with fail
  refine HR.out.mono ?_
  rintro _ w9 ⟨rfl, h9⟩
  have H9 := Lib.hid h9
  clear h9 HR
  go_wp2
  go_ret
  exact ⟨rfl, H9.out⟩
set_option maxHeartbeats 4000000 in
set_option maxRecDepth 100000 in
theorem fst6_1 (w0 w : World) (b : Bk) (x : Pr) (N M : Nat) (h : PrE w0 b x w) (hk : Pok N M x) (hN : N ≤ 1000) (hM : M ≤ 1000) (d : Nat) (hd : (d : Int) % 9 = 6) (on : Bool) :
    Calls Try.prog 17 #[ptr b.tb, .agg #[.int .u8 (d : Int), .bool true, .bool on]] w fun e w' => e = .returned (.bool true) ∧ PrE w0 b (swp (pLose (swp x))) w' := by
  have HP := Lib.hid (h.on (show Below w.heap.size w (w.alloc (.cells #[.int .u8 (d : Int), .bool true, .bool on] 49 (0, 0))) from nest_below w [_]))
  have HK := Lib.hid hk
  have HN := Lib.hid hN
  have HM := Lib.hid hM
  have hn : (w.alloc (.cells #[.int .u8 (d : Int), .bool true, .bool on] 49 (0, 0))).heap[w.heap.size]? = some (.cells #[.int .u8 (d : Int), .bool true, .bool on] 49 (0, 0)) := nest w [_] 0 _ rfl
  have HLT := Lib.hid h.lt
  clear h hk hN hM
  go_enter Try.func17, Try.ntmps17
  go_upto_region 1 with fail
  generalize w.alloc (.cells #[.int .u8 (d : Int), .bool true, .bool on] 49 (0, 0)) = w1 at HP hn ⊢
  generalize w.heap.size = sb at hn HLT ⊢
  obtain ⟨⟨c0, c1, c2⟩, -⟩ := cells3 hn
  have CS := Lib.hid (olose1 HP.out true rfl)
  clear hn
  go_wp2_with fail
  refine CS.out.mono ?_
  rintro _ w2 ⟨⟨o, rfl⟩, h2⟩
  have H2 := Lib.hid h2
  clear h2 CS c0 c1 c2
  have HR := Lib.hid (oright H2.out (((HK.out.swp.lose).swp).more (Nat.le_succ N) (Nat.le_refl _)) (Nat.le_trans (Nat.add_le_add_right HN.out 1) (by decide)))
  clear HP HK HN HM
  go_wp2_with fail
  refine HR.out.mono ?_
  rintro _ w9 ⟨rfl, h9⟩
  have H9 := Lib.hid h9
  clear h9 HR
  go_wp2
  go_ret
  exact ⟨rfl, H9.out⟩
set_option maxHeartbeats 4000000 in
set_option maxRecDepth 100000 in
theorem fst7_1 (w0 w : World) (b : Bk) (x : Pr) (N M : Nat) (h : PrE w0 b x w) (hk : Pok N M x) (hN : N ≤ 1000) (hM : M ≤ 1000) (d : Nat) (hd : (d : Int) % 9 = 7) (on : Bool) :
    Calls Try.prog 17 #[ptr b.tb, .agg #[.int .u8 (d : Int), .bool true, .bool on]] w fun e w' => e = .returned (.bool true) ∧ PrE w0 b (swp (pTick (swp x))) w' := by
  have HP := Lib.hid (h.on (show Below w.heap.size w (w.alloc (.cells #[.int .u8 (d : Int), .bool true, .bool on] 49 (0, 0))) from nest_below w [_]))
  have HK := Lib.hid hk
  have HN := Lib.hid hN
  have HM := Lib.hid hM
  have hn : (w.alloc (.cells #[.int .u8 (d : Int), .bool true, .bool on] 49 (0, 0))).heap[w.heap.size]? = some (.cells #[.int .u8 (d : Int), .bool true, .bool on] 49 (0, 0)) := nest w [_] 0 _ rfl
  have HLT := Lib.hid h.lt
  clear h hk hN hM
  go_enter Try.func17, Try.ntmps17
  go_upto_region 1 with fail
  generalize w.alloc (.cells #[.int .u8 (d : Int), .bool true, .bool on] 49 (0, 0)) = w1 at HP hn ⊢
  generalize w.heap.size = sb at hn HLT ⊢
  obtain ⟨⟨c0, c1, c2⟩, -⟩ := cells3 hn
  obtain ⟨htb, hba, -⟩ := PrE.held HP.out
  have e0 : w1.cell? ⟨b.tb, 0, none⟩ = some (two b.ba) := cell_of htb rfl
  have a0 : w1.cell? ⟨b.ba, 0, none⟩ = some (ptr b.p0) := cell_of hba rfl
  have CS := Lib.hid (otick0 HP.out HK.out.a)
  clear hn htb hba
  go_wp2_with fail
  refine CS.out.mono ?_
  rintro _ w2 ⟨rfl, h2⟩
  have H2 := Lib.hid h2
  clear h2 CS c0 c1 c2 e0 a0
  obtain ⟨htb, hba, -⟩ := PrE.held H2.out
  have e0 : w2.cell? ⟨b.tb, 0, none⟩ = some (two b.ba) := cell_of htb rfl
  have a1 : w2.cell? ⟨b.ba, 1, none⟩ = some (ptr b.p1) := cell_of hba rfl
  have CT := Lib.hid (otick1 H2.out HK.out.b)
  clear htb hba HP
  generalize amv (tick x.A).2 = av
  go_wp2_with fail
  refine CT.out.mono ?_
  rintro _ w3 ⟨rfl, h3⟩
  have H3 : Hid (PrE w0 b (swp (pTick (swp x))) w3) := Lib.hid h3
  clear h3 CT e0 a1 H2
  generalize amv (tick x.B).2 = av2
  have HR := Lib.hid (oright H3.out (((HK.out.swp.tick).swp).more (Nat.le_succ N) (Nat.le_refl _)) (Nat.le_trans (Nat.add_le_add_right HN.out 1) (by decide)))
  clear HK HN HM
  go_wp2_with fail
  refine HR.out.mono ?_
  rintro _ w9 ⟨rfl, h9⟩
  have H9 := Lib.hid h9
  clear h9 HR
  go_wp2
  go_ret
  exact ⟨rfl, H9.out⟩
set_option maxHeartbeats 4000000 in
set_option maxRecDepth 100000 in
theorem fst8_1 (w0 w : World) (b : Bk) (x : Pr) (N M : Nat) (h : PrE w0 b x w) (hk : Pok N M x) (hN : N ≤ 1000) (hM : M ≤ 1000) (d : Nat) (hd : (d : Int) % 9 = 8) (on : Bool) :
    Calls Try.prog 17 #[ptr b.tb, .agg #[.int .u8 (d : Int), .bool true, .bool on]] w fun e w' => e = .returned (.bool true) ∧ PrE w0 b (swp (pBusy on (swp x))) w' := by
  have HP := Lib.hid (h.on (show Below w.heap.size w (w.alloc (.cells #[.int .u8 (d : Int), .bool true, .bool on] 49 (0, 0))) from nest_below w [_]))
  have HK := Lib.hid hk
  have HN := Lib.hid hN
  have HM := Lib.hid hM
  have hn : (w.alloc (.cells #[.int .u8 (d : Int), .bool true, .bool on] 49 (0, 0))).heap[w.heap.size]? = some (.cells #[.int .u8 (d : Int), .bool true, .bool on] 49 (0, 0)) := nest w [_] 0 _ rfl
  have HLT := Lib.hid h.lt
  clear h hk hN hM
  go_enter Try.func17, Try.ntmps17
  go_upto_region 1 with fail
  generalize w.alloc (.cells #[.int .u8 (d : Int), .bool true, .bool on] 49 (0, 0)) = w1 at HP hn ⊢
  generalize w.heap.size = sb at hn HLT ⊢
  obtain ⟨⟨c0, c1, c2⟩, -⟩ := cells3 hn
  go_wp2_with fail
  have H2 := Lib.hid (HP.out.on (w' := w1.drew) ⟨rfl, rfl, rfl, Nat.le_refl _, fun _ _ => rfl⟩)
  have hn2 : w1.drew.heap[sb]? = some (.cells #[.int .u8 (d : Int), .bool true, .bool on] 49 (0, 0)) := hn
  clear hn c0 c1 c2
  refine wp_region_held_drew (S := (fun w' => w'.heap[b.tb]? = some (.cells #[two b.ba, two b.bl, two b.bu, two b.bk, .bool x.bad] 46 (0, 0)) ∧ w'.heap[b.ba]? = some (.cells #[ptr b.p0, ptr b.p1] 28 (0, 0)) ∧ w'.heap[sb]? = some (.cells #[.int .u8 (d : Int), .bool true, .bool on] 49 (0, 0)))) (by kernel_rfl) ⟨H2.out.held.1, H2.out.held.2.1, hn2⟩ (fun hHeld => ?_)
  refine' wpAnyH_take (i := 0) (oi := { dst := some 11, op := Go.Op.move (Go.Operand.tmp 0), type := 40, pos := "law.go:172", after := #[], guard := none }) (v := _) rfl (by kernel_rfl) (by kernel_rfl) (by kernel_rfl) (fun _ _ _ h => h) (Or.inl ⟨by rfl, ?hy100⟩) (by assumption) ?hr100
  case hy100 => (intro _ hSw; (try dsimp only at hSw); go_simp <;> with_reducible rfl)
  simp only [Act.put, List.setIfInBounds_toArray, List.set_cons_zero, List.set_cons_succ]
  refine' wpAnyH_take (i := 1) (oi := { dst := some 12, op := Go.Op.nilCheck (Go.Operand.tmp 11), type := 0, pos := "law.go:172", after := #[{ on := 0, ground := Go.Ground.data }], guard := none }) (v := _) rfl (by kernel_rfl) (by kernel_rfl) (by kernel_rfl) (fun _ _ _ h => h) (Or.inl ⟨by rfl, ?hy101⟩) (by assumption) ?hr101
  case hy101 => (intro _ hSw; (try dsimp only at hSw); go_simp <;> with_reducible rfl)
  simp only [Act.put, List.setIfInBounds_toArray, List.set_cons_zero, List.set_cons_succ]
  refine' wpAnyH_take (i := 2) (oi := { dst := some 13, op := Go.Op.fieldAddr 46 (Go.Operand.tmp 12) 0, type := 0, pos := "law.go:172", after := #[{ on := 1, ground := Go.Ground.data }], guard := none }) (v := _) rfl (by kernel_rfl) (by kernel_rfl) (by kernel_rfl) (fun _ _ _ h => h) (Or.inl ⟨by rfl, ?hy102⟩) (by assumption) ?hr102
  case hy102 => (intro _ hSw; (try dsimp only at hSw); go_simp <;> with_reducible rfl)
  simp only [Act.put, List.setIfInBounds_toArray, List.set_cons_zero, List.set_cons_succ]
  refine' wpAnyH_take (i := 3) (oi := { dst := some 14, op := Go.Op.load 42 (Go.Operand.tmp 13), type := 42, pos := "law.go:172", after := #[{ on := 2, ground := Go.Ground.data }], guard := none }) (v := _) rfl (by kernel_rfl) (by kernel_rfl) (by kernel_rfl) (fun _ _ _ h => h) (Or.inl ⟨by rfl, ?hy103⟩) (by assumption) ?hr103
  case hy103 => (intro _ hSw; (try dsimp only at hSw); have hc := cell_of (i := 0) (v := two b.ba) hSw.1 rfl; go_simp <;> with_reducible rfl)
  simp only [Act.put, List.setIfInBounds_toArray, List.set_cons_zero, List.set_cons_succ]
  refine' wpAnyH_take (i := 4) (oi := { dst := some 15, op := Go.Op.move (Go.Operand.tmp 5), type := 3, pos := "law.go:172", after := #[], guard := none }) (v := _) rfl (by kernel_rfl) (by kernel_rfl) (by kernel_rfl) (fun _ _ _ h => h) (Or.inl ⟨by rfl, ?hy104⟩) (by assumption) ?hr104
  case hy104 => (intro _ hSw; (try dsimp only at hSw); go_simp <;> with_reducible rfl)
  simp only [Act.put, List.setIfInBounds_toArray, List.set_cons_zero, List.set_cons_succ]
  refine' wpAnyH_take (i := 5) (oi := { dst := some 16, op := Go.Op.indexAddr 42 (Go.Operand.tmp 14) (Go.Operand.tmp 15), type := 0, pos := "law.go:172", after := #[{ on := 3, ground := Go.Ground.data }, { on := 4, ground := Go.Ground.data }], guard := none }) (v := _) rfl (by kernel_rfl) (by kernel_rfl) (by kernel_rfl) (fun _ _ _ h => h) (Or.inl ⟨by rfl, ?hy105⟩) (by assumption) ?hr105
  case hy105 => (intro _ hSw; (try dsimp only at hSw); go_simp <;> with_reducible rfl)
  simp only [Act.put, List.setIfInBounds_toArray, List.set_cons_zero, List.set_cons_succ]
  refine' wpAnyH_take (i := 6) (oi := { dst := some 17, op := Go.Op.load 28 (Go.Operand.tmp 16), type := 28, pos := "law.go:172", after := #[{ on := 5, ground := Go.Ground.data }], guard := none }) (v := _) rfl (by kernel_rfl) (by kernel_rfl) (by kernel_rfl) (fun _ _ _ h => h) (Or.inl ⟨by rfl, ?hy106⟩) (by assumption) ?hr106
  case hy106 => (intro _ hSw; (try dsimp only at hSw); have hc := cell_of (i := 1) (v := ptr b.p1) hSw.2.1 rfl; go_simp <;> with_reducible rfl)
  simp only [Act.put, List.setIfInBounds_toArray, List.set_cons_zero, List.set_cons_succ]
  refine' wpAnyH_take (i := 7) (oi := { dst := some 18, op := Go.Op.fieldAddr 49 (Go.Operand.tmp 3) 2, type := 0, pos := "law.go:172", after := #[], guard := none }) (v := _) rfl (by kernel_rfl) (by kernel_rfl) (by kernel_rfl) (fun _ _ _ h => h) (Or.inl ⟨by rfl, ?hy107⟩) (by assumption) ?hr107
  case hy107 => (intro _ hSw; (try dsimp only at hSw); go_simp <;> with_reducible rfl)
  simp only [Act.put, List.setIfInBounds_toArray, List.set_cons_zero, List.set_cons_succ]
  refine' wpAnyH_take (i := 8) (oi := { dst := some 19, op := Go.Op.load 4 (Go.Operand.tmp 18), type := 4, pos := "law.go:172", after := #[{ on := 7, ground := Go.Ground.data }], guard := none }) (v := _) rfl (by kernel_rfl) (by kernel_rfl) (by kernel_rfl) (fun _ _ _ h => h) (Or.inl ⟨by rfl, ?hy108⟩) (by assumption) ?hr108
  case hy108 => (intro _ hSw; (try dsimp only at hSw); have hc := cell_of (i := 2) (v := .bool on) hSw.2.2 rfl; go_simp <;> with_reducible rfl)
  simp only [Act.put, List.setIfInBounds_toArray, List.set_cons_zero, List.set_cons_succ]
  clear hHeld
  generalize w1.drew = w2 at H2 hn2 ⊢
  refine wpAnyH_ready (rs := [9]) (by kernel_rfl) (by simp) ?_
  refine AllReadyH.cons (o := { dst := some 20, op := Go.Op.call { callee := Go.Callee.value (Go.Operand.func 22), args := #[Go.Operand.tmp 17, Go.Operand.tmp 19], argTypes := #[28, 4] }, type := 0, pos := "law.go:172", after := #[{ on := 6, ground := Go.Ground.data }, { on := 8, ground := Go.Ground.data }], guard := none }) rfl (fun K hK => ?_) AllReadyH.nil
  go_simp
  refine (obusy1 H2.out HK.out on).mono ?_
  rintro _ w3 ⟨rfl, h3, hc3⟩
  have H3 := Lib.hid h3
  have hn3 := hc3.stays hn2 (fun e => by have := HLT.out.2; have e2 : sb = b.p1 := e; omega)
  clear h3 hc3 H2 HP hn2
  go_wp2_with fail
  refine hK.out _ _ ⟨H3.out.held.1, H3.out.held.2.1, hn3⟩ (fun hNext => ?_)
  clear hK K hNext
  (try simp only [Act.put, List.setIfInBounds_toArray, List.set_cons_zero, List.set_cons_succ])
  refine wpAnyH_done (by kernel_rfl) ?_ _
  have HR := Lib.hid (oright H3.out ((((HK.out.swp.busy on).swp)).more (Nat.le_succ N) (Nat.le_succ M)) (Nat.le_trans (Nat.add_le_add_right HN.out 1) (by decide)))
  clear HK HN HM
  go_wp2_with fail
  refine HR.out.mono ?_
  rintro _ w9 ⟨rfl, h9⟩
  have H9 := Lib.hid h9
  clear h9 HR
  go_wp2
  go_ret
  exact ⟨rfl, H9.out⟩
set_option maxHeartbeats 4000000 in
set_option maxRecDepth 100000 in
theorem fst0_1_0 (w0 w : World) (b : Bk) (x : Pr) (N M : Nat) (h : PrE w0 b x w) (hk : Pok N M x) (hN : N ≤ 1000) (hM : M ≤ 1000) (d : Nat) (hd : (d : Int) % 9 = 0) (on : Bool) (A2 : Sd) (hp : Aq.push (inf x.u1) x.B = (A2, 0)) :
    Calls Try.prog 17 #[ptr b.tb, .agg #[.int .u8 (d : Int), .bool true, .bool on]] w fun e w' => e = .returned (.bool true) ∧ PrE w0 b (swp (pPush (swp x))) w' := by
  have HP := Lib.hid (h.on (show Below w.heap.size w (w.alloc (.cells #[.int .u8 (d : Int), .bool true, .bool on] 49 (0, 0))) from nest_below w [_]))
  have HK := Lib.hid hk
  have HN := Lib.hid hN
  have HM := Lib.hid hM
  have hn : (w.alloc (.cells #[.int .u8 (d : Int), .bool true, .bool on] 49 (0, 0))).heap[w.heap.size]? = some (.cells #[.int .u8 (d : Int), .bool true, .bool on] 49 (0, 0)) := nest w [_] 0 _ rfl
  have HLT := Lib.hid h.lt
  clear h hk hN hM
  go_enter Try.func17, Try.ntmps17
  go_upto_region 1 with fail
  generalize w.alloc (.cells #[.int .u8 (d : Int), .bool true, .bool on] 49 (0, 0)) = w1 at HP hn ⊢
  generalize w.heap.size = sb at hn HLT ⊢
  obtain ⟨⟨c0, c1, c2⟩, -⟩ := cells3 hn
  go_wp2_with fail
  have HPU := Lib.hid hp
  have HI : Hid (∀ w, Calls Try.prog 36 #[.int .i64 (x.u1 : Int)] w fun e w' => e = .returned (.string (inf x.u1)) ∧ Below w.heap.size w w') := Lib.hid (finf x.u1 (Nat.le_trans HK.out.u1 (Nat.le_trans HN.out (by decide))))
  have H2 := Lib.hid (HP.out.on (w' := w1.drew) ⟨rfl, rfl, rfl, Nat.le_refl _, fun _ _ => rfl⟩)
  clear hn c0 c1 c2 hp HP
  refine wp_region_held_drew (S := (fun w' => w'.heap[b.tb]? = some (.cells #[two b.ba, two b.bl, two b.bu, two b.bk, .bool x.bad] 46 (0, 0)) ∧ w'.heap[b.ba]? = some (.cells #[ptr b.p0, ptr b.p1] 28 (0, 0)) ∧ w'.heap[b.bu]? = some (.cells #[nm x.u0, nm x.u1] 3 (0, 0)))) (by kernel_rfl) H2.out.held (fun hHeld => ?_)
  refine' wpAnyH_take (i := 0) (oi := { dst := some 24, op := Go.Op.move (Go.Operand.tmp 0), type := 40, pos := "law.go:159", after := #[], guard := none }) (v := _) rfl (by kernel_rfl) (by kernel_rfl) (by kernel_rfl) (fun _ _ _ h => h) (Or.inl ⟨by rfl, ?hy109⟩) (by assumption) ?hr109
  case hy109 => (intro _ hSw; (try dsimp only at hSw); go_simp <;> with_reducible rfl)
  simp only [Act.put, List.setIfInBounds_toArray, List.set_cons_zero, List.set_cons_succ]
  refine' wpAnyH_take (i := 1) (oi := { dst := some 25, op := Go.Op.nilCheck (Go.Operand.tmp 24), type := 0, pos := "law.go:159", after := #[{ on := 0, ground := Go.Ground.data }], guard := none }) (v := _) rfl (by kernel_rfl) (by kernel_rfl) (by kernel_rfl) (fun _ _ _ h => h) (Or.inl ⟨by rfl, ?hy110⟩) (by assumption) ?hr110
  case hy110 => (intro _ hSw; (try dsimp only at hSw); go_simp <;> with_reducible rfl)
  simp only [Act.put, List.setIfInBounds_toArray, List.set_cons_zero, List.set_cons_succ]
  refine' wpAnyH_take (i := 2) (oi := { dst := some 26, op := Go.Op.fieldAddr 46 (Go.Operand.tmp 25) 0, type := 0, pos := "law.go:159", after := #[{ on := 1, ground := Go.Ground.data }], guard := none }) (v := _) rfl (by kernel_rfl) (by kernel_rfl) (by kernel_rfl) (fun _ _ _ h => h) (Or.inl ⟨by rfl, ?hy111⟩) (by assumption) ?hr111
  case hy111 => (intro _ hSw; (try dsimp only at hSw); go_simp <;> with_reducible rfl)
  simp only [Act.put, List.setIfInBounds_toArray, List.set_cons_zero, List.set_cons_succ]
  refine' wpAnyH_take (i := 3) (oi := { dst := some 27, op := Go.Op.load 42 (Go.Operand.tmp 26), type := 42, pos := "law.go:159", after := #[{ on := 2, ground := Go.Ground.data }], guard := none }) (v := _) rfl (by kernel_rfl) (by kernel_rfl) (by kernel_rfl) (fun _ _ _ h => h) (Or.inl ⟨by rfl, ?hy112⟩) (by assumption) ?hr112
  case hy112 => (intro _ hSw; (try dsimp only at hSw); have hc := cell_of (i := 0) (v := two b.ba) hSw.1 rfl; go_simp <;> with_reducible rfl)
  simp only [Act.put, List.setIfInBounds_toArray, List.set_cons_zero, List.set_cons_succ]
  refine' wpAnyH_take (i := 4) (oi := { dst := some 28, op := Go.Op.move (Go.Operand.tmp 5), type := 3, pos := "law.go:159", after := #[], guard := none }) (v := _) rfl (by kernel_rfl) (by kernel_rfl) (by kernel_rfl) (fun _ _ _ h => h) (Or.inl ⟨by rfl, ?hy113⟩) (by assumption) ?hr113
  case hy113 => (intro _ hSw; (try dsimp only at hSw); go_simp <;> with_reducible rfl)
  simp only [Act.put, List.setIfInBounds_toArray, List.set_cons_zero, List.set_cons_succ]
  refine' wpAnyH_take (i := 5) (oi := { dst := some 29, op := Go.Op.indexAddr 42 (Go.Operand.tmp 27) (Go.Operand.tmp 28), type := 0, pos := "law.go:159", after := #[{ on := 3, ground := Go.Ground.data }, { on := 4, ground := Go.Ground.data }], guard := none }) (v := _) rfl (by kernel_rfl) (by kernel_rfl) (by kernel_rfl) (fun _ _ _ h => h) (Or.inl ⟨by rfl, ?hy114⟩) (by assumption) ?hr114
  case hy114 => (intro _ hSw; (try dsimp only at hSw); go_simp <;> with_reducible rfl)
  simp only [Act.put, List.setIfInBounds_toArray, List.set_cons_zero, List.set_cons_succ]
  refine' wpAnyH_take (i := 6) (oi := { dst := some 30, op := Go.Op.load 28 (Go.Operand.tmp 29), type := 28, pos := "law.go:159", after := #[{ on := 5, ground := Go.Ground.data }], guard := none }) (v := _) rfl (by kernel_rfl) (by kernel_rfl) (by kernel_rfl) (fun _ _ _ h => h) (Or.inl ⟨by rfl, ?hy115⟩) (by assumption) ?hr115
  case hy115 => (intro _ hSw; (try dsimp only at hSw); have hc := cell_of (i := 1) (v := ptr b.p1) hSw.2.1 rfl; go_simp <;> with_reducible rfl)
  simp only [Act.put, List.setIfInBounds_toArray, List.set_cons_zero, List.set_cons_succ]
  refine' wpAnyH_take (i := 7) (oi := { dst := some 31, op := Go.Op.move (Go.Operand.tmp 0), type := 40, pos := "law.go:159", after := #[], guard := none }) (v := _) rfl (by kernel_rfl) (by kernel_rfl) (by kernel_rfl) (fun _ _ _ h => h) (Or.inl ⟨by rfl, ?hy116⟩) (by assumption) ?hr116
  case hy116 => (intro _ hSw; (try dsimp only at hSw); go_simp <;> with_reducible rfl)
  simp only [Act.put, List.setIfInBounds_toArray, List.set_cons_zero, List.set_cons_succ]
  refine' wpAnyH_take (i := 8) (oi := { dst := some 32, op := Go.Op.nilCheck (Go.Operand.tmp 31), type := 0, pos := "law.go:159", after := #[{ on := 7, ground := Go.Ground.data }], guard := none }) (v := _) rfl (by kernel_rfl) (by kernel_rfl) (by kernel_rfl) (fun _ _ _ h => h) (Or.inl ⟨by rfl, ?hy117⟩) (by assumption) ?hr117
  case hy117 => (intro _ hSw; (try dsimp only at hSw); go_simp <;> with_reducible rfl)
  simp only [Act.put, List.setIfInBounds_toArray, List.set_cons_zero, List.set_cons_succ]
  refine' wpAnyH_take (i := 9) (oi := { dst := some 33, op := Go.Op.fieldAddr 46 (Go.Operand.tmp 32) 2, type := 0, pos := "law.go:159", after := #[{ on := 8, ground := Go.Ground.data }], guard := none }) (v := _) rfl (by kernel_rfl) (by kernel_rfl) (by kernel_rfl) (fun _ _ _ h => h) (Or.inl ⟨by rfl, ?hy118⟩) (by assumption) ?hr118
  case hy118 => (intro _ hSw; (try dsimp only at hSw); go_simp <;> with_reducible rfl)
  simp only [Act.put, List.setIfInBounds_toArray, List.set_cons_zero, List.set_cons_succ]
  refine' wpAnyH_take (i := 10) (oi := { dst := some 34, op := Go.Op.load 44 (Go.Operand.tmp 33), type := 44, pos := "law.go:159", after := #[{ on := 9, ground := Go.Ground.data }], guard := none }) (v := _) rfl (by kernel_rfl) (by kernel_rfl) (by kernel_rfl) (fun _ _ _ h => h) (Or.inl ⟨by rfl, ?hy119⟩) (by assumption) ?hr119
  case hy119 => (intro _ hSw; (try dsimp only at hSw); have hc := cell_of (i := 2) (v := two b.bu) hSw.1 rfl; go_simp <;> with_reducible rfl)
  simp only [Act.put, List.setIfInBounds_toArray, List.set_cons_zero, List.set_cons_succ]
  refine' wpAnyH_take (i := 11) (oi := { dst := some 35, op := Go.Op.move (Go.Operand.tmp 5), type := 3, pos := "law.go:159", after := #[], guard := none }) (v := _) rfl (by kernel_rfl) (by kernel_rfl) (by kernel_rfl) (fun _ _ _ h => h) (Or.inl ⟨by rfl, ?hy120⟩) (by assumption) ?hr120
  case hy120 => (intro _ hSw; (try dsimp only at hSw); go_simp <;> with_reducible rfl)
  simp only [Act.put, List.setIfInBounds_toArray, List.set_cons_zero, List.set_cons_succ]
  refine' wpAnyH_take (i := 12) (oi := { dst := some 36, op := Go.Op.indexAddr 44 (Go.Operand.tmp 34) (Go.Operand.tmp 35), type := 0, pos := "law.go:159", after := #[{ on := 10, ground := Go.Ground.data }, { on := 11, ground := Go.Ground.data }], guard := none }) (v := _) rfl (by kernel_rfl) (by kernel_rfl) (by kernel_rfl) (fun _ _ _ h => h) (Or.inl ⟨by rfl, ?hy121⟩) (by assumption) ?hr121
  case hy121 => (intro _ hSw; (try dsimp only at hSw); go_simp <;> with_reducible rfl)
  simp only [Act.put, List.setIfInBounds_toArray, List.set_cons_zero, List.set_cons_succ]
  refine' wpAnyH_take (i := 13) (oi := { dst := some 37, op := Go.Op.load 3 (Go.Operand.tmp 36), type := 3, pos := "law.go:159", after := #[{ on := 12, ground := Go.Ground.data }], guard := none }) (v := _) rfl (by kernel_rfl) (by kernel_rfl) (by kernel_rfl) (fun _ _ _ h => h) (Or.inl ⟨by rfl, ?hy122⟩) (by assumption) ?hr122
  case hy122 => (intro _ hSw; (try dsimp only at hSw); have hc := cell_of (i := 1) (v := nm x.u1) hSw.2.2 rfl; go_simp <;> with_reducible rfl)
  simp only [Act.put, List.setIfInBounds_toArray, List.set_cons_zero, List.set_cons_succ]
  clear hHeld
  generalize w1.drew = w2 at H2 ⊢
  refine wpAnyH_ready (rs := [14]) (by kernel_rfl) (by simp) ?_
  refine AllReadyH.cons (o := { dst := some 38, op := Go.Op.call { callee := Go.Callee.value (Go.Operand.func 36), args := #[Go.Operand.tmp 37], argTypes := #[3] }, type := 9, pos := "law.go:159", after := #[{ on := 13, ground := Go.Ground.data }], guard := none }) rfl (fun K hK => ?_) AllReadyH.nil
  go_simp
  refine (HI.out _).mono ?_
  rintro _ w3 ⟨rfl, hb⟩
  have H3 := Lib.hid (H2.out.on hb)
  clear hb H2 HI
  go_wp2_with fail
  refine hK.out _ _ H3.out.held (fun hNext => ?_)
  clear hK K
  have hHeld := hNext
  clear hNext
  (try simp only [Act.put, List.setIfInBounds_toArray, List.set_cons_zero, List.set_cons_succ])
  clear hHeld
  refine wpAnyH_ready (rs := [15]) (by kernel_rfl) (by simp) ?_
  refine AllReadyH.cons (o := { dst := some 39, op := Go.Op.call { callee := Go.Callee.value (Go.Operand.func 18), args := #[Go.Operand.tmp 30, Go.Operand.tmp 38], argTypes := #[28, 9] }, type := 51, pos := "law.go:159", after := #[{ on := 6, ground := Go.Ground.data }, { on := 14, ground := Go.Ground.data }, { on := 14, ground := Go.Ground.chain }], guard := none }) rfl (fun K hK => ?_) AllReadyH.nil
  go_simp
  refine (opush1 H3.out HK.out.b _ A2 0 HPU.out).mono ?_
  rintro _ w4 ⟨rfl, h4⟩
  have H4 : Hid (PrE w0 b { x with B := A2 } w4) := Lib.hid h4
  clear h4 H3
  go_wp2_with fail
  refine hK.out _ _ H4.out.held (fun hNext => ?_)
  clear hK K
  have hHeld := hNext
  clear hNext
  (try simp only [Act.put, List.setIfInBounds_toArray, List.set_cons_zero, List.set_cons_succ])
  refine' wpAnyH_take (i := 16) (oi := { dst := some 40, op := Go.Op.binOp Go.BinOp.eql 51 (Go.Operand.tmp 39) (Go.Operand.const (Go.Value.int Go.IntKind.i64 0)) 51, type := 4, pos := "law.go:159", after := #[{ on := 15, ground := Go.Ground.data }], guard := none }) (v := _) rfl (by kernel_rfl) (by kernel_rfl) (by kernel_rfl) (fun _ _ _ h => h) (Or.inl ⟨by rfl, ?hy123⟩) (by assumption) ?hr123
  case hy123 => (intro _ hSw; (try dsimp only at hSw); go_simp <;> with_reducible rfl)
  simp only [Act.put, List.setIfInBounds_toArray, List.set_cons_zero, List.set_cons_succ]
  refine wpAnyH_done (by kernel_rfl) ?_ _
  clear hHeld
  obtain ⟨q0, q1, v0, v1, tag, hp⟩ := H4.out
  have c2 : w4.cell? ⟨b.tb, 2, none⟩ = some (two b.bu) := cell_of hp.blk rfl
  have cu : w4.cell? ⟨b.bu, 1, none⟩ = some (nm x.u1) := cell_of hp.u rfl
  have fu : ∀ i, w4.frozen? ⟨b.bu, i, none⟩ = false := fun _ => free_of hp.u
  have hub : x.u1 ≤ 1000 := Nat.le_trans HK.out.u1 HN.out
  have vk : IntKind.i64.wrap ((x.u1 : Int) + 1) = ((x.u1 + 1 : Nat) : Int) := by rw [IntKind.wrap_i64]; omega
  have H5 : Hid (PrE w0 b (swp (pPush (swp x))) (w4.setCell ⟨b.bu, 1, none⟩ (.int .i64 ((x.u1 + 1 : Nat) : Int)))) := by
    have hq : (swp (pPush (swp x))) = { x with B := A2, u1 := x.u1 + 1 } := by
      show ({ x with B := (Aq.push (inf x.u1) x.B).1, u1 := if (Aq.push (inf x.u1) x.B).2 = 0 then x.u1 + 1 else x.u1 } : Pr) = _
      rw [HPU.out]
      rfl
    rw [hq]
    exact Lib.hid ⟨_, _, _, _, _, hp.put_u x.u0 (x.u1 + 1) (chg_cell w4 b.bu 1 _) (block_set (i := 1) hp.u _)⟩
  have HY : Hid (Pok (N + 1) M (swp (pPush (swp x)))) := Lib.hid ((HK.out.swp.push).swp)
  clear hp H4 HPU
  clear q0 q1 v0 v1 tag
  obtain ⟨kn, hkn⟩ : ∃ kn, x.u1 + 1 = kn := ⟨_, rfl⟩
  rw [hkn] at vk H5
  clear hub hkn
  go_wp2_with fail
  generalize w4.setCell ⟨b.bu, 1, none⟩ (.int .i64 (kn : Int)) = w5 at H5 ⊢
  have HR := Lib.hid (oright H5.out HY.out (Nat.le_trans (Nat.add_le_add_right HN.out 1) (by decide)))
  clear HY HK c2 cu fu vk HN HM
  go_wp2_with fail
  refine HR.out.mono ?_
  rintro _ w9 ⟨rfl, h9⟩
  have H9 := Lib.hid h9
  clear h9 HR
  go_wp2
  go_ret
  exact ⟨rfl, H9.out⟩
set_option maxHeartbeats 4000000 in
set_option maxRecDepth 100000 in
theorem fst0_1_3 (w0 w : World) (b : Bk) (x : Pr) (N M : Nat) (h : PrE w0 b x w) (hk : Pok N M x) (hN : N ≤ 1000) (hM : M ≤ 1000) (d : Nat) (hd : (d : Int) % 9 = 0) (on : Bool) (A2 : Sd) (hp : Aq.push (inf x.u1) x.B = (A2, 3)) :
    Calls Try.prog 17 #[ptr b.tb, .agg #[.int .u8 (d : Int), .bool true, .bool on]] w fun e w' => e = .returned (.bool true) ∧ PrE w0 b (swp (pPush (swp x))) w' := by
  have HP := Lib.hid (h.on (show Below w.heap.size w (w.alloc (.cells #[.int .u8 (d : Int), .bool true, .bool on] 49 (0, 0))) from nest_below w [_]))
  have HK := Lib.hid hk
  have HN := Lib.hid hN
  have HM := Lib.hid hM
  have hn : (w.alloc (.cells #[.int .u8 (d : Int), .bool true, .bool on] 49 (0, 0))).heap[w.heap.size]? = some (.cells #[.int .u8 (d : Int), .bool true, .bool on] 49 (0, 0)) := nest w [_] 0 _ rfl
  have HLT := Lib.hid h.lt
  clear h hk hN hM
  go_enter Try.func17, Try.ntmps17
  go_upto_region 1 with fail
  generalize w.alloc (.cells #[.int .u8 (d : Int), .bool true, .bool on] 49 (0, 0)) = w1 at HP hn ⊢
  generalize w.heap.size = sb at hn HLT ⊢
  obtain ⟨⟨c0, c1, c2⟩, -⟩ := cells3 hn
  go_wp2_with fail
  have HPU := Lib.hid hp
  have HI : Hid (∀ w, Calls Try.prog 36 #[.int .i64 (x.u1 : Int)] w fun e w' => e = .returned (.string (inf x.u1)) ∧ Below w.heap.size w w') := Lib.hid (finf x.u1 (Nat.le_trans HK.out.u1 (Nat.le_trans HN.out (by decide))))
  have H2 := Lib.hid (HP.out.on (w' := w1.drew) ⟨rfl, rfl, rfl, Nat.le_refl _, fun _ _ => rfl⟩)
  clear hn c0 c1 c2 hp HP
  refine wp_region_held_drew (S := (fun w' => w'.heap[b.tb]? = some (.cells #[two b.ba, two b.bl, two b.bu, two b.bk, .bool x.bad] 46 (0, 0)) ∧ w'.heap[b.ba]? = some (.cells #[ptr b.p0, ptr b.p1] 28 (0, 0)) ∧ w'.heap[b.bu]? = some (.cells #[nm x.u0, nm x.u1] 3 (0, 0)))) (by kernel_rfl) H2.out.held (fun hHeld => ?_)
  refine' wpAnyH_take (i := 0) (oi := { dst := some 24, op := Go.Op.move (Go.Operand.tmp 0), type := 40, pos := "law.go:159", after := #[], guard := none }) (v := _) rfl (by kernel_rfl) (by kernel_rfl) (by kernel_rfl) (fun _ _ _ h => h) (Or.inl ⟨by rfl, ?hy124⟩) (by assumption) ?hr124
  case hy124 => (intro _ hSw; (try dsimp only at hSw); go_simp <;> with_reducible rfl)
  simp only [Act.put, List.setIfInBounds_toArray, List.set_cons_zero, List.set_cons_succ]
  refine' wpAnyH_take (i := 1) (oi := { dst := some 25, op := Go.Op.nilCheck (Go.Operand.tmp 24), type := 0, pos := "law.go:159", after := #[{ on := 0, ground := Go.Ground.data }], guard := none }) (v := _) rfl (by kernel_rfl) (by kernel_rfl) (by kernel_rfl) (fun _ _ _ h => h) (Or.inl ⟨by rfl, ?hy125⟩) (by assumption) ?hr125
  case hy125 => (intro _ hSw; (try dsimp only at hSw); go_simp <;> with_reducible rfl)
  simp only [Act.put, List.setIfInBounds_toArray, List.set_cons_zero, List.set_cons_succ]
  refine' wpAnyH_take (i := 2) (oi := { dst := some 26, op := Go.Op.fieldAddr 46 (Go.Operand.tmp 25) 0, type := 0, pos := "law.go:159", after := #[{ on := 1, ground := Go.Ground.data }], guard := none }) (v := _) rfl (by kernel_rfl) (by kernel_rfl) (by kernel_rfl) (fun _ _ _ h => h) (Or.inl ⟨by rfl, ?hy126⟩) (by assumption) ?hr126
  case hy126 => (intro _ hSw; (try dsimp only at hSw); go_simp <;> with_reducible rfl)
  simp only [Act.put, List.setIfInBounds_toArray, List.set_cons_zero, List.set_cons_succ]
  refine' wpAnyH_take (i := 3) (oi := { dst := some 27, op := Go.Op.load 42 (Go.Operand.tmp 26), type := 42, pos := "law.go:159", after := #[{ on := 2, ground := Go.Ground.data }], guard := none }) (v := _) rfl (by kernel_rfl) (by kernel_rfl) (by kernel_rfl) (fun _ _ _ h => h) (Or.inl ⟨by rfl, ?hy127⟩) (by assumption) ?hr127
  case hy127 => (intro _ hSw; (try dsimp only at hSw); have hc := cell_of (i := 0) (v := two b.ba) hSw.1 rfl; go_simp <;> with_reducible rfl)
  simp only [Act.put, List.setIfInBounds_toArray, List.set_cons_zero, List.set_cons_succ]
  refine' wpAnyH_take (i := 4) (oi := { dst := some 28, op := Go.Op.move (Go.Operand.tmp 5), type := 3, pos := "law.go:159", after := #[], guard := none }) (v := _) rfl (by kernel_rfl) (by kernel_rfl) (by kernel_rfl) (fun _ _ _ h => h) (Or.inl ⟨by rfl, ?hy128⟩) (by assumption) ?hr128
  case hy128 => (intro _ hSw; (try dsimp only at hSw); go_simp <;> with_reducible rfl)
  simp only [Act.put, List.setIfInBounds_toArray, List.set_cons_zero, List.set_cons_succ]
  refine' wpAnyH_take (i := 5) (oi := { dst := some 29, op := Go.Op.indexAddr 42 (Go.Operand.tmp 27) (Go.Operand.tmp 28), type := 0, pos := "law.go:159", after := #[{ on := 3, ground := Go.Ground.data }, { on := 4, ground := Go.Ground.data }], guard := none }) (v := _) rfl (by kernel_rfl) (by kernel_rfl) (by kernel_rfl) (fun _ _ _ h => h) (Or.inl ⟨by rfl, ?hy129⟩) (by assumption) ?hr129
  case hy129 => (intro _ hSw; (try dsimp only at hSw); go_simp <;> with_reducible rfl)
  simp only [Act.put, List.setIfInBounds_toArray, List.set_cons_zero, List.set_cons_succ]
  refine' wpAnyH_take (i := 6) (oi := { dst := some 30, op := Go.Op.load 28 (Go.Operand.tmp 29), type := 28, pos := "law.go:159", after := #[{ on := 5, ground := Go.Ground.data }], guard := none }) (v := _) rfl (by kernel_rfl) (by kernel_rfl) (by kernel_rfl) (fun _ _ _ h => h) (Or.inl ⟨by rfl, ?hy130⟩) (by assumption) ?hr130
  case hy130 => (intro _ hSw; (try dsimp only at hSw); have hc := cell_of (i := 1) (v := ptr b.p1) hSw.2.1 rfl; go_simp <;> with_reducible rfl)
  simp only [Act.put, List.setIfInBounds_toArray, List.set_cons_zero, List.set_cons_succ]
  refine' wpAnyH_take (i := 7) (oi := { dst := some 31, op := Go.Op.move (Go.Operand.tmp 0), type := 40, pos := "law.go:159", after := #[], guard := none }) (v := _) rfl (by kernel_rfl) (by kernel_rfl) (by kernel_rfl) (fun _ _ _ h => h) (Or.inl ⟨by rfl, ?hy131⟩) (by assumption) ?hr131
  case hy131 => (intro _ hSw; (try dsimp only at hSw); go_simp <;> with_reducible rfl)
  simp only [Act.put, List.setIfInBounds_toArray, List.set_cons_zero, List.set_cons_succ]
  refine' wpAnyH_take (i := 8) (oi := { dst := some 32, op := Go.Op.nilCheck (Go.Operand.tmp 31), type := 0, pos := "law.go:159", after := #[{ on := 7, ground := Go.Ground.data }], guard := none }) (v := _) rfl (by kernel_rfl) (by kernel_rfl) (by kernel_rfl) (fun _ _ _ h => h) (Or.inl ⟨by rfl, ?hy132⟩) (by assumption) ?hr132
  case hy132 => (intro _ hSw; (try dsimp only at hSw); go_simp <;> with_reducible rfl)
  simp only [Act.put, List.setIfInBounds_toArray, List.set_cons_zero, List.set_cons_succ]
  refine' wpAnyH_take (i := 9) (oi := { dst := some 33, op := Go.Op.fieldAddr 46 (Go.Operand.tmp 32) 2, type := 0, pos := "law.go:159", after := #[{ on := 8, ground := Go.Ground.data }], guard := none }) (v := _) rfl (by kernel_rfl) (by kernel_rfl) (by kernel_rfl) (fun _ _ _ h => h) (Or.inl ⟨by rfl, ?hy133⟩) (by assumption) ?hr133
  case hy133 => (intro _ hSw; (try dsimp only at hSw); go_simp <;> with_reducible rfl)
  simp only [Act.put, List.setIfInBounds_toArray, List.set_cons_zero, List.set_cons_succ]
  refine' wpAnyH_take (i := 10) (oi := { dst := some 34, op := Go.Op.load 44 (Go.Operand.tmp 33), type := 44, pos := "law.go:159", after := #[{ on := 9, ground := Go.Ground.data }], guard := none }) (v := _) rfl (by kernel_rfl) (by kernel_rfl) (by kernel_rfl) (fun _ _ _ h => h) (Or.inl ⟨by rfl, ?hy134⟩) (by assumption) ?hr134
  case hy134 => (intro _ hSw; (try dsimp only at hSw); have hc := cell_of (i := 2) (v := two b.bu) hSw.1 rfl; go_simp <;> with_reducible rfl)
  simp only [Act.put, List.setIfInBounds_toArray, List.set_cons_zero, List.set_cons_succ]
  refine' wpAnyH_take (i := 11) (oi := { dst := some 35, op := Go.Op.move (Go.Operand.tmp 5), type := 3, pos := "law.go:159", after := #[], guard := none }) (v := _) rfl (by kernel_rfl) (by kernel_rfl) (by kernel_rfl) (fun _ _ _ h => h) (Or.inl ⟨by rfl, ?hy135⟩) (by assumption) ?hr135
  case hy135 => (intro _ hSw; (try dsimp only at hSw); go_simp <;> with_reducible rfl)
  simp only [Act.put, List.setIfInBounds_toArray, List.set_cons_zero, List.set_cons_succ]
  refine' wpAnyH_take (i := 12) (oi := { dst := some 36, op := Go.Op.indexAddr 44 (Go.Operand.tmp 34) (Go.Operand.tmp 35), type := 0, pos := "law.go:159", after := #[{ on := 10, ground := Go.Ground.data }, { on := 11, ground := Go.Ground.data }], guard := none }) (v := _) rfl (by kernel_rfl) (by kernel_rfl) (by kernel_rfl) (fun _ _ _ h => h) (Or.inl ⟨by rfl, ?hy136⟩) (by assumption) ?hr136
  case hy136 => (intro _ hSw; (try dsimp only at hSw); go_simp <;> with_reducible rfl)
  simp only [Act.put, List.setIfInBounds_toArray, List.set_cons_zero, List.set_cons_succ]
  refine' wpAnyH_take (i := 13) (oi := { dst := some 37, op := Go.Op.load 3 (Go.Operand.tmp 36), type := 3, pos := "law.go:159", after := #[{ on := 12, ground := Go.Ground.data }], guard := none }) (v := _) rfl (by kernel_rfl) (by kernel_rfl) (by kernel_rfl) (fun _ _ _ h => h) (Or.inl ⟨by rfl, ?hy137⟩) (by assumption) ?hr137
  case hy137 => (intro _ hSw; (try dsimp only at hSw); have hc := cell_of (i := 1) (v := nm x.u1) hSw.2.2 rfl; go_simp <;> with_reducible rfl)
  simp only [Act.put, List.setIfInBounds_toArray, List.set_cons_zero, List.set_cons_succ]
  clear hHeld
  generalize w1.drew = w2 at H2 ⊢
  refine wpAnyH_ready (rs := [14]) (by kernel_rfl) (by simp) ?_
  refine AllReadyH.cons (o := { dst := some 38, op := Go.Op.call { callee := Go.Callee.value (Go.Operand.func 36), args := #[Go.Operand.tmp 37], argTypes := #[3] }, type := 9, pos := "law.go:159", after := #[{ on := 13, ground := Go.Ground.data }], guard := none }) rfl (fun K hK => ?_) AllReadyH.nil
  go_simp
  refine (HI.out _).mono ?_
  rintro _ w3 ⟨rfl, hb⟩
  have H3 := Lib.hid (H2.out.on hb)
  clear hb H2 HI
  go_wp2_with fail
  refine hK.out _ _ H3.out.held (fun hNext => ?_)
  clear hK K
  have hHeld := hNext
  clear hNext
  (try simp only [Act.put, List.setIfInBounds_toArray, List.set_cons_zero, List.set_cons_succ])
  clear hHeld
  refine wpAnyH_ready (rs := [15]) (by kernel_rfl) (by simp) ?_
  refine AllReadyH.cons (o := { dst := some 39, op := Go.Op.call { callee := Go.Callee.value (Go.Operand.func 18), args := #[Go.Operand.tmp 30, Go.Operand.tmp 38], argTypes := #[28, 9] }, type := 51, pos := "law.go:159", after := #[{ on := 6, ground := Go.Ground.data }, { on := 14, ground := Go.Ground.data }, { on := 14, ground := Go.Ground.chain }], guard := none }) rfl (fun K hK => ?_) AllReadyH.nil
  go_simp
  refine (opush1 H3.out HK.out.b _ A2 3 HPU.out).mono ?_
  rintro _ w4 ⟨rfl, h4⟩
  have H4 : Hid (PrE w0 b { x with B := A2 } w4) := Lib.hid h4
  clear h4 H3
  go_wp2_with fail
  refine hK.out _ _ H4.out.held (fun hNext => ?_)
  clear hK K
  have hHeld := hNext
  clear hNext
  (try simp only [Act.put, List.setIfInBounds_toArray, List.set_cons_zero, List.set_cons_succ])
  refine' wpAnyH_take (i := 16) (oi := { dst := some 40, op := Go.Op.binOp Go.BinOp.eql 51 (Go.Operand.tmp 39) (Go.Operand.const (Go.Value.int Go.IntKind.i64 0)) 51, type := 4, pos := "law.go:159", after := #[{ on := 15, ground := Go.Ground.data }], guard := none }) (v := _) rfl (by kernel_rfl) (by kernel_rfl) (by kernel_rfl) (fun _ _ _ h => h) (Or.inl ⟨by rfl, ?hy138⟩) (by assumption) ?hr138
  case hy138 => (intro _ hSw; (try dsimp only at hSw); go_simp <;> with_reducible rfl)
  simp only [Act.put, List.setIfInBounds_toArray, List.set_cons_zero, List.set_cons_succ]
  refine wpAnyH_done (by kernel_rfl) ?_ _
  clear hHeld
  have H5 : Hid (PrE w0 b (swp (pPush (swp x))) w4) := by
    have hq : (swp (pPush (swp x))) = { x with B := A2 } := by
      show ({ x with B := (Aq.push (inf x.u1) x.B).1, u1 := if (Aq.push (inf x.u1) x.B).2 = 0 then x.u1 + 1 else x.u1 } : Pr) = _
      rw [HPU.out]
      rfl
    rw [hq]
    exact H4
  clear H4
  have HR := Lib.hid (oright H5.out ((HK.out.swp.push).swp) (Nat.le_trans (Nat.add_le_add_right HN.out 1) (by decide)))
  clear HK HN HM
  go_wp2_with fail
  refine HR.out.mono ?_
  rintro _ w9 ⟨rfl, h9⟩
  have H9 := Lib.hid h9
  clear h9 HR
  go_wp2
  go_ret
  exact ⟨rfl, H9.out⟩
set_option maxHeartbeats 4000000 in
set_option maxRecDepth 100000 in
theorem fst0_1_4 (w0 w : World) (b : Bk) (x : Pr) (N M : Nat) (h : PrE w0 b x w) (hk : Pok N M x) (hN : N ≤ 1000) (hM : M ≤ 1000) (d : Nat) (hd : (d : Int) % 9 = 0) (on : Bool) (A2 : Sd) (hp : Aq.push (inf x.u1) x.B = (A2, 4)) :
    Calls Try.prog 17 #[ptr b.tb, .agg #[.int .u8 (d : Int), .bool true, .bool on]] w fun e w' => e = .returned (.bool true) ∧ PrE w0 b (swp (pPush (swp x))) w' := by
  have HP := Lib.hid (h.on (show Below w.heap.size w (w.alloc (.cells #[.int .u8 (d : Int), .bool true, .bool on] 49 (0, 0))) from nest_below w [_]))
  have HK := Lib.hid hk
  have HN := Lib.hid hN
  have HM := Lib.hid hM
  have hn : (w.alloc (.cells #[.int .u8 (d : Int), .bool true, .bool on] 49 (0, 0))).heap[w.heap.size]? = some (.cells #[.int .u8 (d : Int), .bool true, .bool on] 49 (0, 0)) := nest w [_] 0 _ rfl
  have HLT := Lib.hid h.lt
  clear h hk hN hM
  go_enter Try.func17, Try.ntmps17
  go_upto_region 1 with fail
  generalize w.alloc (.cells #[.int .u8 (d : Int), .bool true, .bool on] 49 (0, 0)) = w1 at HP hn ⊢
  generalize w.heap.size = sb at hn HLT ⊢
  obtain ⟨⟨c0, c1, c2⟩, -⟩ := cells3 hn
  go_wp2_with fail
  have HPU := Lib.hid hp
  have HI : Hid (∀ w, Calls Try.prog 36 #[.int .i64 (x.u1 : Int)] w fun e w' => e = .returned (.string (inf x.u1)) ∧ Below w.heap.size w w') := Lib.hid (finf x.u1 (Nat.le_trans HK.out.u1 (Nat.le_trans HN.out (by decide))))
  have H2 := Lib.hid (HP.out.on (w' := w1.drew) ⟨rfl, rfl, rfl, Nat.le_refl _, fun _ _ => rfl⟩)
  clear hn c0 c1 c2 hp HP
  refine wp_region_held_drew (S := (fun w' => w'.heap[b.tb]? = some (.cells #[two b.ba, two b.bl, two b.bu, two b.bk, .bool x.bad] 46 (0, 0)) ∧ w'.heap[b.ba]? = some (.cells #[ptr b.p0, ptr b.p1] 28 (0, 0)) ∧ w'.heap[b.bu]? = some (.cells #[nm x.u0, nm x.u1] 3 (0, 0)))) (by kernel_rfl) H2.out.held (fun hHeld => ?_)
  refine' wpAnyH_take (i := 0) (oi := { dst := some 24, op := Go.Op.move (Go.Operand.tmp 0), type := 40, pos := "law.go:159", after := #[], guard := none }) (v := _) rfl (by kernel_rfl) (by kernel_rfl) (by kernel_rfl) (fun _ _ _ h => h) (Or.inl ⟨by rfl, ?hy139⟩) (by assumption) ?hr139
  case hy139 => (intro _ hSw; (try dsimp only at hSw); go_simp <;> with_reducible rfl)
  simp only [Act.put, List.setIfInBounds_toArray, List.set_cons_zero, List.set_cons_succ]
  refine' wpAnyH_take (i := 1) (oi := { dst := some 25, op := Go.Op.nilCheck (Go.Operand.tmp 24), type := 0, pos := "law.go:159", after := #[{ on := 0, ground := Go.Ground.data }], guard := none }) (v := _) rfl (by kernel_rfl) (by kernel_rfl) (by kernel_rfl) (fun _ _ _ h => h) (Or.inl ⟨by rfl, ?hy140⟩) (by assumption) ?hr140
  case hy140 => (intro _ hSw; (try dsimp only at hSw); go_simp <;> with_reducible rfl)
  simp only [Act.put, List.setIfInBounds_toArray, List.set_cons_zero, List.set_cons_succ]
  refine' wpAnyH_take (i := 2) (oi := { dst := some 26, op := Go.Op.fieldAddr 46 (Go.Operand.tmp 25) 0, type := 0, pos := "law.go:159", after := #[{ on := 1, ground := Go.Ground.data }], guard := none }) (v := _) rfl (by kernel_rfl) (by kernel_rfl) (by kernel_rfl) (fun _ _ _ h => h) (Or.inl ⟨by rfl, ?hy141⟩) (by assumption) ?hr141
  case hy141 => (intro _ hSw; (try dsimp only at hSw); go_simp <;> with_reducible rfl)
  simp only [Act.put, List.setIfInBounds_toArray, List.set_cons_zero, List.set_cons_succ]
  refine' wpAnyH_take (i := 3) (oi := { dst := some 27, op := Go.Op.load 42 (Go.Operand.tmp 26), type := 42, pos := "law.go:159", after := #[{ on := 2, ground := Go.Ground.data }], guard := none }) (v := _) rfl (by kernel_rfl) (by kernel_rfl) (by kernel_rfl) (fun _ _ _ h => h) (Or.inl ⟨by rfl, ?hy142⟩) (by assumption) ?hr142
  case hy142 => (intro _ hSw; (try dsimp only at hSw); have hc := cell_of (i := 0) (v := two b.ba) hSw.1 rfl; go_simp <;> with_reducible rfl)
  simp only [Act.put, List.setIfInBounds_toArray, List.set_cons_zero, List.set_cons_succ]
  refine' wpAnyH_take (i := 4) (oi := { dst := some 28, op := Go.Op.move (Go.Operand.tmp 5), type := 3, pos := "law.go:159", after := #[], guard := none }) (v := _) rfl (by kernel_rfl) (by kernel_rfl) (by kernel_rfl) (fun _ _ _ h => h) (Or.inl ⟨by rfl, ?hy143⟩) (by assumption) ?hr143
  case hy143 => (intro _ hSw; (try dsimp only at hSw); go_simp <;> with_reducible rfl)
  simp only [Act.put, List.setIfInBounds_toArray, List.set_cons_zero, List.set_cons_succ]
  refine' wpAnyH_take (i := 5) (oi := { dst := some 29, op := Go.Op.indexAddr 42 (Go.Operand.tmp 27) (Go.Operand.tmp 28), type := 0, pos := "law.go:159", after := #[{ on := 3, ground := Go.Ground.data }, { on := 4, ground := Go.Ground.data }], guard := none }) (v := _) rfl (by kernel_rfl) (by kernel_rfl) (by kernel_rfl) (fun _ _ _ h => h) (Or.inl ⟨by rfl, ?hy144⟩) (by assumption) ?hr144
  case hy144 => (intro _ hSw; (try dsimp only at hSw); go_simp <;> with_reducible rfl)
  simp only [Act.put, List.setIfInBounds_toArray, List.set_cons_zero, List.set_cons_succ]
  refine' wpAnyH_take (i := 6) (oi := { dst := some 30, op := Go.Op.load 28 (Go.Operand.tmp 29), type := 28, pos := "law.go:159", after := #[{ on := 5, ground := Go.Ground.data }], guard := none }) (v := _) rfl (by kernel_rfl) (by kernel_rfl) (by kernel_rfl) (fun _ _ _ h => h) (Or.inl ⟨by rfl, ?hy145⟩) (by assumption) ?hr145
  case hy145 => (intro _ hSw; (try dsimp only at hSw); have hc := cell_of (i := 1) (v := ptr b.p1) hSw.2.1 rfl; go_simp <;> with_reducible rfl)
  simp only [Act.put, List.setIfInBounds_toArray, List.set_cons_zero, List.set_cons_succ]
  refine' wpAnyH_take (i := 7) (oi := { dst := some 31, op := Go.Op.move (Go.Operand.tmp 0), type := 40, pos := "law.go:159", after := #[], guard := none }) (v := _) rfl (by kernel_rfl) (by kernel_rfl) (by kernel_rfl) (fun _ _ _ h => h) (Or.inl ⟨by rfl, ?hy146⟩) (by assumption) ?hr146
  case hy146 => (intro _ hSw; (try dsimp only at hSw); go_simp <;> with_reducible rfl)
  simp only [Act.put, List.setIfInBounds_toArray, List.set_cons_zero, List.set_cons_succ]
  refine' wpAnyH_take (i := 8) (oi := { dst := some 32, op := Go.Op.nilCheck (Go.Operand.tmp 31), type := 0, pos := "law.go:159", after := #[{ on := 7, ground := Go.Ground.data }], guard := none }) (v := _) rfl (by kernel_rfl) (by kernel_rfl) (by kernel_rfl) (fun _ _ _ h => h) (Or.inl ⟨by rfl, ?hy147⟩) (by assumption) ?hr147
  case hy147 => (intro _ hSw; (try dsimp only at hSw); go_simp <;> with_reducible rfl)
  simp only [Act.put, List.setIfInBounds_toArray, List.set_cons_zero, List.set_cons_succ]
  refine' wpAnyH_take (i := 9) (oi := { dst := some 33, op := Go.Op.fieldAddr 46 (Go.Operand.tmp 32) 2, type := 0, pos := "law.go:159", after := #[{ on := 8, ground := Go.Ground.data }], guard := none }) (v := _) rfl (by kernel_rfl) (by kernel_rfl) (by kernel_rfl) (fun _ _ _ h => h) (Or.inl ⟨by rfl, ?hy148⟩) (by assumption) ?hr148
  case hy148 => (intro _ hSw; (try dsimp only at hSw); go_simp <;> with_reducible rfl)
  simp only [Act.put, List.setIfInBounds_toArray, List.set_cons_zero, List.set_cons_succ]
  refine' wpAnyH_take (i := 10) (oi := { dst := some 34, op := Go.Op.load 44 (Go.Operand.tmp 33), type := 44, pos := "law.go:159", after := #[{ on := 9, ground := Go.Ground.data }], guard := none }) (v := _) rfl (by kernel_rfl) (by kernel_rfl) (by kernel_rfl) (fun _ _ _ h => h) (Or.inl ⟨by rfl, ?hy149⟩) (by assumption) ?hr149
  case hy149 => (intro _ hSw; (try dsimp only at hSw); have hc := cell_of (i := 2) (v := two b.bu) hSw.1 rfl; go_simp <;> with_reducible rfl)
  simp only [Act.put, List.setIfInBounds_toArray, List.set_cons_zero, List.set_cons_succ]
  refine' wpAnyH_take (i := 11) (oi := { dst := some 35, op := Go.Op.move (Go.Operand.tmp 5), type := 3, pos := "law.go:159", after := #[], guard := none }) (v := _) rfl (by kernel_rfl) (by kernel_rfl) (by kernel_rfl) (fun _ _ _ h => h) (Or.inl ⟨by rfl, ?hy150⟩) (by assumption) ?hr150
  case hy150 => (intro _ hSw; (try dsimp only at hSw); go_simp <;> with_reducible rfl)
  simp only [Act.put, List.setIfInBounds_toArray, List.set_cons_zero, List.set_cons_succ]
  refine' wpAnyH_take (i := 12) (oi := { dst := some 36, op := Go.Op.indexAddr 44 (Go.Operand.tmp 34) (Go.Operand.tmp 35), type := 0, pos := "law.go:159", after := #[{ on := 10, ground := Go.Ground.data }, { on := 11, ground := Go.Ground.data }], guard := none }) (v := _) rfl (by kernel_rfl) (by kernel_rfl) (by kernel_rfl) (fun _ _ _ h => h) (Or.inl ⟨by rfl, ?hy151⟩) (by assumption) ?hr151
  case hy151 => (intro _ hSw; (try dsimp only at hSw); go_simp <;> with_reducible rfl)
  simp only [Act.put, List.setIfInBounds_toArray, List.set_cons_zero, List.set_cons_succ]
  refine' wpAnyH_take (i := 13) (oi := { dst := some 37, op := Go.Op.load 3 (Go.Operand.tmp 36), type := 3, pos := "law.go:159", after := #[{ on := 12, ground := Go.Ground.data }], guard := none }) (v := _) rfl (by kernel_rfl) (by kernel_rfl) (by kernel_rfl) (fun _ _ _ h => h) (Or.inl ⟨by rfl, ?hy152⟩) (by assumption) ?hr152
  case hy152 => (intro _ hSw; (try dsimp only at hSw); have hc := cell_of (i := 1) (v := nm x.u1) hSw.2.2 rfl; go_simp <;> with_reducible rfl)
  simp only [Act.put, List.setIfInBounds_toArray, List.set_cons_zero, List.set_cons_succ]
  clear hHeld
  generalize w1.drew = w2 at H2 ⊢
  refine wpAnyH_ready (rs := [14]) (by kernel_rfl) (by simp) ?_
  refine AllReadyH.cons (o := { dst := some 38, op := Go.Op.call { callee := Go.Callee.value (Go.Operand.func 36), args := #[Go.Operand.tmp 37], argTypes := #[3] }, type := 9, pos := "law.go:159", after := #[{ on := 13, ground := Go.Ground.data }], guard := none }) rfl (fun K hK => ?_) AllReadyH.nil
  go_simp
  refine (HI.out _).mono ?_
  rintro _ w3 ⟨rfl, hb⟩
  have H3 := Lib.hid (H2.out.on hb)
  clear hb H2 HI
  go_wp2_with fail
  refine hK.out _ _ H3.out.held (fun hNext => ?_)
  clear hK K
  have hHeld := hNext
  clear hNext
  (try simp only [Act.put, List.setIfInBounds_toArray, List.set_cons_zero, List.set_cons_succ])
  clear hHeld
  refine wpAnyH_ready (rs := [15]) (by kernel_rfl) (by simp) ?_
  refine AllReadyH.cons (o := { dst := some 39, op := Go.Op.call { callee := Go.Callee.value (Go.Operand.func 18), args := #[Go.Operand.tmp 30, Go.Operand.tmp 38], argTypes := #[28, 9] }, type := 51, pos := "law.go:159", after := #[{ on := 6, ground := Go.Ground.data }, { on := 14, ground := Go.Ground.data }, { on := 14, ground := Go.Ground.chain }], guard := none }) rfl (fun K hK => ?_) AllReadyH.nil
  go_simp
  refine (opush1 H3.out HK.out.b _ A2 4 HPU.out).mono ?_
  rintro _ w4 ⟨rfl, h4⟩
  have H4 : Hid (PrE w0 b { x with B := A2 } w4) := Lib.hid h4
  clear h4 H3
  go_wp2_with fail
  refine hK.out _ _ H4.out.held (fun hNext => ?_)
  clear hK K
  have hHeld := hNext
  clear hNext
  (try simp only [Act.put, List.setIfInBounds_toArray, List.set_cons_zero, List.set_cons_succ])
  refine' wpAnyH_take (i := 16) (oi := { dst := some 40, op := Go.Op.binOp Go.BinOp.eql 51 (Go.Operand.tmp 39) (Go.Operand.const (Go.Value.int Go.IntKind.i64 0)) 51, type := 4, pos := "law.go:159", after := #[{ on := 15, ground := Go.Ground.data }], guard := none }) (v := _) rfl (by kernel_rfl) (by kernel_rfl) (by kernel_rfl) (fun _ _ _ h => h) (Or.inl ⟨by rfl, ?hy153⟩) (by assumption) ?hr153
  case hy153 => (intro _ hSw; (try dsimp only at hSw); go_simp <;> with_reducible rfl)
  simp only [Act.put, List.setIfInBounds_toArray, List.set_cons_zero, List.set_cons_succ]
  refine wpAnyH_done (by kernel_rfl) ?_ _
  clear hHeld
  have H5 : Hid (PrE w0 b (swp (pPush (swp x))) w4) := by
    have hq : (swp (pPush (swp x))) = { x with B := A2 } := by
      show ({ x with B := (Aq.push (inf x.u1) x.B).1, u1 := if (Aq.push (inf x.u1) x.B).2 = 0 then x.u1 + 1 else x.u1 } : Pr) = _
      rw [HPU.out]
      rfl
    rw [hq]
    exact H4
  clear H4
  have HR := Lib.hid (oright H5.out ((HK.out.swp.push).swp) (Nat.le_trans (Nat.add_le_add_right HN.out 1) (by decide)))
  clear HK HN HM
  go_wp2_with fail
  refine HR.out.mono ?_
  rintro _ w9 ⟨rfl, h9⟩
  have H9 := Lib.hid h9
  clear h9 HR
  go_wp2
  go_ret
  exact ⟨rfl, H9.out⟩
set_option maxHeartbeats 4000000 in
set_option maxRecDepth 100000 in
theorem fst1_1_0 (w0 w : World) (b : Bk) (x : Pr) (N M : Nat) (h : PrE w0 b x w) (hk : Pok N M x) (hN : N ≤ 1000) (hM : M ≤ 1000) (d : Nat) (hd : (d : Int) % 9 = 1) (on : Bool) (A2 : Sd) (hp : Aq.push (inf x.u1) x.B = (A2, 0)) :
    Calls Try.prog 17 #[ptr b.tb, .agg #[.int .u8 (d : Int), .bool true, .bool on]] w fun e w' => e = .returned (.bool true) ∧ PrE w0 b (swp (pPush (swp x))) w' := by
  have HP := Lib.hid (h.on (show Below w.heap.size w (w.alloc (.cells #[.int .u8 (d : Int), .bool true, .bool on] 49 (0, 0))) from nest_below w [_]))
  have HK := Lib.hid hk
  have HN := Lib.hid hN
  have HM := Lib.hid hM
  have hn : (w.alloc (.cells #[.int .u8 (d : Int), .bool true, .bool on] 49 (0, 0))).heap[w.heap.size]? = some (.cells #[.int .u8 (d : Int), .bool true, .bool on] 49 (0, 0)) := nest w [_] 0 _ rfl
  have HLT := Lib.hid h.lt
  clear h hk hN hM
  go_enter Try.func17, Try.ntmps17
  go_upto_region 1 with fail
  generalize w.alloc (.cells #[.int .u8 (d : Int), .bool true, .bool on] 49 (0, 0)) = w1 at HP hn ⊢
  generalize w.heap.size = sb at hn HLT ⊢
  obtain ⟨⟨c0, c1, c2⟩, -⟩ := cells3 hn
  go_wp2_with fail
  have HPU := Lib.hid hp
  have HI : Hid (∀ w, Calls Try.prog 36 #[.int .i64 (x.u1 : Int)] w fun e w' => e = .returned (.string (inf x.u1)) ∧ Below w.heap.size w w') := Lib.hid (finf x.u1 (Nat.le_trans HK.out.u1 (Nat.le_trans HN.out (by decide))))
  have H2 := Lib.hid (HP.out.on (w' := w1.drew) ⟨rfl, rfl, rfl, Nat.le_refl _, fun _ _ => rfl⟩)
  clear hn c0 c1 c2 hp HP
  refine wp_region_held_drew (S := (fun w' => w'.heap[b.tb]? = some (.cells #[two b.ba, two b.bl, two b.bu, two b.bk, .bool x.bad] 46 (0, 0)) ∧ w'.heap[b.ba]? = some (.cells #[ptr b.p0, ptr b.p1] 28 (0, 0)) ∧ w'.heap[b.bu]? = some (.cells #[nm x.u0, nm x.u1] 3 (0, 0)))) (by kernel_rfl) H2.out.held (fun hHeld => ?_)
  refine' wpAnyH_take (i := 0) (oi := { dst := some 24, op := Go.Op.move (Go.Operand.tmp 0), type := 40, pos := "law.go:159", after := #[], guard := none }) (v := _) rfl (by kernel_rfl) (by kernel_rfl) (by kernel_rfl) (fun _ _ _ h => h) (Or.inl ⟨by rfl, ?hy154⟩) (by assumption) ?hr154
  case hy154 => (intro _ hSw; (try dsimp only at hSw); go_simp <;> with_reducible rfl)
  simp only [Act.put, List.setIfInBounds_toArray, List.set_cons_zero, List.set_cons_succ]
  refine' wpAnyH_take (i := 1) (oi := { dst := some 25, op := Go.Op.nilCheck (Go.Operand.tmp 24), type := 0, pos := "law.go:159", after := #[{ on := 0, ground := Go.Ground.data }], guard := none }) (v := _) rfl (by kernel_rfl) (by kernel_rfl) (by kernel_rfl) (fun _ _ _ h => h) (Or.inl ⟨by rfl, ?hy155⟩) (by assumption) ?hr155
  case hy155 => (intro _ hSw; (try dsimp only at hSw); go_simp <;> with_reducible rfl)
  simp only [Act.put, List.setIfInBounds_toArray, List.set_cons_zero, List.set_cons_succ]
  refine' wpAnyH_take (i := 2) (oi := { dst := some 26, op := Go.Op.fieldAddr 46 (Go.Operand.tmp 25) 0, type := 0, pos := "law.go:159", after := #[{ on := 1, ground := Go.Ground.data }], guard := none }) (v := _) rfl (by kernel_rfl) (by kernel_rfl) (by kernel_rfl) (fun _ _ _ h => h) (Or.inl ⟨by rfl, ?hy156⟩) (by assumption) ?hr156
  case hy156 => (intro _ hSw; (try dsimp only at hSw); go_simp <;> with_reducible rfl)
  simp only [Act.put, List.setIfInBounds_toArray, List.set_cons_zero, List.set_cons_succ]
  refine' wpAnyH_take (i := 3) (oi := { dst := some 27, op := Go.Op.load 42 (Go.Operand.tmp 26), type := 42, pos := "law.go:159", after := #[{ on := 2, ground := Go.Ground.data }], guard := none }) (v := _) rfl (by kernel_rfl) (by kernel_rfl) (by kernel_rfl) (fun _ _ _ h => h) (Or.inl ⟨by rfl, ?hy157⟩) (by assumption) ?hr157
  case hy157 => (intro _ hSw; (try dsimp only at hSw); have hc := cell_of (i := 0) (v := two b.ba) hSw.1 rfl; go_simp <;> with_reducible rfl)
  simp only [Act.put, List.setIfInBounds_toArray, List.set_cons_zero, List.set_cons_succ]
  refine' wpAnyH_take (i := 4) (oi := { dst := some 28, op := Go.Op.move (Go.Operand.tmp 5), type := 3, pos := "law.go:159", after := #[], guard := none }) (v := _) rfl (by kernel_rfl) (by kernel_rfl) (by kernel_rfl) (fun _ _ _ h => h) (Or.inl ⟨by rfl, ?hy158⟩) (by assumption) ?hr158
  case hy158 => (intro _ hSw; (try dsimp only at hSw); go_simp <;> with_reducible rfl)
  simp only [Act.put, List.setIfInBounds_toArray, List.set_cons_zero, List.set_cons_succ]
  refine' wpAnyH_take (i := 5) (oi := { dst := some 29, op := Go.Op.indexAddr 42 (Go.Operand.tmp 27) (Go.Operand.tmp 28), type := 0, pos := "law.go:159", after := #[{ on := 3, ground := Go.Ground.data }, { on := 4, ground := Go.Ground.data }], guard := none }) (v := _) rfl (by kernel_rfl) (by kernel_rfl) (by kernel_rfl) (fun _ _ _ h => h) (Or.inl ⟨by rfl, ?hy159⟩) (by assumption) ?hr159
  case hy159 => (intro _ hSw; (try dsimp only at hSw); go_simp <;> with_reducible rfl)
  simp only [Act.put, List.setIfInBounds_toArray, List.set_cons_zero, List.set_cons_succ]
  refine' wpAnyH_take (i := 6) (oi := { dst := some 30, op := Go.Op.load 28 (Go.Operand.tmp 29), type := 28, pos := "law.go:159", after := #[{ on := 5, ground := Go.Ground.data }], guard := none }) (v := _) rfl (by kernel_rfl) (by kernel_rfl) (by kernel_rfl) (fun _ _ _ h => h) (Or.inl ⟨by rfl, ?hy160⟩) (by assumption) ?hr160
  case hy160 => (intro _ hSw; (try dsimp only at hSw); have hc := cell_of (i := 1) (v := ptr b.p1) hSw.2.1 rfl; go_simp <;> with_reducible rfl)
  simp only [Act.put, List.setIfInBounds_toArray, List.set_cons_zero, List.set_cons_succ]
  refine' wpAnyH_take (i := 7) (oi := { dst := some 31, op := Go.Op.move (Go.Operand.tmp 0), type := 40, pos := "law.go:159", after := #[], guard := none }) (v := _) rfl (by kernel_rfl) (by kernel_rfl) (by kernel_rfl) (fun _ _ _ h => h) (Or.inl ⟨by rfl, ?hy161⟩) (by assumption) ?hr161
  case hy161 => (intro _ hSw; (try dsimp only at hSw); go_simp <;> with_reducible rfl)
  simp only [Act.put, List.setIfInBounds_toArray, List.set_cons_zero, List.set_cons_succ]
  refine' wpAnyH_take (i := 8) (oi := { dst := some 32, op := Go.Op.nilCheck (Go.Operand.tmp 31), type := 0, pos := "law.go:159", after := #[{ on := 7, ground := Go.Ground.data }], guard := none }) (v := _) rfl (by kernel_rfl) (by kernel_rfl) (by kernel_rfl) (fun _ _ _ h => h) (Or.inl ⟨by rfl, ?hy162⟩) (by assumption) ?hr162
  case hy162 => (intro _ hSw; (try dsimp only at hSw); go_simp <;> with_reducible rfl)
  simp only [Act.put, List.setIfInBounds_toArray, List.set_cons_zero, List.set_cons_succ]
  refine' wpAnyH_take (i := 9) (oi := { dst := some 33, op := Go.Op.fieldAddr 46 (Go.Operand.tmp 32) 2, type := 0, pos := "law.go:159", after := #[{ on := 8, ground := Go.Ground.data }], guard := none }) (v := _) rfl (by kernel_rfl) (by kernel_rfl) (by kernel_rfl) (fun _ _ _ h => h) (Or.inl ⟨by rfl, ?hy163⟩) (by assumption) ?hr163
  case hy163 => (intro _ hSw; (try dsimp only at hSw); go_simp <;> with_reducible rfl)
  simp only [Act.put, List.setIfInBounds_toArray, List.set_cons_zero, List.set_cons_succ]
  refine' wpAnyH_take (i := 10) (oi := { dst := some 34, op := Go.Op.load 44 (Go.Operand.tmp 33), type := 44, pos := "law.go:159", after := #[{ on := 9, ground := Go.Ground.data }], guard := none }) (v := _) rfl (by kernel_rfl) (by kernel_rfl) (by kernel_rfl) (fun _ _ _ h => h) (Or.inl ⟨by rfl, ?hy164⟩) (by assumption) ?hr164
  case hy164 => (intro _ hSw; (try dsimp only at hSw); have hc := cell_of (i := 2) (v := two b.bu) hSw.1 rfl; go_simp <;> with_reducible rfl)
  simp only [Act.put, List.setIfInBounds_toArray, List.set_cons_zero, List.set_cons_succ]
  refine' wpAnyH_take (i := 11) (oi := { dst := some 35, op := Go.Op.move (Go.Operand.tmp 5), type := 3, pos := "law.go:159", after := #[], guard := none }) (v := _) rfl (by kernel_rfl) (by kernel_rfl) (by kernel_rfl) (fun _ _ _ h => h) (Or.inl ⟨by rfl, ?hy165⟩) (by assumption) ?hr165
  case hy165 => (intro _ hSw; (try dsimp only at hSw); go_simp <;> with_reducible rfl)
  simp only [Act.put, List.setIfInBounds_toArray, List.set_cons_zero, List.set_cons_succ]
  refine' wpAnyH_take (i := 12) (oi := { dst := some 36, op := Go.Op.indexAddr 44 (Go.Operand.tmp 34) (Go.Operand.tmp 35), type := 0, pos := "law.go:159", after := #[{ on := 10, ground := Go.Ground.data }, { on := 11, ground := Go.Ground.data }], guard := none }) (v := _) rfl (by kernel_rfl) (by kernel_rfl) (by kernel_rfl) (fun _ _ _ h => h) (Or.inl ⟨by rfl, ?hy166⟩) (by assumption) ?hr166
  case hy166 => (intro _ hSw; (try dsimp only at hSw); go_simp <;> with_reducible rfl)
  simp only [Act.put, List.setIfInBounds_toArray, List.set_cons_zero, List.set_cons_succ]
  refine' wpAnyH_take (i := 13) (oi := { dst := some 37, op := Go.Op.load 3 (Go.Operand.tmp 36), type := 3, pos := "law.go:159", after := #[{ on := 12, ground := Go.Ground.data }], guard := none }) (v := _) rfl (by kernel_rfl) (by kernel_rfl) (by kernel_rfl) (fun _ _ _ h => h) (Or.inl ⟨by rfl, ?hy167⟩) (by assumption) ?hr167
  case hy167 => (intro _ hSw; (try dsimp only at hSw); have hc := cell_of (i := 1) (v := nm x.u1) hSw.2.2 rfl; go_simp <;> with_reducible rfl)
  simp only [Act.put, List.setIfInBounds_toArray, List.set_cons_zero, List.set_cons_succ]
  clear hHeld
  generalize w1.drew = w2 at H2 ⊢
  refine wpAnyH_ready (rs := [14]) (by kernel_rfl) (by simp) ?_
  refine AllReadyH.cons (o := { dst := some 38, op := Go.Op.call { callee := Go.Callee.value (Go.Operand.func 36), args := #[Go.Operand.tmp 37], argTypes := #[3] }, type := 9, pos := "law.go:159", after := #[{ on := 13, ground := Go.Ground.data }], guard := none }) rfl (fun K hK => ?_) AllReadyH.nil
  go_simp
  refine (HI.out _).mono ?_
  rintro _ w3 ⟨rfl, hb⟩
  have H3 := Lib.hid (H2.out.on hb)
  clear hb H2 HI
  go_wp2_with fail
  refine hK.out _ _ H3.out.held (fun hNext => ?_)
  clear hK K
  have hHeld := hNext
  clear hNext
  (try simp only [Act.put, List.setIfInBounds_toArray, List.set_cons_zero, List.set_cons_succ])
  clear hHeld
  refine wpAnyH_ready (rs := [15]) (by kernel_rfl) (by simp) ?_
  refine AllReadyH.cons (o := { dst := some 39, op := Go.Op.call { callee := Go.Callee.value (Go.Operand.func 18), args := #[Go.Operand.tmp 30, Go.Operand.tmp 38], argTypes := #[28, 9] }, type := 51, pos := "law.go:159", after := #[{ on := 6, ground := Go.Ground.data }, { on := 14, ground := Go.Ground.data }, { on := 14, ground := Go.Ground.chain }], guard := none }) rfl (fun K hK => ?_) AllReadyH.nil
  go_simp
  refine (opush1 H3.out HK.out.b _ A2 0 HPU.out).mono ?_
  rintro _ w4 ⟨rfl, h4⟩
  have H4 : Hid (PrE w0 b { x with B := A2 } w4) := Lib.hid h4
  clear h4 H3
  go_wp2_with fail
  refine hK.out _ _ H4.out.held (fun hNext => ?_)
  clear hK K
  have hHeld := hNext
  clear hNext
  (try simp only [Act.put, List.setIfInBounds_toArray, List.set_cons_zero, List.set_cons_succ])
  refine' wpAnyH_take (i := 16) (oi := { dst := some 40, op := Go.Op.binOp Go.BinOp.eql 51 (Go.Operand.tmp 39) (Go.Operand.const (Go.Value.int Go.IntKind.i64 0)) 51, type := 4, pos := "law.go:159", after := #[{ on := 15, ground := Go.Ground.data }], guard := none }) (v := _) rfl (by kernel_rfl) (by kernel_rfl) (by kernel_rfl) (fun _ _ _ h => h) (Or.inl ⟨by rfl, ?hy168⟩) (by assumption) ?hr168
  case hy168 => (intro _ hSw; (try dsimp only at hSw); go_simp <;> with_reducible rfl)
  simp only [Act.put, List.setIfInBounds_toArray, List.set_cons_zero, List.set_cons_succ]
  refine wpAnyH_done (by kernel_rfl) ?_ _
  clear hHeld
  obtain ⟨q0, q1, v0, v1, tag, hp⟩ := H4.out
  have c2 : w4.cell? ⟨b.tb, 2, none⟩ = some (two b.bu) := cell_of hp.blk rfl
  have cu : w4.cell? ⟨b.bu, 1, none⟩ = some (nm x.u1) := cell_of hp.u rfl
  have fu : ∀ i, w4.frozen? ⟨b.bu, i, none⟩ = false := fun _ => free_of hp.u
  have hub : x.u1 ≤ 1000 := Nat.le_trans HK.out.u1 HN.out
  have vk : IntKind.i64.wrap ((x.u1 : Int) + 1) = ((x.u1 + 1 : Nat) : Int) := by rw [IntKind.wrap_i64]; omega
  have H5 : Hid (PrE w0 b (swp (pPush (swp x))) (w4.setCell ⟨b.bu, 1, none⟩ (.int .i64 ((x.u1 + 1 : Nat) : Int)))) := by
    have hq : (swp (pPush (swp x))) = { x with B := A2, u1 := x.u1 + 1 } := by
      show ({ x with B := (Aq.push (inf x.u1) x.B).1, u1 := if (Aq.push (inf x.u1) x.B).2 = 0 then x.u1 + 1 else x.u1 } : Pr) = _
      rw [HPU.out]
      rfl
    rw [hq]
    exact Lib.hid ⟨_, _, _, _, _, hp.put_u x.u0 (x.u1 + 1) (chg_cell w4 b.bu 1 _) (block_set (i := 1) hp.u _)⟩
  have HY : Hid (Pok (N + 1) M (swp (pPush (swp x)))) := Lib.hid ((HK.out.swp.push).swp)
  clear hp H4 HPU
  clear q0 q1 v0 v1 tag
  obtain ⟨kn, hkn⟩ : ∃ kn, x.u1 + 1 = kn := ⟨_, rfl⟩
  rw [hkn] at vk H5
  clear hub hkn
  go_wp2_with fail
  generalize w4.setCell ⟨b.bu, 1, none⟩ (.int .i64 (kn : Int)) = w5 at H5 ⊢
  have HR := Lib.hid (oright H5.out HY.out (Nat.le_trans (Nat.add_le_add_right HN.out 1) (by decide)))
  clear HY HK c2 cu fu vk HN HM
  go_wp2_with fail
  refine HR.out.mono ?_
  rintro _ w9 ⟨rfl, h9⟩
  have H9 := Lib.hid h9
  clear h9 HR
  go_wp2
  go_ret
  exact ⟨rfl, H9.out⟩
set_option maxHeartbeats 4000000 in
set_option maxRecDepth 100000 in
theorem fst1_1_3 (w0 w : World) (b : Bk) (x : Pr) (N M : Nat) (h : PrE w0 b x w) (hk : Pok N M x) (hN : N ≤ 1000) (hM : M ≤ 1000) (d : Nat) (hd : (d : Int) % 9 = 1) (on : Bool) (A2 : Sd) (hp : Aq.push (inf x.u1) x.B = (A2, 3)) :
    Calls Try.prog 17 #[ptr b.tb, .agg #[.int .u8 (d : Int), .bool true, .bool on]] w fun e w' => e = .returned (.bool true) ∧ PrE w0 b (swp (pPush (swp x))) w' := by
  have HP := Lib.hid (h.on (show Below w.heap.size w (w.alloc (.cells #[.int .u8 (d : Int), .bool true, .bool on] 49 (0, 0))) from nest_below w [_]))
  have HK := Lib.hid hk
  have HN := Lib.hid hN
  have HM := Lib.hid hM
  have hn : (w.alloc (.cells #[.int .u8 (d : Int), .bool true, .bool on] 49 (0, 0))).heap[w.heap.size]? = some (.cells #[.int .u8 (d : Int), .bool true, .bool on] 49 (0, 0)) := nest w [_] 0 _ rfl
  have HLT := Lib.hid h.lt
  clear h hk hN hM
  go_enter Try.func17, Try.ntmps17
  go_upto_region 1 with fail
  generalize w.alloc (.cells #[.int .u8 (d : Int), .bool true, .bool on] 49 (0, 0)) = w1 at HP hn ⊢
  generalize w.heap.size = sb at hn HLT ⊢
  obtain ⟨⟨c0, c1, c2⟩, -⟩ := cells3 hn
  go_wp2_with fail
  have HPU := Lib.hid hp
  have HI : Hid (∀ w, Calls Try.prog 36 #[.int .i64 (x.u1 : Int)] w fun e w' => e = .returned (.string (inf x.u1)) ∧ Below w.heap.size w w') := Lib.hid (finf x.u1 (Nat.le_trans HK.out.u1 (Nat.le_trans HN.out (by decide))))
  have H2 := Lib.hid (HP.out.on (w' := w1.drew) ⟨rfl, rfl, rfl, Nat.le_refl _, fun _ _ => rfl⟩)
  clear hn c0 c1 c2 hp HP
  refine wp_region_held_drew (S := (fun w' => w'.heap[b.tb]? = some (.cells #[two b.ba, two b.bl, two b.bu, two b.bk, .bool x.bad] 46 (0, 0)) ∧ w'.heap[b.ba]? = some (.cells #[ptr b.p0, ptr b.p1] 28 (0, 0)) ∧ w'.heap[b.bu]? = some (.cells #[nm x.u0, nm x.u1] 3 (0, 0)))) (by kernel_rfl) H2.out.held (fun hHeld => ?_)
  refine' wpAnyH_take (i := 0) (oi := { dst := some 24, op := Go.Op.move (Go.Operand.tmp 0), type := 40, pos := "law.go:159", after := #[], guard := none }) (v := _) rfl (by kernel_rfl) (by kernel_rfl) (by kernel_rfl) (fun _ _ _ h => h) (Or.inl ⟨by rfl, ?hy169⟩) (by assumption) ?hr169
  case hy169 => (intro _ hSw; (try dsimp only at hSw); go_simp <;> with_reducible rfl)
  simp only [Act.put, List.setIfInBounds_toArray, List.set_cons_zero, List.set_cons_succ]
  refine' wpAnyH_take (i := 1) (oi := { dst := some 25, op := Go.Op.nilCheck (Go.Operand.tmp 24), type := 0, pos := "law.go:159", after := #[{ on := 0, ground := Go.Ground.data }], guard := none }) (v := _) rfl (by kernel_rfl) (by kernel_rfl) (by kernel_rfl) (fun _ _ _ h => h) (Or.inl ⟨by rfl, ?hy170⟩) (by assumption) ?hr170
  case hy170 => (intro _ hSw; (try dsimp only at hSw); go_simp <;> with_reducible rfl)
  simp only [Act.put, List.setIfInBounds_toArray, List.set_cons_zero, List.set_cons_succ]
  refine' wpAnyH_take (i := 2) (oi := { dst := some 26, op := Go.Op.fieldAddr 46 (Go.Operand.tmp 25) 0, type := 0, pos := "law.go:159", after := #[{ on := 1, ground := Go.Ground.data }], guard := none }) (v := _) rfl (by kernel_rfl) (by kernel_rfl) (by kernel_rfl) (fun _ _ _ h => h) (Or.inl ⟨by rfl, ?hy171⟩) (by assumption) ?hr171
  case hy171 => (intro _ hSw; (try dsimp only at hSw); go_simp <;> with_reducible rfl)
  simp only [Act.put, List.setIfInBounds_toArray, List.set_cons_zero, List.set_cons_succ]
  refine' wpAnyH_take (i := 3) (oi := { dst := some 27, op := Go.Op.load 42 (Go.Operand.tmp 26), type := 42, pos := "law.go:159", after := #[{ on := 2, ground := Go.Ground.data }], guard := none }) (v := _) rfl (by kernel_rfl) (by kernel_rfl) (by kernel_rfl) (fun _ _ _ h => h) (Or.inl ⟨by rfl, ?hy172⟩) (by assumption) ?hr172
  case hy172 => (intro _ hSw; (try dsimp only at hSw); have hc := cell_of (i := 0) (v := two b.ba) hSw.1 rfl; go_simp <;> with_reducible rfl)
  simp only [Act.put, List.setIfInBounds_toArray, List.set_cons_zero, List.set_cons_succ]
  refine' wpAnyH_take (i := 4) (oi := { dst := some 28, op := Go.Op.move (Go.Operand.tmp 5), type := 3, pos := "law.go:159", after := #[], guard := none }) (v := _) rfl (by kernel_rfl) (by kernel_rfl) (by kernel_rfl) (fun _ _ _ h => h) (Or.inl ⟨by rfl, ?hy173⟩) (by assumption) ?hr173
  case hy173 => (intro _ hSw; (try dsimp only at hSw); go_simp <;> with_reducible rfl)
  simp only [Act.put, List.setIfInBounds_toArray, List.set_cons_zero, List.set_cons_succ]
  refine' wpAnyH_take (i := 5) (oi := { dst := some 29, op := Go.Op.indexAddr 42 (Go.Operand.tmp 27) (Go.Operand.tmp 28), type := 0, pos := "law.go:159", after := #[{ on := 3, ground := Go.Ground.data }, { on := 4, ground := Go.Ground.data }], guard := none }) (v := _) rfl (by kernel_rfl) (by kernel_rfl) (by kernel_rfl) (fun _ _ _ h => h) (Or.inl ⟨by rfl, ?hy174⟩) (by assumption) ?hr174
  case hy174 => (intro _ hSw; (try dsimp only at hSw); go_simp <;> with_reducible rfl)
  simp only [Act.put, List.setIfInBounds_toArray, List.set_cons_zero, List.set_cons_succ]
  refine' wpAnyH_take (i := 6) (oi := { dst := some 30, op := Go.Op.load 28 (Go.Operand.tmp 29), type := 28, pos := "law.go:159", after := #[{ on := 5, ground := Go.Ground.data }], guard := none }) (v := _) rfl (by kernel_rfl) (by kernel_rfl) (by kernel_rfl) (fun _ _ _ h => h) (Or.inl ⟨by rfl, ?hy175⟩) (by assumption) ?hr175
  case hy175 => (intro _ hSw; (try dsimp only at hSw); have hc := cell_of (i := 1) (v := ptr b.p1) hSw.2.1 rfl; go_simp <;> with_reducible rfl)
  simp only [Act.put, List.setIfInBounds_toArray, List.set_cons_zero, List.set_cons_succ]
  refine' wpAnyH_take (i := 7) (oi := { dst := some 31, op := Go.Op.move (Go.Operand.tmp 0), type := 40, pos := "law.go:159", after := #[], guard := none }) (v := _) rfl (by kernel_rfl) (by kernel_rfl) (by kernel_rfl) (fun _ _ _ h => h) (Or.inl ⟨by rfl, ?hy176⟩) (by assumption) ?hr176
  case hy176 => (intro _ hSw; (try dsimp only at hSw); go_simp <;> with_reducible rfl)
  simp only [Act.put, List.setIfInBounds_toArray, List.set_cons_zero, List.set_cons_succ]
  refine' wpAnyH_take (i := 8) (oi := { dst := some 32, op := Go.Op.nilCheck (Go.Operand.tmp 31), type := 0, pos := "law.go:159", after := #[{ on := 7, ground := Go.Ground.data }], guard := none }) (v := _) rfl (by kernel_rfl) (by kernel_rfl) (by kernel_rfl) (fun _ _ _ h => h) (Or.inl ⟨by rfl, ?hy177⟩) (by assumption) ?hr177
  case hy177 => (intro _ hSw; (try dsimp only at hSw); go_simp <;> with_reducible rfl)
  simp only [Act.put, List.setIfInBounds_toArray, List.set_cons_zero, List.set_cons_succ]
  refine' wpAnyH_take (i := 9) (oi := { dst := some 33, op := Go.Op.fieldAddr 46 (Go.Operand.tmp 32) 2, type := 0, pos := "law.go:159", after := #[{ on := 8, ground := Go.Ground.data }], guard := none }) (v := _) rfl (by kernel_rfl) (by kernel_rfl) (by kernel_rfl) (fun _ _ _ h => h) (Or.inl ⟨by rfl, ?hy178⟩) (by assumption) ?hr178
  case hy178 => (intro _ hSw; (try dsimp only at hSw); go_simp <;> with_reducible rfl)
  simp only [Act.put, List.setIfInBounds_toArray, List.set_cons_zero, List.set_cons_succ]
  refine' wpAnyH_take (i := 10) (oi := { dst := some 34, op := Go.Op.load 44 (Go.Operand.tmp 33), type := 44, pos := "law.go:159", after := #[{ on := 9, ground := Go.Ground.data }], guard := none }) (v := _) rfl (by kernel_rfl) (by kernel_rfl) (by kernel_rfl) (fun _ _ _ h => h) (Or.inl ⟨by rfl, ?hy179⟩) (by assumption) ?hr179
  case hy179 => (intro _ hSw; (try dsimp only at hSw); have hc := cell_of (i := 2) (v := two b.bu) hSw.1 rfl; go_simp <;> with_reducible rfl)
  simp only [Act.put, List.setIfInBounds_toArray, List.set_cons_zero, List.set_cons_succ]
  refine' wpAnyH_take (i := 11) (oi := { dst := some 35, op := Go.Op.move (Go.Operand.tmp 5), type := 3, pos := "law.go:159", after := #[], guard := none }) (v := _) rfl (by kernel_rfl) (by kernel_rfl) (by kernel_rfl) (fun _ _ _ h => h) (Or.inl ⟨by rfl, ?hy180⟩) (by assumption) ?hr180
  case hy180 => (intro _ hSw; (try dsimp only at hSw); go_simp <;> with_reducible rfl)
  simp only [Act.put, List.setIfInBounds_toArray, List.set_cons_zero, List.set_cons_succ]
  refine' wpAnyH_take (i := 12) (oi := { dst := some 36, op := Go.Op.indexAddr 44 (Go.Operand.tmp 34) (Go.Operand.tmp 35), type := 0, pos := "law.go:159", after := #[{ on := 10, ground := Go.Ground.data }, { on := 11, ground := Go.Ground.data }], guard := none }) (v := _) rfl (by kernel_rfl) (by kernel_rfl) (by kernel_rfl) (fun _ _ _ h => h) (Or.inl ⟨by rfl, ?hy181⟩) (by assumption) ?hr181
  case hy181 => (intro _ hSw; (try dsimp only at hSw); go_simp <;> with_reducible rfl)
  simp only [Act.put, List.setIfInBounds_toArray, List.set_cons_zero, List.set_cons_succ]
  refine' wpAnyH_take (i := 13) (oi := { dst := some 37, op := Go.Op.load 3 (Go.Operand.tmp 36), type := 3, pos := "law.go:159", after := #[{ on := 12, ground := Go.Ground.data }], guard := none }) (v := _) rfl (by kernel_rfl) (by kernel_rfl) (by kernel_rfl) (fun _ _ _ h => h) (Or.inl ⟨by rfl, ?hy182⟩) (by assumption) ?hr182
  case hy182 => (intro _ hSw; (try dsimp only at hSw); have hc := cell_of (i := 1) (v := nm x.u1) hSw.2.2 rfl; go_simp <;> with_reducible rfl)
  simp only [Act.put, List.setIfInBounds_toArray, List.set_cons_zero, List.set_cons_succ]
  clear hHeld
  generalize w1.drew = w2 at H2 ⊢
  refine wpAnyH_ready (rs := [14]) (by kernel_rfl) (by simp) ?_
  refine AllReadyH.cons (o := { dst := some 38, op := Go.Op.call { callee := Go.Callee.value (Go.Operand.func 36), args := #[Go.Operand.tmp 37], argTypes := #[3] }, type := 9, pos := "law.go:159", after := #[{ on := 13, ground := Go.Ground.data }], guard := none }) rfl (fun K hK => ?_) AllReadyH.nil
  go_simp
  refine (HI.out _).mono ?_
  rintro _ w3 ⟨rfl, hb⟩
  have H3 := Lib.hid (H2.out.on hb)
  clear hb H2 HI
  go_wp2_with fail
  refine hK.out _ _ H3.out.held (fun hNext => ?_)
  clear hK K
  have hHeld := hNext
  clear hNext
  (try simp only [Act.put, List.setIfInBounds_toArray, List.set_cons_zero, List.set_cons_succ])
  clear hHeld
  refine wpAnyH_ready (rs := [15]) (by kernel_rfl) (by simp) ?_
  refine AllReadyH.cons (o := { dst := some 39, op := Go.Op.call { callee := Go.Callee.value (Go.Operand.func 18), args := #[Go.Operand.tmp 30, Go.Operand.tmp 38], argTypes := #[28, 9] }, type := 51, pos := "law.go:159", after := #[{ on := 6, ground := Go.Ground.data }, { on := 14, ground := Go.Ground.data }, { on := 14, ground := Go.Ground.chain }], guard := none }) rfl (fun K hK => ?_) AllReadyH.nil
  go_simp
  refine (opush1 H3.out HK.out.b _ A2 3 HPU.out).mono ?_
  rintro _ w4 ⟨rfl, h4⟩
  have H4 : Hid (PrE w0 b { x with B := A2 } w4) := Lib.hid h4
  clear h4 H3
  go_wp2_with fail
  refine hK.out _ _ H4.out.held (fun hNext => ?_)
  clear hK K
  have hHeld := hNext
  clear hNext
  (try simp only [Act.put, List.setIfInBounds_toArray, List.set_cons_zero, List.set_cons_succ])
  refine' wpAnyH_take (i := 16) (oi := { dst := some 40, op := Go.Op.binOp Go.BinOp.eql 51 (Go.Operand.tmp 39) (Go.Operand.const (Go.Value.int Go.IntKind.i64 0)) 51, type := 4, pos := "law.go:159", after := #[{ on := 15, ground := Go.Ground.data }], guard := none }) (v := _) rfl (by kernel_rfl) (by kernel_rfl) (by kernel_rfl) (fun _ _ _ h => h) (Or.inl ⟨by rfl, ?hy183⟩) (by assumption) ?hr183
  case hy183 => (intro _ hSw; (try dsimp only at hSw); go_simp <;> with_reducible rfl)
  simp only [Act.put, List.setIfInBounds_toArray, List.set_cons_zero, List.set_cons_succ]
  refine wpAnyH_done (by kernel_rfl) ?_ _
  clear hHeld
  have H5 : Hid (PrE w0 b (swp (pPush (swp x))) w4) := by
    have hq : (swp (pPush (swp x))) = { x with B := A2 } := by
      show ({ x with B := (Aq.push (inf x.u1) x.B).1, u1 := if (Aq.push (inf x.u1) x.B).2 = 0 then x.u1 + 1 else x.u1 } : Pr) = _
      rw [HPU.out]
      rfl
    rw [hq]
    exact H4
  clear H4
  have HR := Lib.hid (oright H5.out ((HK.out.swp.push).swp) (Nat.le_trans (Nat.add_le_add_right HN.out 1) (by decide)))
  clear HK HN HM
  go_wp2_with fail
  refine HR.out.mono ?_
  rintro _ w9 ⟨rfl, h9⟩
  have H9 := Lib.hid h9
  clear h9 HR
  go_wp2
  go_ret
  exact ⟨rfl, H9.out⟩
set_option maxHeartbeats 4000000 in
set_option maxRecDepth 100000 in
theorem fst1_1_4 (w0 w : World) (b : Bk) (x : Pr) (N M : Nat) (h : PrE w0 b x w) (hk : Pok N M x) (hN : N ≤ 1000) (hM : M ≤ 1000) (d : Nat) (hd : (d : Int) % 9 = 1) (on : Bool) (A2 : Sd) (hp : Aq.push (inf x.u1) x.B = (A2, 4)) :
    Calls Try.prog 17 #[ptr b.tb, .agg #[.int .u8 (d : Int), .bool true, .bool on]] w fun e w' => e = .returned (.bool true) ∧ PrE w0 b (swp (pPush (swp x))) w' := by
  have HP := Lib.hid (h.on (show Below w.heap.size w (w.alloc (.cells #[.int .u8 (d : Int), .bool true, .bool on] 49 (0, 0))) from nest_below w [_]))
  have HK := Lib.hid hk
  have HN := Lib.hid hN
  have HM := Lib.hid hM
  have hn : (w.alloc (.cells #[.int .u8 (d : Int), .bool true, .bool on] 49 (0, 0))).heap[w.heap.size]? = some (.cells #[.int .u8 (d : Int), .bool true, .bool on] 49 (0, 0)) := nest w [_] 0 _ rfl
  have HLT := Lib.hid h.lt
  clear h hk hN hM
  go_enter Try.func17, Try.ntmps17
  go_upto_region 1 with fail
  generalize w.alloc (.cells #[.int .u8 (d : Int), .bool true, .bool on] 49 (0, 0)) = w1 at HP hn ⊢
  generalize w.heap.size = sb at hn HLT ⊢
  obtain ⟨⟨c0, c1, c2⟩, -⟩ := cells3 hn
  go_wp2_with fail
  have HPU := Lib.hid hp
  have HI : Hid (∀ w, Calls Try.prog 36 #[.int .i64 (x.u1 : Int)] w fun e w' => e = .returned (.string (inf x.u1)) ∧ Below w.heap.size w w') := Lib.hid (finf x.u1 (Nat.le_trans HK.out.u1 (Nat.le_trans HN.out (by decide))))
  have H2 := Lib.hid (HP.out.on (w' := w1.drew) ⟨rfl, rfl, rfl, Nat.le_refl _, fun _ _ => rfl⟩)
  clear hn c0 c1 c2 hp HP
  refine wp_region_held_drew (S := (fun w' => w'.heap[b.tb]? = some (.cells #[two b.ba, two b.bl, two b.bu, two b.bk, .bool x.bad] 46 (0, 0)) ∧ w'.heap[b.ba]? = some (.cells #[ptr b.p0, ptr b.p1] 28 (0, 0)) ∧ w'.heap[b.bu]? = some (.cells #[nm x.u0, nm x.u1] 3 (0, 0)))) (by kernel_rfl) H2.out.held (fun hHeld => ?_)
  refine' wpAnyH_take (i := 0) (oi := { dst := some 24, op := Go.Op.move (Go.Operand.tmp 0), type := 40, pos := "law.go:159", after := #[], guard := none }) (v := _) rfl (by kernel_rfl) (by kernel_rfl) (by kernel_rfl) (fun _ _ _ h => h) (Or.inl ⟨by rfl, ?hy184⟩) (by assumption) ?hr184
  case hy184 => (intro _ hSw; (try dsimp only at hSw); go_simp <;> with_reducible rfl)
  simp only [Act.put, List.setIfInBounds_toArray, List.set_cons_zero, List.set_cons_succ]
  refine' wpAnyH_take (i := 1) (oi := { dst := some 25, op := Go.Op.nilCheck (Go.Operand.tmp 24), type := 0, pos := "law.go:159", after := #[{ on := 0, ground := Go.Ground.data }], guard := none }) (v := _) rfl (by kernel_rfl) (by kernel_rfl) (by kernel_rfl) (fun _ _ _ h => h) (Or.inl ⟨by rfl, ?hy185⟩) (by assumption) ?hr185
  case hy185 => (intro _ hSw; (try dsimp only at hSw); go_simp <;> with_reducible rfl)
  simp only [Act.put, List.setIfInBounds_toArray, List.set_cons_zero, List.set_cons_succ]
  refine' wpAnyH_take (i := 2) (oi := { dst := some 26, op := Go.Op.fieldAddr 46 (Go.Operand.tmp 25) 0, type := 0, pos := "law.go:159", after := #[{ on := 1, ground := Go.Ground.data }], guard := none }) (v := _) rfl (by kernel_rfl) (by kernel_rfl) (by kernel_rfl) (fun _ _ _ h => h) (Or.inl ⟨by rfl, ?hy186⟩) (by assumption) ?hr186
  case hy186 => (intro _ hSw; (try dsimp only at hSw); go_simp <;> with_reducible rfl)
  simp only [Act.put, List.setIfInBounds_toArray, List.set_cons_zero, List.set_cons_succ]
  refine' wpAnyH_take (i := 3) (oi := { dst := some 27, op := Go.Op.load 42 (Go.Operand.tmp 26), type := 42, pos := "law.go:159", after := #[{ on := 2, ground := Go.Ground.data }], guard := none }) (v := _) rfl (by kernel_rfl) (by kernel_rfl) (by kernel_rfl) (fun _ _ _ h => h) (Or.inl ⟨by rfl, ?hy187⟩) (by assumption) ?hr187
  case hy187 => (intro _ hSw; (try dsimp only at hSw); have hc := cell_of (i := 0) (v := two b.ba) hSw.1 rfl; go_simp <;> with_reducible rfl)
  simp only [Act.put, List.setIfInBounds_toArray, List.set_cons_zero, List.set_cons_succ]
  refine' wpAnyH_take (i := 4) (oi := { dst := some 28, op := Go.Op.move (Go.Operand.tmp 5), type := 3, pos := "law.go:159", after := #[], guard := none }) (v := _) rfl (by kernel_rfl) (by kernel_rfl) (by kernel_rfl) (fun _ _ _ h => h) (Or.inl ⟨by rfl, ?hy188⟩) (by assumption) ?hr188
  case hy188 => (intro _ hSw; (try dsimp only at hSw); go_simp <;> with_reducible rfl)
  simp only [Act.put, List.setIfInBounds_toArray, List.set_cons_zero, List.set_cons_succ]
  refine' wpAnyH_take (i := 5) (oi := { dst := some 29, op := Go.Op.indexAddr 42 (Go.Operand.tmp 27) (Go.Operand.tmp 28), type := 0, pos := "law.go:159", after := #[{ on := 3, ground := Go.Ground.data }, { on := 4, ground := Go.Ground.data }], guard := none }) (v := _) rfl (by kernel_rfl) (by kernel_rfl) (by kernel_rfl) (fun _ _ _ h => h) (Or.inl ⟨by rfl, ?hy189⟩) (by assumption) ?hr189
  case hy189 => (intro _ hSw; (try dsimp only at hSw); go_simp <;> with_reducible rfl)
  simp only [Act.put, List.setIfInBounds_toArray, List.set_cons_zero, List.set_cons_succ]
  refine' wpAnyH_take (i := 6) (oi := { dst := some 30, op := Go.Op.load 28 (Go.Operand.tmp 29), type := 28, pos := "law.go:159", after := #[{ on := 5, ground := Go.Ground.data }], guard := none }) (v := _) rfl (by kernel_rfl) (by kernel_rfl) (by kernel_rfl) (fun _ _ _ h => h) (Or.inl ⟨by rfl, ?hy190⟩) (by assumption) ?hr190
  case hy190 => (intro _ hSw; (try dsimp only at hSw); have hc := cell_of (i := 1) (v := ptr b.p1) hSw.2.1 rfl; go_simp <;> with_reducible rfl)
  simp only [Act.put, List.setIfInBounds_toArray, List.set_cons_zero, List.set_cons_succ]
  refine' wpAnyH_take (i := 7) (oi := { dst := some 31, op := Go.Op.move (Go.Operand.tmp 0), type := 40, pos := "law.go:159", after := #[], guard := none }) (v := _) rfl (by kernel_rfl) (by kernel_rfl) (by kernel_rfl) (fun _ _ _ h => h) (Or.inl ⟨by rfl, ?hy191⟩) (by assumption) ?hr191
  case hy191 => (intro _ hSw; (try dsimp only at hSw); go_simp <;> with_reducible rfl)
  simp only [Act.put, List.setIfInBounds_toArray, List.set_cons_zero, List.set_cons_succ]
  refine' wpAnyH_take (i := 8) (oi := { dst := some 32, op := Go.Op.nilCheck (Go.Operand.tmp 31), type := 0, pos := "law.go:159", after := #[{ on := 7, ground := Go.Ground.data }], guard := none }) (v := _) rfl (by kernel_rfl) (by kernel_rfl) (by kernel_rfl) (fun _ _ _ h => h) (Or.inl ⟨by rfl, ?hy192⟩) (by assumption) ?hr192
  case hy192 => (intro _ hSw; (try dsimp only at hSw); go_simp <;> with_reducible rfl)
  simp only [Act.put, List.setIfInBounds_toArray, List.set_cons_zero, List.set_cons_succ]
  refine' wpAnyH_take (i := 9) (oi := { dst := some 33, op := Go.Op.fieldAddr 46 (Go.Operand.tmp 32) 2, type := 0, pos := "law.go:159", after := #[{ on := 8, ground := Go.Ground.data }], guard := none }) (v := _) rfl (by kernel_rfl) (by kernel_rfl) (by kernel_rfl) (fun _ _ _ h => h) (Or.inl ⟨by rfl, ?hy193⟩) (by assumption) ?hr193
  case hy193 => (intro _ hSw; (try dsimp only at hSw); go_simp <;> with_reducible rfl)
  simp only [Act.put, List.setIfInBounds_toArray, List.set_cons_zero, List.set_cons_succ]
  refine' wpAnyH_take (i := 10) (oi := { dst := some 34, op := Go.Op.load 44 (Go.Operand.tmp 33), type := 44, pos := "law.go:159", after := #[{ on := 9, ground := Go.Ground.data }], guard := none }) (v := _) rfl (by kernel_rfl) (by kernel_rfl) (by kernel_rfl) (fun _ _ _ h => h) (Or.inl ⟨by rfl, ?hy194⟩) (by assumption) ?hr194
  case hy194 => (intro _ hSw; (try dsimp only at hSw); have hc := cell_of (i := 2) (v := two b.bu) hSw.1 rfl; go_simp <;> with_reducible rfl)
  simp only [Act.put, List.setIfInBounds_toArray, List.set_cons_zero, List.set_cons_succ]
  refine' wpAnyH_take (i := 11) (oi := { dst := some 35, op := Go.Op.move (Go.Operand.tmp 5), type := 3, pos := "law.go:159", after := #[], guard := none }) (v := _) rfl (by kernel_rfl) (by kernel_rfl) (by kernel_rfl) (fun _ _ _ h => h) (Or.inl ⟨by rfl, ?hy195⟩) (by assumption) ?hr195
  case hy195 => (intro _ hSw; (try dsimp only at hSw); go_simp <;> with_reducible rfl)
  simp only [Act.put, List.setIfInBounds_toArray, List.set_cons_zero, List.set_cons_succ]
  refine' wpAnyH_take (i := 12) (oi := { dst := some 36, op := Go.Op.indexAddr 44 (Go.Operand.tmp 34) (Go.Operand.tmp 35), type := 0, pos := "law.go:159", after := #[{ on := 10, ground := Go.Ground.data }, { on := 11, ground := Go.Ground.data }], guard := none }) (v := _) rfl (by kernel_rfl) (by kernel_rfl) (by kernel_rfl) (fun _ _ _ h => h) (Or.inl ⟨by rfl, ?hy196⟩) (by assumption) ?hr196
  case hy196 => (intro _ hSw; (try dsimp only at hSw); go_simp <;> with_reducible rfl)
  simp only [Act.put, List.setIfInBounds_toArray, List.set_cons_zero, List.set_cons_succ]
  refine' wpAnyH_take (i := 13) (oi := { dst := some 37, op := Go.Op.load 3 (Go.Operand.tmp 36), type := 3, pos := "law.go:159", after := #[{ on := 12, ground := Go.Ground.data }], guard := none }) (v := _) rfl (by kernel_rfl) (by kernel_rfl) (by kernel_rfl) (fun _ _ _ h => h) (Or.inl ⟨by rfl, ?hy197⟩) (by assumption) ?hr197
  case hy197 => (intro _ hSw; (try dsimp only at hSw); have hc := cell_of (i := 1) (v := nm x.u1) hSw.2.2 rfl; go_simp <;> with_reducible rfl)
  simp only [Act.put, List.setIfInBounds_toArray, List.set_cons_zero, List.set_cons_succ]
  clear hHeld
  generalize w1.drew = w2 at H2 ⊢
  refine wpAnyH_ready (rs := [14]) (by kernel_rfl) (by simp) ?_
  refine AllReadyH.cons (o := { dst := some 38, op := Go.Op.call { callee := Go.Callee.value (Go.Operand.func 36), args := #[Go.Operand.tmp 37], argTypes := #[3] }, type := 9, pos := "law.go:159", after := #[{ on := 13, ground := Go.Ground.data }], guard := none }) rfl (fun K hK => ?_) AllReadyH.nil
  go_simp
  refine (HI.out _).mono ?_
  rintro _ w3 ⟨rfl, hb⟩
  have H3 := Lib.hid (H2.out.on hb)
  clear hb H2 HI
  go_wp2_with fail
  refine hK.out _ _ H3.out.held (fun hNext => ?_)
  clear hK K
  have hHeld := hNext
  clear hNext
  (try simp only [Act.put, List.setIfInBounds_toArray, List.set_cons_zero, List.set_cons_succ])
  clear hHeld
  refine wpAnyH_ready (rs := [15]) (by kernel_rfl) (by simp) ?_
  refine AllReadyH.cons (o := { dst := some 39, op := Go.Op.call { callee := Go.Callee.value (Go.Operand.func 18), args := #[Go.Operand.tmp 30, Go.Operand.tmp 38], argTypes := #[28, 9] }, type := 51, pos := "law.go:159", after := #[{ on := 6, ground := Go.Ground.data }, { on := 14, ground := Go.Ground.data }, { on := 14, ground := Go.Ground.chain }], guard := none }) rfl (fun K hK => ?_) AllReadyH.nil
  go_simp
  refine (opush1 H3.out HK.out.b _ A2 4 HPU.out).mono ?_
  rintro _ w4 ⟨rfl, h4⟩
  have H4 : Hid (PrE w0 b { x with B := A2 } w4) := Lib.hid h4
  clear h4 H3
  go_wp2_with fail
  refine hK.out _ _ H4.out.held (fun hNext => ?_)
  clear hK K
  have hHeld := hNext
  clear hNext
  (try simp only [Act.put, List.setIfInBounds_toArray, List.set_cons_zero, List.set_cons_succ])
  refine' wpAnyH_take (i := 16) (oi := { dst := some 40, op := Go.Op.binOp Go.BinOp.eql 51 (Go.Operand.tmp 39) (Go.Operand.const (Go.Value.int Go.IntKind.i64 0)) 51, type := 4, pos := "law.go:159", after := #[{ on := 15, ground := Go.Ground.data }], guard := none }) (v := _) rfl (by kernel_rfl) (by kernel_rfl) (by kernel_rfl) (fun _ _ _ h => h) (Or.inl ⟨by rfl, ?hy198⟩) (by assumption) ?hr198
  case hy198 => (intro _ hSw; (try dsimp only at hSw); go_simp <;> with_reducible rfl)
  simp only [Act.put, List.setIfInBounds_toArray, List.set_cons_zero, List.set_cons_succ]
  refine wpAnyH_done (by kernel_rfl) ?_ _
  clear hHeld
  have H5 : Hid (PrE w0 b (swp (pPush (swp x))) w4) := by
    have hq : (swp (pPush (swp x))) = { x with B := A2 } := by
      show ({ x with B := (Aq.push (inf x.u1) x.B).1, u1 := if (Aq.push (inf x.u1) x.B).2 = 0 then x.u1 + 1 else x.u1 } : Pr) = _
      rw [HPU.out]
      rfl
    rw [hq]
    exact H4
  clear H4
  have HR := Lib.hid (oright H5.out ((HK.out.swp.push).swp) (Nat.le_trans (Nat.add_le_add_right HN.out 1) (by decide)))
  clear HK HN HM
  go_wp2_with fail
  refine HR.out.mono ?_
  rintro _ w9 ⟨rfl, h9⟩
  have H9 := Lib.hid h9
  clear h9 HR
  go_wp2
  go_ret
  exact ⟨rfl, H9.out⟩
end Go.Proofs.Ytkoaplmlabagnaa.Aq
