/-
  The chapter's examples hold; a purse and a till side by side, both made since a world. No condition.
-/
import Derived.Test.YtaeinccehkofgaaCrSmall
namespace Go.Proofs.Ytaeinccehkofgaa.Cr
open Go.RowKit Go.Proofs.Ytaeinccehkofgaa.Base Go.Proofs.Ytaeinccehkofgaa.Mem
/-- The program's purse and till, both made since w0. -/
structure Two (w0 : World) (pb tb : Nat) (x : Pu) (y : Ti) (w : World) : Prop where
  a : At w pb (pcs x) PT
  c : At w tb (tcs y) TT
  xo : x.Ok
  yo : y.Ok
  ac : pb < tb
  lo : w0.heap.size ≤ pb
  below : Below w0.heap.size w0 w
section
variable {w0 w w' : World} {pb tb : Nat} {x x' : Pu} {y y' : Ti}
theorem Two.on (h : Two w0 pb tb x y w) (hb : Below w.heap.size w w') : Two w0 pb tb x y w' := ⟨h.a.below hb, h.c.below hb, h.xo, h.yo, h.ac, h.lo, below_on h.below hb⟩
theorem Two.drewN (h : Two w0 pb tb x y w) (n : Nat) : Two w0 pb tb x y (w.drewN n) := h.on ⟨rfl, rfl, rfl, Nat.le_refl _, fun _ _ => rfl⟩
theorem Two.doP (h : Two w0 pb tb x y w) (hd : Do pb (pcs x') PT w w') (ho : x'.Ok) : Two w0 pb tb x' y w' :=
  ⟨hd.at_, h.c.other hd.chg (by have := h.ac; omega), ho, h.yo, h.ac, h.lo, hd.chg.below h.below h.below.size fun k e => by have := h.lo; omega⟩
theorem Two.doT (h : Two w0 pb tb x y w) (hd : Do tb (tcs y') TT w w') (ho : y'.Ok) : Two w0 pb tb x y' w' :=
  ⟨h.a.other hd.chg (by have := h.ac; omega), hd.at_, h.xo, ho, h.ac, h.lo, hd.chg.below h.below h.below.size fun k e => by have := h.lo; have := h.ac; omega⟩
theorem Two.start {w1 w2 : World} {n : Int} (ha : At w1 w.heap.size (pcs (newP n)) PT) (hb : Below w.heap.size w w1) (hc : At w2 w1.heap.size (tcs (newT n)) TT) (hb2 : Below w1.heap.size w1 w2) : Two w w.heap.size w1.heap.size (newP n) (newT n) w2 :=
  ⟨ha.below hb2, hc, newP_ok n, newT_ok n, ha.lt, Nat.le_refl _, below_on hb hb2⟩
end
set_option maxHeartbeats 4000000 in
theorem fworks (w : World) : Calls Try.prog 7 #[] w fun e w' => e = .returned (.bool true) ∧ Below w.heap.size w w' := by
  go_enter Try.func7, Try.ntmps7
  go_wp2_with fail
  refine (fnewP 10 _).mono ?_
  rintro _ w1 ⟨rfl, ha, hb⟩
  have HA := Lib.hid ha
  have HB := Lib.hid hb
  clear ha hb
  go_wp2_with fail
  refine (fnewT 10 _).mono ?_
  rintro _ w2 ⟨rfl, hc, hb⟩
  have T0 : Hid (Two w w.heap.size w1.heap.size ⟨10, 10⟩ ⟨10, 0, 0⟩ w2) := Lib.hid (Two.start (n := 10) HA.out HB.out hc hb)
  clear hc hb HA HB
  generalize w.heap.size = pb at T0 ⊢
  generalize w1.heap.size = tb at T0 ⊢
  go_wp2_with fail
  have C0 := fuse _ pb ⟨10, 10⟩ 4 T0.out.a T0.out.xo
  refine C0.mono ?_
  rintro _ w3 ⟨rfl, hd⟩
  have T1 : Hid (Two w pb tb ⟨10, 6⟩ ⟨10, 0, 0⟩ w3) := Lib.hid (T0.out.doP (hd : Do pb (pcs ⟨10, 6⟩) _ _ _) (T0.out.xo.use 4))
  clear hd C0 T0
  go_wp2_with fail
  have C1 := fuse _ pb ⟨10, 6⟩ 7 T1.out.a T1.out.xo
  refine C1.mono ?_
  rintro _ w4 ⟨rfl, hd⟩
  have T2 : Hid (Two w pb tb ⟨10, 6⟩ ⟨10, 0, 0⟩ w4) := Lib.hid (T1.out.doP (hd : Do pb (pcs ⟨10, 6⟩) _ _ _) (T1.out.xo.use 7))
  clear hd C1 T1
  go_wp2_with fail
  have C2 := fgrant _ pb ⟨10, 6⟩ 4 T2.out.a T2.out.xo
  refine C2.mono ?_
  rintro _ w5 ⟨rfl, hd⟩
  have T3 : Hid (Two w pb tb ⟨10, 10⟩ ⟨10, 0, 0⟩ w5) := Lib.hid (T2.out.doP (hd : Do pb (pcs ⟨10, 10⟩) _ _ _) (T2.out.xo.grant 4))
  clear hd C2 T2
  go_wp2_with fail
  have C3 := fgrant _ pb ⟨10, 10⟩ 1 T3.out.a T3.out.xo
  refine C3.mono ?_
  rintro _ w6 ⟨rfl, hd⟩
  have T4 : Hid (Two w pb tb ⟨10, 10⟩ ⟨10, 0, 0⟩ w6) := Lib.hid (T3.out.doP (hd : Do pb (pcs ⟨10, 10⟩) _ _ _) (T3.out.xo.grant 1))
  clear hd C3 T3
  go_wp2_with fail
  have C4 := fcome _ tb ⟨10, 0, 0⟩ 6 T4.out.c T4.out.yo
  refine C4.mono ?_
  rintro _ w7 ⟨rfl, hd⟩
  have T5 : Hid (Two w pb tb ⟨10, 10⟩ ⟨10, 6, 0⟩ w7) := Lib.hid (T4.out.doT (hd : Do tb (tcs ⟨10, 6, 0⟩) _ _ _) (T4.out.yo.come 6))
  clear hd C4 T4
  go_wp2_with fail
  have C5 := fcome _ tb ⟨10, 6, 0⟩ 5 T5.out.c T5.out.yo
  refine C5.mono ?_
  rintro _ w8 ⟨rfl, hd⟩
  have T6 : Hid (Two w pb tb ⟨10, 10⟩ ⟨10, 6, 0⟩ w8) := Lib.hid (T5.out.doT (hd : Do tb (tcs ⟨10, 6, 0⟩) _ _ _) (T5.out.yo.come 5))
  clear hd C5 T5
  go_wp2_with fail
  have C6 := fread _ tb ⟨10, 6, 0⟩ 2 T6.out.c T6.out.yo
  refine C6.mono ?_
  rintro _ w9 ⟨rfl, hd⟩
  have T7 : Hid (Two w pb tb ⟨10, 10⟩ ⟨10, 4, 2⟩ w9) := Lib.hid (T6.out.doT (hd : Do tb (tcs ⟨10, 4, 2⟩) _ _ _) (T6.out.yo.read 2))
  clear hd C6 T6
  go_wp2_with fail
  have C7 := fpay _ tb ⟨10, 4, 2⟩ T7.out.c T7.out.yo
  refine C7.mono ?_
  rintro _ w10 ⟨rfl, hd⟩
  have T8 : Hid (Two w pb tb ⟨10, 10⟩ ⟨10, 4, 0⟩ w10) := Lib.hid (T7.out.doT (hd : Do tb (tcs ⟨10, 4, 0⟩) _ _ _) (T7.out.yo.pay))
  clear hd C7 T7
  go_wp2_with fail
  have C8 := fcome _ tb ⟨10, 4, 0⟩ 6 T8.out.c T8.out.yo
  refine C8.mono ?_
  rintro _ w11 ⟨rfl, hd⟩
  have T9 : Hid (Two w pb tb ⟨10, 10⟩ ⟨10, 10, 0⟩ w11) := Lib.hid (T8.out.doT (hd : Do tb (tcs ⟨10, 10, 0⟩) _ _ _) (T8.out.yo.come 6))
  clear hd C8 T8
  go_wp2_with (first
    | (go_at_call 23; refine (fleft _ pb ⟨10, 10⟩ T9.out.a).mono ?_; rintro x v ⟨rfl, rfl⟩)
    | (go_at_call 24; refine (fholds _ tb ⟨10, 10, 0⟩ T9.out.c).mono ?_; rintro x v ⟨rfl, rfl⟩)
    | (go_at_call 25; refine (fowes _ tb ⟨10, 10, 0⟩ T9.out.c).mono ?_; rintro x v ⟨rfl, rfl⟩))
  go_ret
  exact ⟨rfl, T9.out.below⟩
end Go.Proofs.Ytaeinccehkofgaa.Cr
