/-
  TlvAll answers true for everything, and turns nothing that was there. No condition.
-/
import Derived.Test.YtlmfnjdbknfkjaaTlvRall
import Derived.Test.YtlmfnjdbknfkjaaTlvWorks
import Derived.OneCell
namespace Go.Proofs.Ytlmfnjdbknfkjaa.Tlv
open Go.RowKit Go.Proofs.Ytlmfnjdbknfkjaa.Base Go.Proofs.Ytlmfnjdbknfkjaa.Ea Go.Proofs.Ytlmfnjdbknfkjaa.Mem
theorem OwnS.slice {E : Nat} {w : World} {base : Nat} {v : Value} {l : List It} (h : OwnS E 3 ic w base v l) : ∃ a cap, v = .slice a l.length cap := by
  rcases h.shape with ⟨h1, rfl⟩ | ⟨g, cap, h1, _⟩
  · exact ⟨none, 0, h1⟩
  · exact ⟨_, _, h1⟩
theorem flat_set (l : List It) (k : Nat) (hk : k < l.length) (y : It) : (((l.flatMap ic).set (3 * k) (.int .u8 (y.k : Int))).set (3 * k + 1) (.bool y.c)).set (3 * k + 2) (.string y.v) = (l.set k y).flatMap ic := by
  induction l generalizing k with
  | nil => simp at hk
  | cons a r ih =>
    match k, hk with
    | 0, _ => rfl
    | k + 1, hk =>
      have := ih k (by simpa using hk)
      rw [List.set_cons_succ, List.flatMap_cons, List.flatMap_cons, ← this]
      show ((([_, _, _] ++ r.flatMap ic).set _ _).set _ _).set _ _ = [_, _, _] ++ _
      rw [show 3 * (k + 1) = 3 * k + 1 + 1 + 1 by omega, show 3 * k + 1 + 1 + 1 + 1 = (3 * k + 1) + 1 + 1 + 1 by omega, show 3 * k + 1 + 1 + 1 + 2 = (3 * k + 2) + 1 + 1 + 1 by omega]
      rfl
/-- An element is written over. -/
theorem own_put {E : Nat} {w : World} {base g n cap : Nat} {l : List It} (h : OwnS E 3 ic w base (.slice (some ⟨g, 0, none⟩) n cap) l) (k : Nat) (hk : k < l.length) (y : It) :
    OwnS E 3 ic (((w.setCell ⟨g, 3 * k, none⟩ (.int .u8 (y.k : Int))).setCell ⟨g, 3 * k + 1, none⟩ (.bool y.c)).setCell ⟨g, 3 * k + 2, none⟩ (.string y.v)) base (.slice (some ⟨g, 0, none⟩) n cap) (l.set k y) := by
  have hn := h.num
  subst hn
  unfold OwnS at *
  rw [List.length_set, ← flat_set l k hk y]
  exact (((h.stored (3 * k) _).1.stored (3 * k + 1) _).1.stored (3 * k + 2) _).1
end Go.Proofs.Ytlmfnjdbknfkjaa.Tlv
namespace Go.Proofs.Ytlmfnjdbknfkjaa.tlvAll
open Go.RowKit Go.Proofs.Ytlmfnjdbknfkjaa.Base Go.Proofs.Ytlmfnjdbknfkjaa.Tlv Go.Proofs.Ytlmfnjdbknfkjaa.Mem
theorem set3' {B : Nat} {a w : World} (h : Below B a w) {b : Nat} (hb : B ≤ b) (i j k : Nat) (v0 v1 v2 : Value) : Below B a (((w.setCell ⟨b, i, none⟩ v0).setCell ⟨b, j, none⟩ v1).setCell ⟨b, k, none⟩ v2) :=
  ((h.setCell hb _).setCell hb _).setCell hb _
/-- What each round of the outer loop begins with. -/
structure At (R : List It) (w : World) (u : Value) (wr : World) : Prop where
  own : OwnS 46 3 ic wr w.heap.size u R
  base : Below w.heap.size w wr
/-- What each round of the inner loop begins with. -/
structure In (R : List It) (w w0 : World) (u v : Value) (k : Nat) (wr : World) (cur : List It) : Prop where
  at_ : At R w u wr
  own : OwnS 32 3 ic wr w0.heap.size v cur
  len : cur.length = R.length
  rest : ∀ i, k ≤ i → cur[i]? = R[i]?
theorem At.on {R : List It} {w : World} {u : Value} {a b : World} (h : At R w u a) (hb : Below a.heap.size a b) : At R w u b := ⟨h.own.below hb, below_on h.base hb⟩
/-- The cells of element k. -/
theorem cells_at {E : Nat} {w : World} {base g n cap : Nat} {l : List It} (h : OwnS E 3 ic w base (.slice (some ⟨g, 0, none⟩) n cap) l) (k : Nat) (x : It) (hk : l[k]? = some x) :
    w.cell? ⟨g, k * 3, none⟩ = some (.int .u8 (x.k : Int)) ∧ w.cell? ⟨g, k * 3 + 1, none⟩ = some (.bool x.c) ∧ w.cell? ⟨g, k * 3 + 2, none⟩ = some (.string x.v) := by
  have h0 := h.cell (z := 3) (fc := ic) (fun _ => rfl) k x hk 0 (by decide)
  have h1 := h.cell (z := 3) (fc := ic) (fun _ => rfl) k x hk 1 (by decide)
  have h2 := h.cell (z := 3) (fc := ic) (fun _ => rfl) k x hk 2 (by decide)
  rw [Nat.mul_comm 3 k] at h0 h1 h2
  exact ⟨h0, h1, h2⟩
theorem some_at {E : Nat} {w : World} {base n cap : Nat} {a : Option Addr} {l : List It} (h : OwnS E 3 ic w base (.slice a n cap) l) (h0 : 0 < l.length) : ∃ g, a = some ⟨g, 0, none⟩ ∧ base ≤ g := by
  rcases h.shape with ⟨_, rfl⟩ | ⟨g, cap', h1, h2⟩
  · exact absurd h0 (by decide)
  · injection h1 with h1
    exact ⟨g, h1, h2⟩
theorem own_skip {E : Nat} {w : World} {base : Nat} {v : Value} {l : List It} (h : OwnS E 3 ic w base v l) (g i j k : Nat) (hg : v.ownBlock ≠ some g) (a b c : Value) : OwnS E 3 ic (((w.setCell ⟨g, i, none⟩ a).setCell ⟨g, j, none⟩ b).setCell ⟨g, k, none⟩ c) base v l :=
  ownsRow_setCell_other (ownsRow_setCell_other (ownsRow_setCell_other h (a := ⟨g, i, none⟩) hg a) (a := ⟨g, j, none⟩) hg b) (a := ⟨g, k, none⟩) hg c
/-- A round of the inner loop: the element is written over. -/
theorem In.step {R : List It} {w w0 wr : World} {u : Value} {k gv n cap : Nat} {cur : List It} (h : In R w w0 u (.slice (some ⟨gv, 0, none⟩) n cap) k wr cur) (hk : k < R.length) (hw : w.heap.size ≤ w0.heap.size) (hgv : w0.heap.size ≤ gv) (hu : ∀ i, u.ownBlock = some i → i < w0.heap.size) (m : Nat) :
    In R w w0 u (.slice (some ⟨gv, 0, none⟩) n cap) (k + 1) ((((wr.drewN m).setCell ⟨gv, k * 3, none⟩ (.int .u8 0)).setCell ⟨gv, k * 3 + 1, none⟩ (.bool false)).setCell ⟨gv, k * 3 + 2, none⟩ (.string ⟨#[]⟩)) (cur.set k ⟨0, false, ⟨#[]⟩⟩) := by
  have hd : At R w u (wr.drewN m) := h.at_.on (below_drewN (Below.refl _ _) m)
  have ho : OwnS 32 3 ic (wr.drewN m) w0.heap.size (.slice (some ⟨gv, 0, none⟩) n cap) cur := h.own.below (below_drewN (Below.refl _ _) m)
  refine ⟨⟨own_skip hd.own gv _ _ _ (fun e => by have := hu gv e; omega) _ _ _, set3' hd.base (by omega) _ _ _ _ _ _⟩, ?_, by rw [List.length_set]; exact h.len, fun i hi => ?_⟩
  · have := own_put ho k (by rw [h.len]; exact hk) ⟨0, false, ⟨#[]⟩⟩
    rw [Nat.mul_comm 3 k] at this
    exact this
  · rw [List.getElem?_set_ne (by omega)]
    exact h.rest i (by omega)
set_option maxRecDepth 100000 in
set_option maxHeartbeats 1000000 in
theorem law (s : ByteArray) (hs : s.size ≤ maxLen) (w : World) :
    Calls Try.prog 13 #[.string s] w fun e w' => e = .returned (.bool true) ∧ Below w.heap.size w w' := by
  unfold maxLen at hs
  by_cases h : 400 < s.size
  · go_enter Try.func13, Try.ntmps13
    go_wp2_with (go_at_call 7; ((with_reducible refine (works _).mono ?_); rintro e w1 ⟨rfl, hb⟩; have HB1 : Hid (Below w.heap.size w w1) := Lib.hid hb; clear hb))
    go_ret
    exact ⟨rfl, HB1.out⟩
  have CA := Lib.hid (fun w => fall s (by omega) w)
  have CR := Lib.hid (fun w => rall s (by omega) w)
  unfold AllEnds at CA CR
  have hR := all_len s
  rcases hA : all s with ⟨R, M, X⟩
  rw [hA] at CA CR hR
  have hR2 : R.length ≤ 400 := Nat.le_trans hR (by omega)
  clear hA hR
  go_enter Try.func13, Try.ntmps13
  go_wp2_with (go_at_call 22; ((with_reducible refine (CR.out _).mono ?_); rintro e w1 ⟨u, rfl, hu, hb⟩; obtain ⟨ua, ucap, rfl⟩ := OwnS.slice hu; have HU := Lib.hid (⟨hu, hb⟩ : At R w _ w1); clear hb hu))
  go_loopw [6] (fun t wr => ∃ k : Nat, k ≤ 2 ∧ t = .int .i64 (k : Int) ∧ Hid (At R w (.slice ua R.length ucap) wr)) (fun t _ => 2 - (intOf t).toNat)
  case atStart => exact ⟨0, by decide, rfl, HU⟩
  case round =>
    obtain ⟨k, hk, rfl, HR⟩ := hrel
    by_cases hlt : k < 2
    · have hd : decide ((k : Int) < 2) = true := by simp; omega
      obtain ⟨w0, rfl⟩ : ∃ w0 : World, w0 = wr := ⟨_, rfl⟩
      go_wp2_with (go_at_call 11; ((with_reducible refine (CA.out _).mono ?_); rintro e w2 ⟨v, rfl, hv, hb⟩; obtain ⟨va, vcap, rfl⟩ := OwnS.slice hv; have HV := Lib.hid (⟨HR.out.on hb, hv, rfl, fun _ _ => rfl⟩ : In R w w0 _ _ 0 w2 R); clear hb hv))
      go_loopw [10] (fun i wr => ∃ (j : Nat) (cur : List It), j ≤ R.length ∧ i = .int .i64 (j : Int) ∧ Hid (In R w w0 (.slice ua R.length ucap) (.slice va R.length vcap) j wr cur)) (fun i _ => R.length - (intOf i).toNat)
      case atStart => exact ⟨0, R, Nat.zero_le _, rfl, HV⟩
      case round =>
        obtain ⟨j, cur, hj, rfl, HI⟩ := hrel
        by_cases hjl : j < R.length
        · obtain ⟨gv, rfl, hgv⟩ := some_at HI.out.own (by rw [HI.out.len]; omega)
          obtain ⟨gu, rfl, hgu⟩ := some_at HI.out.at_.own (by omega)
          obtain ⟨x, hx⟩ : ∃ x, R[j]? = some x := ⟨_, List.getElem?_eq_getElem hjl⟩
          obtain ⟨c0, c1, c2⟩ := cells_at HI.out.own j x ((HI.out.rest j (Nat.le_refl _)).trans hx)
          obtain ⟨d0, d1, d2⟩ := cells_at HI.out.at_.own j x hx
          have fz := fun i => HI.out.own.free i
          have f0 := fz (j * 3)
          have f1 := fz (j * 3 + 1)
          have f2 := fz (j * 3 + 2)
          have j0 : (0 : Int) ≤ (j : Int) := by omega
          have j1 : (j : Int) < (R.length : Int) := by omega
          clear fz hx
          go_wp2
          go_quiet (fail)
          go_wp2
          go_roundw
          case rel => exact ⟨j + 1, _, by omega, by go_num, Lib.hid (HI.out.step hjl HR.out.base.size hgv (fun i hi => (HR.out.own.lt i hi).2) _)⟩
          case measure => simp [intOf]; omega
        · go_wp2
          go_roundw
          case rel => exact ⟨k + 1, by omega, by go_num, Lib.hid HI.out.at_⟩
          case measure => simp [intOf]; omega
    · go_wp2_with (go_at_call 7; ((with_reducible refine (works _).mono ?_); rintro e w2 ⟨rfl, hb⟩; have HB2 : Hid (Below w.heap.size w w2) := Lib.hid (below_on HR.out.base hb); clear hb))
      go_ret
      exact ⟨rfl, HB2.out⟩
end Go.Proofs.Ytlmfnjdbknfkjaa.tlvAll
