/-
  One's own and the document's own, beside each other: what a call of each leaves. Condition: at most a thousand words.
-/
import Derived.Test.YtogpfjpjegmkiaaGtWorks
namespace Go.Proofs.Ytogpfjpjegmkiaa.Gt
open Go.RowKit Go.Proofs.Ytogpfjpjegmkiaa.Base Go.Proofs.Ytogpfjpjegmkiaa.Mem Go.Proofs.Ytogpfjpjegmkiaa.Cr
/-- Both, made since w0; the document's own was told at most k words. -/
structure Duo (w0 : World) (b c : Nat) (x y : St) (k : Nat) (w : World) : Prop where
  one : Pn w0 b x w
  two : ∃ v ws, R w c w0.heap.size v ws ∧ Tells ws y ∧ ws.length ≤ k
  ok : y.Ok
  lo : w0.heap.size ≤ c
section
variable {w0 w w' : World} {b c k : Nat} {x y z : St} {v : Value} {ws ws' : List Wd}
theorem Duo.on (h : Duo w0 b c x y k w) (hb : Below w.heap.size w w') : Duo w0 b c x y k w' :=
  let ⟨v, ws, h2, h3⟩ := h.two
  ⟨h.one.on hb, ⟨v, ws, h2.below hb, h3⟩, h.ok, h.lo⟩
theorem Duo.drewN (h : Duo w0 b c x y k w) (n : Nat) : Duo w0 b c x y k (w.drewN n) := h.on ⟨rfl, rfl, rfl, Nat.le_refl _, fun _ _ => rfl⟩
theorem Duo.drew (h : Duo w0 b c x y k w) : Duo w0 b c x y k w.drew := h.on ⟨rfl, rfl, rfl, Nat.le_refl _, fun _ _ => rfl⟩
theorem Duo.more (h : Duo w0 b c x y k w) : Duo w0 b c x y (k + 1) w :=
  let ⟨v, ws, h2, h3, h4⟩ := h.two
  ⟨h.one, ⟨v, ws, h2, h3, by omega⟩, h.ok, h.lo⟩
theorem Duo.doA (h : Duo w0 b c x y k w) (hq : P w' b z) (hc : Chg (Bs b) w w') : Duo w0 b c z y k w' :=
  let ⟨v, ws, h2, h3⟩ := h.two
  ⟨h.one.step hq hc, ⟨v, ws, h2.other hc fun _ e => ⟨_, _, e ▸ h.one.q.ar, by decide, by decide⟩, h3⟩, h.ok, h.lo⟩
theorem Duo.doB (h : Duo w0 b c x y k w) (h2 : R w c w0.heap.size v ws) (hq : ∃ v', R w' c w0.heap.size v' ws') (hc : Chg (Sx c v) w w') (ht : Tells ws' z) (hz : z.Ok) (hl : ws'.length ≤ k + 1) : Duo w0 b c x z (k + 1) w' :=
  let ⟨v', h3⟩ := hq
  ⟨⟨h.one.q.other hc (h2.not_S h.one.q.ar (by decide) (by decide)), h.one.lo, hc.below h.one.below h.one.below.size fun j hj => by
    rcases hj with rfl | hj
    · exact h.lo
    · exact (h2.own.lt j hj).1⟩, ⟨v', ws', h3, ht, hl⟩, hz, h.lo⟩
/-- The document's own, made behind one's own. -/
theorem Duo.made (h : Pn w0 b x w) (hx : x = St.new) : Duo w0 b w.heap.size x x 0 (w.alloc (.cells #[.slice none 0 0] RT (0, 0))) :=
  ⟨h.on (nest_below w [_]), ⟨_, [], ⟨nest w [_] 0 _ rfl, ownS_nil _ _⟩, hx ▸ .new, Nat.le_refl _⟩, h.q.ok, h.below.size⟩
theorem dopenA (h : Duo w0 b c x y k w) : Calls Try.prog 9 #[ptr b] w fun e w' => e = .returned (.bool x.op) ∧ w = w' := fopen h.one.q
theorem dopenB (h : Duo w0 b c x y k w) (hk : k ≤ 1000) : Calls Try.prog 10 #[ptr c] w fun e w' => e = .returned (.bool y.op) ∧ w = w' :=
  let ⟨_, _, h2, h3, h4⟩ := h.two
  ropen h2 (by omega) h3
theorem dmayA (h : Duo w0 b c x y k w) (d : Nat) : Calls Try.prog 11 #[ptr b, oc d] w fun e w' => e = .returned (.bool (x.may d)) ∧ Duo w0 b c x y k w' :=
  (fmay h.one.q d).mono fun _ _ ⟨he, m, hw⟩ => ⟨he, hw ▸ h.drewN m⟩
theorem dmayB (h : Duo w0 b c x y k w) (hk : k ≤ 1000) (d : Nat) : Calls Try.prog 12 #[ptr c, oc d] w fun e w' => e = .returned (.bool (y.may d)) ∧ Duo w0 b c x y k w' :=
  let ⟨_, _, h2, h3, h4⟩ := h.two
  (rmay h2 (by omega) h3 d).mono fun _ _ ⟨he, hw⟩ => ⟨he, hw ▸ h⟩
theorem dstoppedA (h : Duo w0 b c x y k w) : Calls Try.prog 14 #[ptr b] w fun e w' => ∃ v, e = .returned v ∧ Gs w v (x.sl 64) w' ∧ Duo w0 b c x y k w' :=
  (fstopped h.one.q).mono fun _ _ ⟨v, he, hg⟩ => ⟨v, he, hg, h.on hg.below⟩
theorem dstoppedB (h : Duo w0 b c x y k w) (hk : k ≤ 1000) : Calls Try.prog 15 #[ptr c] w fun e w' => ∃ v, e = .returned v ∧ Gs w v (y.sl 64) w' ∧ Duo w0 b c x y k w' :=
  let ⟨_, _, h2, h3, h4⟩ := h.two
  (rstopped h2 (by omega) h3 h.ok).mono fun _ _ ⟨v, he, hg⟩ => ⟨v, he, hg, h.on hg.below⟩
theorem dallA (h : Duo w0 b c x y k w) (o : Bool) : Calls Try.prog 16 #[ptr b, .bool o] w fun e w' => e = .returned (.tuple #[]) ∧ Duo w0 b c (x.all o) y k w' :=
  (fall h.one.q o).mono fun _ _ ⟨he, hq, hc⟩ => ⟨he, h.doA hq hc⟩
theorem dallB (h : Duo w0 b c x y k w) (hk : k ≤ 1000) (o : Bool) : Calls Try.prog 17 #[ptr c, .bool o] w fun e w' => e = .returned (.tuple #[]) ∧ Duo w0 b c x (y.all o) (k + 1) w' :=
  let ⟨_, _, h2, h3, h4⟩ := h.two
  (rall h2 (by omega) h.one.below.size o).mono fun _ _ ⟨he, hq, hc⟩ => ⟨he, h.doB h2 hq hc (h3.all o) (h.ok.all o) (by simp; omega)⟩
theorem dstopA (h : Duo w0 b c x y k w) (d : Nat) (o : Bool) : Calls Try.prog 18 #[ptr b, oc d, .bool o] w fun e w' => e = .returned (.tuple #[]) ∧ Duo w0 b c (x.stop d o) y k w' :=
  (fstop h.one.q d o).mono fun _ _ ⟨he, hq, hc⟩ => ⟨he, h.doA hq hc⟩
theorem dstopB (h : Duo w0 b c x y k w) (hk : k ≤ 1000) (d : Nat) (o : Bool) : Calls Try.prog 19 #[ptr c, oc d, .bool o] w fun e w' => e = .returned (.tuple #[]) ∧ Duo w0 b c x (y.stop d o) (k + 1) w' := by
  by_cases hd : 0 < d ∧ d ≤ 63
  · obtain ⟨_, _, h2, h3, h4⟩ := h.two
    exact (rstop_yes h2 (by omega) h.one.below.size d o hd).mono fun _ _ ⟨he, hq, hc⟩ => ⟨he, h.doB h2 hq hc (h3.stop h.ok o hd) (h.ok.stop d o) (by simp; omega)⟩
  · rw [stop_no o hd]
    exact (rstop_no c d o hd w).mono fun _ _ ⟨he, hw⟩ => ⟨he, hw ▸ h.more⟩
end
end Go.Proofs.Ytogpfjpjegmkiaa.Gt
