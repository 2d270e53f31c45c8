/-
  What May, Put and Lowers of layer 8, and the document's own Put, answer. No condition but the bounds of octets.
-/
import Derived.Test.YtffahjlboakakaaDoorPnRef
namespace Go.Proofs.YtffahjlboakakaaDoor.Pn
open Go.RowKit Go.Proofs.YtffahjlboakakaaDoor.Base Go.Proofs.YtffahjlboakakaaDoor.Mem
theorem fmay (p : Pr) (w : World) :
    Calls Tryd.prog 53 #[pv p] w fun x w' => x = .returned (.bool (may p)) ∧ Below w.heap.size w w' := by
  have CB := Lib.hid (fun w => fbounded p w)
  have HE : ∀ w, (binOp .eql 23 (pv p) (pv (bounded p))).run Tryd.prog w = .ok (.bool (may p)) w := fun w => by rw [run_eqP, may_bounded]
  generalize bounded p = q at CB HE
  generalize may p = b at HE
  go_enter Tryd.func53, Tryd.ntmps53
  go_wp2
  have HB0 : Hid (Below w.heap.size w (w.alloc (pO p 23))) := Lib.hid (nest_below w [pO p 23])
  have GS : Cells (w.alloc (pO p 23)) w.heap.size p := cells_of (nest w [_] 0 _ rfl)
  generalize w.alloc (pO p 23) = W at *
  obtain ⟨g0, g1, g2, g3, g4, g5, g6, g7⟩ := GS
  go_region_held3 (fun w' => w'.cell? ⟨w.heap.size, 0, none⟩ = some (.int .u8 p.d) ∧ w'.cell? ⟨w.heap.size, 1, none⟩ = some (.int .u8 p.f) ∧ w'.cell? ⟨w.heap.size, 2, none⟩ = some (.int .u8 p.c) ∧ w'.cell? ⟨w.heap.size, 3, none⟩ = some (.int .u8 p.r) ∧ w'.cell? ⟨w.heap.size, 4, none⟩ = some (.int .i64 p.t) ∧ w'.cell? ⟨w.heap.size, 5, none⟩ = some (.int .i64 p.n) ∧ w'.cell? ⟨w.heap.size, 6, none⟩ = some (.int .i64 p.z) ∧ w'.cell? ⟨w.heap.size, 7, none⟩ = some (.int .i64 p.k) ∧ Below W.heap.size W w')
    (first | exact ⟨g0, g1, g2, g3, g4, g5, g6, g7, (Below.refl _ _).drew⟩ | exact ⟨cell_below g0 HB1.out, cell_below g1 HB1.out, cell_below g2 HB1.out, cell_below g3 HB1.out, cell_below g4 HB1.out, cell_below g5 HB1.out, cell_below g6 HB1.out, cell_below g7 HB1.out, HB1.out⟩)
    ((go_at_call 64; ((with_reducible refine (CB.out _).mono ?_); rintro e w1 ⟨rfl, hb⟩; have HB1 := Lib.hid (below_on ((Below.refl W.heap.size W).drew) hb); clear hb)))
  rename_i hX
  go_wp2
  go_ret
  exact ⟨rfl, below_on HB0.out hX.2.2.2.2.2.2.2.2⟩
theorem fput_ok (p : Pr) (hp : p.In) (hm : p.May) (CM : ∀ w, Calls Tryd.prog 53 #[pv p] w fun x w' => x = .returned (.bool true) ∧ Below w.heap.size w w') (w : World) :
    Calls Tryd.prog 33 #[pv p] w fun x w' => x = .returned (.tuple #[.string (octets p), .int .i64 0]) ∧ Below w.heap.size w w' := by
  obtain ⟨S, hS⟩ : ∃ S, octets p = S := ⟨_, rfl⟩
  have hcv : ∀ (W : World) (b : Nat), W.cell? ⟨b, 0, none⟩ = some (.int .u8 p.d) → W.cell? ⟨b, 1, none⟩ = some (.int .u8 (p.f + 16 * p.c)) → W.cell? ⟨b, 2, none⟩ = some (.int .u8 p.r) → W.cell? ⟨b, 3, none⟩ = some (.int .u8 p.t) → W.cell? ⟨b, 4, none⟩ = some (.int .u8 (p.n % 256)) → W.cell? ⟨b, 5, none⟩ = some (.int .u8 (p.n / 256)) → W.cell? ⟨b, 6, none⟩ = some (.int .u8 p.z) → W.cell? ⟨b, 7, none⟩ = some (.int .u8 p.k) → (convert 54 9 (.slice (some ⟨b, 0, none⟩) 8 8)).run Tryd.prog W = .ok (.string S) W := fun W b h0 h1 h2 h3 h4 h5 h6 h7 => by rw [← hS]; exact conv_at8 W b _ _ _ _ _ _ _ _ h0 h1 h2 h3 h4 h5 h6 h7
  rw [hS]
  have CMh := Lib.hid CM
  obtain ⟨⟨m1, n1⟩, m2, m3, m4, ⟨m5, n5⟩, ⟨m6, n6⟩, ⟨m7, n7⟩, ⟨m8, n8⟩⟩ := hm
  obtain ⟨⟨i1, j1⟩, ⟨i2, j2⟩, ⟨i3, j3⟩, ⟨i4, j4⟩⟩ := hp
  clear CM hS
  go_enter Tryd.func33, Tryd.ntmps33
  go_wp2_with (go_at_call 53; ((with_reducible refine (CMh.out _).mono ?_); rintro e w1 ⟨rfl, hb⟩; obtain ⟨g0, g1, g2, g3, g4, g5, g6, g7⟩ := cells_of (p := p) (fresh hb); have HB := Lib.hid (on_new (Below.refl _ _) hb); clear hb))
  go_ret2
  exact ⟨rfl, HB.out.alloc HB.out.size _⟩
theorem fput_no (p : Pr) (CM : ∀ w, Calls Tryd.prog 53 #[pv p] w fun x w' => x = .returned (.bool false) ∧ Below w.heap.size w w') (w : World) :
    Calls Tryd.prog 33 #[pv p] w fun x w' => x = .returned (.tuple #[.string ⟨#[]⟩, .int .i64 2]) ∧ Below w.heap.size w w' := by
  have CMh := Lib.hid CM
  clear CM
  go_enter Tryd.func33, Tryd.ntmps33
  go_wp2_with (go_at_call 53; ((with_reducible refine (CMh.out _).mono ?_); rintro e w1 ⟨rfl, hb⟩; have HB := Lib.hid (on_new (Below.refl _ _) hb); clear hb))
  go_ret2
  exact ⟨rfl, HB.out⟩
theorem fput (p : Pr) (hp : p.In) (w : World) :
    Calls Tryd.prog 33 #[pv p] w fun x w' => x = .returned (.tuple #[.string (putS p), .int .i64 (putE p)]) ∧ Below w.heap.size w w' := by
  unfold putS putE
  cases hm : may p
  · exact fput_no p (fun w => by have := fmay p w; rw [hm] at this; exact this) w
  · exact fput_ok p hp ((may_iff p).1 hm) (fun w => by have := fmay p w; rw [hm] at this; exact this) w
theorem rput_ok (p : Pr) (hp : p.In) (hm : p.May) (CM : ∀ w, Calls Tryd.prog 25 #[pv p] w fun x w' => x = .returned (.bool true) ∧ Below w.heap.size w w') (w : World) :
    Calls Tryd.prog 38 #[pv p] w fun x w' => x = .returned (.tuple #[.string (octets p), .int .i64 0]) ∧ Below w.heap.size w w' := by
  obtain ⟨S, hS⟩ : ∃ S, octets p = S := ⟨_, rfl⟩
  have hcv : ∀ (W : World) (b : Nat), W.cell? ⟨b, 0, none⟩ = some (.int .u8 p.d) → W.cell? ⟨b, 1, none⟩ = some (.int .u8 (p.f + 16 * p.c)) → W.cell? ⟨b, 2, none⟩ = some (.int .u8 p.r) → W.cell? ⟨b, 3, none⟩ = some (.int .u8 p.t) → W.cell? ⟨b, 4, none⟩ = some (.int .u8 (p.n % 256)) → W.cell? ⟨b, 5, none⟩ = some (.int .u8 (p.n / 256)) → W.cell? ⟨b, 6, none⟩ = some (.int .u8 p.z) → W.cell? ⟨b, 7, none⟩ = some (.int .u8 p.k) → (convert 54 9 (.slice (some ⟨b, 0, none⟩) 8 8)).run Tryd.prog W = .ok (.string S) W := fun W b h0 h1 h2 h3 h4 h5 h6 h7 => by rw [← hS]; exact conv_at8 W b _ _ _ _ _ _ _ _ h0 h1 h2 h3 h4 h5 h6 h7
  rw [hS]
  have CMh := Lib.hid CM
  obtain ⟨⟨m1, n1⟩, m2, m3, m4, ⟨m5, n5⟩, ⟨m6, n6⟩, ⟨m7, n7⟩, ⟨m8, n8⟩⟩ := hm
  obtain ⟨⟨i1, j1⟩, ⟨i2, j2⟩, ⟨i3, j3⟩, ⟨i4, j4⟩⟩ := hp
  clear CM hS
  go_enter Tryd.func38, Tryd.ntmps38
  go_wp2_with (go_at_call 25; ((with_reducible refine (CMh.out _).mono ?_); rintro e w1 ⟨rfl, hb⟩; obtain ⟨g0, g1, g2, g3, g4, g5, g6, g7⟩ := cells_of (p := p) (fresh hb); have HB := Lib.hid (on_new (Below.refl _ _) hb); clear hb))
  go_ret2
  exact ⟨rfl, HB.out.alloc HB.out.size _⟩
theorem rput_no (p : Pr) (CM : ∀ w, Calls Tryd.prog 25 #[pv p] w fun x w' => x = .returned (.bool false) ∧ Below w.heap.size w w') (w : World) :
    Calls Tryd.prog 38 #[pv p] w fun x w' => x = .returned (.tuple #[.string ⟨#[]⟩, .int .i64 2]) ∧ Below w.heap.size w w' := by
  have CMh := Lib.hid CM
  clear CM
  go_enter Tryd.func38, Tryd.ntmps38
  go_wp2_with (go_at_call 25; ((with_reducible refine (CMh.out _).mono ?_); rintro e w1 ⟨rfl, hb⟩; have HB := Lib.hid (on_new (Below.refl _ _) hb); clear hb))
  go_ret2
  exact ⟨rfl, HB.out⟩
theorem rput (p : Pr) (hp : p.In) (w : World) :
    Calls Tryd.prog 38 #[pv p] w fun x w' => x = .returned (.tuple #[.string (putS p), .int .i64 (putE p)]) ∧ Below w.heap.size w w' := by
  unfold putS putE
  cases hm : may p
  · exact rput_no p (fun w => by have := rmay p hp w; rw [hm] at this; exact this) w
  · exact rput_ok p hp ((may_iff p).1 hm) (fun w => by have := rmay p hp w; rw [hm] at this; exact this) w
end Go.Proofs.YtffahjlboakakaaDoor.Pn
