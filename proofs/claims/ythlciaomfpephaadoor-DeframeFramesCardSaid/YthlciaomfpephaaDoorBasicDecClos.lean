/-
  The closures by which layer 4's Decode asks, one behind the other, what a body must have. Conditions: the tables of layers 1 and 3 lie where the program lays them; what was captured lies in memory.
-/
import Derived.Test.YthlciaomfpephaaDoorBasicFrame
namespace Go.Proofs.YthlciaomfpephaaDoor.Basic
open Go.RowKit Go.Proofs.YthlciaomfpephaaDoor.Base Go.Proofs.YthlciaomfpephaaDoor.Ea Go.Proofs.YthlciaomfpephaaDoor.Field
/-- All that was there is as it was, but for two blocks. -/
structure Keeps (B1 B2 : Nat) (w w' : World) : Prop where
  os : w'.os = w.os
  tape : w'.tape = w.tape
  output : w'.output = w.output
  size : w.heap.size ≤ w'.heap.size
  block : ∀ k, k < w.heap.size → k ≠ B1 → k ≠ B2 → w'.heap[k]? = w.heap[k]?
theorem Keeps.of {B1 B2 : Nat} {w w' : World} (h : Below w.heap.size w w') : Keeps B1 B2 w w' := ⟨h.os, h.tape, h.output, h.size, fun k hk _ _ => h.block k hk⟩
theorem Keeps.refl (B1 B2 : Nat) (w : World) : Keeps B1 B2 w w := Keeps.of (Below.refl _ _)
theorem Keeps.trans {B1 B2 : Nat} {a b c : World} (h : Keeps B1 B2 a b) (k : Keeps B1 B2 b c) : Keeps B1 B2 a c :=
  ⟨k.os.trans h.os, k.tape.trans h.tape, k.output.trans h.output, Nat.le_trans h.size k.size, fun i hi h1 h2 => (k.block i (Nat.lt_of_lt_of_le hi h.size) h1 h2).trans (h.block i hi h1 h2)⟩
theorem Keeps.setCell {B1 B2 : Nat} {a w : World} (h : Keeps B1 B2 a w) {b i : Nat} (hb : b = B1 ∨ b = B2) (v : Value) : Keeps B1 B2 a (w.setCell ⟨b, i, none⟩ v) :=
  h.trans ⟨rfl, rfl, rfl, by simp [World.setCell], fun k _ h1 h2 => Below.heap_setCell _ _ _ _ (by rcases hb with rfl | rfl; exact h1; exact h2)⟩
theorem Keeps.below {B1 B2 B : Nat} {w w' : World} (h : Keeps B1 B2 w w') (h1 : B ≤ B1) (h2 : B ≤ B2) (hB : B ≤ w.heap.size) : Below B w w' :=
  ⟨h.os, h.tape, h.output, h.size, fun k hk => h.block k (by omega) (by omega) (by omega)⟩
theorem Keeps.at {B1 B2 b : Nat} {w w' : World} {o : Obj} (h : Keeps B1 B2 w w') (ho : w.heap[b]? = some o) (h1 : b ≠ B1) (h2 : b ≠ B2) : w'.heap[b]? = some o := (h.block b (lt_heap ho) h1 h2).trans ho
theorem set3_at {w : World} {b : Nat} {u0 u1 u2 : Value} {t : TypeId} (h : w.heap[b]? = some (.cells #[u0, u1, u2] t)) (v0 v1 v2 : Value) : (((w.setCell ⟨b, 0, none⟩ v0).setCell ⟨b, 1, none⟩ v1).setCell ⟨b, 2, none⟩ v2).heap[b]? = some (.cells #[v0, v1, v2] t) :=
  block_set (block_set (block_set h v0) v1) v2
theorem Keeps.set3 {B1 B2 : Nat} {a w : World} (h : Keeps B1 B2 a w) (v0 v1 v2 : Value) : Keeps B1 B2 a (((w.setCell ⟨B1, 0, none⟩ v0).setCell ⟨B1, 1, none⟩ v1).setCell ⟨B1, 2, none⟩ v2) :=
  ((h.setCell (.inl rfl) _).setCell (.inl rfl) _).setCell (.inl rfl) _
theorem Keeps.set7 {B1 B2 : Nat} {a w : World} (h : Keeps B1 B2 a w) (v0 v1 v2 v3 v4 v5 v6 : Value) : Keeps B1 B2 a (((((((w.setCell ⟨B2, 0, none⟩ v0).setCell ⟨B2, 1, none⟩ v1).setCell ⟨B2, 2, none⟩ v2).setCell ⟨B2, 3, none⟩ v3).setCell ⟨B2, 4, none⟩ v4).setCell ⟨B2, 5, none⟩ v5).setCell ⟨B2, 6, none⟩ v6) :=
  ((((((h.setCell (.inr rfl) _).setCell (.inr rfl) _).setCell (.inr rfl) _).setCell (.inr rfl) _).setCell (.inr rfl) _).setCell (.inr rfl) _).setCell (.inr rfl) _
theorem Keeps.left {B1 B2 : Nat} {w w' : World} (h : Keeps B1 B1 w w') : Keeps B1 B2 w w' := ⟨h.os, h.tape, h.output, h.size, fun k k1 k2 _ => h.block k k1 k2 k2⟩
theorem Keeps.right {B1 B2 : Nat} {w w' : World} (h : Keeps B2 B2 w w') : Keeps B1 B2 w w' := ⟨h.os, h.tape, h.output, h.size, fun k k1 _ k2 => h.block k k1 k2 k2⟩
/-- A body lies in a block. -/
def BdAt (w : World) (B : Nat) (hd i : ByteArray) (x : Nat) : Prop := w.heap[B]? = some (.cells #[.string hd, .string i, .int .u8 (x : Int)] 86)
theorem BdAt.cells {w : World} {B x : Nat} {hd i : ByteArray} (h : BdAt w B hd i x) : w.cell? ⟨B, 0, none⟩ = some (.string hd) ∧ w.cell? ⟨B, 1, none⟩ = some (.string i) ∧ w.cell? ⟨B, 2, none⟩ = some (.int .u8 (x : Int)) ∧ ∀ i, w.frozen? ⟨B, i, none⟩ = false :=
  ⟨cell_of h rfl, cell_of h rfl, cell_of h rfl, fun _ => free_of h⟩
theorem BdAt.below {w w' : World} {B x : Nat} {hd i : ByteArray} (h : BdAt w B hd i x) (hb : Below w.heap.size w w') : BdAt w' B hd i x := (hb.block B (lt_heap h)).trans h
theorem d1_ok (Sb B F x0 : Nat) (h0 i0 : ByteArray) {s : ByteArray} {a c x : Nat} {i : ByteArray} (h : IsB s a c x i) (hs : s.size ≤ maxLen) (w : World) (hS : w.cell? ⟨Sb, 0, none⟩ = some (.string s)) (hB : BdAt w B h0 i0 x0) :
    Calls Tryd.prog 65 #[ptr Sb, ptr B] w fun e w' => e = .returned (.int .i64 0) ∧ BdAt w' B (hdB a c i.size) i x ∧ Keeps B F w w' := by
  have C := Lib.hid (split_ok h hs)
  have HB := Lib.hid hB
  clear h hB
  go_enter Tryd.func65, Tryd.ntmps65
  go_wp2_with (go_at_call 66; ((with_reducible refine (C.out _).mono ?_); rintro e w1 ⟨rfl, hb⟩; obtain ⟨k0, k1, k2, kf⟩ := (HB.out.below hb).cells; have H1 := Lib.hid hb; clear hb))
  go_ret
  exact ⟨rfl, set3_at (HB.out.below H1.out) _ _ _, (Keeps.of H1.out).set3 _ _ _⟩
theorem d1_no (Sb B F x0 : Nat) (h0 i0 : ByteArray) {s : ByteArray} (h : ∀ a c x i, ¬ IsB s a c x i) (hs : s.size ≤ maxLen) (w : World) (hS : w.cell? ⟨Sb, 0, none⟩ = some (.string s)) (hB : BdAt w B h0 i0 x0) :
    Calls Tryd.prog 65 #[ptr Sb, ptr B] w fun e w' => e = .returned (.int .i64 40) ∧ Keeps B F w w' := by
  have C := Lib.hid (split_no h hs)
  have HB := Lib.hid hB
  clear h hB
  go_enter Tryd.func65, Tryd.ntmps65
  go_wp2_with (go_at_call 66; ((with_reducible refine (C.out _).mono ?_); rintro e w1 ⟨rfl, hb⟩; obtain ⟨k0, k1, k2, kf⟩ := (HB.out.below hb).cells; have H1 := Lib.hid hb; clear hb))
  go_ret
  exact ⟨rfl, (Keeps.of H1.out).set3 _ _ _⟩
theorem d2_ok (B Ib F x : Nat) (hd i : ByteArray) (ini : Bool) (f0 : Fr) (h1 : 1 < hd.size) (hk : gK hd[1].toNat ≠ 0) (w : World) (ht : Field.Tab w) (hB : BdAt w B hd i x) (hI : w.cell? ⟨Ib, 0, none⟩ = some (.bool ini)) (hF : FrAt w F f0) :
    Calls Tryd.prog 67 #[ptr B, ptr Ib, ptr F] w fun e w' => e = .returned (.int .i64 0) ∧ FrAt w' F (fr hd[0].toNat hd[1].toNat i ini) ∧ Keeps F F w w' := by
  have C := Lib.hid (bframe_ok hd i x ini h1 hk w ht)
  obtain ⟨j0, j1, j2, jf⟩ := hB.cells
  have HF := Lib.hid hF
  clear hk hB hF ht jf
  go_enter Tryd.func67, Tryd.ntmps67
  go_wp2_with (go_at_call 68; ((with_reducible refine C.out.mono ?_); rintro e w1 ⟨rfl, hb⟩; obtain ⟨k0, k1, k2, k3, k4, k5, k6⟩ := (HF.out.below hb).cells; have kf := (HF.out.below hb).free; have H1 := Lib.hid hb; clear hb))
  go_ret
  exact ⟨rfl, set7_at (HF.out.below H1.out) _ _ _ _ _ _ _, (Keeps.of H1.out).set7 _ _ _ _ _ _ _⟩
theorem d2_no (B Ib F x : Nat) (hd i : ByteArray) (ini : Bool) (f0 : Fr) (h1 : 1 < hd.size) (hk : gK hd[1].toNat = 0) (w : World) (ht : Field.Tab w) (hB : BdAt w B hd i x) (hI : w.cell? ⟨Ib, 0, none⟩ = some (.bool ini)) (hF : FrAt w F f0) :
    Calls Tryd.prog 67 #[ptr B, ptr Ib, ptr F] w fun e w' => e = .returned (.int .i64 30) ∧ Keeps B F w w' := by
  have C := Lib.hid (bframe_no hd i x ini h1 hk w ht)
  obtain ⟨j0, j1, j2, jf⟩ := hB.cells
  have HF := Lib.hid hF
  clear hk hB hF ht jf
  go_enter Tryd.func67, Tryd.ntmps67
  go_wp2_with (go_at_call 68; ((with_reducible refine C.out.mono ?_); rintro e w1 ⟨rfl, hb⟩; obtain ⟨k0, k1, k2, k3, k4, k5, k6⟩ := (HF.out.below hb).cells; have kf := (HF.out.below hb).free; have H1 := Lib.hid hb; clear hb))
  go_ret
  exact ⟨rfl, (Keeps.of H1.out).set7 _ _ _ _ _ _ _⟩
theorem d3 (F B x : Nat) (hd i : ByteArray) (f : Fr) (hl : hd.size + i.size ≤ maxLen) (w : World) (hu : Fcs.Tab w) (hB : BdAt w B hd i x) (hF : FrAt w F f) :
    Calls Tryd.prog 69 #[ptr F, ptr B] w fun e w' => e = .returned (.bool ((Fcs.sum (ckB f.k hd i).data.toList : Int) == (x : Int))) ∧ Below w.heap.size w w' := by
  obtain ⟨j0, j1, j2, jf⟩ := hB.cells
  obtain ⟨k0, k1, k2, k3, k4, k5, k6⟩ := hF.cells
  have HL := Lib.hid hl
  have HC : Hid ((ckB f.k hd i).size ≤ maxLen) := Lib.hid (by unfold ckB; split <;> (try simp only [ByteArray.size_append]) <;> omega)
  have HU : Hid (∀ n, Fcs.Tab (w.drewN n)) := Lib.hid (fun n => Fcs.tab_below hu (below_drewN (Below.refl _ _) n))
  clear hB hF hl hu k0 k1 k3 k4 k5 k6 jf
  go_enter Tryd.func69, Tryd.ntmps69
  go_wp2
  go_quiet ((first | (go_at_call 35; exact quiet_left (checked _ _ _ HL.out _)) | (go_at_call 34; exact quiet_left (Fcs.fsum _ HC.out _ (HU.out _)))))
  go_wp2
  go_ret
  exact ⟨rfl, below_drewN (Below.refl _ _) _⟩
end Go.Proofs.YthlciaomfpephaaDoor.Basic
