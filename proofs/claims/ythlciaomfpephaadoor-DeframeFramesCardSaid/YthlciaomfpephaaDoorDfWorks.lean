/-
  The chapter's examples of layer 6 hold. Condition: the tables of layers 1 and 3 lie where the program lays them.
  The law's examples (works) hold: the walk. Condition: the tables of layers 1 and 3 lie where the program lays them.
-/
import Derived.Test.YthlciaomfpephaaDoorDfRuns
namespace Go.Proofs.YthlciaomfpephaaDoor.Df
open Go.RowKit Go.Proofs.YthlciaomfpephaaDoor.Base Go.Proofs.YthlciaomfpephaaDoor.Ea Go.Proofs.YthlciaomfpephaaDoor.Field Go.Proofs.YthlciaomfpephaaDoor.Basic Go.Proofs.YthlciaomfpephaaDoor.Adv
def C0 : Cf := ⟨false, true, 31⟩
def s0 : Fr := ⟨0, true, 1, true, 0, 0, ⟨#[]⟩⟩
def s1 : Fr := ⟨1, true, 1, true, 0, 0, ⟨#[]⟩⟩
theorem i29 : IsB ⟨#[3, 63, 1, 29]⟩ 3 63 29 ⟨#[]⟩ := ⟨by decide, by decide, by decide, by decide, by decide, bext (by decide +kernel)⟩
/-- Decode's answers of the examples' bodies. -/
theorem in_s0 : s0.In := ⟨by decide, by decide, by decide, by decide⟩
theorem in_s1 : s1.In := ⟨by decide, by decide, by decide, by decide⟩
/-- Answers of which one more is named. -/
theorem decs_put {c : Cf} {dec : List UInt8 → Fr × Nat} (hd : Decs c dec) (l0 : List UInt8) (a : Fr × Nat) (h : DecX c l0 a ∧ Told c l0 a) : ∃ d, Decs c d ∧ d l0 = a ∧ ∀ l, l ≠ l0 → d l = dec l := by
  refine ⟨fun l => if l = l0 then a else dec l, fun l hl => ?_, if_pos rfl, fun l hl => if_neg hl⟩
  by_cases e : l = l0
  · subst e
    simp only [if_true]
    exact h
  · simp only [if_neg e]
    exact hd l hl
theorem decs_w : ∃ dec, Decs C0 dec ∧ dec [3, 63, 1, 28] = (s0, 0) ∧ dec [7, 63, 1, 222] = (s1, 0) ∧ dec [3, 63, 1, 29] = (fr0, 41) := by
  obtain ⟨d, hd⟩ := decs_ex C0
  have e0 : encX C0.adv s0 C0.ini C0.room = 0 := by decide +kernel
  have e1 : encX C0.adv s1 C0.ini C0.room = 0 := by decide +kernel
  have l0 : innX C0.adv s0 C0.ini = [3, 63, 1, 28] := by decide +kernel
  have l1 : innX C0.adv s1 C0.ini = [7, 63, 1, 222] := by decide +kernel
  have p0 := decX_enc C0 s0 e0 (by rw [l0]; decide)
  have p1 := decX_enc C0 s1 e1 (by rw [l1]; decide)
  rw [l0] at p0
  rw [l1] at p1
  have p2 : DecX C0 [3, 63, 1, 29] (fr0, 41) := fun w ht => by
    have e : dE 3 63 29 ⟨#[]⟩ true 31 = 41 := by decide +kernel
    have r := Basic.fdec_bad i29 (by decide) true 31 w ht (by rw [e]; decide)
    rw [e] at r
    exact r
  obtain ⟨d0, h0, a0, b0⟩ := decs_put hd [3, 63, 1, 28] (s0, 0) ⟨p0, fun _ => ⟨in_s0, e0, l0⟩⟩
  obtain ⟨d1, h1, a1, b1⟩ := decs_put h0 [7, 63, 1, 222] (s1, 0) ⟨p1, fun _ => ⟨in_s1, e1, l1⟩⟩
  obtain ⟨d2, h2, a2, b2⟩ := decs_put h1 [3, 63, 1, 29] (fr0, 41) ⟨p2, fun k => absurd k (by decide)⟩
  exact ⟨d2, h2, by rw [b2 _ (by decide), b1 _ (by decide), a0], by rw [b2 _ (by decide), a1], a2⟩
section
variable {dec : List UInt8 → Fr × Nat}
theorem w_run1 (h : dec [3, 63, 1, 28] = (s0, 0)) : run C0 dec ⟨⟨0, [], 0, 0⟩, [], false⟩ [0, 249, 3, 63, 1, 28, 249] = ⟨⟨2, [], 0, 0⟩, [s0], true⟩ := by
  have s : step C0 dec ⟨6, [3, 63, 1, 28], 0, 0⟩ 249 = (⟨2, [], 0, 0⟩, some s0) := by
    show judge C0 ⟨6, [3, 63, 1, 28], 0, 0⟩ (dec [3, 63, 1, 28]) = _
    rw [h]; rfl
  have e : run C0 dec ⟨⟨0, [], 0, 0⟩, [], false⟩ [0, 249, 3, 63, 1, 28] = ⟨⟨6, [3, 63, 1, 28], 0, 0⟩, [], false⟩ := by kernel_rfl
  rw [show ([0, 249, 3, 63, 1, 28, 249] : List UInt8) = [0, 249, 3, 63, 1, 28] ++ [249] from rfl, run_app, e]
  exact run_end (r := ⟨⟨6, [3, 63, 1, 28], 0, 0⟩, [], false⟩) s
theorem w_run2 (h : dec [3, 63, 1, 28] = (s0, 0)) (h1 : dec [7, 63, 1, 222] = (s1, 0)) : run C0 dec ⟨⟨0, [], 0, 0⟩, [], false⟩ [249, 3, 63, 1, 28, 249, 7, 63, 1, 222, 249] = ⟨⟨2, [], 0, 0⟩, [s0, s1], true⟩ := by
  have s : step C0 dec ⟨6, [3, 63, 1, 28], 0, 0⟩ 249 = (⟨2, [], 0, 0⟩, some s0) := by
    show judge C0 ⟨6, [3, 63, 1, 28], 0, 0⟩ (dec [3, 63, 1, 28]) = _
    rw [h]; rfl
  have s' : step C0 dec ⟨6, [7, 63, 1, 222], 0, 0⟩ 249 = (⟨2, [], 0, 0⟩, some s1) := by
    show judge C0 ⟨6, [7, 63, 1, 222], 0, 0⟩ (dec [7, 63, 1, 222]) = _
    rw [h1]; rfl
  have e : run C0 dec ⟨⟨0, [], 0, 0⟩, [], false⟩ [249, 3, 63, 1, 28] = ⟨⟨6, [3, 63, 1, 28], 0, 0⟩, [], false⟩ := by kernel_rfl
  have e' : run C0 dec ⟨⟨2, [], 0, 0⟩, [s0], true⟩ [7, 63, 1, 222] = ⟨⟨6, [7, 63, 1, 222], 0, 0⟩, [s0], false⟩ := by kernel_rfl
  rw [show ([249, 3, 63, 1, 28, 249, 7, 63, 1, 222, 249] : List UInt8) = (([249, 3, 63, 1, 28] ++ [249]) ++ [7, 63, 1, 222]) ++ [249] from rfl, run_app, run_app, run_app, e, run_end (r := ⟨⟨6, [3, 63, 1, 28], 0, 0⟩, [], false⟩) s]
  show run C0 dec (run C0 dec ⟨⟨2, [], 0, 0⟩, [s0], true⟩ [7, 63, 1, 222]) [249] = _
  rw [e']
  exact run_end (r := ⟨⟨6, [7, 63, 1, 222], 0, 0⟩, [s0], false⟩) s'
theorem w_run3 (h : dec [3, 63, 1, 29] = (fr0, 41)) : run C0 dec ⟨⟨0, [], 0, 0⟩, [], false⟩ [249, 3, 63, 1, 29, 249] = ⟨⟨2, [], 0, 1⟩, [], false⟩ := by
  have s : step C0 dec ⟨6, [3, 63, 1, 29], 0, 0⟩ 249 = (⟨2, [], 0, 1⟩, none) := by
    show judge C0 ⟨6, [3, 63, 1, 29], 0, 0⟩ (dec [3, 63, 1, 29]) = _
    rw [h]; rfl
  have e : run C0 dec ⟨⟨0, [], 0, 0⟩, [], false⟩ [249, 3, 63, 1, 29] = ⟨⟨6, [3, 63, 1, 29], 0, 0⟩, [], false⟩ := by kernel_rfl
  rw [show ([249, 3, 63, 1, 29, 249] : List UInt8) = [249, 3, 63, 1, 29] ++ [249] from rfl, run_app, e]
  exact run_one (r := ⟨⟨6, [3, 63, 1, 29], 0, 0⟩, [], false⟩) (l := []) s
theorem w_run4 : run C0 dec ⟨⟨2, [], 0, 1⟩, [], false⟩ [249, 2, 3, 249] = ⟨⟨2, [], 0, 2⟩, [], false⟩ := by kernel_rfl
end
theorem Kp.belowB {D B : Nat} {r : Option Nat} {w w' : World} (h : Kp D r w w') (hD : B ≤ D) (hr : ∀ k, r = some k → B ≤ k) (hB : B ≤ w.heap.size) : Below B w w' :=
  ⟨h.os, h.tape, h.output, h.size, fun k hk => h.block k (by omega) (by omega) (fun e => by have := hr k e.symm; omega)⟩
/-- Another deframer, that has gathered nothing in memory yet, stays as it was. -/
theorem DfAt.other {w w' : World} {D E : Nat} {c : Cf} {q : St} {r : Option Nat} (h : DfAt w E c q (.slice none 0 0)) (hk : Kp D r w w') (hD : E ≠ D) (hr : some E ≠ r) : DfAt w' E c q (.slice none 0 0) := by
  refine ⟨hk.at h.blk hD hr, ?_⟩
  rcases h.own.shape with ⟨_, e⟩ | ⟨g, cap, e, _⟩
  · rw [e]; exact own_nil _ _
  · cases e
theorem good_new {c : Cf} (h : c.room ≤ 128) : Good c ⟨0, [], 0, 0⟩ := ⟨h, show 0 ≤ 300 by decide⟩
/-- A frame lies in a block from an offset on. -/
def RowAt (w : World) (g o : Nat) (f : Fr) : Prop := w.cell? ⟨g, o, none⟩ = some (.int .u8 (f.d : Int)) ∧ w.cell? ⟨g, o + 1, none⟩ = some (.bool f.c) ∧ w.cell? ⟨g, o + 2, none⟩ = some (.int .u8 (f.k : Int)) ∧ w.cell? ⟨g, o + 3, none⟩ = some (.bool f.pf) ∧ w.cell? ⟨g, o + 4, none⟩ = some (.int .u8 (f.ns : Int)) ∧ w.cell? ⟨g, o + 5, none⟩ = some (.int .u8 (f.nr : Int)) ∧ w.cell? ⟨g, o + 6, none⟩ = some (.string f.info)
theorem RowAt.move {w w' : World} {g o : Nat} {f : Fr} (h : RowAt w g o f) (e : w'.heap[g]? = w.heap[g]?) : RowAt w' g o f := by
  have hc : ∀ i, w'.cell? ⟨g, i, none⟩ = w.cell? ⟨g, i, none⟩ := fun i => World.cell?_of_block (a := ⟨g, i, none⟩) e
  unfold RowAt
  rw [hc, hc, hc, hc, hc, hc, hc]
  exact h
/-- What lies in a slice of frames. -/
theorem OwnF.row {w : World} {base g n cap : Nat} {l : List Fr} (h : OwnF w base (.slice (some ⟨g, 0, none⟩) n cap) l) (k : Nat) (f : Fr) (hk : l[k]? = some f) : RowAt w g (7 * k) f :=
  ⟨h.cell k f hk 0 (by decide), h.cell k f hk 1 (by decide), h.cell k f hk 2 (by decide), h.cell k f hk 3 (by decide), h.cell k f hk 4 (by decide), h.cell k f hk 5 (by decide), h.cell k f hk 6 (by decide)⟩
theorem OwnF.some {w : World} {base : Nat} {v : Value} {l : List Fr} (h : OwnF w base v l) (n : Nat) (hn : l.length = n) (hl : l ≠ []) : ∃ g cap, v = .slice (some ⟨g, 0, Option.none⟩) n cap ∧ base ≤ g ∧ g < w.heap.size := by
  subst hn
  rcases h.shape with ⟨_, e⟩ | ⟨g, cap, rfl, hb⟩
  · exact absurd e hl
  · exact ⟨g, cap, rfl, hb, (h.lt g rfl).2⟩
theorem OwnF.none {w : World} {base : Nat} {v : Value} (h : OwnF w base v []) : ∃ a cap, v = .slice a 0 cap := by
  rcases h.shape with ⟨rfl, _⟩ | ⟨g, cap, rfl, _⟩
  · exact ⟨Option.none, 0, rfl⟩
  · exact ⟨_, cap, rfl⟩
theorem fnew0 (w : World) : Calls Tryd.prog 7 #[.bool false, .bool true, .int .i64 31] w fun e w' => e = .returned (ptr w.heap.size) ∧ DfAt w' w.heap.size C0 ⟨0, [], 0, 0⟩ (.slice Option.none 0 0) ∧ Below w.heap.size w w' := fnew false true 31 w
abbrev nilV : Value := .slice Option.none 0 0
theorem feed1 {dec : List UInt8 → Fr × Nat} (hd : ∀ l, l.length ≤ 300 → DecX C0 l (dec l)) (h0 : dec [3, 63, 1, 28] = (s0, 0)) (w : World) (D : Nat) (v : Value) (h : DfAt w D C0 ⟨0, [], 0, 0⟩ v) (ht : TabsB w D) :
    Calls Tryd.prog 9 #[ptr D, .string ⟨#[0, 249, 3, 63, 1, 28, 249]⟩] w fun e w' => ∃ t, e = .returned (.tuple #[t, .bool true]) ∧ Fed D C0 w v ⟨⟨2, [], 0, 0⟩, [s0], true⟩ t w' := by
  have p := ffeeds w D C0 _ v ⟨#[0, 249, 3, 63, 1, 28, 249]⟩ h (good_new (by decide)) (by decide) ht (by decide) dec hd
  unfold feedsP at p
  rw [show (⟨#[0, 249, 3, 63, 1, 28, 249]⟩ : ByteArray).data.toList = [0, 249, 3, 63, 1, 28, 249] from rfl, w_run1 h0] at p
  exact p
theorem feed2 {dec : List UInt8 → Fr × Nat} (hd : ∀ l, l.length ≤ 300 → DecX C0 l (dec l)) (h0 : dec [3, 63, 1, 28] = (s0, 0)) (h1 : dec [7, 63, 1, 222] = (s1, 0)) (w : World) (D : Nat) (v : Value) (h : DfAt w D C0 ⟨0, [], 0, 0⟩ v) (ht : TabsB w D) :
    Calls Tryd.prog 9 #[ptr D, .string ⟨#[249, 3, 63, 1, 28, 249, 7, 63, 1, 222, 249]⟩] w fun e w' => ∃ t, e = .returned (.tuple #[t, .bool true]) ∧ Fed D C0 w v ⟨⟨2, [], 0, 0⟩, [s0, s1], true⟩ t w' := by
  have p := ffeeds w D C0 _ v ⟨#[249, 3, 63, 1, 28, 249, 7, 63, 1, 222, 249]⟩ h (good_new (by decide)) (by decide) ht (by decide) dec hd
  unfold feedsP at p
  rw [show (⟨#[249, 3, 63, 1, 28, 249, 7, 63, 1, 222, 249]⟩ : ByteArray).data.toList = [249, 3, 63, 1, 28, 249, 7, 63, 1, 222, 249] from rfl, w_run2 h0 h1] at p
  exact p
theorem feed3 {dec : List UInt8 → Fr × Nat} (hd : ∀ l, l.length ≤ 300 → DecX C0 l (dec l)) (h2 : dec [3, 63, 1, 29] = (fr0, 41)) (w : World) (D : Nat) (v : Value) (h : DfAt w D C0 ⟨0, [], 0, 0⟩ v) (ht : TabsB w D) :
    Calls Tryd.prog 9 #[ptr D, .string ⟨#[249, 3, 63, 1, 29, 249]⟩] w fun e w' => ∃ t, e = .returned (.tuple #[t, .bool false]) ∧ Fed D C0 w v ⟨⟨2, [], 0, 1⟩, [], false⟩ t w' := by
  have p := ffeeds w D C0 _ v ⟨#[249, 3, 63, 1, 29, 249]⟩ h (good_new (by decide)) (by decide) ht (by decide) dec hd
  unfold feedsP at p
  rw [show (⟨#[249, 3, 63, 1, 29, 249]⟩ : ByteArray).data.toList = [249, 3, 63, 1, 29, 249] from rfl, w_run3 h2] at p
  exact p
theorem feed4 {dec : List UInt8 → Fr × Nat} (hd : ∀ l, l.length ≤ 300 → DecX C0 l (dec l)) (w : World) (D : Nat) (v : Value) (h : DfAt w D C0 ⟨2, [], 0, 1⟩ v) (ht : TabsB w D) :
    Calls Tryd.prog 9 #[ptr D, .string ⟨#[249, 2, 3, 249]⟩] w fun e w' => ∃ t, e = .returned (.tuple #[t, .bool false]) ∧ Fed D C0 w v ⟨⟨2, [], 0, 2⟩, [], false⟩ t w' := by
  have p := ffeeds w D C0 _ v ⟨#[249, 2, 3, 249]⟩ h ⟨by decide, rfl, rfl⟩ (by decide) ht (by decide) dec hd
  unfold feedsP at p
  rw [show (⟨#[249, 2, 3, 249]⟩ : ByteArray).data.toList = [249, 2, 3, 249] from rfl, w_run4] at p
  exact p
theorem TabsB.next {w w' : World} {D E : Nat} (h : TabsB w D) (hb : Below D w w') (hE : D ≤ E) : TabsB w' E := ⟨h.on hb, Nat.lt_of_lt_of_le h.2.1 hE, Nat.lt_of_lt_of_le h.2.2 hE⟩
theorem RowAt.lit0 {w : World} {g o : Nat} (h : RowAt w g o s0) : w.cell? ⟨g, o, Option.none⟩ = Option.some (.int .u8 0) ∧ w.cell? ⟨g, o + 1, Option.none⟩ = Option.some (.bool true) ∧ w.cell? ⟨g, o + 2, Option.none⟩ = Option.some (.int .u8 1) ∧ w.cell? ⟨g, o + 3, Option.none⟩ = Option.some (.bool true) ∧ w.cell? ⟨g, o + 4, Option.none⟩ = Option.some (.int .u8 0) ∧ w.cell? ⟨g, o + 5, Option.none⟩ = Option.some (.int .u8 0) ∧ w.cell? ⟨g, o + 6, Option.none⟩ = Option.some (.string ⟨#[]⟩) := h
theorem RowAt.lit1 {w : World} {g o : Nat} (h : RowAt w g o s1) : w.cell? ⟨g, o, Option.none⟩ = Option.some (.int .u8 1) ∧ w.cell? ⟨g, o + 1, Option.none⟩ = Option.some (.bool true) ∧ w.cell? ⟨g, o + 2, Option.none⟩ = Option.some (.int .u8 1) ∧ w.cell? ⟨g, o + 3, Option.none⟩ = Option.some (.bool true) ∧ w.cell? ⟨g, o + 4, Option.none⟩ = Option.some (.int .u8 0) ∧ w.cell? ⟨g, o + 5, Option.none⟩ = Option.some (.int .u8 0) ∧ w.cell? ⟨g, o + 6, Option.none⟩ = Option.some (.string ⟨#[]⟩) := h
theorem eqS (w : World) : (binOp .neq 30 (.agg #[.int .u8 0, .bool true, .int .u8 1, .bool true, .int .u8 0, .int .u8 0, .string ⟨#[]⟩]) (.agg #[.int .u8 0, .bool true, .int .u8 1, .bool true, .int .u8 0, .int .u8 0, .string ⟨#[]⟩])).run Tryd.prog w = .ok (.bool false) w := neq_same s0 w
theorem eqT (w : World) : (binOp .eql 30 (.agg #[.int .u8 1, .bool true, .int .u8 1, .bool true, .int .u8 0, .int .u8 0, .string ⟨#[]⟩]) (.agg #[.int .u8 1, .bool true, .int .u8 1, .bool true, .int .u8 0, .int .u8 0, .string ⟨#[]⟩])).run Tryd.prog w = .ok (.bool true) w := eql_same s1 w
theorem Raw.kp {w w' : World} {D E : Nat} {c : Cf} {m left bad : Nat} {v : Value} {r : Option Nat} (h : Raw w D c m v left bad) (hk : Kp E r w w') (hE : D ≠ E) (hr : ∀ k, r = some k → D < k) : Raw w' D c m v left bad :=
  hk.at h hE (fun e => by have := hr D e.symm; omega)
theorem Raw.on {w w' : World} {D : Nat} {c : Cf} {m left bad : Nat} {v : Value} (h : Raw w D c m v left bad) (hb : Below w.heap.size w w') : Raw w' D c m v left bad := stays h hb
set_option maxHeartbeats 1000000 in
theorem fbadR (w : World) (D : Nat) (c : Cf) (m : Nat) (v : Value) (left bad : Nat) (h : Raw w D c m v left bad) :
    Calls Tryd.prog 10 #[ptr D] w fun e w' => e = .returned (.int .i64 (bad : Int)) ∧ w = w' := by
  have g6 : w.cell? ⟨D, 6, none⟩ = some (.int .i64 (bad : Int)) := cell_of h rfl
  go_enter Tryd.func10, Tryd.ntmps10
  go_wp2
  go_ret
  exact ⟨rfl, rfl⟩
theorem RowAt.kp {w w' : World} {g o E : Nat} {f : Fr} {r : Option Nat} (h : RowAt w g o f) (hk : Kp E r w w') (hg : g < w.heap.size) (hE : g ≠ E) (hr : some g ≠ r) : RowAt w' g o f := h.move (hk.block g hg hE hr)
set_option maxHeartbeats 1000000 in
set_option maxRecDepth 100000 in
theorem works (w : World) (ht : Tabs w) :
    Calls Tryd.prog 6 #[] w fun e w' => e = .returned (.bool true) ∧ Below w.heap.size w w' := by
  obtain ⟨dec, hd, d0, d1, d2⟩ := decs_w
  have HT := Lib.hid ht
  have HP := tabs_pos ht
  have HD : Hid (∀ l, l.length ≤ 300 → DecX C0 l (dec l)) := Lib.hid (fun l hl => (hd l hl).1)
  have HD0 := Lib.hid d0
  have HD1 := Lib.hid d1
  have HD2 := Lib.hid d2
  clear ht hd d0 d1 d2
  go_enter Tryd.func6, Tryd.ntmps6
  go_wp2_with fail
  refine (fnew0 _).mono ?_
  rintro e w1 ⟨rfl, ha1, hb1⟩
  have HA1 := Lib.hid ha1
  have HB1 := Lib.hid hb1
  have hl1 := ha1.lt
  clear ha1 hb1
  go_wp2_with fail
  refine (fnew0 _).mono ?_
  rintro e w2 ⟨rfl, ha2, hb2⟩
  have HA2 := Lib.hid ha2
  have HB2 := Lib.hid hb2
  have hl2 := ha2.lt
  clear ha2 hb2
  go_wp2_with fail
  refine (fnew0 _).mono ?_
  rintro e w3 ⟨rfl, ha3, hb3⟩
  have HA3 := Lib.hid ha3
  have HB3 := Lib.hid hb3
  have hl3 := ha3.lt
  clear ha3 hb3
  have HTB : Hid (TabsB w3 w.heap.size) := Lib.hid ⟨tabs_below HT.out (below_on' HB1.out (below_on' HB2.out HB3.out)), HP.1, HP.2⟩
  go_wp2_with fail
  refine (feed1 HD.out HD0.out w3 w.heap.size nilV ((HA1.out.below HB2.out).below HB3.out) HTB.out).mono ?_
  rintro e w4 ⟨t1, rfl, hf⟩
  obtain ⟨g1, c1, rfl, x1, x2⟩ := hf.out.some 1 rfl (by simp)
  have KA : Hid (Kp w.heap.size none w3 w4) := Lib.hid hf.kp
  have R1 : Hid (RowAt w4 g1 0 s0) := Lib.hid (hf.out.row 0 s0 rfl)
  obtain ⟨va, ha4, -, -⟩ := hf.at'
  have RA : Hid (Raw w4 w.heap.size C0 2 va 0 0) := Lib.hid ha4.blk
  have l4 := KA.out.size
  have HB4 : Hid (TabsB w4 w1.heap.size) := Lib.hid (HTB.out.next (KA.out.belowD (fun k h => by cases h) (by omega)) (by omega))
  have DB : Hid (DfAt w4 w1.heap.size C0 ⟨0, [], 0, 0⟩ nilV) := Lib.hid ((HA2.out.below HB3.out).other KA.out (by omega) (by simp))
  have DC : Hid (DfAt w4 w2.heap.size C0 ⟨0, [], 0, 0⟩ nilV) := Lib.hid (HA3.out.other KA.out (by omega) (by simp))
  clear hf ha4
  go_wp2_with fail
  refine (feed2 HD.out HD0.out HD1.out w4 w1.heap.size nilV DB.out HB4.out).mono ?_
  rintro e w5 ⟨t2, rfl, hf⟩
  obtain ⟨g2, c2, rfl, y1, y2⟩ := hf.out.some 2 rfl (by simp)
  have KB : Hid (Kp w1.heap.size none w4 w5) := Lib.hid hf.kp
  have R2 : Hid (RowAt w5 g2 0 s0) := Lib.hid (hf.out.row 0 s0 rfl)
  have R3 : Hid (RowAt w5 g2 7 s1) := Lib.hid (hf.out.row 1 s1 rfl)
  obtain ⟨vb, hb5, -, -⟩ := hf.at'
  have RB : Hid (Raw w5 w1.heap.size C0 2 vb 0 0) := Lib.hid hb5.blk
  have l5 := KB.out.size
  have HB5 : Hid (TabsB w5 w2.heap.size) := Lib.hid (HB4.out.next (KB.out.belowD (fun k h => by cases h) (by omega)) (by omega))
  have DC5 : Hid (DfAt w5 w2.heap.size C0 ⟨0, [], 0, 0⟩ nilV) := Lib.hid (DC.out.other KB.out (by omega) (by simp))
  have RA5 : Hid (Raw w5 w.heap.size C0 2 va 0 0) := Lib.hid (RA.out.kp KB.out (by omega) (fun k h => by cases h))
  have R15 : Hid (RowAt w5 g1 0 s0) := Lib.hid (R1.out.kp KB.out (by omega) (by omega) (by simp))
  clear hf hb5
  go_wp2_with fail
  refine (feed3 HD.out HD2.out w5 w2.heap.size nilV DC5.out HB5.out).mono ?_
  rintro e w6 ⟨t3, rfl, hf⟩
  obtain ⟨a3, c3, rfl⟩ := hf.out.none
  have KC : Hid (Kp w2.heap.size none w5 w6) := Lib.hid hf.kp
  obtain ⟨vc, hc6, hlc, -⟩ := hf.at'
  have LC : Hid (∀ k, vc.ownBlock = some k → w5.heap.size ≤ k) := Lib.hid (by
    rcases hlc with h | h
    · intro k hk; rw [h] at hk; cases hk
    · exact h)
  have DC6 := Lib.hid hc6
  have l6 := KC.out.size
  have HB6 : Hid (TabsB w6 w2.heap.size) := Lib.hid (HB5.out.next (KC.out.belowD (fun k h => by cases h) (by omega)) (by omega))
  have RA6 : Hid (Raw w6 w.heap.size C0 2 va 0 0) := Lib.hid (RA5.out.kp KC.out (by omega) (fun k h => by cases h))
  have RB6 : Hid (Raw w6 w1.heap.size C0 2 vb 0 0) := Lib.hid (RB.out.kp KC.out (by omega) (fun k h => by cases h))
  have R16 : Hid (RowAt w6 g1 0 s0) := Lib.hid (R15.out.kp KC.out (by omega) (by omega) (by simp))
  have R26 : Hid (RowAt w6 g2 0 s0) := Lib.hid (R2.out.kp KC.out (by omega) (by omega) (by simp))
  have R36 : Hid (RowAt w6 g2 7 s1) := Lib.hid (R3.out.kp KC.out (by omega) (by omega) (by simp))
  clear hf hc6 hlc
  go_wp2_with fail
  refine (feed4 HD.out w6 w2.heap.size vc DC6.out HB6.out).mono ?_
  rintro e w7 ⟨t4, rfl, hf⟩
  obtain ⟨a4, c4, rfl⟩ := hf.out.none
  have KD : Hid (Kp w2.heap.size vc.ownBlock w6 w7) := Lib.hid hf.kp
  obtain ⟨vd, hd7, -, -⟩ := hf.at'
  have RC7 : Hid (Raw w7 w2.heap.size C0 2 vd 0 2) := Lib.hid hd7.blk
  have l7 := KD.out.size
  have NE : Hid (∀ k, k < w5.heap.size → some k ≠ vc.ownBlock) := Lib.hid (fun k hk e => by have := LC.out k e.symm; omega)
  have RA7 : Hid (Raw w7 w.heap.size C0 2 va 0 0) := Lib.hid (KD.out.at RA6.out (by omega) (NE.out _ (by omega)))
  have RB7 : Hid (Raw w7 w1.heap.size C0 2 vb 0 0) := Lib.hid (KD.out.at RB6.out (by omega) (NE.out _ (by omega)))
  obtain ⟨p0, p1, p2, p3, p4, p5, p6⟩ := (R16.out.kp KD.out (by omega) (by omega) (NE.out _ (by omega))).lit0
  obtain ⟨q0, q1, q2, q3, q4, q5, q6⟩ := (R26.out.kp KD.out (by omega) (by omega) (NE.out _ (by omega))).lit0
  have R37 := Lib.hid (R36.out.kp KD.out (by omega) (by omega) (NE.out _ (by omega)))
  have HW : Hid (Below w.heap.size w w7) := Lib.hid ((below_on' HB1.out (below_on' HB2.out HB3.out)).trans ((KA.out.belowB (B := w.heap.size) (Nat.le_refl _) (fun k h => by cases h) (by omega)).trans ((KB.out.belowB (B := w.heap.size) (by omega) (fun k h => by cases h) (by omega)).trans ((KC.out.belowB (B := w.heap.size) (by omega) (fun k h => by cases h) (by omega)).trans (KD.out.belowB (B := w.heap.size) (by omega) (fun k h => by have := LC.out k h; omega) (by omega))))))
  have z1 : g1 < w7.heap.size := by omega
  have z2 : g2 < w7.heap.size := by omega
  clear hf hd7
  have BA : Hid (∀ o n, Calls Tryd.prog 10 #[ptr w.heap.size] ((w7.alloc o).drewN n) fun e w' => e = .returned (.int .i64 0) ∧ (w7.alloc o).drewN n = w') := Lib.hid (fun o n => fbadR _ w.heap.size C0 2 _ 0 0 (RA7.out.on ((Below.refl _ _).alloc (Nat.le_refl _) o) : Raw (w7.alloc o) _ _ _ _ _ _))
  have BB : Hid (∀ o n, Calls Tryd.prog 10 #[ptr w1.heap.size] ((w7.alloc o).drewN n) fun e w' => e = .returned (.int .i64 0) ∧ (w7.alloc o).drewN n = w') := Lib.hid (fun o n => fbadR _ w1.heap.size C0 2 _ 0 0 (RB7.out.on ((Below.refl _ _).alloc (Nat.le_refl _) o) : Raw (w7.alloc o) _ _ _ _ _ _))
  have BC : Hid (∀ o n, Calls Tryd.prog 10 #[ptr w2.heap.size] ((w7.alloc o).drewN n) fun e w' => e = .returned (.int .i64 2) ∧ (w7.alloc o).drewN n = w') := Lib.hid (fun o n => fbadR _ w2.heap.size C0 2 _ 0 2 (RC7.out.on ((Below.refl _ _).alloc (Nat.le_refl _) o) : Raw (w7.alloc o) _ _ _ _ _ _))
  have he := eqS
  have he2 := eqT
  have hg : Tryd.prog.eqGuardType Tryd.prog.depth 30 = false := by kernel_rfl
  go_wp2_with fail
  go_quiet ((first
    | (go_at_call 10; with_reducible exact quiet_left (BA.out _ _))
    | (go_at_call 10; with_reducible exact quiet_left (BB.out _ _))
    | (go_at_call 10; with_reducible exact quiet_left (BC.out _ _))))
  generalize hv : World.drewN _ nq = w8
  have HW8 : Hid (Below w.heap.size w w8) := Lib.hid (by rw [← hv]; exact below_drewN (HW.out.alloc HW.out.size _) _)
  have hs8 : w8.heap[w7.heap.size]? = some (.cells #[.int .u8 0, .bool true, .int .u8 1, .bool true, .int .u8 0, .int .u8 0, .string ⟨#[]⟩] 30) := by rw [← hv]; exact nest w7 [_] 0 _ rfl
  obtain ⟨r0, r1, r2, r3, r4, r5, r6⟩ := (R37.out.move (w' := w8) (by rw [← hv]; exact Below.heap_alloc _ _ _ z2)).lit1
  clear p0 p1 p2 p3 p4 p5 p6 q0 q1 q2 q3 q4 q5 q6 hv
  have k0 := cell_of (i := 0) hs8 rfl
  have k1 := cell_of (i := 1) hs8 rfl
  have k2 := cell_of (i := 2) hs8 rfl
  have k3 := cell_of (i := 3) hs8 rfl
  have k4 := cell_of (i := 4) hs8 rfl
  have k5 := cell_of (i := 5) hs8 rfl
  have k6 := cell_of (i := 6) hs8 rfl
  have kf : ∀ i, w8.frozen? ⟨w7.heap.size, i, none⟩ = false := fun _ => free_of hs8
  have n1 : ¬ g2 = w7.heap.size := by omega
  have n2 : ¬ w7.heap.size = g2 := by omega
  have HL7 : Hid (w.heap.size ≤ w7.heap.size) := Lib.hid (by omega)
  clear hs8
  go_wp2_with fail
  go_quiet (fail)
  go_wp2
  go_ret
  exact ⟨rfl, below_drewN (HW8.out.setCell HL7.out _) _⟩
end Go.Proofs.YthlciaomfpephaaDoor.Df
