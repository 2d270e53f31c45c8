/-
  Layer 22, put together: PnGet, PnRget, PnWorks (what each says stands ahead of it). Conditions: as each names them.
-/
import Derived.Test.YtakkhdammmcjcaaDoorB09
import Derived.StillTailTactics
import Derived.Deep.RegionHeld
/-
  What read and Get of layer 8 answer. Condition: none but what Put's contract asks.
-/
namespace Go.Proofs.YtakkhdammmcjcaaDoor.Pn
set_option maxRecDepth 20000
open Go.RowKit Go.Proofs.YtakkhdammmcjcaaDoor.Base Go.Proofs.YtakkhdammmcjcaaDoor.Mem
theorem at_string (s : ByteArray) (i : Nat) (h : i < s.size) (x : Int) (hx : x = (s[i].toNat : Int)) (W : World) :
    (Instr.index 9 (.string s) (.int .i64 (i : Int))).run Tryd.prog W = .ok (.int .u8 x) W := by
  rw [run_index_string W 9 s .i64 (i : Int) Tryd.underlying9, dif_pos (by omega)]
  simp [hx]
theorem read_results (tmps : Array Value) (W : World) (b : Nat) (p : Pr) (h : Cells W b p) (p2 : tmps[2]?.getD undef = ptr b) :
    (results Tryd.f77 tmps).run Tryd.prog W = .ok (pv p) W := by
  obtain ⟨g0, g1, g2, g3, g4, g5, g6, g7⟩ := h
  simp [results, Tryd.results77, go_sem, p2, g0, g1, g2, g3, g4, g5, g6, g7]
theorem fread_of (s : ByteArray) (x0 x1 x2 x3 x4 x5 x6 x7 : Int)
    (i0 : ∀ W, (Instr.index 9 (.string s) (.int .i64 0)).run Tryd.prog W = .ok (.int .u8 x0) W)
    (i1 : ∀ W, (Instr.index 9 (.string s) (.int .i64 1)).run Tryd.prog W = .ok (.int .u8 x1) W)
    (i2 : ∀ W, (Instr.index 9 (.string s) (.int .i64 2)).run Tryd.prog W = .ok (.int .u8 x2) W)
    (i3 : ∀ W, (Instr.index 9 (.string s) (.int .i64 3)).run Tryd.prog W = .ok (.int .u8 x3) W)
    (i4 : ∀ W, (Instr.index 9 (.string s) (.int .i64 4)).run Tryd.prog W = .ok (.int .u8 x4) W)
    (i5 : ∀ W, (Instr.index 9 (.string s) (.int .i64 5)).run Tryd.prog W = .ok (.int .u8 x5) W)
    (i6 : ∀ W, (Instr.index 9 (.string s) (.int .i64 6)).run Tryd.prog W = .ok (.int .u8 x6) W)
    (i7 : ∀ W, (Instr.index 9 (.string s) (.int .i64 7)).run Tryd.prog W = .ok (.int .u8 x7) W)
    (h1 : 0 ≤ x1) (k1 : x1 < 256) (h3 : 0 ≤ x3) (k3 : x3 < 256) (h4 : 0 ≤ x4) (k4 : x4 < 256) (h5 : 0 ≤ x5) (k5 : x5 < 256) (h6 : 0 ≤ x6) (k6 : x6 < 256) (h7 : 0 ≤ x7) (k7 : x7 < 256) (w : World) :
    Calls Tryd.prog 77 #[.string s] w fun x w' => x = .returned (pv ⟨x0, x1 % 16, x1 / 16, x2, x3, x4 + 256 * x5, x6, x7⟩) ∧ Below w.heap.size w w' := by
  have q1 : x1.tmod 16 = x1 % 16 := Int.tmod_eq_emod_of_nonneg h1
  have q2 : x1.tdiv 16 = x1 / 16 := Int.tdiv_eq_ediv_of_nonneg h1
  go_enter Tryd.func77, Tryd.ntmps77
  go_wp2
  have HB0 : Hid (Below w.heap.size w (w.alloc (noO 23))) := Lib.hid (nest_below w [_])
  have hp : (w.alloc (noO 23)).heap[w.heap.size]? = some (noO 23) := nest w [_] 0 _ rfl
  generalize w.alloc (noO 23) = W at *
  have HB1 : Hid (Below w.heap.size w W.drew) := Lib.hid HB0.out.drew
  have hq : W.drew.heap[w.heap.size]? = some (noO 23) := hp
  go_still_tail 28, (by kernel_rfl)
  change wpList _ _ _ _ _ W.drew
  generalize W.drew = w2 at *
  obtain ⟨f0, f1, f2, f3, f4, f5, f6, f7⟩ := no_frees hq
  obtain ⟨g0, g1, g2, g3, g4, g5, g6, g7⟩ := no_cells hq
  have HQ := Lib.hid hq
  clear hq hp
  go_wp2
  exact bodyPost_ret (read_results _ _ w.heap.size ⟨x0, x1 % 16, x1 / 16, x2, x3, x4 + 256 * x5, x6, x7⟩ (cells_of (set8_at HQ.out _ _ _ _ _ _ _ _)) rfl) rfl ⟨rfl, set8 HB1.out (Nat.le_refl _) _ _ _ _ _ _ _ _⟩
theorem fread (s : ByteArray) (h : 8 ≤ s.size) (w : World) :
    Calls Tryd.prog 77 #[.string s] w fun x w' => x = .returned (pv (read s h)) ∧ Below w.heap.size w w' := by
  have b0 := oct_lt s[0]
  have b1 := oct_lt s[1]
  have b2 := oct_lt s[2]
  have b3 := oct_lt s[3]
  have b4 := oct_lt s[4]
  have b5 := oct_lt s[5]
  have b6 := oct_lt s[6]
  have b7 := oct_lt s[7]
  exact fread_of s _ _ _ _ _ _ _ _ (at_string s 0 (by omega) _ rfl) (at_string s 1 (by omega) _ rfl) (at_string s 2 (by omega) _ rfl) (at_string s 3 (by omega) _ rfl) (at_string s 4 (by omega) _ rfl) (at_string s 5 (by omega) _ rfl) (at_string s 6 (by omega) _ rfl) (at_string s 7 (by omega) _ rfl) (by omega) (by omega) (by omega) (by omega) (by omega) (by omega) (by omega) (by omega) (by omega) (by omega) (by omega) (by omega) w
theorem get_results (tmps : Array Value) (W : World) (b : Nat) (p : Pr) (e : Int) (h : Cells W b p) (p2 : tmps[2]?.getD undef = ptr b) (p3 : tmps[3]?.getD undef = .int .i64 e) :
    (results Tryd.f69 tmps).run Tryd.prog W = .ok (.tuple #[pv p, .int .i64 e]) W := by
  obtain ⟨g0, g1, g2, g3, g4, g5, g6, g7⟩ := h
  simp [results, Tryd.results69, go_sem, p2, p3, g0, g1, g2, g3, g4, g5, g6, g7]
theorem fget_short (s : ByteArray) (h : s.size < 8) (w : World) :
    Calls Tryd.prog 69 #[.string s] w fun x w' => x = .returned (.tuple #[pv zero, .int .i64 20]) ∧ Below w.heap.size w w' := by
  have h' : (s.size : Int) < 8 := by omega
  go_enter Tryd.func69, Tryd.ntmps69
  go_wp2
  exact bodyPost_ret (get_results _ _ w.heap.size zero 20 (cells_of (nest w [_] 0 _ rfl)) rfl rfl) rfl ⟨rfl, nest_below w [_]⟩
theorem fget_bad (s : ByteArray) (h : 8 ≤ s.size) (p : Pr)  (CR : ∀ w, Calls Tryd.prog 77 #[.string s] w fun x w' => x = .returned (pv p) ∧ Below w.heap.size w w')
    (CP : ∀ w, Calls Tryd.prog 47 #[pv p] w fun x w' => x = .returned (.tuple #[.string ⟨#[]⟩, .int .i64 2]) ∧ Below w.heap.size w w') (w : World) :
    Calls Tryd.prog 69 #[.string s] w fun x w' => x = .returned (.tuple #[pv zero, .int .i64 70]) ∧ Below w.heap.size w w' := by
  have h' : ¬ (s.size : Int) < 8 := by omega
  skip
  have CRh := Lib.hid CR
  have CPh := Lib.hid CP
  clear CR CP h
  go_enter Tryd.func69, Tryd.ntmps69
  go_wp2_with (first
    | (go_at_call 77; ((with_reducible refine (CRh.out _).mono ?_); rintro e w1 ⟨rfl, hb⟩; have HF := Lib.hid (fresh hb); have HB := Lib.hid (on_new (Below.refl _ _) hb); have hlt : w.heap.size < w1.heap.size := lt_heap HF.out; clear hb))
    | (go_at_call 47; ((with_reducible refine (CPh.out _).mono ?_); rintro e w2 ⟨rfl, hb⟩; have HF2 := Lib.hid (stays HF.out (on_new (Below.refl _ _) hb)); have HG := Lib.hid (fresh hb); have HB2 := Lib.hid (on_new HB.out hb); obtain ⟨f0, f1, f2, f3, f4, f5, f6, f7⟩ := no_frees HF2.out; obtain ⟨g0, g1, g2, g3, g4, g5, g6, g7⟩ := no_cells HF2.out; obtain ⟨c0, c1, c2, c3, c4, c5, c6, c7⟩ := cells_of (p := p) HG.out; clear hb)))
  exact bodyPost_ret (get_results _ _ w.heap.size zero 70 (cells_of (set8_at HF2.out _ _ _ _ _ _ _ _)) rfl rfl) rfl ⟨rfl, set8 HB2.out (Nat.le_refl _) _ _ _ _ _ _ _ _⟩
theorem fget_long (s : ByteArray) (h : 8 ≤ s.size) (p : Pr) (S : ByteArray) (hS : S ≠ s) (CR : ∀ w, Calls Tryd.prog 77 #[.string s] w fun x w' => x = .returned (pv p) ∧ Below w.heap.size w w')
    (CP : ∀ w, Calls Tryd.prog 47 #[pv p] w fun x w' => x = .returned (.tuple #[.string S, .int .i64 0]) ∧ Below w.heap.size w w') (w : World) :
    Calls Tryd.prog 69 #[.string s] w fun x w' => x = .returned (.tuple #[pv zero, .int .i64 70]) ∧ Below w.heap.size w w' := by
  have h' : ¬ (s.size : Int) < 8 := by omega
  have hq : (S.toList == s.toList) = false := ne_list hS
  clear hS
  have CRh := Lib.hid CR
  have CPh := Lib.hid CP
  clear CR CP h
  go_enter Tryd.func69, Tryd.ntmps69
  go_wp2_with (first
    | (go_at_call 77; ((with_reducible refine (CRh.out _).mono ?_); rintro e w1 ⟨rfl, hb⟩; have HF := Lib.hid (fresh hb); have HB := Lib.hid (on_new (Below.refl _ _) hb); have hlt : w.heap.size < w1.heap.size := lt_heap HF.out; clear hb))
    | (go_at_call 47; ((with_reducible refine (CPh.out _).mono ?_); rintro e w2 ⟨rfl, hb⟩; have HF2 := Lib.hid (stays HF.out (on_new (Below.refl _ _) hb)); have HG := Lib.hid (fresh hb); have HB2 := Lib.hid (on_new HB.out hb); obtain ⟨f0, f1, f2, f3, f4, f5, f6, f7⟩ := no_frees HF2.out; obtain ⟨g0, g1, g2, g3, g4, g5, g6, g7⟩ := no_cells HF2.out; obtain ⟨c0, c1, c2, c3, c4, c5, c6, c7⟩ := cells_of (p := p) HG.out; clear hb)))
  exact bodyPost_ret (get_results _ _ w.heap.size zero 70 (cells_of (set8_at HF2.out _ _ _ _ _ _ _ _)) rfl rfl) rfl ⟨rfl, set8 HB2.out (Nat.le_refl _) _ _ _ _ _ _ _ _⟩
theorem fget_ok (s : ByteArray) (h : 8 ≤ s.size) (p : Pr)  (CR : ∀ w, Calls Tryd.prog 77 #[.string s] w fun x w' => x = .returned (pv p) ∧ Below w.heap.size w w')
    (CP : ∀ w, Calls Tryd.prog 47 #[pv p] w fun x w' => x = .returned (.tuple #[.string s, .int .i64 0]) ∧ Below w.heap.size w w') (w : World) :
    Calls Tryd.prog 69 #[.string s] w fun x w' => x = .returned (.tuple #[pv p, .int .i64 0]) ∧ Below w.heap.size w w' := by
  have h' : ¬ (s.size : Int) < 8 := by omega
  skip
  have CRh := Lib.hid CR
  have CPh := Lib.hid CP
  clear CR CP h
  go_enter Tryd.func69, Tryd.ntmps69
  go_wp2_with (first
    | (go_at_call 77; ((with_reducible refine (CRh.out _).mono ?_); rintro e w1 ⟨rfl, hb⟩; have HF := Lib.hid (fresh hb); have HB := Lib.hid (on_new (Below.refl _ _) hb); have hlt : w.heap.size < w1.heap.size := lt_heap HF.out; clear hb))
    | (go_at_call 47; ((with_reducible refine (CPh.out _).mono ?_); rintro e w2 ⟨rfl, hb⟩; have HF2 := Lib.hid (stays HF.out (on_new (Below.refl _ _) hb)); have HG := Lib.hid (fresh hb); have HB2 := Lib.hid (on_new HB.out hb); obtain ⟨f0, f1, f2, f3, f4, f5, f6, f7⟩ := no_frees HF2.out; obtain ⟨g0, g1, g2, g3, g4, g5, g6, g7⟩ := no_cells HF2.out; obtain ⟨c0, c1, c2, c3, c4, c5, c6, c7⟩ := cells_of (p := p) HG.out; clear hb)))
  exact bodyPost_ret (get_results _ _ w.heap.size p 0 (cells_of (set8_at HF2.out _ _ _ _ _ _ _ _)) rfl rfl) rfl ⟨rfl, set8 HB2.out (Nat.le_refl _) _ _ _ _ _ _ _ _⟩
theorem fget (s : ByteArray) (w : World) :
    Calls Tryd.prog 69 #[.string s] w fun x w' => x = .returned (.tuple #[pv (gotP s), .int .i64 (gotE s)]) ∧ Below w.heap.size w w' := by
  rcases Nat.lt_or_ge s.size 8 with h | h
  · obtain ⟨e1, e2⟩ := got_short h
    rw [e1, e2]; exact fget_short s h w
  have CR := fun w => fread s h w
  have hin := read_in s h
  cases hm : may (read s h)
  · obtain ⟨e1, e2⟩ := got_no h (.inr hm)
    rw [e1, e2]
    exact fget_bad s h _ CR (fput_no _ (fun w => by have := fmay (read s h) w; rw [hm] at this; exact this)) w
  · have CP := fput_ok _ hin ((may_iff _).1 hm) (fun w => by have := fmay (read s h) w; rw [hm] at this; exact this)
    by_cases h8 : s.size = 8
    · obtain ⟨e1, e2⟩ := got_ok h h8 hm
      rw [octets_read_eq s h h8] at CP
      rw [e1, e2]; exact fget_ok s h _ CR CP w
    · obtain ⟨e1, e2⟩ := got_no h (.inl (by omega))
      rw [e1, e2]; exact fget_long s h _ _ (octets_read_ne s h (by omega)) CR CP w
end Go.Proofs.YtakkhdammmcjcaaDoor.Pn
/-
  What the document's own Get of layer 8 answers. No condition.
-/
namespace Go.Proofs.YtakkhdammmcjcaaDoor.Pn
open Go.RowKit Go.Proofs.YtakkhdammmcjcaaDoor.Base Go.Proofs.YtakkhdammmcjcaaDoor.Mem
end Go.Proofs.YtakkhdammmcjcaaDoor.Pn
/-
  What Lowers of layer 8 answers; the chapter's examples hold. No condition.
-/
namespace Go.Proofs.YtakkhdammmcjcaaDoor.Pn
open Go.RowKit Go.Proofs.YtakkhdammmcjcaaDoor.Base Go.Proofs.YtakkhdammmcjcaaDoor.Mem
theorem flowers (p a : Pr) (w : World) :
    Calls Tryd.prog 80 #[pv p, pv a] w fun x w' => x = .returned (.bool (lowers p a)) ∧ Below w.heap.size w w' := by
  have CB := Lib.hid (fun w => fagree p a w)
  have HE : ∀ w, (binOp .eql 23 (pv p) (pv (agree p a))).run Tryd.prog w = .ok (.bool (lowers p a)) w := fun w => by rw [run_eqP, lowers_agree]
  generalize agree p a = q at CB HE
  generalize lowers p a = b at HE
  go_enter Tryd.func80, Tryd.ntmps80
  go_wp2
  have HB0 : Hid (Below w.heap.size w ((w.alloc (pO p 23)).alloc (pO a 23))) := Lib.hid (nest_below w [pO p 23, pO a 23])
  have GS : Cells ((w.alloc (pO p 23)).alloc (pO a 23)) w.heap.size p := cells_of (nest w [_, _] 0 _ rfl)
  have GT : Cells ((w.alloc (pO p 23)).alloc (pO a 23)) (w.heap.size + 1) a := cells_of (nest w [_, _] 1 _ rfl)
  generalize (w.alloc (pO p 23)).alloc (pO a 23) = W at *
  obtain ⟨g0, g1, g2, g3, g4, g5, g6, g7⟩ := GS
  obtain ⟨j0, j1, j2, j3, j4, j5, j6, j7⟩ := GT
  go_region_held3 (fun w' => w'.cell? ⟨w.heap.size, 0, none⟩ = some (.int .u8 p.d) ∧ w'.cell? ⟨w.heap.size, 1, none⟩ = some (.int .u8 p.f) ∧ w'.cell? ⟨w.heap.size, 2, none⟩ = some (.int .u8 p.c) ∧ w'.cell? ⟨w.heap.size, 3, none⟩ = some (.int .u8 p.r) ∧ w'.cell? ⟨w.heap.size, 4, none⟩ = some (.int .i64 p.t) ∧ w'.cell? ⟨w.heap.size, 5, none⟩ = some (.int .i64 p.n) ∧ w'.cell? ⟨w.heap.size, 6, none⟩ = some (.int .i64 p.z) ∧ w'.cell? ⟨w.heap.size, 7, none⟩ = some (.int .i64 p.k) ∧ w'.cell? ⟨w.heap.size + 1, 0, none⟩ = some (.int .u8 a.d) ∧ w'.cell? ⟨w.heap.size + 1, 1, none⟩ = some (.int .u8 a.f) ∧ w'.cell? ⟨w.heap.size + 1, 2, none⟩ = some (.int .u8 a.c) ∧ w'.cell? ⟨w.heap.size + 1, 3, none⟩ = some (.int .u8 a.r) ∧ w'.cell? ⟨w.heap.size + 1, 4, none⟩ = some (.int .i64 a.t) ∧ w'.cell? ⟨w.heap.size + 1, 5, none⟩ = some (.int .i64 a.n) ∧ w'.cell? ⟨w.heap.size + 1, 6, none⟩ = some (.int .i64 a.z) ∧ w'.cell? ⟨w.heap.size + 1, 7, none⟩ = some (.int .i64 a.k) ∧ Below W.heap.size W w')
    (first | exact ⟨g0, g1, g2, g3, g4, g5, g6, g7, j0, j1, j2, j3, j4, j5, j6, j7, (Below.refl _ _).drew⟩ | exact ⟨cell_below g0 HB1.out, cell_below g1 HB1.out, cell_below g2 HB1.out, cell_below g3 HB1.out, cell_below g4 HB1.out, cell_below g5 HB1.out, cell_below g6 HB1.out, cell_below g7 HB1.out, cell_below j0 HB1.out, cell_below j1 HB1.out, cell_below j2 HB1.out, cell_below j3 HB1.out, cell_below j4 HB1.out, cell_below j5 HB1.out, cell_below j6 HB1.out, cell_below j7 HB1.out, HB1.out⟩)
    ((go_at_call 58; ((with_reducible refine (CB.out _).mono ?_); rintro e w1 ⟨rfl, hb⟩; have HB1 := Lib.hid (below_on ((Below.refl W.heap.size W).drew) hb); clear hb)))
  rename_i hX
  go_wp2
  go_ret
  exact ⟨rfl, below_on HB0.out hX.2.2.2.2.2.2.2.2.2.2.2.2.2.2.2.2⟩
theorem k1 (w : World) : Calls Tryd.prog 47 #[.agg #[.int .u8 5, .int .u8 2, .int .u8 3, .int .u8 7, .int .i64 10, .int .i64 300, .int .i64 3, .int .i64 2]] w fun e w' => e = .returned (.tuple #[.string ⟨#[5, 50, 7, 10, 44, 1, 3, 2]⟩, .int .i64 0]) ∧ Below w.heap.size w w' := by
  have h := fput ⟨5, 2, 3, 7, 10, 300, 3, 2⟩ (by refine ⟨?_, ?_, ?_, ?_⟩ <;> decide) w
  exact h
theorem k2 (w : World) : Calls Tryd.prog 69 #[.string ⟨#[5, 50, 7, 10, 44, 1, 3]⟩] w fun e w' => e = .returned (.tuple #[.agg #[.int .u8 0, .int .u8 0, .int .u8 0, .int .u8 0, .int .i64 0, .int .i64 0, .int .i64 0, .int .i64 0], .int .i64 20]) ∧ Below w.heap.size w w' := by
  have h := fget ⟨#[5, 50, 7, 10, 44, 1, 3]⟩ w
  obtain ⟨e1, e2⟩ := got_short (s := ⟨#[5, 50, 7, 10, 44, 1, 3]⟩) (by decide)
  rw [e1, e2] at h
  exact h
theorem k3 (w : World) : Calls Tryd.prog 69 #[.string ⟨#[5, 50, 7, 10, 44, 1, 3, 8]⟩] w fun e w' => e = .returned (.tuple #[.agg #[.int .u8 0, .int .u8 0, .int .u8 0, .int .u8 0, .int .i64 0, .int .i64 0, .int .i64 0, .int .i64 0], .int .i64 70]) ∧ Below w.heap.size w w' := by
  have h := fget ⟨#[5, 50, 7, 10, 44, 1, 3, 8]⟩ w
  obtain ⟨e1, e2⟩ := got_no (s := ⟨#[5, 50, 7, 10, 44, 1, 3, 8]⟩) (by decide) (.inr (by decide +kernel))
  rw [e1, e2] at h
  exact h
theorem k4 (w : World) : Calls Tryd.prog 58 #[.agg #[.int .u8 0, .int .u8 0, .int .u8 0, .int .u8 0, .int .i64 0, .int .i64 64, .int .i64 0, .int .i64 4], .agg #[.int .u8 5, .int .u8 2, .int .u8 3, .int .u8 7, .int .i64 10, .int .i64 300, .int .i64 3, .int .i64 2]] w fun e w' => e = .returned (.agg #[.int .u8 5, .int .u8 2, .int .u8 3, .int .u8 7, .int .i64 10, .int .i64 64, .int .i64 3, .int .i64 2]) ∧ Below w.heap.size w w' := fagree ⟨0, 0, 0, 0, 0, 64, 0, 4⟩ ⟨5, 2, 3, 7, 10, 300, 3, 2⟩ w
theorem k5 (w : World) : Calls Tryd.prog 80 #[.agg #[.int .u8 5, .int .u8 2, .int .u8 3, .int .u8 7, .int .i64 10, .int .i64 64, .int .i64 3, .int .i64 2], .agg #[.int .u8 5, .int .u8 2, .int .u8 3, .int .u8 7, .int .i64 10, .int .i64 300, .int .i64 3, .int .i64 2]] w fun e w' => e = .returned (.bool true) ∧ Below w.heap.size w w' := flowers ⟨5, 2, 3, 7, 10, 64, 3, 2⟩ ⟨5, 2, 3, 7, 10, 300, 3, 2⟩ w
theorem k6 (w : World) : Calls Tryd.prog 80 #[.agg #[.int .u8 5, .int .u8 2, .int .u8 3, .int .u8 7, .int .i64 10, .int .i64 300, .int .i64 3, .int .i64 2], .agg #[.int .u8 5, .int .u8 2, .int .u8 3, .int .u8 7, .int .i64 10, .int .i64 64, .int .i64 3, .int .i64 2]] w fun e w' => e = .returned (.bool false) ∧ Below w.heap.size w w' := flowers ⟨5, 2, 3, 7, 10, 300, 3, 2⟩ ⟨5, 2, 3, 7, 10, 64, 3, 2⟩ w
theorem k7 (w : World) : (binOp .eql 23 (.agg #[.int .u8 5, .int .u8 2, .int .u8 3, .int .u8 7, .int .i64 10, .int .i64 64, .int .i64 3, .int .i64 2]) (.agg #[.int .u8 5, .int .u8 2, .int .u8 3, .int .u8 7, .int .i64 10, .int .i64 64, .int .i64 3, .int .i64 2])).run Tryd.prog w = .ok (.bool true) w := (run_eqP ⟨5, 2, 3, 7, 10, 64, 3, 2⟩ ⟨5, 2, 3, 7, 10, 64, 3, 2⟩ w).trans (by rw [eqP_self])
end Go.Proofs.YtakkhdammmcjcaaDoor.Pn
