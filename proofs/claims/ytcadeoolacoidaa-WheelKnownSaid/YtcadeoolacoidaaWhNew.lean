/-
  A new wheel: no timer is set. Condition: 1 to 256 slots.
-/
import Derived.Test.YtcadeoolacoidaaWhSmall
import Derived.Laws.MakeOwn
import Derived.Laws.OwnMore
namespace Go.Proofs.Ytcadeoolacoidaa.Wh
open Go.RowKit Go.Proofs.Ytcadeoolacoidaa.Base Go.Proofs.Ytcadeoolacoidaa.Mem
theorem infoR : (Try.prog.info? 54).map (fun i => (i.zero, i.size, i.bytes)) = some (some (.slice none 0 0), 1, 24) := by kernel_rfl
theorem make_rows (n : Nat) (hn : n ≤ 256) (w : World) : ∃ cs : Array Value, (Instr.makeSlice 46 (.int .i64 (n : Int)) (.int .i64 (n : Int))).run Try.prog w = .ok (.slice (some ⟨w.heap.size, 0, none⟩) n n) (w.alloc (.cells cs 54)) ∧ cs.size = n ∧ ∀ s, s < n → cs[s]? = some (.slice none 0 0) := by
  obtain ⟨i, hi, hz0, hz1, hz2⟩ := info_parts infoR
  have h := run_make (P := Try.prog) w 46 54 i (.slice none 0 0) Try.underlying46 hi hz0 .i64 .i64 (n : Int) (n : Int) (by omega) (Int.le_refl _) (by rw [hz2]; omega) (by omega)
  rw [hz1] at h
  simp only [Int.toNat_natCast, Nat.mul_one] at h
  have e : (madeCells (Value.cells (.slice none 0 0)) n).toList = List.replicate n (.slice none 0 0) := by
    show (madeCells #[.slice none 0 0] n).toList = _
    rw [toList_madeCells_one]
  refine ⟨_, h, ?_, fun s hs => ?_⟩
  · rw [← Array.length_toList, e, List.length_replicate]
  · rw [← Array.getElem?_toList, e, List.getElem?_replicate, if_pos hs]
/-- What New leaves. -/
structure Made (w : World) (n : Nat) (w' : World) (pb rb mb : Nat) : Prop where
  hp : ∀ E sl ro, Hp w' pb n 0 rb mb (fun _ => .slice none 0 0) (fun _ => []) E sl ro [] n
  below : Below w.heap.size w w'
  new : w.heap.size ≤ pb ∧ w.heap.size ≤ rb ∧ w.heap.size ≤ mb
theorem made_of (w : World) (n : Nat) (cs : Array Value) (hsz : cs.size = n) (hget : ∀ s, s < n → cs[s]? = some (.slice none 0 0)) :
    Made w n (((w.alloc (.cells cs 54)).alloc (.map #[] 0)).alloc (.cells #[.slice (some ⟨w.heap.size, 0, none⟩) n n, .int .i64 0, .map (some (w.heap.size + 1))] 49)) (w.heap.size + 1 + 1) w.heap.size (w.heap.size + 1) := by
  have h0 := nest w [.cells cs 54, .map #[] 0, .cells #[.slice (some ⟨w.heap.size, 0, none⟩) n n, .int .i64 0, .map (some (w.heap.size + 1))] 49] 0 _ rfl
  have h1 := nest w [.cells cs 54, .map #[] 0, .cells #[.slice (some ⟨w.heap.size, 0, none⟩) n n, .int .i64 0, .map (some (w.heap.size + 1))] 49] 1 _ rfl
  have h2 := nest w [.cells cs 54, .map #[] 0, .cells #[.slice (some ⟨w.heap.size, 0, none⟩) n n, .int .i64 0, .map (some (w.heap.size + 1))] 49] 2 _ rfl
  have hb := nest_below w [.cells cs 54, .map #[] 0, .cells #[.slice (some ⟨w.heap.size, 0, none⟩) n n, .int .i64 0, .map (some (w.heap.size + 1))] 49]
  refine ⟨fun E sl ro => ⟨h2, ⟨cs, h0, hsz, hget⟩, ⟨⟨#[], 0, h1, rfl⟩, List.nodup_nil, fun k hk => by simp at hk⟩, fun k hk => by simp at hk, fun s hs hx => ownS_nil _ _, fun s s' hs hs' hne b hb => by cases hb⟩, hb, by omega, by omega, by omega⟩
set_option maxHeartbeats 2000000 in
theorem fnew (n : Nat) (h1 : 1 ≤ n) (hn : n ≤ 256) (w : World) :
    Calls Try.prog 8 #[nm n] w fun r w' => ∃ pb rb mb, r = .returned (ptr pb) ∧ Made w n w' pb rb mb := by
  have g1 : decide ((n : Int) < 1) = false := decide_eq_false (by omega)
  have g1n : ¬ (n : Int) < 1 := by omega
  have g1m : ¬ n < 1 := by omega
  have g2 : decide ((256 : Int) < (n : Int)) = false := decide_eq_false (by omega)
  have g2n : ¬ (256 : Int) < (n : Int) := by omega
  have hmk := make_rows n hn
  obtain ⟨cs, hcs, hsz, hget⟩ := hmk w
  have hmm : ∀ w : World, (Instr.makeMap 47 none).run Try.prog w = .ok (.map (some w.heap.size)) (w.alloc (.map #[] 0)) := fun w => run_makeMap _ w
  clear hmk
  have HG := Lib.hid (And.intro hsz hget)
  clear hsz hget
  go_enter Try.func8, Try.ntmps8
  go_wp2
  go_ret
  exact ⟨_, rfl, _, _, made_of w n cs HG.out.1 HG.out.2⟩
/-- A number of slots that is none: no wheel. -/
theorem fnew_bad (v : Int) (h : v < 1 ∨ 256 < v) (w : World) :
    Calls Try.prog 8 #[.int .i64 v] w fun r w' => r = .returned (.pointer none) ∧ w' = w := by
  by_cases h1 : v < 1
  · have g1 : decide (v < 1) = true := decide_eq_true h1
    go_enter Try.func8, Try.ntmps8
    go_wp2
    go_ret
    exact ⟨rfl, rfl⟩
  · have g1 : decide (v < 1) = false := decide_eq_false h1
    have h2 : 256 < v := by omega
    have g2 : decide (256 < v) = true := decide_eq_true h2
    go_enter Try.func8, Try.ntmps8
    go_wp2
    go_ret
    exact ⟨rfl, rfl⟩
end Go.Proofs.Ytcadeoolacoidaa.Wh
