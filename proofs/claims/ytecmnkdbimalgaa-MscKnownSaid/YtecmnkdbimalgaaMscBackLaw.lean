/-
  MscBack answers true for everything, and turns nothing that was there. No condition.
-/
import Derived.Test.YtecmnkdbimalgaaMscWorks
namespace Go.Proofs.Ytecmnkdbimalgaa.mscBack
open Go.RowKit Go.Proofs.Ytecmnkdbimalgaa.Base Go.Proofs.Ytecmnkdbimalgaa.Mem Go.Proofs.Ytecmnkdbimalgaa.Msc
set_option maxRecDepth 100000
theorem way_ok2_ok (s t y : St) (S T v : ByteArray) (hv : ¬ 50 < (v.size : Int))
    (C1 : (∀ w, Calls Try.prog 8 #[sv s] w fun x w' => x = .returned (.tuple #[.string S, .int .i64 0]) ∧ Below w.heap.size w w'))
    (C2 : (∀ w, Calls Try.prog 8 #[sv t] w fun x w' => x = .returned (.tuple #[.string T, .int .i64 0]) ∧ Below w.heap.size w w'))
    (C3 : (∀ w, Calls Try.prog 14 #[.string S] w fun x w' => x = .returned (.tuple #[sv s, .int .i64 0]) ∧ Below w.heap.size w w'))
    (C4 : (∀ w, Calls Try.prog 14 #[.string v] w fun x w' => x = .returned (.tuple #[sv y, .int .i64 0]) ∧ Below w.heap.size w w'))
    (C5 : (∀ w, Calls Try.prog 8 #[sv y] w fun x w' => x = .returned (.tuple #[.string v, .int .i64 0]) ∧ Below w.heap.size w w'))
    (X : Bool) (hX : (S.toList == T.toList) = X) (hX2 : eqS s t = X) (w : World) :
    Calls Try.prog 5 #[sv s, sv t, .string v] w fun e w' => e = .returned (.bool true) ∧ Below w.heap.size w w' := by
  have HC1 := Lib.hid C1
  have HC2 := Lib.hid C2
  have HC3 := Lib.hid C3
  have HC4 := Lib.hid C4
  have HC5 := Lib.hid C5
  have HW := Lib.hid (fun w => works w)
  have HN : ∀ w, (binOp .neq 23 (sv s) (sv s)).run Try.prog w = .ok (.bool false) w := fun w => by rw [run_neS, eqS_self]; rfl
  have HE : ∀ w, (binOp .eql 23 (sv s) (sv t)).run Try.prog w = .ok (.bool X) w := fun w => by rw [run_eqS, hX2]
  clear hX2
  clear C1 C2 C3 C4 C5
  go_enter Try.func5, Try.ntmps5
  go_wp2_with (first
    | (go_at_call 8; ((with_reducible refine (HC1.out _).mono ?_); rintro e w1 ⟨rfl, hb⟩; have HB1 : Hid (Below w.heap.size w w1) := Lib.hid (below_on (nest_below w [_, _]) hb); have FS1 : Hid (w1.heap[w.heap.size]? = some (sO s 23)) := Lib.hid (stays (nest w [sO s 23, sO t 23] 0 _ rfl) hb); have FT1 : Hid (w1.heap[w.heap.size + 1]? = some (sO t 23)) := Lib.hid (stays (nest w [sO s 23, sO t 23] 1 _ rfl) hb); obtain ⟨j0, j1, j2, j3, j4, j5, j6, j7⟩ := cells_of FT1.out; clear hb))
    | (go_at_call 8; ((with_reducible refine (HC2.out _).mono ?_); rintro e w2 ⟨rfl, hb⟩; have HB2 : Hid (Below w.heap.size w w2) := Lib.hid (below_on HB1.out hb); have FS2 := Lib.hid (stays FS1.out hb); have FT2 := Lib.hid (stays FT1.out hb); clear j0 j1 j2 j3 j4 j5 j6 j7; clear hb))
    | (go_at_call 14; ((with_reducible refine (HC3.out _).mono ?_); rintro e w3 ⟨rfl, hb⟩; have HB3 : Hid (Below w.heap.size w w3) := Lib.hid (below_on HB2.out hb); have FS3 := Lib.hid (stays FS2.out hb); have FT3 := Lib.hid (stays FT2.out hb); have hl1 := lt_heap FS3.out; have hl2 := lt_heap FT3.out; obtain ⟨j0, j1, j2, j3, j4, j5, j6, j7⟩ := cells_of FT3.out; obtain ⟨k0, k1, k2, k3, k4, k5, k6, k7⟩ := cells_of FS3.out; clear hb))
    | (go_at_call 14; ((with_reducible refine (HC4.out _).mono ?_); rintro e w4 ⟨rfl, hb⟩; have HB4 : Hid (Below w.heap.size w w4) := Lib.hid (on_new HB3.out hb); clear j0 j1 j2 j3 j4 j5 j6 j7 k0 k1 k2 k3 k4 k5 k6 k7 hl1 hl2; clear hb))
    | (go_at_call 8; ((with_reducible refine (HC5.out _).mono ?_); rintro e w5 ⟨rfl, hb⟩; have HB5 : Hid (Below w.heap.size w w5) := Lib.hid (on_new HB4.out hb); clear hb))
    | (go_at_call 13; ((with_reducible refine (HW.out _).mono ?_); rintro e w6 ⟨rfl, hb⟩; have HB6 : Hid (Below w.heap.size w w6) := Lib.hid (below_on HB5.out hb); clear hb)))
  go_ret
  exact ⟨rfl, HB6.out⟩
theorem way_ok2_bad (s t : St) (S T v : ByteArray) (g : Int) (hv : ¬ 50 < (v.size : Int))
    (C1 : (∀ w, Calls Try.prog 8 #[sv s] w fun x w' => x = .returned (.tuple #[.string S, .int .i64 0]) ∧ Below w.heap.size w w'))
    (C2 : (∀ w, Calls Try.prog 8 #[sv t] w fun x w' => x = .returned (.tuple #[.string T, .int .i64 0]) ∧ Below w.heap.size w w'))
    (C3 : (∀ w, Calls Try.prog 14 #[.string S] w fun x w' => x = .returned (.tuple #[sv s, .int .i64 0]) ∧ Below w.heap.size w w'))
    (C4 : (∀ w, Calls Try.prog 14 #[.string v] w fun x w' => x = .returned (.tuple #[noV, .int .i64 g]) ∧ Below w.heap.size w w')) (hg : ((g : Int) != 0) = true)
    (X : Bool) (hX : (S.toList == T.toList) = X) (hX2 : eqS s t = X) (w : World) :
    Calls Try.prog 5 #[sv s, sv t, .string v] w fun e w' => e = .returned (.bool true) ∧ Below w.heap.size w w' := by
  have HC1 := Lib.hid C1
  have HC2 := Lib.hid C2
  have HC3 := Lib.hid C3
  have HC4 := Lib.hid C4
  have HW := Lib.hid (fun w => works w)
  have HN : ∀ w, (binOp .neq 23 (sv s) (sv s)).run Try.prog w = .ok (.bool false) w := fun w => by rw [run_neS, eqS_self]; rfl
  have HE : ∀ w, (binOp .eql 23 (sv s) (sv t)).run Try.prog w = .ok (.bool X) w := fun w => by rw [run_eqS, hX2]
  clear hX2
  have HZ : ∀ w, (binOp .eql 23 noV noV).run Try.prog w = .ok (.bool true) w := fun w => (run_eqS zero zero w).trans (by rw [eqS_self])
  clear C1 C2 C3 C4
  go_enter Try.func5, Try.ntmps5
  go_wp2_with (first
    | (go_at_call 8; ((with_reducible refine (HC1.out _).mono ?_); rintro e w1 ⟨rfl, hb⟩; have HB1 : Hid (Below w.heap.size w w1) := Lib.hid (below_on (nest_below w [_, _]) hb); have FS1 : Hid (w1.heap[w.heap.size]? = some (sO s 23)) := Lib.hid (stays (nest w [sO s 23, sO t 23] 0 _ rfl) hb); have FT1 : Hid (w1.heap[w.heap.size + 1]? = some (sO t 23)) := Lib.hid (stays (nest w [sO s 23, sO t 23] 1 _ rfl) hb); obtain ⟨j0, j1, j2, j3, j4, j5, j6, j7⟩ := cells_of FT1.out; clear hb))
    | (go_at_call 8; ((with_reducible refine (HC2.out _).mono ?_); rintro e w2 ⟨rfl, hb⟩; have HB2 : Hid (Below w.heap.size w w2) := Lib.hid (below_on HB1.out hb); have FS2 := Lib.hid (stays FS1.out hb); have FT2 := Lib.hid (stays FT1.out hb); clear j0 j1 j2 j3 j4 j5 j6 j7; clear hb))
    | (go_at_call 14; ((with_reducible refine (HC3.out _).mono ?_); rintro e w3 ⟨rfl, hb⟩; have HB3 : Hid (Below w.heap.size w w3) := Lib.hid (below_on HB2.out hb); have FS3 := Lib.hid (stays FS2.out hb); have FT3 := Lib.hid (stays FT2.out hb); have hl1 := lt_heap FS3.out; have hl2 := lt_heap FT3.out; obtain ⟨j0, j1, j2, j3, j4, j5, j6, j7⟩ := cells_of FT3.out; obtain ⟨k0, k1, k2, k3, k4, k5, k6, k7⟩ := cells_of FS3.out; clear hb))
    | (go_at_call 14; ((with_reducible refine (HC4.out _).mono ?_); rintro e w4 ⟨rfl, hb⟩; have HB4 : Hid (Below w.heap.size w w4) := Lib.hid (on_new HB3.out hb); clear j0 j1 j2 j3 j4 j5 j6 j7 k0 k1 k2 k3 k4 k5 k6 k7 hl1 hl2; clear hb))
    | (go_at_call 13; ((with_reducible refine (HW.out _).mono ?_); rintro e w6 ⟨rfl, hb⟩; have HB6 : Hid (Below w.heap.size w w6) := Lib.hid (on_new HB4.out hb); clear hb)))
  go_ret
  exact ⟨rfl, HB6.out⟩
theorem way_ok1_ok (s t y : St) (S T v : ByteArray) (hv : ¬ 50 < (v.size : Int))
    (C1 : (∀ w, Calls Try.prog 8 #[sv s] w fun x w' => x = .returned (.tuple #[.string S, .int .i64 0]) ∧ Below w.heap.size w w'))
    (C2 : (∀ w, Calls Try.prog 8 #[sv t] w fun x w' => x = .returned (.tuple #[.string T, .int .i64 2]) ∧ Below w.heap.size w w'))
    (C3 : (∀ w, Calls Try.prog 14 #[.string S] w fun x w' => x = .returned (.tuple #[sv s, .int .i64 0]) ∧ Below w.heap.size w w'))
    (C4 : (∀ w, Calls Try.prog 14 #[.string v] w fun x w' => x = .returned (.tuple #[sv y, .int .i64 0]) ∧ Below w.heap.size w w'))
    (C5 : (∀ w, Calls Try.prog 8 #[sv y] w fun x w' => x = .returned (.tuple #[.string v, .int .i64 0]) ∧ Below w.heap.size w w')) (w : World) :
    Calls Try.prog 5 #[sv s, sv t, .string v] w fun e w' => e = .returned (.bool true) ∧ Below w.heap.size w w' := by
  have HC1 := Lib.hid C1
  have HC2 := Lib.hid C2
  have HC3 := Lib.hid C3
  have HC4 := Lib.hid C4
  have HC5 := Lib.hid C5
  have HW := Lib.hid (fun w => works w)
  have HN : ∀ w, (binOp .neq 23 (sv s) (sv s)).run Try.prog w = .ok (.bool false) w := fun w => by rw [run_neS, eqS_self]; rfl
  clear C1 C2 C3 C4 C5
  go_enter Try.func5, Try.ntmps5
  go_wp2_with (first
    | (go_at_call 8; ((with_reducible refine (HC1.out _).mono ?_); rintro e w1 ⟨rfl, hb⟩; have HB1 : Hid (Below w.heap.size w w1) := Lib.hid (below_on (nest_below w [_, _]) hb); have FS1 : Hid (w1.heap[w.heap.size]? = some (sO s 23)) := Lib.hid (stays (nest w [sO s 23, sO t 23] 0 _ rfl) hb); have FT1 : Hid (w1.heap[w.heap.size + 1]? = some (sO t 23)) := Lib.hid (stays (nest w [sO s 23, sO t 23] 1 _ rfl) hb); obtain ⟨j0, j1, j2, j3, j4, j5, j6, j7⟩ := cells_of FT1.out; clear hb))
    | (go_at_call 8; ((with_reducible refine (HC2.out _).mono ?_); rintro e w2 ⟨rfl, hb⟩; have HB2 : Hid (Below w.heap.size w w2) := Lib.hid (below_on HB1.out hb); have FS2 := Lib.hid (stays FS1.out hb); have FT2 := Lib.hid (stays FT1.out hb); clear j0 j1 j2 j3 j4 j5 j6 j7; clear hb))
    | (go_at_call 14; ((with_reducible refine (HC3.out _).mono ?_); rintro e w3 ⟨rfl, hb⟩; have HB3 : Hid (Below w.heap.size w w3) := Lib.hid (below_on HB2.out hb); have FS3 := Lib.hid (stays FS2.out hb); have FT3 := Lib.hid (stays FT2.out hb); have hl1 := lt_heap FS3.out; have hl2 := lt_heap FT3.out; obtain ⟨j0, j1, j2, j3, j4, j5, j6, j7⟩ := cells_of FT3.out; obtain ⟨k0, k1, k2, k3, k4, k5, k6, k7⟩ := cells_of FS3.out; clear hb))
    | (go_at_call 14; ((with_reducible refine (HC4.out _).mono ?_); rintro e w4 ⟨rfl, hb⟩; have HB4 : Hid (Below w.heap.size w w4) := Lib.hid (on_new HB3.out hb); clear j0 j1 j2 j3 j4 j5 j6 j7 k0 k1 k2 k3 k4 k5 k6 k7 hl1 hl2; clear hb))
    | (go_at_call 8; ((with_reducible refine (HC5.out _).mono ?_); rintro e w5 ⟨rfl, hb⟩; have HB5 : Hid (Below w.heap.size w w5) := Lib.hid (on_new HB4.out hb); clear hb))
    | (go_at_call 13; ((with_reducible refine (HW.out _).mono ?_); rintro e w6 ⟨rfl, hb⟩; have HB6 : Hid (Below w.heap.size w w6) := Lib.hid (below_on HB5.out hb); clear hb)))
  go_ret
  exact ⟨rfl, HB6.out⟩
theorem way_ok1_bad (s t : St) (S T v : ByteArray) (g : Int) (hv : ¬ 50 < (v.size : Int))
    (C1 : (∀ w, Calls Try.prog 8 #[sv s] w fun x w' => x = .returned (.tuple #[.string S, .int .i64 0]) ∧ Below w.heap.size w w'))
    (C2 : (∀ w, Calls Try.prog 8 #[sv t] w fun x w' => x = .returned (.tuple #[.string T, .int .i64 2]) ∧ Below w.heap.size w w'))
    (C3 : (∀ w, Calls Try.prog 14 #[.string S] w fun x w' => x = .returned (.tuple #[sv s, .int .i64 0]) ∧ Below w.heap.size w w'))
    (C4 : (∀ w, Calls Try.prog 14 #[.string v] w fun x w' => x = .returned (.tuple #[noV, .int .i64 g]) ∧ Below w.heap.size w w')) (hg : ((g : Int) != 0) = true) (w : World) :
    Calls Try.prog 5 #[sv s, sv t, .string v] w fun e w' => e = .returned (.bool true) ∧ Below w.heap.size w w' := by
  have HC1 := Lib.hid C1
  have HC2 := Lib.hid C2
  have HC3 := Lib.hid C3
  have HC4 := Lib.hid C4
  have HW := Lib.hid (fun w => works w)
  have HN : ∀ w, (binOp .neq 23 (sv s) (sv s)).run Try.prog w = .ok (.bool false) w := fun w => by rw [run_neS, eqS_self]; rfl
  have HZ : ∀ w, (binOp .eql 23 noV noV).run Try.prog w = .ok (.bool true) w := fun w => (run_eqS zero zero w).trans (by rw [eqS_self])
  clear C1 C2 C3 C4
  go_enter Try.func5, Try.ntmps5
  go_wp2_with (first
    | (go_at_call 8; ((with_reducible refine (HC1.out _).mono ?_); rintro e w1 ⟨rfl, hb⟩; have HB1 : Hid (Below w.heap.size w w1) := Lib.hid (below_on (nest_below w [_, _]) hb); have FS1 : Hid (w1.heap[w.heap.size]? = some (sO s 23)) := Lib.hid (stays (nest w [sO s 23, sO t 23] 0 _ rfl) hb); have FT1 : Hid (w1.heap[w.heap.size + 1]? = some (sO t 23)) := Lib.hid (stays (nest w [sO s 23, sO t 23] 1 _ rfl) hb); obtain ⟨j0, j1, j2, j3, j4, j5, j6, j7⟩ := cells_of FT1.out; clear hb))
    | (go_at_call 8; ((with_reducible refine (HC2.out _).mono ?_); rintro e w2 ⟨rfl, hb⟩; have HB2 : Hid (Below w.heap.size w w2) := Lib.hid (below_on HB1.out hb); have FS2 := Lib.hid (stays FS1.out hb); have FT2 := Lib.hid (stays FT1.out hb); clear j0 j1 j2 j3 j4 j5 j6 j7; clear hb))
    | (go_at_call 14; ((with_reducible refine (HC3.out _).mono ?_); rintro e w3 ⟨rfl, hb⟩; have HB3 : Hid (Below w.heap.size w w3) := Lib.hid (below_on HB2.out hb); have FS3 := Lib.hid (stays FS2.out hb); have FT3 := Lib.hid (stays FT2.out hb); have hl1 := lt_heap FS3.out; have hl2 := lt_heap FT3.out; obtain ⟨j0, j1, j2, j3, j4, j5, j6, j7⟩ := cells_of FT3.out; obtain ⟨k0, k1, k2, k3, k4, k5, k6, k7⟩ := cells_of FS3.out; clear hb))
    | (go_at_call 14; ((with_reducible refine (HC4.out _).mono ?_); rintro e w4 ⟨rfl, hb⟩; have HB4 : Hid (Below w.heap.size w w4) := Lib.hid (on_new HB3.out hb); clear j0 j1 j2 j3 j4 j5 j6 j7 k0 k1 k2 k3 k4 k5 k6 k7 hl1 hl2; clear hb))
    | (go_at_call 13; ((with_reducible refine (HW.out _).mono ?_); rintro e w6 ⟨rfl, hb⟩; have HB6 : Hid (Below w.heap.size w w6) := Lib.hid (on_new HB4.out hb); clear hb)))
  go_ret
  exact ⟨rfl, HB6.out⟩
theorem way_no_ok (s t y : St) (S T v : ByteArray) (F : Int) (hv : ¬ 50 < (v.size : Int))
    (C1 : (∀ w, Calls Try.prog 8 #[sv s] w fun x w' => x = .returned (.tuple #[.string S, .int .i64 2]) ∧ Below w.heap.size w w'))
    (C2 : (∀ w, Calls Try.prog 8 #[sv t] w fun x w' => x = .returned (.tuple #[.string T, .int .i64 F]) ∧ Below w.heap.size w w'))
    (C4 : (∀ w, Calls Try.prog 14 #[.string v] w fun x w' => x = .returned (.tuple #[sv y, .int .i64 0]) ∧ Below w.heap.size w w'))
    (C5 : (∀ w, Calls Try.prog 8 #[sv y] w fun x w' => x = .returned (.tuple #[.string v, .int .i64 0]) ∧ Below w.heap.size w w')) (w : World) :
    Calls Try.prog 5 #[sv s, sv t, .string v] w fun e w' => e = .returned (.bool true) ∧ Below w.heap.size w w' := by
  have HC1 := Lib.hid C1
  have HC2 := Lib.hid C2
  have HC4 := Lib.hid C4
  have HC5 := Lib.hid C5
  have HW := Lib.hid (fun w => works w)
  clear C1 C2 C4 C5
  go_enter Try.func5, Try.ntmps5
  go_wp2_with (first
    | (go_at_call 8; ((with_reducible refine (HC1.out _).mono ?_); rintro e w1 ⟨rfl, hb⟩; have HB1 : Hid (Below w.heap.size w w1) := Lib.hid (below_on (nest_below w [_, _]) hb); have FS1 : Hid (w1.heap[w.heap.size]? = some (sO s 23)) := Lib.hid (stays (nest w [sO s 23, sO t 23] 0 _ rfl) hb); have FT1 : Hid (w1.heap[w.heap.size + 1]? = some (sO t 23)) := Lib.hid (stays (nest w [sO s 23, sO t 23] 1 _ rfl) hb); obtain ⟨j0, j1, j2, j3, j4, j5, j6, j7⟩ := cells_of FT1.out; clear hb))
    | (go_at_call 8; ((with_reducible refine (HC2.out _).mono ?_); rintro e w2 ⟨rfl, hb⟩; have HB2 : Hid (Below w.heap.size w w2) := Lib.hid (below_on HB1.out hb); have FS2 := Lib.hid (stays FS1.out hb); have FT2 := Lib.hid (stays FT1.out hb); clear j0 j1 j2 j3 j4 j5 j6 j7; clear hb))
    | (go_at_call 14; ((with_reducible refine (HC4.out _).mono ?_); rintro e w4 ⟨rfl, hb⟩; have HB4 : Hid (Below w.heap.size w w4) := Lib.hid (below_on HB2.out hb); clear hb))
    | (go_at_call 8; ((with_reducible refine (HC5.out _).mono ?_); rintro e w5 ⟨rfl, hb⟩; have HB5 : Hid (Below w.heap.size w w5) := Lib.hid (on_new HB4.out hb); clear hb))
    | (go_at_call 13; ((with_reducible refine (HW.out _).mono ?_); rintro e w6 ⟨rfl, hb⟩; have HB6 : Hid (Below w.heap.size w w6) := Lib.hid (below_on HB5.out hb); clear hb)))
  go_ret
  exact ⟨rfl, HB6.out⟩
theorem way_no_bad (s t : St) (S T v : ByteArray) (F : Int) (g : Int) (hv : ¬ 50 < (v.size : Int))
    (C1 : (∀ w, Calls Try.prog 8 #[sv s] w fun x w' => x = .returned (.tuple #[.string S, .int .i64 2]) ∧ Below w.heap.size w w'))
    (C2 : (∀ w, Calls Try.prog 8 #[sv t] w fun x w' => x = .returned (.tuple #[.string T, .int .i64 F]) ∧ Below w.heap.size w w'))
    (C4 : (∀ w, Calls Try.prog 14 #[.string v] w fun x w' => x = .returned (.tuple #[noV, .int .i64 g]) ∧ Below w.heap.size w w')) (hg : ((g : Int) != 0) = true) (w : World) :
    Calls Try.prog 5 #[sv s, sv t, .string v] w fun e w' => e = .returned (.bool true) ∧ Below w.heap.size w w' := by
  have HC1 := Lib.hid C1
  have HC2 := Lib.hid C2
  have HC4 := Lib.hid C4
  have HW := Lib.hid (fun w => works w)
  have HZ : ∀ w, (binOp .eql 23 noV noV).run Try.prog w = .ok (.bool true) w := fun w => (run_eqS zero zero w).trans (by rw [eqS_self])
  clear C1 C2 C4
  go_enter Try.func5, Try.ntmps5
  go_wp2_with (first
    | (go_at_call 8; ((with_reducible refine (HC1.out _).mono ?_); rintro e w1 ⟨rfl, hb⟩; have HB1 : Hid (Below w.heap.size w w1) := Lib.hid (below_on (nest_below w [_, _]) hb); have FS1 : Hid (w1.heap[w.heap.size]? = some (sO s 23)) := Lib.hid (stays (nest w [sO s 23, sO t 23] 0 _ rfl) hb); have FT1 : Hid (w1.heap[w.heap.size + 1]? = some (sO t 23)) := Lib.hid (stays (nest w [sO s 23, sO t 23] 1 _ rfl) hb); obtain ⟨j0, j1, j2, j3, j4, j5, j6, j7⟩ := cells_of FT1.out; clear hb))
    | (go_at_call 8; ((with_reducible refine (HC2.out _).mono ?_); rintro e w2 ⟨rfl, hb⟩; have HB2 : Hid (Below w.heap.size w w2) := Lib.hid (below_on HB1.out hb); have FS2 := Lib.hid (stays FS1.out hb); have FT2 := Lib.hid (stays FT1.out hb); clear j0 j1 j2 j3 j4 j5 j6 j7; clear hb))
    | (go_at_call 14; ((with_reducible refine (HC4.out _).mono ?_); rintro e w4 ⟨rfl, hb⟩; have HB4 : Hid (Below w.heap.size w w4) := Lib.hid (below_on HB2.out hb); clear hb))
    | (go_at_call 13; ((with_reducible refine (HW.out _).mono ?_); rintro e w6 ⟨rfl, hb⟩; have HB6 : Hid (Below w.heap.size w w6) := Lib.hid (on_new HB4.out hb); clear hb)))
  go_ret
  exact ⟨rfl, HB6.out⟩
theorem law (s : St) (hs : s.In) (t : St) (ht : t.In) (v : ByteArray) (hv : v.size ≤ maxLen) (w : World) :
    Calls Try.prog 5 #[sv s, sv t, .string v] w fun e w' => e = .returned (.bool true) ∧ Below w.heap.size w w' := by
  unfold maxLen at hv
  by_cases h : 50 < v.size
  · clear hs ht
    go_enter Try.func5, Try.ntmps5
    go_wp2_with (go_at_call 13; ((with_reducible refine (works _).mono ?_); rintro e w1 ⟨rfl, hb⟩; have HB1 := Lib.hid (below_on (nest_below w [_, _]) hb); clear hb))
    go_ret
    exact ⟨rfl, HB1.out⟩
  have h' : ¬ 50 < (v.size : Int) := by omega
  have C1 := fun w => fput s hs w
  have C2 := fun w => fput t ht w
  have C4 := fun w => fget v w
  have C5 := fun w => fput (gotS v) (gotS_in v) w
  have ok1 : may s = true → ∀ w, Calls Try.prog 14 #[.string (octets s)] w fun x w' => x = .returned (.tuple #[sv s, .int .i64 0]) ∧ Below w.heap.size w w' := fun hm w => by
    have := fget (octets s) w
    obtain ⟨e1, e2⟩ := got_octets s hm
    rw [e1, e2] at this
    exact this
  unfold putS putE at C1 C2 C5
  rcases got_back v with ⟨g1, g2, g3⟩ | ⟨g1, g2⟩
  · rw [g1] at C4
    rw [g2, g3, if_pos rfl, if_pos rfl] at C5
    cases hm : may s
    · rw [hm] at C1
      exact way_no_ok s t (gotS v) _ _ v _ h' C1 C2 C4 C5 w
    · rw [hm] at C1
      cases hn : may t
      · rw [hn] at C2
        exact way_ok1_ok s t (gotS v) _ _ v h' C1 C2 (ok1 hm) C4 C5 w
      · rw [hn] at C2
        exact way_ok2_ok s t (gotS v) _ _ v h' C1 C2 (ok1 hm) C4 C5 _ (octets_eq hm hn) rfl w
  · have hg : (gotE v != 0) = true := bne_true (by rcases g1 with g1 | g1 <;> rw [g1] <;> decide)
    rw [g2] at C4
    cases hm : may s
    · rw [hm] at C1
      exact way_no_bad s t _ _ v _ _ h' C1 C2 C4 hg w
    · rw [hm] at C1
      cases hn : may t
      · rw [hn] at C2
        exact way_ok1_bad s t _ _ v _ h' C1 C2 (ok1 hm) C4 hg w
      · rw [hn] at C2
        exact way_ok2_bad s t _ _ v _ h' C1 C2 (ok1 hm) C4 hg _ (octets_eq hm hn) rfl w
end Go.Proofs.Ytecmnkdbimalgaa.mscBack
