/-
  The chapter's examples of layer 4, as the laws ask them, hold. Condition: the tables of layers 1 and 3 lie where the program lays them.
-/
import Derived.Test.YtglbnacnlkdoiaaDoorBasicWorks
namespace Go.Proofs.YtglbnacnlkdoiaaDoor.Basic
open Go.RowKit Go.Proofs.YtglbnacnlkdoiaaDoor.Base Go.Proofs.YtglbnacnlkdoiaaDoor.Ea Go.Proofs.YtglbnacnlkdoiaaDoor.Field
abbrev v1 : Value := .agg #[.int .u8 0, .bool true, .int .u8 1, .bool true, .int .u8 0, .int .u8 0, .string ⟨#[]⟩]
theorem y1 (w : World) (ht : Tabs w) : Calls Tryd.prog 9 #[v1, .bool true, .int .i64 31] w fun e w' => e = .returned (.tuple #[.string ⟨#[249, 3, 63, 1, 28, 249]⟩, .int .i64 0]) ∧ Below w.heap.size w w' := x1 w ht
theorem y2 (w : World) (ht : Tabs w) : Calls Tryd.prog 13 #[.string ⟨#[3, 63, 1, 28]⟩, .bool true, .int .i64 31] w fun e w' => e = .returned (.tuple #[v1, .int .i64 0]) ∧ Below w.heap.size w w' := x2 w ht
theorem y5 (w : World) (ht : Tabs w) : Calls Tryd.prog 9 #[.agg #[.int .u8 0, .bool true, .int .u8 2, .bool false, .int .u8 0, .int .u8 0, .string ⟨#[]⟩], .bool true, .int .i64 31] w fun e w' => e = .returned (.tuple #[.string ⟨#[]⟩, .int .i64 2]) ∧ Below w.heap.size w w' := x5 w ht
theorem y6 (w : World) (ht : Tabs w) : Calls Tryd.prog 9 #[.agg #[.int .u8 1, .bool true, .int .u8 5, .bool false, .int .u8 0, .int .u8 0, .string z128], .bool true, .int .i64 127] w fun e w' => e = .returned (.tuple #[.string ⟨#[]⟩, .int .i64 3]) ∧ Below w.heap.size w w' := x6 w ht
theorem y7 (w : World) : Calls Tryd.prog 11 #[.int .i64 500] w fun e w' => e = .returned (.int .i64 128) ∧ w = w' := froom 500 w
def m128 : Array Value := (List.replicate 128 (Value.int .u8 0)).toArray
theorem make128 (w : World) : (Instr.makeSlice 34 (.int .i64 128) (.int .i64 128)).run Tryd.prog w = .ok (.slice (some ⟨w.heap.size, 0, none⟩) 128 128) (w.alloc (.cells m128 5)) := by kernel_rfl
theorem conv128 (w : World) : (convert 34 9 (.slice (some ⟨w.heap.size, 0, none⟩) 128 128)).run Tryd.prog (w.alloc (.cells m128 5)) = .ok (.string z128) (w.alloc (.cells m128 5)) := by
  have h := run_convert_bytes_arg (P := Tryd.prog) (w.alloc (.cells m128 5)) 34 5 Tryd.underlying34 Tryd.underlying5 w.heap.size 0 128 128 (List.replicate 128 0) (by simp) (fun i hi => by
    rw [Nat.zero_add, cell_new]
    have hi' : i < 128 := by simpa using hi
    simp only [m128, List.getElem?_toArray, List.getD_eq_getElem?_getD, List.getElem?_replicate, hi', if_true, Option.getD_some]) 9 Tryd.underlying9
  rw [h]
  rfl
abbrev o1 : Obj := .cells #[.int .u8 0, .bool true, .int .u8 1, .bool true, .int .u8 0, .int .u8 0, .string ⟨#[]⟩] 23
theorem o1_cells {w : World} {b : Nat} (h : w.heap[b]? = some o1) : w.cell? ⟨b, 0, none⟩ = some (.int .u8 0) ∧ w.cell? ⟨b, 1, none⟩ = some (.bool true) ∧ w.cell? ⟨b, 2, none⟩ = some (.int .u8 1) ∧ w.cell? ⟨b, 3, none⟩ = some (.bool true) ∧ w.cell? ⟨b, 4, none⟩ = some (.int .u8 0) ∧ w.cell? ⟨b, 5, none⟩ = some (.int .u8 0) ∧ w.cell? ⟨b, 6, none⟩ = some (.string ⟨#[]⟩) :=
  ⟨cell_of h rfl, cell_of h rfl, cell_of h rfl, cell_of h rfl, cell_of h rfl, cell_of h rfl, cell_of h rfl⟩
/-- A block that was there is as it was. -/
theorem stays {a b : World} {k : Nat} {o : Obj} (h : a.heap[k]? = some o) (hb : Below a.heap.size a b) : b.heap[k]? = some o := (hb.block k (lt_heap h)).trans h
theorem stays1 {a b : World} {k : Nat} {o p : Obj} (h : a.heap[k]? = some o) (hb : Below (a.alloc p).heap.size (a.alloc p) b) : b.heap[k]? = some o := stays (stays h ((Below.refl _ _).alloc (Nat.le_refl _) p)) hb
theorem fresh1 {a b : World} {o : Obj} (hb : Below (a.alloc o).heap.size (a.alloc o) b) : b.heap[a.heap.size]? = some o := stays (nest a [o] 0 o rfl) hb
theorem on1 {w a b : World} {o : Obj} (h : Below w.heap.size w a) (hb : Below (a.alloc o).heap.size (a.alloc o) b) : Below w.heap.size w b := below_on' (below_on' h ((Below.refl _ _).alloc (Nat.le_refl _) o)) hb
theorem tabs1 {w a : World} {o : Obj} (ht : Tabs w) (h : Below w.heap.size w a) : Tabs (a.alloc o) := tabs_below ht (below_on' h ((Below.refl _ _).alloc (Nat.le_refl _) o))
set_option maxHeartbeats 1000000 in
theorem works (w : World) (ht : Tabs w) : Calls Tryd.prog 8 #[] w fun e w' => e = .returned (.bool true) ∧ Below w.heap.size w w' := by
  have HT := Lib.hid ht
  have hg : Tryd.prog.eqGuardType Tryd.prog.depth 23 = false := by kernel_rfl
  have he : ∀ w, (binOp .eql 23 v1 v1).run Tryd.prog w = .ok (.bool true) w := fun w => by rw [show v1 = fv f1 from rfl, run_eqF, eqF_self]
  have hmk := make128
  clear ht
  go_enter Tryd.func8, Tryd.ntmps8
  go_wp2_with (first
    | (go_at_call 9; ((with_reducible refine (y1 _ ?_).mono ?_); (· exact tabs1 HT.out (Below.refl _ _)); rintro e wa ⟨rfl, hb⟩; have FA := Lib.hid (fresh1 hb); have BA := Lib.hid (on1 (Below.refl w.heap.size w) hb); clear hb))
    | (go_at_call 13; ((with_reducible refine (y2 _ ?_).mono ?_); (· exact tabs_below HT.out BA.out); rintro e wb ⟨rfl, hb⟩; have FB := Lib.hid (stays FA.out hb); have BB := Lib.hid (below_on' BA.out hb); clear hb))
    | (go_at_call 13; ((with_reducible refine (x3 _ ?_).mono ?_); (· exact tabs1 HT.out BB.out); rintro e wc ⟨rfl, hb⟩; have GC := Lib.hid (fresh1 hb); have FC := Lib.hid (stays1 FB.out hb); have BC := Lib.hid (on1 BB.out hb); clear hb))
    | (go_at_call 13; ((with_reducible refine (x4 _).mono ?_); rintro e wd ⟨rfl, hb⟩; have GD := Lib.hid (stays1 GC.out hb); have FD := Lib.hid (stays1 FC.out hb); have BD := Lib.hid (on1 BC.out hb); clear hb))
    | (go_at_call 9; ((with_reducible refine (y5 _ ?_).mono ?_); (· exact tabs1 HT.out BD.out); rintro e we ⟨rfl, hb⟩; have GE := Lib.hid (stays1 GD.out hb); have FE := Lib.hid (stays1 FD.out hb); have BE := Lib.hid (on1 BD.out hb); clear hb; have hcv := conv128 we))
    | (go_at_call 9; ((with_reducible refine (y6 _ ?_).mono ?_); (· exact tabs1 HT.out BE.out); rintro e wf ⟨rfl, hb⟩; have GF := Lib.hid (stays1 GE.out hb); have FF := Lib.hid (stays1 FE.out hb); have BF := Lib.hid (on1 BE.out hb); clear hb; obtain ⟨g0, g1, g2, g3, g4, g5, g6⟩ := o1_cells GF.out; obtain ⟨k0, k1, k2, k3, k4, k5, k6⟩ := o1_cells FF.out))
    | (go_at_call 11; ((with_reducible refine (y7 _).mono ?_); rintro e w' ⟨rfl, rfl⟩)))
  go_ret
  exact ⟨rfl, BF.out⟩
end Go.Proofs.YtglbnacnlkdoiaaDoor.Basic
