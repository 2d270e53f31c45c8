/-
  A slice of zero octets that 'make' lays, and the string that it becomes. Condition: at most 100000 octets.
-/
import Derived.Test.YtidcoodmlgmcjaaMem
import Derived.Laws.MakeOwn
import Derived.Laws.OwnMore
namespace Go.Proofs.Ytidcoodmlgmcjaa.Mem
open Go.RowKit Go.Proofs.Ytidcoodmlgmcjaa.Base
def zeroV (n : Nat) : Array Value := (List.replicate n (Value.int .u8 0)).toArray
def zeroS (n : Nat) : ByteArray := ⟨(List.replicate n 0).toArray⟩
theorem zeroS_size (n : Nat) : (zeroS n).size = n := by
  show (List.replicate n (0 : UInt8)).toArray.size = n
  simp
theorem infoB : (Try.prog.info? 5).map (fun i => (i.zero, i.size, i.bytes)) = some (some (.int .u8 0), 1, 1) := by kernel_rfl
theorem make_zeros (n : Nat) (hn : n ≤ 100000) (w : World) : (Instr.makeSlice 37 (.int .i64 (n : Int)) (.int .i64 (n : Int))).run Try.prog w = .ok (.slice (some ⟨w.heap.size, 0, none⟩) n n) (w.alloc (.cells (zeroV n) 5)) := by
  obtain ⟨i, hi, hz0, hz1, hz2⟩ := info_parts infoB
  have h := run_make (P := Try.prog) w 37 5 i (.int .u8 0) Try.underlying37 hi hz0 .i64 .i64 (n : Int) (n : Int) (by omega) (Int.le_refl _) (by rw [hz2]; omega) (by omega)
  rw [h, hz1]
  simp only [Int.toNat_natCast, Nat.mul_one]
  have e : madeCells (Value.cells (.int .u8 0)) n = zeroV n := by
    apply Array.ext'
    show (madeCells #[.int .u8 0] n).toList = _
    rw [toList_madeCells_one]
    rfl
  exact congrArg (fun c => Result.ok _ (w.alloc (.cells c 5))) e
theorem conv_zeros (n : Nat) (W : World) (b : Nat) (h : W.heap[b]? = some (.cells (zeroV n) 5 (0, 0))) : (convert 37 9 (.slice (some ⟨b, 0, none⟩) n n)).run Try.prog W = .ok (.string (zeroS n)) W := by
  have h := run_convert_bytes_arg (P := Try.prog) W 37 5 Try.underlying37 Try.underlying5 b 0 n n (List.replicate n 0) (by simp) (fun i hi => by
    rw [Nat.zero_add]
    refine cell_of h ?_
    simp [zeroV, hi]) 9 Try.underlying9
  rw [h]
  have e : strOfNums (List.replicate n 0) = zeroS n := by
    unfold strOfNums zeroS
    simp
  rw [e]
end Go.Proofs.Ytidcoodmlgmcjaa.Mem
