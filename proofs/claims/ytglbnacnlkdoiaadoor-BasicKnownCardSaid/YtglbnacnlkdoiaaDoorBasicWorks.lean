/-
  The chapter's examples of layer 4 hold. Condition: the tables of layers 1 and 3 lie where the program lays them.
-/
import Derived.Test.YtglbnacnlkdoiaaDoorBasicDecode
import Derived.Laws.StructEq
namespace Go.Proofs.YtglbnacnlkdoiaaDoor.Basic
open Go.RowKit Go.Proofs.YtglbnacnlkdoiaaDoor.Base Go.Proofs.YtglbnacnlkdoiaaDoor.Ea Go.Proofs.YtglbnacnlkdoiaaDoor.Field
/-- What == of two frames answers. -/
def eqF (f g : Fr) : Bool := ((f.d : Int) == g.d) && (f.c == g.c) && ((f.k : Int) == g.k) && (f.pf == g.pf) && ((f.ns : Int) == g.ns) && ((f.nr : Int) == g.nr) && (f.info.toList == g.info.toList)
theorem eqF_self (f : Fr) : eqF f f = true := by simp [eqF]
theorem eqF_eq {f g : Fr} (h : eqF f g = true) : f = g := by
  simp only [eqF, Bool.and_eq_true, beq_iff_eq] at h
  obtain ⟨⟨⟨⟨⟨⟨h1, h2⟩, h3⟩, h4⟩, h5⟩, h6⟩, h7⟩ := h
  exact Fr.ext' (by omega) h2 (by omega) h4 (by omega) (by omega) (bext (by rw [ByteArray.toList_eq, ByteArray.toList_eq] at h7; exact h7))
theorem run_eqFields (f g : Fr) (w : World) : (Op.equalIn 10000 23 (fv f) (fv g)).run Tryd.prog w = .ok (eqF f g) w := by
  have u4 := Tryd.underlying4
  have u5 := Tryd.underlying5
  have u9 := Tryd.underlying9
  have a4 := Tryd.isAgg4
  have a5 := Tryd.isAgg5
  have a9 := Tryd.isAgg9
  have z4 := Tryd.sizeOf4
  have z5 := Tryd.sizeOf5
  have z9 := Tryd.sizeOf9
  have hS : Tryd.prog.underlying 23 = some (.struct (Tryd.prog.fieldsOf 23)) := by kernel_rfl
  have hp : Tryd.prog.stoodInHeld 23 = false := by kernel_rfl
  rw [show (10000 : Nat) = 9999 + 1 from rfl, run_equalIn_agg w 9999 23 _ _ hS hp]
  simp only [Program.fieldsOf, Tryd.underlying23]
  go_simp
  unfold eqF
  cases h1 : ((f.d : Int) == g.d)
  · simp_all
  cases h2 : (f.c == g.c)
  · simp_all
  cases h3 : ((f.k : Int) == g.k)
  · simp_all
  cases h4 : (f.pf == g.pf)
  · simp_all
  cases h5 : ((f.ns : Int) == g.ns)
  · simp_all
  cases h6 : ((f.nr : Int) == g.nr)
  · simp_all
  cases h7 : (f.info.toList == g.info.toList) <;> simp_all
theorem run_eqF (f g : Fr) (w : World) : (binOp .eql 23 (fv f) (fv g)).run Tryd.prog w = .ok (.bool (eqF f g)) w := by
  rw [run_eql_struct, run_eqFields]; rfl
theorem run_neF (f g : Fr) (w : World) : (binOp .neq 23 (fv f) (fv g)).run Tryd.prog w = .ok (.bool (!eqF f g)) w := by
  rw [run_neq_struct, run_eqFields]; rfl
def f1 : Fr := ⟨0, true, 1, true, 0, 0, ⟨#[]⟩⟩
def f2 : Fr := ⟨0, true, 2, false, 0, 0, ⟨#[]⟩⟩
def z128 : ByteArray := ⟨(List.replicate 128 0).toArray⟩
def f3 : Fr := ⟨1, true, 5, false, 0, 0, z128⟩
theorem b1 : f1.bytes true = ⟨#[249, 3, 63, 1, 28, 249]⟩ := bext (by decide +kernel)
theorem i1 : IsB ⟨#[3, 63, 1, 28]⟩ 3 63 28 ⟨#[]⟩ := ⟨by decide, by decide, by decide, by decide, by decide, bext (by decide +kernel)⟩
theorem i2 : IsB ⟨#[3, 63, 1, 29]⟩ 3 63 29 ⟨#[]⟩ := ⟨by decide, by decide, by decide, by decide, by decide, bext (by decide +kernel)⟩
theorem i3 : ∀ a c x i, ¬ IsB ⟨#[3, 63, 3, 28]⟩ a c x i := by
  intro a c x i h
  have h1 := h.takes
  have h2 := h.size
  have e : tk ((⟨#[3, 63, 3, 28]⟩ : ByteArray).data.toList.drop 2) = (1, 1, 0) := by decide +kernel
  rw [e] at h1
  simp only [Prod.mk.injEq] at h1
  have e2 : (⟨#[3, 63, 3, 28]⟩ : ByteArray).size = 4 := rfl
  omega
theorem x1 (w : World) (ht : Tabs w) : Calls Tryd.prog 9 #[fv f1, .bool true, .int .i64 31] w fun e w' => e = .returned (.tuple #[.string ⟨#[249, 3, 63, 1, 28, 249]⟩, .int .i64 0]) ∧ Below w.heap.size w w' := by
  rw [← b1]
  exact fenc_ok f1 ⟨by decide, by decide, by decide, by decide⟩ true 31 w ht.1 ht.2 (by decide) (by decide +kernel)
theorem x2 (w : World) (ht : Tabs w) : Calls Tryd.prog 13 #[.string ⟨#[3, 63, 1, 28]⟩, .bool true, .int .i64 31] w fun e w' => e = .returned (.tuple #[fv f1, .int .i64 0]) ∧ Below w.heap.size w w' :=
  fdec_ok i1 (by decide) true 31 w ht (by decide +kernel) f1 (Fr.ext' (by decide +kernel) (by decide +kernel) (by decide +kernel) (by decide +kernel) (by decide +kernel) (by decide +kernel) rfl)
theorem x3 (w : World) (ht : Tabs w) : Calls Tryd.prog 13 #[.string ⟨#[3, 63, 1, 29]⟩, .bool true, .int .i64 31] w fun e w' => e = .returned (.tuple #[noFr, .int .i64 41]) ∧ Below w.heap.size w w' := by
  have e : dE 3 63 29 ⟨#[]⟩ true 31 = 41 := by decide +kernel
  have r := fdec_bad i2 (by decide) true 31 w ht (by rw [e]; decide)
  rw [e] at r
  exact r
theorem x4 (w : World) : Calls Tryd.prog 13 #[.string ⟨#[3, 63, 3, 28]⟩, .bool true, .int .i64 31] w fun e w' => e = .returned (.tuple #[noFr, .int .i64 40]) ∧ Below w.heap.size w w' := fdec_no _ (by decide) i3 true 31 w
theorem x5 (w : World) (ht : Tabs w) : Calls Tryd.prog 9 #[fv f2, .bool true, .int .i64 31] w fun e w' => e = .returned (.tuple #[.string ⟨#[]⟩, .int .i64 2]) ∧ Below w.heap.size w w' := by
  have e : f2.e true 31 = 2 := by decide +kernel
  have r := fenc_no f2 ⟨by decide, by decide, by decide, by decide⟩ true 31 w ht.1 (by decide) (by rw [e]; decide)
  rw [e] at r
  exact r
theorem x6 (w : World) (ht : Tabs w) : Calls Tryd.prog 9 #[fv f3, .bool true, .int .i64 127] w fun e w' => e = .returned (.tuple #[.string ⟨#[]⟩, .int .i64 3]) ∧ Below w.heap.size w w' := by
  have e : f3.e true 127 = 3 := by decide +kernel
  have r := fenc_no f3 ⟨by decide, by decide, by decide, by decide⟩ true 127 w ht.1 (by decide +kernel) (by rw [e]; decide)
  rw [e] at r
  exact r
end Go.Proofs.YtglbnacnlkdoiaaDoor.Basic
