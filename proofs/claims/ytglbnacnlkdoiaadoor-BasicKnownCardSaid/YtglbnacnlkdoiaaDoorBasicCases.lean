/-
  What Encode and Decode answer, case by case. Condition: the tables of layers 1 and 3 lie where the program lays them.
-/
import Derived.Test.YtglbnacnlkdoiaaDoorBasicWorks2
namespace Go.Proofs.YtglbnacnlkdoiaaDoor.Basic
open Go.RowKit Go.Proofs.YtglbnacnlkdoiaaDoor.Base Go.Proofs.YtglbnacnlkdoiaaDoor.Ea Go.Proofs.YtglbnacnlkdoiaaDoor.Field
theorem two_on {w a b : World} {o p : Obj} (h : Below w.heap.size w a) (hb : Below ((a.alloc o).alloc p).heap.size ((a.alloc o).alloc p) b) : Below w.heap.size w b := on1 (below_on' h ((Below.refl _ _).alloc (Nat.le_refl _) o)) hb
theorem bytes_size (f : Fr) (ini : Bool) : (f.bytes ini).size = (f.body ini).size + 2 := by
  unfold Fr.bytes
  rw [ByteArray.size_append, ByteArray.size_append]
  show 1 + _ + 1 = _
  omega
theorem bytes_list (f : Fr) (ini : Bool) : (f.bytes ini).data.toList = 249 :: ((f.body ini).data.toList ++ [249]) := by
  unfold Fr.bytes
  rw [app_list, app_list]; rfl
theorem body_in (f : Fr) (ini : Bool) : (f.bytes ini).extract 1 ((f.bytes ini).size - 1) = f.body ini := by
  apply bext
  rw [ext_list, bytes_list, bytes_size, List.drop_take]
  show List.take _ ((f.body ini).data.toList ++ [249]) = _
  rw [show (f.body ini).size + 2 - 1 - 1 = (f.body ini).data.toList.length by rw [size_toList]; omega, List.take_left]
theorem first_flag (f : Fr) (ini : Bool) (h : 0 < (f.bytes ini).size) : (f.bytes ini)[0].toNat = 249 := by
  have := get_list (f.bytes ini) 0 h
  rw [bytes_list] at this
  simp only [List.getElem?_cons_zero, Option.some.injEq] at this
  rw [this]; rfl
theorem last_flag (f : Fr) (ini : Bool) (h : (f.bytes ini).size - 1 < (f.bytes ini).size) : ((f.bytes ini)[(f.bytes ini).size - 1]).toNat = 249 := by
  have := get_list (f.bytes ini) _ h
  rw [bytes_list] at this
  rw [show (249 : UInt8) :: ((f.body ini).data.toList ++ [249]) = (249 :: (f.body ini).data.toList) ++ [249] by simp, List.getElem?_append_right (by simp [bytes_size])] at this
  rw [show (f.bytes ini).size - 1 - ((249 : UInt8) :: (f.body ini).data.toList).length = 0 by simp [bytes_size]] at this
  simp only [List.getElem?_cons_zero, Option.some.injEq] at this
  rw [this]; rfl
/-- What decoding s answers. -/
def DecNo (s : ByteArray) (ini : Bool) (n1 r : Int) : Prop := ∀ w, Tabs w → Calls Tryd.prog 13 #[.string s, .bool ini, .int .i64 n1] w fun e w' => e = .returned (.tuple #[noFr, .int .i64 r]) ∧ Below w.heap.size w w'
def DecOk (s : ByteArray) (ini : Bool) (n1 : Int) (g : Fr) : Prop := ∀ w, Tabs w → Calls Tryd.prog 13 #[.string s, .bool ini, .int .i64 n1] w fun e w' => e = .returned (.tuple #[fv g, .int .i64 0]) ∧ Below w.heap.size w w'
def EncNo (f : Fr) (ini : Bool) (n1 r : Int) : Prop := ∀ w, Tabs w → Calls Tryd.prog 9 #[fv f, .bool ini, .int .i64 n1] w fun e w' => e = .returned (.tuple #[.string ⟨#[]⟩, .int .i64 r]) ∧ Below w.heap.size w w'
def EncOk (f : Fr) (ini : Bool) (n1 : Int) (t : ByteArray) : Prop := ∀ w, Tabs w → Calls Tryd.prog 9 #[fv f, .bool ini, .int .i64 n1] w fun e w' => e = .returned (.tuple #[.string t, .int .i64 0]) ∧ Below w.heap.size w w'
theorem enc_cases (f : Fr) (hf : f.In) (hl : f.info.size ≤ maxLen) (ini : Bool) (n1 : Int) : (∃ r, r ≠ 0 ∧ EncNo f ini n1 r) ∨ (f.e ini n1 = 0 ∧ EncOk f ini n1 (f.bytes ini)) := by
  by_cases h : f.e ini n1 = 0
  · exact .inr ⟨h, fun w ht => fenc_ok f hf ini n1 w ht.1 ht.2 hl h⟩
  · exact .inl ⟨_, by omega, fun w ht => fenc_no f hf ini n1 w ht.1 hl h⟩
theorem dec_cases (s : ByteArray) (hs : s.size ≤ maxLen) (ini : Bool) (n1 : Int) : (∃ r, r ≠ 0 ∧ DecNo s ini n1 r) ∨ (∃ g : Fr, g.In ∧ g.info.size ≤ 32767 ∧ g.e ini n1 = 0 ∧ g.body ini = s ∧ DecOk s ini n1 g) := by
  by_cases h : ∃ a c x i, IsB s a c x i
  · obtain ⟨a, c, x, i, hi⟩ := h
    by_cases he : dE a c x i ini n1 = 0
    · obtain ⟨e1, e2⟩ := dec_enc hi he
      exact .inr ⟨fr a c i ini, fr_in hi.ha hi.hc i ini, hi.hl, e1, e2, fun w ht => fdec_ok hi hs ini n1 w ht he _ rfl⟩
    · exact .inl ⟨_, by omega, fun w ht => fdec_bad hi hs ini n1 w ht he⟩
  · exact .inl ⟨40, by decide, fun w _ => fdec_no s hs (fun a c x i k => h ⟨a, c, x, i, k⟩) ini n1 w⟩
/-- What is encoded is decoded as it was. -/
theorem dec_body {f : Fr} {ini : Bool} {n1 : Int} (h : f.e ini n1 = 0) : DecOk (f.body ini) ini n1 f := by
  obtain ⟨h1, h2, h3⟩ := enc_dec h
  have hz := h1.size
  have h5 := (e_ok h).2.2.2
  have h6 := room_le n1
  have hs : (f.body ini).size ≤ maxLen := by
    have := len_sz f.info.size (by omega)
    unfold maxLen
    split at this <;> omega
  exact fun w ht => fdec_ok h1 hs ini n1 w ht h2 f h3
theorem DecNo.at {s : ByteArray} {ini : Bool} {n1 r : Int} (h : DecNo s ini n1 r) (w : World) (ht : Tabs w) : Calls Tryd.prog 13 #[.string s, .bool ini, .int .i64 n1] w fun e w' => e = .returned (.tuple #[noFr, .int .i64 r]) ∧ Below w.heap.size w w' := h w ht
theorem DecOk.at {s : ByteArray} {ini : Bool} {n1 : Int} {g : Fr} (h : DecOk s ini n1 g) (w : World) (ht : Tabs w) : Calls Tryd.prog 13 #[.string s, .bool ini, .int .i64 n1] w fun e w' => e = .returned (.tuple #[fv g, .int .i64 0]) ∧ Below w.heap.size w w' := h w ht
theorem EncNo.at {f : Fr} {ini : Bool} {n1 r : Int} (h : EncNo f ini n1 r) (w : World) (ht : Tabs w) : Calls Tryd.prog 9 #[fv f, .bool ini, .int .i64 n1] w fun e w' => e = .returned (.tuple #[.string ⟨#[]⟩, .int .i64 r]) ∧ Below w.heap.size w w' := h w ht
theorem EncOk.at {f : Fr} {ini : Bool} {n1 : Int} {t : ByteArray} (h : EncOk f ini n1 t) (w : World) (ht : Tabs w) : Calls Tryd.prog 9 #[fv f, .bool ini, .int .i64 n1] w fun e w' => e = .returned (.tuple #[.string t, .int .i64 0]) ∧ Below w.heap.size w w' := h w ht
theorem eql_same (f : Fr) (w : World) : (binOp .eql 23 (fv f) (fv f)).run Tryd.prog w = .ok (.bool true) w := by rw [run_eqF, eqF_self]
theorem neq_same (f : Fr) (w : World) : (binOp .neq 23 (fv f) (fv f)).run Tryd.prog w = .ok (.bool false) w := by rw [run_neF, eqF_self]; rfl
theorem eql_none (w : World) : (binOp .eql 23 noFr noFr).run Tryd.prog w = .ok (.bool true) w := eql_same fr0 w
end Go.Proofs.YtglbnacnlkdoiaaDoor.Basic
