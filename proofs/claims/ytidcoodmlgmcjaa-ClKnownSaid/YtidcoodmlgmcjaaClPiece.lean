/-
  What pieceOf of layer 16 answers: a head octet with bytes behind it, built in new memory; and what isHead, has and New answer. Condition: at most a million bytes.
-/
import Derived.Test.YtidcoodmlgmcjaaClMath
import Derived.Test.YtidcoodmlgmcjaaBldShelf
import Derived.Test.YtidcoodmlgmcjaaShelf
import Derived.Carry
namespace Go.Proofs.Ytidcoodmlgmcjaa.Cl
open Go.RowKit Go.Proofs.Ytidcoodmlgmcjaa.Base Go.Proofs.Ytidcoodmlgmcjaa.Mem
theorem cells_of_piece (h : Nat) (hh : h < 256) (d : ByteArray) : [Value.int .u8 (h : Int)] ++ Lib.strCells d = Lib.byteCells (UInt8.ofNat h :: d.data.toList) := by
  have : (UInt8.ofNat h).toNat = h := by rw [UInt8.toNat_ofNat']; omega
  simp [Lib.strCells, Lib.byteCells, this]
theorem str_of_piece (h : Nat) (d : ByteArray) : (⟨(UInt8.ofNat h :: d.data.toList).toArray⟩ : ByteArray) = mk h d := by
  apply bext
  unfold mk
  rw [app_list]
  rfl
set_option maxHeartbeats 1000000 in
theorem fpieceOf (h : Nat) (hh : h < 256) (d : ByteArray) (r : ByteArray) (hr : mk h d = r) (hd : d.size ≤ 1000000) (w : World) :
    Calls Try.prog 21 #[oc h, .string d] w fun e w' => e = .returned (.string r) ∧ Below w.heap.size w w' := by
  obtain ⟨n, hn⟩ : ∃ n, n = 1 + d.size := ⟨_, rfl⟩
  have v1 : IntKind.i64.wrap (1 + (d.size : Int)) = (n : Int) := by rw [IntKind.wrap_i64]; omega
  have CG := Lib.hid (Try.bGrow w.heap.size w.heap.size n (w.alloc (.cells #[.pointer none, .slice none 0 0] 53)) (Nat.le_refl _) (nest w [_] 0 _ rfl) (by simp) (by omega))
  have CB := Lib.hid (fun W bs (hb : Lib.BuilderAt 53 5 w.heap.size w.heap.size (.pointer (some ⟨w.heap.size, 0, none⟩)) bs W) (hl : bs.length + 1 ≤ 140737488355328) (hw : w.heap.size ≤ W.heap.size) => Try.bWriteByte w.heap.size w.heap.size bs (h : Int) W (Or.inr hb) hl hw)
  have CS := Lib.hid (fun W bs (hb : Lib.BuilderAt 53 5 w.heap.size w.heap.size (.pointer (some ⟨w.heap.size, 0, none⟩)) bs W) (hl : bs.length + d.size ≤ 140737488355328) (hw : w.heap.size ≤ W.heap.size) => Try.bWriteString w.heap.size w.heap.size bs d W (Or.inr hb) hl hw)
  have CT := Lib.hid (fun W (hb : Lib.BuilderAt 53 5 w.heap.size w.heap.size (.pointer (some ⟨w.heap.size, 0, none⟩)) (([] ++ [Value.int .u8 (h : Int)]) ++ Lib.strCells d) W) (hw : w.heap.size ≤ W.heap.size) => by
    have := Try.bString w.heap.size w.heap.size (UInt8.ofNat h :: d.data.toList) W (Or.inr (by rw [← cells_of_piece h hh d]; exact hb)) hw
    rw [str_of_piece, hr] at this
    exact this)
  have HD := Lib.hid hd
  have B0 : Hid (Below w.heap.size w (w.alloc (.cells #[.pointer none, .slice none 0 0] 53))) := Lib.hid ((Below.refl _ _).alloc (Nat.le_refl _) _)
  clear hn hr
  go_enter Try.func21, Try.ntmps21
  go_wp2_with (first
    | (go_at_call 23; ((with_reducible refine CG.out.mono ?_); rintro e w1 ⟨rfl, h1, b1⟩; have H1 := Lib.hid h1; have B1 := Lib.hid (B0.out.trans b1); clear h1 b1))
    | (go_at_call 24; ((with_reducible refine (CB.out _ _ H1.out (by simp) B1.out.size).mono ?_); rintro e w2 ⟨rfl, h2, b2⟩; have H2 := Lib.hid h2; have B2 := Lib.hid (B1.out.trans b2); clear h2 b2))
    | (go_at_call 25; ((with_reducible refine (CS.out _ _ H2.out (by have := HD.out; simp; omega) B2.out.size).mono ?_); rintro e w3 ⟨rfl, h3, b3⟩; have H3 := Lib.hid h3; have B3 := Lib.hid (B2.out.trans b3); clear h3 b3))
    | (go_at_call 26; ((with_reducible refine (CT.out _ H3.out B3.out.size).mono ?_); rintro e w4 ⟨rfl, b4⟩; have B4 := Lib.hid (B3.out.trans b4); clear b4)))
  go_ret
  exact ⟨rfl, B4.out⟩
end Go.Proofs.Ytidcoodmlgmcjaa.Cl
