/-
  The function to range over of layer 16, pieces, and what it hands out: a message's pieces, in order. Condition: a message of at most a million bytes, a piece of at most 127 of them.
-/
import Derived.Test.YtidcoodmlgmcjaaClPiece
import Derived.RangeFuncNested
import Derived.RangeFuncBound
import Derived.RangeFuncCalls
import Derived.RangeFuncLeaves
import Derived.RangeFuncBox
import Derived.Shelf.Abstract
import Derived.Shelf.RegionOpen
import Derived.OwnWalkIn
import Derived.TacticsInMore
import Derived.LoopNIn
import Derived.LoopIn
import Derived.Sort.LoopGhostIn
namespace Go.Proofs.Ytidcoodmlgmcjaa.Cl
open Go.RowKit Go.Proofs.Ytidcoodmlgmcjaa.Base Go.Proofs.Ytidcoodmlgmcjaa.Mem Go.Shelf
attribute [local go_sem] Oper.semAt_some
theorem abides_below {β : Type} {B : Nat} {J : β → World → Prop} (h : AbidesFrom B J) {s : β} {w w' : World} (hj : J s w) (hb : Below w.heap.size w w') : J s w' :=
  h s w w' none hj (grown_of hb) (fun _ e => by cases e)
/-- A block is as it was. -/
def Keep (b : Nat) (A B : World) : Prop := A.heap.size ≤ B.heap.size ∧ B.heap[b]? = A.heap[b]?
theorem keep_t {b : Nat} {A B C : World} (h : Keep b A B) (k : Keep b B C) : Keep b A C := ⟨Nat.le_trans h.1 k.1, k.2.trans h.2⟩
theorem keep_b {b : Nat} {w : World} (hb : b < w.heap.size) (W : World) (l : Nat) (o o' : Obj) (hl : w.heap.size ≤ l) (_ : W.heap[l]? = some o) (_ : o.isCells = false) (_ : o.isWalk = false) : Keep b W (W.putObj l o') :=
  ⟨(grownBy_putObj' W l o').size, World.putObj_heap_other (by omega)⟩
theorem keep_cell {b : Nat} {A B : World} {v : Value} (h : Keep b A B) (hc : A.cell? ⟨b, 0, none⟩ = some v) : B.cell? ⟨b, 0, none⟩ = some v := (World.cell?_of_block (a := ⟨b, 0, none⟩) h.2).trans hc
theorem or64 (k : Nat) : bits .or .u8 ((hk k : Nat) : Int) 64 = ((hk k + 64 : Nat) : Int) := by
  unfold hk
  split <;> decide +kernel
theorem hk_lt (k : Nat) : hk k < 130 := by unfold hk; split <;> omega
set_option maxRecDepth 100000 in
set_option maxHeartbeats 2000000 in
theorem pieces1_in (n : Nat) (hn : 1 ≤ n) (l B1 B2 BJ : Nat) (s : ByteArray) (hs : s.size ≤ 1000000) (m : Nat) (hm : 0 < m) (hm2 : m ≤ 127) (J Jx : List ByteArray → World → Prop)
    (hJ : AbidesFrom BJ J)
    (hY : ∀ pre x W, J pre W → pre.length < cnt s.size m → YieldAt Fence.wide (n - 1) Try.prog l #[.string x] W fun e W' =>
      (e = .returned (.bool true) ∧ J (pre ++ [x]) W' ∧ Keep B2 W W') ∨ (e = .returned (.bool false) ∧ Jx (pre ++ [x]) W'))
    (W : World) (h1 : W.cell? ⟨B1, 0, none⟩ = some (.string s)) (h2 : W.cell? ⟨B2, 0, none⟩ = some (nm m)) (h0 : J [] W) :
    CallsIn Fence.wide n Try.prog 20 #[.func (.yield l) #[] #[], .pointer (some ⟨B1, 0, none⟩), .pointer (some ⟨B2, 0, none⟩)] W fun e W' => (∃ v, e = .returned v) ∧
      ((∃ ys, ys = pcs s m ∧ J ys W') ∨ (∃ pre, True ∧ Jx pre W')) := by
  refine callsIn_of_wp Try.func20 rfl trivial ?_ rfl
  simp only [Try.ntmps20, List.size_toArray, List.length_cons, List.length_nil, Nat.reduceAdd, Nat.reduceSub, Array.replicate_succ, Array.replicate_zero, List.push_toArray, List.append_toArray, List.nil_append, List.cons_append]
  gi_wp2
  gi_quiet (fail)
  have c2 : (W.drewN nq).cell? ⟨B2, 0, none⟩ = some (nm m) := h2
  have J0 := Lib.hid (abides_below hJ h0 (below_drewN (Below.refl _ _) nq))
  have HY := Lib.hid hY
  have HJ := Lib.hid hJ
  have HS := Lib.hid hs
  clear h0 h1 h2 hY hJ hs
  generalize W.drewN nq = w1 at c2 J0 ⊢
  have N0 : hk 0 = 129 := rfl
  have S0 := rest_zero s m
  gi_wp2
  gi_loopg [4, 5] (s.size + 1) (fun g h lf wr => ∃ k : Nat, h = oc (hk k) ∧ lf = .string (rest s m k) ∧ s.size + 1 - k ≤ g ∧ Hid (k = 0 ∨ k * m < s.size) ∧ wr.cell? ⟨B2, 0, none⟩ = some (nm m) ∧ Hid (J (upto s m k) wr))
  case atStart => exact ⟨0, by rw [N0]; rfl, by rw [S0], by omega, Lib.hid (Or.inl rfl), c2, J0⟩
  case round =>
    clear c2 J0 N0 S0
    obtain ⟨k, rfl, rfl, hg, HK, c2, HJ1⟩ := hrel
    obtain ⟨lf, hlf⟩ : ∃ lf, rest s m k = lf := ⟨_, rfl⟩
    have HL := Lib.hid hlf
    have HLS : Hid (lf.size = s.size - k * m) := Lib.hid (by rw [← hlf]; exact rest_size s m k)
    rw [hlf]
    obtain ⟨hkk, hhk⟩ : ∃ hkk, hk k = hkk := ⟨_, rfl⟩
    have HH := Lib.hid hhk
    have qo := or64 k
    have hkl := hk_lt k
    rw [hhk] at qo hkl ⊢
    clear hlf hhk
    by_cases hgt : m < lf.size
    · have t1 : decide ((m : Int) < (lf.size : Int)) = true := decide_eq_true (by omega)
      have t2 : (m : Int) < (lf.size : Int) := by omega
      have t3 : (m : Int) ≤ (lf.size : Int) := by omega
      obtain ⟨d, hd⟩ : ∃ d, lf.extract 0 m = d := ⟨_, rfl⟩
      obtain ⟨lf2, hlf2⟩ : ∃ lf2, lf.extract m lf.size = lf2 := ⟨_, rfl⟩
      have hmid : (k + 1) * m < s.size := by have := HLS.out; rw [succ_mul']; omega
      obtain ⟨pz, hpz⟩ : ∃ pz, mk hkk d = pz := ⟨_, rfl⟩
      have HPC : Hid (pc s m (cnt s.size m) k = pz) := Lib.hid (by rw [pc_mid s m k hm hmid, HH.out, HL.out, hd, hpz])
      have C1 := Lib.hid (fun w => fpieceOf hkk (by omega) d pz hpz (by rw [← hd, ByteArray.size_extract]; have := HS.out; have := HLS.out; omega) w)
      clear hpz
      gi_wp2_with (first
        | (refine ⟨trivial, ?_⟩; gi_at_call 21; ((with_reducible refine (callsIn_wide.2 (C1.out _)).mono ?_); rintro e w2 ⟨rfl, hb⟩; have HB := Lib.hid hb; clear hb)))
      obtain ⟨fn, tmps, asg, body, hy, hR⟩ := HY.out (upto s m k) pz w2 (abides_below HJ.out HJ1.out HB.out) (by rw [upto_len]; have := (cnt_lt s.size m k hm).2 hmid; omega)
      have HR := Lib.hid hR
      have c3 : w2.cell? ⟨B2, 0, none⟩ = some (nm m) := cell_below c2 HB.out
      clear hR
      rw [hy]
      gi_wp2
      refine HR.out.mono ?_
      rintro e w3 (⟨rfl, hJ3, hk3⟩ | ⟨rfl, hJx3⟩)
      · have c4 : w3.cell? ⟨B2, 0, none⟩ = some (nm m) := keep_cell hk3 c3
        have HJ3 : Hid (J (upto s m (k + 1)) w3) := Lib.hid (by rw [upto_succ, HPC.out]; exact hJ3)
        clear hJ3 hk3 c2 c3
        gi_wp2
        gi_quiet (fail)
        have HJ4 := Lib.hid (abides_below HJ.out HJ3.out (below_drewN (Below.refl _ _) nq))
        have c5 : (w3.drewN nq).cell? ⟨B2, 0, none⟩ = some (nm m) := c4
        clear c4 HJ3
        generalize w3.drewN nq = w4 at HJ4 c5 ⊢
        gi_wp2
        gi_roundg (s.size + 1 - (k + 1))
        case measure => have : k * 1 ≤ k * m := Nat.mul_le_mul_left _ hm; rw [succ_mul'] at hmid; omega
        case rel => exact ⟨k + 1, rfl, by rw [← hlf2, ← HL.out, rest_next], Nat.le_refl _, Lib.hid (Or.inr hmid), c5, HJ4⟩
      · gi_wp2
        refine bodyPost_ret (results_none rfl _ _ _) rfl ?_
        exact ⟨⟨_, rfl⟩, .inr ⟨_, trivial, hJx3⟩⟩
    · have t1 : decide ((m : Int) < (lf.size : Int)) = false := decide_eq_false (by omega)
      have t2 : ¬ (m : Int) < (lf.size : Int) := by omega
      have hend := pc_end s m k hm (by have := HLS.out; rw [succ_mul']; omega) HK.out
      obtain ⟨hz, hhz⟩ : ∃ hz, hkk + 64 = hz := ⟨_, rfl⟩
      have hzl : hz < 256 := by omega
      rw [hhz] at qo
      obtain ⟨pz, hpz⟩ : ∃ pz, mk hz lf = pz := ⟨_, rfl⟩
      have HPC : Hid (cnt s.size m = k + 1 ∧ pc s m (cnt s.size m) k = pz) := Lib.hid ⟨hend.1, by rw [hend.2, HH.out, HL.out, hhz, hpz]⟩
      have C1 := Lib.hid (fun w => fpieceOf hz hzl lf pz hpz (by have := HS.out; have := HLS.out; omega) w)
      clear hpz hend hhz
      gi_wp2_with (first
        | (refine ⟨trivial, ?_⟩; gi_at_call 21; ((with_reducible refine (callsIn_wide.2 (C1.out _)).mono ?_); rintro e w2 ⟨rfl, hb⟩; have HB := Lib.hid hb; clear hb)))
      obtain ⟨fn, tmps, asg, body, hy, hR⟩ := HY.out (upto s m k) pz w2 (abides_below HJ.out HJ1.out HB.out) (by rw [upto_len, HPC.out.1]; omega)
      have HR := Lib.hid hR
      clear hR
      rw [hy]
      gi_wp2
      refine HR.out.mono ?_
      rintro e w3 (⟨rfl, hJ3, hk3⟩ | ⟨rfl, hJx3⟩)
      · have HJ3 : Hid (J (pcs s m) w3) := Lib.hid (by rw [← upto_all, HPC.out.1, upto_succ, HPC.out.2]; exact hJ3)
        clear hJ3 hk3
        gi_wp2
        go_end0
        exact ⟨⟨_, rfl⟩, .inl ⟨_, rfl, HJ3.out⟩⟩
      · gi_wp2
        go_end0
        exact ⟨⟨_, rfl⟩, .inr ⟨_, trivial, hJx3⟩⟩
theorem fpieces (n : Nat) (s : ByteArray) (m : Nat) (w : World) :
    CallsIn Fence.wide n Try.prog 16 #[.string s, nm m] w fun e w' => e = .returned (.func (.func 20) #[] #[.pointer (some ⟨w.heap.size, 0, none⟩), .pointer (some ⟨w.heap.size + 1, 0, none⟩)]) ∧ w' = (w.alloc (.cells #[.string s] 9)).alloc (.cells #[nm m] 3) := by
  refine callsIn_wide.2 ?_
  go_enter Try.func16, Try.ntmps16
  go_wp2
  go_ret
  exact ⟨rfl, rfl⟩
/-- What pieces hands out, whatever the body of the loop. -/
theorem pieces_stops (n : Nat) (hn : 1 ≤ n) (B1 B2 : Nat) (s : ByteArray) (hs : s.size ≤ 1000000) (m : Nat) (hm : 0 < m) (hm2 : m ≤ 127) (w : World) (h1 : w.cell? ⟨B1, 0, none⟩ = some (.string s)) (h2 : w.cell? ⟨B2, 0, none⟩ = some (nm m)) :
    SeqStopsK Fence.wide n Try.prog 20 #[.pointer (some ⟨B1, 0, none⟩), .pointer (some ⟨B2, 0, none⟩)] (fun x : ByteArray => #[Value.string x]) (Keep B2) (fun ys => ys = pcs s m) (fun _ => True) (cnt s.size m) w :=
  fun l J Jx W hW hJ _ hY h0 => pieces1_in n hn l B1 B2 _ s hs m hm hm2 J Jx hJ hY W (cell_below h1 hW) (cell_below h2 hW) h0
end Go.Proofs.Ytidcoodmlgmcjaa.Cl
