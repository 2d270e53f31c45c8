/-
  What damaged answers: the text with each of the damages, one behind the other. Conditions: at most ten damages, ten thousand bytes.
-/
import Derived.Test.YtllojgmlngfibaaLnDam
namespace Go.Proofs.Ytllojgmlngfibaa.Ln
open Go.RowKit Go.Proofs.Ytllojgmlngfibaa.Base Go.Proofs.Ytllojgmlngfibaa.Mem
/-- A damage's cells. -/
def dc (x : Dm) : List Value := [.int .u8 (x.k : Int), .int .i64 x.i, .int .u8 (x.b : Int), .int .i64 x.n]
def DFits (x : Dm) : Prop := x.k < 256 ∧ x.b < 256
/-- The first k damages. -/
def ds (F : Nat → Dm) (k : Nat) : List Dm := (List.range k).map F
theorem ds_succ (F : Nat → Dm) (k : Nat) : ds F (k + 1) = ds F k ++ [F k] := by unfold ds; rw [List.range_succ, List.map_append]; rfl
theorem ds_len (F : Nat → Dm) (k : Nat) : (ds F k).length = k := by unfold ds; simp
theorem darg_at {w : World} {oa : Option Addr} {n : Nat} {F : Nat → Dm} (h : ArgS 4 dc DFits w oa n F) {k : Nat} (hk : k < n) : ∃ a gb go, oa = some a ∧ a.add (k * 4) = ⟨gb, go, none⟩ ∧ gb < w.heap.size ∧
    ∀ w', Below w.heap.size w w' → w'.cell? ⟨gb, go, none⟩ = some (.int .u8 ((F k).k : Int)) ∧ w'.cell? ⟨gb, go + 1, none⟩ = some (.int .i64 (F k).i) ∧ w'.cell? ⟨gb, go + 2, none⟩ = some (.int .u8 ((F k).b : Int)) ∧ w'.cell? ⟨gb, go + 3, none⟩ = some (.int .i64 (F k).n) := by
  obtain ⟨a, rfl, gb, go, ha, hgb, hrw⟩ := ArgS.at' (z := 4) (fc := dc) (by decide) (fun _ => rfl) h hk
  exact ⟨a, gb, go, rfl, ha, hgb, fun w' hb => ⟨(hb.cell (p := ⟨gb, go, none⟩) hgb).trans (hrw 0 (by decide)), (hb.cell (p := ⟨gb, go + 1, none⟩) hgb).trans (hrw 1 (by decide)), (hb.cell (p := ⟨gb, go + 2, none⟩) hgb).trans (hrw 2 (by decide)), (hb.cell (p := ⟨gb, go + 3, none⟩) hgb).trans (hrw 3 (by decide))⟩⟩
set_option maxHeartbeats 4000000 in
set_option maxRecDepth 100000 in
theorem fdamaged (l : List UInt8) (oa : Option Addr) (n cap : Nat) (F : Nat → Dm) (w : World) (hA : ArgS 4 dc DFits w oa n F) (hn : n ≤ 10) (hl : l.length ≤ 10000) :
    Calls Try.prog 14 #[.string ⟨l.toArray⟩, .slice oa n cap] w fun e w' => e = .returned (.string ⟨(dmgs (ds F n) l).toArray⟩) ∧ Below w.heap.size w w' := by
  have HA := Lib.hid hA
  clear hA
  obtain ⟨W1, v, hr, hS, hB⟩ := bytes_sl w l (by omega)
  have HS := Lib.hid hS
  have HB := Lib.hid hB
  clear hS hB
  go_enter Try.func14, Try.ntmps14
  go_wp2
  go_loopw [5, 7, 12] (fun b _ i wr => ∃ (k : Nat), k ≤ n ∧ i = .int .i64 (k : Int) ∧ Hid (SlB wr w.heap.size b (dmgs (ds F k) l)) ∧ Hid (Below w.heap.size w wr)) (fun _ _ i _ => n - (intOf i).toNat)
  case atStart => exact ⟨0, Nat.zero_le _, rfl, HS, HB⟩
  case round =>
    clear HS HB hr
    obtain ⟨k, hk, rfl, HS, HB⟩ := hrel
    by_cases hlt : k < n
    · have t1 : (k : Int) < (n : Int) := by omega
      have t2 : decide ((k : Int) < (n : Int)) = true := decide_eq_true t1
      obtain ⟨a, gb, go, rfl, ha, hgb, hrw⟩ := darg_at HA.out hlt
      have hin := HA.out.inb k hlt
      have HD : Hid (dmgs (ds F (k + 1)) l = dmg (F k) (dmgs (ds F k) l)) := by
        show _ = _
        rw [ds_succ, dmgs_snoc]
      obtain ⟨⟨dk, di, db, dn⟩, hx⟩ : ∃ x, F k = x := ⟨_, rfl⟩
      have HC := hrw wr HB.out
      rw [hx] at HC hin HD
      simp only at HC
      obtain ⟨q0, q1, q2, q3⟩ := HC
      have hlen := dmgs_len (ds F k) l
      rw [ds_len] at hlen
      have CD := Lib.hid (fdamage (wr.alloc (.cells #[.int .u8 (dk : Int), .int .i64 di, .int .u8 (db : Int), .int .i64 dn] 33)) w.heap.size u5 (dmgs (ds F k) l) di db dn dk hin.1
        (HS.out.below ((Below.refl _ _).alloc (Nat.le_refl _) _)) (by have := HB.out.size; simp; omega) hin.2 (by omega))
      have HS1 : Hid (SlB (wr.alloc (.cells #[.int .u8 (dk : Int), .int .i64 di, .int .u8 (db : Int), .int .i64 dn] 33)) w.heap.size u5 (dmgs (ds F k) l)) := HS.out.below ((Below.refl _ _).alloc (Nat.le_refl _) _)
      clear hrw hx hin hlen HS
      go_wp2_with (go_at_call 16; ((with_reducible refine CD.out.mono ?_); rintro e w3 ⟨v', rfl, hs3, hg3⟩; have HS3 := Lib.hid hs3; have HB3 := Lib.hid (grown_base HS1.out hg3 (by have := HB.out.size; simp; omega)); clear hs3 hg3 CD))
      go_roundw
      case rel => exact ⟨k + 1, by omega, by go_num, by rw [HD.out]; exact HS3, Lib.hid ((HB.out.alloc HB.out.size _).trans HB3.out)⟩
      case measure => simp [intOf]; omega
    · obtain rfl : k = n := by omega
      have t1 : ¬ (k : Int) < (k : Int) := by omega
      have hcv := HS.out.conv
      go_wp2
      go_ret
      exact ⟨rfl, HB.out⟩
end Go.Proofs.Ytllojgmlngfibaa.Ln
