/-
  TlvRows answers true for every row of messages, and turns nothing that was there. No condition.
-/
import Derived.Test.YtlmfnjdbknfkjaaTlvAllLaw
import Derived.Deep.RegionHeld3
namespace Go.Proofs.Ytlmfnjdbknfkjaa.tlvRows
open Go.RowKit Go.Proofs.Ytlmfnjdbknfkjaa.Base Go.Proofs.Ytlmfnjdbknfkjaa.Tlv Go.Proofs.Ytlmfnjdbknfkjaa.Mem
/-- What a message that came in may be. -/
def Fits (x : It) : Prop := x.k < 256 ∧ x.v.size ≤ maxLen
/-- The message as it is put. -/
def cut (x : It) : It := ⟨x.k % 64, x.c, x.v⟩
/-- What each round of the first loop begins with. -/
structure At (w : World) (F : Nat → It) (k : Nat) (s : ByteArray) (wr : World) (L : List It) : Prop where
  base : Below w.heap.size w wr
  len : L.length = k
  is : ∀ i, i < k → L[i]? = some (cut (F i))
  ok : ∀ x ∈ L, x.Ok
  eq : s = enc L
theorem At.size {w : World} {F : Nat → It} {k : Nat} {s : ByteArray} {wr : World} {L : List It} (h : At w F k s wr L) (hk : k ≤ 20) : s.size ≤ 2580 := by
  have := enc_size L h.ok
  rw [h.eq]
  have := h.len
  omega
theorem At.step {w : World} {F : Nat → It} {k : Nat} {s : ByteArray} {wr w1 : World} {L : List It} (h : At w F k s wr L) (hb : Below wr.heap.size wr w1) (hok : (cut (F k)).Ok) : At w F (k + 1) (s ++ (cut (F k)).bytes) w1 (L ++ [cut (F k)]) := by
  refine ⟨below_on h.base hb, by rw [List.length_append, h.len]; rfl, fun i hi => ?_, fun x hx => ?_, by rw [enc_snoc, h.eq]⟩
  · by_cases e : i < k
    · rw [List.getElem?_append_left (by rw [h.len]; exact e)]; exact h.is i e
    · obtain rfl : i = k := by omega
      rw [List.getElem?_append_right (by rw [h.len]; exact Nat.le_refl _), h.len, Nat.sub_self]; rfl
  · rcases List.mem_append.1 hx with hx | hx
    · exact h.ok x hx
    · rw [List.mem_singleton.1 hx]; exact hok
/-- What each round of the second loop begins with. -/
structure In (w w0 : World) (v : Value) (wr : World) (L : List It) : Prop where
  base : Below w.heap.size w wr
  own : OwnS 32 3 ic wr w0.heap.size v L
set_option maxRecDepth 100000 in
set_option maxHeartbeats 1000000 in
theorem law (oa : Option Addr) (n cap : Nat) (F : Nat → It) (w : World) (hA : ArgS 3 ic Fits w oa n F) :
    Calls Try.prog 5 #[.slice oa n cap] w fun e w' => e = .returned (.bool true) ∧ Below w.heap.size w w' := by
  have HA := Lib.hid hA
  clear hA
  by_cases h : 20 < n
  · have h1 : (20 : Int) < (n : Int) := by omega
    go_enter Try.func5, Try.ntmps5
    go_wp2_with (go_at_call 7; ((with_reducible refine (works _).mono ?_); rintro e w1 ⟨rfl, hb⟩; have HB1 : Hid (Below w.heap.size w w1) := Lib.hid hb; clear hb))
    go_ret
    exact ⟨rfl, HB1.out⟩
  have h1 : ¬ (20 : Int) < (n : Int) := by omega
  go_enter Try.func5, Try.ntmps5
  go_wp2
  go_loopw [3, 4] (fun sv i wr => ∃ (s : ByteArray) (k : Nat) (L : List It), sv = .string s ∧ k ≤ n ∧ i = .int .i64 (k : Int) ∧ Hid (At w F k s wr L)) (fun _ i _ => n - (intOf i).toNat)
  case atStart => exact ⟨_, 0, [], rfl, Nat.zero_le _, rfl, Lib.hid ⟨Below.refl _ _, rfl, fun i hi => absurd hi (by omega), fun x hx => absurd hx (by simp), rfl⟩⟩
  case round =>
    obtain ⟨s, k, L, rfl, hk, rfl, HR⟩ := hrel
    have hss := HR.out.size (by omega)
    by_cases hlt : k < n
    · obtain ⟨a, rfl, gb, go, ha, hgb, hrw⟩ := ArgS.at' (z := 3) (fc := ic) (by decide) (fun _ => rfl) HA.out hlt
      have hin := HA.out.inb k hlt
      have HRow := Lib.hid hrw
      obtain ⟨x, hx⟩ : ∃ x, F k = x := ⟨_, rfl⟩
      have HX := Lib.hid hx
      rw [hx] at hrw hin
      have c0 : wr.cell? ⟨gb, go, none⟩ = some (.int .u8 (x.k : Int)) := (HR.out.base.cell (p := ⟨gb, go, none⟩) hgb).trans (hrw 0 (by decide))
      have c1 : wr.cell? ⟨gb, go + 1, none⟩ = some (.bool x.c) := (HR.out.base.cell (p := ⟨gb, go + 1, none⟩) hgb).trans (hrw 1 (by decide))
      have c2 : wr.cell? ⟨gb, go + 2, none⟩ = some (.string x.v) := (HR.out.base.cell (p := ⟨gb, go + 2, none⟩) hgb).trans (hrw 2 (by decide))
      have hxk : x.k < 256 := hin.1
      have hxv := hin.2
      unfold maxLen at hxv
      clear hrw hin hx
      have j0 : (0 : Int) ≤ (k : Int) := by omega
      have j1 : (k : Int) < (n : Int) := by omega
      obtain ⟨m, hm⟩ : ∃ m, x.k % 64 = m := ⟨_, rfl⟩
      have q0 : (x.k : Int).tmod 64 = (m : Int) := by
        rw [Int.tmod_eq_emod_of_nonneg (by omega)]; omega
      have hm2 : m ≤ 63 := by omega
      have HM := Lib.hid hm
      clear hm
      by_cases hv : 127 < x.v.size
      · have hpe : putE m x.v = 3 := by unfold putE; rw [if_neg (by omega), if_pos hv]
        have CP : Hid (∀ w, Calls Try.prog 8 #[.int .u8 (m : Int), .bool x.c, .string x.v] w fun e w' => e = .returned (.tuple #[.string ⟨#[]⟩, .int .i64 3]) ∧ w = w') := Lib.hid (fun w => by
          have := put_no m (by omega) x.c x.v (by omega) (by rw [hpe]; decide) w
          rw [hpe] at this
          exact this)
        clear hpe
        go_wp2
        go_region_held3 (fun w' => w'.cell? ⟨gb, go, none⟩ = some (.int .u8 (x.k : Int)) ∧ w'.cell? ⟨gb, go + 1, none⟩ = some (.bool x.c) ∧ w'.cell? ⟨gb, go + 2, none⟩ = some (.string x.v) ∧ Below wr.heap.size wr w')
          (exact ⟨c0, c1, c2, (Below.refl _ _).drew⟩)
          ((go_at_call 8; ((with_reducible refine (CP.out _).mono ?_); rintro e w2 ⟨rfl, rfl⟩)))
        go_wp2_with (go_at_call 7; ((with_reducible refine (works _).mono ?_); rintro e w2 ⟨rfl, hb⟩; have HB2 : Hid (Below w.heap.size w w2) := Lib.hid (below_on HR.out.base (below_on (Below.refl _ _).drew hb)); clear hb))
        go_ret
        exact ⟨rfl, HB2.out⟩
      · have hp := put_ok m x.c x.v hm2 (by omega)
        have CP := Lib.hid hp
        obtain ⟨t, ht⟩ : ∃ t, It.bytes ⟨m, x.c, x.v⟩ = t := ⟨_, rfl⟩
        have hok : (⟨m, x.c, x.v⟩ : It).Ok := ⟨hm2, show x.v.size ≤ 127 by omega⟩
        have htz : t.size ≤ 129 := by rw [← ht, bytes_size hok]; show 2 + x.v.size ≤ 129; omega
        have HC : Hid (cut (F k) = ⟨m, x.c, x.v⟩) := Lib.hid (by rw [HX.out]; unfold cut; rw [HM.out])
        have HOK := Lib.hid hok
        rw [ht] at CP
        have HT := Lib.hid ht
        clear hp ht hok
        go_wp2
        go_region_held3 (fun w' => w'.cell? ⟨gb, go, none⟩ = some (.int .u8 (x.k : Int)) ∧ w'.cell? ⟨gb, go + 1, none⟩ = some (.bool x.c) ∧ w'.cell? ⟨gb, go + 2, none⟩ = some (.string x.v) ∧ Below wr.heap.size wr w')
          (first | exact ⟨c0, c1, c2, (Below.refl _ _).drew⟩ | exact ⟨cell_below c0 HB2.out, cell_below c1 HB2.out, cell_below c2 HB2.out, HB2.out⟩)
          ((go_at_call 8; ((with_reducible refine (CP.out _).mono ?_); rintro e w2 ⟨rfl, hb⟩; have HB2 := Lib.hid (below_on ((Below.refl wr.heap.size wr).drew) hb); clear hb)))
        rename_i hX
        obtain ⟨-, -, d2, hb2⟩ := hX
        have HB3 := Lib.hid hb2
        clear hb2 c0 c1 c2
        go_wp2
        go_roundw
        case rel =>
          refine ⟨s ++ t, k + 1, L ++ [cut (F k)], rfl, by omega, by go_num, Lib.hid ?_⟩
          have := HR.out.step HB3.out (by rw [HC.out]; exact HOK.out)
          rw [← HT.out, ← HC.out]
          exact this
        case measure => simp [intOf]; omega
    · obtain rfl : k = n := by omega
      obtain ⟨w0, rfl⟩ : ∃ w0 : World, w0 = wr := ⟨_, rfl⟩
      have CA : Hid (∀ w, Calls Try.prog 11 #[.string s] w fun e w' => ∃ v, e = .returned (.tuple #[v, .int .i64 0, .int .i64 0]) ∧ OwnS 32 3 ic w' w.heap.size v L ∧ Below w.heap.size w w') := Lib.hid (fun w => by
        have := fall s (by omega) w
        unfold AllEnds at this
        rw [HR.out.eq, all_enc L HR.out.ok, ← HR.out.eq] at this
        exact this)
      go_wp2_with (go_at_call 11; ((with_reducible refine (CA.out _).mono ?_); rintro e w2 ⟨v, rfl, hv, hb⟩; obtain ⟨va, vcap, hve⟩ := OwnS.slice hv; rw [HR.out.len] at hve; subst hve; have HV : Hid (In w w0 (.slice va k vcap) w2 L) := Lib.hid ⟨below_on HR.out.base hb, hv⟩; clear hb hv))
      go_loopw [10] (fun i wr => ∃ j : Nat, j ≤ k ∧ i = .int .i64 (j : Int) ∧ Hid (In w w0 (.slice va k vcap) wr L)) (fun i _ => k - (intOf i).toNat)
      case atStart => exact ⟨0, Nat.zero_le _, rfl, HV⟩
      case round =>
        obtain ⟨j, hj, rfl, HI⟩ := hrel
        by_cases hjl : j < k
        · obtain ⟨a, rfl, gb, go, ha, hgb, hrw⟩ := ArgS.at' (z := 3) (fc := ic) (by decide) (fun _ => rfl) HA.out hjl
          obtain ⟨gv, rfl, hgv⟩ := tlvAll.some_at HI.out.own (by rw [HR.out.len]; omega)
          obtain ⟨x, hx⟩ : ∃ x, F j = x := ⟨_, rfl⟩
          have hin := (HA.out.inb j hjl).1
          have hcx := HR.out.is j hjl
          rw [hx] at hrw hin hcx
          obtain ⟨d0, d1, d2⟩ := tlvAll.cells_at HI.out.own j (cut x) hcx
          have c0 : wr.cell? ⟨gb, go, none⟩ = some (.int .u8 (x.k : Int)) := (HI.out.base.cell (p := ⟨gb, go, none⟩) hgb).trans (hrw 0 (by decide))
          have c1 : wr.cell? ⟨gb, go + 1, none⟩ = some (.bool x.c) := (HI.out.base.cell (p := ⟨gb, go + 1, none⟩) hgb).trans (hrw 1 (by decide))
          have c2 : wr.cell? ⟨gb, go + 2, none⟩ = some (.string x.v) := (HI.out.base.cell (p := ⟨gb, go + 2, none⟩) hgb).trans (hrw 2 (by decide))
          simp only [cut] at d0 d1 d2
          obtain ⟨m, hm⟩ : ∃ m, x.k % 64 = m := ⟨_, rfl⟩
          have q0 : (x.k : Int).tmod 64 = (m : Int) := by
            rw [Int.tmod_eq_emod_of_nonneg (by omega)]; omega
          rw [hm] at d0
          have hxk : x.k < 256 := hin
          clear hrw hin hcx hx hm
          have j0 : (0 : Int) ≤ (j : Int) := by omega
          have j1 : (j : Int) < (k : Int) := by omega
          go_wp2
          go_quiet (fail)
          go_wp2
          go_roundw
          case rel => exact ⟨j + 1, by omega, by go_num, Lib.hid ⟨below_drewN HI.out.base _, HI.out.own.below (below_drewN (Below.refl _ _) _)⟩⟩
          case measure => simp [intOf]; omega
        · go_wp2_with (go_at_call 7; ((with_reducible refine (works _).mono ?_); rintro e w2 ⟨rfl, hb⟩; have HB2 : Hid (Below w.heap.size w w2) := Lib.hid (below_on HI.out.base hb); clear hb))
          go_ret
          exact ⟨rfl, HB2.out⟩
end Go.Proofs.Ytlmfnjdbknfkjaa.tlvRows
