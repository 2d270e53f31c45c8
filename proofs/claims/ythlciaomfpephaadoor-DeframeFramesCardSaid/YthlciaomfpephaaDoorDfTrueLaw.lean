/-
  DeframeTrue: each frame that is told stands, encoded, in the bytes that came, ending with the byte by which it was told. Condition: the tables of layers 1 and 3 lie where the program lays them.
-/
import Derived.Test.YthlciaomfpephaaDoorDfWorks
namespace Go.Proofs.YthlciaomfpephaaDoor.Df
open Go.RowKit Go.Proofs.YthlciaomfpephaaDoor.Base Go.Proofs.YthlciaomfpephaaDoor.Ea Go.Proofs.YthlciaomfpephaaDoor.Field Go.Proofs.YthlciaomfpephaaDoor.Basic Go.Proofs.YthlciaomfpephaaDoor.Adv
theorem told_info {c : Cf} {f : Fr} (h : encX c.adv f c.ini c.room = 0) : f.info.size ≤ 128 := by
  have hr := room_le (c.room : Int)
  unfold encX at h
  cases ha : c.adv
  · rw [ha] at h
    have := (e_ok (show f.e c.ini c.room = 0 from h)).2.2.2
    omega
  · rw [ha] at h
    have := (ae_ok (show Fr.ae f c.room = 0 from h)).2.2.2
    omega
/-- A frame that a byte tells stands, encoded, at the end of what came. -/
theorem tells_at {c : Cf} {dec : List UInt8 → Fr × Nat} {s : ByteArray} {k : Nat} {q : St} {g : Fr} (hk : k < s.size) (hT : Told c q.got (dec q.got)) (h : Tells c dec (s.data.toList.take k) q s[k] g) :
    g.In ∧ encX c.adv g c.ini c.room = 0 ∧ (bytesX c.adv g c.ini).size ≤ k + 1 ∧ s.extract (k + 1 - (bytesX c.adv g c.ini).size) (k + 1) = bytesX c.adv g c.ini := by
  obtain ⟨h1, ⟨pre, h2⟩, h3⟩ := h
  rw [h3] at hT
  obtain ⟨t1, t2, t3⟩ := hT rfl
  have hb := bytesX_list c g
  rw [t3] at hb
  have ht : s.data.toList.take (k + 1) = pre ++ (bytesX c.adv g c.ini).data.toList := by
    rw [List.take_succ_eq_append_getElem (by exact hk), h2, hb]
    have e : s.data.toList[k]'hk = flagB c := h1
    rw [e]
    simp
  have hz := congrArg List.length ht
  rw [List.length_take, List.length_append, size_toList, size_toList, Nat.min_eq_left (by omega)] at hz
  refine ⟨t1, t2, by omega, bext ?_⟩
  rw [ext_list, ht, show k + 1 - (bytesX c.adv g c.ini).size = pre.length by omega, List.drop_left]
abbrev rowO (adv ini : Bool) (n1 : Int) : Obj := .cells #[.bool adv, .bool ini, .int .i64 n1] 23
theorem row_cells {w : World} {b : Nat} {adv ini : Bool} {n1 : Int} (h : w.heap[b]? = some (rowO adv ini n1)) : w.cell? ⟨b, 0, none⟩ = some (.bool adv) ∧ w.cell? ⟨b, 1, none⟩ = some (.bool ini) ∧ w.cell? ⟨b, 2, none⟩ = some (.int .i64 n1) := ⟨cell_of h rfl, cell_of h rfl, cell_of h rfl⟩
theorem eqN (w : World) : (binOp .neq 30 noFr noFr).run Tryd.prog w = .ok (.bool false) w := neq_same fr0 w
/-- What holds when k bytes have been fed. -/
structure TrueAt (w : World) (adv ini : Bool) (n1 : Int) (s : ByteArray) (k : Nat) (wr : World) : Prop where
  ex : ∃ q v, DfAt wr (w.heap.size + 1) ⟨adv, ini, room n1⟩ q v ∧ Good ⟨adv, ini, room n1⟩ q ∧ q.bad ≤ k ∧ Trail ⟨adv, ini, room n1⟩ (s.data.toList.take k) q
  row : wr.heap[w.heap.size]? = some (rowO adv ini n1)
  tabs : TabsB wr (w.heap.size + 1)
  base : Below w.heap.size w wr
theorem Next.belowD {D : Nat} {c : Cf} {w w' : World} {v : Value} {q q0 : St} (h : Next D c w v q w') (h0 : DfAt w D c q0 v) : Below D w w' := by
  obtain ⟨_, _, h2, _⟩ := h
  exact h2.belowD h0.over (Nat.le_of_lt h0.lt)
/-- A byte more. -/
theorem TrueAt.next {w wr w1 : World} {adv ini : Bool} {n1 : Int} {s : ByteArray} {k : Nat} {dec : List UInt8 → Fr × Nat} (h : TrueAt w adv ini n1 s k wr) {q : St} {v : Value} (hq : DfAt wr (w.heap.size + 1) ⟨adv, ini, room n1⟩ q v) (hg : Good ⟨adv, ini, room n1⟩ q) (hb : q.bad ≤ k) (ht : Trail ⟨adv, ini, room n1⟩ (s.data.toList.take k) q) (hk : k < s.size)
    (hn : Next (w.heap.size + 1) ⟨adv, ini, room n1⟩ wr v (step ⟨adv, ini, room n1⟩ dec q s[k]).1 w1) : TrueAt w adv ini n1 s (k + 1) w1 := by
  have hB := hn.belowD hq
  obtain ⟨v1, d1, -, -⟩ := hn
  refine ⟨⟨_, v1, d1, good_step hg dec _, ?_, ?_⟩, (hB.block _ (by omega)).trans h.row, h.tabs.next hB (Nat.le_refl _), h.base.trans (hB.mono (by omega))⟩
  · have := bad_step ⟨adv, ini, room n1⟩ dec q s[k]
    omega
  · rw [List.take_succ_eq_append_getElem (by exact hk)]
    exact (trail_step hg ht dec s[k]).1
theorem TrueAt.on {w wr w1 : World} {adv ini : Bool} {n1 : Int} {s : ByteArray} {k : Nat} (h : TrueAt w adv ini n1 s k wr) (hb : Below wr.heap.size wr w1) : TrueAt w adv ini n1 s k w1 := by
  obtain ⟨q, v, h1, h2, h3, h4⟩ := h.ex
  have hl : w.heap.size + 1 ≤ wr.heap.size := Nat.le_of_lt h1.lt
  exact ⟨⟨q, v, h1.below hb, h2, h3, h4⟩, stays h.row hb, h.tabs.next (hb.mono hl) (Nat.le_refl _), h.base.trans (hb.mono (by omega))⟩
set_option maxHeartbeats 2000000 in
set_option maxRecDepth 100000 in
theorem deframe_true (adv ini : Bool) (n1 : Int) (s : ByteArray) (w : World) (ht : Tabs w) :
    Calls Tryd.prog 5 #[rowV adv ini n1, .string s] w fun e w' => e = .returned (.bool true) ∧ Below w.heap.size w w' := by
  have HT := Lib.hid ht
  have HP := Lib.hid (tabs_pos ht)
  clear ht
  by_cases hs : 600 < s.size
  · have h1 : (600 : Int) < (s.size : Int) := by omega
    go_enter Tryd.func5, Tryd.ntmps5
    go_wp2_with (go_at_call 6; ((with_reducible refine (works _ ?_).mono ?_); (· exact tabs_below HT.out ((Below.refl _ _).alloc (Nat.le_refl _) _)); rintro e w1 ⟨rfl, hb⟩; have HB := Lib.hid (on0 hb); clear hb))
    go_ret
    exact ⟨rfl, HB.out⟩
  have h1 : ¬ (600 : Int) < (s.size : Int) := by omega
  obtain ⟨dec, hd⟩ := decs_ex ⟨adv, ini, room n1⟩
  have HD := Lib.hid hd
  clear hd
  go_enter Tryd.func5, Tryd.ntmps5
  go_wp2_with (go_at_call 7; ((with_reducible refine (fnew adv ini n1 _).mono ?_); rintro e w1 ⟨rfl, hd1, hb⟩; have HD1 := Lib.hid hd1; have HB := Lib.hid hb; clear hd1 hb))
  go_loopw [6] (fun i wr => ∃ k : Nat, k ≤ s.size ∧ i = .int .i64 (k : Int) ∧ Hid (TrueAt w adv ini n1 s k wr)) (fun i _ => s.size - (intOf i).toNat)
  case atStart =>
    refine ⟨0, Nat.zero_le _, rfl, Lib.hid ⟨⟨⟨0, [], 0, 0⟩, nilV, ?_, good_new (room_le n1), Nat.le_refl _, Or.inl rfl⟩, ?_, ?_, on0 HB.out⟩⟩
    · have p := HD1.out
      rw [size_alloc] at p
      exact p
    · exact fresh0 HB.out
    · exact ⟨tabs_below HT.out (on0 HB.out), Nat.lt_succ_of_lt HP.out.1, Nat.lt_succ_of_lt HP.out.2⟩
  case round =>
    obtain ⟨k, hk, rfl, HA⟩ := hrel
    obtain ⟨q, v, hq, hg, hbd, htr⟩ := HA.out.ex
    have htw : Tabs wr := HA.out.tabs.1
    by_cases hlk : k < s.size
    · have p := ffeed wr (w.heap.size + 1) ⟨adv, ini, room n1⟩ q v s[k] hq hg (by omega) htw dec (HD.out _ hg.len).1
      have htl := (trail_step hg htr dec s[k]).2
      have HN : ∀ w1, Next (w.heap.size + 1) ⟨adv, ini, room n1⟩ wr v (step ⟨adv, ini, room n1⟩ dec q s[k]).1 w1 → TrueAt w adv ini n1 s (k + 1) w1 := fun w1 hn => HA.out.next hq hg hbd htr hlk hn
      have HNx := Lib.hid HN
      have hle : w.heap.size + 1 ≤ wr.heap.size := Nat.le_of_lt hq.lt
      clear HN
      cases ho : (step ⟨adv, ini, room n1⟩ dec q s[k]).2 with
      | none =>
        rw [ho] at p
        have P := Lib.hid p
        have he := eqN
        have hgt : Tryd.prog.eqGuardType Tryd.prog.depth 30 = false := by kernel_rfl
        clear p htl ho hq hg hbd htr htw
        go_wp2_with (first
          | (go_at_call 12; ((with_reducible refine P.out.mono ?_); rintro e w2 ⟨rfl, hn⟩; have HA2 := Lib.hid (HNx.out w2 hn); clear hn)))
        go_roundw
        case rel => exact ⟨k + 1, by omega, by go_num, Lib.hid (HA2.out.on ((Below.refl _ _).alloc (Nat.le_refl _) _))⟩
        case measure => simp [intOf]; omega
      | some g =>
        rw [ho] at p
        obtain ⟨b1, b2, b3, b4⟩ := tells_at hlk (HD.out _ hg.len).2 (htl g ho)
        have hi5 : g.info.size ≤ 128 := told_info b2
        have b2' : encX adv g ini n1 = 0 := by rw [← encX_room]; exact b2
        have P := Lib.hid p
        have bl := bytesX_long adv g ini
        have HX : Hid (∀ w, Tabs w → Calls Tryd.prog 8 #[rowV adv ini n1, fv g] w fun e w' => e = .returned (.tuple #[.string (bytesX adv g ini), .bool true]) ∧ Below w.heap.size w w') := Lib.hid (fun w ht => fencoded_yes adv g b1 (by unfold maxLen; omega) ini n1 w ht b2')
        generalize bytesX adv g ini = t at b3 b4 HX bl
        have j0 : (0 : Int) ≤ (k : Int) + 1 - (t.size : Int) := by omega
        have j1 : ((k : Int) + 1 - (t.size : Int)).toNat = k + 1 - t.size := by omega
        have j2 : (k : Int) + 1 - (t.size : Int) ≤ (k : Int) + 1 := by omega
        have j3 : (k : Int) + 1 ≤ (s.size : Int) := by omega
        have j4 : ¬ ((k : Int) + 1 < (t.size : Int)) := by omega
        have j5 : decide ((k : Int) + 1 < (t.size : Int)) = false := by simp; omega
        have j6 : ((k : Int) + 1).toNat = k + 1 := by omega
        have j7 : (t.size : Int) ≤ (k : Int) + 1 := by omega
        clear p htl ho hq hg hbd htr htw b1 b2 b2' hi5
        go_wp2_with (first
          | (go_at_call 12; ((with_reducible refine P.out.mono ?_); rintro e w2 ⟨rfl, hn⟩; have HA2 := Lib.hid (HNx.out w2 hn); clear hn; obtain ⟨m0, m1, m2⟩ := row_cells HA2.out.row; have hl2 := lt_heap HA2.out.row))
          | (go_at_call 8; ((with_reducible refine (HX.out _ ?_).mono ?_); (· exact (HA2.out.on ((Below.refl _ _).alloc (Nat.le_refl _) (fO g))).tabs.1); rintro e w3 ⟨rfl, hb⟩; have HA3 := Lib.hid (HA2.out.on (on0 hb)); clear hb)))
        go_roundw
        case rel => exact ⟨k + 1, by omega, by go_num, HA3⟩
        case measure => simp [intOf]; omega
    · go_wp2_with (go_at_call 6; ((with_reducible refine (works _ htw).mono ?_); rintro e w2 ⟨rfl, hb⟩; have HB2 := Lib.hid (HA.out.on hb).base; clear hb))
      go_ret
      exact ⟨rfl, HB2.out⟩
end Go.Proofs.YthlciaomfpephaaDoor.Df
