/-
  All bytes of a text are fed: the frames that are told, whether the last byte told one. Conditions: what the deframer holds lies where it says, and is one of those that a deframer comes to; what Decode answers; at most 1000 bytes.
-/
import Derived.Test.YthlciaomfpephaaDoorDfFeed
import Derived.Test.YthlciaomfpephaaDoorOwnF
namespace Go.Proofs.YthlciaomfpephaaDoor.Df
open Go.RowKit Go.Proofs.YthlciaomfpephaaDoor.Base Go.Proofs.YthlciaomfpephaaDoor.Ea Go.Proofs.YthlciaomfpephaaDoor.Field Go.Proofs.YthlciaomfpephaaDoor.Basic Go.Proofs.YthlciaomfpephaaDoor.Adv
theorem OwnF.kp {w w' : World} {base D : Nat} {t : Value} {l : List Fr} {r : Option Nat} (h : OwnF w base t l) (hk : Kp D r w w') (hD : D < base) (hr : t.ownBlock = none ∨ t.ownBlock ≠ r) : OwnF w' base t l := by
  refine ⟨h.1, ?_⟩
  rcases h.2 with hn | ⟨g, cap, cur, rfl, hb, hgg, rest⟩
  · exact .inl hn
  · refine .inr ⟨g, cap, cur, rfl, hb, ?_, rest⟩
    exact hk.at hgg (by omega) (by simpa [Value.ownBlock] using hr)
theorem Kp.grownNew {D : Nat} {r t : Option Nat} {a b c : World} (h : Kp D r a b) (hg : b.grownBy c t) (ht : ∀ k, t = some k → a.heap.size ≤ k) : Kp D r a c :=
  ⟨hg.os.trans h.os, hg.tape.trans h.tape, hg.output.trans h.output, Nat.le_trans h.size hg.size, fun k hk h1 h2 => (hg.block k (Nat.lt_of_lt_of_le hk h.size) (fun e => by have := ht k e.symm; omega)).trans (h.block k hk h1 h2)⟩
theorem DfAt.grownBy {w w' : World} {D : Nat} {c : Cf} {q : St} {v : Value} {t : Option Nat} (h : DfAt w D c q v) (hg : w.grownBy w' t) (hD : t ≠ some D) (hv : v.ownBlock = none ∨ v.ownBlock ≠ t) : DfAt w' D c q v :=
  ⟨(hg.block D h.lt (fun e => hD e.symm)).trans h.blk, h.own.grown hg hv⟩
/-- Two slices do not lie in one block. -/
def Dis (t v : Value) : Prop := ∀ k, t.ownBlock = some k → v.ownBlock ≠ some k
/-- What holds when some bytes have been fed. -/
structure Fed (D : Nat) (c : Cf) (w : World) (v : Value) (R : Rs) (t : Value) (wr : World) : Prop where
  at' : ∃ v', DfAt wr D c R.q v' ∧ Lies w v v' ∧ Dis t v'
  kp : Kp D v.ownBlock w wr
  out : OwnF wr w.heap.size t R.out
theorem Fed.next {D : Nat} {c : Cf} {w wr : World} {v t : Value} {R : Rs} (h : Fed D c w v R t wr) : Next D c w v R.q wr := by
  obtain ⟨v', h1, h2, _⟩ := h.at'
  exact ⟨v', h1, h.kp, h2⟩
theorem fed_start {D : Nat} {c : Cf} {w : World} {v : Value} {q : St} (h : DfAt w D c q v) : Fed D c w v ⟨q, [], false⟩ (.slice none 0 0) w :=
  ⟨⟨v, h, lies_refl _ _, fun _ h => by cases h⟩, Kp.refl _ _ _, ownF_nil _ _⟩
/-- A byte more, that told nothing. -/
theorem fed_none {D : Nat} {c : Cf} {w wr w1 : World} {v v' t : Value} {R : Rs} {q : St} {l : Bool} (hD : D < w.heap.size) (h : Fed D c w v R t wr) (h2 : Lies w v v') (h3 : Dis t v') (hn : Next D c wr v' q w1) : Fed D c w v ⟨q, R.out, l⟩ t w1 := by
  obtain ⟨v1, n1, n2, n3⟩ := hn
  have hd : Dis t v1 := by
    intro k hk e
    rcases n3 with n3 | n3
    · exact h3 k hk (by rw [← n3]; exact e)
    · have a := n3 k e
      have b := (h.out.lt k hk).2
      omega
  refine ⟨⟨v1, n1, lies_on h2 h.kp.size n3, hd⟩, h.kp.next h2 n2, h.out.kp n2 hD ?_⟩
  cases ht : t.ownBlock with
  | none => exact Or.inl rfl
  | some k => exact Or.inr (fun e => h3 k ht e.symm)
theorem Fed.alloc {D : Nat} {c : Cf} {w wr : World} {v t : Value} {R : Rs} (h : Fed D c w v R t wr) (o : Obj) : Fed D c w v R t (wr.alloc o) := by
  obtain ⟨v', h1, h2, h3⟩ := h.at'
  exact ⟨⟨v', h1.alloc o, h2, h3⟩, h.kp.alloc o, h.out.alloc o⟩
/-- A frame is appended. -/
theorem fed_some {D : Nat} {c : Cf} {w wr w1 : World} {v t t1 : Value} {R : Rs} {g : Fr} {l : Bool} (hD : D < w.heap.size) (h : Fed D c w v R t wr) (ho : OwnF w1 w.heap.size t1 (R.out ++ [g])) (hg : wr.grownBy w1 t.ownBlock) (hv : t1.ownBlock = t.ownBlock ∨ t1.ownBlock = some wr.heap.size) : Fed D c w v ⟨R.q, R.out ++ [g], l⟩ t1 w1 := by
  obtain ⟨v', h1, h2, h3⟩ := h.at'
  have ht := h.out.lt
  refine ⟨⟨v', h1.grownBy hg (fun e => by have := (ht D e).1; omega) ?_, h2, ?_⟩, h.kp.grownNew hg (fun k e => (ht k e).1), ho⟩
  · cases hk : t.ownBlock with
    | none => cases hv' : v'.ownBlock <;> simp
    | some k => exact Or.inr (fun e => h3 k hk e)
  · intro k hk e
    rcases hv with hv | hv
    · exact h3 k (by rw [← hv]; exact hk) e
    · rw [hv, Option.some.injEq] at hk
      have := (h1.own.lt k e).2
      omega
theorem run_take (c : Cf) (dec : List UInt8 → Fr × Nat) (r : Rs) (s : ByteArray) (k : Nat) (hk : k < s.size) : run c dec r (s.data.toList.take (k + 1)) = one1 c dec (run c dec r (s.data.toList.take k)) s[k] := by
  have e : s.data.toList.take (k + 1) = s.data.toList.take k ++ [s[k]] := by
    rw [List.take_succ_eq_append_getElem (by exact hk)]; rfl
  rw [e, run_app]; rfl
theorem one1_none {c : Cf} {dec : List UInt8 → Fr × Nat} {r : Rs} {b : UInt8} (h : (step c dec r.q b).2 = none) : one1 c dec r b = ⟨(step c dec r.q b).1, r.out, false⟩ := by
  unfold one1; rw [h]; simp
theorem one1_some {c : Cf} {dec : List UInt8 → Fr × Nat} {r : Rs} {b : UInt8} {g : Fr} (h : (step c dec r.q b).2 = some g) : one1 c dec r b = ⟨(step c dec r.q b).1, r.out ++ [g], true⟩ := by
  unfold one1; rw [h]; simp
theorem take_whole (s : ByteArray) (k : Nat) (h : s.size ≤ k) : s.data.toList.take k = s.data.toList := List.take_of_length_le (by exact h)
abbrev feedsP (D : Nat) (c : Cf) (dec : List UInt8 → Fr × Nat) (q : St) (v : Value) (s : ByteArray) (w : World) (e : Ending) (w' : World) : Prop :=
  ∃ t, e = .returned (.tuple #[t, .bool (run c dec ⟨q, [], false⟩ s.data.toList).last]) ∧ Fed D c w v (run c dec ⟨q, [], false⟩ s.data.toList) t w'
/-- The two tables lie below a block. -/
def TabsB (w : World) (D : Nat) : Prop := Tabs w ∧ 0 < D ∧ 1 < D
theorem TabsB.on {w w' : World} {D : Nat} (h : TabsB w D) (hb : Below D w w') : Tabs w' :=
  ⟨fun i hi => (hb.cell (p := ⟨0, i, none⟩) h.2.1).trans (h.1.1 i hi), fun i hi => (hb.cell (p := ⟨1, i, none⟩) h.2.2).trans (h.1.2 i hi)⟩
theorem Kp.belowD {D : Nat} {r : Option Nat} {w w' : World} (h : Kp D r w w') (hr : ∀ k, r = some k → D < k) (hD : D ≤ w.heap.size) : Below D w w' :=
  ⟨h.os, h.tape, h.output, h.size, fun k hk => h.block k (by omega) (by omega) (fun e => by have := hr k e.symm; omega)⟩
theorem DfAt.over {w : World} {D : Nat} {c : Cf} {q : St} {v : Value} (h : DfAt w D c q v) : ∀ k, v.ownBlock = some k → D < k := fun k hk => by have := (h.own.lt k hk).1; omega
set_option maxHeartbeats 1000000 in
set_option maxRecDepth 100000 in
theorem ffeeds (w : World) (D : Nat) (c : Cf) (q : St) (v : Value) (s : ByteArray) (h : DfAt w D c q v) (hg : Good c q) (hb : q.bad + s.size ≤ 1000000) (ht : TabsB w D) (hs : s.size ≤ 1000) (dec : List UInt8 → Fr × Nat) (hd : ∀ l, l.length ≤ 300 → DecX c l (dec l)) :
    Calls Tryd.prog 9 #[ptr D, .string s] w fun e w' => feedsP D c dec q v s w e w' := by
  have H := Lib.hid h
  have HG := Lib.hid hg
  have HB := Lib.hid hb
  have HT := Lib.hid ht
  have HD := Lib.hid hd
  have hlt := h.lt
  clear h hg hb ht hd
  go_enter Tryd.func9, Tryd.ntmps9
  go_wp2
  go_loopw [6, 7, 8] (fun t l i wr => ∃ (k : Nat) (R : Rs), k ≤ s.size ∧ i = .int .i64 (k : Int) ∧ l = .bool R.last ∧ Hid (run c dec ⟨q, [], false⟩ (s.data.toList.take k) = R) ∧ Hid (Fed D c w v R t wr)) (fun _ _ i _ => s.size - (intOf i).toNat)
  case atStart => exact ⟨0, ⟨q, [], false⟩, Nat.zero_le _, rfl, rfl, Lib.hid rfl, Lib.hid (fed_start H.out)⟩
  case round =>
    obtain ⟨k, R, hk, rfl, rfl, HR, HF⟩ := hrel
    by_cases hlk : k < s.size
    · obtain ⟨v', h1, h2, h3⟩ := HF.out.at'
      have hgr : Good c R.q := by rw [← HR.out]; exact good_run dec _ HG.out
      have hbr : R.q.bad ≤ 1000000 := by
        have p := bad_run c dec (s.data.toList.take k) ⟨q, [], false⟩
        rw [HR.out] at p
        have p2 := HB.out
        have p3 : (s.data.toList.take k).length ≤ s.size := by rw [List.length_take]; exact Nat.le_trans (Nat.min_le_left _ _) hk
        simp only at p
        omega
      have hol : R.out.length ≤ 1000 := by
        have p := out_run c dec (s.data.toList.take k) ⟨q, [], false⟩
        rw [HR.out] at p
        have p3 : (s.data.toList.take k).length ≤ s.size := by rw [List.length_take]; exact Nat.le_trans (Nat.min_le_left _ _) hk
        simp only [List.length_nil] at p
        omega
      have HOL := Lib.hid hol
      have htr : Tabs wr := HT.out.on (HF.out.kp.belowD H.out.over (by omega))
      have p := ffeed wr D c R.q v' s[k] h1 hgr hbr htr dec (HD.out _ hgr.len)
      have HS := Lib.hid (run_take c dec ⟨q, [], false⟩ s k hlk)
      have hsz := HF.out.kp.size
      cases ho : (step c dec R.q s[k]).2 with
      | none =>
        rw [ho] at p
        have HP := Lib.hid p
        have HE := Lib.hid (one1_none ho)
        have H2 := Lib.hid h2
        have H3 := Lib.hid h3
        clear h1 h2 h3 hgr hbr htr p ho hol
        go_wp2_with (first
          | (go_at_call 12; ((with_reducible refine HP.out.mono ?_); rintro e w1 ⟨rfl, hn⟩; have HF2 := Lib.hid (fed_none (l := false) hlt HF.out H2.out H3.out hn); clear hn)))
        go_roundw
        case rel => exact ⟨k + 1, _, by omega, by go_num, rfl, Lib.hid (by rw [HS.out, HR.out, HE.out]), Lib.hid (HF2.out.alloc _)⟩
        case measure => simp [intOf]; omega
      | some g =>
        rw [ho] at p
        have HP := Lib.hid p
        have HE := Lib.hid (one1_some ho)
        have H2 := Lib.hid h2
        have H3 := Lib.hid h3
        clear h1 h2 h3 hgr hbr htr p ho hol
        go_wp2_with (first
          | (go_at_call 12; ((with_reducible refine HP.out.mono ?_); rintro e w1 ⟨rfl, hn⟩; have HF2 := Lib.hid (((fed_none (l := false) hlt HF.out H2.out H3.out hn).alloc (fO g)).alloc (fO g)); clear hn))
          | (at_builtin; refine wpList_append_frame _ rfl _ _ rfl w.heap.size _ rfl R.out HF2.out.out _ _ rfl g (nest _ [fO g, fO g] 1 _ rfl) (by have := HOL.out; omega) (by have := HF2.out.kp.size; exact this) ?_; intro t1 w3 ho hg hv; have HF3 := Lib.hid (fed_some (l := true) hlt HF2.out ho hg hv); clear ho hg hv))
        go_roundw
        case rel => exact ⟨k + 1, _, by omega, by go_num, rfl, Lib.hid (by rw [HS.out, HR.out, HE.out]), HF3⟩
        case measure => simp [intOf]; omega
    · have HA := Lib.hid (take_whole s k (by omega))
      go_wp2
      go_ret2
      rw [HA.out] at HR
      unfold feedsP
      rw [HR.out]
      exact ⟨_, rfl, HF.out⟩
end Go.Proofs.YthlciaomfpephaaDoor.Df
