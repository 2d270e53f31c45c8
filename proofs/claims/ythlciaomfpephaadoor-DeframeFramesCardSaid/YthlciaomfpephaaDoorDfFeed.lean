/-
  Feed of a deframer: what a byte does. Conditions: what it holds lies where it says, and is one of those that a deframer comes to; what Decode answers.
-/
import Derived.Test.YthlciaomfpephaaDoorDfWhole
namespace Go.Proofs.YthlciaomfpephaaDoor.Df
open Go.RowKit Go.Proofs.YthlciaomfpephaaDoor.Base Go.Proofs.YthlciaomfpephaaDoor.Ea Go.Proofs.YthlciaomfpephaaDoor.Field Go.Proofs.YthlciaomfpephaaDoor.Basic Go.Proofs.YthlciaomfpephaaDoor.Adv
theorem flength (w : World) (D : Nat) (c : Cf) (q : St) (v : Value) (b : UInt8) (h : DfAt w D c q v) (hl : q.got.length ≤ 300) (h2 : 2 ≤ q.got.length) (hb : q.bad ≤ 1000000) (hr : c.room ≤ 128) :
    Calls Tryd.prog 54 #[ptr D, .int .u8 (b.toNat : Int)] w fun e w' => e = .returned (.tuple #[noFr, .bool false]) ∧ Next D c w v (stepL c q b) w' := by
  obtain ⟨o, ho⟩ : ∃ o : ByteArray, (⟨((q.got ++ [b]).drop 2).toArray⟩ : ByteArray) = o := ⟨_, rfl⟩
  have hd : o.data.toList = (more q b).got.drop 2 := by rw [← ho]; simp [more]
  have hz : o.size ≤ 1000 := by
    rw [← size_toList, hd]
    simp [more]; omega
  have ct : TakeIs o (tkN o.data.toList) (tkZ o.data.toList) (tkE o.data.toList) := fun w => take o w (by unfold maxLen; omega)
  have cl : LeastIs o (tkN (o.data.toList ++ [1])) := fun w => fleast o hz w
  have hn : tkN o.data.toList ≤ 1000000 := by
    rcases tk_cases o with e | ⟨m, e0, _, e, _⟩ | ⟨m, e0, _, e⟩ | ⟨m, _, e0, _, e, _⟩
    · unfold tkN; rw [e]; decide
    · unfold tkN; rw [e]; show m ≤ _; omega
    · unfold tkN; rw [e]; show m ≤ _; omega
    · unfold tkN; rw [e]; show m ≤ _; omega
  have cn : LenIs (tkN o.data.toList) (len (tkN o.data.toList)) := fun w => length _ (by omega) w
  rw [hd] at ct cl cn
  unfold stepL
  by_cases he : tkE ((more q b).got.drop 2) ≠ 0
  · rw [if_pos he]
    by_cases hm : c.room < tkN ((more q b).got.drop 2 ++ [1])
    · rw [if_pos hm]
      exact flength_1 w D c q v b h hl h2 hb o ho _ _ _ _ ct cl he hm
    · rw [if_neg hm]
      exact flength_2 w D c q v b h hl h2 hb o ho _ _ _ _ ct cl he hm
  · have he' : tkE ((more q b).got.drop 2) = 0 := Classical.byContradiction he
    rw [if_neg he]
    by_cases hm : c.room < tkN ((more q b).got.drop 2)
    · rw [if_pos (Or.inl hm)]
      exact flength_3 w D c q v b h hl h2 hb o ho _ _ _ ct he' hm
    · by_cases ht : (len (tkN ((more q b).got.drop 2))).data.toList = (more q b).got.drop 2
      · rw [if_neg (fun k => k.elim hm (fun k => k ht))]
        have e : len (tkN ((more q b).got.drop 2)) = o := bext (ht.trans hd.symm)
        rw [e] at cn
        exact flength_5 w D c q v b h hl h2 hb o ho _ _ _ ct cn he' hm hr
      · rw [if_pos (Or.inr ht)]
        exact flength_4 w D c q v b h hl h2 hb o ho _ _ _ _ ct cn he' hm (fun k => ht (by rw [k]; exact hd))
set_option maxHeartbeats 1000000 in
theorem ffeed_0 (w : World) (D : Nat) (c : Cf) (q : St) (v : Value) (b : Int) (h : DfAt w D c q v) (hk : q.m = 0) (q2 : St)
    (C : Calls Tryd.prog 14 #[ptr D, .int .u8 b] (w.alloc noObj) fun e w' => e = .returned (.tuple #[noFr, .bool false]) ∧ Next D c (w.alloc noObj) v q2 w') :
    Calls Tryd.prog 12 #[ptr D, .int .u8 b] w fun e w' => e = .returned (.tuple #[noFr, .bool false]) ∧ Next D c w v q2 w' := by
  have H := Lib.hid h
  have HC := Lib.hid C
  obtain ⟨-, -, -, g3, -, -, -⟩ := h.cells
  rw [hk] at g3
  have G3 : w.cell? ⟨D, 3, none⟩ = some (.func (.func 14) #[ptr D] #[]) := g3
  have hlt := h.lt
  have hnf : ∀ (W : World) (f : Fn) (x y : Array Value), (binOp .eql 39 (.func f x y) .nilFunc).run Tryd.prog W = .ok (.bool false) W := fun W f x y => by kernel_rfl
  clear h C hk g3
  go_enter Tryd.func12, Tryd.ntmps12
  go_wp2_with (first
    | (go_at_call 14; ((with_reducible refine HC.out.mono ?_); rintro e w1 ⟨rfl, hn⟩; have HN := Lib.hid hn; clear hn; obtain ⟨⟨k0, k1, k2, k3, k4, k5, k6⟩, kf⟩ := no_cells (HN.out.fresh H.out rfl))))
  exact bodyPost_ret (v := .tuple #[noFr, .bool false]) (by simp [results, Tryd.results12, go_sem, k0, k1, k2, k3, k4, k5, k6]) rfl ⟨rfl, HN.out.ret H.out rfl _ _ _ _ _ _ _⟩
set_option maxHeartbeats 1000000 in
theorem ffeed_1 (w : World) (D : Nat) (c : Cf) (q : St) (v : Value) (b : Int) (h : DfAt w D c q v) (hk : q.m = 1) (q2 : St)
    (C : Calls Tryd.prog 37 #[ptr D, .int .u8 b] (w.alloc noObj) fun e w' => e = .returned (.tuple #[noFr, .bool false]) ∧ Next D c (w.alloc noObj) v q2 w') :
    Calls Tryd.prog 12 #[ptr D, .int .u8 b] w fun e w' => e = .returned (.tuple #[noFr, .bool false]) ∧ Next D c w v q2 w' := by
  have H := Lib.hid h
  have HC := Lib.hid C
  obtain ⟨-, -, -, g3, -, -, -⟩ := h.cells
  rw [hk] at g3
  have G3 : w.cell? ⟨D, 3, none⟩ = some (.func (.func 37) #[ptr D] #[]) := g3
  have hlt := h.lt
  have hnf : ∀ (W : World) (f : Fn) (x y : Array Value), (binOp .eql 39 (.func f x y) .nilFunc).run Tryd.prog W = .ok (.bool false) W := fun W f x y => by kernel_rfl
  clear h C hk g3
  go_enter Tryd.func12, Tryd.ntmps12
  go_wp2_with (first
    | (go_at_call 37; ((with_reducible refine HC.out.mono ?_); rintro e w1 ⟨rfl, hn⟩; have HN := Lib.hid hn; clear hn; obtain ⟨⟨k0, k1, k2, k3, k4, k5, k6⟩, kf⟩ := no_cells (HN.out.fresh H.out rfl))))
  exact bodyPost_ret (v := .tuple #[noFr, .bool false]) (by simp [results, Tryd.results12, go_sem, k0, k1, k2, k3, k4, k5, k6]) rfl ⟨rfl, HN.out.ret H.out rfl _ _ _ _ _ _ _⟩
set_option maxHeartbeats 1000000 in
theorem ffeed_2 (w : World) (D : Nat) (c : Cf) (q : St) (v : Value) (b : Int) (h : DfAt w D c q v) (hk : q.m = 2) (q2 : St)
    (C : Calls Tryd.prog 36 #[ptr D, .int .u8 b] (w.alloc noObj) fun e w' => e = .returned (.tuple #[noFr, .bool false]) ∧ Next D c (w.alloc noObj) v q2 w') :
    Calls Tryd.prog 12 #[ptr D, .int .u8 b] w fun e w' => e = .returned (.tuple #[noFr, .bool false]) ∧ Next D c w v q2 w' := by
  have H := Lib.hid h
  have HC := Lib.hid C
  obtain ⟨-, -, -, g3, -, -, -⟩ := h.cells
  rw [hk] at g3
  have G3 : w.cell? ⟨D, 3, none⟩ = some (.func (.func 36) #[ptr D] #[]) := g3
  have hlt := h.lt
  have hnf : ∀ (W : World) (f : Fn) (x y : Array Value), (binOp .eql 39 (.func f x y) .nilFunc).run Tryd.prog W = .ok (.bool false) W := fun W f x y => by kernel_rfl
  clear h C hk g3
  go_enter Tryd.func12, Tryd.ntmps12
  go_wp2_with (first
    | (go_at_call 36; ((with_reducible refine HC.out.mono ?_); rintro e w1 ⟨rfl, hn⟩; have HN := Lib.hid hn; clear hn; obtain ⟨⟨k0, k1, k2, k3, k4, k5, k6⟩, kf⟩ := no_cells (HN.out.fresh H.out rfl))))
  exact bodyPost_ret (v := .tuple #[noFr, .bool false]) (by simp [results, Tryd.results12, go_sem, k0, k1, k2, k3, k4, k5, k6]) rfl ⟨rfl, HN.out.ret H.out rfl _ _ _ _ _ _ _⟩
set_option maxHeartbeats 1000000 in
theorem ffeed_3 (w : World) (D : Nat) (c : Cf) (q : St) (v : Value) (b : Int) (h : DfAt w D c q v) (hk : q.m = 3) (q2 : St)
    (C : Calls Tryd.prog 48 #[ptr D, .int .u8 b] (w.alloc noObj) fun e w' => e = .returned (.tuple #[noFr, .bool false]) ∧ Next D c (w.alloc noObj) v q2 w') :
    Calls Tryd.prog 12 #[ptr D, .int .u8 b] w fun e w' => e = .returned (.tuple #[noFr, .bool false]) ∧ Next D c w v q2 w' := by
  have H := Lib.hid h
  have HC := Lib.hid C
  obtain ⟨-, -, -, g3, -, -, -⟩ := h.cells
  rw [hk] at g3
  have G3 : w.cell? ⟨D, 3, none⟩ = some (.func (.func 48) #[ptr D] #[]) := g3
  have hlt := h.lt
  have hnf : ∀ (W : World) (f : Fn) (x y : Array Value), (binOp .eql 39 (.func f x y) .nilFunc).run Tryd.prog W = .ok (.bool false) W := fun W f x y => by kernel_rfl
  clear h C hk g3
  go_enter Tryd.func12, Tryd.ntmps12
  go_wp2_with (first
    | (go_at_call 48; ((with_reducible refine HC.out.mono ?_); rintro e w1 ⟨rfl, hn⟩; have HN := Lib.hid hn; clear hn; obtain ⟨⟨k0, k1, k2, k3, k4, k5, k6⟩, kf⟩ := no_cells (HN.out.fresh H.out rfl))))
  exact bodyPost_ret (v := .tuple #[noFr, .bool false]) (by simp [results, Tryd.results12, go_sem, k0, k1, k2, k3, k4, k5, k6]) rfl ⟨rfl, HN.out.ret H.out rfl _ _ _ _ _ _ _⟩
set_option maxHeartbeats 1000000 in
theorem ffeed_4 (w : World) (D : Nat) (c : Cf) (q : St) (v : Value) (b : Int) (h : DfAt w D c q v) (hk : q.m = 4) (q2 : St)
    (C : Calls Tryd.prog 54 #[ptr D, .int .u8 b] (w.alloc noObj) fun e w' => e = .returned (.tuple #[noFr, .bool false]) ∧ Next D c (w.alloc noObj) v q2 w') :
    Calls Tryd.prog 12 #[ptr D, .int .u8 b] w fun e w' => e = .returned (.tuple #[noFr, .bool false]) ∧ Next D c w v q2 w' := by
  have H := Lib.hid h
  have HC := Lib.hid C
  obtain ⟨-, -, -, g3, -, -, -⟩ := h.cells
  rw [hk] at g3
  have G3 : w.cell? ⟨D, 3, none⟩ = some (.func (.func 54) #[ptr D] #[]) := g3
  have hlt := h.lt
  have hnf : ∀ (W : World) (f : Fn) (x y : Array Value), (binOp .eql 39 (.func f x y) .nilFunc).run Tryd.prog W = .ok (.bool false) W := fun W f x y => by kernel_rfl
  clear h C hk g3
  go_enter Tryd.func12, Tryd.ntmps12
  go_wp2_with (first
    | (go_at_call 54; ((with_reducible refine HC.out.mono ?_); rintro e w1 ⟨rfl, hn⟩; have HN := Lib.hid hn; clear hn; obtain ⟨⟨k0, k1, k2, k3, k4, k5, k6⟩, kf⟩ := no_cells (HN.out.fresh H.out rfl))))
  exact bodyPost_ret (v := .tuple #[noFr, .bool false]) (by simp [results, Tryd.results12, go_sem, k0, k1, k2, k3, k4, k5, k6]) rfl ⟨rfl, HN.out.ret H.out rfl _ _ _ _ _ _ _⟩
set_option maxHeartbeats 1000000 in
theorem ffeed_5 (w : World) (D : Nat) (c : Cf) (q : St) (v : Value) (b : Int) (h : DfAt w D c q v) (hk : q.m = 5) (q2 : St)
    (C : Calls Tryd.prog 60 #[ptr D, .int .u8 b] (w.alloc noObj) fun e w' => e = .returned (.tuple #[noFr, .bool false]) ∧ Next D c (w.alloc noObj) v q2 w') :
    Calls Tryd.prog 12 #[ptr D, .int .u8 b] w fun e w' => e = .returned (.tuple #[noFr, .bool false]) ∧ Next D c w v q2 w' := by
  have H := Lib.hid h
  have HC := Lib.hid C
  obtain ⟨-, -, -, g3, -, -, -⟩ := h.cells
  rw [hk] at g3
  have G3 : w.cell? ⟨D, 3, none⟩ = some (.func (.func 60) #[ptr D] #[]) := g3
  have hlt := h.lt
  have hnf : ∀ (W : World) (f : Fn) (x y : Array Value), (binOp .eql 39 (.func f x y) .nilFunc).run Tryd.prog W = .ok (.bool false) W := fun W f x y => by kernel_rfl
  clear h C hk g3
  go_enter Tryd.func12, Tryd.ntmps12
  go_wp2_with (first
    | (go_at_call 60; ((with_reducible refine HC.out.mono ?_); rintro e w1 ⟨rfl, hn⟩; have HN := Lib.hid hn; clear hn; obtain ⟨⟨k0, k1, k2, k3, k4, k5, k6⟩, kf⟩ := no_cells (HN.out.fresh H.out rfl))))
  exact bodyPost_ret (v := .tuple #[noFr, .bool false]) (by simp [results, Tryd.results12, go_sem, k0, k1, k2, k3, k4, k5, k6]) rfl ⟨rfl, HN.out.ret H.out rfl _ _ _ _ _ _ _⟩
set_option maxHeartbeats 1000000 in
theorem ffeed_6 (w : World) (D : Nat) (c : Cf) (q : St) (v : Value) (b : Int) (h : DfAt w D c q v) (hk : q.m = 6) (q2 : St)
    (C : Calls Tryd.prog 62 #[ptr D, .int .u8 b] (w.alloc noObj) fun e w' => e = .returned (.tuple #[noFr, .bool false]) ∧ Next D c (w.alloc noObj) v q2 w') :
    Calls Tryd.prog 12 #[ptr D, .int .u8 b] w fun e w' => e = .returned (.tuple #[noFr, .bool false]) ∧ Next D c w v q2 w' := by
  have H := Lib.hid h
  have HC := Lib.hid C
  obtain ⟨-, -, -, g3, -, -, -⟩ := h.cells
  rw [hk] at g3
  have G3 : w.cell? ⟨D, 3, none⟩ = some (.func (.func 62) #[ptr D] #[]) := g3
  have hlt := h.lt
  have hnf : ∀ (W : World) (f : Fn) (x y : Array Value), (binOp .eql 39 (.func f x y) .nilFunc).run Tryd.prog W = .ok (.bool false) W := fun W f x y => by kernel_rfl
  clear h C hk g3
  go_enter Tryd.func12, Tryd.ntmps12
  go_wp2_with (first
    | (go_at_call 62; ((with_reducible refine HC.out.mono ?_); rintro e w1 ⟨rfl, hn⟩; have HN := Lib.hid hn; clear hn; obtain ⟨⟨k0, k1, k2, k3, k4, k5, k6⟩, kf⟩ := no_cells (HN.out.fresh H.out rfl))))
  exact bodyPost_ret (v := .tuple #[noFr, .bool false]) (by simp [results, Tryd.results12, go_sem, k0, k1, k2, k3, k4, k5, k6]) rfl ⟨rfl, HN.out.ret H.out rfl _ _ _ _ _ _ _⟩
set_option maxHeartbeats 1000000 in
theorem ffeed_1s (w : World) (D : Nat) (c : Cf) (q : St) (v : Value) (b : Int) (h : DfAt w D c q v) (hk : q.m = 1) (q2 : St) (g : Fr)
    (C : Calls Tryd.prog 37 #[ptr D, .int .u8 b] (w.alloc noObj) fun e w' => e = .returned (.tuple #[fv g, .bool true]) ∧ Next D c (w.alloc noObj) v q2 w') :
    Calls Tryd.prog 12 #[ptr D, .int .u8 b] w fun e w' => e = .returned (.tuple #[fv g, .bool true]) ∧ Next D c w v q2 w' := by
  have H := Lib.hid h
  have HC := Lib.hid C
  obtain ⟨-, -, -, g3, -, -, -⟩ := h.cells
  rw [hk] at g3
  have G3 : w.cell? ⟨D, 3, none⟩ = some (.func (.func 37) #[ptr D] #[]) := g3
  have hlt := h.lt
  have hnf : ∀ (W : World) (f : Fn) (x y : Array Value), (binOp .eql 39 (.func f x y) .nilFunc).run Tryd.prog W = .ok (.bool false) W := fun W f x y => by kernel_rfl
  clear h C hk g3
  go_enter Tryd.func12, Tryd.ntmps12
  go_wp2_with (first
    | (go_at_call 37; ((with_reducible refine HC.out.mono ?_); rintro e w1 ⟨rfl, hn⟩; have HN := Lib.hid hn; clear hn; obtain ⟨⟨k0, k1, k2, k3, k4, k5, k6⟩, kf⟩ := no_cells (HN.out.fresh H.out rfl))))
  exact bodyPost_ret (v := .tuple #[fv g, .bool true]) (by simp [results, Tryd.results12, go_sem, k0, k1, k2, k3, k4, k5, k6]) rfl ⟨rfl, HN.out.ret H.out rfl _ _ _ _ _ _ _⟩
set_option maxHeartbeats 1000000 in
theorem ffeed_6s (w : World) (D : Nat) (c : Cf) (q : St) (v : Value) (b : Int) (h : DfAt w D c q v) (hk : q.m = 6) (q2 : St) (g : Fr)
    (C : Calls Tryd.prog 62 #[ptr D, .int .u8 b] (w.alloc noObj) fun e w' => e = .returned (.tuple #[fv g, .bool true]) ∧ Next D c (w.alloc noObj) v q2 w') :
    Calls Tryd.prog 12 #[ptr D, .int .u8 b] w fun e w' => e = .returned (.tuple #[fv g, .bool true]) ∧ Next D c w v q2 w' := by
  have H := Lib.hid h
  have HC := Lib.hid C
  obtain ⟨-, -, -, g3, -, -, -⟩ := h.cells
  rw [hk] at g3
  have G3 : w.cell? ⟨D, 3, none⟩ = some (.func (.func 62) #[ptr D] #[]) := g3
  have hlt := h.lt
  have hnf : ∀ (W : World) (f : Fn) (x y : Array Value), (binOp .eql 39 (.func f x y) .nilFunc).run Tryd.prog W = .ok (.bool false) W := fun W f x y => by kernel_rfl
  clear h C hk g3
  go_enter Tryd.func12, Tryd.ntmps12
  go_wp2_with (first
    | (go_at_call 62; ((with_reducible refine HC.out.mono ?_); rintro e w1 ⟨rfl, hn⟩; have HN := Lib.hid hn; clear hn; obtain ⟨⟨k0, k1, k2, k3, k4, k5, k6⟩, kf⟩ := no_cells (HN.out.fresh H.out rfl))))
  exact bodyPost_ret (v := .tuple #[fv g, .bool true]) (by simp [results, Tryd.results12, go_sem, k0, k1, k2, k3, k4, k5, k6]) rfl ⟨rfl, HN.out.ret H.out rfl _ _ _ _ _ _ _⟩
/-- What Decode answers, of either option. -/
def DecX (c : Cf) (l : List UInt8) (a : Fr × Nat) : Prop := if c.adv then DecA ⟨l.toArray⟩ c.ini c.room a.1 a.2 else DecB ⟨l.toArray⟩ c.ini c.room a.1 a.2
/-- A byte comes. -/
theorem ffeed (w : World) (D : Nat) (c : Cf) (q : St) (v : Value) (b : UInt8) (h : DfAt w D c q v) (hg : Good c q) (hb : q.bad ≤ 1000000) (ht : Tabs w) (dec : List UInt8 → Fr × Nat) (hd : DecX c q.got (dec q.got)) :
    Calls Tryd.prog 12 #[ptr D, .int .u8 (b.toNat : Int)] w fun e w' => e = .returned (ansV (step c dec q b).2) ∧ Next D c w v (step c dec q b).1 w' := by
  have hr := hg.1
  have hl := hg.len
  have h' := h.alloc noObj
  have ht' : Tabs (w.alloc noObj) := tabs_below ht ((Below.refl _ _).alloc (Nat.le_refl _) _)
  obtain ⟨m, got, left, bad⟩ := q
  match m, hg, h, h' with
  | 0, hg, h, h' => exact ffeed_0 w D c _ v _ h rfl _ (flost _ D c _ v b h')
  | 1, ⟨_, ha, h1⟩, h, h' =>
    unfold DecX at hd
    rw [if_pos ha] at hd
    simp only [step]
    by_cases k1 : b ≠ 126
    · rw [if_pos k1]
      by_cases k2 : got.length ≤ most c
      · rw [if_pos k2]
        exact ffeed_1 w D c _ v _ h rfl _ (fwritten_more _ D c _ v b h' hl hr k1 k2)
      · rw [if_neg k2]
        exact ffeed_1 w D c _ v _ h rfl _ (fwritten_full _ D c _ v b h' hr k1 k2)
    · have k1' : b = 126 := Classical.byContradiction k1
      rw [if_neg k1]
      subst k1'
      by_cases k2 : got.length = 0
      · rw [if_pos k2]
        exact ffeed_1 w D c _ v _ h rfl _ (fwritten_none _ D c _ v h' hr k2)
      · rw [if_neg k2]
        by_cases k3 : most c < got.length
        · rw [if_pos k3]
          exact ffeed_1 w D c _ v _ h rfl _ (fwritten_spoil _ D c _ v 126 rfl h' hb hr k3)
        · rw [if_neg k3]
          have p := fwritten_ok _ D c _ v h' hb ht' k2 (by show got.length ≤ _; omega) hr _ _ hd
          cases hj : (judge c ⟨1, got, left, bad⟩ (dec got)).2 with
          | none =>
            have e : judge c ⟨1, got, left, bad⟩ ((dec got).1, (dec got).2) = judge c ⟨1, got, left, bad⟩ (dec got) := rfl
            rw [e, hj] at p
            exact ffeed_1 w D c _ v _ h rfl _ p
          | some g =>
            have e : judge c ⟨1, got, left, bad⟩ ((dec got).1, (dec got).2) = judge c ⟨1, got, left, bad⟩ (dec got) := rfl
            rw [e, hj] at p
            exact ffeed_1s w D c _ v _ h rfl _ g p
  | 2, ⟨_, ha, h1⟩, h, h' =>
    simp only [step]
    by_cases k1 : b = 249
    · rw [if_pos k1]
      subst k1
      exact ffeed_2 w D c _ v _ h rfl _ (faddress_flag _ D c _ v h')
    · rw [if_neg k1]
      by_cases k2 : spK b.toNat = false
      · rw [if_pos k2]
        exact ffeed_2 w D c _ v _ h rfl _ (faddress_no _ D c _ v b h' hb k1 k2)
      · rw [if_neg k2]
        exact ffeed_2 w D c _ v _ h rfl _ (faddress_ok _ D c _ v b h' hl k1 (by simpa using k2))
  | 3, ⟨_, ha, h1⟩, h, h' => exact ffeed_3 w D c _ v _ h rfl _ (fcontrol _ D c _ v b h' hl)
  | 4, ⟨_, ha, h4⟩, h, h' =>
    have h2 : 2 ≤ got.length := by
      rcases h4 with h | ⟨x, y, o, h, _⟩
      · simp only at h; omega
      · simp only at h; subst h; exact (by decide : 2 ≤ 3)
    exact ffeed_4 w D c _ v _ h rfl _ (flength _ D c _ v b h' hl h2 hb hr)
  | 5, ⟨_, ha, h1, h2, h3⟩, h, h' => exact ffeed_5 w D c _ v _ h rfl _ (frest _ D c _ v b h' hl h1 (by show left ≤ _; simp only at h2; omega) _ rfl)
  | 6, ⟨_, ha, h1⟩, h, h' =>
    unfold DecX at hd
    rw [ha] at hd
    simp only [step]
    by_cases k1 : b ≠ 249
    · rw [if_pos k1]
      exact ffeed_6 w D c _ v _ h rfl _ (fwhole_no _ D c _ v b h' hb k1)
    · have k1' : b = 249 := Classical.byContradiction k1
      rw [if_neg k1]
      subst k1'
      have p := fwhole_ok _ D c _ v h' hb ht' _ _ hd
      have e : judge c ⟨6, got, left, bad⟩ ((dec got).1, (dec got).2) = judge c ⟨6, got, left, bad⟩ (dec got) := rfl
      cases hj : (judge c ⟨6, got, left, bad⟩ (dec got)).2 with
      | none =>
        rw [e, hj] at p
        exact ffeed_6 w D c _ v _ h rfl _ p
      | some g =>
        rw [e, hj] at p
        exact ffeed_6s w D c _ v _ h rfl _ g p
end Go.Proofs.YthlciaomfpephaaDoor.Df
