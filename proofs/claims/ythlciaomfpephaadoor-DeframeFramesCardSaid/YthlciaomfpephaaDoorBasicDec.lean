/-
  What layer 4's Decode answers. Conditions: the tables of layers 1 and 3 lie where the program lays them; the bytes' length.
-/
import Derived.Test.YthlciaomfpephaaDoorBasicFive
namespace Go.Proofs.YthlciaomfpephaaDoor.Basic
open Go.RowKit Go.Proofs.YthlciaomfpephaaDoor.Base Go.Proofs.YthlciaomfpephaaDoor.Ea Go.Proofs.YthlciaomfpephaaDoor.Field
theorem hd_list (a c n : Nat) : (hdB a c n).data.toList = UInt8.ofNat a :: UInt8.ofNat c :: (len n).data.toList := by
  unfold hdB
  rw [app_list]; rfl
theorem hd_size (a c n : Nat) : 1 < (hdB a c n).size := by
  have h := congrArg List.length (hd_list a c n)
  rw [size_toList] at h
  simp only [List.length_cons] at h
  omega
theorem hd_at0 (a c n : Nat) (ha : a < 256) (h : 0 < (hdB a c n).size) : (hdB a c n)[0].toNat = a := by
  have := get_list (hdB a c n) 0 h
  rw [hd_list] at this
  simp only [List.getElem?_cons_zero, Option.some.injEq] at this
  rw [this, nat_oct _ ha]
theorem hd_at1 (a c n : Nat) (hc : c < 256) (h : 1 < (hdB a c n).size) : (hdB a c n)[1].toNat = c := by
  have := get_list (hdB a c n) 1 h
  rw [hd_list] at this
  simp only [List.getElem?_cons_succ, List.getElem?_cons_zero, Option.some.injEq] at this
  rw [this, nat_oct _ hc]
/-- What Decode's demands know of the world. -/
def P1 (W : World) (b : Nat) (hd i : ByteArray) (x : Nat) (f : Fr) (w : World) : Prop := BdAt w (b + 4) hd i x ∧ FrAt w (b + 5) f ∧ Keeps (b + 4) (b + 5) W w
theorem P1.below {W : World} {b x : Nat} {hd i : ByteArray} {f : Fr} {w w' : World} (h : P1 W b hd i x f w) (hb : Below w.heap.size w w') : P1 W b hd i x f w' := ⟨h.1.below hb, h.2.1.below hb, h.2.2.trans (Keeps.of hb)⟩
theorem askD3 {W : World} {b x : Nat} {hd i : ByteArray} {f : Fr} (hl : hd.size + i.size ≤ maxLen) (hT : ∀ w', Keeps (b + 4) (b + 5) W w' → Tabs w') (hE : W.heap[b + 6]? = some (.cells #[.int .i64 41] 45)) (hH : W.heap[b + 7]? = some (.cells #[.func (.func 69) #[] #[ptr (b + 5), ptr (b + 4)]] 26)) (w : World) (hp : P1 W b hd i x f w) :
    Calls Tryd.prog 43 #[ptr (b + 7), ptr (b + 6)] w fun e w' => e = .returned (.int .i64 (if ((Fcs.sum (ckB f.k hd i).data.toList : Int) == (x : Int)) = true then 0 else 41)) ∧ P1 W b hd i x f w' := by
  have hk := hp.2.2
  have h1 := cell_of (i := 0) (hk.at hH (by omega) (by omega)) rfl
  have h2 := cell_of (i := 0) (hk.at hE (by omega) (by omega)) rfl
  have hc := d3 (b + 5) (b + 4) x hd i f hl w (hT w hk).2 hp.1 hp.2.1
  cases hv : ((Fcs.sum (ckB f.k hd i).data.toList : Int) == (x : Int))
  · rw [hv] at hc
    exact (must_no_d3 _ _ _ _ _ w h1 h2 hc).mono fun _ _ ⟨he, hb⟩ => ⟨he, hp.below hb⟩
  · rw [hv] at hc
    exact (must_yes_d3 _ _ _ _ w h1 hc).mono fun _ _ ⟨he, hb⟩ => ⟨he, hp.below hb⟩
theorem askD4 {W : World} {b x : Nat} {hd i : ByteArray} {f : Fr} (hf : f.In) (hE : W.heap[b + 8]? = some (.cells #[.int .i64 40] 45)) (hH : W.heap[b + 9]? = some (.cells #[.func (.func 70) #[] #[ptr (b + 5)]] 26)) (w : World) (hp : P1 W b hd i x f w) :
    Calls Tryd.prog 43 #[ptr (b + 9), ptr (b + 8)] w fun e w' => e = .returned (.int .i64 (if mayF f.k f.c f.info = true then 0 else 40)) ∧ P1 W b hd i x f w' := by
  have hk := hp.2.2
  have h1 := cell_of (i := 0) (hk.at hH (by omega) (by omega)) rfl
  have h2 := cell_of (i := 0) (hk.at hE (by omega) (by omega)) rfl
  have hc := d4 (b + 5) f hf w hp.2.1
  cases hv : mayF f.k f.c f.info
  · rw [hv] at hc
    exact (must_no_d4 _ _ _ _ w h1 h2 hc).mono fun _ _ ⟨he, hb⟩ => ⟨he, hp.below hb⟩
  · rw [hv] at hc
    exact (must_yes_d4 _ _ _ w h1 hc).mono fun _ _ ⟨he, hb⟩ => ⟨he, hp.below hb⟩
theorem askD5 {W : World} {b x : Nat} {hd i : ByteArray} {f : Fr} {n1 : Int} (hi : f.info = i) (hl : hd.size + i.size ≤ maxLen) (hN : W.heap[b + 2]? = some (.cells #[.int .i64 n1] 3)) (hE : W.heap[b + 10]? = some (.cells #[.int .i64 3] 45)) (hH : W.heap[b + 11]? = some (.cells #[.func (.func 71) #[] #[ptr (b + 5), ptr (b + 2)]] 26)) (w : World) (hp : P1 W b hd i x f w) :
    Calls Tryd.prog 43 #[ptr (b + 11), ptr (b + 10)] w fun e w' => e = .returned (.int .i64 (if decide (f.info.size ≤ room n1) = true then 0 else 3)) ∧ P1 W b hd i x f w' := by
  have hk := hp.2.2
  have h1 := cell_of (i := 0) (hk.at hH (by omega) (by omega)) rfl
  have h2 := cell_of (i := 0) (hk.at hE (by omega) (by omega)) rfl
  have h3 := cell_of (i := 0) (hk.at hN (by omega) (by omega)) rfl
  have hc := d5 (b + 5) (b + 2) f n1 (by rw [hi]; omega) w hp.2.1 h3
  cases hv : decide (f.info.size ≤ room n1)
  · rw [hv] at hc
    exact (must_no_d5 _ _ _ _ _ w h1 h2 hc).mono fun _ _ ⟨he, hb⟩ => ⟨he, hp.below hb⟩
  · rw [hv] at hc
    exact (must_yes_d5 _ _ _ _ w h1 hc).mono fun _ _ ⟨he, hb⟩ => ⟨he, hp.below hb⟩
theorem feDec_no (s : ByteArray) (hs : s.size ≤ maxLen) (h : ∀ a c x i, ¬ IsB s a c x i) (ini : Bool) (n1 : Int) (W : World) (b : Nat) (hW : ∀ (k : Nat) (o : Obj), ([.cells #[.string s] 9, .cells #[.bool ini] 4, .cells #[.int .i64 n1] 3, noObj, .cells #[.string ⟨#[]⟩, .string ⟨#[]⟩, .int .u8 0] 86, noObj, .cells #[.int .i64 41] 45, .cells #[.func (.func 69) #[] #[ptr (b + 5), ptr (b + 4)]] 26, .cells #[.int .i64 40] 45, .cells #[.func (.func 70) #[] #[ptr (b + 5)]] 26, .cells #[.int .i64 3] 45, .cells #[.func (.func 71) #[] #[ptr (b + 5), ptr (b + 2)]] 26, .cells #[.func (.func 65) #[] #[ptr b, ptr (b + 4)], .func (.func 67) #[] #[ptr (b + 4), ptr (b + 1), ptr (b + 5)], .func (.func 43) #[] #[ptr (b + 7), ptr (b + 6)], .func (.func 43) #[] #[ptr (b + 9), ptr (b + 8)], .func (.func 43) #[] #[ptr (b + 11), ptr (b + 10)]] 58] : List Obj)[k]? = some o → W.heap[b + k]? = some o) :
    Calls Tryd.prog 25 #[.slice (some ⟨b + 12, 0, none⟩) 5 5] W fun e w' => e = .returned (.int .i64 40) ∧ Keeps (b + 4) (b + 5) W w' :=
  feD0 (b + 12) b (b + 4) 40 (by decide) (Keeps (b + 4) (b + 5) W) W (cell_of (hW 12 _ rfl) rfl) (d1_no b (b + 4) (b + 5) 0 _ _ h hs W (cell_of (hW 0 _ rfl) rfl) (hW 4 _ rfl))
set_option maxHeartbeats 1000000 in
theorem feDec_ok {s : ByteArray} {a c x : Nat} {i : ByteArray} (h : IsB s a c x i) (hs : s.size ≤ maxLen) (ini : Bool) (n1 : Int) (W : World) (b : Nat) (hT : ∀ w', Keeps (b + 4) (b + 5) W w' → Tabs w') (hW : ∀ (k : Nat) (o : Obj), ([.cells #[.string s] 9, .cells #[.bool ini] 4, .cells #[.int .i64 n1] 3, noObj, .cells #[.string ⟨#[]⟩, .string ⟨#[]⟩, .int .u8 0] 86, noObj, .cells #[.int .i64 41] 45, .cells #[.func (.func 69) #[] #[ptr (b + 5), ptr (b + 4)]] 26, .cells #[.int .i64 40] 45, .cells #[.func (.func 70) #[] #[ptr (b + 5)]] 26, .cells #[.int .i64 3] 45, .cells #[.func (.func 71) #[] #[ptr (b + 5), ptr (b + 2)]] 26, .cells #[.func (.func 65) #[] #[ptr b, ptr (b + 4)], .func (.func 67) #[] #[ptr (b + 4), ptr (b + 1), ptr (b + 5)], .func (.func 43) #[] #[ptr (b + 7), ptr (b + 6)], .func (.func 43) #[] #[ptr (b + 9), ptr (b + 8)], .func (.func 43) #[] #[ptr (b + 11), ptr (b + 10)]] 58] : List Obj)[k]? = some o → W.heap[b + k]? = some o) :
    Calls Tryd.prog 25 #[.slice (some ⟨b + 12, 0, none⟩) 5 5] W fun e w' => e = .returned (.int .i64 (dE a c x i ini n1 : Int)) ∧ Keeps (b + 4) (b + 5) W w' ∧ (dE a c x i ini n1 = 0 → FrAt w' (b + 5) (fr a c i ini)) := by
  have hz := hd_size a c i.size
  have z0 := hd_at0 a c i.size h.ha (by omega)
  have z1 := hd_at1 a c i.size h.hc hz
  have hsz := h.size
  have hl : (hdB a c i.size).size + i.size ≤ maxLen := by
    have e := congrArg List.length (hd_list a c i.size)
    rw [size_toList] at e
    simp only [List.length_cons, size_toList] at e
    omega
  have hF0 : FrAt W (b + 5) fr0 := hW 5 _ rfl
  have q0 : Calls Tryd.prog 65 #[ptr b, ptr (b + 4)] W fun e w' => e = .returned (.int .i64 0) ∧ P1 W b (hdB a c i.size) i x fr0 w' :=
    (d1_ok b (b + 4) (b + 4) 0 _ _ h hs W (cell_of (hW 0 _ rfl) rfl) (hW 4 _ rfl)).mono fun _ _ ⟨e1, e2, e3⟩ => ⟨e1, e2, e3.at hF0 (by omega) (by omega), e3.left⟩
  have dd : ∀ w' : World, Keeps (b + 4) (b + 5) W w' → ∀ (k : Nat) (v : Value), (#[.func (.func 65) #[] #[ptr b, ptr (b + 4)], .func (.func 67) #[] #[ptr (b + 4), ptr (b + 1), ptr (b + 5)], .func (.func 43) #[] #[ptr (b + 7), ptr (b + 6)], .func (.func 43) #[] #[ptr (b + 9), ptr (b + 8)], .func (.func 43) #[] #[ptr (b + 11), ptr (b + 10)]] : Array Value)[k]? = some v → w'.cell? ⟨b + 12, k, none⟩ = some v := fun w' hk k v hv => cell_of (hk.at (hW 12 _ rfl) (by omega) (by omega)) hv
  by_cases hk : gK c = 0
  · have he : dE a c x i ini n1 = 30 := if_pos hk
    rw [he]
    have r := feD1 (b + 12) b (b + 4) (b + 1) (b + 5) 30 (by decide) (P1 W b (hdB a c i.size) i x fr0) (Keeps (b + 4) (b + 5) W) W (cell_of (hW 12 _ rfl) rfl) q0 (fun w' hp => dd w' hp.2.2 1 _ rfl) (fun w' hp => (d2_no (b + 4) (b + 1) (b + 5) x _ i ini fr0 hz (by rw [z1]; exact hk) w' (hT w' hp.2.2).1 hp.1 (cell_of (hp.2.2.at (hW 1 _ rfl) (by omega) (by omega)) rfl) hp.2.1).mono fun _ _ ⟨e1, e2⟩ => ⟨e1, hp.2.2.trans e2⟩)
    exact r.mono fun _ _ ⟨e1, e2⟩ => ⟨e1, e2, fun e => absurd e (by decide)⟩
  have f0 := fr_in h.ha h.hc i ini
  have q1 : ∀ w' : World, P1 W b (hdB a c i.size) i x fr0 w' → Calls Tryd.prog 67 #[ptr (b + 4), ptr (b + 1), ptr (b + 5)] w' fun e w'' => e = .returned (.int .i64 0) ∧ P1 W b (hdB a c i.size) i x (fr a c i ini) w'' := fun w' hp => by
    have r := d2_ok (b + 4) (b + 1) (b + 5) x _ i ini fr0 hz (by rw [z1]; exact hk) w' (hT w' hp.2.2).1 hp.1 (cell_of (hp.2.2.at (hW 1 _ rfl) (by omega) (by omega)) rfl) hp.2.1
    rw [z0, z1] at r
    exact r.mono fun _ _ ⟨e1, e2, e3⟩ => ⟨e1, e3.at hp.1 (by omega) (by omega), e2, hp.2.2.trans e3.right⟩
  have q2 : ∀ w' : World, P1 W b (hdB a c i.size) i x (fr a c i ini) w' → Calls Tryd.prog 43 #[ptr (b + 7), ptr (b + 6)] w' fun e w'' => e = .returned (.int .i64 (if ((Fcs.sum (ckB (gK c) (hdB a c i.size) i).data.toList : Int) == (x : Int)) = true then 0 else 41)) ∧ P1 W b (hdB a c i.size) i x (fr a c i ini) w'' := askD3 (f := fr a c i ini) hl hT (hW 6 _ rfl) (hW 7 _ rfl) (x := x)
  have q3 : ∀ w' : World, P1 W b (hdB a c i.size) i x (fr a c i ini) w' → Calls Tryd.prog 43 #[ptr (b + 9), ptr (b + 8)] w' fun e w'' => e = .returned (.int .i64 (if mayF (gK c) (spC a == ini) i = true then 0 else 40)) ∧ P1 W b (hdB a c i.size) i x (fr a c i ini) w'' := askD4 f0 (hW 8 _ rfl) (hW 9 _ rfl) (hd := hdB a c i.size) (x := x) (i := i)
  have q4 : ∀ w' : World, P1 W b (hdB a c i.size) i x (fr a c i ini) w' → Calls Tryd.prog 43 #[ptr (b + 11), ptr (b + 10)] w' fun e w'' => e = .returned (.int .i64 (if decide (i.size ≤ room n1) = true then 0 else 3)) ∧ P1 W b (hdB a c i.size) i x (fr a c i ini) w'' := askD5 (n1 := n1) (f := fr a c i ini) rfl hl (hW 2 _ rfl) (hW 10 _ rfl) (hW 11 _ rfl) (x := x)
  by_cases hx : Fcs.sum (ckB (gK c) (hdB a c i.size) i).data.toList = x
  · rw [if_pos (by rw [hx]; simp)] at q2
    by_cases hm : mayF (gK c) (spC a == ini) i = false
    · have he : dE a c x i ini n1 = 40 := by rw [dE, if_neg hk, if_neg (fun k => k hx), if_pos hm]
      rw [he]
      rw [if_neg (by rw [hm]; decide)] at q3
      have r := feD3 (b + 12) b (b + 4) (b + 1) (b + 5) (b + 7) (b + 6) (b + 9) (b + 8) 40 (by decide) (P1 W b (hdB a c i.size) i x fr0) (P1 W b (hdB a c i.size) i x (fr a c i ini)) (P1 W b (hdB a c i.size) i x (fr a c i ini)) (P1 W b (hdB a c i.size) i x (fr a c i ini)) W (cell_of (hW 12 _ rfl) rfl) q0 (fun w' hp => dd w' hp.2.2 1 _ rfl) q1 (fun w' hp => dd w' hp.2.2 2 _ rfl) q2 (fun w' hp => dd w' hp.2.2 3 _ rfl) q3
      exact r.mono fun _ _ ⟨e1, e2⟩ => ⟨e1, e2.2.2, fun e => absurd e (by decide)⟩
    · rw [if_pos (by simpa using hm)] at q3
      by_cases hr : room n1 < i.size
      · have he : dE a c x i ini n1 = 3 := by rw [dE, if_neg hk, if_neg (fun k => k hx), if_neg hm, if_pos hr]
        rw [he]
        rw [if_neg (by simp; omega)] at q4
        have r := feD4 (b + 12) b (b + 4) (b + 1) (b + 5) (b + 7) (b + 6) (b + 9) (b + 8) (b + 11) (b + 10) 3 (by decide) (P1 W b (hdB a c i.size) i x fr0) (P1 W b (hdB a c i.size) i x (fr a c i ini)) (P1 W b (hdB a c i.size) i x (fr a c i ini)) (P1 W b (hdB a c i.size) i x (fr a c i ini)) (P1 W b (hdB a c i.size) i x (fr a c i ini)) W (cell_of (hW 12 _ rfl) rfl) q0 (fun w' hp => dd w' hp.2.2 1 _ rfl) q1 (fun w' hp => dd w' hp.2.2 2 _ rfl) q2 (fun w' hp => dd w' hp.2.2 3 _ rfl) q3 (fun w' hp => dd w' hp.2.2 4 _ rfl) q4
        exact r.mono fun _ _ ⟨e1, e2⟩ => ⟨e1, e2.2.2, fun e => absurd e (by decide)⟩
      · have he : dE a c x i ini n1 = 0 := by rw [dE, if_neg hk, if_neg (fun k => k hx), if_neg hm, if_neg hr]
        rw [he]
        rw [if_pos (by simp; omega)] at q4
        have r := feD5 (b + 12) b (b + 4) (b + 1) (b + 5) (b + 7) (b + 6) (b + 9) (b + 8) (b + 11) (b + 10) (P1 W b (hdB a c i.size) i x fr0) (P1 W b (hdB a c i.size) i x (fr a c i ini)) (P1 W b (hdB a c i.size) i x (fr a c i ini)) (P1 W b (hdB a c i.size) i x (fr a c i ini)) (P1 W b (hdB a c i.size) i x (fr a c i ini)) W (cell_of (hW 12 _ rfl) rfl) q0 (fun w' hp => dd w' hp.2.2 1 _ rfl) q1 (fun w' hp => dd w' hp.2.2 2 _ rfl) q2 (fun w' hp => dd w' hp.2.2 3 _ rfl) q3 (fun w' hp => dd w' hp.2.2 4 _ rfl) q4
        exact r.mono fun _ _ ⟨e1, e2⟩ => ⟨e1, e2.2.2, fun _ => e2.2.1⟩
  · have he : dE a c x i ini n1 = 41 := by rw [dE, if_neg hk, if_pos hx]
    rw [he]
    rw [if_neg (by rw [beq_iff_eq]; omega)] at q2
    have r := feD2 (b + 12) b (b + 4) (b + 1) (b + 5) (b + 7) (b + 6) 41 (by decide) (P1 W b (hdB a c i.size) i x fr0) (P1 W b (hdB a c i.size) i x (fr a c i ini)) (P1 W b (hdB a c i.size) i x (fr a c i ini)) W (cell_of (hW 12 _ rfl) rfl) q0 (fun w' hp => dd w' hp.2.2 1 _ rfl) q1 (fun w' hp => dd w' hp.2.2 2 _ rfl) q2
    exact r.mono fun _ _ ⟨e1, e2⟩ => ⟨e1, e2.2.2, fun e => absurd e (by decide)⟩
end Go.Proofs.YthlciaomfpephaaDoor.Basic
