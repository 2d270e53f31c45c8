/-
  The program's own side and the document's, both made since a world, and blocks beside them; what the law's is, tells and does answer. No condition but that the sides are in order.
-/
import Derived.Test.YtkoaplmlabagnaaTk
import Derived.Test.YtkoaplmlabagnaaAqOne
import Derived.Test.YtkoaplmlabagnaaAqHear
import Derived.Test.YtkoaplmlabagnaaAqRn
namespace Go.Proofs.Ytkoaplmlabagnaa.Aq
open Go.RowKit Go.Proofs.Ytkoaplmlabagnaa.Base Go.Proofs.Ytkoaplmlabagnaa.Mem
/-- Both sides, and blocks of m. -/
structure Bo (m : List (Nat × Obj)) (w0 : World) (pa pr : Nat) (x y : Sd) (w : World) : Prop where
  ex : ∃ (v u : Value) (tag : Nat → Nat), PAt w pa (Ps.of x) v ∧ RAt w pr y u ∧ tag pa = 1 ∧ (∀ k, v.ownBlock = some k → tag k = 1) ∧ tag pr = 2 ∧ (∀ k, u.ownBlock = some k → tag k = 2) ∧ ∀ z ∈ m, tag z.1 = 0
  m : ∀ z ∈ m, w.heap[z.1]? = some z.2
  la : w0.heap.size ≤ pa
  lr : w0.heap.size ≤ pr
  below : Below w0.heap.size w0 w
section
variable {m : List (Nat × Obj)} {w0 w w' : World} {pa pr b : Nat} {x y z : Sd} {o : Obj}
/-- A call of the program's own side. -/
theorem Bo.qa (h : Bo m w0 pa pr x y w) {v u : Value} {tag : Nat → Nat} (hv : PAt w pa (Ps.of x) v) (hu : RAt w pr y u) (t1 : tag pa = 1) (t2 : ∀ k, v.ownBlock = some k → tag k = 1) (t3 : tag pr = 2) (t4 : ∀ k, u.ownBlock = some k → tag k = 2) (t5 : ∀ z ∈ m, tag z.1 = 0) {v' : Value} (hd : QDo pa (Ps.of z) v v' w w') : Bo m w0 pa pr z y w' := by
  have hS : ∀ k, (k = pa ∨ v.ownBlock = some k) → tag k = 1 := fun k e => by
    rcases e with rfl | e
    · exact t1
    · exact t2 k e
  have hlow : ∀ k, (k = pa ∨ v.ownBlock = some k) → w0.heap.size ≤ k := fun k e => by
    rcases e with rfl | e
    · exact h.la
    · have := (hv.q.lt k e).1; have := h.la; omega
  refine ⟨⟨v', u, fun k => if k < w.heap.size then tag k else 1, hd.at_, ⟨hd.chg.stays hu.blk (fun e => by have := hS _ e; omega), hu.q.eqv fun g hg => hd.chg.block g (hu.q.lt g hg).2 (fun e => by have := hS _ e; have := t4 g hg; omega)⟩, ?_, fun k hk => ?_, ?_, fun k hk => ?_, fun z hz => ?_⟩, fun z hz => hd.chg.stays (h.m z hz) (fun e => by have := hS _ e; have := t5 z hz; omega), h.la, h.lr, hd.chg.below h.below h.below.size hlow⟩
  · dsimp only; rw [if_pos hv.lt]; exact t1
  · dsimp only
    rcases hd.own with e | ⟨j, e, hj⟩
    · rw [e] at hk
      rw [if_pos (hv.q.lt k hk).2]; exact t2 k hk
    · rw [e] at hk
      have : j = k := Option.some.inj hk
      rw [if_neg (by omega)]
  · dsimp only; rw [if_pos hu.lt]; exact t3
  · dsimp only; rw [if_pos (hu.q.lt k hk).2]; exact t4 k hk
  · dsimp only; rw [if_pos (lt_heap (h.m z hz))]; exact t5 z hz
/-- A call of the document's own one. -/
theorem Bo.qr (h : Bo m w0 pa pr x y w) {v u : Value} {tag : Nat → Nat} (hv : PAt w pa (Ps.of x) v) (hu : RAt w pr y u) (t1 : tag pa = 1) (t2 : ∀ k, v.ownBlock = some k → tag k = 1) (t3 : tag pr = 2) (t4 : ∀ k, u.ownBlock = some k → tag k = 2) (t5 : ∀ z ∈ m, tag z.1 = 0) {u' : Value} (hd : PDo pr z u u' w w') : Bo m w0 pa pr x z w' := by
  have hS : ∀ k, (k = pr ∨ u.ownBlock = some k) → tag k = 2 := fun k e => by
    rcases e with rfl | e
    · exact t3
    · exact t4 k e
  have hlow : ∀ k, (k = pr ∨ u.ownBlock = some k) → w0.heap.size ≤ k := fun k e => by
    rcases e with rfl | e
    · exact h.lr
    · have := (hu.q.lt k e).1; have := h.lr; omega
  refine ⟨⟨v, u', fun k => if k < w.heap.size then tag k else 2, ⟨hd.chg.stays hv.blk (fun e => by have := hS _ e; omega), hv.q.eqv fun g hg => hd.chg.block g (hv.q.lt g hg).2 (fun e => by have := hS _ e; have := t2 g hg; omega)⟩, hd.at_, ?_, fun k hk => ?_, ?_, fun k hk => ?_, fun z hz => ?_⟩, fun z hz => hd.chg.stays (h.m z hz) (fun e => by have := hS _ e; have := t5 z hz; omega), h.la, h.lr, hd.chg.below h.below h.below.size hlow⟩
  · dsimp only; rw [if_pos hv.lt]; exact t1
  · dsimp only; rw [if_pos (hv.q.lt k hk).2]; exact t2 k hk
  · dsimp only; rw [if_pos hu.lt]; exact t3
  · dsimp only
    rcases hd.own with e | ⟨j, e, hj⟩
    · rw [e] at hk
      rw [if_pos (hu.q.lt k hk).2]; exact t4 k hk
    · rw [e] at hk
      have : j = k := Option.some.inj hk
      rw [if_neg (by omega)]
  · dsimp only; rw [if_pos (lt_heap (h.m z hz))]; exact t5 z hz
theorem Bo.on (h : Bo m w0 pa pr x y w) (hb : Below w.heap.size w w') : Bo m w0 pa pr x y w' := by
  obtain ⟨v, u, tag, h1, h2, h3⟩ := h.ex
  exact ⟨⟨v, u, tag, h1.below hb, h2.below hb, h3⟩, fun z hz => stays (h.m z hz) hb, h.la, h.lr, below_on h.below hb⟩
theorem Bo.drew (h : Bo m w0 pa pr x y w) : Bo m w0 pa pr x y w.drew := h.on ⟨rfl, rfl, rfl, Nat.le_refl _, fun _ _ => rfl⟩
theorem Bo.alloc (h : Bo m w0 pa pr x y w) (o : Obj) : Bo ((w.heap.size, o) :: m) w0 pa pr x y (w.alloc o) := by
  obtain ⟨v, u, tag, h1, h2, t1, t2, t3, t4, t5⟩ := h.ex
  have hb : Below w.heap.size w (w.alloc o) := (Below.refl _ _).alloc (Nat.le_refl _) o
  refine ⟨⟨v, u, fun k => if k < w.heap.size then tag k else 0, h1.below hb, h2.below hb, ?_, fun k hk => ?_, ?_, fun k hk => ?_, fun z hz => ?_⟩, fun z hz => ?_, h.la, h.lr, below_on h.below hb⟩
  · dsimp only; rw [if_pos h1.lt]; exact t1
  · dsimp only; rw [if_pos (h1.q.lt k hk).2]; exact t2 k hk
  · dsimp only; rw [if_pos h2.lt]; exact t3
  · dsimp only; rw [if_pos (h2.q.lt k hk).2]; exact t4 k hk
  · dsimp only
    rcases List.mem_cons.1 hz with rfl | hz
    · rw [if_neg (Nat.lt_irrefl _)]
    · rw [if_pos (lt_heap (h.m z hz))]; exact t5 z hz
  · rcases List.mem_cons.1 hz with rfl | hz
    · exact nest w [_] 0 _ rfl
    · exact stays (h.m z hz) hb
theorem Bo.at0 (h : Bo ((b, o) :: m) w0 pa pr x y w) : w.heap[b]? = some o := h.m _ (List.mem_cons_self ..)
theorem Bo.tail (h : Bo ((b, o) :: m) w0 pa pr x y w) : Bo m w0 pa pr x y w := by
  obtain ⟨v, u, tag, h1, h2, t1, t2, t3, t4, t5⟩ := h.ex
  exact ⟨⟨v, u, tag, h1, h2, t1, t2, t3, t4, fun z hz => t5 z (List.mem_cons_of_mem _ hz)⟩, fun z hz => h.m z (List.mem_cons_of_mem _ hz), h.la, h.lr, h.below⟩
theorem Bo.all (h : Bo m w0 pa pr x y w) : Bo [] w0 pa pr x y w := by
  obtain ⟨v, u, tag, h1, h2, t1, t2, t3, t4, _⟩ := h.ex
  exact ⟨⟨v, u, tag, h1, h2, t1, t2, t3, t4, fun z hz => (by cases hz)⟩, (fun z hz => by cases hz), h.la, h.lr, h.below⟩
end
theorem has_next (x : Sd) : (next x).2.2 = has x := by
  unfold next has
  by_cases h1 : x.fl = true
  · simp [h1]
  by_cases h2 : x.due = true
  · simp [h1, h2]
  by_cases h3 : x.poll = true
  · simp [h1, h2, h3]
  by_cases h4 : more x = true
  · simp [h1, h2, h3, h4]
  · simp [h1, h2, h3, h4]
section
variable {m : List (Nat × Obj)} {w0 w : World} {pa pr N : Nat} {x y : Sd}
theorem bPush (h : Bo m w0 pa pr x y w) (hI : Inv N x) (i : ByteArray) :
    Calls Try.prog 18 #[ptr pa, .string i] w fun e w' => e = .returned (nm (push i x).2) ∧ Bo m w0 pa pr (push i x).1 y w' := by
  obtain ⟨v, u, tag, h1, h2, t1, t2, t3, t4, t5⟩ := h.ex
  have := fpush w pa (Ps.of x) v i h1 hI.pfit.q
  rw [push_of i x hI.ord] at this
  exact this.mono fun _ _ ⟨e1, v', e2⟩ => ⟨e1, h.qa h1 h2 t1 t2 t3 t4 t5 e2⟩
theorem bNext (h : Bo m w0 pa pr x y w) (hI : Inv N x) :
    Calls Try.prog 19 #[ptr pa] w fun e w' => e = .returned (.tuple #[fmv (next x).2.1, .bool (next x).2.2]) ∧ Bo m w0 pa pr (next x).1 y w' := by
  obtain ⟨v, u, tag, h1, h2, t1, t2, t3, t4, t5⟩ := h.ex
  have := fnext w pa (Ps.of x) v h1 hI.pfit
  rw [next_of x hI.ord] at this
  exact this.mono fun _ _ ⟨e1, e2⟩ => ⟨e1, h.qa h1 h2 t1 t2 t3 t4 t5 (QDo.of e2)⟩
theorem bHear (h : Bo m w0 pa pr x y w) (hI : Inv N x) (d : Nat) (f : Fm) (hns : f.ns < 256) (hnr : f.nr < 256) :
    Calls Try.prog 24 #[ptr pa, fmvd d f] w fun e w' => e = .returned (amv (hear f x).2) ∧ Bo m w0 pa pr (hear f x).1 y w' := by
  obtain ⟨v, u, tag, h1, h2, t1, t2, t3, t4, t5⟩ := h.ex
  have := fhear w pa d (Ps.of x) v f h1 hI.pfit hns hnr
  rw [hear_of f x hI.ord] at this
  exact this.mono fun _ _ ⟨e1, v', e2⟩ => ⟨e1, h.qa h1 h2 t1 t2 t3 t4 t5 e2⟩
theorem bTick (h : Bo m w0 pa pr x y w) (hI : Inv N x) :
    Calls Try.prog 20 #[ptr pa] w fun e w' => e = .returned (amv (tick x).2) ∧ Bo m w0 pa pr (tick x).1 y w' := by
  obtain ⟨v, u, tag, h1, h2, t1, t2, t3, t4, t5⟩ := h.ex
  have := ftick w pa (Ps.of x) v h1 hI.pfit
  rw [tick_of x] at this
  exact this.mono fun _ _ ⟨e1, e2⟩ => ⟨e1, h.qa h1 h2 t1 t2 t3 t4 t5 (QDo.of e2)⟩
theorem bBusy (h : Bo m w0 pa pr x y w) (hI : Inv N x) (s : Bool) :
    Calls Try.prog 22 #[ptr pa, .bool s] w fun e w' => e = .returned (.tuple #[]) ∧ Bo m w0 pa pr (setBusy s x) y w' := by
  obtain ⟨v, u, tag, h1, h2, t1, t2, t3, t4, t5⟩ := h.ex
  have := fsetBusy w pa (Ps.of x) v s h1
  rw [setBusy_of s x hI.ord] at this
  exact this.mono fun _ _ ⟨e1, e2⟩ => ⟨e1, h.qa h1 h2 t1 t2 t3 t4 t5 (QDo.of e2)⟩
theorem bWant (h : Bo m w0 pa pr x y w) (s : Bool) :
    Calls Try.prog 23 #[ptr pa, .bool s] w fun e w' => e = .returned (.tuple #[]) ∧ Bo m w0 pa pr (setWant s x) y w' := by
  obtain ⟨v, u, tag, h1, h2, t1, t2, t3, t4, t5⟩ := h.ex
  have := fsetWant w pa (Ps.of x) v s h1
  rw [setWant_of s x] at this
  exact this.mono fun _ _ ⟨e1, e2⟩ => ⟨e1, h.qa h1 h2 t1 t2 t3 t4 t5 (QDo.of e2)⟩
theorem bHas (h : Bo m w0 pa pr x y w) (hI : Inv N x) :
    Calls Try.prog 13 #[ptr pa] w fun e w' => e = .returned (.bool (has x)) ∧ Bo m w0 pa pr x y w' := by
  obtain ⟨v, u, tag, h1, h2, t1, t2, t3, t4, t5⟩ := h.ex
  have := fhas w pa (Ps.of x) v h1
  rw [has_of x hI.ord] at this
  exact this.mono fun _ _ ⟨e1, e2⟩ => ⟨e1, h.on (drewN_below e2)⟩
theorem bView (h : Bo m w0 pa pr x y w) (hI : Inv N x) :
    Calls Try.prog 12 #[ptr pa] w fun e w' => e = .returned (vwv (Ps.of x)) ∧ Bo m w0 pa pr x y w' := by
  obtain ⟨v, u, tag, h1, h2, t1, t2, t3, t4, t5⟩ := h.ex
  exact (fview w pa (Ps.of x) v h1 hI.pfit).mono fun _ _ ⟨e1, e2⟩ => ⟨e1, h.on e2⟩
theorem dPush (h : Bo m w0 pa pr x y w) (hI : Inv N y) (hN : N ≤ 1000000) (hN1 : N + 1 ≤ 1000000) (i : ByteArray) :
    Calls Try.prog 25 #[ptr pr, .string i] w fun e w' => e = .returned (nm (push i y).2) ∧ Bo m w0 pa pr x (push i y).1 w' := by
  obtain ⟨v, u, tag, h1, h2, t1, t2, t3, t4, t5⟩ := h.ex
  exact (rpush w pr y u i h2 (hI.fit hN) (by have := hI.few; omega)).mono fun _ _ ⟨e1, u', e2⟩ => ⟨e1, h.qr h1 h2 t1 t2 t3 t4 t5 e2⟩
theorem dNext (h : Bo m w0 pa pr x y w) (hI : Inv N y) (hN : N ≤ 1000000) :
    Calls Try.prog 26 #[ptr pr] w fun e w' => e = .returned (.tuple #[fmv (next y).2.1, .bool (next y).2.2]) ∧ Bo m w0 pa pr x (next y).1 w' := by
  obtain ⟨v, u, tag, h1, h2, t1, t2, t3, t4, t5⟩ := h.ex
  exact (rnext w pr y u h2 (hI.fit hN)).mono fun _ _ ⟨e1, e2⟩ => ⟨e1, h.qr h1 h2 t1 t2 t3 t4 t5 (PDo.of e2)⟩
theorem dHear (h : Bo m w0 pa pr x y w) (hI : Inv N y) (hN1 : N + 1 ≤ 1000000) (d : Nat) (f : Fm) (hns : f.ns < 256) (hnr : f.nr < 256) :
    Calls Try.prog 28 #[ptr pr, fmvd d f] w fun e w' => e = .returned (amv (hear f y).2) ∧ Bo m w0 pa pr x (hear f y).1 w' := by
  obtain ⟨v, u, tag, h1, h2, t1, t2, t3, t4, t5⟩ := h.ex
  exact (rhear w pr d y u f h2 hI hN1 hns hnr).mono fun _ _ ⟨e1, e2⟩ => ⟨e1, h.qr h1 h2 t1 t2 t3 t4 t5 (PDo.of e2)⟩
theorem dTick (h : Bo m w0 pa pr x y w) (hI : Inv N y) (hN : N ≤ 1000000) :
    Calls Try.prog 29 #[ptr pr] w fun e w' => e = .returned (amv (tick y).2) ∧ Bo m w0 pa pr x (tick y).1 w' := by
  obtain ⟨v, u, tag, h1, h2, t1, t2, t3, t4, t5⟩ := h.ex
  exact (rtick w pr y u h2 (hI.fit hN)).mono fun _ _ ⟨e1, e2⟩ => ⟨e1, h.qr h1 h2 t1 t2 t3 t4 t5 (PDo.of e2)⟩
theorem dBusy (h : Bo m w0 pa pr x y w) (hI : Inv N y) (hN : N ≤ 1000000) (s : Bool) :
    Calls Try.prog 31 #[ptr pr, .bool s] w fun e w' => e = .returned (.tuple #[]) ∧ Bo m w0 pa pr x (setBusy s y) w' := by
  obtain ⟨v, u, tag, h1, h2, t1, t2, t3, t4, t5⟩ := h.ex
  exact (rsetBusy w pr y u s h2 (hI.fit hN)).mono fun _ _ ⟨e1, e2⟩ => ⟨e1, h.qr h1 h2 t1 t2 t3 t4 t5 (PDo.of e2)⟩
theorem dWant (h : Bo m w0 pa pr x y w) (hI : Inv N y) (hN : N ≤ 1000000) (s : Bool) :
    Calls Try.prog 30 #[ptr pr, .bool s] w fun e w' => e = .returned (.tuple #[]) ∧ Bo m w0 pa pr x (setWant s y) w' := by
  obtain ⟨v, u, tag, h1, h2, t1, t2, t3, t4, t5⟩ := h.ex
  exact (rsetWant w pr y u s h2 (hI.fit hN)).mono fun _ _ ⟨e1, e2⟩ => ⟨e1, h.qr h1 h2 t1 t2 t3 t4 t5 (PDo.of e2)⟩
theorem dHas (h : Bo m w0 pa pr x y w) :
    Calls Try.prog 14 #[ptr pr] w fun e w' => e = .returned (.bool (has y)) ∧ Bo m w0 pa pr x y w' := by
  obtain ⟨v, u, tag, h1, h2, t1, t2, t3, t4, t5⟩ := h.ex
  exact (rhas w pr y u h2).mono fun _ _ ⟨e1, e2⟩ => ⟨e1, h.on (drewN_below e2)⟩
end
theorem fis (a : Am) (w : World) : Calls Try.prog 27 #[amv a, amv a] w fun e w' => e = .returned (.bool true) ∧ Below w.heap.size w w' := by
  have aeq := act_eq
  go_enter Try.func27, Try.ntmps27
  go_wp2
  go_ret
  exact ⟨rfl, nest_below w [_, _]⟩
set_option maxHeartbeats 8000000 in
theorem ftells (w : World) (pr : Nat) (x : Sd) (u : Value) (h : RAt w pr x u) (hO : Ord x) (hf : Fit x) :
    Calls Try.prog 11 #[vwv (Ps.of x), ptr pr] w fun e w' => e = .returned (.bool true) ∧ Below w.heap.size w w' := by
  obtain ⟨oa, cap, rfl⟩ := h.q.form
  have h1 := hO.hs
  have h2 := hO.sT
  have h3 := hO.tp
  have hfew := hf.few
  have hg := hf.g
  obtain ⟨A, hA⟩ : ∃ A, x.a % 8 = A := ⟨_, rfl⟩
  obtain ⟨S, hS⟩ : ∃ S, x.s % 8 = S := ⟨_, rfl⟩
  obtain ⟨G, hG⟩ : ∃ G, x.g % 8 = G := ⟨_, rfl⟩
  obtain ⟨W, hW⟩ : ∃ W, x.p.length - x.a = W := ⟨_, rfl⟩
  obtain ⟨O, hO2⟩ : ∃ O, x.s - x.a = O := ⟨_, rfl⟩
  have hv : vwv (Ps.of x) = .agg #[.int .u8 (A : Int), .int .u8 (S : Int), .int .u8 (G : Int), .int .i64 (W : Int), .int .i64 (O : Int), .int .i64 (x.tr : Int), .int .i64 (x.lf : Int), .bool x.pb, .bool x.bu, .bool x.rj, .bool x.ak, .bool x.wa, .bool x.fl] := by
    unfold vwv Ps.of
    dsimp only
    rw [List.length_drop, hA, hG, hO2, hW, show (A + O) % 8 = S by omega]
  rw [hv]
  have a8 : (x.a : Int) % 8 = (A : Int) := by omega
  have s8 : (x.s : Int) % 8 = (S : Int) := by omega
  have g8 : (x.g : Int) % 8 = (G : Int) := by omega
  have aw : IntKind.u8.wrap (A : Int) = (A : Int) := by rw [IntKind.wrap_u8]; omega
  have sw : IntKind.u8.wrap (S : Int) = (S : Int) := by rw [IntKind.wrap_u8]; omega
  have gw : IntKind.u8.wrap (G : Int) = (G : Int) := by rw [IntKind.wrap_u8]; omega
  have ow : IntKind.i64.wrap ((x.s : Int) - (x.a : Int)) = (O : Int) := by rw [IntKind.wrap_i64]; omega
  have veq := vew_eq
  have hlt := h.lt
  have H := Lib.hid h
  have HF := Lib.hid hf
  have HWW := Lib.hid hW
  have hb1 : Below w.heap.size w (w.alloc (.cells #[.int .u8 (A : Int), .int .u8 (S : Int), .int .u8 (G : Int), .int .i64 (W : Int), .int .i64 (O : Int), .int .i64 (x.tr : Int), .int .i64 (x.lf : Int), .bool x.pb, .bool x.bu, .bool x.rj, .bool x.ak, .bool x.wa, .bool x.fl] TV (0, 0))) := nest_below w [_]
  have hn1 : (w.alloc (.cells #[.int .u8 (A : Int), .int .u8 (S : Int), .int .u8 (G : Int), .int .i64 (W : Int), .int .i64 (O : Int), .int .i64 (x.tr : Int), .int .i64 (x.lf : Int), .bool x.pb, .bool x.bu, .bool x.rj, .bool x.ak, .bool x.wa, .bool x.fl] TV (0, 0))).heap[w.heap.size]? = some (.cells #[.int .u8 (A : Int), .int .u8 (S : Int), .int .u8 (G : Int), .int .i64 (W : Int), .int .i64 (O : Int), .int .i64 (x.tr : Int), .int .i64 (x.lf : Int), .bool x.pb, .bool x.bu, .bool x.rj, .bool x.ak, .bool x.wa, .bool x.fl] TV (0, 0)) := Mem.nest w [_] 0 _ rfl
  clear h hf hO hA hS hG hW hO2 hv h1 h2 h3
  go_enter Try.func11, Try.ntmps11
  go_wp2_with fail
  simp only [List.append]
  generalize w.alloc (.cells #[.int .u8 (A : Int), .int .u8 (S : Int), .int .u8 (G : Int), .int .i64 (W : Int), .int .i64 (O : Int), .int .i64 (x.tr : Int), .int .i64 (x.lf : Int), .bool x.pb, .bool x.bu, .bool x.rj, .bool x.ak, .bool x.wa, .bool x.fl] TV (0, 0)) = w1 at hb1 hn1 ⊢
  have H1 := H.out.below hb1
  have hlt1 := H1.lt
  have c4 := H1.cell 4 (.int .i64 (x.a : Int)) rfl
  have c5 := H1.cell 5 (.int .i64 (x.s : Int)) rfl
  have c7 := H1.cell 7 (.int .i64 (x.g : Int)) rfl
  have c12 := H1.cell 12 (.bool x.pb) rfl
  have c13 := H1.cell 13 (.bool x.bu) rfl
  have c14 := H1.cell 14 (.bool x.rj) rfl
  have c15 := H1.cell 15 (.bool x.ak) rfl
  have c16 := H1.cell 16 (.bool x.fl) rfl
  have c17 := H1.cell 17 (.bool x.wa) rfl
  have c18 := H1.cell 18 (.int .i64 (x.tr : Int)) rfl
  have c19 := H1.cell 19 (.int .i64 (x.lf : Int)) rfl
  obtain ⟨⟨u0, u1, u2, u3, u4, u5, u6, u7, u8, u9, u10, u11, u12⟩, -⟩ := cells13 hn1
  have CW : Hid (∀ n, Calls Try.prog 32 #[ptr pr] (w1.drewN n) fun e w' => e = .returned (.int .i64 (W : Int)) ∧ ∃ m, w' = (w1.drewN n).drewN m) := Lib.hid fun n => by rw [← HWW.out]; exact rwaits _ pr x oa cap (H1.drewN n) HF.out
  have HB := Lib.hid hb1
  clear H1 hb1 hn1
  go_quiet ((go_at_call 32; exact quiet_left2 (CW.out _)))
  go_wp2
  go_ret
  exact ⟨rfl, below_drewN HB.out nq⟩
/-- A call of the law's list: what is done, a DLCI, a frame. -/
structure Ct where
  o : Nat
  d : Nat
  f : Fm
abbrev ctv (c : Ct) : Value := .agg #[.int .u8 (c.o : Int), .int .u8 (c.d : Int), .bool c.f.c, .int .u8 (c.f.k : Int), .bool c.f.pf, .int .u8 (c.f.ns : Int), .int .u8 (c.f.nr : Int), .string c.f.i]
def after (c : Ct) (x : Sd) : Sd :=
  if c.o % 9 < 2 then (push c.f.i x).1 else if c.o % 9 < 4 then (next x).1 else if c.o % 9 < 6 then (hear c.f x).1 else if c.o % 9 = 6 then (tick x).1 else if c.o % 9 = 8 then setWant c.f.pf x else setBusy c.f.pf x
theorem after_inv {N : Nat} {x : Sd} (c : Ct) (h : Inv N x) : Inv (N + 1) (after c x) := by
  unfold after
  split
  · exact push_inv _ h
  split
  · exact (next_inv h).more (Nat.le_succ N)
  split
  · exact hear_inv _ h
  split
  · exact (tick_inv h).more (Nat.le_succ N)
  split
  · exact (setWant_inv _ h).more (Nat.le_succ N)
  · exact (setBusy_inv _ h).more (Nat.le_succ N)
abbrev TC : TypeId := 27
theorem cells8 {w : World} {b : Nat} {u0 u1 u2 u3 u4 u5 u6 u7 : Value} {t : TypeId} (h : w.heap[b]? = some (.cells #[u0, u1, u2, u3, u4, u5, u6, u7] t)) : w.cell? ⟨b, 0, none⟩ = some u0 ∧ w.cell? ⟨b, 1, none⟩ = some u1 ∧ w.cell? ⟨b, 2, none⟩ = some u2 ∧ w.cell? ⟨b, 3, none⟩ = some u3 ∧ w.cell? ⟨b, 4, none⟩ = some u4 ∧ w.cell? ⟨b, 5, none⟩ = some u5 ∧ w.cell? ⟨b, 6, none⟩ = some u6 ∧ w.cell? ⟨b, 7, none⟩ = some u7 :=
  ⟨cell_of h rfl, cell_of h rfl, cell_of h rfl, cell_of h rfl, cell_of h rfl, cell_of h rfl, cell_of h rfl, cell_of h rfl⟩
set_option maxHeartbeats 8000000 in
set_option maxRecDepth 100000 in
theorem fdoes_push0 (w0 w : World) (pa pr N o d : Nat) (x : Sd) (c : Bool) (k : Nat) (pf : Bool) (ns nr : Nat) (i : ByteArray) (h : Bo [] w0 pa pr x x w) (hI : Inv N x) (hN : N + 1 ≤ 1000000) (ho : o < 256) (hq : o % 9 = 0) (hns : ns < 256) (hnr : nr < 256) :
    Calls Try.prog 10 #[ptr pa, ptr pr, ctv ⟨o, d, ⟨c, k, pf, ns, nr, i⟩⟩] w fun e w' => e = .returned (.bool true) ∧ Bo [] w0 pa pr (push i x).1 (push i x).1 w' := by
  have q9 : (o : Int) % 9 = 0 := by omega
  have ho2 : (o : Int) < 256 := by omega
  have HI := Lib.hid hI
  have HNN : Hid (N + 1 ≤ 1000000) := Lib.hid hN
  have HNS := Lib.hid hns
  have HNR := Lib.hid hnr
  have H1 : Hid (Bo [(w.heap.size, (.cells #[.int .u8 (o : Int), .int .u8 (d : Int), .bool c, .int .u8 (k : Int), .bool pf, .int .u8 (ns : Int), .int .u8 (nr : Int), .string i] TC (0, 0)))] w0 pa pr x x (w.alloc (.cells #[.int .u8 (o : Int), .int .u8 (d : Int), .bool c, .int .u8 (k : Int), .bool pf, .int .u8 (ns : Int), .int .u8 (nr : Int), .string i] TC (0, 0)))) := Lib.hid (h.alloc _)
  clear h hI hN hq ho hns hnr
  go_enter Try.func10, Try.ntmps10
  go_wp2_with fail
  generalize w.alloc (.cells #[.int .u8 (o : Int), .int .u8 (d : Int), .bool c, .int .u8 (k : Int), .bool pf, .int .u8 (ns : Int), .int .u8 (nr : Int), .string i] TC (0, 0)) = w1 at H1 ⊢
  generalize w.heap.size = cb at H1 ⊢
  skip
  refine wp_region_held_drew (S := (fun w' => w'.heap[cb]? = some (.cells #[.int .u8 (o : Int), .int .u8 (d : Int), .bool c, .int .u8 (k : Int), .bool pf, .int .u8 (ns : Int), .int .u8 (nr : Int), .string i] TC (0, 0)))) (by kernel_rfl) H1.out.drew.at0 (fun hHeld => ?_)
  refine' tk 0 ⟨some 18, .move (.tmp 0), 28, "law.go:53", #[], none⟩ ?_
  simp only [Act.put, z1', z2', z3']
  refine' tk 1 ⟨some 19, .fieldAddr 27 (.tmp 5) 1, 0, "law.go:53", #[], none⟩ ?_
  simp only [Act.put, z1', z2', z3']
  refine' tk 2 ⟨some 20, .fieldAddr 25 (.tmp 19) 6, 0, "law.go:53", #[⟨1, .data⟩], none⟩ ?_
  simp only [Act.put, z1', z2', z3']
  refine' tv 3 ⟨some 21, .load 9 (.tmp 20), 9, "law.go:53", #[⟨2, .data⟩], none⟩ ?hy4 ?hr4
  case hy4 => (intro _ hSw; (try dsimp only at hSw); obtain ⟨b0, b1, b2, b3, b4, b5, b6, b7⟩ := cells8 hSw; go_simp <;> with_reducible rfl)
  simp only [Act.put, z1', z2', z3']
  refine' tk 5 ⟨some 23, .move (.tmp 1), 30, "law.go:53", #[], none⟩ ?_
  simp only [Act.put, z1', z2', z3']
  refine' tk 6 ⟨some 24, .fieldAddr 27 (.tmp 5) 1, 0, "law.go:53", #[], none⟩ ?_
  simp only [Act.put, z1', z2', z3']
  refine' tk 7 ⟨some 25, .fieldAddr 25 (.tmp 24) 6, 0, "law.go:53", #[⟨6, .data⟩], none⟩ ?_
  simp only [Act.put, z1', z2', z3']
  refine' tv 8 ⟨some 26, .load 9 (.tmp 25), 9, "law.go:53", #[⟨7, .data⟩], none⟩ ?hy8 ?hr8
  case hy8 => (intro _ hSw; (try dsimp only at hSw); obtain ⟨b0, b1, b2, b3, b4, b5, b6, b7⟩ := cells8 hSw; go_simp <;> with_reducible rfl)
  simp only [Act.put, z1', z2', z3']
  clear hHeld
  have H2 := Lib.hid H1.out.drew
  clear H1
  refine ry [4] ?_
  refine AllReadyH.cons rfl (fun K hK => ?_) AllReadyH.nil
  go_simp
  refine (bPush H2.out HI.out i).mono ?_
  rintro _ w2 ⟨rfl, hx⟩
  have H3 := Lib.hid hx
  clear hx
  go_wp2_with fail
  refine hK.out _ _ H3.out.at0 (fun hNext => ?_)
  clear hK K
  have hHeld := hNext
  clear hNext
  (try simp only [Act.put, z1', z2', z3'])
  clear hHeld
  refine ry [9] ?_
  refine AllReadyH.cons rfl (fun K hK => ?_) AllReadyH.nil
  go_simp
  refine (dPush H3.out HI.out (Nat.le_of_succ_le HNN.out) HNN.out i).mono ?_
  rintro _ w3 ⟨rfl, hx⟩
  have HL := Lib.hid hx
  clear hx
  go_wp2_with fail
  refine hK.out _ _ HL.out.at0 (fun hNext => ?_)
  clear hK K
  have hHeld := hNext
  clear hNext
  (try simp only [Act.put, z1', z2', z3'])
  refine' tk 10 ⟨some 28, .binOp .eql 51 (.tmp 22) (.tmp 27) 51, 4, "law.go:53", #[⟨4, .data⟩, ⟨9, .data⟩], none⟩ ?_
  simp only [Act.put, z1', z2', z3']
  refine' tk 11 ⟨some 6, .assign (.tmp 28), 4, "law.go:53", #[⟨10, .data⟩, ⟨9, .chain⟩, ⟨0, .phase⟩, ⟨1, .phase⟩, ⟨2, .phase⟩, ⟨3, .phase⟩, ⟨4, .phase⟩, ⟨5, .phase⟩, ⟨6, .phase⟩, ⟨7, .phase⟩, ⟨8, .phase⟩, ⟨9, .phase⟩, ⟨10, .phase⟩], none⟩ ?_
  simp only [Act.put, z1', z2', z3']
  refine wpAnyH_done (by kernel_rfl) ?_ _
  clear hHeld
  go_wp2
  go_ret
  exact ⟨rfl, HL.out.all⟩
set_option maxHeartbeats 8000000 in
set_option maxRecDepth 100000 in
theorem fdoes_push1 (w0 w : World) (pa pr N o d : Nat) (x : Sd) (c : Bool) (k : Nat) (pf : Bool) (ns nr : Nat) (i : ByteArray) (h : Bo [] w0 pa pr x x w) (hI : Inv N x) (hN : N + 1 ≤ 1000000) (ho : o < 256) (hq : o % 9 = 1) (hns : ns < 256) (hnr : nr < 256) :
    Calls Try.prog 10 #[ptr pa, ptr pr, ctv ⟨o, d, ⟨c, k, pf, ns, nr, i⟩⟩] w fun e w' => e = .returned (.bool true) ∧ Bo [] w0 pa pr (push i x).1 (push i x).1 w' := by
  have q9 : (o : Int) % 9 = 1 := by omega
  have ho2 : (o : Int) < 256 := by omega
  have HI := Lib.hid hI
  have HNN : Hid (N + 1 ≤ 1000000) := Lib.hid hN
  have HNS := Lib.hid hns
  have HNR := Lib.hid hnr
  have H1 : Hid (Bo [(w.heap.size, (.cells #[.int .u8 (o : Int), .int .u8 (d : Int), .bool c, .int .u8 (k : Int), .bool pf, .int .u8 (ns : Int), .int .u8 (nr : Int), .string i] TC (0, 0)))] w0 pa pr x x (w.alloc (.cells #[.int .u8 (o : Int), .int .u8 (d : Int), .bool c, .int .u8 (k : Int), .bool pf, .int .u8 (ns : Int), .int .u8 (nr : Int), .string i] TC (0, 0)))) := Lib.hid (h.alloc _)
  clear h hI hN hq ho hns hnr
  go_enter Try.func10, Try.ntmps10
  go_wp2_with fail
  generalize w.alloc (.cells #[.int .u8 (o : Int), .int .u8 (d : Int), .bool c, .int .u8 (k : Int), .bool pf, .int .u8 (ns : Int), .int .u8 (nr : Int), .string i] TC (0, 0)) = w1 at H1 ⊢
  generalize w.heap.size = cb at H1 ⊢
  skip
  refine wp_region_held_drew (S := (fun w' => w'.heap[cb]? = some (.cells #[.int .u8 (o : Int), .int .u8 (d : Int), .bool c, .int .u8 (k : Int), .bool pf, .int .u8 (ns : Int), .int .u8 (nr : Int), .string i] TC (0, 0)))) (by kernel_rfl) H1.out.drew.at0 (fun hHeld => ?_)
  refine' tk 0 ⟨some 18, .move (.tmp 0), 28, "law.go:53", #[], none⟩ ?_
  simp only [Act.put, z1', z2', z3']
  refine' tk 1 ⟨some 19, .fieldAddr 27 (.tmp 5) 1, 0, "law.go:53", #[], none⟩ ?_
  simp only [Act.put, z1', z2', z3']
  refine' tk 2 ⟨some 20, .fieldAddr 25 (.tmp 19) 6, 0, "law.go:53", #[⟨1, .data⟩], none⟩ ?_
  simp only [Act.put, z1', z2', z3']
  refine' tv 3 ⟨some 21, .load 9 (.tmp 20), 9, "law.go:53", #[⟨2, .data⟩], none⟩ ?hy14 ?hr14
  case hy14 => (intro _ hSw; (try dsimp only at hSw); obtain ⟨b0, b1, b2, b3, b4, b5, b6, b7⟩ := cells8 hSw; go_simp <;> with_reducible rfl)
  simp only [Act.put, z1', z2', z3']
  refine' tk 5 ⟨some 23, .move (.tmp 1), 30, "law.go:53", #[], none⟩ ?_
  simp only [Act.put, z1', z2', z3']
  refine' tk 6 ⟨some 24, .fieldAddr 27 (.tmp 5) 1, 0, "law.go:53", #[], none⟩ ?_
  simp only [Act.put, z1', z2', z3']
  refine' tk 7 ⟨some 25, .fieldAddr 25 (.tmp 24) 6, 0, "law.go:53", #[⟨6, .data⟩], none⟩ ?_
  simp only [Act.put, z1', z2', z3']
  refine' tv 8 ⟨some 26, .load 9 (.tmp 25), 9, "law.go:53", #[⟨7, .data⟩], none⟩ ?hy18 ?hr18
  case hy18 => (intro _ hSw; (try dsimp only at hSw); obtain ⟨b0, b1, b2, b3, b4, b5, b6, b7⟩ := cells8 hSw; go_simp <;> with_reducible rfl)
  simp only [Act.put, z1', z2', z3']
  clear hHeld
  have H2 := Lib.hid H1.out.drew
  clear H1
  refine ry [4] ?_
  refine AllReadyH.cons rfl (fun K hK => ?_) AllReadyH.nil
  go_simp
  refine (bPush H2.out HI.out i).mono ?_
  rintro _ w2 ⟨rfl, hx⟩
  have H3 := Lib.hid hx
  clear hx
  go_wp2_with fail
  refine hK.out _ _ H3.out.at0 (fun hNext => ?_)
  clear hK K
  have hHeld := hNext
  clear hNext
  (try simp only [Act.put, z1', z2', z3'])
  clear hHeld
  refine ry [9] ?_
  refine AllReadyH.cons rfl (fun K hK => ?_) AllReadyH.nil
  go_simp
  refine (dPush H3.out HI.out (Nat.le_of_succ_le HNN.out) HNN.out i).mono ?_
  rintro _ w3 ⟨rfl, hx⟩
  have HL := Lib.hid hx
  clear hx
  go_wp2_with fail
  refine hK.out _ _ HL.out.at0 (fun hNext => ?_)
  clear hK K
  have hHeld := hNext
  clear hNext
  (try simp only [Act.put, z1', z2', z3'])
  refine' tk 10 ⟨some 28, .binOp .eql 51 (.tmp 22) (.tmp 27) 51, 4, "law.go:53", #[⟨4, .data⟩, ⟨9, .data⟩], none⟩ ?_
  simp only [Act.put, z1', z2', z3']
  refine' tk 11 ⟨some 6, .assign (.tmp 28), 4, "law.go:53", #[⟨10, .data⟩, ⟨9, .chain⟩, ⟨0, .phase⟩, ⟨1, .phase⟩, ⟨2, .phase⟩, ⟨3, .phase⟩, ⟨4, .phase⟩, ⟨5, .phase⟩, ⟨6, .phase⟩, ⟨7, .phase⟩, ⟨8, .phase⟩, ⟨9, .phase⟩, ⟨10, .phase⟩], none⟩ ?_
  simp only [Act.put, z1', z2', z3']
  refine wpAnyH_done (by kernel_rfl) ?_ _
  clear hHeld
  go_wp2
  go_ret
  exact ⟨rfl, HL.out.all⟩
set_option maxHeartbeats 8000000 in
set_option maxRecDepth 100000 in
theorem fdoes_next2 (w0 w : World) (pa pr N o d : Nat) (x : Sd) (c : Bool) (k : Nat) (pf : Bool) (ns nr : Nat) (i : ByteArray) (h : Bo [] w0 pa pr x x w) (hI : Inv N x) (hN : N + 1 ≤ 1000000) (ho : o < 256) (hq : o % 9 = 2) (hns : ns < 256) (hnr : nr < 256) :
    Calls Try.prog 10 #[ptr pa, ptr pr, ctv ⟨o, d, ⟨c, k, pf, ns, nr, i⟩⟩] w fun e w' => e = .returned (.bool true) ∧ Bo [] w0 pa pr (next x).1 (next x).1 w' := by
  have q9 : (o : Int) % 9 = 2 := by omega
  have ho2 : (o : Int) < 256 := by omega
  have feq := frm_eq
  have hhn := has_next x
  have CN : Hid (∀ (m : List (Nat × Obj)) (w' : World), Bo m w0 pa pr x x w' → Calls Try.prog 19 #[ptr pa] w' fun e w'' => e = .returned (.tuple #[fmv (next x).2.1, .bool (next x).2.2]) ∧ Bo m w0 pa pr (next x).1 x w'') := Lib.hid fun m w' h' => bNext h' hI
  have CD : Hid (∀ (m : List (Nat × Obj)) (w' : World), Bo m w0 pa pr (next x).1 x w' → Calls Try.prog 26 #[ptr pr] w' fun e w'' => e = .returned (.tuple #[fmv (next x).2.1, .bool (next x).2.2]) ∧ Bo m w0 pa pr (next x).1 (next x).1 w'') := Lib.hid fun m w' h' => dNext h' hI (Nat.le_of_succ_le hN)
  have CH : Hid (∀ (m : List (Nat × Obj)) (w' : World), Bo m w0 pa pr x x w' → Calls Try.prog 13 #[ptr pa] w' fun e w'' => e = .returned (.bool (has x)) ∧ Bo m w0 pa pr x x w'') := Lib.hid fun m w' h' => bHas h' hI
  generalize has x = hs at hhn CH
  generalize next x = r at hhn CN CD ⊢
  obtain ⟨x2, f, ok⟩ := r
  obtain ⟨fc, fk, fpf, fns, fnr, fi⟩ := f
  dsimp only at hhn CN CD ⊢
  subst hhn
  have HI := Lib.hid hI
  have HNN : Hid (N + 1 ≤ 1000000) := Lib.hid hN
  have HNS := Lib.hid hns
  have HNR := Lib.hid hnr
  have H1 : Hid (Bo [(w.heap.size, (.cells #[.int .u8 (o : Int), .int .u8 (d : Int), .bool c, .int .u8 (k : Int), .bool pf, .int .u8 (ns : Int), .int .u8 (nr : Int), .string i] TC (0, 0)))] w0 pa pr x x (w.alloc (.cells #[.int .u8 (o : Int), .int .u8 (d : Int), .bool c, .int .u8 (k : Int), .bool pf, .int .u8 (ns : Int), .int .u8 (nr : Int), .string i] TC (0, 0)))) := Lib.hid (h.alloc _)
  clear h hI hN hq ho hns hnr
  go_enter Try.func10, Try.ntmps10
  go_wp2_with fail
  generalize w.alloc (.cells #[.int .u8 (o : Int), .int .u8 (d : Int), .bool c, .int .u8 (k : Int), .bool pf, .int .u8 (ns : Int), .int .u8 (nr : Int), .string i] TC (0, 0)) = w1 at H1 ⊢
  generalize w.heap.size = cb at H1 ⊢
  refine (CH.out _ _ H1.out).mono ?_
  rintro _ w2 ⟨rfl, hx⟩
  have H2 := Lib.hid hx.tail
  clear hx H1 CH
  go_wp2_with fail
  refine (CN.out _ _ H2.out).mono ?_
  rintro _ w3 ⟨rfl, hx⟩
  have HY := Lib.hid (hx.alloc (.cells #[.int .u8 0, .bool fc, .int .u8 (fk : Int), .bool fpf, .int .u8 (fns : Int), .int .u8 (fnr : Int), .string fi] TF (0, 0)))
  clear hx H2 CN
  go_wp2_with fail
  refine (CD.out _ _ HY.out).mono ?_
  rintro _ w4 ⟨rfl, hx⟩
  have HL := Lib.hid (hx.alloc (.cells #[.int .u8 0, .bool fc, .int .u8 (fk : Int), .bool fpf, .int .u8 (fns : Int), .int .u8 (fnr : Int), .string fi] TF (0, 0)))
  have HM := Lib.hid hx
  clear hx HY CD
  generalize w3.heap.size = fb at HM HL ⊢
  obtain ⟨⟨f0, f1, f2, f3, f4, f5, f6⟩, -⟩ := cells7 HM.out.at0
  have hfb := lt_heap HM.out.at0
  have bqq : (ok == ok) = true := by simp
  go_wp2
  go_ret
  exact ⟨rfl, HL.out.all⟩
set_option maxHeartbeats 8000000 in
set_option maxRecDepth 100000 in
theorem fdoes_next3 (w0 w : World) (pa pr N o d : Nat) (x : Sd) (c : Bool) (k : Nat) (pf : Bool) (ns nr : Nat) (i : ByteArray) (h : Bo [] w0 pa pr x x w) (hI : Inv N x) (hN : N + 1 ≤ 1000000) (ho : o < 256) (hq : o % 9 = 3) (hns : ns < 256) (hnr : nr < 256) :
    Calls Try.prog 10 #[ptr pa, ptr pr, ctv ⟨o, d, ⟨c, k, pf, ns, nr, i⟩⟩] w fun e w' => e = .returned (.bool true) ∧ Bo [] w0 pa pr (next x).1 (next x).1 w' := by
  have q9 : (o : Int) % 9 = 3 := by omega
  have ho2 : (o : Int) < 256 := by omega
  have feq := frm_eq
  have hhn := has_next x
  have CN : Hid (∀ (m : List (Nat × Obj)) (w' : World), Bo m w0 pa pr x x w' → Calls Try.prog 19 #[ptr pa] w' fun e w'' => e = .returned (.tuple #[fmv (next x).2.1, .bool (next x).2.2]) ∧ Bo m w0 pa pr (next x).1 x w'') := Lib.hid fun m w' h' => bNext h' hI
  have CD : Hid (∀ (m : List (Nat × Obj)) (w' : World), Bo m w0 pa pr (next x).1 x w' → Calls Try.prog 26 #[ptr pr] w' fun e w'' => e = .returned (.tuple #[fmv (next x).2.1, .bool (next x).2.2]) ∧ Bo m w0 pa pr (next x).1 (next x).1 w'') := Lib.hid fun m w' h' => dNext h' hI (Nat.le_of_succ_le hN)
  have CH : Hid (∀ (m : List (Nat × Obj)) (w' : World), Bo m w0 pa pr x x w' → Calls Try.prog 13 #[ptr pa] w' fun e w'' => e = .returned (.bool (has x)) ∧ Bo m w0 pa pr x x w'') := Lib.hid fun m w' h' => bHas h' hI
  generalize has x = hs at hhn CH
  generalize next x = r at hhn CN CD ⊢
  obtain ⟨x2, f, ok⟩ := r
  obtain ⟨fc, fk, fpf, fns, fnr, fi⟩ := f
  dsimp only at hhn CN CD ⊢
  subst hhn
  have HI := Lib.hid hI
  have HNN : Hid (N + 1 ≤ 1000000) := Lib.hid hN
  have HNS := Lib.hid hns
  have HNR := Lib.hid hnr
  have H1 : Hid (Bo [(w.heap.size, (.cells #[.int .u8 (o : Int), .int .u8 (d : Int), .bool c, .int .u8 (k : Int), .bool pf, .int .u8 (ns : Int), .int .u8 (nr : Int), .string i] TC (0, 0)))] w0 pa pr x x (w.alloc (.cells #[.int .u8 (o : Int), .int .u8 (d : Int), .bool c, .int .u8 (k : Int), .bool pf, .int .u8 (ns : Int), .int .u8 (nr : Int), .string i] TC (0, 0)))) := Lib.hid (h.alloc _)
  clear h hI hN hq ho hns hnr
  go_enter Try.func10, Try.ntmps10
  go_wp2_with fail
  generalize w.alloc (.cells #[.int .u8 (o : Int), .int .u8 (d : Int), .bool c, .int .u8 (k : Int), .bool pf, .int .u8 (ns : Int), .int .u8 (nr : Int), .string i] TC (0, 0)) = w1 at H1 ⊢
  generalize w.heap.size = cb at H1 ⊢
  refine (CH.out _ _ H1.out).mono ?_
  rintro _ w2 ⟨rfl, hx⟩
  have H2 := Lib.hid hx.tail
  clear hx H1 CH
  go_wp2_with fail
  refine (CN.out _ _ H2.out).mono ?_
  rintro _ w3 ⟨rfl, hx⟩
  have HY := Lib.hid (hx.alloc (.cells #[.int .u8 0, .bool fc, .int .u8 (fk : Int), .bool fpf, .int .u8 (fns : Int), .int .u8 (fnr : Int), .string fi] TF (0, 0)))
  clear hx H2 CN
  go_wp2_with fail
  refine (CD.out _ _ HY.out).mono ?_
  rintro _ w4 ⟨rfl, hx⟩
  have HL := Lib.hid (hx.alloc (.cells #[.int .u8 0, .bool fc, .int .u8 (fk : Int), .bool fpf, .int .u8 (fns : Int), .int .u8 (fnr : Int), .string fi] TF (0, 0)))
  have HM := Lib.hid hx
  clear hx HY CD
  generalize w3.heap.size = fb at HM HL ⊢
  obtain ⟨⟨f0, f1, f2, f3, f4, f5, f6⟩, -⟩ := cells7 HM.out.at0
  have hfb := lt_heap HM.out.at0
  have bqq : (ok == ok) = true := by simp
  go_wp2
  go_ret
  exact ⟨rfl, HL.out.all⟩
set_option maxHeartbeats 8000000 in
set_option maxRecDepth 100000 in
theorem fdoes_hear4 (w0 w : World) (pa pr N o d : Nat) (x : Sd) (c : Bool) (k : Nat) (pf : Bool) (ns nr : Nat) (i : ByteArray) (h : Bo [] w0 pa pr x x w) (hI : Inv N x) (hN : N + 1 ≤ 1000000) (ho : o < 256) (hq : o % 9 = 4) (hns : ns < 256) (hnr : nr < 256) :
    Calls Try.prog 10 #[ptr pa, ptr pr, ctv ⟨o, d, ⟨c, k, pf, ns, nr, i⟩⟩] w fun e w' => e = .returned (.bool true) ∧ Bo [] w0 pa pr (hear ⟨c, k, pf, ns, nr, i⟩ x).1 (hear ⟨c, k, pf, ns, nr, i⟩ x).1 w' := by
  have q9 : (o : Int) % 9 = 4 := by omega
  have ho2 : (o : Int) < 256 := by omega
  have HI := Lib.hid hI
  have HNN : Hid (N + 1 ≤ 1000000) := Lib.hid hN
  have HNS := Lib.hid hns
  have HNR := Lib.hid hnr
  have H1 : Hid (Bo [(w.heap.size, (.cells #[.int .u8 (o : Int), .int .u8 (d : Int), .bool c, .int .u8 (k : Int), .bool pf, .int .u8 (ns : Int), .int .u8 (nr : Int), .string i] TC (0, 0)))] w0 pa pr x x (w.alloc (.cells #[.int .u8 (o : Int), .int .u8 (d : Int), .bool c, .int .u8 (k : Int), .bool pf, .int .u8 (ns : Int), .int .u8 (nr : Int), .string i] TC (0, 0)))) := Lib.hid (h.alloc _)
  clear h hI hN hq ho hns hnr
  go_enter Try.func10, Try.ntmps10
  go_wp2_with fail
  generalize w.alloc (.cells #[.int .u8 (o : Int), .int .u8 (d : Int), .bool c, .int .u8 (k : Int), .bool pf, .int .u8 (ns : Int), .int .u8 (nr : Int), .string i] TC (0, 0)) = w1 at H1 ⊢
  generalize w.heap.size = cb at H1 ⊢
  skip
  refine wp_region_held_drew (S := (fun w' => w'.heap[cb]? = some (.cells #[.int .u8 (o : Int), .int .u8 (d : Int), .bool c, .int .u8 (k : Int), .bool pf, .int .u8 (ns : Int), .int .u8 (nr : Int), .string i] TC (0, 0)))) (by kernel_rfl) H1.out.drew.at0 (fun hHeld => ?_)
  refine' tk 0 ⟨some 60, .move (.tmp 0), 28, "law.go:60", #[], none⟩ ?_
  simp only [Act.put, z1', z2', z3']
  refine' tk 1 ⟨some 61, .fieldAddr 27 (.tmp 5) 1, 0, "law.go:60", #[], none⟩ ?_
  simp only [Act.put, z1', z2', z3']
  refine' tv 2 ⟨some 62, .load 25 (.tmp 61), 25, "law.go:60", #[⟨1, .data⟩], none⟩ ?hy23 ?hr23
  case hy23 => (intro _ hSw; (try dsimp only at hSw); obtain ⟨b0, b1, b2, b3, b4, b5, b6, b7⟩ := cells8 hSw; go_simp <;> with_reducible rfl)
  simp only [Act.put, z1', z2', z3']
  refine' tk 4 ⟨some 64, .move (.tmp 1), 30, "law.go:60", #[], none⟩ ?_
  simp only [Act.put, z1', z2', z3']
  refine' tk 5 ⟨some 65, .fieldAddr 27 (.tmp 5) 1, 0, "law.go:60", #[], none⟩ ?_
  simp only [Act.put, z1', z2', z3']
  refine' tv 6 ⟨some 66, .load 25 (.tmp 65), 25, "law.go:60", #[⟨5, .data⟩], none⟩ ?hy26 ?hr26
  case hy26 => (intro _ hSw; (try dsimp only at hSw); obtain ⟨b0, b1, b2, b3, b4, b5, b6, b7⟩ := cells8 hSw; go_simp <;> with_reducible rfl)
  simp only [Act.put, z1', z2', z3']
  clear hHeld
  have H2 := Lib.hid H1.out.drew
  clear H1
  refine ry [3] ?_
  refine AllReadyH.cons rfl (fun K hK => ?_) AllReadyH.nil
  go_simp
  refine (bHear H2.out HI.out d ⟨c, k, pf, ns, nr, i⟩ HNS.out HNR.out).mono ?_
  rintro _ w2 ⟨rfl, hx⟩
  have H3 := Lib.hid hx
  clear hx
  go_wp2_with fail
  refine hK.out _ _ H3.out.at0 (fun hNext => ?_)
  clear hK K
  have hHeld := hNext
  clear hNext
  (try simp only [Act.put, z1', z2', z3'])
  clear hHeld
  refine ry [7] ?_
  refine AllReadyH.cons rfl (fun K hK => ?_) AllReadyH.nil
  go_simp
  refine (dHear H3.out HI.out HNN.out d ⟨c, k, pf, ns, nr, i⟩ HNS.out HNR.out).mono ?_
  rintro _ w3 ⟨rfl, hx⟩
  have H4 := Lib.hid hx
  clear hx
  go_wp2_with fail
  refine hK.out _ _ H4.out.at0 (fun hNext => ?_)
  clear hK K
  have hHeld := hNext
  clear hNext
  (try simp only [Act.put, z1', z2', z3'])

  clear hHeld
  refine ry [8] ?_
  refine AllReadyH.cons rfl (fun K hK => ?_) AllReadyH.nil
  go_simp
  refine (fis (hear ⟨c, k, pf, ns, nr, i⟩ x).2 _).mono ?_
  rintro _ w4 ⟨rfl, hx⟩
  have HL := Lib.hid (H4.out.on hx)
  clear hx
  go_wp2_with fail
  refine hK.out _ _ HL.out.at0 (fun hNext => ?_)
  clear hK K
  have hHeld := hNext
  clear hNext
  (try simp only [Act.put, z1', z2', z3'])
  refine' tk 9 ⟨some 6, .assign (.tmp 68), 4, "law.go:60", #[⟨8, .data⟩, ⟨8, .chain⟩, ⟨0, .phase⟩, ⟨1, .phase⟩, ⟨2, .phase⟩, ⟨3, .phase⟩, ⟨4, .phase⟩, ⟨5, .phase⟩, ⟨6, .phase⟩, ⟨7, .phase⟩, ⟨8, .phase⟩], none⟩ ?_
  simp only [Act.put, z1', z2', z3']
  refine wpAnyH_done (by kernel_rfl) ?_ _
  clear hHeld
  go_wp2
  go_ret
  exact ⟨rfl, HL.out.all⟩
set_option maxHeartbeats 8000000 in
set_option maxRecDepth 100000 in
theorem fdoes_hear5 (w0 w : World) (pa pr N o d : Nat) (x : Sd) (c : Bool) (k : Nat) (pf : Bool) (ns nr : Nat) (i : ByteArray) (h : Bo [] w0 pa pr x x w) (hI : Inv N x) (hN : N + 1 ≤ 1000000) (ho : o < 256) (hq : o % 9 = 5) (hns : ns < 256) (hnr : nr < 256) :
    Calls Try.prog 10 #[ptr pa, ptr pr, ctv ⟨o, d, ⟨c, k, pf, ns, nr, i⟩⟩] w fun e w' => e = .returned (.bool true) ∧ Bo [] w0 pa pr (hear ⟨c, k, pf, ns, nr, i⟩ x).1 (hear ⟨c, k, pf, ns, nr, i⟩ x).1 w' := by
  have q9 : (o : Int) % 9 = 5 := by omega
  have ho2 : (o : Int) < 256 := by omega
  have HI := Lib.hid hI
  have HNN : Hid (N + 1 ≤ 1000000) := Lib.hid hN
  have HNS := Lib.hid hns
  have HNR := Lib.hid hnr
  have H1 : Hid (Bo [(w.heap.size, (.cells #[.int .u8 (o : Int), .int .u8 (d : Int), .bool c, .int .u8 (k : Int), .bool pf, .int .u8 (ns : Int), .int .u8 (nr : Int), .string i] TC (0, 0)))] w0 pa pr x x (w.alloc (.cells #[.int .u8 (o : Int), .int .u8 (d : Int), .bool c, .int .u8 (k : Int), .bool pf, .int .u8 (ns : Int), .int .u8 (nr : Int), .string i] TC (0, 0)))) := Lib.hid (h.alloc _)
  clear h hI hN hq ho hns hnr
  go_enter Try.func10, Try.ntmps10
  go_wp2_with fail
  generalize w.alloc (.cells #[.int .u8 (o : Int), .int .u8 (d : Int), .bool c, .int .u8 (k : Int), .bool pf, .int .u8 (ns : Int), .int .u8 (nr : Int), .string i] TC (0, 0)) = w1 at H1 ⊢
  generalize w.heap.size = cb at H1 ⊢
  skip
  refine wp_region_held_drew (S := (fun w' => w'.heap[cb]? = some (.cells #[.int .u8 (o : Int), .int .u8 (d : Int), .bool c, .int .u8 (k : Int), .bool pf, .int .u8 (ns : Int), .int .u8 (nr : Int), .string i] TC (0, 0)))) (by kernel_rfl) H1.out.drew.at0 (fun hHeld => ?_)
  refine' tk 0 ⟨some 60, .move (.tmp 0), 28, "law.go:60", #[], none⟩ ?_
  simp only [Act.put, z1', z2', z3']
  refine' tk 1 ⟨some 61, .fieldAddr 27 (.tmp 5) 1, 0, "law.go:60", #[], none⟩ ?_
  simp only [Act.put, z1', z2', z3']
  refine' tv 2 ⟨some 62, .load 25 (.tmp 61), 25, "law.go:60", #[⟨1, .data⟩], none⟩ ?hy30 ?hr30
  case hy30 => (intro _ hSw; (try dsimp only at hSw); obtain ⟨b0, b1, b2, b3, b4, b5, b6, b7⟩ := cells8 hSw; go_simp <;> with_reducible rfl)
  simp only [Act.put, z1', z2', z3']
  refine' tk 4 ⟨some 64, .move (.tmp 1), 30, "law.go:60", #[], none⟩ ?_
  simp only [Act.put, z1', z2', z3']
  refine' tk 5 ⟨some 65, .fieldAddr 27 (.tmp 5) 1, 0, "law.go:60", #[], none⟩ ?_
  simp only [Act.put, z1', z2', z3']
  refine' tv 6 ⟨some 66, .load 25 (.tmp 65), 25, "law.go:60", #[⟨5, .data⟩], none⟩ ?hy33 ?hr33
  case hy33 => (intro _ hSw; (try dsimp only at hSw); obtain ⟨b0, b1, b2, b3, b4, b5, b6, b7⟩ := cells8 hSw; go_simp <;> with_reducible rfl)
  simp only [Act.put, z1', z2', z3']
  clear hHeld
  have H2 := Lib.hid H1.out.drew
  clear H1
  refine ry [3] ?_
  refine AllReadyH.cons rfl (fun K hK => ?_) AllReadyH.nil
  go_simp
  refine (bHear H2.out HI.out d ⟨c, k, pf, ns, nr, i⟩ HNS.out HNR.out).mono ?_
  rintro _ w2 ⟨rfl, hx⟩
  have H3 := Lib.hid hx
  clear hx
  go_wp2_with fail
  refine hK.out _ _ H3.out.at0 (fun hNext => ?_)
  clear hK K
  have hHeld := hNext
  clear hNext
  (try simp only [Act.put, z1', z2', z3'])
  clear hHeld
  refine ry [7] ?_
  refine AllReadyH.cons rfl (fun K hK => ?_) AllReadyH.nil
  go_simp
  refine (dHear H3.out HI.out HNN.out d ⟨c, k, pf, ns, nr, i⟩ HNS.out HNR.out).mono ?_
  rintro _ w3 ⟨rfl, hx⟩
  have H4 := Lib.hid hx
  clear hx
  go_wp2_with fail
  refine hK.out _ _ H4.out.at0 (fun hNext => ?_)
  clear hK K
  have hHeld := hNext
  clear hNext
  (try simp only [Act.put, z1', z2', z3'])

  clear hHeld
  refine ry [8] ?_
  refine AllReadyH.cons rfl (fun K hK => ?_) AllReadyH.nil
  go_simp
  refine (fis (hear ⟨c, k, pf, ns, nr, i⟩ x).2 _).mono ?_
  rintro _ w4 ⟨rfl, hx⟩
  have HL := Lib.hid (H4.out.on hx)
  clear hx
  go_wp2_with fail
  refine hK.out _ _ HL.out.at0 (fun hNext => ?_)
  clear hK K
  have hHeld := hNext
  clear hNext
  (try simp only [Act.put, z1', z2', z3'])
  refine' tk 9 ⟨some 6, .assign (.tmp 68), 4, "law.go:60", #[⟨8, .data⟩, ⟨8, .chain⟩, ⟨0, .phase⟩, ⟨1, .phase⟩, ⟨2, .phase⟩, ⟨3, .phase⟩, ⟨4, .phase⟩, ⟨5, .phase⟩, ⟨6, .phase⟩, ⟨7, .phase⟩, ⟨8, .phase⟩], none⟩ ?_
  simp only [Act.put, z1', z2', z3']
  refine wpAnyH_done (by kernel_rfl) ?_ _
  clear hHeld
  go_wp2
  go_ret
  exact ⟨rfl, HL.out.all⟩
set_option maxHeartbeats 8000000 in
set_option maxRecDepth 100000 in
theorem fdoes_tick (w0 w : World) (pa pr N o d : Nat) (x : Sd) (c : Bool) (k : Nat) (pf : Bool) (ns nr : Nat) (i : ByteArray) (h : Bo [] w0 pa pr x x w) (hI : Inv N x) (hN : N + 1 ≤ 1000000) (ho : o < 256) (hq : o % 9 = 6) (hns : ns < 256) (hnr : nr < 256) :
    Calls Try.prog 10 #[ptr pa, ptr pr, ctv ⟨o, d, ⟨c, k, pf, ns, nr, i⟩⟩] w fun e w' => e = .returned (.bool true) ∧ Bo [] w0 pa pr (tick x).1 (tick x).1 w' := by
  have q9 : (o : Int) % 9 = 6 := by omega
  have ho2 : (o : Int) < 256 := by omega
  have HI := Lib.hid hI
  have HNN : Hid (N + 1 ≤ 1000000) := Lib.hid hN
  have HNS := Lib.hid hns
  have HNR := Lib.hid hnr
  have H1 : Hid (Bo [(w.heap.size, (.cells #[.int .u8 (o : Int), .int .u8 (d : Int), .bool c, .int .u8 (k : Int), .bool pf, .int .u8 (ns : Int), .int .u8 (nr : Int), .string i] TC (0, 0)))] w0 pa pr x x (w.alloc (.cells #[.int .u8 (o : Int), .int .u8 (d : Int), .bool c, .int .u8 (k : Int), .bool pf, .int .u8 (ns : Int), .int .u8 (nr : Int), .string i] TC (0, 0)))) := Lib.hid (h.alloc _)
  clear h hI hN hq ho hns hnr
  go_enter Try.func10, Try.ntmps10
  go_wp2_with fail
  generalize w.alloc (.cells #[.int .u8 (o : Int), .int .u8 (d : Int), .bool c, .int .u8 (k : Int), .bool pf, .int .u8 (ns : Int), .int .u8 (nr : Int), .string i] TC (0, 0)) = w1 at H1 ⊢
  generalize w.heap.size = cb at H1 ⊢
  refine (bTick H1.out HI.out).mono ?_
  rintro _ w2 ⟨rfl, hx⟩
  have H2 := Lib.hid hx.tail
  clear hx H1
  go_wp2_with fail
  refine (dTick H2.out HI.out (Nat.le_of_succ_le HNN.out)).mono ?_
  rintro _ w3 ⟨rfl, hx⟩
  have H3 := Lib.hid hx
  clear hx H2
  go_wp2_with fail
  refine (fis (tick x).2 _).mono ?_
  rintro _ w4 ⟨rfl, hx⟩
  have HL := Lib.hid (H3.out.on hx)
  clear hx H3
  go_wp2
  go_ret
  exact ⟨rfl, HL.out.all⟩
set_option maxHeartbeats 8000000 in
set_option maxRecDepth 100000 in
theorem fdoes_want (w0 w : World) (pa pr N o d : Nat) (x : Sd) (c : Bool) (k : Nat) (pf : Bool) (ns nr : Nat) (i : ByteArray) (h : Bo [] w0 pa pr x x w) (hI : Inv N x) (hN : N + 1 ≤ 1000000) (ho : o < 256) (hq : o % 9 = 8) (hns : ns < 256) (hnr : nr < 256) :
    Calls Try.prog 10 #[ptr pa, ptr pr, ctv ⟨o, d, ⟨c, k, pf, ns, nr, i⟩⟩] w fun e w' => e = .returned (.bool true) ∧ Bo [] w0 pa pr (setWant pf x) (setWant pf x) w' := by
  have q9 : (o : Int) % 9 = 8 := by omega
  have ho2 : (o : Int) < 256 := by omega
  have HI := Lib.hid hI
  have HNN : Hid (N + 1 ≤ 1000000) := Lib.hid hN
  have HNS := Lib.hid hns
  have HNR := Lib.hid hnr
  have H1 : Hid (Bo [(w.heap.size, (.cells #[.int .u8 (o : Int), .int .u8 (d : Int), .bool c, .int .u8 (k : Int), .bool pf, .int .u8 (ns : Int), .int .u8 (nr : Int), .string i] TC (0, 0)))] w0 pa pr x x (w.alloc (.cells #[.int .u8 (o : Int), .int .u8 (d : Int), .bool c, .int .u8 (k : Int), .bool pf, .int .u8 (ns : Int), .int .u8 (nr : Int), .string i] TC (0, 0)))) := Lib.hid (h.alloc _)
  clear h hI hN hq ho hns hnr
  go_enter Try.func10, Try.ntmps10
  go_wp2_with fail
  generalize w.alloc (.cells #[.int .u8 (o : Int), .int .u8 (d : Int), .bool c, .int .u8 (k : Int), .bool pf, .int .u8 (ns : Int), .int .u8 (nr : Int), .string i] TC (0, 0)) = w1 at H1 ⊢
  generalize w.heap.size = cb at H1 ⊢
  refine (bWant H1.out pf).mono ?_
  rintro _ w2 ⟨rfl, hx⟩
  have H2 := Lib.hid hx
  clear hx H1
  obtain ⟨b0, b1, b2, b3, b4, b5, b6, b7⟩ := cells8 H2.out.at0
  go_wp2_with fail
  refine (dWant H2.out HI.out (Nat.le_of_succ_le HNN.out) pf).mono ?_
  rintro _ w3 ⟨rfl, hx⟩
  have HL := Lib.hid hx
  clear hx H2
  go_wp2
  go_ret
  exact ⟨rfl, HL.out.all⟩
set_option maxHeartbeats 8000000 in
set_option maxRecDepth 100000 in
theorem fdoes_busy (w0 w : World) (pa pr N o d : Nat) (x : Sd) (c : Bool) (k : Nat) (pf : Bool) (ns nr : Nat) (i : ByteArray) (h : Bo [] w0 pa pr x x w) (hI : Inv N x) (hN : N + 1 ≤ 1000000) (ho : o < 256) (hq : o % 9 = 7) (hns : ns < 256) (hnr : nr < 256) :
    Calls Try.prog 10 #[ptr pa, ptr pr, ctv ⟨o, d, ⟨c, k, pf, ns, nr, i⟩⟩] w fun e w' => e = .returned (.bool true) ∧ Bo [] w0 pa pr (setBusy pf x) (setBusy pf x) w' := by
  have q9 : (o : Int) % 9 = 7 := by omega
  have ho2 : (o : Int) < 256 := by omega
  have HI := Lib.hid hI
  have HNN : Hid (N + 1 ≤ 1000000) := Lib.hid hN
  have HNS := Lib.hid hns
  have HNR := Lib.hid hnr
  have H1 : Hid (Bo [(w.heap.size, (.cells #[.int .u8 (o : Int), .int .u8 (d : Int), .bool c, .int .u8 (k : Int), .bool pf, .int .u8 (ns : Int), .int .u8 (nr : Int), .string i] TC (0, 0)))] w0 pa pr x x (w.alloc (.cells #[.int .u8 (o : Int), .int .u8 (d : Int), .bool c, .int .u8 (k : Int), .bool pf, .int .u8 (ns : Int), .int .u8 (nr : Int), .string i] TC (0, 0)))) := Lib.hid (h.alloc _)
  clear h hI hN hq ho hns hnr
  go_enter Try.func10, Try.ntmps10
  go_wp2_with fail
  generalize w.alloc (.cells #[.int .u8 (o : Int), .int .u8 (d : Int), .bool c, .int .u8 (k : Int), .bool pf, .int .u8 (ns : Int), .int .u8 (nr : Int), .string i] TC (0, 0)) = w1 at H1 ⊢
  generalize w.heap.size = cb at H1 ⊢
  refine (bBusy H1.out HI.out pf).mono ?_
  rintro _ w2 ⟨rfl, hx⟩
  have H2 := Lib.hid hx
  clear hx H1
  obtain ⟨b0, b1, b2, b3, b4, b5, b6, b7⟩ := cells8 H2.out.at0
  go_wp2_with fail
  refine (dBusy H2.out HI.out (Nat.le_of_succ_le HNN.out) pf).mono ?_
  rintro _ w3 ⟨rfl, hx⟩
  have HL := Lib.hid hx
  clear hx H2
  go_wp2
  go_ret
  exact ⟨rfl, HL.out.all⟩
theorem fdoes (w0 w : World) (pa pr N : Nat) (x : Sd) (c : Ct) (h : Bo [] w0 pa pr x x w) (hI : Inv N x) (hN : N + 1 ≤ 1000000) (ho : c.o < 256) (hns : c.f.ns < 256) (hnr : c.f.nr < 256) :
    Calls Try.prog 10 #[ptr pa, ptr pr, ctv c] w fun e w' => e = .returned (.bool true) ∧ Bo [] w0 pa pr (after c x) (after c x) w' := by
  obtain ⟨o, d, cc, k, pf, ns, nr, i⟩ := c
  dsimp only at ho hns hnr
  unfold after
  dsimp only
  by_cases h0 : o % 9 < 2
  · rw [if_pos h0]
    by_cases h1 : o % 9 = 0
    · exact fdoes_push0 w0 w pa pr N o d x cc k pf ns nr i h hI hN ho h1 hns hnr
    · exact fdoes_push1 w0 w pa pr N o d x cc k pf ns nr i h hI hN ho (by omega) hns hnr
  rw [if_neg h0]
  by_cases h2 : o % 9 < 4
  · rw [if_pos h2]
    by_cases h1 : o % 9 = 2
    · exact fdoes_next2 w0 w pa pr N o d x cc k pf ns nr i h hI hN ho h1 hns hnr
    · exact fdoes_next3 w0 w pa pr N o d x cc k pf ns nr i h hI hN ho (by omega) hns hnr
  rw [if_neg h2]
  by_cases h4 : o % 9 < 6
  · rw [if_pos h4]
    by_cases h1 : o % 9 = 4
    · exact fdoes_hear4 w0 w pa pr N o d x cc k pf ns nr i h hI hN ho h1 hns hnr
    · exact fdoes_hear5 w0 w pa pr N o d x cc k pf ns nr i h hI hN ho (by omega) hns hnr
  rw [if_neg h4]
  by_cases h6 : o % 9 = 6
  · rw [if_pos h6]; exact fdoes_tick w0 w pa pr N o d x cc k pf ns nr i h hI hN ho h6 hns hnr
  rw [if_neg h6]
  by_cases h8 : o % 9 = 8
  · rw [if_pos h8]; exact fdoes_want w0 w pa pr N o d x cc k pf ns nr i h hI hN ho h8 hns hnr
  · rw [if_neg h8]; exact fdoes_busy w0 w pa pr N o d x cc k pf ns nr i h hI hN ho (by omega) hns hnr
end Go.Proofs.Ytkoaplmlabagnaa.Aq
