/-
  The program's own side: what a call has of its own beside it; SetBusy, SetWant, Tick, New, Push. Condition: it lies where it says; its numbers are small.
  The program's own side: Tick. Condition: it lies where it says; its numbers are small.
-/
import Derived.Test.YtkoaplmlabagnaaAqPm1
import Derived.Test.YtkoaplmlabagnaaAqRef3
namespace Go.Proofs.Ytkoaplmlabagnaa.Aq
open Go.RowKit Go.Proofs.Ytkoaplmlabagnaa.Base Go.Proofs.Ytkoaplmlabagnaa.Mem
abbrev TA : TypeId := 56
abbrev TF : TypeId := 25
abbrev fmv (f : Fm) : Value := .agg #[.int .u8 0, .bool f.c, .int .u8 (f.k : Int), .bool f.pf, .int .u8 (f.ns : Int), .int .u8 (f.nr : Int), .string f.i]
abbrev fmO (f : Fm) : Obj := .cells #[.int .u8 0, .bool f.c, .int .u8 (f.k : Int), .bool f.pf, .int .u8 (f.ns : Int), .int .u8 (f.nr : Int), .string f.i] TF (0, 0)
abbrev noF : Obj := .cells #[.int .u8 0, .bool false, .int .u8 0, .bool false, .int .u8 0, .int .u8 0, .string ⟨#[]⟩] TF (0, 0)
abbrev set7 (w : World) (b : Nat) (v0 v1 v2 v3 v4 v5 v6 : Value) : World := ((((((w.setCell ⟨b, 0, none⟩ v0).setCell ⟨b, 1, none⟩ v1).setCell ⟨b, 2, none⟩ v2).setCell ⟨b, 3, none⟩ v3).setCell ⟨b, 4, none⟩ v4).setCell ⟨b, 5, none⟩ v5).setCell ⟨b, 6, none⟩ v6
theorem cells7 {w : World} {b : Nat} {u0 u1 u2 u3 u4 u5 u6 : Value} {t : TypeId} (h : w.heap[b]? = some (.cells #[u0, u1, u2, u3, u4, u5, u6] t)) : (w.cell? ⟨b, 0, none⟩ = some u0 ∧ w.cell? ⟨b, 1, none⟩ = some u1 ∧ w.cell? ⟨b, 2, none⟩ = some u2 ∧ w.cell? ⟨b, 3, none⟩ = some u3 ∧ w.cell? ⟨b, 4, none⟩ = some u4 ∧ w.cell? ⟨b, 5, none⟩ = some u5 ∧ w.cell? ⟨b, 6, none⟩ = some u6) ∧ ∀ i, w.frozen? ⟨b, i, none⟩ = false :=
  ⟨⟨cell_of h rfl, cell_of h rfl, cell_of h rfl, cell_of h rfl, cell_of h rfl, cell_of h rfl, cell_of h rfl⟩, fun _ => free_of h⟩
theorem set4_at {w : World} {b : Nat} {u0 u1 u2 u3 : Value} {t : TypeId} (h : w.heap[b]? = some (.cells #[u0, u1, u2, u3] t)) (v0 v1 v2 v3 : Value) : (set4 w b v0 v1 v2 v3).heap[b]? = some (.cells #[v0, v1, v2, v3] t) := by
  have h0 : (w.setCell ⟨b, 0, none⟩ v0).heap[b]? = some (.cells #[v0, u1, u2, u3] t) := block_set (i := 0) h v0
  have h1 : ((w.setCell ⟨b, 0, none⟩ v0).setCell ⟨b, 1, none⟩ v1).heap[b]? = some (.cells #[v0, v1, u2, u3] t) := block_set (i := 1) h0 v1
  have h2 : (((w.setCell ⟨b, 0, none⟩ v0).setCell ⟨b, 1, none⟩ v1).setCell ⟨b, 2, none⟩ v2).heap[b]? = some (.cells #[v0, v1, v2, u3] t) := block_set (i := 2) h1 v2
  exact block_set (i := 3) h2 v3
theorem set7_at {w : World} {b : Nat} {u0 u1 u2 u3 u4 u5 u6 : Value} {t : TypeId} (h : w.heap[b]? = some (.cells #[u0, u1, u2, u3, u4, u5, u6] t)) (v0 v1 v2 v3 v4 v5 v6 : Value) : (set7 w b v0 v1 v2 v3 v4 v5 v6).heap[b]? = some (.cells #[v0, v1, v2, v3, v4, v5, v6] t) := by
  have h0 : (w.setCell ⟨b, 0, none⟩ v0).heap[b]? = some (.cells #[v0, u1, u2, u3, u4, u5, u6] t) := block_set (i := 0) h v0
  have h1 : ((w.setCell ⟨b, 0, none⟩ v0).setCell ⟨b, 1, none⟩ v1).heap[b]? = some (.cells #[v0, v1, u2, u3, u4, u5, u6] t) := block_set (i := 1) h0 v1
  have h2 : (((w.setCell ⟨b, 0, none⟩ v0).setCell ⟨b, 1, none⟩ v1).setCell ⟨b, 2, none⟩ v2).heap[b]? = some (.cells #[v0, v1, v2, u3, u4, u5, u6] t) := block_set (i := 2) h1 v2
  have h3 : ((((w.setCell ⟨b, 0, none⟩ v0).setCell ⟨b, 1, none⟩ v1).setCell ⟨b, 2, none⟩ v2).setCell ⟨b, 3, none⟩ v3).heap[b]? = some (.cells #[v0, v1, v2, v3, u4, u5, u6] t) := block_set (i := 3) h2 v3
  have h4 : (((((w.setCell ⟨b, 0, none⟩ v0).setCell ⟨b, 1, none⟩ v1).setCell ⟨b, 2, none⟩ v2).setCell ⟨b, 3, none⟩ v3).setCell ⟨b, 4, none⟩ v4).heap[b]? = some (.cells #[v0, v1, v2, v3, v4, u5, u6] t) := block_set (i := 4) h3 v4
  have h5 : ((((((w.setCell ⟨b, 0, none⟩ v0).setCell ⟨b, 1, none⟩ v1).setCell ⟨b, 2, none⟩ v2).setCell ⟨b, 3, none⟩ v3).setCell ⟨b, 4, none⟩ v4).setCell ⟨b, 5, none⟩ v5).heap[b]? = some (.cells #[v0, v1, v2, v3, v4, v5, u6] t) := block_set (i := 5) h4 v5
  exact block_set (i := 6) h5 v6
section
variable {S : Nat → Prop} {a w : World} {b : Nat}
theorem chg_set4 (h : Chg S a w) (hb : b < a.heap.size → S b) (v0 v1 v2 v3 : Value) : Chg S a (set4 w b v0 v1 v2 v3) := (((h.setCell b 0 v0 hb).setCell b 1 v1 hb).setCell b 2 v2 hb).setCell b 3 v3 hb
theorem chg_set7 (h : Chg S a w) (hb : b < a.heap.size → S b) (v0 v1 v2 v3 v4 v5 v6 : Value) : Chg S a (set7 w b v0 v1 v2 v3 v4 v5 v6) := ((((((h.setCell b 0 v0 hb).setCell b 1 v1 hb).setCell b 2 v2 hb).setCell b 3 v3 hb).setCell b 4 v4 hb).setCell b 5 v5 hb).setCell b 6 v6 hb
end
/-- Within a call: that side, and blocks of the call's own with what they hold. -/
structure AIn (m : List (Nat × Obj)) (pb : Nat) (y : Ps) (v : Value) (w w1 : World) : Prop where
  does : ADo pb y v w w1
  lt : pb < w.heap.size
  q : ∀ g, v.ownBlock = some g → g < w.heap.size
  new : ∀ x ∈ m, w.heap.size ≤ x.1 ∧ w1.heap[x.1]? = some x.2
section
variable {m m' : List (Nat × Obj)} {pb b : Nat} {x y : Ps} {v : Value} {w w' w1 w2 : World} {o : Obj}
theorem AIn.start (h0 : PAt w pb x v) (h : ADo pb y v w w') : AIn [] pb y v w w' := ⟨h, h0.lt, fun g hg => (h0.q.lt g hg).2, fun x hx => by cases hx⟩
theorem AIn.alloc (h : AIn m pb y v w w1) (o : Obj) : AIn ((w1.heap.size, o) :: m) pb y v w (w1.alloc o) :=
  ⟨h.does.on ((Below.refl _ _).alloc (Nat.le_refl _) o), h.lt, h.q, fun x hx => by
    rcases List.mem_cons.1 hx with rfl | hx
    · exact ⟨h.does.chg.size, nest w1 [_] 0 _ rfl⟩
    · exact ⟨(h.new x hx).1, stays (h.new x hx).2 ((Below.refl _ _).alloc (Nat.le_refl _) o)⟩⟩
theorem AIn.first (h0 : PAt w pb x v) (o : Obj) : AIn [(w.heap.size, o)] pb x v w (w.alloc o) := (AIn.start h0 (ADo.refl h0)).alloc o
theorem AIn.made (h0 : PAt w pb x v) (h : ADo pb y v w w') (hs : w'.heap.size = w.heap.size) (o : Obj) : AIn [(w.heap.size, o)] pb y v w (w'.alloc o) := by
  have := (AIn.start h0 h).alloc o
  rwa [hs] at this
theorem AIn.below (h : AIn m pb y v w w1) (hb : Below w1.heap.size w1 w2) : AIn m pb y v w w2 := ⟨h.does.on hb, h.lt, h.q, fun x hx => ⟨(h.new x hx).1, stays (h.new x hx).2 hb⟩⟩
theorem AIn.drewN (h : AIn m pb y v w w1) (n : Nat) : AIn m pb y v w (w1.drewN n) := h.below ⟨rfl, rfl, rfl, Nat.le_refl _, fun _ _ => rfl⟩
theorem AIn.drew (h : AIn m pb y v w w1) : AIn m pb y v w w1.drew := h.below ⟨rfl, rfl, rfl, Nat.le_refl _, fun _ _ => rfl⟩
theorem AIn.next (h : AIn m pb x v w w1) (h2 : ADo pb y v w1 w2) : AIn m pb y v w w2 :=
  ⟨h.does.then h2, h.lt, h.q, fun z hz => ⟨(h.new z hz).1, h2.chg.stays (h.new z hz).2 (fun e => by have := h.lt; have := (h.new z hz).1; omega)⟩⟩
theorem AIn.set (h : AIn m pb x v w w1) (i : Nat) (u : Value) (y : Ps) (hy : (acs x v).setIfInBounds i u = acs y v) (hp : y.q = x.q) : AIn m pb y v w (w1.setCell ⟨pb, i, none⟩ u) := h.next ((ADo.refl h.does.at_).set i u y hy hp)
theorem AIn.wr (h : AIn m pb y v w w1) (hc : Chg (fun k => k = b) w1 w2) (hb : w.heap.size ≤ b) (hm : ∀ x ∈ m', w.heap.size ≤ x.1 ∧ w2.heap[x.1]? = some x.2) : AIn m' pb y v w w2 :=
  ⟨⟨⟨hc.stays h.does.at_.blk (by have := h.lt; omega), h.does.at_.q.eqv fun g hg => hc.block g (h.does.at_.q.lt g hg).2 (by have := h.q g hg; omega)⟩, h.does.chg.trans hc (fun k hk e => by omega)⟩, h.lt, h.q, hm⟩
theorem AIn.at0 (h : AIn ((b, o) :: m) pb y v w w1) : w1.heap[b]? = some o := (h.new _ (List.mem_cons_self ..)).2
theorem AIn.lo0 (h : AIn ((b, o) :: m) pb y v w w1) : w.heap.size ≤ b := (h.new _ (List.mem_cons_self ..)).1
theorem AIn.tail (h : AIn ((b, o) :: m) pb y v w w1) : AIn m pb y v w w1 := ⟨h.does, h.lt, h.q, fun x hx => h.new x (List.mem_cons_of_mem _ hx)⟩
theorem AIn.put (h : AIn ((b, o) :: m) pb y v w w1) (hc : Chg (fun k => k = b) w1 w2) {o2 : Obj} (ho : w2.heap[b]? = some o2) (hm : ∀ x ∈ m, x.1 ≠ b) : AIn ((b, o2) :: m) pb y v w w2 :=
  h.wr hc h.lo0 fun x hx => by
    rcases List.mem_cons.1 hx with rfl | hx
    · exact ⟨h.lo0, ho⟩
    · have := h.new x (List.mem_cons_of_mem _ hx)
      exact ⟨this.1, hc.stays this.2 (hm x hx)⟩
theorem AIn.swap {b' : Nat} {o' : Obj} (h : AIn ((b, o) :: (b', o') :: m) pb y v w w1) : AIn ((b', o') :: (b, o) :: m) pb y v w w1 :=
  ⟨h.does, h.lt, h.q, fun x hx => h.new x (by
    rcases List.mem_cons.1 hx with rfl | hx
    · exact List.mem_cons_of_mem _ (List.mem_cons_self ..)
    · rcases List.mem_cons.1 hx with rfl | hx
      · exact List.mem_cons_self ..
      · exact List.mem_cons_of_mem _ (List.mem_cons_of_mem _ hx))⟩
theorem AIn.put4 {u0 u1 u2 u3 : Value} {t : TypeId} (h : AIn ((b, .cells #[u0, u1, u2, u3] t (0, 0)) :: m) pb y v w w1) (hm : ∀ x ∈ m, x.1 ≠ b) (v0 v1 v2 v3 : Value) : AIn ((b, .cells #[v0, v1, v2, v3] t (0, 0)) :: m) pb y v w (set4 w1 b v0 v1 v2 v3) :=
  h.put (chg_set4 (S := fun k => k = b) (Chg.refl _ _) (fun _ => rfl) _ _ _ _) (set4_at h.at0 _ _ _ _) hm
theorem AIn.put7 {u0 u1 u2 u3 u4 u5 u6 : Value} {t : TypeId} (h : AIn ((b, .cells #[u0, u1, u2, u3, u4, u5, u6] t (0, 0)) :: m) pb y v w w1) (hm : ∀ x ∈ m, x.1 ≠ b) (v0 v1 v2 v3 v4 v5 v6 : Value) : AIn ((b, .cells #[v0, v1, v2, v3, v4, v5, v6] t (0, 0)) :: m) pb y v w (set7 w1 b v0 v1 v2 v3 v4 v5 v6) :=
  h.put (chg_set7 (S := fun k => k = b) (Chg.refl _ _) (fun _ => rfl) _ _ _ _ _ _ _) (set7_at h.at0 _ _ _ _ _ _ _) hm
end
theorem res_am {fn : Func} {t : Tmp} {T : TypeId} (hT : T = TA) (h : fn.results = #[.cell t T]) (tmps : Array Value) (W : World) (b : Nat) (m : Am) (hc : W.heap[b]? = some (mO m TA)) (hp : tmps.getD t undef = ptr b) : (results fn tmps).run Try.prog W = .ok (amv m) W := by
  subst hT
  obtain ⟨⟨g0, g1, g2, g3⟩, -⟩ := cells4 hc
  have hp2 : tmps[t]?.getD undef = ptr b := by rw [← hp]; simp
  simp [results, h, go_sem, hp2, g0, g1, g2, g3]
theorem res_fm {fn : Func} {t : Tmp} {T : TypeId} (hT : T = TF) (h : fn.results = #[.cell t T]) (tmps : Array Value) (W : World) (b : Nat) (f : Fm) (hc : W.heap[b]? = some (fmO f)) (hp : tmps.getD t undef = ptr b) : (results fn tmps).run Try.prog W = .ok (fmv f) W := by
  subst hT
  obtain ⟨⟨g0, g1, g2, g3, g4, g5, g6⟩, -⟩ := cells7 hc
  have hp2 : tmps[t]?.getD undef = ptr b := by rw [← hp]; simp
  simp [results, h, go_sem, hp2, g0, g1, g2, g3, g4, g5, g6]
theorem res_fmb {fn : Func} {t t' : Tmp} {T : TypeId} (hT : T = TF) (h : fn.results = #[.cell t T, .tmp t']) (tmps : Array Value) (W : World) (b : Nat) (f : Fm) (k : Bool) (hc : W.heap[b]? = some (fmO f)) (hp : tmps.getD t undef = ptr b) (hk : tmps.getD t' undef = .bool k) : (results fn tmps).run Try.prog W = .ok (.tuple #[fmv f, .bool k]) W := by
  subst hT
  obtain ⟨⟨g0, g1, g2, g3, g4, g5, g6⟩, -⟩ := cells7 hc
  have hp2 : tmps[t]?.getD undef = ptr b := by rw [← hp]; simp
  have hk2 : tmps[t']?.getD undef = .bool k := by rw [← hk]; simp
  simp [results, h, go_sem, hp2, hk2, g0, g1, g2, g3, g4, g5, g6]
theorem nil_ne {b : Nat} : ∀ x ∈ ([] : List (Nat × Obj)), x.1 ≠ b := fun x hx => by cases hx
set_option maxHeartbeats 1000000 in
theorem fbusy_fl (w : World) (pb : Nat) (y : Ps) (v : Value) (b : Bool) (h : PAt w pb y v) (hl : y.fl = true) :
    Calls Try.prog 22 #[ptr pb, .bool b] w fun e w' => e = .returned (.tuple #[]) ∧ w = w' := by
  have H := Lib.hid h
  have hfr := h.free
  have hlt := h.lt
  have C1 := Lib.hid (flives w pb y v h)
  rw [hl] at C1
  have c6 := h.cell 6 (.bool y.bu) rfl
  have c16 := h.cell 16 (.bool y.due) rfl
  clear h
  go_enter Try.func22, Try.ntmps22
  go_wp2_with (go_at_call 34; ((with_reducible refine C1.out.mono ?_); rintro e w' ⟨rfl, rfl⟩))
  go_end0
  exact ⟨rfl, rfl⟩
set_option maxHeartbeats 1000000 in
theorem fbusy_same (w : World) (pb : Nat) (y : Ps) (v : Value) (h : PAt w pb y v) (hl : y.fl = false) :
    Calls Try.prog 22 #[ptr pb, .bool y.bu] w fun e w' => e = .returned (.tuple #[]) ∧ w = w' := by
  have H := Lib.hid h
  have hfr := h.free
  have hlt := h.lt
  have C1 := Lib.hid (flives w pb y v h)
  rw [hl] at C1
  have c6 := h.cell 6 (.bool y.bu) rfl
  have c16 := h.cell 16 (.bool y.due) rfl
  obtain ⟨b, hb⟩ : ∃ b, y.bu = b := ⟨_, rfl⟩
  rw [hb] at c6 ⊢
  have q : (b != b) = false := by simp
  have q2 : (!b == b) = false := q
  clear hb
  clear h
  go_enter Try.func22, Try.ntmps22
  go_wp2_with (go_at_call 34; ((with_reducible refine C1.out.mono ?_); rintro e w' ⟨rfl, rfl⟩))
  go_end0
  exact ⟨rfl, rfl⟩
set_option maxHeartbeats 1000000 in
theorem fbusy_do (w : World) (pb : Nat) (y : Ps) (v : Value) (b : Bool) (h : PAt w pb y v) (hl : y.fl = false) (hb : b ≠ y.bu) :
    Calls Try.prog 22 #[ptr pb, .bool b] w fun e w' => e = .returned (.tuple #[]) ∧ ADo pb { y with bu := b, due := true } v w w' := by
  have H := Lib.hid h
  have hfr := h.free
  have hlt := h.lt
  have C1 := Lib.hid (flives w pb y v h)
  rw [hl] at C1
  have c6 := h.cell 6 (.bool y.bu) rfl
  have c16 := h.cell 16 (.bool y.due) rfl
  obtain ⟨d, hd⟩ : ∃ d, y.bu = d := ⟨_, rfl⟩
  rw [hd] at c6 hb
  have q : (b != d) = true := by simpa using hb
  have q2 : (!b == d) = true := q
  clear hd hb
  clear h
  go_enter Try.func22, Try.ntmps22
  go_wp2_with (go_at_call 34; ((with_reducible refine C1.out.mono ?_); rintro e w' ⟨rfl, rfl⟩))
  go_end0
  exact ⟨rfl, ((ADo.refl H.out).set 6 (.bool b) { y with bu := b } rfl rfl).set 16 (.bool true) { y with bu := b, due := true } rfl rfl⟩
theorem fsetBusy (w : World) (pb : Nat) (y : Ps) (v : Value) (b : Bool) (h : PAt w pb y v) :
    Calls Try.prog 22 #[ptr pb, .bool b] w fun e w' => e = .returned (.tuple #[]) ∧ ADo pb (Ps.setBusy b y) v w w' := by
  unfold Ps.setBusy
  by_cases hl : y.fl = true
  · rw [if_neg (by simp [hl])]
    exact (fbusy_fl w pb y v b h hl).mono fun e w' ⟨h1, h2⟩ => ⟨h1, by cases h2; exact ADo.refl h⟩
  have hl : y.fl = false := by simpa using hl
  by_cases hb : b = y.bu
  · subst hb
    rw [if_neg (by simp)]
    exact (fbusy_same w pb y v h hl).mono fun e w' ⟨h1, h2⟩ => ⟨h1, by cases h2; exact ADo.refl h⟩
  · rw [if_pos ⟨hl, hb⟩]; exact fbusy_do w pb y v b h hl hb
theorem fsetBusy_nil (w : World) (b : Bool) : Calls Try.prog 22 #[.pointer none, .bool b] w fun e w' => e = .returned (.tuple #[]) ∧ w = w' := by
  have C1 := Lib.hid (flives_nil w)
  go_enter Try.func22, Try.ntmps22
  go_wp2_with (go_at_call 34; ((with_reducible refine C1.out.mono ?_); rintro e w' ⟨rfl, rfl⟩))
  go_end0
  exact ⟨rfl, rfl⟩
set_option maxHeartbeats 1000000 in
theorem fwant_fl (w : World) (pb : Nat) (y : Ps) (v : Value) (b : Bool) (h : PAt w pb y v) (hl : y.fl = true) :
    Calls Try.prog 23 #[ptr pb, .bool b] w fun e w' => e = .returned (.tuple #[]) ∧ w = w' := by
  have C1 := Lib.hid (flives w pb y v h)
  rw [hl] at C1
  clear h
  go_enter Try.func23, Try.ntmps23
  go_wp2_with (go_at_call 34; ((with_reducible refine C1.out.mono ?_); rintro e w' ⟨rfl, rfl⟩))
  go_end0
  exact ⟨rfl, rfl⟩
set_option maxHeartbeats 1000000 in
theorem fwant_do (w : World) (pb : Nat) (y : Ps) (v : Value) (b : Bool) (h : PAt w pb y v) (hl : y.fl = false) :
    Calls Try.prog 23 #[ptr pb, .bool b] w fun e w' => e = .returned (.tuple #[]) ∧ ADo pb (Ps.count false { y with wa := b }) v w w' := by
  have H := Lib.hid h
  have hfr := h.free
  have hlt := h.lt
  have C1 := Lib.hid (flives w pb y v h)
  rw [hl] at C1
  have H1 : Hid (ADo pb { y with wa := b } v w (w.setCell ⟨pb, 9, none⟩ (.bool b))) := Lib.hid ((ADo.refl h).set 9 (.bool b) _ rfl rfl)
  have C2 := Lib.hid (fcount _ pb _ v false H1.out.at_)
  have c9 := h.cell 9 (.bool y.wa) rfl
  clear h
  go_enter Try.func23, Try.ntmps23
  go_wp2_with (first
    | (go_at_call 34; ((with_reducible refine C1.out.mono ?_); rintro e w' ⟨rfl, rfl⟩))
    | (go_at_call 40; ((with_reducible refine C2.out.mono ?_); rintro e w2 ⟨rfl, hd⟩; have HE := Lib.hid hd; clear hd)))
  go_end0
  exact ⟨rfl, H1.out.then HE.out⟩
theorem fsetWant (w : World) (pb : Nat) (y : Ps) (v : Value) (b : Bool) (h : PAt w pb y v) :
    Calls Try.prog 23 #[ptr pb, .bool b] w fun e w' => e = .returned (.tuple #[]) ∧ ADo pb (Ps.setWant b y) v w w' := by
  unfold Ps.setWant
  by_cases hl : y.fl = true
  · rw [if_pos hl]
    exact (fwant_fl w pb y v b h hl).mono fun e w' ⟨h1, h2⟩ => ⟨h1, by cases h2; exact ADo.refl h⟩
  · rw [if_neg hl]; exact fwant_do w pb y v b h (by simpa using hl)
theorem fsetWant_nil (w : World) (b : Bool) : Calls Try.prog 23 #[.pointer none, .bool b] w fun e w' => e = .returned (.tuple #[]) ∧ w = w' := by
  have C1 := Lib.hid (flives_nil w)
  go_enter Try.func23, Try.ntmps23
  go_wp2_with (go_at_call 34; ((with_reducible refine C1.out.mono ?_); rintro e w' ⟨rfl, rfl⟩))
  go_end0
  exact ⟨rfl, rfl⟩
set_option maxHeartbeats 1000000 in
theorem ffail (w : World) (pb : Nat) (y : Ps) (v : Value) (h : PAt w pb y v) :
    Calls Try.prog 42 #[ptr pb] w fun e w' => e = .returned (amv ⟨bE, false, 0, true⟩) ∧ ADo pb (Ps.fail y) v w w' := by
  have hfr := h.free
  have hlt := h.lt
  have c4 := h.cell 4 (.int .i64 (y.lf : Int)) rfl
  have c10 := h.cell 10 (.bool y.fl) rfl
  have H2 := Lib.hid (((ADo.refl h).set 10 (.bool true) { y with fl := true } rfl rfl).set 4 (.int .i64 0) (Ps.fail y) rfl rfl)
  clear h
  go_enter Try.func42, Try.ntmps42
  go_wp2
  exact bodyPost_ret (v := amv ⟨bE, false, 0, true⟩) (by simp [results, Try.results42, go_sem, bE]) rfl ⟨rfl, H2.out.on ((Below.refl _ _).alloc (Nat.le_refl _) _)⟩
set_option maxHeartbeats 1000000 in
theorem ftick_fl (w : World) (pb : Nat) (y : Ps) (v : Value) (h : PAt w pb y v) (hl : y.fl = true) :
    Calls Try.prog 20 #[ptr pb] w fun e w' => e = .returned (amv noAm) ∧ ADo pb y v w w' := by
  have H1 := Lib.hid (AIn.first h (noM TA))
  have C1 := Lib.hid (flives _ pb y v H1.out.does.at_)
  rw [hl] at C1
  have HE := Lib.hid (ADo.refl h)
  have hfr := h.free
  have hlt := h.lt
  have c4 := h.cell 4 (.int .i64 (y.lf : Int)) rfl
  clear h
  go_enter Try.func20, Try.ntmps20
  go_wp2_with (go_at_call 34; ((with_reducible refine C1.out.mono ?_); rintro e w' ⟨rfl, rfl⟩))
  exact bodyPost_ret (v := amv noAm) (by simp [results, Try.results20, go_sem, noAm, bE]) rfl ⟨rfl, HE.out.on ((Below.refl _ _).alloc (Nat.le_refl _) _)⟩
set_option maxHeartbeats 1000000 in
theorem ftick_no (w : World) (pb : Nat) (y : Ps) (v : Value) (h : PAt w pb y v) (hl : y.fl = false) (hz : y.lf = 0) :
    Calls Try.prog 20 #[ptr pb] w fun e w' => e = .returned (amv noAm) ∧ ADo pb y v w w' := by
  have H1 := Lib.hid (AIn.first h (noM TA))
  have C1 := Lib.hid (flives _ pb y v H1.out.does.at_)
  rw [hl] at C1
  have z0 : ((y.lf : Int) == 0) = true := beq_true (by omega)
  have HE := Lib.hid (ADo.refl h)
  have hfr := h.free
  have hlt := h.lt
  have c4 := h.cell 4 (.int .i64 (y.lf : Int)) rfl
  clear h
  go_enter Try.func20, Try.ntmps20
  go_wp2_with (go_at_call 34; ((with_reducible refine C1.out.mono ?_); rintro e w' ⟨rfl, rfl⟩))
  exact bodyPost_ret (v := amv noAm) (by simp [results, Try.results20, go_sem, noAm, bE]) rfl ⟨rfl, HE.out.on ((Below.refl _ _).alloc (Nat.le_refl _) _)⟩
set_option maxHeartbeats 1000000 in
theorem ftick_less (w : World) (pb : Nat) (y : Ps) (v : Value) (h : PAt w pb y v) (hl : y.fl = false) (hb : y.lf ≤ 255) (hz : 1 < y.lf) :
    Calls Try.prog 20 #[ptr pb] w fun e w' => e = .returned (amv noAm) ∧ ADo pb { y with lf := y.lf - 1 } v w w' := by
  have H1 := Lib.hid (AIn.first h (noM TA))
  have C1 := Lib.hid (flives _ pb y v H1.out.does.at_)
  rw [hl] at C1
  have z0 : ((y.lf : Int) == 0) = false := beq_false (by omega)
  have z1 : IntKind.i64.wrap ((y.lf : Int) - 1) = ((y.lf - 1 : Nat) : Int) := by rw [IntKind.wrap_i64]; omega
  obtain ⟨m, hm⟩ : ∃ m, y.lf - 1 = m := ⟨_, rfl⟩
  have z2 : decide ((0 : Int) < (m : Int)) = true := decide_eq_true (by omega)
  have z2b : decide (0 < m) = true := decide_eq_true (by omega)
  have z3 : (0 : Int) < (m : Int) := by omega
  rw [hm] at z1 ⊢
  clear hm
  have HE := Lib.hid ((ADo.refl h).set 4 (nm m) { y with lf := m } rfl rfl)
  have hfr := h.free
  have hlt := h.lt
  have c4 := h.cell 4 (.int .i64 (y.lf : Int)) rfl
  clear h
  go_enter Try.func20, Try.ntmps20
  go_wp2_with (go_at_call 34; ((with_reducible refine C1.out.mono ?_); rintro e w' ⟨rfl, rfl⟩))
  exact bodyPost_ret (v := amv noAm) (by simp [results, Try.results20, go_sem, noAm, bE]) rfl ⟨rfl, HE.out.on ((Below.refl _ _).alloc (Nat.le_refl _) _)⟩
set_option maxHeartbeats 2000000 in
theorem ftick_out_y (w : World) (pb : Nat) (y : Ps) (v : Value) (h : PAt w pb y v) (ht : y.tr ≤ 1000) (hl : y.fl = false) (hz : y.lf = 1) (ho : 0 < y.out) (hn : y.n2 < y.tr + 1) :
    Calls Try.prog 20 #[ptr pb] w fun e w' => e = .returned (amv ⟨bE, false, 0, true⟩) ∧ ADo pb { y with lf := 0, tr := y.tr + 1, fl := true } v w w' := by
  have H1 := Lib.hid (AIn.first h (noM TA))
  have C1 := Lib.hid (flives _ pb y v H1.out.does.at_)
  rw [hl] at C1
  have hfr := h.free
  have hlt := h.lt
  have c2 := h.cell 2 (.int .i64 (y.out : Int)) rfl
  have c8 := h.cell 8 (.bool y.ak) rfl
  have c4 := h.cell 4 (.int .i64 (y.lf : Int)) rfl
  have c3 := h.cell 3 (.int .i64 (y.tr : Int)) rfl
  have c12 := h.cell 12 (.int .i64 (y.n2 : Int)) rfl
  rw [hz] at c4
  obtain ⟨m, hm⟩ : ∃ m, y.out = m := ⟨_, rfl⟩
  rw [hm] at c2 ho
  have g0 : decide ((0 : Int) < (m : Int)) = true := decide_eq_true (by omega)
  have g0b : decide (0 < m) = true := decide_eq_true (by omega)
  have vt : IntKind.i64.wrap ((y.tr : Int) + 1) = ((y.tr + 1 : Nat) : Int) := by rw [IntKind.wrap_i64]; omega
  have vl : IntKind.i64.wrap 0 = 0 := by decide
  obtain ⟨tr, htr⟩ : ∃ tr, y.tr + 1 = tr := ⟨_, rfl⟩
  rw [htr] at hn vt ⊢
  have g2 : decide ((y.n2 : Int) < (tr : Int)) = true := decide_eq_true (by omega)
  have g3 : decide (y.n2 < tr) = true := decide_eq_true (by omega)
  have HI2 : Hid (AIn [(w.heap.size, noM TA)] pb { y with lf := 0, tr := tr } v w (((w.setCell ⟨pb, 4, none⟩ (.int .i64 0)).setCell ⟨pb, 3, none⟩ (nm tr)).alloc (noM TA))) := Lib.hid (AIn.made h (((ADo.refl h).set 4 (.int .i64 0) { y with lf := 0 } rfl rfl).set 3 (nm tr) { y with lf := 0, tr := tr } rfl rfl) (by simp) _)
  clear h hm ho hz
  go_enter Try.func20, Try.ntmps20
  go_wp2_with (go_at_call 34; ((with_reducible refine C1.out.mono ?_); rintro e w' ⟨rfl, rfl⟩))
  go_quiet (fail)
  have HI3 := Lib.hid (HI2.out.drewN nq)
  generalize (((w.setCell ⟨pb, 4, none⟩ (.int .i64 0)).setCell ⟨pb, 3, none⟩ (nm tr)).alloc (noM TA)).drewN nq = w2 at HI3 ⊢
  clear HI2 H1 C1 c2 c8 c4 c3 c12 hfr
  have CF := Lib.hid (ffail _ pb _ v HI3.out.does.at_)
  go_wp2_with fail
  refine CF.out.mono ?_
  rintro _ w3 ⟨rfl, hd⟩
  have HI4 := Lib.hid (HI3.out.next hd)
  clear hd CF HI3
  obtain ⟨⟨k0, k1, k2, k3⟩, kf⟩ := cells4 HI4.out.at0
  have HE := Lib.hid (HI4.out.put4 nil_ne (.string bE) (.bool false) (nm 0) (.bool true))
  go_wp2
  exact bodyPost_ret (res_am rfl rfl _ _ _ ⟨bE, false, 0, true⟩ HE.out.at0 rfl) rfl ⟨rfl, HE.out.does⟩
set_option maxHeartbeats 2000000 in
theorem ftick_out_n (w : World) (pb : Nat) (y : Ps) (v : Value) (h : PAt w pb y v) (ht : y.tr ≤ 1000) (hl : y.fl = false) (hz : y.lf = 1) (ho : 0 < y.out) (hn : ¬ y.n2 < y.tr + 1) :
    Calls Try.prog 20 #[ptr pb] w fun e w' => e = .returned (amv noAm) ∧ ADo pb { y with lf := y.t1, tr := y.tr + 1, ak := true, poll := true } v w w' := by
  have H1 := Lib.hid (AIn.first h (noM TA))
  have C1 := Lib.hid (flives _ pb y v H1.out.does.at_)
  rw [hl] at C1
  have hfr := h.free
  have hlt := h.lt
  have c2 := h.cell 2 (.int .i64 (y.out : Int)) rfl
  have c8 := h.cell 8 (.bool y.ak) rfl
  have c4 := h.cell 4 (.int .i64 (y.lf : Int)) rfl
  have c3 := h.cell 3 (.int .i64 (y.tr : Int)) rfl
  have c12 := h.cell 12 (.int .i64 (y.n2 : Int)) rfl
  rw [hz] at c4
  obtain ⟨m, hm⟩ : ∃ m, y.out = m := ⟨_, rfl⟩
  rw [hm] at c2 ho
  have g0 : decide ((0 : Int) < (m : Int)) = true := decide_eq_true (by omega)
  have g0b : decide (0 < m) = true := decide_eq_true (by omega)
  have vt : IntKind.i64.wrap ((y.tr : Int) + 1) = ((y.tr + 1 : Nat) : Int) := by rw [IntKind.wrap_i64]; omega
  have vl : IntKind.i64.wrap 0 = 0 := by decide
  obtain ⟨tr, htr⟩ : ∃ tr, y.tr + 1 = tr := ⟨_, rfl⟩
  rw [htr] at hn vt ⊢
  have g2 : decide ((y.n2 : Int) < (tr : Int)) = false := decide_eq_false (by omega)
  have g3 : decide (y.n2 < tr) = false := decide_eq_false (by omega)
  have HI2 : Hid (AIn [(w.heap.size, noM TA)] pb { y with lf := 0, tr := tr } v w (((w.setCell ⟨pb, 4, none⟩ (.int .i64 0)).setCell ⟨pb, 3, none⟩ (nm tr)).alloc (noM TA))) := Lib.hid (AIn.made h (((ADo.refl h).set 4 (.int .i64 0) { y with lf := 0 } rfl rfl).set 3 (nm tr) { y with lf := 0, tr := tr } rfl rfl) (by simp) _)
  clear h hm ho hz
  go_enter Try.func20, Try.ntmps20
  go_wp2_with (go_at_call 34; ((with_reducible refine C1.out.mono ?_); rintro e w' ⟨rfl, rfl⟩))
  go_quiet (fail)
  have HI3 := Lib.hid (HI2.out.drewN nq)
  generalize (((w.setCell ⟨pb, 4, none⟩ (.int .i64 0)).setCell ⟨pb, 3, none⟩ (nm tr)).alloc (noM TA)).drewN nq = w2 at HI3 ⊢
  clear HI2 H1 C1 c2 c8 c4 c3 c12 hfr
  have hfr := HI3.out.does.at_.free
  have hl2 := HI3.out.lt
  obtain ⟨⟨k0, k1, k2, k3⟩, kf⟩ := cells4 HI3.out.at0
  have d8 := HI3.out.does.at_.cell 8 (.bool y.ak) rfl
  have d19 := HI3.out.does.at_.cell 19 (.bool y.poll) rfl
  have d4 := HI3.out.does.at_.cell 4 (.int .i64 0) rfl
  have d13 := HI3.out.does.at_.cell 13 (.int .i64 (y.t1 : Int)) rfl
  have HE := Lib.hid ((((HI3.out.set 8 (.bool true) { y with lf := 0, tr := tr, ak := true } rfl rfl).set 19 (.bool true) { y with lf := 0, tr := tr, ak := true, poll := true } rfl rfl).set 4 (nm y.t1) { y with lf := y.t1, tr := tr, ak := true, poll := true } rfl rfl).put4 nil_ne (.string ⟨#[]⟩) (.bool false) (.int .i64 0) (.bool false))
  go_wp2
  exact bodyPost_ret (res_am rfl rfl _ _ _ noAm HE.out.at0 rfl) rfl ⟨rfl, HE.out.does⟩
set_option maxHeartbeats 2000000 in
theorem ftick_ask_y (w : World) (pb : Nat) (y : Ps) (v : Value) (h : PAt w pb y v) (ht : y.tr ≤ 1000) (hl : y.fl = false) (hz : y.lf = 1) (ho : ¬ 0 < y.out) (hk : y.ak = true) (hn : y.n2 < y.tr + 1) :
    Calls Try.prog 20 #[ptr pb] w fun e w' => e = .returned (amv ⟨bE, false, 0, true⟩) ∧ ADo pb { y with lf := 0, tr := y.tr + 1, fl := true } v w w' := by
  have H1 := Lib.hid (AIn.first h (noM TA))
  have C1 := Lib.hid (flives _ pb y v H1.out.does.at_)
  rw [hl] at C1
  have hfr := h.free
  have hlt := h.lt
  have c2 := h.cell 2 (.int .i64 (y.out : Int)) rfl
  have c8 := h.cell 8 (.bool y.ak) rfl
  have c4 := h.cell 4 (.int .i64 (y.lf : Int)) rfl
  have c3 := h.cell 3 (.int .i64 (y.tr : Int)) rfl
  have c12 := h.cell 12 (.int .i64 (y.n2 : Int)) rfl
  rw [hz] at c4
  obtain ⟨m, hm⟩ : ∃ m, y.out = m := ⟨_, rfl⟩
  rw [hm] at c2 ho
  have g0 : decide ((0 : Int) < (m : Int)) = false := decide_eq_false (by omega)
  have g0b : decide (0 < m) = false := decide_eq_false (by omega)
  rw [hk] at c8
  have vt : IntKind.i64.wrap ((y.tr : Int) + 1) = ((y.tr + 1 : Nat) : Int) := by rw [IntKind.wrap_i64]; omega
  have vl : IntKind.i64.wrap 0 = 0 := by decide
  obtain ⟨tr, htr⟩ : ∃ tr, y.tr + 1 = tr := ⟨_, rfl⟩
  rw [htr] at hn vt ⊢
  have g2 : decide ((y.n2 : Int) < (tr : Int)) = true := decide_eq_true (by omega)
  have g3 : decide (y.n2 < tr) = true := decide_eq_true (by omega)
  have HI2 : Hid (AIn [(w.heap.size, noM TA)] pb { y with lf := 0, tr := tr } v w (((w.setCell ⟨pb, 4, none⟩ (.int .i64 0)).setCell ⟨pb, 3, none⟩ (nm tr)).alloc (noM TA))) := Lib.hid (AIn.made h (((ADo.refl h).set 4 (.int .i64 0) { y with lf := 0 } rfl rfl).set 3 (nm tr) { y with lf := 0, tr := tr } rfl rfl) (by simp) _)
  clear h hm ho hz
  go_enter Try.func20, Try.ntmps20
  go_wp2_with (go_at_call 34; ((with_reducible refine C1.out.mono ?_); rintro e w' ⟨rfl, rfl⟩))
  go_quiet (fail)
  have HI3 := Lib.hid (HI2.out.drewN nq)
  generalize (((w.setCell ⟨pb, 4, none⟩ (.int .i64 0)).setCell ⟨pb, 3, none⟩ (nm tr)).alloc (noM TA)).drewN nq = w2 at HI3 ⊢
  clear HI2 H1 C1 c2 c8 c4 c3 c12 hfr
  have CF := Lib.hid (ffail _ pb _ v HI3.out.does.at_)
  go_wp2_with fail
  refine CF.out.mono ?_
  rintro _ w3 ⟨rfl, hd⟩
  have HI4 := Lib.hid (HI3.out.next hd)
  clear hd CF HI3
  obtain ⟨⟨k0, k1, k2, k3⟩, kf⟩ := cells4 HI4.out.at0
  have HE := Lib.hid (HI4.out.put4 nil_ne (.string bE) (.bool false) (nm 0) (.bool true))
  go_wp2
  exact bodyPost_ret (res_am rfl rfl _ _ _ ⟨bE, false, 0, true⟩ HE.out.at0 rfl) rfl ⟨rfl, HE.out.does⟩
set_option maxHeartbeats 2000000 in
theorem ftick_ask_n (w : World) (pb : Nat) (y : Ps) (v : Value) (h : PAt w pb y v) (ht : y.tr ≤ 1000) (hl : y.fl = false) (hz : y.lf = 1) (ho : ¬ 0 < y.out) (hk : y.ak = true) (hn : ¬ y.n2 < y.tr + 1) :
    Calls Try.prog 20 #[ptr pb] w fun e w' => e = .returned (amv noAm) ∧ ADo pb { y with lf := y.t1, tr := y.tr + 1, ak := true, poll := true } v w w' := by
  have H1 := Lib.hid (AIn.first h (noM TA))
  have C1 := Lib.hid (flives _ pb y v H1.out.does.at_)
  rw [hl] at C1
  have hfr := h.free
  have hlt := h.lt
  have c2 := h.cell 2 (.int .i64 (y.out : Int)) rfl
  have c8 := h.cell 8 (.bool y.ak) rfl
  have c4 := h.cell 4 (.int .i64 (y.lf : Int)) rfl
  have c3 := h.cell 3 (.int .i64 (y.tr : Int)) rfl
  have c12 := h.cell 12 (.int .i64 (y.n2 : Int)) rfl
  rw [hz] at c4
  obtain ⟨m, hm⟩ : ∃ m, y.out = m := ⟨_, rfl⟩
  rw [hm] at c2 ho
  have g0 : decide ((0 : Int) < (m : Int)) = false := decide_eq_false (by omega)
  have g0b : decide (0 < m) = false := decide_eq_false (by omega)
  rw [hk] at c8
  have vt : IntKind.i64.wrap ((y.tr : Int) + 1) = ((y.tr + 1 : Nat) : Int) := by rw [IntKind.wrap_i64]; omega
  have vl : IntKind.i64.wrap 0 = 0 := by decide
  obtain ⟨tr, htr⟩ : ∃ tr, y.tr + 1 = tr := ⟨_, rfl⟩
  rw [htr] at hn vt ⊢
  have g2 : decide ((y.n2 : Int) < (tr : Int)) = false := decide_eq_false (by omega)
  have g3 : decide (y.n2 < tr) = false := decide_eq_false (by omega)
  have HI2 : Hid (AIn [(w.heap.size, noM TA)] pb { y with lf := 0, tr := tr } v w (((w.setCell ⟨pb, 4, none⟩ (.int .i64 0)).setCell ⟨pb, 3, none⟩ (nm tr)).alloc (noM TA))) := Lib.hid (AIn.made h (((ADo.refl h).set 4 (.int .i64 0) { y with lf := 0 } rfl rfl).set 3 (nm tr) { y with lf := 0, tr := tr } rfl rfl) (by simp) _)
  clear h hm ho hz
  go_enter Try.func20, Try.ntmps20
  go_wp2_with (go_at_call 34; ((with_reducible refine C1.out.mono ?_); rintro e w' ⟨rfl, rfl⟩))
  go_quiet (fail)
  have HI3 := Lib.hid (HI2.out.drewN nq)
  generalize (((w.setCell ⟨pb, 4, none⟩ (.int .i64 0)).setCell ⟨pb, 3, none⟩ (nm tr)).alloc (noM TA)).drewN nq = w2 at HI3 ⊢
  clear HI2 H1 C1 c2 c8 c4 c3 c12 hfr
  have hfr := HI3.out.does.at_.free
  have hl2 := HI3.out.lt
  obtain ⟨⟨k0, k1, k2, k3⟩, kf⟩ := cells4 HI3.out.at0
  have d8 := HI3.out.does.at_.cell 8 (.bool y.ak) rfl
  have d19 := HI3.out.does.at_.cell 19 (.bool y.poll) rfl
  have d4 := HI3.out.does.at_.cell 4 (.int .i64 0) rfl
  have d13 := HI3.out.does.at_.cell 13 (.int .i64 (y.t1 : Int)) rfl
  have HE := Lib.hid ((((HI3.out.set 8 (.bool true) { y with lf := 0, tr := tr, ak := true } rfl rfl).set 19 (.bool true) { y with lf := 0, tr := tr, ak := true, poll := true } rfl rfl).set 4 (nm y.t1) { y with lf := y.t1, tr := tr, ak := true, poll := true } rfl rfl).put4 nil_ne (.string ⟨#[]⟩) (.bool false) (.int .i64 0) (.bool false))
  go_wp2
  exact bodyPost_ret (res_am rfl rfl _ _ _ noAm HE.out.at0 rfl) rfl ⟨rfl, HE.out.does⟩
set_option maxHeartbeats 2000000 in
theorem ftick_none_y (w : World) (pb : Nat) (y : Ps) (v : Value) (h : PAt w pb y v) (ht : y.tr ≤ 1000) (hl : y.fl = false) (hz : y.lf = 1) (ho : ¬ 0 < y.out) (hk : y.ak = false) (hn : y.n2 < y.tr) :
    Calls Try.prog 20 #[ptr pb] w fun e w' => e = .returned (amv ⟨bE, false, 0, true⟩) ∧ ADo pb { y with lf := 0, tr := y.tr, fl := true } v w w' := by
  have H1 := Lib.hid (AIn.first h (noM TA))
  have C1 := Lib.hid (flives _ pb y v H1.out.does.at_)
  rw [hl] at C1
  have hfr := h.free
  have hlt := h.lt
  have c2 := h.cell 2 (.int .i64 (y.out : Int)) rfl
  have c8 := h.cell 8 (.bool y.ak) rfl
  have c4 := h.cell 4 (.int .i64 (y.lf : Int)) rfl
  have c3 := h.cell 3 (.int .i64 (y.tr : Int)) rfl
  have c12 := h.cell 12 (.int .i64 (y.n2 : Int)) rfl
  rw [hz] at c4
  obtain ⟨m, hm⟩ : ∃ m, y.out = m := ⟨_, rfl⟩
  rw [hm] at c2 ho
  have g0 : decide ((0 : Int) < (m : Int)) = false := decide_eq_false (by omega)
  have g0b : decide (0 < m) = false := decide_eq_false (by omega)
  rw [hk] at c8
  have vt : IntKind.i64.wrap ((y.tr : Int) + 1) = ((y.tr + 1 : Nat) : Int) := by rw [IntKind.wrap_i64]; omega
  have vl : IntKind.i64.wrap 0 = 0 := by decide
  obtain ⟨tr, htr⟩ : ∃ tr, y.tr = tr := ⟨_, rfl⟩
  rw [htr] at hn ⊢
  have g2 : decide ((y.n2 : Int) < (tr : Int)) = true := decide_eq_true (by omega)
  have g3 : decide (y.n2 < tr) = true := decide_eq_true (by omega)
  have HI2 : Hid (AIn [(w.heap.size, noM TA)] pb { y with lf := 0, tr := tr } v w ((w.setCell ⟨pb, 4, none⟩ (.int .i64 0)).alloc (noM TA))) := Lib.hid (htr ▸ AIn.made h ((ADo.refl h).set 4 (.int .i64 0) { y with lf := 0 } rfl rfl) (by simp) _)
  clear h hm ho hz
  go_enter Try.func20, Try.ntmps20
  go_wp2_with (go_at_call 34; ((with_reducible refine C1.out.mono ?_); rintro e w' ⟨rfl, rfl⟩))
  go_quiet (fail)
  have HI3 := Lib.hid (HI2.out.drewN nq)
  generalize ((w.setCell ⟨pb, 4, none⟩ (.int .i64 0)).alloc (noM TA)).drewN nq = w2 at HI3 ⊢
  clear HI2 H1 C1 c2 c8 c4 c3 c12 hfr
  have CF := Lib.hid (ffail _ pb _ v HI3.out.does.at_)
  go_wp2_with fail
  refine CF.out.mono ?_
  rintro _ w3 ⟨rfl, hd⟩
  have HI4 := Lib.hid (HI3.out.next hd)
  clear hd CF HI3
  obtain ⟨⟨k0, k1, k2, k3⟩, kf⟩ := cells4 HI4.out.at0
  have HE := Lib.hid (HI4.out.put4 nil_ne (.string bE) (.bool false) (nm 0) (.bool true))
  go_wp2
  exact bodyPost_ret (res_am rfl rfl _ _ _ ⟨bE, false, 0, true⟩ HE.out.at0 rfl) rfl ⟨rfl, HE.out.does⟩
set_option maxHeartbeats 2000000 in
theorem ftick_none_n (w : World) (pb : Nat) (y : Ps) (v : Value) (h : PAt w pb y v) (ht : y.tr ≤ 1000) (hl : y.fl = false) (hz : y.lf = 1) (ho : ¬ 0 < y.out) (hk : y.ak = false) (hn : ¬ y.n2 < y.tr) :
    Calls Try.prog 20 #[ptr pb] w fun e w' => e = .returned (amv noAm) ∧ ADo pb { y with lf := y.t1, tr := y.tr, ak := true, poll := true } v w w' := by
  have H1 := Lib.hid (AIn.first h (noM TA))
  have C1 := Lib.hid (flives _ pb y v H1.out.does.at_)
  rw [hl] at C1
  have hfr := h.free
  have hlt := h.lt
  have c2 := h.cell 2 (.int .i64 (y.out : Int)) rfl
  have c8 := h.cell 8 (.bool y.ak) rfl
  have c4 := h.cell 4 (.int .i64 (y.lf : Int)) rfl
  have c3 := h.cell 3 (.int .i64 (y.tr : Int)) rfl
  have c12 := h.cell 12 (.int .i64 (y.n2 : Int)) rfl
  rw [hz] at c4
  obtain ⟨m, hm⟩ : ∃ m, y.out = m := ⟨_, rfl⟩
  rw [hm] at c2 ho
  have g0 : decide ((0 : Int) < (m : Int)) = false := decide_eq_false (by omega)
  have g0b : decide (0 < m) = false := decide_eq_false (by omega)
  rw [hk] at c8
  have vt : IntKind.i64.wrap ((y.tr : Int) + 1) = ((y.tr + 1 : Nat) : Int) := by rw [IntKind.wrap_i64]; omega
  have vl : IntKind.i64.wrap 0 = 0 := by decide
  obtain ⟨tr, htr⟩ : ∃ tr, y.tr = tr := ⟨_, rfl⟩
  rw [htr] at hn ⊢
  have g2 : decide ((y.n2 : Int) < (tr : Int)) = false := decide_eq_false (by omega)
  have g3 : decide (y.n2 < tr) = false := decide_eq_false (by omega)
  have HI2 : Hid (AIn [(w.heap.size, noM TA)] pb { y with lf := 0, tr := tr } v w ((w.setCell ⟨pb, 4, none⟩ (.int .i64 0)).alloc (noM TA))) := Lib.hid (htr ▸ AIn.made h ((ADo.refl h).set 4 (.int .i64 0) { y with lf := 0 } rfl rfl) (by simp) _)
  clear h hm ho hz
  go_enter Try.func20, Try.ntmps20
  go_wp2_with (go_at_call 34; ((with_reducible refine C1.out.mono ?_); rintro e w' ⟨rfl, rfl⟩))
  go_quiet (fail)
  have HI3 := Lib.hid (HI2.out.drewN nq)
  generalize ((w.setCell ⟨pb, 4, none⟩ (.int .i64 0)).alloc (noM TA)).drewN nq = w2 at HI3 ⊢
  clear HI2 H1 C1 c2 c8 c4 c3 c12 hfr
  have hfr := HI3.out.does.at_.free
  have hl2 := HI3.out.lt
  obtain ⟨⟨k0, k1, k2, k3⟩, kf⟩ := cells4 HI3.out.at0
  have d8 := HI3.out.does.at_.cell 8 (.bool y.ak) rfl
  have d19 := HI3.out.does.at_.cell 19 (.bool y.poll) rfl
  have d4 := HI3.out.does.at_.cell 4 (.int .i64 0) rfl
  have d13 := HI3.out.does.at_.cell 13 (.int .i64 (y.t1 : Int)) rfl
  have HE := Lib.hid ((((HI3.out.set 8 (.bool true) { y with lf := 0, tr := tr, ak := true } rfl rfl).set 19 (.bool true) { y with lf := 0, tr := tr, ak := true, poll := true } rfl rfl).set 4 (nm y.t1) { y with lf := y.t1, tr := tr, ak := true, poll := true } rfl rfl).put4 nil_ne (.string ⟨#[]⟩) (.bool false) (.int .i64 0) (.bool false))
  go_wp2
  exact bodyPost_ret (res_am rfl rfl _ _ _ noAm HE.out.at0 rfl) rfl ⟨rfl, HE.out.does⟩
end Go.Proofs.Ytkoaplmlabagnaa.Aq
