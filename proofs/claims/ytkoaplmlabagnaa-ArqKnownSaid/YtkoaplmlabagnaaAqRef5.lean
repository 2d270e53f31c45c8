/-
  The document's own side: what a call has of its own beside it; an I is taken. Condition: it lies where it says; its numbers are small.
-/
import Derived.Test.YtkoaplmlabagnaaAqPm8
namespace Go.Proofs.Ytkoaplmlabagnaa.Aq
open Go.RowKit Go.Proofs.Ytkoaplmlabagnaa.Base Go.Proofs.Ytkoaplmlabagnaa.Mem
/-- Within a call: that side, and blocks of the call's own with what they hold. -/
structure RIm (m : List (Nat × Obj)) (pb : Nat) (y : Sd) (v : Value) (w w1 : World) : Prop where
  does : RDo pb y v w w1
  lt : pb < w.heap.size
  q : ∀ g, v.ownBlock = some g → g < w.heap.size
  new : ∀ x ∈ m, w.heap.size ≤ x.1 ∧ w1.heap[x.1]? = some x.2
section
variable {m m' : List (Nat × Obj)} {pb b : Nat} {x y : Sd} {v : Value} {w w' w1 w2 : World} {o : Obj}
theorem RIm.start (h0 : RAt w pb x v) (h : RDo pb y v w w') : RIm [] pb y v w w' := ⟨h, h0.lt, fun g hg => (h0.q.lt g hg).2, fun x hx => by cases hx⟩
theorem RIm.alloc (h : RIm m pb y v w w1) (o : Obj) : RIm ((w1.heap.size, o) :: m) pb y v w (w1.alloc o) :=
  ⟨h.does.on ((Below.refl _ _).alloc (Nat.le_refl _) o), h.lt, h.q, fun x hx => by
    rcases List.mem_cons.1 hx with rfl | hx
    · exact ⟨h.does.chg.size, nest w1 [_] 0 _ rfl⟩
    · exact ⟨(h.new x hx).1, stays (h.new x hx).2 ((Below.refl _ _).alloc (Nat.le_refl _) o)⟩⟩
theorem RIm.first (h0 : RAt w pb x v) (o : Obj) : RIm [(w.heap.size, o)] pb x v w (w.alloc o) := (RIm.start h0 (RDo.refl h0)).alloc o
theorem RIm.made (h0 : RAt w pb x v) (h : RDo pb y v w w') (hs : w'.heap.size = w.heap.size) (o : Obj) : RIm [(w.heap.size, o)] pb y v w (w'.alloc o) := by
  have := (RIm.start h0 h).alloc o
  rwa [hs] at this
theorem RIm.below (h : RIm m pb y v w w1) (hb : Below w1.heap.size w1 w2) : RIm m pb y v w w2 := ⟨h.does.on hb, h.lt, h.q, fun x hx => ⟨(h.new x hx).1, stays (h.new x hx).2 hb⟩⟩
theorem RIm.drewN (h : RIm m pb y v w w1) (n : Nat) : RIm m pb y v w (w1.drewN n) := h.below ⟨rfl, rfl, rfl, Nat.le_refl _, fun _ _ => rfl⟩
theorem RIm.drew (h : RIm m pb y v w w1) : RIm m pb y v w w1.drew := h.below ⟨rfl, rfl, rfl, Nat.le_refl _, fun _ _ => rfl⟩
theorem RIm.next (h : RIm m pb x v w w1) (h2 : RDo pb y v w1 w2) : RIm m pb y v w w2 :=
  ⟨h.does.then h2, h.lt, h.q, fun z hz => ⟨(h.new z hz).1, h2.chg.stays (h.new z hz).2 (fun e => by have := h.lt; have := (h.new z hz).1; omega)⟩⟩
theorem RIm.set (h : RIm m pb x v w w1) (i : Nat) (u : Value) (y : Sd) (hy : (rcs x v).setIfInBounds i u = rcs y v) (hp : y.p = x.p) : RIm m pb y v w (w1.setCell ⟨pb, i, none⟩ u) := h.next ((RDo.refl h.does.at_).set i u y hy hp)
theorem RIm.wr (h : RIm m pb y v w w1) (hc : Chg (fun k => k = b) w1 w2) (hb : w.heap.size ≤ b) (hm : ∀ x ∈ m', w.heap.size ≤ x.1 ∧ w2.heap[x.1]? = some x.2) : RIm m' pb y v w w2 :=
  ⟨⟨⟨hc.stays h.does.at_.blk (by have := h.lt; omega), h.does.at_.q.eqv fun g hg => hc.block g (h.does.at_.q.lt g hg).2 (by have := h.q g hg; omega)⟩, h.does.chg.trans hc (fun k hk e => by omega)⟩, h.lt, h.q, hm⟩
theorem RIm.at0 (h : RIm ((b, o) :: m) pb y v w w1) : w1.heap[b]? = some o := (h.new _ (List.mem_cons_self ..)).2
theorem RIm.lo0 (h : RIm ((b, o) :: m) pb y v w w1) : w.heap.size ≤ b := (h.new _ (List.mem_cons_self ..)).1
theorem RIm.tail (h : RIm ((b, o) :: m) pb y v w w1) : RIm m pb y v w w1 := ⟨h.does, h.lt, h.q, fun x hx => h.new x (List.mem_cons_of_mem _ hx)⟩
theorem RIm.put (h : RIm ((b, o) :: m) pb y v w w1) (hc : Chg (fun k => k = b) w1 w2) {o2 : Obj} (ho : w2.heap[b]? = some o2) (hm : ∀ x ∈ m, x.1 ≠ b) : RIm ((b, o2) :: m) pb y v w w2 :=
  h.wr hc h.lo0 fun x hx => by
    rcases List.mem_cons.1 hx with rfl | hx
    · exact ⟨h.lo0, ho⟩
    · have := h.new x (List.mem_cons_of_mem _ hx)
      exact ⟨this.1, hc.stays this.2 (hm x hx)⟩
theorem RIm.swap {b' : Nat} {o' : Obj} (h : RIm ((b, o) :: (b', o') :: m) pb y v w w1) : RIm ((b', o') :: (b, o) :: m) pb y v w w1 :=
  ⟨h.does, h.lt, h.q, fun x hx => h.new x (by
    rcases List.mem_cons.1 hx with rfl | hx
    · exact List.mem_cons_of_mem _ (List.mem_cons_self ..)
    · rcases List.mem_cons.1 hx with rfl | hx
      · exact List.mem_cons_self ..
      · exact List.mem_cons_of_mem _ (List.mem_cons_of_mem _ hx))⟩
theorem RIm.put4 {u0 u1 u2 u3 : Value} {t : TypeId} (h : RIm ((b, .cells #[u0, u1, u2, u3] t (0, 0)) :: m) pb y v w w1) (hm : ∀ x ∈ m, x.1 ≠ b) (v0 v1 v2 v3 : Value) : RIm ((b, .cells #[v0, v1, v2, v3] t (0, 0)) :: m) pb y v w (set4 w1 b v0 v1 v2 v3) :=
  h.put (chg_set4 (S := fun k => k = b) (Chg.refl _ _) (fun _ => rfl) _ _ _ _) (set4_at h.at0 _ _ _ _) hm
theorem RIm.put7 {u0 u1 u2 u3 u4 u5 u6 : Value} {t : TypeId} (h : RIm ((b, .cells #[u0, u1, u2, u3, u4, u5, u6] t (0, 0)) :: m) pb y v w w1) (hm : ∀ x ∈ m, x.1 ≠ b) (v0 v1 v2 v3 v4 v5 v6 : Value) : RIm ((b, .cells #[v0, v1, v2, v3, v4, v5, v6] t (0, 0)) :: m) pb y v w (set7 w1 b v0 v1 v2 v3 v4 v5 v6) :=
  h.put (chg_set7 (S := fun k => k = b) (Chg.refl _ _) (fun _ => rfl) _ _ _ _ _ _ _) (set7_at h.at0 _ _ _ _ _ _ _) hm
end
theorem res_amR {fn : Func} {t : Tmp} {T : TypeId} (hT : T = TR) (h : fn.results = #[.cell t T]) (tmps : Array Value) (W : World) (b : Nat) (m : Am) (hc : W.heap[b]? = some (mO m TR)) (hp : tmps.getD t undef = ptr b) : (results fn tmps).run Try.prog W = .ok (amv m) W := by
  subst hT
  obtain ⟨⟨g0, g1, g2, g3⟩, -⟩ := cells4 hc
  have hp2 : tmps[t]?.getD undef = ptr b := by rw [← hp]; simp
  simp [results, h, go_sem, hp2, g0, g1, g2, g3]
theorem RIm.putS {m : List (Nat × Obj)} {pb b : Nat} {y : Sd} {v : Value} {w w1 : World} {a : Am} (h : RIm ((b, mO a TR) :: m) pb y v w w1) (s : ByteArray) (hm : ∀ x ∈ m, x.1 ≠ b) : RIm ((b, mO { a with i := s } TR) :: m) pb y v w (w1.setCell ⟨b, 0, none⟩ (.string s)) :=
  h.put (Chg.set (S := fun k => k = b) b 0 _ rfl w1) (block_set (i := 0) h.at0 _) hm
theorem RIm.putT {m : List (Nat × Obj)} {pb b : Nat} {y : Sd} {v : Value} {w w1 : World} {a : Am} (h : RIm ((b, mO a TR) :: m) pb y v w w1) (s : Bool) (hm : ∀ x ∈ m, x.1 ≠ b) : RIm ((b, mO { a with taken := s } TR) :: m) pb y v w (w1.setCell ⟨b, 1, none⟩ (.bool s)) :=
  h.put (Chg.set (S := fun k => k = b) b 1 _ rfl w1) (block_set (i := 1) h.at0 _) hm
theorem two_ne' {a b c : Nat} {o p : Obj} (h : a ≠ c) (h' : b ≠ c) : ∀ x ∈ [(a, o), (b, p)], x.1 ≠ c := fun x hx => by
  rcases List.mem_cons.1 hx with rfl | hx
  · exact h
  · obtain rfl := List.mem_singleton.1 hx
    exact h'
theorem RIm.first3 {pb : Nat} {x : Sd} {v : Value} {w : World} (h0 : RAt w pb x v) (o1 o2 o3 : Obj) : RIm [(w.heap.size + 2, o3), (w.heap.size + 1, o2), (w.heap.size, o1)] pb x v w (((w.alloc o1).alloc o2).alloc o3) := by
  have := (((RIm.start h0 (RDo.refl h0)).alloc o1).alloc o2).alloc o3
  rwa [size_alloc, size_alloc] at this
set_option maxHeartbeats 4000000 in
theorem rtake_no (w : World) (pb d : Nat) (x : Sd) (v : Value) (c : Bool) (k : Nat) (pf : Bool) (ns nr : Nat) (i : ByteArray) (m : Am) (h : RAt w pb x v) (hns : ns < 256) (hn : ¬ ns % 8 = x.g % 8) (hr : x.rj = true) :
    Calls Try.prog 51 #[ptr pb, fmvd d ⟨c, k, pf, ns, nr, i⟩, amv m] w fun e w' => e = .returned (amv m) ∧ RDo pb x v w w' := by
  obtain ⟨mi, mt, ma, mf⟩ := m
  have H1 : Hid (RIm [(w.heap.size + 2, noM TR), (w.heap.size + 1, mO ⟨mi, mt, ma, mf⟩ TR), (w.heap.size, fmOd d ⟨c, k, pf, ns, nr, i⟩)] pb x v w (((w.alloc (fmOd d ⟨c, k, pf, ns, nr, i⟩)).alloc (mO ⟨mi, mt, ma, mf⟩ TR)).alloc (noM TR))) := Lib.hid (RIm.first3 h _ _ _)
  have hlt := h.lt
  have hfr := h.free
  have c7 := h.cell 7 (.int .i64 (x.g : Int)) rfl
  obtain ⟨q, hq⟩ : ∃ q, ns % 8 = q := ⟨_, rfl⟩
  obtain ⟨r, hr0⟩ : ∃ r, x.g % 8 = r := ⟨_, rfl⟩
  have q8 : (ns : Int) % 8 = (q : Int) := by omega
  have r8 : (x.g : Int) % 8 = (r : Int) := by omega
  have hns2 : (ns : Int) < 256 := by omega
  have qw : IntKind.i64.wrap (q : Int) = (q : Int) := by rw [IntKind.wrap_i64]; omega
  have z0 : ((q : Int) != (r : Int)) = true := bne_true (by omega)
  have z0b : (q != r) = true := by simp; omega
  clear h hq hr0 hn hns
  go_enter Try.func51, Try.ntmps51
  go_wp2_with fail
  generalize ((w.alloc (fmOd d ⟨c, k, pf, ns, nr, i⟩)).alloc (mO ⟨mi, mt, ma, mf⟩ TR)).alloc (noM TR) = w1 at H1 ⊢
  clear c7 hfr
  have c7 := H1.out.does.at_.cell 7 (.int .i64 (x.g : Int)) rfl
  obtain ⟨⟨l0, l1, l2, l3, l4, l5, l6⟩, lf⟩ := cells7 H1.out.tail.tail.at0
  go_quiet (fail)
  have H2 := Lib.hid (H1.out.drewN nq)
  generalize w1.drewN nq = w2 at H2 ⊢
  clear H1 c7 l0 l1 l2 l3 l4 l5 l6 lf
  have hfr := H2.out.does.at_.free
  have d7 := H2.out.does.at_.cell 7 (.int .i64 (x.g : Int)) rfl
  have d13 := H2.out.does.at_.cell 13 (.bool x.bu) rfl
  have d14 := H2.out.does.at_.cell 14 (.bool x.rj) rfl
  have d8 := H2.out.does.at_.cell 8 (.bool x.due) rfl
  have d10 := H2.out.does.at_.cell 10 (.bool x.rej) rfl
  rw [hr] at d14
  clear hr
  obtain ⟨⟨k0, k1, k2, k3⟩, kf⟩ := cells4 H2.out.at0
  obtain ⟨⟨a0, a1, a2, a3⟩, af⟩ := cells4 H2.out.tail.at0
  obtain ⟨⟨l0, l1, l2, l3, l4, l5, l6⟩, lf⟩ := cells7 H2.out.tail.tail.at0
  have HZ := Lib.hid ((H2.out).put4 (two_ne' (by omega) (by omega)) (.string mi) (.bool mt) (.int .i64 (ma : Int)) (.bool mf))
  go_wp2
  exact bodyPost_ret (res_amR rfl rfl _ _ _ ⟨mi, mt, ma, mf⟩ HZ.out.at0 rfl) rfl ⟨rfl, HZ.out.does⟩
set_option maxHeartbeats 4000000 in
theorem rtake_bu (w : World) (pb d : Nat) (x : Sd) (v : Value) (c : Bool) (k : Nat) (pf : Bool) (ns nr : Nat) (i : ByteArray) (m : Am) (h : RAt w pb x v) (hns : ns < 256) (hn : ¬ ns % 8 = x.g % 8) (hr : x.rj = false) (hb : x.bu = true) :
    Calls Try.prog 51 #[ptr pb, fmvd d ⟨c, k, pf, ns, nr, i⟩, amv m] w fun e w' => e = .returned (amv m) ∧ RDo pb x v w w' := by
  obtain ⟨mi, mt, ma, mf⟩ := m
  have H1 : Hid (RIm [(w.heap.size + 2, noM TR), (w.heap.size + 1, mO ⟨mi, mt, ma, mf⟩ TR), (w.heap.size, fmOd d ⟨c, k, pf, ns, nr, i⟩)] pb x v w (((w.alloc (fmOd d ⟨c, k, pf, ns, nr, i⟩)).alloc (mO ⟨mi, mt, ma, mf⟩ TR)).alloc (noM TR))) := Lib.hid (RIm.first3 h _ _ _)
  have hlt := h.lt
  have hfr := h.free
  have c7 := h.cell 7 (.int .i64 (x.g : Int)) rfl
  obtain ⟨q, hq⟩ : ∃ q, ns % 8 = q := ⟨_, rfl⟩
  obtain ⟨r, hr0⟩ : ∃ r, x.g % 8 = r := ⟨_, rfl⟩
  have q8 : (ns : Int) % 8 = (q : Int) := by omega
  have r8 : (x.g : Int) % 8 = (r : Int) := by omega
  have hns2 : (ns : Int) < 256 := by omega
  have qw : IntKind.i64.wrap (q : Int) = (q : Int) := by rw [IntKind.wrap_i64]; omega
  have z0 : ((q : Int) != (r : Int)) = true := bne_true (by omega)
  have z0b : (q != r) = true := by simp; omega
  clear h hq hr0 hn hns
  go_enter Try.func51, Try.ntmps51
  go_wp2_with fail
  generalize ((w.alloc (fmOd d ⟨c, k, pf, ns, nr, i⟩)).alloc (mO ⟨mi, mt, ma, mf⟩ TR)).alloc (noM TR) = w1 at H1 ⊢
  clear c7 hfr
  have c7 := H1.out.does.at_.cell 7 (.int .i64 (x.g : Int)) rfl
  obtain ⟨⟨l0, l1, l2, l3, l4, l5, l6⟩, lf⟩ := cells7 H1.out.tail.tail.at0
  go_quiet (fail)
  have H2 := Lib.hid (H1.out.drewN nq)
  generalize w1.drewN nq = w2 at H2 ⊢
  clear H1 c7 l0 l1 l2 l3 l4 l5 l6 lf
  have hfr := H2.out.does.at_.free
  have d7 := H2.out.does.at_.cell 7 (.int .i64 (x.g : Int)) rfl
  have d13 := H2.out.does.at_.cell 13 (.bool x.bu) rfl
  have d14 := H2.out.does.at_.cell 14 (.bool x.rj) rfl
  have d8 := H2.out.does.at_.cell 8 (.bool x.due) rfl
  have d10 := H2.out.does.at_.cell 10 (.bool x.rej) rfl
  rw [hr] at d14
  clear hr
  rw [hb] at d13
  clear hb
  obtain ⟨⟨k0, k1, k2, k3⟩, kf⟩ := cells4 H2.out.at0
  obtain ⟨⟨a0, a1, a2, a3⟩, af⟩ := cells4 H2.out.tail.at0
  obtain ⟨⟨l0, l1, l2, l3, l4, l5, l6⟩, lf⟩ := cells7 H2.out.tail.tail.at0
  have HZ := Lib.hid ((H2.out).put4 (two_ne' (by omega) (by omega)) (.string mi) (.bool mt) (.int .i64 (ma : Int)) (.bool mf))
  go_wp2
  exact bodyPost_ret (res_amR rfl rfl _ _ _ ⟨mi, mt, ma, mf⟩ HZ.out.at0 rfl) rfl ⟨rfl, HZ.out.does⟩
set_option maxHeartbeats 4000000 in
theorem rtake_ask (w : World) (pb d : Nat) (x : Sd) (v : Value) (c : Bool) (k : Nat) (pf : Bool) (ns nr : Nat) (i : ByteArray) (m : Am) (h : RAt w pb x v) (hns : ns < 256) (hn : ¬ ns % 8 = x.g % 8) (hr : x.rj = false) (hb : x.bu = false) :
    Calls Try.prog 51 #[ptr pb, fmvd d ⟨c, k, pf, ns, nr, i⟩, amv m] w fun e w' => e = .returned (amv m) ∧ RDo pb { x with rj := true, due := true, rej := true } v w w' := by
  obtain ⟨mi, mt, ma, mf⟩ := m
  have H1 : Hid (RIm [(w.heap.size + 2, noM TR), (w.heap.size + 1, mO ⟨mi, mt, ma, mf⟩ TR), (w.heap.size, fmOd d ⟨c, k, pf, ns, nr, i⟩)] pb x v w (((w.alloc (fmOd d ⟨c, k, pf, ns, nr, i⟩)).alloc (mO ⟨mi, mt, ma, mf⟩ TR)).alloc (noM TR))) := Lib.hid (RIm.first3 h _ _ _)
  have hlt := h.lt
  have hfr := h.free
  have c7 := h.cell 7 (.int .i64 (x.g : Int)) rfl
  obtain ⟨q, hq⟩ : ∃ q, ns % 8 = q := ⟨_, rfl⟩
  obtain ⟨r, hr0⟩ : ∃ r, x.g % 8 = r := ⟨_, rfl⟩
  have q8 : (ns : Int) % 8 = (q : Int) := by omega
  have r8 : (x.g : Int) % 8 = (r : Int) := by omega
  have hns2 : (ns : Int) < 256 := by omega
  have qw : IntKind.i64.wrap (q : Int) = (q : Int) := by rw [IntKind.wrap_i64]; omega
  have z0 : ((q : Int) != (r : Int)) = true := bne_true (by omega)
  have z0b : (q != r) = true := by simp; omega
  clear h hq hr0 hn hns
  go_enter Try.func51, Try.ntmps51
  go_wp2_with fail
  generalize ((w.alloc (fmOd d ⟨c, k, pf, ns, nr, i⟩)).alloc (mO ⟨mi, mt, ma, mf⟩ TR)).alloc (noM TR) = w1 at H1 ⊢
  clear c7 hfr
  have c7 := H1.out.does.at_.cell 7 (.int .i64 (x.g : Int)) rfl
  obtain ⟨⟨l0, l1, l2, l3, l4, l5, l6⟩, lf⟩ := cells7 H1.out.tail.tail.at0
  go_quiet (fail)
  have H2 := Lib.hid (H1.out.drewN nq)
  generalize w1.drewN nq = w2 at H2 ⊢
  clear H1 c7 l0 l1 l2 l3 l4 l5 l6 lf
  have hfr := H2.out.does.at_.free
  have d7 := H2.out.does.at_.cell 7 (.int .i64 (x.g : Int)) rfl
  have d13 := H2.out.does.at_.cell 13 (.bool x.bu) rfl
  have d14 := H2.out.does.at_.cell 14 (.bool x.rj) rfl
  have d8 := H2.out.does.at_.cell 8 (.bool x.due) rfl
  have d10 := H2.out.does.at_.cell 10 (.bool x.rej) rfl
  rw [hr] at d14
  clear hr
  rw [hb] at d13
  clear hb
  obtain ⟨⟨k0, k1, k2, k3⟩, kf⟩ := cells4 H2.out.at0
  obtain ⟨⟨a0, a1, a2, a3⟩, af⟩ := cells4 H2.out.tail.at0
  obtain ⟨⟨l0, l1, l2, l3, l4, l5, l6⟩, lf⟩ := cells7 H2.out.tail.tail.at0
  have HZ := Lib.hid (((((H2.out).set 14 (.bool true) { x with rj := true } rfl rfl).set 8 (.bool true) { x with rj := true, due := true } rfl rfl).set 10 (.bool true) { x with rj := true, due := true, rej := true } rfl rfl).put4 (two_ne' (by omega) (by omega)) (.string mi) (.bool mt) (.int .i64 (ma : Int)) (.bool mf))
  go_wp2
  exact bodyPost_ret (res_amR rfl rfl _ _ _ ⟨mi, mt, ma, mf⟩ HZ.out.at0 rfl) rfl ⟨rfl, HZ.out.does⟩
set_option maxHeartbeats 4000000 in
theorem rtake_busy (w : World) (pb d : Nat) (x : Sd) (v : Value) (c : Bool) (k : Nat) (pf : Bool) (ns nr : Nat) (i : ByteArray) (m : Am) (h : RAt w pb x v) (hns : ns < 256) (hn : ns % 8 = x.g % 8) (hb : x.bu = true) :
    Calls Try.prog 51 #[ptr pb, fmvd d ⟨c, k, pf, ns, nr, i⟩, amv m] w fun e w' => e = .returned (amv m) ∧ RDo pb { x with due := true } v w w' := by
  obtain ⟨mi, mt, ma, mf⟩ := m
  have H1 : Hid (RIm [(w.heap.size + 2, noM TR), (w.heap.size + 1, mO ⟨mi, mt, ma, mf⟩ TR), (w.heap.size, fmOd d ⟨c, k, pf, ns, nr, i⟩)] pb x v w (((w.alloc (fmOd d ⟨c, k, pf, ns, nr, i⟩)).alloc (mO ⟨mi, mt, ma, mf⟩ TR)).alloc (noM TR))) := Lib.hid (RIm.first3 h _ _ _)
  have hlt := h.lt
  have hfr := h.free
  have c7 := h.cell 7 (.int .i64 (x.g : Int)) rfl
  obtain ⟨q, hq⟩ : ∃ q, ns % 8 = q := ⟨_, rfl⟩
  obtain ⟨r, hr0⟩ : ∃ r, x.g % 8 = r := ⟨_, rfl⟩
  have q8 : (ns : Int) % 8 = (q : Int) := by omega
  have r8 : (x.g : Int) % 8 = (r : Int) := by omega
  have hns2 : (ns : Int) < 256 := by omega
  have qw : IntKind.i64.wrap (q : Int) = (q : Int) := by rw [IntKind.wrap_i64]; omega
  have z0 : ((q : Int) != (r : Int)) = false := bne_false (by omega)
  have z0b : (q != r) = false := by simp; omega
  clear h hq hr0 hn hns
  go_enter Try.func51, Try.ntmps51
  go_wp2_with fail
  generalize ((w.alloc (fmOd d ⟨c, k, pf, ns, nr, i⟩)).alloc (mO ⟨mi, mt, ma, mf⟩ TR)).alloc (noM TR) = w1 at H1 ⊢
  clear c7 hfr
  have c7 := H1.out.does.at_.cell 7 (.int .i64 (x.g : Int)) rfl
  obtain ⟨⟨l0, l1, l2, l3, l4, l5, l6⟩, lf⟩ := cells7 H1.out.tail.tail.at0
  go_quiet (fail)
  have H2 := Lib.hid (H1.out.drewN nq)
  generalize w1.drewN nq = w2 at H2 ⊢
  clear H1 c7 l0 l1 l2 l3 l4 l5 l6 lf
  have hfr := H2.out.does.at_.free
  have d7 := H2.out.does.at_.cell 7 (.int .i64 (x.g : Int)) rfl
  have d13 := H2.out.does.at_.cell 13 (.bool x.bu) rfl
  have d14 := H2.out.does.at_.cell 14 (.bool x.rj) rfl
  have d8 := H2.out.does.at_.cell 8 (.bool x.due) rfl
  have d10 := H2.out.does.at_.cell 10 (.bool x.rej) rfl
  rw [hb] at d13
  clear hb
  obtain ⟨⟨k0, k1, k2, k3⟩, kf⟩ := cells4 H2.out.at0
  obtain ⟨⟨a0, a1, a2, a3⟩, af⟩ := cells4 H2.out.tail.at0
  obtain ⟨⟨l0, l1, l2, l3, l4, l5, l6⟩, lf⟩ := cells7 H2.out.tail.tail.at0
  have HZ := Lib.hid (((H2.out).set 8 (.bool true) { x with due := true } rfl rfl).put4 (two_ne' (by omega) (by omega)) (.string mi) (.bool mt) (.int .i64 (ma : Int)) (.bool mf))
  go_wp2
  exact bodyPost_ret (res_amR rfl rfl _ _ _ ⟨mi, mt, ma, mf⟩ HZ.out.at0 rfl) rfl ⟨rfl, HZ.out.does⟩
set_option maxHeartbeats 4000000 in
theorem rtake_do (w : World) (pb d : Nat) (x : Sd) (v : Value) (c : Bool) (k : Nat) (pf : Bool) (ns nr : Nat) (i : ByteArray) (m : Am) (h : RAt w pb x v) (hns : ns < 256) (hn : ns % 8 = x.g % 8) (hb : x.bu = false) (hg9 : x.g ≤ 1000000) :
    Calls Try.prog 51 #[ptr pb, fmvd d ⟨c, k, pf, ns, nr, i⟩, amv m] w fun e w' => e = .returned (amv { m with i := i, taken := true }) ∧ RDo pb { x with due := true, g := x.g + 1, rj := false, rej := false } v w w' := by
  obtain ⟨mi, mt, ma, mf⟩ := m
  have H1 : Hid (RIm [(w.heap.size + 2, noM TR), (w.heap.size + 1, mO ⟨mi, mt, ma, mf⟩ TR), (w.heap.size, fmOd d ⟨c, k, pf, ns, nr, i⟩)] pb x v w (((w.alloc (fmOd d ⟨c, k, pf, ns, nr, i⟩)).alloc (mO ⟨mi, mt, ma, mf⟩ TR)).alloc (noM TR))) := Lib.hid (RIm.first3 h _ _ _)
  have hlt := h.lt
  have hfr := h.free
  have c7 := h.cell 7 (.int .i64 (x.g : Int)) rfl
  obtain ⟨q, hq⟩ : ∃ q, ns % 8 = q := ⟨_, rfl⟩
  obtain ⟨r, hr0⟩ : ∃ r, x.g % 8 = r := ⟨_, rfl⟩
  have q8 : (ns : Int) % 8 = (q : Int) := by omega
  have r8 : (x.g : Int) % 8 = (r : Int) := by omega
  have hns2 : (ns : Int) < 256 := by omega
  have qw : IntKind.i64.wrap (q : Int) = (q : Int) := by rw [IntKind.wrap_i64]; omega
  have z0 : ((q : Int) != (r : Int)) = false := bne_false (by omega)
  have z0b : (q != r) = false := by simp; omega
  obtain ⟨g1, hg1⟩ : ∃ g1, x.g + 1 = g1 := ⟨_, rfl⟩
  have vg : IntKind.i64.wrap ((x.g : Int) + 1) = (g1 : Int) := by rw [IntKind.wrap_i64]; omega
  rw [hg1]
  clear hg1 hg9
  clear h hq hr0 hn hns
  go_enter Try.func51, Try.ntmps51
  go_wp2_with fail
  generalize ((w.alloc (fmOd d ⟨c, k, pf, ns, nr, i⟩)).alloc (mO ⟨mi, mt, ma, mf⟩ TR)).alloc (noM TR) = w1 at H1 ⊢
  clear c7 hfr
  have c7 := H1.out.does.at_.cell 7 (.int .i64 (x.g : Int)) rfl
  obtain ⟨⟨l0, l1, l2, l3, l4, l5, l6⟩, lf⟩ := cells7 H1.out.tail.tail.at0
  go_quiet (fail)
  have H2 := Lib.hid (H1.out.drewN nq)
  generalize w1.drewN nq = w2 at H2 ⊢
  clear H1 c7 l0 l1 l2 l3 l4 l5 l6 lf
  have hfr := H2.out.does.at_.free
  have d7 := H2.out.does.at_.cell 7 (.int .i64 (x.g : Int)) rfl
  have d13 := H2.out.does.at_.cell 13 (.bool x.bu) rfl
  have d14 := H2.out.does.at_.cell 14 (.bool x.rj) rfl
  have d8 := H2.out.does.at_.cell 8 (.bool x.due) rfl
  have d10 := H2.out.does.at_.cell 10 (.bool x.rej) rfl
  rw [hb] at d13
  clear hb
  obtain ⟨⟨k0, k1, k2, k3⟩, kf⟩ := cells4 H2.out.at0
  obtain ⟨⟨a0, a1, a2, a3⟩, af⟩ := cells4 H2.out.tail.at0
  obtain ⟨⟨l0, l1, l2, l3, l4, l5, l6⟩, lf⟩ := cells7 H2.out.tail.tail.at0
  have HZ := Lib.hid ((((((((((H2.out).set 8 (.bool true) { x with due := true } rfl rfl).set 7 (nm g1) { x with due := true, g := g1 } rfl rfl).set 14 (.bool false) { x with due := true, g := g1, rj := false } rfl rfl).set 10 (.bool false) { x with due := true, g := g1, rj := false, rej := false } rfl rfl).swap).putS i (two_ne' (by omega) (by omega))).putT true (two_ne' (by omega) (by omega))).swap).put4 (two_ne' (by omega) (by omega)) (.string i) (.bool true) (.int .i64 (ma : Int)) (.bool mf))
  go_wp2
  exact bodyPost_ret (res_amR rfl rfl _ _ _ ⟨i, true, ma, mf⟩ HZ.out.at0 rfl) rfl ⟨rfl, HZ.out.does⟩
theorem rtake (w : World) (pb d : Nat) (x : Sd) (v : Value) (f : Fm) (m : Am) (h : RAt w pb x v) (hns : f.ns < 256) (hg : x.g ≤ 1000000) :
    Calls Try.prog 51 #[ptr pb, fmvd d f, amv m] w fun e w' => e = .returned (amv (take f x m).2) ∧ RDo pb (take f x m).1 v w w' := by
  obtain ⟨c, k, pf, ns, nr, i⟩ := f
  unfold take
  dsimp only at hns ⊢
  by_cases hn : ns % 8 = x.g % 8
  · rw [if_neg (by simpa using hn)]
    by_cases hb : x.bu = true
    · rw [if_pos hb]; exact rtake_busy w pb d x v c k pf ns nr i m h hns hn hb
    · rw [if_neg hb]; exact rtake_do w pb d x v c k pf ns nr i m h hns hn (by simpa using hb) hg
  · rw [if_pos (by simpa using hn)]
    by_cases hr : x.rj = true
    · rw [if_neg (by simp [hr])]; exact rtake_no w pb d x v c k pf ns nr i m h hns hn hr
    have hr : x.rj = false := by simpa using hr
    by_cases hb : x.bu = true
    · rw [if_neg (by simp [hb])]; exact rtake_bu w pb d x v c k pf ns nr i m h hns hn hr hb
    have hb : x.bu = false := by simpa using hb
    rw [if_pos ⟨hr, hb⟩]; exact rtake_ask w pb d x v c k pf ns nr i m h hns hn hr hb
end Go.Proofs.Ytkoaplmlabagnaa.Aq
