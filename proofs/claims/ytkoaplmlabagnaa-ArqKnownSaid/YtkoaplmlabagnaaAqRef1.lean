/-
  The document's own side: count, SetBusy, SetWant, Has and Tick. Condition: it lies where it says; its numbers are small.
-/
import Derived.Test.YtkoaplmlabagnaaAqMem
namespace Go.Proofs.Ytkoaplmlabagnaa.Aq
open Go.RowKit Go.Proofs.Ytkoaplmlabagnaa.Base Go.Proofs.Ytkoaplmlabagnaa.Mem
set_option maxHeartbeats 1000000 in
theorem rcount_fl (w : World) (pb : Nat) (x : Sd) (v : Value) (again : Bool) (h : RAt w pb x v) (hfl : x.fl = true) :
    Calls Try.prog 49 #[ptr pb, .bool again] w fun e w' => e = .returned (.tuple #[]) ∧ RDo pb { x with lf := 0 } v w w' := by
  have H := Lib.hid h
  have hfr := h.free
  have hlt := h.lt
  have c16 := h.cell 16 (.bool x.fl) rfl
  have c19 := h.cell 19 (.int .i64 (x.lf : Int)) rfl
  rw [hfl] at c16
  clear h hfl
  go_enter Try.func49, Try.ntmps49
  go_wp2
  refine bodyPost_ret (results_none rfl _ _ _) rfl ?_
  exact ⟨rfl, (RDo.refl H.out).set 19 _ _ rfl rfl⟩
theorem rcount (w : World) (pb : Nat) (x : Sd) (v : Value) (again : Bool) (h : RAt w pb x v) (hf : Fit x) :
    Calls Try.prog 49 #[ptr pb, .bool again] w fun e w' => e = .returned (.tuple #[]) ∧ RDo pb (cnt again x) v w w' := by
  obtain ⟨o, c, rfl⟩ := h.q.form
  unfold cnt
  by_cases hfl : x.fl = true
  · rw [if_pos hfl]; exact rcount_fl w pb x _ again h hfl
  rw [if_neg hfl]
  have hfl : x.fl = false := by simpa using hfl
  unfold counts
  by_cases ho : x.a < x.s
  · rw [if_pos (by simp [ho])]
    by_cases hz : x.lf = 0
    · rw [if_pos (Or.inl hz)]; exact rcount_out_z w pb x o c again h hfl ho hz
    · by_cases hg : again = true
      · rw [if_pos (Or.inr hg)]; exact rcount_out_a w pb x o c again h hfl ho hz hg
      · rw [if_neg (by simp [hz, hg])]; exact rcount_out_n w pb x o c again h hfl ho hz (by simpa using hg)
  by_cases hk : x.ak = true
  · rw [if_pos (by simp [hk])]
    by_cases hz : x.lf = 0
    · rw [if_pos (Or.inl hz)]; exact rcount_ask_z w pb x o c again h hfl ho hk hz
    · by_cases hg : again = true
      · rw [if_pos (Or.inr hg)]; exact rcount_ask_a w pb x o c again h hfl ho hk hz hg
      · rw [if_neg (by simp [hz, hg])]; exact rcount_ask_n w pb x o c again h hfl ho hk hz (by simpa using hg)
  have hk : x.ak = false := by simpa using hk
  by_cases hw : x.wa = true
  · rw [if_pos (by simp [hw])]
    by_cases hz : x.lf = 0
    · rw [if_pos (Or.inl hz)]; exact rcount_want_z w pb x o c again h hfl ho hk hw hz
    · by_cases hg : again = true
      · rw [if_pos (Or.inr hg)]; exact rcount_want_a w pb x o c again h hfl ho hk hw hz hg
      · rw [if_neg (by simp [hz, hg])]; exact rcount_want_n w pb x o c again h hfl ho hk hw hz (by simpa using hg)
  have hw : x.wa = false := by simpa using hw
  by_cases hp : x.pb = true
  · by_cases hl : x.a < x.p.length
    · rw [if_pos (by simp [hp, hl])]
      by_cases hz : x.lf = 0
      · rw [if_pos (Or.inl hz)]; exact rcount_wait_z w pb x o c again h hf hfl ho hk hw hp hl hz
      · by_cases hg : again = true
        · rw [if_pos (Or.inr hg)]; exact rcount_wait_a w pb x o c again h hf hfl ho hk hw hp hl hz hg
        · rw [if_neg (by simp [hz, hg])]; exact rcount_wait_n w pb x o c again h hf hfl ho hk hw hp hl hz (by simpa using hg)
    · rw [if_neg (by simp [ho, hk, hw, hl])]
      exact rcount_none w pb x o c again h hf hfl ho hk hw hp hl
  · have hp : x.pb = false := by simpa using hp
    rw [if_neg (by simp [ho, hk, hw, hp])]
    exact rcount_free w pb x o c again h hfl ho hk hw hp
set_option maxHeartbeats 1000000 in
theorem rsetBusy_fl (w : World) (pb : Nat) (x : Sd) (v : Value) (b : Bool) (h : RAt w pb x v) (hfl : x.fl = true) :
    Calls Try.prog 31 #[ptr pb, .bool b] w fun e w' => e = .returned (.tuple #[]) ∧ w = w' := by
  have c13 := h.cell 13 (.bool x.bu) rfl
  have c16 := h.cell 16 (.bool x.fl) rfl
  rw [hfl] at c16
  clear h hfl
  go_enter Try.func31, Try.ntmps31
  go_wp2
  refine bodyPost_ret (results_none rfl _ _ _) rfl ?_
  exact ⟨rfl, rfl⟩
set_option maxHeartbeats 1000000 in
theorem rsetBusy_same (w : World) (pb : Nat) (x : Sd) (v : Value) (b : Bool) (h : RAt w pb x v) (hfl : x.fl = false) (hb : b = x.bu) :
    Calls Try.prog 31 #[ptr pb, .bool b] w fun e w' => e = .returned (.tuple #[]) ∧ w = w' := by
  have c13 := h.cell 13 (.bool x.bu) rfl
  have c16 := h.cell 16 (.bool x.fl) rfl
  rw [hfl] at c16
  rw [← hb] at c13
  clear h hfl hb
  go_enter Try.func31, Try.ntmps31
  go_wp2
  refine bodyPost_ret (results_none rfl _ _ _) rfl ?_
  exact ⟨rfl, rfl⟩
set_option maxHeartbeats 1000000 in
theorem rsetBusy_true (w : World) (pb : Nat) (x : Sd) (v : Value) (h : RAt w pb x v) (hf : Fit x) (hfl : x.fl = false) (hb : x.bu = false) :
    Calls Try.prog 31 #[ptr pb, .bool true] w fun e w' => e = .returned (.tuple #[]) ∧ RDo pb (cnt false { x with bu := true, due := true }) v w w' := by
  have H := Lib.hid h
  have hfr := h.free
  have hlt := h.lt
  have c8 := h.cell 8 (.bool x.due) rfl
  have c13 := h.cell 13 (.bool x.bu) rfl
  have c16 := h.cell 16 (.bool x.fl) rfl
  rw [hfl] at c16
  rw [hb] at c13
  have H1 : Hid (RDo pb { x with bu := true, due := true } v w ((w.setCell ⟨pb, 13, none⟩ (.bool true)).setCell ⟨pb, 8, none⟩ (.bool true))) := Lib.hid (((RDo.refl h).set 13 (.bool true) { x with bu := true } rfl rfl).set 8 (.bool true) { x with bu := true, due := true } rfl rfl)
  have CN : Hid (Calls Try.prog 49 #[ptr pb, .bool false] ((w.setCell ⟨pb, 13, none⟩ (.bool true)).setCell ⟨pb, 8, none⟩ (.bool true)) fun e w' => e = .returned (.tuple #[]) ∧ RDo pb (cnt false { x with bu := true, due := true }) v ((w.setCell ⟨pb, 13, none⟩ (.bool true)).setCell ⟨pb, 8, none⟩ (.bool true)) w') := Lib.hid (rcount _ pb _ v false H1.out.at_ ⟨hf.k, hf.n2, hf.t1, hf.t1p, hf.hs, hf.sT, hf.tp, hf.pk, hf.few, hf.g, hf.tr, hf.lf⟩)
  clear h hf hfl hb
  go_enter Try.func31, Try.ntmps31
  go_wp2_with (go_at_call 49; ((with_reducible refine CN.out.mono ?_); rintro e w2 ⟨rfl, hd⟩; have H2 := Lib.hid (H1.out.then hd); clear hd))
  go_end0
  exact ⟨rfl, H2.out⟩
set_option maxHeartbeats 1000000 in
theorem rsetBusy_false (w : World) (pb : Nat) (x : Sd) (v : Value) (h : RAt w pb x v) (hf : Fit x) (hfl : x.fl = false) (hb : x.bu = true) :
    Calls Try.prog 31 #[ptr pb, .bool false] w fun e w' => e = .returned (.tuple #[]) ∧ RDo pb (cnt false { x with bu := false, due := true }) v w w' := by
  have H := Lib.hid h
  have hfr := h.free
  have hlt := h.lt
  have c8 := h.cell 8 (.bool x.due) rfl
  have c13 := h.cell 13 (.bool x.bu) rfl
  have c16 := h.cell 16 (.bool x.fl) rfl
  rw [hfl] at c16
  rw [hb] at c13
  have H1 : Hid (RDo pb { x with bu := false, due := true } v w ((w.setCell ⟨pb, 13, none⟩ (.bool false)).setCell ⟨pb, 8, none⟩ (.bool true))) := Lib.hid (((RDo.refl h).set 13 (.bool false) { x with bu := false } rfl rfl).set 8 (.bool true) { x with bu := false, due := true } rfl rfl)
  have CN : Hid (Calls Try.prog 49 #[ptr pb, .bool false] ((w.setCell ⟨pb, 13, none⟩ (.bool false)).setCell ⟨pb, 8, none⟩ (.bool true)) fun e w' => e = .returned (.tuple #[]) ∧ RDo pb (cnt false { x with bu := false, due := true }) v ((w.setCell ⟨pb, 13, none⟩ (.bool false)).setCell ⟨pb, 8, none⟩ (.bool true)) w') := Lib.hid (rcount _ pb _ v false H1.out.at_ ⟨hf.k, hf.n2, hf.t1, hf.t1p, hf.hs, hf.sT, hf.tp, hf.pk, hf.few, hf.g, hf.tr, hf.lf⟩)
  clear h hf hfl hb
  go_enter Try.func31, Try.ntmps31
  go_wp2_with (go_at_call 49; ((with_reducible refine CN.out.mono ?_); rintro e w2 ⟨rfl, hd⟩; have H2 := Lib.hid (H1.out.then hd); clear hd))
  go_end0
  exact ⟨rfl, H2.out⟩
theorem rsetBusy (w : World) (pb : Nat) (x : Sd) (v : Value) (b : Bool) (h : RAt w pb x v) (hf : Fit x) :
    Calls Try.prog 31 #[ptr pb, .bool b] w fun e w' => e = .returned (.tuple #[]) ∧ RDo pb (setBusy b x) v w w' := by
  unfold setBusy
  by_cases hfl : x.fl = true
  · rw [if_pos (Or.inl hfl)]
    exact (rsetBusy_fl w pb x v b h hfl).mono fun e w' ⟨h1, h2⟩ => ⟨h1, h2 ▸ RDo.refl h⟩
  have hfl : x.fl = false := by simpa using hfl
  by_cases hb : b = x.bu
  · rw [if_pos (Or.inr hb)]
    exact (rsetBusy_same w pb x v b h hfl hb).mono fun e w' ⟨h1, h2⟩ => ⟨h1, h2 ▸ RDo.refl h⟩
  rw [if_neg (by simp [hfl, hb])]
  cases b with
  | true => exact rsetBusy_true w pb x v h hf hfl (by cases e : x.bu with | true => exact absurd e.symm hb | false => rfl)
  | false => exact rsetBusy_false w pb x v h hf hfl (by cases e : x.bu with | false => exact absurd e.symm hb | true => rfl)
set_option maxHeartbeats 1000000 in
theorem rsetWant_fl (w : World) (pb : Nat) (x : Sd) (v : Value) (b : Bool) (h : RAt w pb x v) (hfl : x.fl = true) :
    Calls Try.prog 30 #[ptr pb, .bool b] w fun e w' => e = .returned (.tuple #[]) ∧ w = w' := by
  have c16 := h.cell 16 (.bool x.fl) rfl
  rw [hfl] at c16
  clear h hfl
  go_enter Try.func30, Try.ntmps30
  go_wp2
  go_end0
  exact ⟨rfl, rfl⟩
set_option maxHeartbeats 1000000 in
theorem rsetWant (w : World) (pb : Nat) (x : Sd) (v : Value) (b : Bool) (h : RAt w pb x v) (hf : Fit x) :
    Calls Try.prog 30 #[ptr pb, .bool b] w fun e w' => e = .returned (.tuple #[]) ∧ RDo pb (setWant b x) v w w' := by
  unfold setWant
  by_cases hfl : x.fl = true
  · rw [if_pos hfl]
    exact (rsetWant_fl w pb x v b h hfl).mono fun e w' ⟨h1, h2⟩ => ⟨h1, h2 ▸ RDo.refl h⟩
  rw [if_neg hfl]
  have hfl : x.fl = false := by simpa using hfl
  have H := Lib.hid h
  have hfr := h.free
  have hlt := h.lt
  have c16 := h.cell 16 (.bool x.fl) rfl
  have c17 := h.cell 17 (.bool x.wa) rfl
  rw [hfl] at c16
  have H1 : Hid (RDo pb { x with wa := b } v w (w.setCell ⟨pb, 17, none⟩ (.bool b))) := Lib.hid ((RDo.refl h).set 17 (.bool b) { x with wa := b } rfl rfl)
  have CN : Hid (Calls Try.prog 49 #[ptr pb, .bool false] (w.setCell ⟨pb, 17, none⟩ (.bool b)) fun e w' => e = .returned (.tuple #[]) ∧ RDo pb (cnt false { x with wa := b }) v (w.setCell ⟨pb, 17, none⟩ (.bool b)) w') := Lib.hid (rcount _ pb _ v false H1.out.at_ ⟨hf.k, hf.n2, hf.t1, hf.t1p, hf.hs, hf.sT, hf.tp, hf.pk, hf.few, hf.g, hf.tr, hf.lf⟩)
  clear h hf hfl
  go_enter Try.func30, Try.ntmps30
  go_wp2_with (go_at_call 49; ((with_reducible refine CN.out.mono ?_); rintro e w2 ⟨rfl, hd⟩; have H2 := Lib.hid (H1.out.then hd); clear hd))
  go_end0
  exact ⟨rfl, H2.out⟩
set_option maxHeartbeats 1000000 in
theorem rhas_fl (w : World) (pb : Nat) (x : Sd) (o : Option Addr) (c : Nat) (h : RAt w pb x (.slice o x.p.length c)) (hfl : x.fl = true) :
    Calls Try.prog 14 #[ptr pb] w fun e w' => e = .returned (.bool false) ∧ ∃ m, w' = w.drewN m := by
  have hlt := h.lt
  have c3 := h.cell 3 ((.slice o x.p.length c)) rfl
  have c5 := h.cell 5 (.int .i64 (x.s : Int)) rfl
  have c8 := h.cell 8 (.bool x.due) rfl
  have c11 := h.cell 11 (.bool x.poll) rfl
  have c12 := h.cell 12 (.bool x.pb) rfl
  have c15 := h.cell 15 (.bool x.ak) rfl
  have c16 := h.cell 16 (.bool x.fl) rfl
  rw [hfl] at c16
  clear h
  go_enter Try.func14, Try.ntmps14
  go_wp2_with fail
  go_quiet (fail)
  go_wp2
  go_ret
  exact ⟨rfl, nq, rfl⟩
set_option maxHeartbeats 1000000 in
theorem rhas_due (w : World) (pb : Nat) (x : Sd) (o : Option Addr) (c : Nat) (h : RAt w pb x (.slice o x.p.length c)) (hfl : x.fl = false) (hd : x.due = true) :
    Calls Try.prog 14 #[ptr pb] w fun e w' => e = .returned (.bool true) ∧ ∃ m, w' = w.drewN m := by
  have hlt := h.lt
  have c3 := h.cell 3 ((.slice o x.p.length c)) rfl
  have c5 := h.cell 5 (.int .i64 (x.s : Int)) rfl
  have c8 := h.cell 8 (.bool x.due) rfl
  have c11 := h.cell 11 (.bool x.poll) rfl
  have c12 := h.cell 12 (.bool x.pb) rfl
  have c15 := h.cell 15 (.bool x.ak) rfl
  have c16 := h.cell 16 (.bool x.fl) rfl
  rw [hfl] at c16
  rw [hd] at c8
  clear h
  go_enter Try.func14, Try.ntmps14
  go_wp2_with fail
  go_quiet (fail)
  go_wp2
  go_ret
  exact ⟨rfl, nq, rfl⟩
set_option maxHeartbeats 1000000 in
theorem rhas_poll (w : World) (pb : Nat) (x : Sd) (o : Option Addr) (c : Nat) (h : RAt w pb x (.slice o x.p.length c)) (hfl : x.fl = false) (hd : x.due = false) (hp : x.poll = true) :
    Calls Try.prog 14 #[ptr pb] w fun e w' => e = .returned (.bool true) ∧ ∃ m, w' = w.drewN m := by
  have hlt := h.lt
  have c3 := h.cell 3 ((.slice o x.p.length c)) rfl
  have c5 := h.cell 5 (.int .i64 (x.s : Int)) rfl
  have c8 := h.cell 8 (.bool x.due) rfl
  have c11 := h.cell 11 (.bool x.poll) rfl
  have c12 := h.cell 12 (.bool x.pb) rfl
  have c15 := h.cell 15 (.bool x.ak) rfl
  have c16 := h.cell 16 (.bool x.fl) rfl
  rw [hfl] at c16
  rw [hd] at c8
  rw [hp] at c11
  clear h
  go_enter Try.func14, Try.ntmps14
  go_wp2_with fail
  go_quiet (fail)
  go_wp2
  go_ret
  exact ⟨rfl, nq, rfl⟩
set_option maxHeartbeats 1000000 in
theorem rhas_pb (w : World) (pb : Nat) (x : Sd) (o : Option Addr) (c : Nat) (h : RAt w pb x (.slice o x.p.length c)) (hfl : x.fl = false) (hd : x.due = false) (hp : x.poll = false) (hb : x.pb = true) :
    Calls Try.prog 14 #[ptr pb] w fun e w' => e = .returned (.bool false) ∧ ∃ m, w' = w.drewN m := by
  have hlt := h.lt
  have c3 := h.cell 3 ((.slice o x.p.length c)) rfl
  have c5 := h.cell 5 (.int .i64 (x.s : Int)) rfl
  have c8 := h.cell 8 (.bool x.due) rfl
  have c11 := h.cell 11 (.bool x.poll) rfl
  have c12 := h.cell 12 (.bool x.pb) rfl
  have c15 := h.cell 15 (.bool x.ak) rfl
  have c16 := h.cell 16 (.bool x.fl) rfl
  rw [hfl] at c16
  rw [hd] at c8
  rw [hp] at c11
  rw [hb] at c12
  clear h
  go_enter Try.func14, Try.ntmps14
  go_wp2_with fail
  go_quiet (fail)
  go_wp2
  go_ret
  exact ⟨rfl, nq, rfl⟩
set_option maxHeartbeats 1000000 in
theorem rhas_ak (w : World) (pb : Nat) (x : Sd) (o : Option Addr) (c : Nat) (h : RAt w pb x (.slice o x.p.length c)) (hfl : x.fl = false) (hd : x.due = false) (hp : x.poll = false) (hb : x.pb = false) (hk : x.ak = true) :
    Calls Try.prog 14 #[ptr pb] w fun e w' => e = .returned (.bool false) ∧ ∃ m, w' = w.drewN m := by
  have hlt := h.lt
  have c3 := h.cell 3 ((.slice o x.p.length c)) rfl
  have c5 := h.cell 5 (.int .i64 (x.s : Int)) rfl
  have c8 := h.cell 8 (.bool x.due) rfl
  have c11 := h.cell 11 (.bool x.poll) rfl
  have c12 := h.cell 12 (.bool x.pb) rfl
  have c15 := h.cell 15 (.bool x.ak) rfl
  have c16 := h.cell 16 (.bool x.fl) rfl
  rw [hfl] at c16
  rw [hd] at c8
  rw [hp] at c11
  rw [hb] at c12
  rw [hk] at c15
  clear h
  go_enter Try.func14, Try.ntmps14
  go_wp2_with fail
  go_quiet (fail)
  go_wp2
  go_ret
  exact ⟨rfl, nq, rfl⟩
set_option maxHeartbeats 1000000 in
theorem rhas_more (w : World) (pb : Nat) (x : Sd) (o : Option Addr) (c : Nat) (h : RAt w pb x (.slice o x.p.length c)) (hfl : x.fl = false) (hd : x.due = false) (hp : x.poll = false) (hb : x.pb = false) (hk : x.ak = false) (b : Bool) (hm : decide (x.s < x.p.length) = b) :
    Calls Try.prog 14 #[ptr pb] w fun e w' => e = .returned (.bool b) ∧ ∃ m, w' = w.drewN m := by
  have hlt := h.lt
  have c3 := h.cell 3 ((.slice o x.p.length c)) rfl
  have c5 := h.cell 5 (.int .i64 (x.s : Int)) rfl
  have c8 := h.cell 8 (.bool x.due) rfl
  have c11 := h.cell 11 (.bool x.poll) rfl
  have c12 := h.cell 12 (.bool x.pb) rfl
  have c15 := h.cell 15 (.bool x.ak) rfl
  have c16 := h.cell 16 (.bool x.fl) rfl
  rw [hfl] at c16
  rw [hd] at c8
  rw [hp] at c11
  rw [hb] at c12
  rw [hk] at c15
  obtain ⟨n, hn⟩ : ∃ n, x.p.length = n := ⟨_, rfl⟩
  rw [hn] at c3 hm
  have HM := Lib.hid hm
  clear hm hn
  clear h
  go_enter Try.func14, Try.ntmps14
  go_wp2_with fail
  go_quiet (fail)
  go_wp2
  go_ret
  exact ⟨ret_bool HM.out, nq, rfl⟩
theorem rhas (w : World) (pb : Nat) (x : Sd) (v : Value) (h : RAt w pb x v) :
    Calls Try.prog 14 #[ptr pb] w fun e w' => e = .returned (.bool (has x)) ∧ ∃ m, w' = w.drewN m := by
  obtain ⟨o, c, rfl⟩ := h.q.form
  cases hfl : x.fl with
  | true => rw [show has x = false by simp [has, hfl]]; exact rhas_fl w pb x o c h hfl
  | false =>
    cases hd : x.due with
    | true => rw [show has x = true by simp [has, hfl, hd]]; exact rhas_due w pb x o c h hfl hd
    | false =>
      cases hp : x.poll with
      | true => rw [show has x = true by simp [has, hfl, hd, hp]]; exact rhas_poll w pb x o c h hfl hd hp
      | false =>
        cases hb : x.pb with
        | true => rw [show has x = false by simp [has, hfl, hd, hp, more, hb]]; exact rhas_pb w pb x o c h hfl hd hp hb
        | false =>
          cases hk : x.ak with
          | true => rw [show has x = false by simp [has, hfl, hd, hp, more, hb, hk]]; exact rhas_ak w pb x o c h hfl hd hp hb hk
          | false => exact rhas_more w pb x o c h hfl hd hp hb hk (has x) (by simp [has, hfl, hd, hp, more, hb, hk])
end Go.Proofs.Ytkoaplmlabagnaa.Aq
