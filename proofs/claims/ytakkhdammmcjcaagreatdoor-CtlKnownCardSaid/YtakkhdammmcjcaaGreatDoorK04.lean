/-
  Layer 22, put together: CtlMath, PnMem, MscMem. Conditions: as each theorem names them.
-/
import Derived.Test.YtakkhdammmcjcaaGreatDoorK03
import Derived.Test.YtakkhdammmcjcaaGreatDoorK02
import Derived.Laws.StructEq
import Derived.Lib.MinMax
import Derived.Deep.RegionHeld3
namespace Go.Proofs.YtakkhdammmcjcaaGreatDoor.Ctl
open Base Mem Msgs
/-- A command that waits: its tries, the ticks left (0: it is to be said), was it said once. -/
structure Wt where
 m : Ms
 tr : Nat
 lf : Nat
 sd : Bool
/-- A fact. -/
structure Fa where
 k : Nat
 m : Ms
/-- A side. -/
structure Ct where
 own : Pn.Pr
 t2 : Nat
 n2 : Nat
 an : List Ms
 cs : List Wt
def brought (p : Pn.Pr) : Pn.Pr := ⟨p.d, p.f, p.c, p.r, p.t, min (max p.n 1) 65535, p.z, min (max p.k 1) 7⟩
def Ct.new (own : Pn.Pr) (t2 n2 : Int) : Ct := ⟨brought own, (min (max t2 1) 255).toNat, (min (max n2 0) 255).toNat, [], []⟩
/-- A message's channel. -/
def ch (m : Ms) : Nat := if m.k = 1 then m.p.d.toNat else if m.k = 2 then m.s.d else 0
/-- The same command? -/
def same (a b : Ms) : Bool := (a.k == b.k) && (ch a == ch b)
/-- Does a response answer a command? -/
def answers (r m : Ms) : Bool := same r m && if r.k = 1 then Pn.lowers r.p m.p else Msc.eqS r.s m.s && (r.b.toList == m.b.toList)
def mayAsk (m : Ms) : Bool := may m && m.c && decide (m.k ≤ 6) && decide (m.b.size ≤ 127)
def put (l : List Wt) (m : Ms) : List Wt := l.filter (fun w => !same w.m m) ++ [⟨m, 0, 0, false⟩]
def Ct.ask (x : Ct) (m : Ms) : Ct := if mayAsk m then { x with cs := put x.cs m } else x
def askE (m : Ms) : Nat := if mayAsk m then 0 else 2
/-- The first command that is to be said. -/
def say (t2 : Nat) : List Wt → Option Ms × List Wt
 | [] => (none, [])
 | w :: r => if w.lf = 0 then (some w.m, ⟨w.m, w.tr, t2, true⟩ :: r) else ((say t2 r).1, w :: (say t2 r).2)
def Ct.next (x : Ct) : Option Ms × Ct :=
 match x.an with
 | a :: r => (some a, { x with an := r })
 | [] => ((say x.t2 x.cs).1, { x with cs := (say x.t2 x.cs).2 })
def Ct.has (x : Ct) : Bool := x.cs.any (fun w => w.lf == 0) || !x.an.isEmpty
/-- What a command becomes that is heard. -/
def agreed (own : Pn.Pr) (m : Ms) : Ms := if m.k = 1 then ⟨m.k, m.c, Pn.agree own m.p, m.s, m.t, m.b⟩ else m
def nsc (m : Ms) : Ms := ⟨7, false, Pn.zero, Msc.zero, oct m, no⟩
def Ct.command (x : Ct) (m : Ms) : Ct × List Fa :=
 if m.k = 7 ∨ 64 ≤ x.an.length then (x, [])
 else if m.k = 8 then ({ x with an := x.an ++ [nsc m] }, [])
 else ({ x with an := x.an ++ [(agreed x.own m).cmd false] }, [⟨1, agreed x.own m⟩])
/-- What a response does to the commands that wait. -/
def resp (r : Ms) : List Wt → List Wt × List Fa
 | [] => ([], [])
 | w :: l =>
  if w.sd && answers r w.m then (l, [⟨2, r⟩])
  else if w.sd && ((r.k == 7) && (r.t == oct w.m)) then (l, [⟨3, w.m⟩])
  else (w :: (resp r l).1, (resp r l).2)
def Ct.response (x : Ct) (r : Ms) : Ct × List Fa := ({ x with cs := (resp r x.cs).1 }, (resp r x.cs).2)
def Ct.hear1 (x : Ct) (m : Ms) : Ct × List Fa := if m.c then x.command m else x.response m
def Ct.hears (x : Ct) : List Ms → Ct × List Fa
 | [] => (x, [])
 | m :: l => (((x.hear1 m).1.hears l).1, (x.hear1 m).2 ++ ((x.hear1 m).1.hears l).2)
def Ct.hear (x : Ct) (s : ByteArray) : Ct × List Fa := x.hears (all s).1
/-- A tick of the commands. -/
def ticks (n2 : Nat) : List Wt → List Wt × List Fa
 | [] => ([], [])
 | w :: l =>
  if w.lf ≠ 1 then (⟨w.m, w.tr, w.lf - 1, w.sd⟩ :: (ticks n2 l).1, (ticks n2 l).2)
  else if n2 < w.tr + 1 then ((ticks n2 l).1, ⟨4, w.m⟩ :: (ticks n2 l).2)
  else (⟨w.m, w.tr + 1, 0, w.sd⟩ :: (ticks n2 l).1, (ticks n2 l).2)
def Ct.tick (x : Ct) : Ct × List Fa := ({ x with cs := (ticks x.n2 x.cs).1 }, (ticks x.n2 x.cs).2)
/-- May it be asked for, as it stands? -/
structure Askable (m : Ms) : Prop where
 in_ : m.In
 may : may m = true
 c : m.c = true
 k : m.k ≤ 6
 b : m.b.size ≤ 127
theorem mayAsk_iff {m : Ms} (h : m.In) : mayAsk m = true ↔ Askable m := by
 unfold mayAsk
 simp only [Bool.and_eq_true, decide_eq_true_eq]
 exact ⟨fun ⟨⟨⟨h1, h2⟩, h3⟩, h4⟩ => ⟨h, h1, h2, h3, h4⟩, fun ⟨_, h1, h2, h3, h4⟩ => ⟨⟨⟨h1, h2⟩, h3⟩, h4⟩⟩
theorem Askable.ok {m : Ms} (h : Askable m) : m.Ok := ⟨h.in_, h.may, val_size h.b⟩
theorem may_k1 {m : Ms} (h : may m = true) (hk : m.k = 1) : Pn.may m.p = true := by
 have := (may_of h).1
 unfold vOk at this
 rwa [if_pos hk] at this
theorem may_k2 {m : Ms} (h : may m = true) (hk : m.k = 2) : Msc.may m.s = true := by
 have := (may_of h).1
 unfold vOk at this
 rwa [if_neg (by omega), if_pos hk] at this
/-- A message turned into a response, or with other parameters, may be as well. -/
theorem may_cmd (m : Ms) (c : Bool) : may (m.cmd c) = may m := by
 unfold may
 congr 1
 rw [Bool.eq_iff_iff, eqM_iff, eqM_iff]
 unfold need Ms.cmd
 dsimp only
 obtain ⟨k, c', p, s, t, b⟩ := m
 simp only [Ms.mk.injEq]
theorem agree_may {o a : Pn.Pr} (hn : 1 ≤ o.n) (hk : 1 ≤ o.k) (h : Pn.may a = true) : Pn.may (Pn.agree o a) = true := by
 rw [Pn.may_iff] at *
 obtain ⟨a1, a2, a3, a4, a5, a6, a7, a8⟩ := h
 refine ⟨?_, ?_, ?_, ?_, ?_, ?_, ?_, ?_⟩ <;> simp only [Pn.agree] <;> omega
theorem may_agreed {o : Pn.Pr} (hn : 1 ≤ o.n) (hk : 1 ≤ o.k) {m : Ms} (h : may m = true) : may (agreed o m) = true := by
 unfold agreed
 split
 · next e =>
   obtain ⟨h1, h2⟩ := may_of h
   have hp := may_k1 h e
   unfold may
   rw [Bool.and_eq_true]
   refine ⟨?_, (eqM_iff _ _).2 ?_⟩
   · unfold vOk; rw [if_pos (show m.k = 1 from e)]; exact agree_may hn hk hp
   · obtain ⟨k, c, p, s, t, b⟩ := m
     subst e
     unfold need at h2 ⊢
     simp only [Ms.mk.injEq] at h2
     obtain ⟨_, _, _, h4, h5, h6⟩ := h2
     show (⟨1, c, _, s, t, b⟩ : Ms) = ⟨1, c, _, Msc.zero, 0, no⟩
     have e4 : s = Msc.zero := h4
     have e5 : t = 0 := h5
     have e6 : b = no := h6
     rw [e4, e5, e6]
     rfl
 · exact h
theorem agreed_in {o : Pn.Pr} {m : Ms} (h : m.In) : (agreed o m).In := by
 unfold agreed
 split
 · exact ⟨h.k, Pn.agree_in h.p, h.s, h.t⟩
 · exact h
theorem cmd_in {m : Ms} (h : m.In) (c : Bool) : (m.cmd c).In := ⟨h.k, h.p, h.s, h.t⟩
theorem agreed_b (o : Pn.Pr) (m : Ms) : (agreed o m).b = m.b := by unfold agreed; split <;> rfl
theorem agreed_k (o : Pn.Pr) (m : Ms) : (agreed o m).k = m.k := by unfold agreed; split <;> rfl
theorem agreed_c (o : Pn.Pr) (m : Ms) : (agreed o m).c = m.c := by unfold agreed; split <;> rfl
theorem agreed_ch (o : Pn.Pr) (m : Ms) : ch (agreed o m) = ch m := by unfold agreed; split <;> rfl
theorem agreed_s (o : Pn.Pr) (m : Ms) : (agreed o m).s = m.s := by unfold agreed; split <;> rfl
theorem cmd_ch (m : Ms) (c : Bool) : ch (m.cmd c) = ch m := rfl
theorem oct_lt (m : Ms) : oct m < 256 := by
 unfold oct
 split
 · exact Ea.addr_lt _ _
 · decide
theorem nsc_ok (m : Ms) : (nsc m).Ok := by
 refine ⟨⟨by show 7 < 256; decide, Pn.zero_in, Msc.zero_in, oct_lt m⟩, ?_, by show 1 ≤ 127; decide⟩
 unfold may
 rw [Bool.and_eq_true]
 exact ⟨rfl, (eqM_iff _ _).2 rfl⟩
/-- Of a response: which command does it answer? -/
theorem answers_agreed {o : Pn.Pr} {m : Ms} : answers ((agreed o m).cmd false) m = true := by
 unfold answers same
 rw [cmd_ch, agreed_ch]
 have hk : ((agreed o m).cmd false).k = m.k := agreed_k o m
 rw [hk]
 have e1 : (m.k == m.k) = true := beq_self_eq_true _
 have e2 : (ch m == ch m) = true := beq_self_eq_true _
 rw [e1, e2, Bool.true_and, Bool.true_and]
 split
 · next e =>
   have hp : ((agreed o m).cmd false).p = Pn.agree o m.p := by unfold agreed; rw [if_pos e]; rfl
   rw [hp]; exact Pn.lowers_of_agree o m.p
 · have hs : ((agreed o m).cmd false).s = m.s := agreed_s o m
   have hb : ((agreed o m).cmd false).b = m.b := agreed_b o m
   rw [hs, hb, Msc.eqS_self, Bool.true_and]; exact beq_self_eq_true _
/-- What a side is made of is as it should be. -/
structure Ct.Ok (x : Ct) : Prop where
 n : 1 ≤ x.own.n ∧ x.own.n ≤ 65535
 k : 1 ≤ x.own.k ∧ x.own.k ≤ 7
 t2 : 1 ≤ x.t2 ∧ x.t2 ≤ 255
 n2 : x.n2 ≤ 255
 an : ∀ m ∈ x.an, m.Ok
 few : x.an.length ≤ 64
 cs : ∀ w ∈ x.cs, Askable w.m
 lf : ∀ w ∈ x.cs, w.lf ≤ 255
 tr : ∀ w ∈ x.cs, w.tr ≤ 255
 un : x.cs.Pairwise fun a b => same a.m b.m = false
theorem same_comm (a b : Ms) : same a b = same b a := by
 unfold same
 have h1 : (a.k == b.k) = (b.k == a.k) := by rw [Bool.eq_iff_iff, beq_iff_eq, beq_iff_eq]; exact eq_comm
 have h2 : (ch a == ch b) = (ch b == ch a) := by rw [Bool.eq_iff_iff, beq_iff_eq, beq_iff_eq]; exact eq_comm
 rw [h1, h2]
theorem same_self (a : Ms) : same a a = true := by
 unfold same; rw [beq_self_eq_true, beq_self_eq_true]; rfl
theorem same_iff (a b : Ms) : same a b = true ↔ a.k = b.k ∧ ch a = ch b := by
 unfold same; rw [Bool.and_eq_true, beq_iff_eq, beq_iff_eq]
theorem Ct.Ok.new (own : Pn.Pr) (t2 n2 : Int) : (Ct.new own t2 n2).Ok :=
 ⟨by show 1 ≤ min (max own.n 1) 65535 ∧ min (max own.n 1) 65535 ≤ 65535; omega, by show 1 ≤ min (max own.k 1) 7 ∧ min (max own.k 1) 7 ≤ 7; omega,
  by show 1 ≤ (min (max t2 1) 255).toNat ∧ (min (max t2 1) 255).toNat ≤ 255; omega, by show (min (max n2 0) 255).toNat ≤ 255; omega,
  fun m h => (by cases h), Nat.zero_le _, fun w h => (by cases h), fun w h => (by cases h), fun w h => (by cases h), .nil⟩
section
variable {x : Ct} {m : Ms}
theorem put_mem {l : List Wt} {w : Wt} (h : w ∈ put l m) : w ∈ l ∨ w = ⟨m, 0, 0, false⟩ := by
 unfold put at h
 rcases List.mem_append.1 h with h | h
 · exact .inl (List.mem_filter.1 h).1
 · exact .inr (List.mem_singleton.1 h)
theorem Ct.Ok.ask (h : x.Ok) (hm : m.In) : (x.ask m).Ok := by
 unfold Ct.ask
 split
 · next e =>
   have ha := (mayAsk_iff hm).1 e
   refine ⟨h.n, h.k, h.t2, h.n2, h.an, h.few, fun w hw => ?_, fun w hw => ?_, fun w hw => ?_, ?_⟩
   · rcases put_mem hw with hw | rfl
     · exact h.cs w hw
     · exact ha
   · rcases put_mem hw with hw | rfl
     · exact h.lf w hw
     · exact Nat.zero_le _
   · rcases put_mem hw with hw | rfl
     · exact h.tr w hw
     · exact Nat.zero_le _
   · show (put x.cs m).Pairwise _
     unfold put
     rw [List.pairwise_append]
     refine ⟨h.un.sublist List.filter_sublist, List.pairwise_singleton _ _, fun a ha b hb => ?_⟩
     rw [List.mem_singleton.1 hb]
     have := (List.mem_filter.1 ha).2
     simpa using this
 · exact h
/-- Saying turns nothing but what was to be said. -/
theorem say_maps (t2 : Nat) : ∀ l : List Wt, (say t2 l).2.map (·.m) = l.map (·.m)
 | [] => rfl
 | w :: r => by
  unfold say
  split
  · rfl
  · show w.m :: (say t2 r).2.map (·.m) = _; rw [say_maps t2 r]; rfl
theorem say_mem (t2 : Nat) : ∀ (l : List Wt) (w : Wt), w ∈ (say t2 l).2 → ∃ v ∈ l, w.m = v.m ∧ w.tr = v.tr ∧ (w.lf = v.lf ∨ w.lf = t2)
 | [], w, h => by cases h
 | v :: r, w, h => by
  unfold say at h
  split at h
  · rcases List.mem_cons.1 h with rfl | h
    · exact ⟨v, List.mem_cons_self, rfl, rfl, .inr rfl⟩
    · exact ⟨w, List.mem_cons_of_mem _ h, rfl, rfl, .inl rfl⟩
  · rcases List.mem_cons.1 h with rfl | h
    · exact ⟨w, List.mem_cons_self, rfl, rfl, .inl rfl⟩
    · obtain ⟨u, hu, h'⟩ := say_mem t2 r w h
      exact ⟨u, List.mem_cons_of_mem _ hu, h'⟩
theorem say_some (t2 : Nat) : ∀ (l : List Wt) (m : Ms), (say t2 l).1 = some m → ∃ w ∈ l, w.m = m
 | [], m, h => by cases h
 | v :: r, m, h => by
  unfold say at h
  split at h
  · exact ⟨v, List.mem_cons_self, Option.some.inj h⟩
  · obtain ⟨w, hw, e⟩ := say_some t2 r m h
    exact ⟨w, List.mem_cons_of_mem _ hw, e⟩
theorem un_maps {l l' : List Wt} (h : l.Pairwise fun a b => same a.m b.m = false) (e : l'.map (·.m) = l.map (·.m)) : l'.Pairwise fun a b => same a.m b.m = false := by
 have h1 : (l.map (·.m)).Pairwise fun a b => same a b = false := List.pairwise_map.2 h
 rw [← e] at h1
 exact List.pairwise_map.1 h1
theorem Ct.Ok.next (h : x.Ok) : x.next.2.Ok := by
 unfold Ct.next
 split
 · next a r e =>
   exact ⟨h.n, h.k, h.t2, h.n2, fun m hm => h.an m (by rw [e]; exact List.mem_cons_of_mem _ hm), by have := h.few; rw [e] at this; simp at this; show r.length ≤ 64; omega, h.cs, h.lf, h.tr, h.un⟩
 · refine ⟨h.n, h.k, h.t2, h.n2, h.an, h.few, fun w hw => ?_, fun w hw => ?_, fun w hw => ?_, un_maps h.un (say_maps _ _)⟩
   · obtain ⟨v, hv, e, _⟩ := say_mem _ _ _ hw
     rw [e]; exact h.cs v hv
   · obtain ⟨v, hv, _, _, e⟩ := say_mem _ _ _ hw
     have := h.lf v hv
     have := h.t2
     rcases e with e | e <;> omega
   · obtain ⟨v, hv, _, e, _⟩ := say_mem _ _ _ hw
     rw [e]; exact h.tr v hv
/-- What is said may be put. -/
theorem next_ok (h : x.Ok) {m : Ms} (hm : x.next.1 = some m) : m.Ok := by
 unfold Ct.next at hm
 split at hm
 · next a r e =>
   rw [← Option.some.inj hm]
   exact h.an a (by rw [e]; exact List.mem_cons_self)
 · obtain ⟨w, hw, e⟩ := say_some _ _ _ hm
   rw [← e]
   exact (h.cs w hw).ok
theorem Ct.Ok.command (h : x.Ok) (hm : m.Ok) : (x.command m).1.Ok := by
 unfold Ct.command
 split
 · exact h
 next hn =>
 have hl : x.an.length < 64 := by
  rcases Nat.lt_or_ge x.an.length 64 with q | q
  · exact q
  · exact absurd (.inr q) hn
 have key : ∀ r : Ms, r.Ok → ({ x with an := x.an ++ [r] } : Ct).Ok := fun r hr =>
  ⟨h.n, h.k, h.t2, h.n2, fun y hy => by
   rcases List.mem_append.1 hy with hy | hy
   · exact h.an y hy
   · rw [List.mem_singleton.1 hy]; exact hr, by show (x.an ++ [r]).length ≤ 64; rw [List.length_append]; show x.an.length + 1 ≤ 64; omega, h.cs, h.lf, h.tr, h.un⟩
 split
 · exact key _ (nsc_ok m)
 · refine key _ ⟨cmd_in (agreed_in hm.in_) _, by rw [may_cmd]; exact may_agreed h.n.1 h.k.1 hm.may, ?_⟩
   have hv := hm.few
   unfold agreed
   split
   · next e =>
     have : val (Ms.cmd ⟨m.k, m.c, Pn.agree x.own m.p, m.s, m.t, m.b⟩ false) = Pn.putS (Pn.agree x.own m.p) := by
      show (if m.k = 1 then Pn.putS (Pn.agree x.own m.p) else _) = _; rw [if_pos e]
     rw [this]
     unfold Pn.putS; split
     · rw [Pn.octets_size]; decide
     · show 0 ≤ 127; decide
   · exact hv
theorem resp_sub (r : Ms) : ∀ l : List Wt, (resp r l).1.Sublist l
 | [] => .refl _
 | w :: l => by
  unfold resp
  split
  · exact List.sublist_cons_self _ _
  · split
    · exact List.sublist_cons_self _ _
    · exact (resp_sub r l).cons_cons _
theorem Ct.Ok.sub (h : x.Ok) {l : List Wt} (hl : l.Sublist x.cs) : ({ x with cs := l } : Ct).Ok :=
 ⟨h.n, h.k, h.t2, h.n2, h.an, h.few, fun w hw => h.cs w (hl.subset hw), fun w hw => h.lf w (hl.subset hw), fun w hw => h.tr w (hl.subset hw), h.un.sublist hl⟩
theorem Ct.Ok.hear1 (h : x.Ok) (hm : m.Ok) : (x.hear1 m).1.Ok := by
 unfold Ct.hear1
 split
 · exact h.command hm
 · exact h.sub (resp_sub _ _)
theorem Ct.Ok.hears : ∀ {l : List Ms} {x : Ct}, x.Ok → (∀ m ∈ l, m.Ok) → (x.hears l).1.Ok
 | [], _, h, _ => h
 | m :: l, x, h, hl => by
  show (((x.hear1 m).1).hears l).1.Ok
  exact Ct.Ok.hears (h.hear1 (hl m List.mem_cons_self)) fun y hy => hl y (List.mem_cons_of_mem _ hy)
theorem ticks_mem (n2 : Nat) : ∀ (l : List Wt) (w : Wt), w ∈ (ticks n2 l).1 → ∃ v ∈ l, w.m = v.m ∧ w.lf ≤ v.lf ∧ (w.tr = v.tr ∨ w.tr ≤ n2)
 | [], w, h => by cases h
 | v :: l, w, h => by
  have tail : w ∈ (ticks n2 l).1 → ∃ u ∈ v :: l, w.m = u.m ∧ w.lf ≤ u.lf ∧ (w.tr = u.tr ∨ w.tr ≤ n2) := fun h => by
   obtain ⟨u, hu, h'⟩ := ticks_mem n2 l w h
   exact ⟨u, List.mem_cons_of_mem _ hu, h'⟩
  unfold ticks at h
  split at h
  · rcases List.mem_cons.1 h with rfl | h
    · exact ⟨v, List.mem_cons_self, rfl, Nat.sub_le _ _, .inl rfl⟩
    · exact tail h
  · split at h
    · exact tail h
    · next e =>
      rcases List.mem_cons.1 h with rfl | h
      · exact ⟨v, List.mem_cons_self, rfl, Nat.zero_le _, .inr (by show v.tr + 1 ≤ n2; omega)⟩
      · exact tail h
theorem ticks_sub (n2 : Nat) : ∀ l : List Wt, ((ticks n2 l).1.map (·.m)).Sublist (l.map (·.m))
 | [] => .refl _
 | w :: l => by
  unfold ticks
  split
  · exact (ticks_sub n2 l).cons_cons _
  · split
    · exact (ticks_sub n2 l).cons _
    · exact (ticks_sub n2 l).cons_cons _
theorem Ct.Ok.tick (h : x.Ok) : x.tick.1.Ok := by
 refine ⟨h.n, h.k, h.t2, h.n2, h.an, h.few, fun w hw => ?_, fun w hw => ?_, fun w hw => ?_, ?_⟩
 · obtain ⟨v, hv, e, _⟩ := ticks_mem _ _ _ hw
   rw [e]; exact h.cs v hv
 · obtain ⟨v, hv, _, e, _⟩ := ticks_mem _ _ _ hw
   have := h.lf v hv; omega
 · obtain ⟨v, hv, _, _, e⟩ := ticks_mem _ _ _ hw
   have := h.tr v hv; have := h.n2
   rcases e with e | e <;> omega
 · have h1 : (x.cs.map (·.m)).Pairwise fun a b => same a b = false := List.pairwise_map.2 h.un
   exact List.pairwise_map.1 (h1.sublist (ticks_sub _ _))
/-- All that octets begin with may be put. -/
theorem allA_ok (s : ByteArray) : ∀ (f at_ : Nat) (acc : List Ms), (∀ m ∈ acc, m.Ok) → ∀ m ∈ (allA s f at_ acc).1, m.Ok
 | 0, _, _, h => h
 | f + 1, at_, acc, h => by
  unfold allA
  split
  · next e =>
    refine allA_ok s f _ _ fun m hm => ?_
    rcases List.mem_append.1 hm with hm | hm
    · exact h m hm
    · rw [List.mem_singleton.1 hm]
      obtain ⟨h1, h2, _⟩ := put_got e
      obtain ⟨h3, h4⟩ := putE_may h2
      exact ⟨h1, h3, h4⟩
  · exact h
theorem all_ok (s : ByteArray) : ∀ m ∈ (all s).1, m.Ok := allA_ok s _ _ _ fun m h => by cases h
theorem Ct.Ok.hear (h : x.Ok) (s : ByteArray) : (x.hear s).1.Ok := h.hears (all_ok s)
/-- One message alone is heard as one. -/
theorem all_one (hm : m.Ok) : (all (putS m)).1 = [m] := by
 have := all_enc [m] (fun y hy => by rw [List.mem_singleton.1 hy]; exact hm) no (got_end rfl)
 have e : enc [m] ++ no = putS m := by
  rw [app_no]; show putS m ++ no = putS m; rw [app_no]
 rw [e] at this
 rw [this]
theorem hear_one (hm : m.Ok) : x.hear (putS m) = x.hear1 m := by
 unfold Ct.hear
 rw [all_one hm]
 show (((x.hear1 m).1), (x.hear1 m).2 ++ []) = _
 rw [List.append_nil]
theorem putS_inj {a b : Ms} (ha : a.Ok) (hb : b.Ok) (h : putS a = putS b) : a = b := by
 have e := all_one ha
 rw [h, all_one hb] at e
 exact (List.cons.inj e).1.symm
end
/-- Which of the 131 commands it is. -/
def key (m : Ms) : Nat := if m.k = 1 then m.p.d.toNat - 1 else if m.k = 2 then 63 + m.s.d else 124 + m.k
theorem key_lt {m : Ms} (h : Askable m) : key m < 131 := by
 have hk := may_k h.may
 have h6 := h.k
 unfold key
 split
 · next e => have := ((Pn.may_iff _).1 (may_k1 h.may e)).d; omega
 · split
   · next e => have := ((Msc.may_iff _).1 (may_k2 h.may e)).d; omega
   · omega
theorem key_inj {a b : Ms} (ha : Askable a) (hb : Askable b) (h : key a = key b) : same a b = true := by
 have ka := may_k ha.may
 have kb := may_k hb.may
 have a6 := ha.k
 have b6 := hb.k
 have pa : a.k = 1 → 1 ≤ a.p.d ∧ a.p.d ≤ 63 := fun e => ((Pn.may_iff _).1 (may_k1 ha.may e)).d
 have pb : b.k = 1 → 1 ≤ b.p.d ∧ b.p.d ≤ 63 := fun e => ((Pn.may_iff _).1 (may_k1 hb.may e)).d
 have sa : a.k = 2 → a.s.d ≤ 63 := fun e => ((Msc.may_iff _).1 (may_k2 ha.may e)).d
 have sb : b.k = 2 → b.s.d ≤ 63 := fun e => ((Msc.may_iff _).1 (may_k2 hb.may e)).d
 rw [same_iff]
 unfold key at h
 unfold ch
 by_cases a1 : a.k = 1
 · have := pa a1
   rw [if_pos a1] at h ⊢
   by_cases b1 : b.k = 1
   · have := pb b1
     rw [if_pos b1] at h ⊢; exact ⟨by omega, by omega⟩
   · rw [if_neg b1] at h
     by_cases b2 : b.k = 2
     · rw [if_pos b2] at h; omega
     · rw [if_neg b2] at h; omega
 · rw [if_neg a1] at h ⊢
   by_cases a2 : a.k = 2
   · have := sa a2
     rw [if_pos a2] at h ⊢
     by_cases b1 : b.k = 1
     · have := pb b1
       rw [if_pos b1] at h; omega
     · rw [if_neg b1] at h ⊢
       by_cases b2 : b.k = 2
       · rw [if_pos b2] at h ⊢; exact ⟨by omega, by omega⟩
       · rw [if_neg b2] at h; omega
   · rw [if_neg a2] at h ⊢
     by_cases b1 : b.k = 1
     · have := pb b1
       rw [if_pos b1] at h; omega
     · rw [if_neg b1] at h ⊢
       by_cases b2 : b.k = 2
       · have := sb b2
         rw [if_pos b2] at h; omega
       · rw [if_neg b2] at h ⊢; exact ⟨by omega, rfl⟩
/-- Unlike numbers below n are n at most. -/
theorem few_below : ∀ (n : Nat) (l : List Nat), l.Pairwise (· ≠ ·) → (∀ a ∈ l, a < n) → l.length ≤ n
 | 0, l, _, h => by
  cases l with
  | nil => exact Nat.le_refl _
  | cons a r => exact absurd (h a List.mem_cons_self) (Nat.not_lt_zero _)
 | n + 1, l, hu, h => by
  have h1 : (l.filter (fun a => a != n)).length ≤ n := few_below n _ (hu.sublist List.filter_sublist) fun a ha => by
   have := h a (List.mem_filter.1 ha).1
   have h2 : (a != n) = true := (List.mem_filter.1 ha).2
   have : a ≠ n := by simpa using h2
   omega
  have h2 : ∀ l : List Nat, l.Pairwise (· ≠ ·) → l.length ≤ (l.filter (fun a => a != n)).length + 1 := fun l => by
   induction l with
   | nil => intro _; exact Nat.zero_le _
   | cons a r ih =>
    intro hp
    obtain ⟨hp1, hp2⟩ := List.pairwise_cons.1 hp
    by_cases e : a = n
    · have : r.filter (fun a => a != n) = r := List.filter_eq_self.2 fun b hb => by
       have := hp1 b hb
       simpa using fun q => this (e.trans q.symm)
      rw [List.filter_cons_of_neg (by simpa using e), this, List.length_cons]
      exact Nat.le_refl _
    · rw [List.filter_cons_of_pos (by simpa using e), List.length_cons, List.length_cons]
      have := ih hp2
      omega
  have := h2 l hu
  omega
/-- Never more than 131 commands wait. -/
theorem Ct.Ok.cs_few {x : Ct} (h : x.Ok) : x.cs.length ≤ 131 := by
 have := few_below 131 (x.cs.map fun w => key w.m) (List.pairwise_map.2 (List.Pairwise.imp_of_mem (fun {a b} ha hb hs e => by
  have := key_inj (h.cs a ha) (h.cs b hb) e
  rw [hs] at this; cases this) h.un)) fun a ha => by
   obtain ⟨w, hw, rfl⟩ := List.mem_map.1 ha
   exact key_lt (h.cs w hw)
 rwa [List.length_map] at this
end Go.Proofs.YtakkhdammmcjcaaGreatDoor.Ctl
namespace Go.Proofs.YtakkhdammmcjcaaGreatDoor.Pn
open Go.RowKit Base Mem
/-- Parameters as a value. -/
abbrev pv (p : Pr) : Value := .agg #[.int .u8 p.d, .int .u8 p.f, .int .u8 p.c, .int .u8 p.r, .int .i64 p.t, .int .i64 p.n, .int .i64 p.z, .int .i64 p.k]
/-- Parameters in a block. -/
abbrev pO (p : Pr) (t : TypeId) : Obj := .cells #[.int .u8 p.d, .int .u8 p.f, .int .u8 p.c, .int .u8 p.r, .int .i64 p.t, .int .i64 p.n, .int .i64 p.z, .int .i64 p.k] t (0, 0)
/-- A block of no parameters yet. -/
abbrev noO (t : TypeId) : Obj := .cells #[.int .u8 0, .int .u8 0, .int .u8 0, .int .u8 0, .int .i64 0, .int .i64 0, .int .i64 0, .int .i64 0] t (0, 0)
abbrev noV : Value := .agg #[.int .u8 0, .int .u8 0, .int .u8 0, .int .u8 0, .int .i64 0, .int .i64 0, .int .i64 0, .int .i64 0]
structure Cells (w : World) (b : Nat) (p : Pr) : Prop where
 c0 : w.cell? ⟨b, 0, none⟩ = some (.int .u8 p.d)
 c1 : w.cell? ⟨b, 1, none⟩ = some (.int .u8 p.f)
 c2 : w.cell? ⟨b, 2, none⟩ = some (.int .u8 p.c)
 c3 : w.cell? ⟨b, 3, none⟩ = some (.int .u8 p.r)
 c4 : w.cell? ⟨b, 4, none⟩ = some (.int .i64 p.t)
 c5 : w.cell? ⟨b, 5, none⟩ = some (.int .i64 p.n)
 c6 : w.cell? ⟨b, 6, none⟩ = some (.int .i64 p.z)
 c7 : w.cell? ⟨b, 7, none⟩ = some (.int .i64 p.k)
theorem cells_of {w : World} {b : Nat} {p : Pr} {t : TypeId} (h : w.heap[b]? = some (pO p t)) : Cells w b p :=
 ⟨cell_of h rfl, cell_of h rfl, cell_of h rfl, cell_of h rfl, cell_of h rfl, cell_of h rfl, cell_of h rfl, cell_of h rfl⟩
theorem Cells.below {w w' : World} {b : Nat} {p : Pr} (h : Cells w b p) (hb : Below w.heap.size w w') : Cells w' b p :=
 ⟨cell_below h.c0 hb, cell_below h.c1 hb, cell_below h.c2 hb, cell_below h.c3 hb, cell_below h.c4 hb, cell_below h.c5 hb, cell_below h.c6 hb, cell_below h.c7 hb⟩
theorem frees_of {w : World} {b : Nat} {p : Pr} {t : TypeId} (h : w.heap[b]? = some (pO p t)) : ∀ i, w.frozen? ⟨b, i, none⟩ = false := fun _ => free_of h
theorem run_eqFields (p q : Pr) (w : World) : (Op.equalIn 10000 25 (pv p) (pv q)).run Tryz.prog w = .ok (eqP p q) w := by
 have u2 := Tryz.underlying3
 have u5 := Tryz.underlying5
 have a2 := Tryz.isAgg3
 have a5 := Tryz.isAgg5
 have z2 := Tryz.sizeOf3
 have z5 := Tryz.sizeOf5
 have hS : Tryz.prog.underlying 25 = some (.struct (Tryz.prog.fieldsOf 25)) := by kernel_rfl
 have hp : Tryz.prog.stoodInHeld 25 = false := by kernel_rfl
 rw [show (10000 : Nat) = 9999 + 1 from rfl, run_equalIn_agg w 9999 25 _ _ hS hp]
 simp only [Program.fieldsOf, Tryz.underlying25]
 go_simp
 unfold eqP
 cases h1 : (p.d == q.d)
 · simp_all
 cases h2 : (p.f == q.f)
 · simp_all
 cases h3 : (p.c == q.c)
 · simp_all
 cases h4 : (p.r == q.r)
 · simp_all
 cases h5 : (p.t == q.t)
 · simp_all
 cases h6 : (p.n == q.n)
 · simp_all
 cases h7 : (p.z == q.z)
 · simp_all
 cases h8 : (p.k == q.k) <;> simp_all
theorem run_rqFields (p q : Pr) (w : World) : (Op.equalIn 10000 44 (pv p) (pv q)).run Tryz.prog w = .ok (eqP p q) w := by
 have u2 := Tryz.underlying3
 have u5 := Tryz.underlying5
 have a2 := Tryz.isAgg3
 have a5 := Tryz.isAgg5
 have z2 := Tryz.sizeOf3
 have z5 := Tryz.sizeOf5
 have hS : Tryz.prog.underlying 44 = some (.struct (Tryz.prog.fieldsOf 44)) := by kernel_rfl
 have hp : Tryz.prog.stoodInHeld 44 = false := by kernel_rfl
 rw [show (10000 : Nat) = 9999 + 1 from rfl, run_equalIn_agg w 9999 44 _ _ hS hp]
 simp only [Program.fieldsOf, Tryz.underlying44]
 go_simp
 unfold eqP
 cases h1 : (p.d == q.d)
 · simp_all
 cases h2 : (p.f == q.f)
 · simp_all
 cases h3 : (p.c == q.c)
 · simp_all
 cases h4 : (p.r == q.r)
 · simp_all
 cases h5 : (p.t == q.t)
 · simp_all
 cases h6 : (p.n == q.n)
 · simp_all
 cases h7 : (p.z == q.z)
 · simp_all
 cases h8 : (p.k == q.k) <;> simp_all
theorem run_eqP (p q : Pr) (w : World) : (binOp .eql 25 (pv p) (pv q)).run Tryz.prog w = .ok (.bool (eqP p q)) w := by
 rw [run_eql_struct, run_eqFields]; rfl
theorem run_neP (p q : Pr) (w : World) : (binOp .neq 25 (pv p) (pv q)).run Tryz.prog w = .ok (.bool (!eqP p q)) w := by
 rw [run_neq_struct, run_eqFields]; rfl
theorem run_rqP (p q : Pr) (w : World) : (binOp .eql 44 (pv p) (pv q)).run Tryz.prog w = .ok (.bool (eqP p q)) w := by
 rw [run_eql_struct, run_rqFields]; rfl
theorem conv_at8 (W : World) (b : Nat) (x0 x1 x2 x3 x4 x5 x6 x7 : Int) (h0 : W.cell? ⟨b, 0, none⟩ = some (.int .u8 x0)) (h1 : W.cell? ⟨b, 1, none⟩ = some (.int .u8 x1)) (h2 : W.cell? ⟨b, 2, none⟩ = some (.int .u8 x2)) (h3 : W.cell? ⟨b, 3, none⟩ = some (.int .u8 x3)) (h4 : W.cell? ⟨b, 4, none⟩ = some (.int .u8 x4)) (h5 : W.cell? ⟨b, 5, none⟩ = some (.int .u8 x5)) (h6 : W.cell? ⟨b, 6, none⟩ = some (.int .u8 x6)) (h7 : W.cell? ⟨b, 7, none⟩ = some (.int .u8 x7)) :
 (convert 126 9 (.slice (some ⟨b, 0, none⟩) 8 8)).run Tryz.prog W = .ok (.string ⟨#[UInt8.ofNat x0.toNat, UInt8.ofNat x1.toNat, UInt8.ofNat x2.toNat, UInt8.ofNat x3.toNat, UInt8.ofNat x4.toNat, UInt8.ofNat x5.toNat, UInt8.ofNat x6.toNat, UInt8.ofNat x7.toNat]⟩) W := by
 have h' := run_convert_bytes_arg (P := Tryz.prog) W 126 5 Tryz.underlying126 Tryz.underlying5 b 0 8 8 [x0, x1, x2, x3, x4, x5, x6, x7] rfl (fun i hi => by
  rw [Nat.zero_add]
  match i, hi with
  | 0, _ => exact h0
  | 1, _ => exact h1
  | 2, _ => exact h2
  | 3, _ => exact h3
  | 4, _ => exact h4
  | 5, _ => exact h5
  | 6, _ => exact h6
  | 7, _ => exact h7) 9 Tryz.underlying9
 rw [h']
 rfl
theorem set8 {B : Nat} {a w : World} (h : Below B a w) {b : Nat} (hb : B ≤ b) (v0 v1 v2 v3 v4 v5 v6 v7 : Value) : Below B a ((((((((w.setCell ⟨b, 0, none⟩ v0).setCell ⟨b, 1, none⟩ v1).setCell ⟨b, 2, none⟩ v2).setCell ⟨b, 3, none⟩ v3).setCell ⟨b, 4, none⟩ v4).setCell ⟨b, 5, none⟩ v5).setCell ⟨b, 6, none⟩ v6).setCell ⟨b, 7, none⟩ v7) :=
 (((((((h.setCell hb _).setCell hb _).setCell hb _).setCell hb _).setCell hb _).setCell hb _).setCell hb _).setCell hb _
theorem set8_at {w : World} {b : Nat} {u0 u1 u2 u3 u4 u5 u6 u7 : Value} {t : TypeId} (h : w.heap[b]? = some (.cells #[u0, u1, u2, u3, u4, u5, u6, u7] t)) (v0 v1 v2 v3 v4 v5 v6 v7 : Value) : ((((((((w.setCell ⟨b, 0, none⟩ v0).setCell ⟨b, 1, none⟩ v1).setCell ⟨b, 2, none⟩ v2).setCell ⟨b, 3, none⟩ v3).setCell ⟨b, 4, none⟩ v4).setCell ⟨b, 5, none⟩ v5).setCell ⟨b, 6, none⟩ v6).setCell ⟨b, 7, none⟩ v7).heap[b]? = some (.cells #[v0, v1, v2, v3, v4, v5, v6, v7] t) := by
 have h0 : (w.setCell ⟨b, 0, none⟩ v0).heap[b]? = some (.cells #[v0, u1, u2, u3, u4, u5, u6, u7] t) := block_set (i := 0) h v0
 have h1 : ((w.setCell ⟨b, 0, none⟩ v0).setCell ⟨b, 1, none⟩ v1).heap[b]? = some (.cells #[v0, v1, u2, u3, u4, u5, u6, u7] t) := block_set (i := 1) h0 v1
 have h2 : (((w.setCell ⟨b, 0, none⟩ v0).setCell ⟨b, 1, none⟩ v1).setCell ⟨b, 2, none⟩ v2).heap[b]? = some (.cells #[v0, v1, v2, u3, u4, u5, u6, u7] t) := block_set (i := 2) h1 v2
 have h3 : ((((w.setCell ⟨b, 0, none⟩ v0).setCell ⟨b, 1, none⟩ v1).setCell ⟨b, 2, none⟩ v2).setCell ⟨b, 3, none⟩ v3).heap[b]? = some (.cells #[v0, v1, v2, v3, u4, u5, u6, u7] t) := block_set (i := 3) h2 v3
 have h4 : (((((w.setCell ⟨b, 0, none⟩ v0).setCell ⟨b, 1, none⟩ v1).setCell ⟨b, 2, none⟩ v2).setCell ⟨b, 3, none⟩ v3).setCell ⟨b, 4, none⟩ v4).heap[b]? = some (.cells #[v0, v1, v2, v3, v4, u5, u6, u7] t) := block_set (i := 4) h3 v4
 have h5 : ((((((w.setCell ⟨b, 0, none⟩ v0).setCell ⟨b, 1, none⟩ v1).setCell ⟨b, 2, none⟩ v2).setCell ⟨b, 3, none⟩ v3).setCell ⟨b, 4, none⟩ v4).setCell ⟨b, 5, none⟩ v5).heap[b]? = some (.cells #[v0, v1, v2, v3, v4, v5, u6, u7] t) := block_set (i := 5) h4 v5
 have h6 : (((((((w.setCell ⟨b, 0, none⟩ v0).setCell ⟨b, 1, none⟩ v1).setCell ⟨b, 2, none⟩ v2).setCell ⟨b, 3, none⟩ v3).setCell ⟨b, 4, none⟩ v4).setCell ⟨b, 5, none⟩ v5).setCell ⟨b, 6, none⟩ v6).heap[b]? = some (.cells #[v0, v1, v2, v3, v4, v5, v6, u7] t) := block_set (i := 6) h5 v6
 exact block_set (i := 7) h6 v7
theorem frees8 {w : World} {b : Nat} {p : Pr} {t : TypeId} (h : w.heap[b]? = some (pO p t)) : w.frozen? ⟨b, 0, none⟩ = false ∧ w.frozen? ⟨b, 1, none⟩ = false ∧ w.frozen? ⟨b, 2, none⟩ = false ∧ w.frozen? ⟨b, 3, none⟩ = false ∧ w.frozen? ⟨b, 4, none⟩ = false ∧ w.frozen? ⟨b, 5, none⟩ = false ∧ w.frozen? ⟨b, 6, none⟩ = false ∧ w.frozen? ⟨b, 7, none⟩ = false :=
 ⟨free_of h, free_of h, free_of h, free_of h, free_of h, free_of h, free_of h, free_of h⟩
theorem no_frees {w : World} {b : Nat} {t : TypeId} (h : w.heap[b]? = some (noO t)) : w.frozen? ⟨b, 0, none⟩ = false ∧ w.frozen? ⟨b, 1, none⟩ = false ∧ w.frozen? ⟨b, 2, none⟩ = false ∧ w.frozen? ⟨b, 3, none⟩ = false ∧ w.frozen? ⟨b, 4, none⟩ = false ∧ w.frozen? ⟨b, 5, none⟩ = false ∧ w.frozen? ⟨b, 6, none⟩ = false ∧ w.frozen? ⟨b, 7, none⟩ = false :=
 ⟨free_of h, free_of h, free_of h, free_of h, free_of h, free_of h, free_of h, free_of h⟩
theorem no_cells {w : World} {b : Nat} {t : TypeId} (h : w.heap[b]? = some (noO t)) : w.cell? ⟨b, 0, none⟩ = some (.int .u8 0) ∧ w.cell? ⟨b, 1, none⟩ = some (.int .u8 0) ∧ w.cell? ⟨b, 2, none⟩ = some (.int .u8 0) ∧ w.cell? ⟨b, 3, none⟩ = some (.int .u8 0) ∧ w.cell? ⟨b, 4, none⟩ = some (.int .i64 0) ∧ w.cell? ⟨b, 5, none⟩ = some (.int .i64 0) ∧ w.cell? ⟨b, 6, none⟩ = some (.int .i64 0) ∧ w.cell? ⟨b, 7, none⟩ = some (.int .i64 0) :=
 ⟨cell_of h rfl, cell_of h rfl, cell_of h rfl, cell_of h rfl, cell_of h rfl, cell_of h rfl, cell_of h rfl, cell_of h rfl⟩
end Go.Proofs.YtakkhdammmcjcaaGreatDoor.Pn
namespace Go.Proofs.YtakkhdammmcjcaaGreatDoor.Msc
open Go.RowKit Base Mem
/-- A status as a value. -/
abbrev sv (s : St) : Value := .agg #[.int .u8 (s.d : Int), .bool s.f, .bool s.c, .bool s.r, .bool s.i, .bool s.v, .bool s.b, .int .u8 (s.k : Int)]
/-- A status in a block. -/
abbrev sO (s : St) (t : TypeId) : Obj := .cells #[.int .u8 (s.d : Int), .bool s.f, .bool s.c, .bool s.r, .bool s.i, .bool s.v, .bool s.b, .int .u8 (s.k : Int)] t (0, 0)
/-- A block of no status yet. -/
abbrev noO (t : TypeId) : Obj := .cells #[.int .u8 0, .bool false, .bool false, .bool false, .bool false, .bool false, .bool false, .int .u8 0] t (0, 0)
abbrev noV : Value := .agg #[.int .u8 0, .bool false, .bool false, .bool false, .bool false, .bool false, .bool false, .int .u8 0]
structure Cells (w : World) (b : Nat) (s : St) : Prop where
 c0 : w.cell? ⟨b, 0, none⟩ = some (.int .u8 (s.d : Int))
 c1 : w.cell? ⟨b, 1, none⟩ = some (.bool s.f)
 c2 : w.cell? ⟨b, 2, none⟩ = some (.bool s.c)
 c3 : w.cell? ⟨b, 3, none⟩ = some (.bool s.r)
 c4 : w.cell? ⟨b, 4, none⟩ = some (.bool s.i)
 c5 : w.cell? ⟨b, 5, none⟩ = some (.bool s.v)
 c6 : w.cell? ⟨b, 6, none⟩ = some (.bool s.b)
 c7 : w.cell? ⟨b, 7, none⟩ = some (.int .u8 (s.k : Int))
theorem cells_of {w : World} {b : Nat} {p : St} {t : TypeId} (h : w.heap[b]? = some (sO p t)) : Cells w b p :=
 ⟨cell_of h rfl, cell_of h rfl, cell_of h rfl, cell_of h rfl, cell_of h rfl, cell_of h rfl, cell_of h rfl, cell_of h rfl⟩
theorem Cells.below {w w' : World} {b : Nat} {p : St} (h : Cells w b p) (hb : Below w.heap.size w w') : Cells w' b p :=
 ⟨cell_below h.c0 hb, cell_below h.c1 hb, cell_below h.c2 hb, cell_below h.c3 hb, cell_below h.c4 hb, cell_below h.c5 hb, cell_below h.c6 hb, cell_below h.c7 hb⟩
theorem run_eqFields (p q : St) (w : World) : (Op.equalIn 10000 27 (sv p) (sv q)).run Tryz.prog w = .ok (eqS p q) w := by
 have u2 := Tryz.underlying4
 have u5 := Tryz.underlying5
 have a2 := Tryz.isAgg4
 have a5 := Tryz.isAgg5
 have z2 := Tryz.sizeOf4
 have z5 := Tryz.sizeOf5
 have hS : Tryz.prog.underlying 27 = some (.struct (Tryz.prog.fieldsOf 27)) := by kernel_rfl
 have hp : Tryz.prog.stoodInHeld 27 = false := by kernel_rfl
 rw [show (10000 : Nat) = 9999 + 1 from rfl, run_equalIn_agg w 9999 27 _ _ hS hp]
 simp only [Program.fieldsOf, Tryz.underlying27]
 go_simp
 obtain ⟨p0, p1, p2, p3, p4, p5, p6, p7⟩ := p
 obtain ⟨q0, q1, q2, q3, q4, q5, q6, q7⟩ := q
 rw [eqS_of]
 dsimp only
 by_cases h0 : p0 = q0
 · subst h0
   by_cases h7 : p7 = q7
   · subst h7
     revert p1 q1 p2 q2 p3 q3 p4 q4 p5 q5 p6 q6
     simp
   · simp_all <;> (intros; omega)
 · simp_all <;> (intros; omega)
theorem run_rqFields (p q : St) (w : World) : (Op.equalIn 10000 77 (sv p) (sv q)).run Tryz.prog w = .ok (eqS p q) w := by
 have u2 := Tryz.underlying4
 have u5 := Tryz.underlying5
 have a2 := Tryz.isAgg4
 have a5 := Tryz.isAgg5
 have z2 := Tryz.sizeOf4
 have z5 := Tryz.sizeOf5
 have hS : Tryz.prog.underlying 77 = some (.struct (Tryz.prog.fieldsOf 77)) := by kernel_rfl
 have hp : Tryz.prog.stoodInHeld 77 = false := by kernel_rfl
 rw [show (10000 : Nat) = 9999 + 1 from rfl, run_equalIn_agg w 9999 77 _ _ hS hp]
 simp only [Program.fieldsOf, Tryz.underlying77]
 go_simp
 obtain ⟨p0, p1, p2, p3, p4, p5, p6, p7⟩ := p
 obtain ⟨q0, q1, q2, q3, q4, q5, q6, q7⟩ := q
 rw [eqS_of]
 dsimp only
 by_cases h0 : p0 = q0
 · subst h0
   by_cases h7 : p7 = q7
   · subst h7
     revert p1 q1 p2 q2 p3 q3 p4 q4 p5 q5 p6 q6
     simp
   · simp_all <;> (intros; omega)
 · simp_all <;> (intros; omega)
theorem frees_of {w : World} {b : Nat} {p : St} {t : TypeId} (h : w.heap[b]? = some (sO p t)) : ∀ i, w.frozen? ⟨b, i, none⟩ = false := fun _ => free_of h
theorem run_eqS (p q : St) (w : World) : (binOp .eql 27 (sv p) (sv q)).run Tryz.prog w = .ok (.bool (eqS p q)) w := by
 rw [run_eql_struct, run_eqFields]; rfl
theorem run_neS (p q : St) (w : World) : (binOp .neq 27 (sv p) (sv q)).run Tryz.prog w = .ok (.bool (!eqS p q)) w := by
 rw [run_neq_struct, run_eqFields]; rfl
theorem run_rqS (p q : St) (w : World) : (binOp .eql 77 (sv p) (sv q)).run Tryz.prog w = .ok (.bool (eqS p q)) w := by
 rw [run_eql_struct, run_rqFields]; rfl
theorem conv_at3 (W : World) (b : Nat) (x0 x1 x2 : Int) (h0 : W.cell? ⟨b, 0, none⟩ = some (.int .u8 x0)) (h1 : W.cell? ⟨b, 1, none⟩ = some (.int .u8 x1)) (h2 : W.cell? ⟨b, 2, none⟩ = some (.int .u8 x2)) :
 (convert 126 9 (.slice (some ⟨b, 0, none⟩) 3 3)).run Tryz.prog W = .ok (.string ⟨#[UInt8.ofNat x0.toNat, UInt8.ofNat x1.toNat, UInt8.ofNat x2.toNat]⟩) W := by
 have h' := run_convert_bytes_arg (P := Tryz.prog) W 126 5 Tryz.underlying126 Tryz.underlying5 b 0 3 3 [x0, x1, x2] rfl (fun i hi => by
  rw [Nat.zero_add]
  match i, hi with
  | 0, _ => exact h0
  | 1, _ => exact h1
  | 2, _ => exact h2) 9 Tryz.underlying9
 rw [h']
 rfl
theorem set8 {B : Nat} {a w : World} (h : Below B a w) {b : Nat} (hb : B ≤ b) (v0 v1 v2 v3 v4 v5 v6 v7 : Value) : Below B a ((((((((w.setCell ⟨b, 0, none⟩ v0).setCell ⟨b, 1, none⟩ v1).setCell ⟨b, 2, none⟩ v2).setCell ⟨b, 3, none⟩ v3).setCell ⟨b, 4, none⟩ v4).setCell ⟨b, 5, none⟩ v5).setCell ⟨b, 6, none⟩ v6).setCell ⟨b, 7, none⟩ v7) :=
 (((((((h.setCell hb _).setCell hb _).setCell hb _).setCell hb _).setCell hb _).setCell hb _).setCell hb _).setCell hb _
theorem set8_at {w : World} {b : Nat} {u0 u1 u2 u3 u4 u5 u6 u7 : Value} {t : TypeId} (h : w.heap[b]? = some (.cells #[u0, u1, u2, u3, u4, u5, u6, u7] t)) (v0 v1 v2 v3 v4 v5 v6 v7 : Value) : ((((((((w.setCell ⟨b, 0, none⟩ v0).setCell ⟨b, 1, none⟩ v1).setCell ⟨b, 2, none⟩ v2).setCell ⟨b, 3, none⟩ v3).setCell ⟨b, 4, none⟩ v4).setCell ⟨b, 5, none⟩ v5).setCell ⟨b, 6, none⟩ v6).setCell ⟨b, 7, none⟩ v7).heap[b]? = some (.cells #[v0, v1, v2, v3, v4, v5, v6, v7] t) := by
 have h0 : (w.setCell ⟨b, 0, none⟩ v0).heap[b]? = some (.cells #[v0, u1, u2, u3, u4, u5, u6, u7] t) := block_set (i := 0) h v0
 have h1 : ((w.setCell ⟨b, 0, none⟩ v0).setCell ⟨b, 1, none⟩ v1).heap[b]? = some (.cells #[v0, v1, u2, u3, u4, u5, u6, u7] t) := block_set (i := 1) h0 v1
 have h2 : (((w.setCell ⟨b, 0, none⟩ v0).setCell ⟨b, 1, none⟩ v1).setCell ⟨b, 2, none⟩ v2).heap[b]? = some (.cells #[v0, v1, v2, u3, u4, u5, u6, u7] t) := block_set (i := 2) h1 v2
 have h3 : ((((w.setCell ⟨b, 0, none⟩ v0).setCell ⟨b, 1, none⟩ v1).setCell ⟨b, 2, none⟩ v2).setCell ⟨b, 3, none⟩ v3).heap[b]? = some (.cells #[v0, v1, v2, v3, u4, u5, u6, u7] t) := block_set (i := 3) h2 v3
 have h4 : (((((w.setCell ⟨b, 0, none⟩ v0).setCell ⟨b, 1, none⟩ v1).setCell ⟨b, 2, none⟩ v2).setCell ⟨b, 3, none⟩ v3).setCell ⟨b, 4, none⟩ v4).heap[b]? = some (.cells #[v0, v1, v2, v3, v4, u5, u6, u7] t) := block_set (i := 4) h3 v4
 have h5 : ((((((w.setCell ⟨b, 0, none⟩ v0).setCell ⟨b, 1, none⟩ v1).setCell ⟨b, 2, none⟩ v2).setCell ⟨b, 3, none⟩ v3).setCell ⟨b, 4, none⟩ v4).setCell ⟨b, 5, none⟩ v5).heap[b]? = some (.cells #[v0, v1, v2, v3, v4, v5, u6, u7] t) := block_set (i := 5) h4 v5
 have h6 : (((((((w.setCell ⟨b, 0, none⟩ v0).setCell ⟨b, 1, none⟩ v1).setCell ⟨b, 2, none⟩ v2).setCell ⟨b, 3, none⟩ v3).setCell ⟨b, 4, none⟩ v4).setCell ⟨b, 5, none⟩ v5).setCell ⟨b, 6, none⟩ v6).heap[b]? = some (.cells #[v0, v1, v2, v3, v4, v5, v6, u7] t) := block_set (i := 6) h5 v6
 exact block_set (i := 7) h6 v7
theorem frees8 {w : World} {b : Nat} {p : St} {t : TypeId} (h : w.heap[b]? = some (sO p t)) : w.frozen? ⟨b, 0, none⟩ = false ∧ w.frozen? ⟨b, 1, none⟩ = false ∧ w.frozen? ⟨b, 2, none⟩ = false ∧ w.frozen? ⟨b, 3, none⟩ = false ∧ w.frozen? ⟨b, 4, none⟩ = false ∧ w.frozen? ⟨b, 5, none⟩ = false ∧ w.frozen? ⟨b, 6, none⟩ = false ∧ w.frozen? ⟨b, 7, none⟩ = false :=
 ⟨free_of h, free_of h, free_of h, free_of h, free_of h, free_of h, free_of h, free_of h⟩
theorem no_frees {w : World} {b : Nat} {t : TypeId} (h : w.heap[b]? = some (noO t)) : w.frozen? ⟨b, 0, none⟩ = false ∧ w.frozen? ⟨b, 1, none⟩ = false ∧ w.frozen? ⟨b, 2, none⟩ = false ∧ w.frozen? ⟨b, 3, none⟩ = false ∧ w.frozen? ⟨b, 4, none⟩ = false ∧ w.frozen? ⟨b, 5, none⟩ = false ∧ w.frozen? ⟨b, 6, none⟩ = false ∧ w.frozen? ⟨b, 7, none⟩ = false :=
 ⟨free_of h, free_of h, free_of h, free_of h, free_of h, free_of h, free_of h, free_of h⟩
theorem no_cells {w : World} {b : Nat} {t : TypeId} (h : w.heap[b]? = some (noO t)) : w.cell? ⟨b, 0, none⟩ = some (.int .u8 0) ∧ w.cell? ⟨b, 1, none⟩ = some (.bool false) ∧ w.cell? ⟨b, 2, none⟩ = some (.bool false) ∧ w.cell? ⟨b, 3, none⟩ = some (.bool false) ∧ w.cell? ⟨b, 4, none⟩ = some (.bool false) ∧ w.cell? ⟨b, 5, none⟩ = some (.bool false) ∧ w.cell? ⟨b, 6, none⟩ = some (.bool false) ∧ w.cell? ⟨b, 7, none⟩ = some (.int .u8 0) :=
 ⟨cell_of h rfl, cell_of h rfl, cell_of h rfl, cell_of h rfl, cell_of h rfl, cell_of h rfl, cell_of h rfl, cell_of h rfl⟩
theorem block_other {w : World} {b c o : Nat} (h : c ≠ b) (v : Value) : (w.setCell ⟨b, o, none⟩ v).heap[c]? = w.heap[c]? := by
 show (w.heap.modify b _)[c]? = _
 rw [Array.getElem?_modify, if_neg (fun e => h e.symm)]
theorem set8_other {w : World} {b c : Nat} (h : c ≠ b) (v0 v1 v2 v3 v4 v5 v6 v7 : Value) : ((((((((w.setCell ⟨b, 0, none⟩ v0).setCell ⟨b, 1, none⟩ v1).setCell ⟨b, 2, none⟩ v2).setCell ⟨b, 3, none⟩ v3).setCell ⟨b, 4, none⟩ v4).setCell ⟨b, 5, none⟩ v5).setCell ⟨b, 6, none⟩ v6).setCell ⟨b, 7, none⟩ v7).heap[c]? = w.heap[c]? := by
 rw [block_other h, block_other h, block_other h, block_other h, block_other h, block_other h, block_other h, block_other h]
end Go.Proofs.YtakkhdammmcjcaaGreatDoor.Msc
