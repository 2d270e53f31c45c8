/-
  What follows of what a byte does: a frame that is encoded is told at its last flag; what is told stands encoded in what came; flags lead to a beginning. Conditions: the bounds that each lemma names.
-/
import Derived.Test.YthlciaomfpephaaDoorDfDec
import Derived.Test.YthlciaomfpephaaDoorDfFeeds
namespace Go.Proofs.YthlciaomfpephaaDoor.Df
open Go.RowKit Go.Proofs.YthlciaomfpephaaDoor.Base Go.Proofs.YthlciaomfpephaaDoor.Ea Go.Proofs.YthlciaomfpephaaDoor.Field Go.Proofs.YthlciaomfpephaaDoor.Basic Go.Proofs.YthlciaomfpephaaDoor.Adv
/-- At a beginning. -/
def Ready (c : Cf) (q : St) : Prop := q.m = begm c ∧ q.got = []
theorem ready_begin (c : Cf) (q : St) : Ready c (begin c q) := ⟨rfl, rfl⟩
theorem run_one {c : Cf} {dec : List UInt8 → Fr × Nat} {r : Rs} {b : UInt8} {l : List UInt8} {q : St} (h : step c dec r.q b = (q, none)) : run c dec r (b :: l) = run c dec ⟨q, r.out, false⟩ l := by
  rw [run_cons, one1_none (by rw [h]), h]
theorem run_end {c : Cf} {dec : List UInt8 → Fr × Nat} {r : Rs} {b : UInt8} {q : St} {g : Fr} (h : step c dec r.q b = (q, some g)) : run c dec r [b] = ⟨q, r.out ++ [g], true⟩ := by
  rw [run_cons, one1_some (by rw [h]), h]; rfl
/-- Bytes that are no flags are gathered. -/
theorem run_gather {c : Cf} (dec : List UInt8 → Fr × Nat) (l : List UInt8) : ∀ (q : St) (out : List Fr) (la : Bool), q.m = 1 → (∀ x ∈ l, x ≠ 126) → q.got.length + l.length ≤ most c → ∃ lb, run c dec ⟨q, out, la⟩ l = ⟨{ q with got := q.got ++ l }, out, lb⟩ := by
  induction l with
  | nil => intro q out la _ _ _; exact ⟨la, by rw [List.append_nil]; rfl⟩
  | cons b l ih =>
    intro q out la hm hx hl
    rw [List.length_cons] at hl
    have hs : step c dec q b = (more q b, none) := by
      unfold step
      rw [hm]
      simp only
      rw [if_pos (hx b (by simp)), if_pos (by omega)]
    obtain ⟨lb, h⟩ := ih (more q b) out false hm (fun x h => hx x (by simp [h])) (by show (q.got ++ [b]).length + _ ≤ _; rw [List.length_append, List.length_singleton]; omega)
    refine ⟨lb, ?_⟩
    rw [run_one (r := ⟨q, out, la⟩) hs, h]
    simp [more]
/-- The rest of a basic body. -/
theorem run_rest {c : Cf} (dec : List UInt8 → Fr × Nat) (l : List UInt8) : ∀ (q : St) (out : List Fr) (la : Bool), q.m = 5 → q.left = l.length → l ≠ [] → ∃ lb, run c dec ⟨q, out, la⟩ l = ⟨⟨6, q.got ++ l, 0, q.bad⟩, out, lb⟩ := by
  induction l with
  | nil => intro q out la _ _ h; exact absurd rfl h
  | cons b l ih =>
    intro q out la hm hl _
    rw [List.length_cons] at hl
    have hs : step c dec q b = ({ more q b with left := q.left - 1, m := if q.left - 1 = 0 then 6 else 5 }, none) := by
      unfold step
      rw [hm]
      rfl
    cases l with
    | nil =>
      refine ⟨false, ?_⟩
      rw [run_one (r := ⟨q, out, la⟩) hs, if_pos (by simp at hl; omega)]
      have : q.left - 1 = 0 := by simp at hl; omega
      rw [this]
      rfl
    | cons d l =>
      rw [if_neg (by simp at hl; omega)] at hs
      obtain ⟨lb, h⟩ := ih { more q b with left := q.left - 1, m := 5 } out false rfl (by show q.left - 1 = _; omega) (by simp)
      refine ⟨lb, ?_⟩
      rw [run_one (r := ⟨q, out, la⟩) hs, h]
      simp [more]
theorem inner_len (f : Fr) (ini : Bool) : (Fr.inner f ini).data.toList.length = f.info.size + 3 := by
  rw [size_toList]; exact inn_size _ _ _ _
theorem innX_le {c : Cf} {f : Fr} (h : encX c.adv f c.ini c.room = 0) : (innX c.adv f c.ini).length ≤ 300 := by
  unfold encX innX at *
  cases ha : c.adv
  · rw [ha] at h
    have h1 := (e_ok (show f.e c.ini c.room = 0 from h)).2.2.2
    have h2 := room_le (c.room : Int)
    have h3 := bd_size (f.a c.ini) f.o (f.x c.ini) f.info
    have h4 := len_sz f.info.size (by omega)
    show (f.body c.ini).data.toList.length ≤ 300
    rw [size_toList]
    have h5 : (f.body c.ini).size = 2 + (len f.info.size).size + f.info.size + 1 := h3
    split at h4 <;> omega
  · rw [ha] at h
    have h1 := (ae_ok (show Fr.ae f c.room = 0 from h)).2.2.2
    have h2 := room_le (c.room : Int)
    have h3 := (st_len (Fr.inner f c.ini).data.toList).2
    rw [inner_len] at h3
    show (st (Fr.inner f c.ini).data.toList).length ≤ 300
    omega
theorem room_of {c : Cf} (hr : c.room ≤ 128) : room (c.room : Int) = c.room := by
  unfold room
  split <;> (try split) <;> omega
/-- A basic body, up to its length's end. -/
theorem run_head {c : Cf} (dec : List UInt8 → Fr × Nat) {a k n : Nat} (ha8 : a < 256) (ho : okA a = true) (hn : n ≤ c.room) (hr : c.room ≤ 128) (q : St) (out : List Fr) (la : Bool) (hm : q.m = 2) (hg : q.got = []) :
    ∃ lb, run c dec ⟨q, out, la⟩ (UInt8.ofNat a :: UInt8.ofNat k :: (len n).data.toList) = ⟨⟨5, UInt8.ofNat a :: UInt8.ofNat k :: (len n).data.toList, n + 1, q.bad⟩, out, lb⟩ := by
  obtain ⟨h1, h2⟩ := okA_odd ho
  have s1 : step c dec q (UInt8.ofNat a) = (⟨3, [UInt8.ofNat a], q.left, q.bad⟩, none) := by
    unfold step
    rw [hm]
    simp only
    rw [if_neg (fun e => h2 (by have := congrArg UInt8.toNat e; rw [nat_oct a ha8] at this; exact this)), if_neg (by rw [nat_oct a ha8, h1]; decide)]
    simp [more, hg]
  have s2 : step c dec ⟨3, [UInt8.ofNat a], q.left, q.bad⟩ (UInt8.ofNat k) = (⟨4, [UInt8.ofNat a, UInt8.ofNat k], q.left, q.bad⟩, none) := rfl
  by_cases h : n < 128
  · have hl : (len (n : Int)).data.toList = [UInt8.ofNat (2 * n + 1)] := by rw [len_one (by omega) (by omega)]; rfl
    have ht : tk [UInt8.ofNat (2 * n + 1)] = (n, 1, 0) := by
      rw [tk_odd _ _ (by rw [nat_oct _ (by omega)]; omega), nat_oct _ (by omega)]
      congr 1; omega
    have s3 : step c dec ⟨4, [UInt8.ofNat a, UInt8.ofNat k], q.left, q.bad⟩ (UInt8.ofNat (2 * n + 1)) = (⟨5, [UInt8.ofNat a, UInt8.ofNat k, UInt8.ofNat (2 * n + 1)], n + 1, q.bad⟩, none) := by
      show (stepL c _ _, none) = _
      unfold stepL
      have hd : (more ⟨4, [UInt8.ofNat a, UInt8.ofNat k], q.left, q.bad⟩ (UInt8.ofNat (2 * n + 1))).got.drop 2 = [UInt8.ofNat (2 * n + 1)] := rfl
      have e1 : tkE [UInt8.ofNat (2 * n + 1)] = 0 := by unfold tkE; rw [ht]
      have e2 : tkN [UInt8.ofNat (2 * n + 1)] = n := by unfold tkN; rw [ht]
      rw [hd, e1, e2, if_neg (by decide), if_neg (fun h => h.elim (by omega) (fun h => h hl))]
      rfl
    refine ⟨false, ?_⟩
    rw [hl, run_one (r := ⟨q, out, la⟩) s1, run_one (r := ⟨_, out, false⟩) s2, run_one (r := ⟨_, out, false⟩) s3]
    rfl
  · obtain rfl : n = 128 := by omega
    have hl : (len ((128 : Nat) : Int)).data.toList = [0, 1] := by decide
    have s3 : step c dec ⟨4, [UInt8.ofNat a, UInt8.ofNat k], q.left, q.bad⟩ 0 = (⟨4, [UInt8.ofNat a, UInt8.ofNat k, 0], q.left, q.bad⟩, none) := by
      show (stepL c _ _, none) = _
      unfold stepL
      have hd : (more ⟨4, [UInt8.ofNat a, UInt8.ofNat k], q.left, q.bad⟩ 0).got.drop 2 = [0] := rfl
      have e1 : tkE [0] = 20 := by decide
      have e2 : tkN ([0] ++ [1]) = 128 := by decide
      rw [hd, e1, e2, if_pos (by decide), if_neg (by omega)]
      rfl
    have s4 : step c dec ⟨4, [UInt8.ofNat a, UInt8.ofNat k, 0], q.left, q.bad⟩ 1 = (⟨5, [UInt8.ofNat a, UInt8.ofNat k, 0, 1], 129, q.bad⟩, none) := by
      show (stepL c _ _, none) = _
      unfold stepL
      have hd : (more ⟨4, [UInt8.ofNat a, UInt8.ofNat k, 0], q.left, q.bad⟩ 1).got.drop 2 = [0, 1] := rfl
      have e1 : tkE [0, 1] = 0 := by decide
      have e2 : tkN [0, 1] = 128 := by decide
      rw [hd, e1, e2, if_neg (by decide), if_neg (fun h => h.elim (by omega) (fun h => h hl))]
      rfl
    refine ⟨false, ?_⟩
    rw [hl, run_one (r := ⟨q, out, la⟩) s1, run_one (r := ⟨_, out, false⟩) s2, run_one (r := ⟨_, out, false⟩) s3, run_one (r := ⟨_, out, false⟩) s4]
    rfl
/-- A frame that is encoded is told at its last flag, from a beginning on. -/
theorem run_frame {c : Cf} (hr : c.room ≤ 128) (dec : List UInt8 → Fr × Nat) (f : Fr) (h : encX c.adv f c.ini c.room = 0) (hd : dec (innX c.adv f c.ini) = (f, 0)) (q : St) (out : List Fr) (la : Bool) (hq : Ready c q) :
    ∃ q2, Ready c q2 ∧ q2.bad = q.bad ∧ run c dec ⟨q, out, la⟩ (innX c.adv f c.ini ++ [flagB c]) = ⟨q2, out ++ [f], true⟩ := by
  obtain ⟨hm, hg⟩ := hq
  unfold begm at hm
  unfold encX at h
  unfold innX at hd
  unfold innX flagB
  cases ha : c.adv
  · rw [ha] at h hm hd
    have he := e_ok (show f.e c.ini c.room = 0 from h)
    have hn := he.2.2.2
    rw [room_of hr] at hn
    have hl := bd_list (f.a c.ini) f.o (f.x c.ini) f.info
    obtain ⟨lb, h1⟩ := run_head (c := c) dec (k := f.o) (f.a_lt c.ini) he.1 hn hr q out la hm hg
    obtain ⟨lc, h2⟩ := run_rest (c := c) dec (f.info.data.toList ++ [UInt8.ofNat (f.x c.ini)]) ⟨5, UInt8.ofNat (f.a c.ini) :: UInt8.ofNat f.o :: (len f.info.size).data.toList, f.info.size + 1, q.bad⟩ out lb rfl (by rw [List.length_append, size_toList]; rfl) (by simp)
    have hb : (f.body c.ini).data.toList = (UInt8.ofNat (f.a c.ini) :: UInt8.ofNat f.o :: (len f.info.size).data.toList) ++ (f.info.data.toList ++ [UInt8.ofNat (f.x c.ini)]) := by
      rw [show f.body c.ini = bdB (f.a c.ini) f.o (f.x c.ini) f.info from rfl, hl]; simp
    have hd' : dec (f.body c.ini).data.toList = (f, 0) := hd
    have s : step c dec ⟨6, (f.body c.ini).data.toList, 0, q.bad⟩ 249 = (begin c ⟨6, (f.body c.ini).data.toList, 0, q.bad⟩, some f) := by
      show (if (249 : UInt8) ≠ 249 then (spoil c ⟨6, (f.body c.ini).data.toList, 0, q.bad⟩ 249, none) else judge c ⟨6, (f.body c.ini).data.toList, 0, q.bad⟩ (dec (f.body c.ini).data.toList)) = _
      rw [if_neg (fun k => k rfl), hd']
      rfl
    refine ⟨_, ready_begin c ⟨6, (f.body c.ini).data.toList, 0, q.bad⟩, rfl, ?_⟩
    show run c dec ⟨q, out, la⟩ ((f.body c.ini).data.toList ++ [249]) = _
    rw [run_app, hb, run_app, h1, h2]
    rw [hb] at s
    exact run_end (r := ⟨_, out, lc⟩) s
  · rw [ha] at h hm hd
    have hn := (ae_ok (show Fr.ae f c.room = 0 from h)).2.2.2
    rw [room_of hr] at hn
    have hl := inner_len f c.ini
    have hz := st_len (Fr.inner f c.ini).data.toList
    have hle : (st (Fr.inner f c.ini).data.toList).length ≤ most c := by unfold most; omega
    obtain ⟨lb, h1⟩ := run_gather (c := c) dec (st (Fr.inner f c.ini).data.toList) q out la hm (fun x hx => st_no _ x hx) (by rw [hg, List.length_nil]; omega)
    have hd' : dec (st (Fr.inner f c.ini).data.toList) = (f, 0) := hd
    rw [hg, List.nil_append] at h1
    have s : step c dec { q with got := st (Fr.inner f c.ini).data.toList } 126 = (begin c { q with got := st (Fr.inner f c.ini).data.toList }, some f) := by
      unfold step
      have hm' : ({ q with got := st (Fr.inner f c.ini).data.toList } : St).m = 1 := hm
      rw [hm']
      simp only
      rw [if_neg (fun k => k rfl), if_neg (by omega), if_neg (by omega), hd']
      rfl
    refine ⟨_, ready_begin c { q with got := st (Fr.inner f c.ini).data.toList }, rfl, ?_⟩
    show run c dec ⟨q, out, la⟩ (st (Fr.inner f c.ini).data.toList ++ [126]) = _
    rw [run_app, h1]
    exact run_end (r := ⟨_, out, lb⟩) s
/-- A flag where nothing was gathered, or where it is lost, leads to a beginning. -/
theorem step_flag {c : Cf} (dec : List UInt8 → Fr × Nat) (q : St) (h : q.m = 0 ∨ Ready c q) : ∃ q2, step c dec q (flagB c) = (q2, none) ∧ Ready c q2 ∧ q2.bad = q.bad := by
  rcases h with h | ⟨hm, hg⟩
  · refine ⟨begin c q, ?_, ready_begin c q, rfl⟩
    unfold step
    rw [h]
    simp [lost]
  · refine ⟨q, ?_, ⟨hm, hg⟩, rfl⟩
    unfold step begm flagB at *
    cases ha : c.adv
    · rw [ha] at hm
      rw [hm]
      rfl
    · rw [ha] at hm
      rw [hm]
      simp [hg]
/-- .. so, with a flag of its own ahead, also from the start. -/
theorem run_whole {c : Cf} (hr : c.room ≤ 128) (dec : List UInt8 → Fr × Nat) (f : Fr) (h : encX c.adv f c.ini c.room = 0) (hd : dec (innX c.adv f c.ini) = (f, 0)) (q : St) (out : List Fr) (la : Bool) (hq : q.m = 0 ∨ Ready c q) :
    ∃ q2, Ready c q2 ∧ q2.bad = q.bad ∧ run c dec ⟨q, out, la⟩ (bytesX c.adv f c.ini).data.toList = ⟨q2, out ++ [f], true⟩ := by
  obtain ⟨q1, h1, h2, h3⟩ := step_flag (c := c) dec q hq
  obtain ⟨q2, g1, g2, g3⟩ := run_frame hr dec f h hd q1 out false h2
  refine ⟨q2, g1, g2.trans h3, ?_⟩
  rw [bytesX_list, run_one (r := ⟨q, out, la⟩) h1, g3]
/-- What came ends with a flag and what was gathered, but where it is lost, or too much. -/
def Trail (c : Cf) (p : List UInt8) (q : St) : Prop := q.m = 0 ∨ (q.m = 1 ∧ most c < q.got.length) ∨ ∃ pre, p = pre ++ flagB c :: q.got
theorem trail_begin (c : Cf) (p : List UInt8) (q : St) : Trail c (p ++ [flagB c]) (begin c q) := Or.inr (Or.inr ⟨p, rfl⟩)
theorem trail_lost (c : Cf) (p : List UInt8) (q : St) (b : UInt8) (hm : q.m = 0) : Trail c (p ++ [b]) (lost c q b) := by
  unfold lost
  split
  · rename_i h; rw [h]; exact trail_begin c p q
  · exact Or.inl hm
theorem trail_spoil (c : Cf) (p : List UInt8) (q : St) (b : UInt8) : Trail c (p ++ [b]) (spoil c q b) := trail_lost c p _ b rfl
theorem trail_more {c : Cf} {p : List UInt8} {q q2 : St} (b : UInt8) (h : ∃ pre, p = pre ++ flagB c :: q.got) (hq : q2.got = q.got ++ [b]) : Trail c (p ++ [b]) q2 := by
  obtain ⟨pre, h⟩ := h
  refine Or.inr (Or.inr ⟨pre, ?_⟩)
  rw [h, hq]; simp
theorem trail_judge (c : Cf) (p : List UInt8) (q : St) (a : Fr × Nat) : Trail c (p ++ [flagB c]) (judge c q a).1 := by
  unfold judge
  split
  · exact trail_begin c p q
  · exact trail_spoil c p q _
theorem judge_some {c : Cf} {q : St} {a : Fr × Nat} {g : Fr} (h : (judge c q a).2 = some g) : a = (g, 0) := by
  unfold judge at h
  split at h
  · rename_i h0
    injection h with h
    subst h
    exact Prod.ext rfl h0
  · cases h
/-- A frame that a byte tells: the byte is a flag, and what was gathered is that frame. -/
def Tells (c : Cf) (dec : List UInt8 → Fr × Nat) (p : List UInt8) (q : St) (b : UInt8) (g : Fr) : Prop := b = flagB c ∧ (∃ pre, p = pre ++ flagB c :: q.got) ∧ dec q.got = (g, 0)
theorem trail_step {c : Cf} {p : List UInt8} {q : St} (hg : Good c q) (ht : Trail c p q) (dec : List UInt8 → Fr × Nat) (b : UInt8) : Trail c (p ++ [b]) (step c dec q b).1 ∧ ∀ g, (step c dec q b).2 = some g → Tells c dec p q b g := by
  obtain ⟨m, got, left, bad⟩ := q
  match m, hg with
  | 0, _ => exact ⟨trail_lost c p _ b rfl, fun g h => by cases h⟩
  | 1, ⟨_, ha, h1⟩ =>
    have hf : flagB c = 126 := by unfold flagB; rw [ha]; rfl
    simp only [step]
    split
    · refine ⟨?_, fun g h => by cases h⟩
      split
      · rename_i k
        rcases ht with h | ⟨_, h⟩ | h
        · cases h
        · simp only at h; omega
        · exact trail_more b h rfl
      · rename_i k
        exact Or.inr (Or.inl ⟨rfl, by show most c < got.length; omega⟩)
    · rename_i hb
      have hb' : b = 126 := Classical.byContradiction hb
      subst hb'
      split
      · rename_i k
        refine ⟨Or.inr (Or.inr ⟨p, ?_⟩), fun g h => by cases h⟩
        rw [hf, List.eq_nil_of_length_eq_zero k]
      · split
        · exact ⟨trail_spoil c p _ _, fun g h => by cases h⟩
        · rename_i k1 k2
          refine ⟨by have := trail_judge c p ⟨1, got, left, bad⟩ (dec got); rw [hf] at this; exact this, fun g h => ⟨hf.symm, ?_, judge_some h⟩⟩
          rcases ht with h | ⟨_, h⟩ | h
          · cases h
          · exact absurd h k2
          · exact h
  | 2, ⟨_, ha, h1⟩ =>
    have hf : flagB c = 249 := by unfold flagB; rw [ha]; rfl
    have h1' : got = [] := h1
    subst h1'
    have hp : ∃ pre, p = pre ++ flagB c :: [] := by
      rcases ht with h | ⟨h, _⟩ | h
      · cases h
      · cases h
      · exact h
    simp only [step]
    split
    · rename_i hb
      subst hb
      exact ⟨Or.inr (Or.inr ⟨p, by rw [hf]⟩), fun g h => by cases h⟩
    · split
      · exact ⟨trail_spoil c p _ _, fun g h => by cases h⟩
      · exact ⟨trail_more b hp rfl, fun g h => by cases h⟩
  | 3, ⟨_, ha, h1⟩ =>
    have hp : ∃ pre, p = pre ++ flagB c :: got := by
      rcases ht with h | ⟨h, _⟩ | h
      · cases h
      · cases h
      · exact h
    exact ⟨trail_more b hp rfl, fun g h => by cases h⟩
  | 4, ⟨_, ha, h1⟩ =>
    have hp : ∃ pre, p = pre ++ flagB c :: got := by
      rcases ht with h | ⟨h, _⟩ | h
      · cases h
      · cases h
      · exact h
    refine ⟨?_, fun g h => by cases h⟩
    show Trail c (p ++ [b]) (stepL c ⟨4, got, left, bad⟩ b)
    unfold stepL
    split
    · split
      · exact trail_spoil c p _ _
      · exact trail_more b hp rfl
    · split
      · exact trail_spoil c p _ _
      · exact trail_more b hp rfl
  | 5, ⟨_, ha, h1⟩ =>
    have hp : ∃ pre, p = pre ++ flagB c :: got := by
      rcases ht with h | ⟨h, _⟩ | h
      · cases h
      · cases h
      · exact h
    exact ⟨trail_more b hp rfl, fun g h => by cases h⟩
  | 6, ⟨_, ha, h1⟩ =>
    have hf : flagB c = 249 := by unfold flagB; rw [ha]; rfl
    simp only [step]
    split
    · exact ⟨trail_spoil c p _ _, fun g h => by cases h⟩
    · rename_i hb
      have hb' : b = 249 := Classical.byContradiction hb
      subst hb'
      refine ⟨by have := trail_judge c p ⟨6, got, left, bad⟩ (dec got); rw [hf] at this; exact this, fun g h => ⟨hf.symm, ?_, judge_some h⟩⟩
      rcases ht with h | ⟨h, _⟩ | h
      · cases h
      · cases h
      · exact h
/-- How many flags lead to a beginning, at most. -/
def mu (c : Cf) (q : St) : Nat :=
  match q.m with
  | 0 => 1
  | 1 => if q.got.length = 0 then 0 else 1
  | 2 => 0
  | 3 => c.room + 4
  | 4 => if q.got.length = 2 then c.room + 3 else 1
  | 5 => q.left + 1
  | 6 => 1
  | _ => 0
theorem mu_begin (c : Cf) (q : St) : mu c (begin c q) = 0 := by unfold mu begin begm; cases c.adv <;> rfl
theorem mu_spoil (c : Cf) (q : St) : mu c (spoil c q (flagB c)) = 0 := by
  unfold spoil lost
  rw [if_pos rfl]
  exact mu_begin c _
theorem mu_judge (c : Cf) (q : St) (a : Fr × Nat) : mu c (judge c q a).1 = 0 := by
  unfold judge
  split
  · exact mu_begin c q
  · exact mu_spoil c q
theorem mu_le {c : Cf} {q : St} (hg : Good c q) : mu c q ≤ c.room + 4 := by
  obtain ⟨m, got, left, bad⟩ := q
  match m, hg with
  | 0, _ => show 1 ≤ _; omega
  | 1, _ => show (if got.length = 0 then 0 else 1) ≤ _; split <;> omega
  | 2, _ => show 0 ≤ _; omega
  | 3, _ => exact Nat.le_refl _
  | 4, _ => show (if got.length = 2 then c.room + 3 else 1) ≤ _; split <;> omega
  | 5, ⟨_, _, _, h, _⟩ => show left + 1 ≤ _; simp only at h; omega
  | 6, _ => show 1 ≤ _; omega
theorem mu_zero {c : Cf} {q : St} (hg : Good c q) (h : mu c q = 0) : Ready c q := by
  obtain ⟨m, got, left, bad⟩ := q
  match m, hg with
  | 0, _ => exact absurd (show 1 = 0 from h) (by decide)
  | 1, ⟨_, ha, _⟩ =>
    have h' : (if got.length = 0 then 0 else 1) = 0 := h
    split at h'
    · rename_i k
      exact ⟨by show 1 = begm c; unfold begm; rw [ha]; rfl, List.eq_nil_of_length_eq_zero k⟩
    · omega
  | 2, ⟨_, ha, h1⟩ => exact ⟨by show 2 = begm c; unfold begm; rw [ha]; rfl, h1⟩
  | 3, _ => exact absurd (show c.room + 4 = 0 from h) (by omega)
  | 4, _ =>
    have h' : (if got.length = 2 then c.room + 3 else 1) = 0 := h
    split at h' <;> omega
  | 5, _ => exact absurd (show left + 1 = 0 from h) (by omega)
  | 6, _ => exact absurd (show 1 = 0 from h) (by decide)
theorem mu_step {c : Cf} {q : St} (hg : Good c q) (dec : List UInt8 → Fr × Nat) : mu c (step c dec q (flagB c)).1 ≤ mu c q - 1 := by
  have hr := hg.1
  obtain ⟨m, got, left, bad⟩ := q
  match m, hg with
  | 0, _ =>
    show mu c (lost c _ (flagB c)) ≤ _
    unfold lost
    rw [if_pos rfl, mu_begin]; omega
  | 1, ⟨_, ha, h1⟩ =>
    have hf : flagB c = 126 := by unfold flagB; rw [ha]; rfl
    rw [hf]
    simp only [step]
    rw [if_neg (fun k => k rfl)]
    split
    · rename_i k
      show (if got.length = 0 then 0 else 1) ≤ _
      rw [if_pos k]; omega
    · split
      · have := mu_spoil c ⟨1, got, left, bad⟩
        rw [hf] at this
        show mu c (spoil c ⟨1, got, left, bad⟩ 126) ≤ _
        omega
      · rw [mu_judge]; omega
  | 2, ⟨_, ha, h1⟩ =>
    have hf : flagB c = 249 := by unfold flagB; rw [ha]; rfl
    rw [hf]
    simp [step, mu]
  | 3, ⟨_, ha, h1⟩ =>
    have h1' : got.length = 1 := h1
    show (if (got ++ [flagB c]).length = 2 then c.room + 3 else 1) ≤ c.room + 4 - 1
    rw [if_pos (by simp [h1'])]; omega
  | 4, ⟨_, ha, h1⟩ =>
    have hf : flagB c = 249 := by unfold flagB; rw [ha]; rfl
    have hs : mu c (spoil c (more ⟨4, got, left, bad⟩ 249) 249) = 0 := by
      have := mu_spoil c (more ⟨4, got, left, bad⟩ 249)
      rw [hf] at this; exact this
    rw [hf]
    show mu c (stepL c ⟨4, got, left, bad⟩ 249) ≤ _
    rcases h1 with h | ⟨a, x, o, h, ho⟩
    · simp only at h
      match got, h with
      | [a, x], _ =>
        unfold stepL
        have hd : (more ⟨4, [a, x], left, bad⟩ 249).got.drop 2 = [249] := rfl
        have e1 : tkE [249] = 0 := by decide
        have e2 : tkN [249] = 124 := by decide
        rw [hd, e1, e2, if_neg (by decide)]
        split
        · rw [hs]; omega
        · rename_i k
          have : ¬ c.room < 124 := fun h => k (Or.inl h)
          show 124 + 1 + 1 ≤ c.room + 3 - 1
          omega
    · simp only at h
      subst h
      unfold stepL
      have hd : (more ⟨4, [a, x, o], left, bad⟩ 249).got.drop 2 = [o, 249] := rfl
      have e1 : tkE [o, 249] = 0 := by unfold tkE; rw [tk_two o 249 [] ho]
      have e2 : c.room < tkN [o, 249] := by
        unfold tkN
        rw [tk_two o 249 [] ho]
        show c.room < o.toNat / 2 + 128 * 249
        omega
      rw [hd, e1, if_neg (by decide), if_pos (Or.inl e2), hs]; omega
  | 5, ⟨_, ha, h1, h2, h3⟩ =>
    simp only at h1
    show mu c { more ⟨5, got, left, bad⟩ (flagB c) with left := left - 1, m := if left - 1 = 0 then 6 else 5 } ≤ left + 1 - 1
    by_cases h0 : left - 1 = 0
    · rw [if_pos h0]; show 1 ≤ _; omega
    · rw [if_neg h0]; show left - 1 + 1 ≤ _; omega
  | 6, ⟨_, ha, h1⟩ =>
    have hf : flagB c = 249 := by unfold flagB; rw [ha]; rfl
    rw [hf]
    simp only [step]
    rw [if_neg (fun k => k rfl), mu_judge]; omega
end Go.Proofs.YthlciaomfpephaaDoor.Df
