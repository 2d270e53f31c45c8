/-
  Messages in a slice, one by one: an element is loaded, and stored over. No condition.
-/
import Derived.Test.YtffahjlboakakaaDoorMsgsAll
import Derived.OneCell
namespace Go.Proofs.YtffahjlboakakaaDoor.Msgs
open Go.RowKit Go.Proofs.YtffahjlboakakaaDoor.Base Go.Proofs.YtffahjlboakakaaDoor.Mem
set_option maxRecDepth 20000
theorem mod_setCells (b : Nat) : ∀ (vs : List Value) (o : Nat) (w : World), Mod b w (w.setCells b o vs)
  | [], _, w => Mod.refl b w
  | v :: r, o, w => (mod_setCell b o w v).trans (mod_setCells b r (o + 1) _)
/-- Values laid over others, from a place on. -/
def overL : List Value → Nat → List Value → List Value
  | L, _, [] => L
  | L, o, v :: r => overL (L.set o v) (o + 1) r
theorem own_cells {E z n cap g base : Nat} : ∀ (vs : List Value) (o : Nat) (w : World) (L : List Value), w.ownsRow base E z (.slice (some ⟨g, 0, none⟩) n cap) n L → (w.setCells g o vs).ownsRow base E z (.slice (some ⟨g, 0, none⟩) n cap) n (overL L o vs)
  | [], _, _, _, h => h
  | v :: r, o, _, _, h => own_cells r (o + 1) _ _ (h.stored o v).1
theorem overL_mid : ∀ (vs A P B : List Value), A.length = vs.length → overL (P ++ (A ++ B)) P.length vs = P ++ (vs ++ B)
  | [], A, P, B, h => by
    obtain rfl : A = [] := List.eq_nil_of_length_eq_zero h
    rfl
  | v :: r, A, P, B, h => by
    match A, h with
    | a :: A', h =>
      have ih := overL_mid r A' (P ++ [v]) B (by simpa using h)
      rw [List.length_append, List.append_assoc, List.append_assoc] at ih
      show overL ((P ++ (a :: (A' ++ B))).set P.length v) (P.length + 1) r = P ++ (v :: (r ++ B))
      rw [List.set_append_right _ _ (Nat.le_refl _), Nat.sub_self, List.set_cons_zero]
      exact ih
theorem flat20 (l : List Ms) (k : Nat) (hk : k < l.length) (y : Ms) : overL (l.flatMap ml) (20 * k) (ml y) = (l.set k y).flatMap ml := by
  have hl : l = l.take k ++ l[k] :: l.drop (k + 1) := by rw [List.getElem_cons_drop, List.take_append_drop]
  have hp : ((l.take k).flatMap ml).length = 20 * k := by
    rw [flat_len ml_len, List.length_take, Nat.min_eq_left (by omega)]
  rw [List.set_eq_take_append_cons_drop, if_pos hk, List.flatMap_append, List.flatMap_cons]
  conv => lhs; arg 1; rw [hl, List.flatMap_append, List.flatMap_cons]
  rw [← hp]
  exact overL_mid (ml y) (ml l[k]) _ _ rfl
theorem own_put {E g n cap base : Nat} {w : World} {l : List Ms} (h : OwnS E 20 ml w base (.slice (some ⟨g, 0, none⟩) n cap) l) (k : Nat) (hk : k < l.length) (y : Ms) :
    OwnS E 20 ml (w.setCells g (k * 20) (ml y)) base (.slice (some ⟨g, 0, none⟩) n cap) (l.set k y) := by
  have hn := h.num
  subst hn
  unfold OwnS at *
  rw [List.length_set, ← flat20 l k hk y, Nat.mul_comm k 20]
  exact own_cells _ _ _ _ h
theorem own_range {E g n cap base : Nat} {w : World} {l : List Ms} (h : OwnS E 20 ml w base (.slice (some ⟨g, 0, none⟩) n cap) l) (k : Nat) (m : Ms) (hk : l[k]? = some m) : w.rangeAt g (k * 20) (ml m) := fun j v hv => by
  have hj : j < 20 := (List.getElem?_eq_some_iff.1 hv).1
  have := h.cell ml_len k m hk j hj
  rw [Nat.mul_comm 20 k] at this
  exact this.trans hv
theorem ml_arr (m : Ms) : (ml m).toArray = mc m := by unfold ml; simp
section
variable {ops : Array Oper} {rest : List Oper} {a : Act} {Q : Exit → Act → World → Prop} {d : Option Tmp} {x y : Operand} {ty : TypeId} {pos : String} {af : Array Edge} {w : World} {m : Ms} {T : Nat}
theorem ex_ldr {g : Option (Nat × Bool)} {b o : Nat} {ρ : Operand → Value} (hT : IsRow T 20) (h : w.rangeAt b o (ml m)) (hx : ρ x = .pointer (some ⟨b, o, none⟩)) :
    (execOp ρ { dst := d, op := .load T x, type := ty, pos := pos, after := af, guard := g }).run Tryd.prog w = .ok (.value (mv m)) w := by
  obtain ⟨fs, hu⟩ := hT.under
  unfold execOp
  simp only [hx, Sem.run_bind, run_loadAt_mid w b o T (ml m) _ h hu rfl hT.size, Sem.run_pure, Result.andThen_ok, ml_arr]
theorem ldr {b o : Nat} (hT : IsRow T 20) (h : w.rangeAt b o (ml m)) (hx : a.eval x = .pointer (some ⟨b, o, none⟩)) (k : wpList Tryd.prog ops Q rest (a.put d (mv m)) w) :
    wpList Tryd.prog ops Q ({ dst := d, op := .load T x, type := ty, pos := pos, after := af, guard := none } :: rest) a w := by
  obtain ⟨fs, hu⟩ := hT.under
  exact wpList_load_mid rfl T x rfl b o hx (ml m) _ h hu rfl hT.size (by rw [ml_arr]; exact k)
theorem sto {E g n cap base i : Nat} {l : List Ms} (hT : IsRow T 20) (h : OwnS E 20 ml w base (.slice (some ⟨g, 0, none⟩) n cap) l) (hi : i < l.length) (hx : a.eval x = .pointer (some ⟨g, i * 20, none⟩)) (hy : a.eval y = mv m)
    (k : ∀ w', OwnS E 20 ml w' base (.slice (some ⟨g, 0, none⟩) n cap) (l.set i m) → Mod g w w' → wpList Tryd.prog ops Q rest (a.put d undef) w') :
    wpList Tryd.prog ops Q ({ dst := d, op := .store T x y, type := ty, pos := pos, after := af, guard := none } :: rest) a w := by
  have hr := own_range h i _ (List.getElem?_eq_getElem hi)
  exact wpList_store_mid rfl T x y rfl g (i * 20) (mc m) hx hy (fun j hj => ⟨hr.isSome j hj, h.free _⟩) hT.size (one_all m) (k _ (own_put h i hi m) (mod_setCells _ _ _ _))
end
theorem own_slice {E base : Nat} {w : World} {v : Value} {l : List Ms} (h : OwnS E 20 ml w base v l) : ∃ a cap, v = .slice a l.length cap := by
  rcases h.shape with ⟨h1, rfl⟩ | ⟨g, cap, h1, _⟩
  · exact ⟨none, 0, h1⟩
  · exact ⟨_, _, h1⟩
theorem own_some {E base n cap : Nat} {w : World} {a : Option Addr} {l : List Ms} (h : OwnS E 20 ml w base (.slice a n cap) l) (h0 : 0 < l.length) : ∃ g, a = some ⟨g, 0, none⟩ ∧ base ≤ g := by
  rcases h.shape with ⟨_, rfl⟩ | ⟨g, cap', h1, h2⟩
  · exact absurd h0 (by decide)
  · injection h1 with h1
    exact ⟨g, h1, h2⟩
end Go.Proofs.YtffahjlboakakaaDoor.Msgs
