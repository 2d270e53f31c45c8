/-
  What layer 7's All answers: all messages that octets are, in new memory. Condition: at most 5000 octets.
-/
import Derived.Test.YtlmfnjdbknfkjaaTlvGet
import Derived.Test.YtlmfnjdbknfkjaaOwnS
namespace Go.Proofs.Ytlmfnjdbknfkjaa.Tlv
open Go.RowKit Go.Proofs.Ytlmfnjdbknfkjaa.Base Go.Proofs.Ytlmfnjdbknfkjaa.Ea Go.Proofs.Ytlmfnjdbknfkjaa.Mem
/-- A message's cells. -/
def ic (x : It) : List Value := [.int .u8 (x.k : Int), .bool x.c, .string x.v]
theorem eltI : Elt 32 30 3 ic where
  under := Try.underlying30
  info := ⟨.agg #[.int .u8 0, .bool false, .string ⟨#[]⟩], 24, by kernel_rfl, rfl, by decide⟩
  len := fun _ => rfl
  one := fun x u hu => by
    simp only [ic, List.mem_cons, List.not_mem_nil, or_false] at hu
    rcases hu with rfl | rfl | rfl <;> rfl
  pos := by decide
/-- Three cells that were just laid. -/
theorem row3 (w : World) (x : It) (t : TypeId) : ∀ j, j < 3 → (w.alloc (.cells #[.int .u8 (x.k : Int), .bool x.c, .string x.v] t)).cell? ⟨w.heap.size, j, none⟩ = (ic x)[j]? := fun j hj => by
  rw [cell_new]
  match j, hj with
  | 0, _ => rfl
  | 1, _ => rfl
  | 2, _ => rfl
theorem row3n (w : World) (x : It) (t n : Nat) (hn : w.heap.size = n) : ∀ j, j < 3 → (w.alloc (.cells #[.int .u8 (x.k : Int), .bool x.c, .string x.v] t)).cell? ⟨n, j, none⟩ = (ic x)[j]? := by
  subst hn; exact row3 w x t
/-- What a round of All's loop begins with. -/
structure AllAt (E : Nat) (s : ByteArray) (w : World) (v : Value) (at_ : Nat) (wr : World) (acc : List It) : Prop where
  left : Left s at_ acc
  own : OwnS E 3 ic wr w.heap.size v acc
  base : Below w.heap.size w wr
  few : acc.length ≤ at_
/-- What a call of All leaves. -/
def AllEnds (E : Nat) (s : ByteArray) (w : World) (e : Ending) (w' : World) : Prop :=
  ∃ v, e = .returned (.tuple #[v, .int .i64 ((all s).2.1 : Int), .int .i64 ((all s).2.2 : Int)]) ∧ OwnS E 3 ic w' w.heap.size v (all s).1 ∧ Below w.heap.size w w'
set_option maxHeartbeats 400000 in
theorem fall (s : ByteArray) (hs : s.size ≤ 5000) (w : World) :
    Calls Try.prog 11 #[.string s] w (AllEnds 32 s w) := by
  go_enter Try.func11, Try.ntmps11
  go_wp2
  go_loopw [5, 6] (fun v i wr => ∃ (k : Nat) (acc : List It), k ≤ s.size ∧ i = .int .i64 (k : Int) ∧ Hid (AllAt 32 s w v k wr acc)) (fun _ i _ => s.size - (intOf i).toNat)
  case atStart => exact ⟨0, [], Nat.zero_le _, rfl, Lib.hid ⟨left_start s, ownS_nil _ _, Below.refl _ _, Nat.le_refl _⟩⟩
  case round =>
    obtain ⟨k, acc, hk, rfl, HR⟩ := hrel
    by_cases hlt : k < s.size
    · obtain ⟨t, ht⟩ : ∃ t, s.extract k s.size = t := ⟨_, rfl⟩
      have hts : t.size ≤ 281474976710656 := by rw [← ht, ext_size]; omega
      have CG := Lib.hid (fun w => fget t hts w)
      have HL := Lib.hid (left_step HR.out.left hlt)
      have HN := Lib.hid (left_bad HR.out.left hlt)
      rw [ht] at HL HN
      rcases hg : got t with ⟨gk, gc, gv, gn, ge⟩
      rw [hg] at CG HL HN
      simp only [gotV] at CG HL HN
      clear hg
      by_cases he : ge = 0
      · subst he
        obtain ⟨hL, h2, h3⟩ := HL.out rfl
        have HL2 := Lib.hid hL
        clear hL
        go_wp2_with (first
          | (go_at_call 10; ((with_reducible refine (CG.out _).mono ?_); rintro e w1 ⟨rfl, hb⟩; have HB := Lib.hid hb; have HO := Lib.hid (HR.out.own.below hb); have HW := Lib.hid (below_on HR.out.base hb); clear hb))
          | (at_builtin; refine wpList_append_elt eltI _ rfl _ _ rfl w.heap.size _ rfl acc (HO.out.alloc _) _ _ rfl ⟨gk, gc, gv⟩ (row3 w1 ⟨gk, gc, gv⟩ 32) (by have := HR.out.few; omega) (by have := HW.out.size; simp; omega) ?_; intro v' w2 ho hg _; have HO2 := Lib.hid ho; have HW2 := Lib.hid ((HW.out.alloc HW.out.size (.cells #[.int .u8 (gk : Int), .bool gc, .string gv] 32)).grown hg (by have := HW.out.size; simp; omega) (fun k hk => (HO.out.lt k hk).1)); clear ho hg))
        go_roundw
        case rel => exact ⟨k + gn, _, h3, by go_num, Lib.hid ⟨HL2.out, HO2.out, HW2.out, by have := HR.out.few; simp; omega⟩⟩
        case measure => simp [intOf]; omega
      · have hne : ((ge : Int) != 0) = true := bne_true (by omega)
        have HN2 := Lib.hid (HN.out he)
        clear he
        go_wp2_with (go_at_call 10; ((with_reducible refine (CG.out _).mono ?_); rintro e w1 ⟨rfl, hb⟩; have HW := Lib.hid (below_on HR.out.base hb); clear hb))
        go_ret3
        exact ⟨_, by rw [HN2.out]; rfl, by rw [HN2.out]; exact ownS_nil _ _, HW.out⟩
    · have HD := Lib.hid (left_done HR.out.left hlt)
      go_wp2
      go_ret3
      exact ⟨_, by rw [HD.out]; rfl, by rw [HD.out]; exact HR.out.own, HR.out.base⟩
end Go.Proofs.Ytlmfnjdbknfkjaa.Tlv
