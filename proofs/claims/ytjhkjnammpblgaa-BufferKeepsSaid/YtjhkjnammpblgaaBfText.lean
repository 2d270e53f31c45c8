/-
  What the program's text answers. Condition: the bytes lie in a block that was made ahead.
-/
import Derived.Test.YtjhkjnammpblgaaBfSmall
import Derived.Test.YtjhkjnammpblgaaBldText
import Derived.Deep.QuietTactic
import Derived.BigQuiet
namespace Go.Proofs.Ytjhkjnammpblgaa.Bf
open Go.RowKit Go.Proofs.Ytjhkjnammpblgaa.Base Go.Proofs.Ytjhkjnammpblgaa.Mem Go.Proofs.Ytjhkjnammpblgaa.Cr
theorem vals_one (s : ByteArray) : ∀ u ∈ vals s, u.oneCell' = true := fun u hu => by
  obtain ⟨x, _, rfl⟩ := List.mem_map.1 hu; rfl
theorem add_at (b o j : Nat) : (⟨b, o, none⟩ : Addr).add j = ⟨b, o + j, none⟩ := by unfold Addr.add; split <;> simp_all
theorem cells_at {w : World} {b o : Nat} {cs : Array Value} {t : TypeId} {l : List Value} (h : At w b cs t) (hl : ∀ j u, l[j]? = some u → cs[o + j]? = some u) : ∀ j u, l[j]? = some u → w.cell? ((⟨b, o, none⟩ : Addr).add j) = some u := by
  intro j u hj
  rw [add_at]
  exact h.cell _ u (hl j u hj)
theorem ftext (w : World) (ob n : Nat) (u : ByteArray) (hn : u.size = n) (hc : ∀ j x, (vals u)[j]? = some x → w.cell? ((⟨ob, 0, none⟩ : Addr).add j) = some x) (hlt : ob < w.heap.size) (hm : n ≤ 4096) :
    Calls Try.prog 21 #[.slice (some ⟨ob, 0, none⟩) n n] w fun e w' => e = .returned (.string u) ∧ Below w.heap.size w w' := by
  have H := Lib.hid (And.intro hn (And.intro hc (And.intro hlt hm)))
  clear hn hc hlt hm
  go_enter Try.func21, Try.ntmps21
  go_wp2_with fail
  have BL0 : Hid (Below w.heap.size w (w.alloc (.cells #[.pointer none, .slice none 0 0] 50 (0, 0)))) := Lib.hid ((Below.refl _ _).alloc (Nat.le_refl _) _)
  refine (Try.bWrite w.heap.size w.heap.size [] ⟨ob, 0, none⟩ n n (vals u) _ (.inl ⟨Nat.le_refl _, .slice none 0 0, nest w [_] 0 _ rfl, World.ownsRow_nil _ _ _ _, by simp [Value.ownBlock]⟩) (by rw [vals_len]; exact H.out.1)
    (fun j x hx => ((BL0.out.cell (p := (⟨ob, 0, none⟩ : Addr).add j) (by rw [add_at]; exact H.out.2.2.1)).trans (H.out.2.1 j x hx))) H.out.2.2.1 (vals_one u) (by have := H.out.2.2.2; simp; omega) BL0.out.size).mono ?_
  rintro _ w1 ⟨rfl, hb, hl⟩
  have HB := Lib.hid hb
  have BL1 : Hid (Below w.heap.size w w1) := Lib.hid (BL0.out.trans hl)
  clear hb hl BL0
  go_wp2_with fail
  refine (Try.bString w.heap.size w.heap.size u.data.toList w1 (.inr HB.out) BL1.out.size).mono ?_
  rintro _ w2 ⟨rfl, hl⟩
  have BL2 : Hid (Below w.heap.size w w2) := Lib.hid (BL1.out.trans hl)
  clear hl HB BL1
  go_wp2
  go_ret
  exact ⟨rfl, BL2.out⟩
end Go.Proofs.Ytjhkjnammpblgaa.Bf
