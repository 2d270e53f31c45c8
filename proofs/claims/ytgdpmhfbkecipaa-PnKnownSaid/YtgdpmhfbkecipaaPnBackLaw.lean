/-
  PnBack answers true for everything, and turns nothing that was there. No condition.
-/
import Derived.Test.YtgdpmhfbkecipaaPnBackWay
namespace Go.Proofs.Ytgdpmhfbkecipaa.pnBack
open Go.RowKit Go.Proofs.Ytgdpmhfbkecipaa.Base Go.Proofs.Ytgdpmhfbkecipaa.Mem Go.Proofs.Ytgdpmhfbkecipaa.Pn
theorem law (o : Pr) (_ : o.In) (a : Pr) (ha : a.In) (v : ByteArray) (hv : v.size ≤ maxLen) (w : World) :
    Calls Try.prog 5 #[pv o, pv a, .string v] w fun e w' => e = .returned (.bool true) ∧ Below w.heap.size w w' := by
  unfold maxLen at hv
  by_cases h : 100 < v.size
  · clear ha
    go_enter Try.func5, Try.ntmps5
    go_wp2_with (go_at_call 7; ((with_reducible refine (works _).mono ?_); rintro e w1 ⟨rfl, hb⟩; have HB1 := Lib.hid ((two_new w o a).next hb).b; clear hb))
    go_ret
    exact ⟨rfl, HB1.out⟩
  · refine way o a (gotP (putS a)) (gotP v) (agree o a) (agree a o) v (putS a) (putS (gotP v)) (putE a) (gotE (putS a)) (gotE v) (putE (gotP v)) (may o) (may a) (may (agree o a)) h w
      (fput a ha) (fget _) (fget _) (fput _ (gotP_in v)) (fmay a) (fmay o) (fmay _) (fagree o a) (fagree a o)
      (fun w => by have := fagree o (agree o a) w; rw [agree_again] at this; exact this)
      (fun w => by have := fagree a (agree o a) w; rw [agree_asked] at this; exact this)
      (fun w => by have := flowers (agree o a) a w; rw [lowers_of_agree] at this; exact this)
      ?_ ?_ ?_ ?_ ?_ ?_ ?_
    · unfold putS putE
      cases hm : may a
      · exact .inr ⟨rfl, rfl, rfl⟩
      · obtain ⟨e1, e2⟩ := got_octets a ha hm
        exact .inl ⟨rfl, rfl, e2, e1⟩
    · unfold putS putE
      rcases got_back v with ⟨e1, e2, e3⟩ | ⟨e1, e2⟩
      · rw [e2]
        exact .inl ⟨e1, rfl, e3⟩
      · exact .inr ⟨e1, e2⟩
    · show min o.n a.n = min a.n o.n
      omega
    · show min o.k a.k = min a.k o.k
      omega
    · show min o.n a.n ≤ o.n
      omega
    · show min o.k a.k ≤ o.k
      omega
    · exact agree_may
end Go.Proofs.Ytgdpmhfbkecipaa.pnBack
