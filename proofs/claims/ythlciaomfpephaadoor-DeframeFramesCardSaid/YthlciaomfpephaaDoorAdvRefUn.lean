/-
  What the document's own Stuff and Unstuff of layer 5 answer. Condition: at most 100000 octets.
-/
import Derived.Test.YthlciaomfpephaaDoorAdvUn
namespace Go.Proofs.YthlciaomfpephaaDoor.Adv
open Go.RowKit Go.Proofs.YthlciaomfpephaaDoor.Base Go.Proofs.YthlciaomfpephaaDoor.Ea Go.Proofs.YthlciaomfpephaaDoor.Field Go.Proofs.YthlciaomfpephaaDoor.Basic
theorem ext_one (s : ByteArray) (k : Nat) (h : k < s.size) : (s.extract k (k + 1)).data.toList = [s[k]] ∧ (s.extract k (k + 1)).size = 1 := by
  have e : (s.extract k (k + 1)).data.toList = [s[k]] := by
    rw [ext_list, List.drop_take, drop_at s k h, show k + 1 - k = 1 by omega]; rfl
  refine ⟨e, ?_⟩
  rw [← size_toList, e]; rfl
theorem getD_at (s : ByteArray) (k : Nat) (h : k < s.size) : s.data.toList.getD k 0 = s[k] := by
  have := get_list s k h
  simp [List.getD, ← this]
theorem st_bytes (s : ByteArray) (k : Nat) (h : k < s.size) : st (s.data.toList.take (k + 1)) = st (s.data.toList.take k) ++ st1 s[k] := by
  rw [st_take s.data.toList k (by rw [size_toList]; exact h), getD_at s k h]
theorem ret_stB {s o : ByteArray} (h : o.data.toList = st s.data.toList) : Ending.returned (.string o) = .returned (.string (stB s)) := ret_str (bext (by rw [h, stB_list]))
end Go.Proofs.YthlciaomfpephaaDoor.Adv
