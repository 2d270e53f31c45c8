/-
  encoded of layer 6's laws: a frame's bytes by an option. Condition: the tables of layers 1 and 3 lie where the program lays them.
-/
import Derived.Test.YthlciaomfpephaaDoorBasicEnc
import Derived.Test.YthlciaomfpephaaDoorAdvEnc
namespace Go.Proofs.YthlciaomfpephaaDoor.Df
open Go.RowKit Go.Proofs.YthlciaomfpephaaDoor.Base Go.Proofs.YthlciaomfpephaaDoor.Ea Go.Proofs.YthlciaomfpephaaDoor.Field Go.Proofs.YthlciaomfpephaaDoor.Basic Go.Proofs.YthlciaomfpephaaDoor.Adv
/-- What is wrong with a frame (0, if nothing is), and its bytes, by an option. -/
def encX (adv : Bool) (f : Fr) (ini : Bool) (n1 : Int) : Nat := if adv then Fr.ae f n1 else f.e ini n1
def bytesX (adv : Bool) (f : Fr) (ini : Bool) : ByteArray := if adv then Fr.adv f ini else f.bytes ini
abbrev rowV (adv ini : Bool) (n1 : Int) : Value := .agg #[.bool adv, .bool ini, .int .i64 n1]
theorem bytes_long (f : Fr) (ini : Bool) : 2 < (f.bytes ini).size := by
  unfold Fr.bytes
  rw [ByteArray.size_append, ByteArray.size_append]
  have h := bd_size (f.a ini) f.o (f.x ini) f.info
  have : (f.body ini).size = 2 + (len f.info.size).size + f.info.size + 1 := h
  show 2 < 1 + _ + 1
  omega
theorem adv_long (f : Fr) (ini : Bool) : 2 < (Fr.adv f ini).size := by
  unfold Fr.adv
  rw [ByteArray.size_append, ByteArray.size_append]
  have h1 := inn_size (f.a ini) f.o (Fr.y f ini) f.info
  have h2 := (stB_size (Fr.inner f ini)).1
  have h3 : (Fr.inner f ini).size = f.info.size + 3 := h1
  show 2 < 1 + _ + 1
  omega
theorem bytesX_long (adv : Bool) (f : Fr) (ini : Bool) : 2 < (bytesX adv f ini).size := by
  unfold bytesX
  cases adv
  · exact bytes_long f ini
  · exact adv_long f ini
def EncNoB (f : Fr) (ini : Bool) (n1 r : Int) : Prop := ∀ w, Tabs w → Calls Tryd.prog 16 #[fv f, .bool ini, .int .i64 n1] w fun e w' => e = .returned (.tuple #[.string ⟨#[]⟩, .int .i64 r]) ∧ Below w.heap.size w w'
def EncOkB (f : Fr) (ini : Bool) (n1 : Int) (t : ByteArray) : Prop := ∀ w, Tabs w → Calls Tryd.prog 16 #[fv f, .bool ini, .int .i64 n1] w fun e w' => e = .returned (.tuple #[.string t, .int .i64 0]) ∧ Below w.heap.size w w'
def EncNoA (f : Fr) (ini : Bool) (n1 r : Int) : Prop := ∀ w, Tabs w → Calls Tryd.prog 15 #[fv f, .bool ini, .int .i64 n1] w fun e w' => e = .returned (.tuple #[.string ⟨#[]⟩, .int .i64 r]) ∧ Below w.heap.size w w'
def EncOkA (f : Fr) (ini : Bool) (n1 : Int) (t : ByteArray) : Prop := ∀ w, Tabs w → Calls Tryd.prog 15 #[fv f, .bool ini, .int .i64 n1] w fun e w' => e = .returned (.tuple #[.string t, .int .i64 0]) ∧ Below w.heap.size w w'
theorem at_EncNoB {f : Fr} {ini : Bool} {n1 r : Int} (h : EncNoB f ini n1 r) (w : World) (ht : Tabs w) : Calls Tryd.prog 16 #[fv f, .bool ini, .int .i64 n1] w fun e w' => e = .returned (.tuple #[.string ⟨#[]⟩, .int .i64 r]) ∧ Below w.heap.size w w' := h w ht
theorem at_EncOkB {f : Fr} {ini : Bool} {n1 : Int} {t : ByteArray} (h : EncOkB f ini n1 t) (w : World) (ht : Tabs w) : Calls Tryd.prog 16 #[fv f, .bool ini, .int .i64 n1] w fun e w' => e = .returned (.tuple #[.string t, .int .i64 0]) ∧ Below w.heap.size w w' := h w ht
theorem at_EncNoA {f : Fr} {ini : Bool} {n1 r : Int} (h : EncNoA f ini n1 r) (w : World) (ht : Tabs w) : Calls Tryd.prog 15 #[fv f, .bool ini, .int .i64 n1] w fun e w' => e = .returned (.tuple #[.string ⟨#[]⟩, .int .i64 r]) ∧ Below w.heap.size w w' := h w ht
theorem at_EncOkA {f : Fr} {ini : Bool} {n1 : Int} {t : ByteArray} (h : EncOkA f ini n1 t) (w : World) (ht : Tabs w) : Calls Tryd.prog 15 #[fv f, .bool ini, .int .i64 n1] w fun e w' => e = .returned (.tuple #[.string t, .int .i64 0]) ∧ Below w.heap.size w w' := h w ht
theorem ret_sb {a b : ByteArray} {x y : Bool} (h : a = b) (h1 : x = y) : Ending.returned (.tuple #[.string a, .bool x]) = .returned (.tuple #[.string b, .bool y]) := by rw [h, h1]
theorem on2 {w a : World} {o p : Obj} (hb : Below ((w.alloc o).alloc p).heap.size ((w.alloc o).alloc p) a) : Below w.heap.size w a := two_on (Below.refl _ _) hb
theorem tabs2 {w : World} (o p : Obj) (h : Tabs w) : Tabs ((w.alloc o).alloc p) := tabs_below h (below_on' ((Below.refl _ _).alloc (Nat.le_refl _) o) ((Below.refl _ _).alloc (Nat.le_refl _) p))
set_option maxHeartbeats 1000000 in
theorem fencoded_Bok (f : Fr) (ini : Bool) (n1 : Int) (w : World) (ht : Tabs w) (t : ByteArray) (hx : EncOkB f ini n1 t) (hz : 2 < t.size) :
    Calls Tryd.prog 8 #[rowV false ini n1, fv f] w fun e w' => e = .returned (.tuple #[.string t, .bool true]) ∧ Below w.heap.size w w' := by
  have HT := Lib.hid ht
  have HX := Lib.hid hx
  have z0 : decide ((t.size : Int) > 2) = true := by simp; omega
  have z1 : (2 : Int) < (t.size : Int) := by omega
  clear ht hx hz
  go_enter Tryd.func8, Tryd.ntmps8
  go_wp2_with (first
    | (go_at_call 16; ((with_reducible refine (at_EncOkB HX.out _ ?_).mono ?_); (· exact tabs2 _ _ HT.out); rintro e w1 ⟨rfl, hb⟩; have HB := Lib.hid (on2 hb); clear hb)))
  go_ret2
  exact ⟨rfl, HB.out⟩
set_option maxHeartbeats 1000000 in
theorem fencoded_Bno (f : Fr) (ini : Bool) (n1 : Int) (w : World) (ht : Tabs w) (r : Int) (hr : r ≠ 0) (hx : EncNoB f ini n1 r) :
    Calls Tryd.prog 8 #[rowV false ini n1, fv f] w fun e w' => e = .returned (.tuple #[.string ⟨#[]⟩, .bool false]) ∧ Below w.heap.size w w' := by
  have HT := Lib.hid ht
  have HX := Lib.hid hx
  have z0 : (r == 0) = false := by rw [beq_eq_false_iff_ne]; exact hr
  clear ht hx hr
  go_enter Tryd.func8, Tryd.ntmps8
  go_wp2_with (first
    | (go_at_call 16; ((with_reducible refine (at_EncNoB HX.out _ ?_).mono ?_); (· exact tabs2 _ _ HT.out); rintro e w1 ⟨rfl, hb⟩; have HB := Lib.hid (on2 hb); clear hb)))
  go_ret2
  exact ⟨rfl, HB.out⟩
set_option maxHeartbeats 1000000 in
theorem fencoded_Aok (f : Fr) (ini : Bool) (n1 : Int) (w : World) (ht : Tabs w) (t : ByteArray) (hx : EncOkA f ini n1 t) (hz : 2 < t.size) :
    Calls Tryd.prog 8 #[rowV true ini n1, fv f] w fun e w' => e = .returned (.tuple #[.string t, .bool true]) ∧ Below w.heap.size w w' := by
  have HT := Lib.hid ht
  have HX := Lib.hid hx
  have z0 : decide ((t.size : Int) > 2) = true := by simp; omega
  have z1 : (2 : Int) < (t.size : Int) := by omega
  clear ht hx hz
  go_enter Tryd.func8, Tryd.ntmps8
  go_wp2_with (first
    | (go_at_call 15; ((with_reducible refine (at_EncOkA HX.out _ ?_).mono ?_); (· exact tabs2 _ _ HT.out); rintro e w1 ⟨rfl, hb⟩; have HB := Lib.hid (on2 hb); clear hb)))
  go_ret2
  exact ⟨rfl, HB.out⟩
set_option maxHeartbeats 1000000 in
theorem fencoded_Ano (f : Fr) (ini : Bool) (n1 : Int) (w : World) (ht : Tabs w) (r : Int) (hr : r ≠ 0) (hx : EncNoA f ini n1 r) :
    Calls Tryd.prog 8 #[rowV true ini n1, fv f] w fun e w' => e = .returned (.tuple #[.string ⟨#[]⟩, .bool false]) ∧ Below w.heap.size w w' := by
  have HT := Lib.hid ht
  have HX := Lib.hid hx
  have z0 : (r == 0) = false := by rw [beq_eq_false_iff_ne]; exact hr
  clear ht hx hr
  go_enter Tryd.func8, Tryd.ntmps8
  go_wp2_with (first
    | (go_at_call 15; ((with_reducible refine (at_EncNoA HX.out _ ?_).mono ?_); (· exact tabs2 _ _ HT.out); rintro e w1 ⟨rfl, hb⟩; have HB := Lib.hid (on2 hb); clear hb)))
  go_ret2
  exact ⟨rfl, HB.out⟩
/-- encoded answers a frame's bytes, .. -/
theorem fencoded_yes (adv : Bool) (f : Fr) (hf : f.In) (hl : f.info.size ≤ maxLen) (ini : Bool) (n1 : Int) (w : World) (ht : Tabs w) (h : encX adv f ini n1 = 0) :
    Calls Tryd.prog 8 #[rowV adv ini n1, fv f] w fun e w' => e = .returned (.tuple #[.string (bytesX adv f ini), .bool true]) ∧ Below w.heap.size w w' := by
  cases adv
  · exact fencoded_Bok f ini n1 w ht _ (fun w ht => Basic.fenc_ok f hf ini n1 w ht.1 ht.2 hl h) (bytes_long f ini)
  · exact fencoded_Aok f ini n1 w ht _ (fun w ht => Adv.fenc_yes f hf ini n1 w ht h) (adv_long f ini)
/-- .. or that there are none. -/
theorem fencoded_not (adv : Bool) (f : Fr) (hf : f.In) (hl : f.info.size ≤ maxLen) (ini : Bool) (n1 : Int) (w : World) (ht : Tabs w) (h : encX adv f ini n1 ≠ 0) :
    Calls Tryd.prog 8 #[rowV adv ini n1, fv f] w fun e w' => e = .returned (.tuple #[.string ⟨#[]⟩, .bool false]) ∧ Below w.heap.size w w' := by
  cases adv
  · have h' : f.e ini n1 ≠ 0 := h
    exact fencoded_Bno f ini n1 w ht (f.e ini n1 : Int) (by omega) (fun w ht => Basic.fenc_no f hf ini n1 w ht.1 hl h')
  · have h' : Fr.ae f n1 ≠ 0 := h
    exact fencoded_Ano f ini n1 w ht (Fr.ae f n1 : Int) (by omega) (fun w ht => Adv.fenc_no f hf ini n1 w ht h')
end Go.Proofs.YthlciaomfpephaaDoor.Df
