/-
  Layer 22, put together: EaCalls, TlvPut, PnSmall, PnRef, PnPut, MscOctet, MscBits, MscSmall, MscPut (what each says stands ahead of it). Conditions: as each names them.
-/
import Derived.Test.YtakkhdammmcjcaaDoorChecked
import Derived.Test.YtakkhdammmcjcaaDoorB08
import Derived.Test.YtakkhdammmcjcaaDoorB01
import Derived.Test.YtakkhdammmcjcaaDoorB04
import Derived.Test.YtakkhdammmcjcaaDoorB05
import Derived.WalkKit
import Derived.Lib.Hide
import Derived.Deep.QuietTactic
import Derived.BigQuiet
import Derived.Deep.RegionHeld
import Derived.Deep.RegionHeld3
/-
  What each function of layer 2, and each of the document's own, answers. No condition.
-/
namespace Go.Proofs.YtakkhdammmcjcaaDoor.Ea
set_option maxRecDepth 20000
open Go.RowKit Go.Proofs.YtakkhdammmcjcaaDoor.Base
theorem take (s : ByteArray) (w : World) (hl : s.size ≤ maxLen) :
    Calls Tryd.prog 76 #[.string s] w fun e w' => e = .returned (.tuple #[.int .i64 (tkN s.data.toList : Int), .int .i64 (tkZ s.data.toList : Int), .int .i64 (tkE s.data.toList : Int)]) ∧ w = w' := by
  unfold maxLen at hl
  by_cases h0 : s.size = 0
  · obtain rfl := nil_of_size h0
    go_enter Tryd.func76, Tryd.ntmps76
    go_wp2
    go_ret3
    exact ⟨rfl, rfl⟩
  · have h1 : 0 < s.size := by omega
    have hz : ((s.size : Int) == 0) = false := by rw [beq_eq_false_iff_ne]; omega
    have hb := oct_lt s[0]
    by_cases ho : s[0].toNat % 2 = 1
    · have HT : Hid (tk s.data.toList = (s[0].toNat / 2, 1, 0)) := Lib.hid (by rw [cons_of_size h1]; exact tk_odd _ _ ho)
      have hk : spK s[0].toNat = true := decide_eq_true ho
      unfold tkN tkZ tkE
      rw [HT.out]
      clear ho h0
      go_enter Tryd.func76, Tryd.ntmps76
      go_wp2_with (go_at_call 81; ((with_reducible refine (isLast _ hb _).mono ?_); rintro e w' ⟨rfl, rfl⟩))
      go_ret3
      exact ⟨ret_iii (by simp) rfl rfl, rfl⟩
    · have hk : spK s[0].toNat = false := decide_eq_false ho
      by_cases h2 : s.size = 1
      · have HT : Hid (tk s.data.toList = (0, 0, 20)) := Lib.hid (by rw [one_of_size h2]; exact tk_one _ ho)
        have hz1 : ((s.size : Int) == 1) = true := by rw [beq_iff_eq]; omega
        unfold tkN tkZ tkE
        rw [HT.out]
        clear ho h0 h2
        go_enter Tryd.func76, Tryd.ntmps76
        go_wp2_with (go_at_call 81; ((with_reducible refine (isLast _ hb _).mono ?_); rintro e w' ⟨rfl, rfl⟩))
        go_ret3
        exact ⟨rfl, rfl⟩
      · have h3 : 1 < s.size := by omega
        have hb1 := oct_lt s[1]
        have HT : Hid (tk s.data.toList = (s[0].toNat / 2 + 128 * s[1].toNat, 2, 0)) := Lib.hid (by rw [cons2_of_size h3]; exact tk_two _ _ _ ho)
        have hz1 : ((s.size : Int) == 1) = false := by rw [beq_eq_false_iff_ne]; omega
        have e1 : bits .or .i64 ((s[1].toNat : Int) * 128) ((s[0].toNat : Int) / 2) = (s[1].toNat : Int) * 128 + (s[0].toNat : Int) / 2 := bits_join .i64 63 (by decide) wraps_i64 7 _ _ (by omega) (by omega) (by omega) (by omega) (by omega) (by omega)
        unfold tkN tkZ tkE
        rw [HT.out]
        clear ho h0 h2
        go_enter Tryd.func76, Tryd.ntmps76
        go_wp2_with (go_at_call 81; ((with_reducible refine (isLast _ hb _).mono ?_); rintro e w' ⟨rfl, rfl⟩))
        go_ret3
        exact ⟨ret_iii (by simp; omega) rfl rfl, rfl⟩
theorem octets1 (x : Int) (w : World) :
    Calls Tryd.prog 65 #[.slice (some ⟨w.heap.size, 0, none⟩) 1 1] (w.alloc (.cells #[.int .u8 x] 5)) fun e w' => e = .returned (.string ⟨#[UInt8.ofNat x.toNat]⟩) ∧ w.alloc (.cells #[.int .u8 x] 5) = w' := by
  have hcv := conv_oneI w x
  go_enter Tryd.func65, Tryd.ntmps65
  go_wp2
  go_ret
  exact ⟨rfl, rfl⟩
theorem octets2 (x y : Int) (w : World) :
    Calls Tryd.prog 65 #[.slice (some ⟨w.heap.size, 0, none⟩) 2 2] (w.alloc (.cells #[.int .u8 x, .int .u8 y] 5)) fun e w' => e = .returned (.string ⟨#[UInt8.ofNat x.toNat, UInt8.ofNat y.toNat]⟩) ∧ w.alloc (.cells #[.int .u8 x, .int .u8 y] 5) = w' := by
  have hcv := conv_twoI w x y
  go_enter Tryd.func65, Tryd.ntmps65
  go_wp2
  go_ret
  exact ⟨rfl, rfl⟩
theorem length (n : Int) (hn : n ≤ 9223372036854775807) (w : World) :
    Calls Tryd.prog 51 #[.int .i64 n] w fun e w' => e = .returned (.string (len n)) ∧ Below w.heap.size w w' := by
  by_cases h : n < 0 ∨ 32767 < n
  · rw [len_no h]
    have hd : (decide (n < 0) || decide (32767 < n)) = true := by simpa using h
    clear h
    go_enter Tryd.func51, Tryd.ntmps51
    go_wp2
    all_goals go_ret
    all_goals exact ⟨rfl, Below.refl _ _⟩
  · have h0 : 0 ≤ n := by omega
    have h1 : n ≤ 32767 := by omega
    clear h
    by_cases h2 : n < 128
    · have e1 : bits .or .u8 (n * 2) 1 = n * 2 + 1 := bits_join .u8 8 (by decide) wraps_u8 1 _ _ (by omega) (by omega) (by omega) (by decide) (by decide) (by decide)
      rw [len_one h0 h2]
      have HE : Hid (2 * n.toNat + 1 = (n * 2 + 1).toNat) := Lib.hid (by omega)
      go_enter Tryd.func51, Tryd.ntmps51
      go_wp2_with (go_at_call 65; ((with_reducible refine (octets1 _ _).mono ?_); rintro e w' ⟨rfl, rfl⟩))
      go_ret
      exact ⟨ret_str (by rw [HE.out]), (Below.refl _ _).alloc (Nat.le_refl _) _⟩
    · have h3 : 128 ≤ n := by omega
      clear h0 h2
      rw [len_two h3 h1]
      have HE : Hid (2 * (n.toNat % 128) = (n % 256 * 2 % 256).toNat) := Lib.hid (by omega)
      have HF : Hid (n.toNat / 128 = (n / 128).toNat) := Lib.hid (by omega)
      go_enter Tryd.func51, Tryd.ntmps51
      go_wp2_with (go_at_call 65; ((with_reducible refine (octets2 _ _ _).mono ?_); rintro e w' ⟨rfl, rfl⟩))
      go_ret
      exact ⟨ret_str (by rw [HE.out, HF.out]), (Below.refl _ _).alloc (Nat.le_refl _) _⟩
end Go.Proofs.YtakkhdammmcjcaaDoor.Ea
/-
  What layer 7's Put, and the document's own, answer: the message's octets, or an error. Condition: a value of at most 2^62 octets.
-/
namespace Go.Proofs.YtakkhdammmcjcaaDoor.Tlv
open Go.RowKit Go.Proofs.YtakkhdammmcjcaaDoor.Base Go.Proofs.YtakkhdammmcjcaaDoor.Ea Go.Proofs.YtakkhdammmcjcaaDoor.Mem
theorem typeOctet (k : Nat) (hk : k ≤ 63) (c : Bool) (w : World) :
    Calls Tryd.prog 50 #[.int .u8 (k : Int), .bool c] w fun e w' => e = .returned (.int .u8 (addr k c : Int)) ∧ w = w' := by
  have e1 : bits .or .u8 ((k : Int) * 4) 1 = (k : Int) * 4 + 1 := bits_join .u8 8 (by decide) wraps_u8 2 _ _ (by omega) (by omega) (by omega) (by decide) (by decide) (by decide)
  have e2 : bits .or .u8 ((k : Int) * 4 + 1) 2 = (k : Int) * 4 + 3 := by
    have : ∀ j : Fin 64, bits .or .u8 ((j.val : Int) * 4 + 1) 2 = (j.val : Int) * 4 + 3 := by decide +kernel
    exact this ⟨k, by omega⟩
  have ha : addr k c = 4 * k + 2 * c.toNat + 1 := if_neg (by omega)
  rw [ha]; clear ha
  cases c
  all_goals
    go_enter Tryd.func50, Tryd.ntmps50
    go_wp2
    go_ret
    exact ⟨ret_int (by simp; omega), rfl⟩
theorem put_no (k : Nat) (hk : k < 256) (c : Bool) (v : ByteArray) (hv : v.size ≤ 9223372036854775807) (h : putE k v ≠ 0) (w : World) :
    Calls Tryd.prog 34 #[.int .u8 (k : Int), .bool c, .string v] w fun e w' => e = .returned (.tuple #[.string ⟨#[]⟩, .int .i64 (putE k v : Int)]) ∧ w = w' := by
  by_cases h1 : 63 < k
  · have he : putE k v = 2 := if_pos h1
    rw [he]; clear h he
    go_enter Tryd.func34, Tryd.ntmps34
    go_wp2
    go_ret2
    exact ⟨rfl, rfl⟩
  · by_cases h2 : 127 < v.size
    · have he : putE k v = 3 := by unfold putE; rw [if_neg h1, if_pos h2]
      rw [he]; clear h he
      go_enter Tryd.func34, Tryd.ntmps34
      go_wp2
      go_ret2
      exact ⟨rfl, rfl⟩
    · exact absurd (putE_of (by omega) (by omega)) h
set_option maxHeartbeats 400000 in
theorem put_ok (k : Nat) (c : Bool) (v : ByteArray) (hk : k ≤ 63) (hv : v.size ≤ 127) (w : World) :
    Calls Tryd.prog 34 #[.int .u8 (k : Int), .bool c, .string v] w fun e w' => e = .returned (.tuple #[.string (It.bytes ⟨k, c, v⟩), .int .i64 0]) ∧ Below w.heap.size w w' := by
  have CT := Lib.hid (fun w => typeOctet k hk c w)
  have HE : Hid (one (addr k c) ++ len v.size ++ v = It.bytes ⟨k, c, v⟩) := Lib.hid rfl
  have hcv : ∀ (W : World) (b : Nat), W.cell? ⟨b, 0, none⟩ = some (.int .u8 ((addr k c : Nat) : Int)) → (convert 99 9 (.slice (some ⟨b, 0, none⟩) 1 1)).run Tryd.prog W = .ok (.string (one (addr k c))) W := fun W b h0 => conv_at1 W b _ h0
  have hz1 : (one (addr k c)).size = 1 := rfl
  have hz2 : (len (v.size : Int)).size = 1 := by rw [len_one (by omega) (by omega)]; rfl
  have k1 : ¬ 63 < k := by omega
  have k2 : ¬ 127 < v.size := by omega
  generalize addr k c = a at CT HE hcv hz1
  generalize hL : len (v.size : Int) = L at HE hz2
  have CL : Hid (∀ w, Calls Tryd.prog 51 #[.int .i64 (v.size : Int)] w fun e w' => e = .returned (.string L) ∧ Below w.heap.size w w') := Lib.hid (fun w => by rw [← hL]; exact length _ (by omega) w)
  clear hL hk hv
  go_enter Tryd.func34, Tryd.ntmps34
  go_wp2
  go_region_held (fun w' => Below w.heap.size w w')
    (first | exact (Below.refl _ _).drew | exact ((Below.refl _ _).alloc (Nat.le_refl _) _).drew | exact HB2.out | exact (HB2.out.alloc HB2.out.size _))
    (first
      | (go_at_call 50; ((with_reducible refine (CT.out _).mono ?_); rintro e w' ⟨rfl, rfl⟩))
      | (go_at_call 51; ((with_reducible refine (CL.out _).mono ?_); rintro e w2 ⟨rfl, hb⟩; (first
        | (have k0 := cell_below (w := (w.alloc (.cells #[.int .u8 (a : Int)] 5)).drew) (cell_new w _ _ 0) hb; have HB2 := Lib.hid (below_on (((Below.refl w.heap.size w).alloc (Nat.le_refl _) _).drew) hb); clear hb)
        | (have HB2 := Lib.hid (below_on ((Below.refl w.heap.size w).drew) hb); clear hb)))))
  all_goals
    rename_i hX
    go_wp2
    go_ret2
    exact ⟨ret_si HE.out rfl, hX⟩
theorem fput (k : Nat) (hk : k < 256) (c : Bool) (v : ByteArray) (hv : v.size ≤ 9223372036854775807) (w : World) :
    Calls Tryd.prog 34 #[.int .u8 (k : Int), .bool c, .string v] w fun e w' => e = .returned (.tuple #[.string (putS k c v), .int .i64 (putE k v : Int)]) ∧ Below w.heap.size w w' := by
  by_cases h : putE k v = 0
  · rw [putS_ok h, h]
    exact put_ok k c v (putE_ok h).1 (putE_ok h).2 w
  · have hs : putS k c v = ⟨#[]⟩ := if_neg h
    rw [hs]
    exact (put_no k hk c v hv h w).mono fun _ _ ⟨he, hw⟩ => ⟨he, hw ▸ Below.refl _ _⟩
end Go.Proofs.YtakkhdammmcjcaaDoor.Tlv
/-
  What the small functions of layer 8, and of the document's own, answer. No condition but the bounds of octets.
-/
namespace Go.Proofs.YtakkhdammmcjcaaDoor.Pn
open Go.RowKit Go.Proofs.YtakkhdammmcjcaaDoor.Base Go.Proofs.YtakkhdammmcjcaaDoor.Mem
theorem bounded_results (tmps : Array Value) (W : World) (b : Nat) (p : Pr) (h : Cells W b p) (p2 : tmps[2]?.getD undef = ptr b) :
    (results Tryd.f74 tmps).run Tryd.prog W = .ok (pv p) W := by
  obtain ⟨g0, g1, g2, g3, g4, g5, g6, g7⟩ := h
  simp [results, Tryd.results74, go_sem, p2, g0, g1, g2, g3, g4, g5, g6, g7]
theorem fbounded (p : Pr) (w : World) :
    Calls Tryd.prog 74 #[pv p] w fun x w' => x = .returned (pv (bounded p)) ∧ Below w.heap.size w w' := by
  go_enter Tryd.func74, Tryd.ntmps74
  go_wp2
  exact bodyPost_ret (bounded_results _ _ (w.heap.size + 1) (bounded p) (cells_of (nest w [_, _] 1 _ rfl)) rfl) rfl ⟨rfl, nest_below w [_, _]⟩
theorem agree_results (tmps : Array Value) (W : World) (b : Nat) (p : Pr) (h : Cells W b p) (p4 : tmps[4]?.getD undef = ptr b) :
    (results Tryd.f58 tmps).run Tryd.prog W = .ok (pv p) W := by
  obtain ⟨g0, g1, g2, g3, g4, g5, g6, g7⟩ := h
  simp [results, Tryd.results58, go_sem, p4, g0, g1, g2, g3, g4, g5, g6, g7]
theorem fagree (o a : Pr) (w : World) :
    Calls Tryd.prog 58 #[pv o, pv a] w fun x w' => x = .returned (pv (agree o a)) ∧ Below w.heap.size w w' := by
  go_enter Tryd.func58, Tryd.ntmps58
  go_wp2
  exact bodyPost_ret (agree_results _ _ (w.heap.size + 2) (agree o a) (cells_of (nest w [_, _, _] 2 _ rfl)) rfl) rfl ⟨rfl, nest_below w [_, _, _]⟩
end Go.Proofs.YtakkhdammmcjcaaDoor.Pn
/-
  What the document's own May, Put and Lowers of layer 8 answer. No condition but the bounds of octets.
-/
namespace Go.Proofs.YtakkhdammmcjcaaDoor.Pn
open Go.RowKit Go.Proofs.YtakkhdammmcjcaaDoor.Base Go.Proofs.YtakkhdammmcjcaaDoor.Mem
end Go.Proofs.YtakkhdammmcjcaaDoor.Pn
/-
  What May, Put and Lowers of layer 8, and the document's own Put, answer. No condition but the bounds of octets.
-/
namespace Go.Proofs.YtakkhdammmcjcaaDoor.Pn
open Go.RowKit Go.Proofs.YtakkhdammmcjcaaDoor.Base Go.Proofs.YtakkhdammmcjcaaDoor.Mem
theorem fmay (p : Pr) (w : World) :
    Calls Tryd.prog 60 #[pv p] w fun x w' => x = .returned (.bool (may p)) ∧ Below w.heap.size w w' := by
  have CB := Lib.hid (fun w => fbounded p w)
  have HE : ∀ w, (binOp .eql 23 (pv p) (pv (bounded p))).run Tryd.prog w = .ok (.bool (may p)) w := fun w => by rw [run_eqP, may_bounded]
  generalize bounded p = q at CB HE
  generalize may p = b at HE
  go_enter Tryd.func60, Tryd.ntmps60
  go_wp2
  have HB0 : Hid (Below w.heap.size w (w.alloc (pO p 23))) := Lib.hid (nest_below w [pO p 23])
  have GS : Cells (w.alloc (pO p 23)) w.heap.size p := cells_of (nest w [_] 0 _ rfl)
  generalize w.alloc (pO p 23) = W at *
  obtain ⟨g0, g1, g2, g3, g4, g5, g6, g7⟩ := GS
  go_region_held3 (fun w' => w'.cell? ⟨w.heap.size, 0, none⟩ = some (.int .u8 p.d) ∧ w'.cell? ⟨w.heap.size, 1, none⟩ = some (.int .u8 p.f) ∧ w'.cell? ⟨w.heap.size, 2, none⟩ = some (.int .u8 p.c) ∧ w'.cell? ⟨w.heap.size, 3, none⟩ = some (.int .u8 p.r) ∧ w'.cell? ⟨w.heap.size, 4, none⟩ = some (.int .i64 p.t) ∧ w'.cell? ⟨w.heap.size, 5, none⟩ = some (.int .i64 p.n) ∧ w'.cell? ⟨w.heap.size, 6, none⟩ = some (.int .i64 p.z) ∧ w'.cell? ⟨w.heap.size, 7, none⟩ = some (.int .i64 p.k) ∧ Below W.heap.size W w')
    (first | exact ⟨g0, g1, g2, g3, g4, g5, g6, g7, (Below.refl _ _).drew⟩ | exact ⟨cell_below g0 HB1.out, cell_below g1 HB1.out, cell_below g2 HB1.out, cell_below g3 HB1.out, cell_below g4 HB1.out, cell_below g5 HB1.out, cell_below g6 HB1.out, cell_below g7 HB1.out, HB1.out⟩)
    ((go_at_call 74; ((with_reducible refine (CB.out _).mono ?_); rintro e w1 ⟨rfl, hb⟩; have HB1 := Lib.hid (below_on ((Below.refl W.heap.size W).drew) hb); clear hb)))
  rename_i hX
  go_wp2
  go_ret
  exact ⟨rfl, below_on HB0.out hX.2.2.2.2.2.2.2.2⟩
theorem fput_ok (p : Pr) (hp : p.In) (hm : p.May) (CM : ∀ w, Calls Tryd.prog 60 #[pv p] w fun x w' => x = .returned (.bool true) ∧ Below w.heap.size w w') (w : World) :
    Calls Tryd.prog 47 #[pv p] w fun x w' => x = .returned (.tuple #[.string (octets p), .int .i64 0]) ∧ Below w.heap.size w w' := by
  obtain ⟨S, hS⟩ : ∃ S, octets p = S := ⟨_, rfl⟩
  have hcv : ∀ (W : World) (b : Nat), W.cell? ⟨b, 0, none⟩ = some (.int .u8 p.d) → W.cell? ⟨b, 1, none⟩ = some (.int .u8 (p.f + 16 * p.c)) → W.cell? ⟨b, 2, none⟩ = some (.int .u8 p.r) → W.cell? ⟨b, 3, none⟩ = some (.int .u8 p.t) → W.cell? ⟨b, 4, none⟩ = some (.int .u8 (p.n % 256)) → W.cell? ⟨b, 5, none⟩ = some (.int .u8 (p.n / 256)) → W.cell? ⟨b, 6, none⟩ = some (.int .u8 p.z) → W.cell? ⟨b, 7, none⟩ = some (.int .u8 p.k) → (convert 99 9 (.slice (some ⟨b, 0, none⟩) 8 8)).run Tryd.prog W = .ok (.string S) W := fun W b h0 h1 h2 h3 h4 h5 h6 h7 => by rw [← hS]; exact conv_at8 W b _ _ _ _ _ _ _ _ h0 h1 h2 h3 h4 h5 h6 h7
  rw [hS]
  have CMh := Lib.hid CM
  obtain ⟨⟨m1, n1⟩, m2, m3, m4, ⟨m5, n5⟩, ⟨m6, n6⟩, ⟨m7, n7⟩, ⟨m8, n8⟩⟩ := hm
  obtain ⟨⟨i1, j1⟩, ⟨i2, j2⟩, ⟨i3, j3⟩, ⟨i4, j4⟩⟩ := hp
  clear CM hS
  go_enter Tryd.func47, Tryd.ntmps47
  go_wp2_with (go_at_call 60; ((with_reducible refine (CMh.out _).mono ?_); rintro e w1 ⟨rfl, hb⟩; obtain ⟨g0, g1, g2, g3, g4, g5, g6, g7⟩ := cells_of (p := p) (fresh hb); have HB := Lib.hid (on_new (Below.refl _ _) hb); clear hb))
  go_ret2
  exact ⟨rfl, HB.out.alloc HB.out.size _⟩
theorem fput_no (p : Pr) (CM : ∀ w, Calls Tryd.prog 60 #[pv p] w fun x w' => x = .returned (.bool false) ∧ Below w.heap.size w w') (w : World) :
    Calls Tryd.prog 47 #[pv p] w fun x w' => x = .returned (.tuple #[.string ⟨#[]⟩, .int .i64 2]) ∧ Below w.heap.size w w' := by
  have CMh := Lib.hid CM
  clear CM
  go_enter Tryd.func47, Tryd.ntmps47
  go_wp2_with (go_at_call 60; ((with_reducible refine (CMh.out _).mono ?_); rintro e w1 ⟨rfl, hb⟩; have HB := Lib.hid (on_new (Below.refl _ _) hb); clear hb))
  go_ret2
  exact ⟨rfl, HB.out⟩
theorem fput (p : Pr) (hp : p.In) (w : World) :
    Calls Tryd.prog 47 #[pv p] w fun x w' => x = .returned (.tuple #[.string (putS p), .int .i64 (putE p)]) ∧ Below w.heap.size w w' := by
  unfold putS putE
  cases hm : may p
  · exact fput_no p (fun w => by have := fmay p w; rw [hm] at this; exact this) w
  · exact fput_ok p hp ((may_iff p).1 hm) (fun w => by have := fmay p w; rw [hm] at this; exact this) w
end Go.Proofs.YtakkhdammmcjcaaDoor.Pn
/-
  What octet of layer 9 answers for a row of eight bools. Condition: the row lies in memory.
-/
namespace Go.Proofs.YtakkhdammmcjcaaDoor.Msc
open Go.RowKit Go.Proofs.YtakkhdammmcjcaaDoor.Base Go.Proofs.YtakkhdammmcjcaaDoor.Mem
def acc (B : Nat → Bool) : Nat → Nat
  | 0 => 0
  | k + 1 => acc B k + 2 ^ k * (B k).toNat
theorem acc_lt (B : Nat → Bool) (k : Nat) : acc B k < 2 ^ k := by
  induction k with
  | zero => exact Nat.one_pos
  | succ k ih =>
    show acc B k + 2 ^ k * (B k).toNat < 2 ^ (k + 1)
    have := Bool.toNat_le (B k)
    have h2 : 2 ^ k * (B k).toNat ≤ 2 ^ k * 1 := Nat.mul_le_mul_left _ this
    rw [Nat.pow_succ]
    omega
theorem or_bit (k : Nat) (hk : k < 8) (a : Nat) (ha : a < 2 ^ k) : bits .or .u8 (a : Int) (2 ^ k % 256) = ((a + 2 ^ k : Nat) : Int) := by
  have : ∀ (k : Fin 8) (a : Fin (2 ^ k.val)), bits .or .u8 (a.val : Int) (2 ^ k.val % 256) = ((a.val + 2 ^ k.val : Nat) : Int) := by decide +kernel
  exact this ⟨k, hk⟩ ⟨a, ha⟩
theorem foctet (b : Nat) (B : Nat → Bool) (w : World) (h : ∀ k, k < 8 → w.cell? ⟨b, k, none⟩ = some (.bool (B k))) :
    Calls Tryd.prog 75 #[.slice (some ⟨b, 0, none⟩) 8 8] w fun x w' => x = .returned (.int .u8 (acc B 8 : Int)) ∧ w = w' := by
  have H := Lib.hid h
  clear h
  go_enter Tryd.func75, Tryd.ntmps75
  go_wp2
  go_loopw [3, 8] (fun o i wr => ∃ k : Nat, k ≤ 8 ∧ i = .int .i64 (k : Int) ∧ o = .int .u8 (acc B k : Int) ∧ w = wr) (fun _ i _ => 8 - (intOf i).toNat)
  case atStart => exact ⟨0, by omega, rfl, rfl, rfl⟩
  case round =>
    obtain ⟨k, hk, rfl, rfl, rfl⟩ := hrel
    by_cases hlt : k < 8
    · have hc := H.out k hlt
      obtain ⟨m, hm⟩ : ∃ m, acc B k = m := ⟨_, rfl⟩
      have hml : m < 2 ^ k := hm ▸ acc_lt B k
      have HS : Hid (acc B (k + 1) = m + 2 ^ k * (B k).toNat) := Lib.hid (by rw [← hm]; rfl)
      have ho := or_bit k hlt m hml
      rw [hm]
      clear hm
      cases hB : B k
      · rw [hB] at hc
        go_wp2
        go_roundw
        case rel => exact ⟨k + 1, by omega, by go_num, by rw [HS.out, hB]; simp, trivial⟩
        case measure => simp [intOf]; omega
      · rw [hB] at hc
        go_wp2
        go_roundw
        case rel => exact ⟨k + 1, by omega, by go_num, by rw [HS.out, hB]; simp, trivial⟩
        case measure => simp [intOf]; omega
    · obtain rfl : k = 8 := by omega
      go_wp2
      go_ret
      exact ⟨rfl, rfl⟩
end Go.Proofs.YtakkhdammmcjcaaDoor.Msc
/-
  What Bits of layer 9, and the document's own, answer: the signals' octet. No condition.
-/
namespace Go.Proofs.YtakkhdammmcjcaaDoor.Msc
open Go.RowKit Go.Proofs.YtakkhdammmcjcaaDoor.Base Go.Proofs.YtakkhdammmcjcaaDoor.Mem
/-- The row of the bits. -/
def rowB (s : St) : Nat → Bool
  | 0 => true
  | 1 => s.f
  | 2 => s.c
  | 3 => s.r
  | 6 => s.i
  | 7 => s.v
  | _ => false
theorem acc_row (s : St) : acc (rowB s) 8 = bt s := by
  show 0 + 2 ^ 0 * true.toNat + 2 ^ 1 * s.f.toNat + 2 ^ 2 * s.c.toNat + 2 ^ 3 * s.r.toNat + 2 ^ 4 * false.toNat + 2 ^ 5 * false.toNat + 2 ^ 6 * s.i.toNat + 2 ^ 7 * s.v.toNat = _
  unfold bt sig
  simp
theorem fbits (s : St) (w : World) :
    Calls Tryd.prog 63 #[sv s] w fun x w' => x = .returned (.int .u8 (bt s : Int)) ∧ Below w.heap.size w w' := by
  have CO : Hid (∀ w' : World, (∀ k, k < 8 → w'.cell? ⟨w.heap.size + 1, k, none⟩ = some (.bool (rowB s k))) → Calls Tryd.prog 75 #[.slice (some ⟨w.heap.size + 1, 0, none⟩) 8 8] w' fun x w'' => x = .returned (.int .u8 (bt s : Int)) ∧ w' = w'') :=
    Lib.hid (fun w' h => by have := foctet (w.heap.size + 1) (rowB s) w' h; rw [acc_row] at this; exact this)
  have HR : Hid (∀ (os : Obj) (w' : World) (t : TypeId), w' = (w.alloc os).alloc (.cells #[.bool true, .bool s.f, .bool s.c, .bool s.r, .bool false, .bool false, .bool s.i, .bool s.v] t) → ∀ k, k < 8 → w'.cell? ⟨w.heap.size + 1, k, none⟩ = some (.bool (rowB s k))) :=
    Lib.hid (fun os w' t e k hk => by
      subst e
      have h1 := nest w [os, .cells #[.bool true, .bool s.f, .bool s.c, .bool s.r, .bool false, .bool false, .bool s.i, .bool s.v] t] 1 _ rfl
      match k, hk with
      | 0, _ => exact cell_of h1 rfl
      | 1, _ => exact cell_of h1 rfl
      | 2, _ => exact cell_of h1 rfl
      | 3, _ => exact cell_of h1 rfl
      | 4, _ => exact cell_of h1 rfl
      | 5, _ => exact cell_of h1 rfl
      | 6, _ => exact cell_of h1 rfl
      | 7, _ => exact cell_of h1 rfl)
  go_enter Tryd.func63, Tryd.ntmps63
  go_wp2_with (go_at_call 75; ((with_reducible refine (CO.out _ (HR.out _ _ _ rfl)).mono ?_); rintro e w1 ⟨rfl, rfl⟩))
  go_ret
  exact ⟨rfl, nest_below w [_, _]⟩
end Go.Proofs.YtakkhdammmcjcaaDoor.Msc
/-
  What the small functions of layer 9, and of the document's own, answer. No condition but the bounds of octets.
-/
namespace Go.Proofs.YtakkhdammmcjcaaDoor.Msc
open Go.RowKit Go.Proofs.YtakkhdammmcjcaaDoor.Base Go.Proofs.YtakkhdammmcjcaaDoor.Mem
theorem fhas (n : Nat) (hn : n < 256) (w : World) :
    Calls Tryd.prog 82 #[.int .u8 (n : Int)] w fun x w' => x = .returned (.bool (decide (n % 2 = 0))) ∧ w = w' := by
  have h1 := u8_and1 n hn
  go_enter Tryd.func82, Tryd.ntmps82
  go_wp2
  go_ret
  exact ⟨ret_bool (by rw [Bool.eq_iff_iff]; simp <;> omega), rfl⟩
theorem fmay (p : St) (w : World) :
    Calls Tryd.prog 61 #[sv p] w fun x w' => x = .returned (.bool (may p)) ∧ Below w.heap.size w w' := by
  obtain ⟨x, hx⟩ : ∃ x, may p = x := ⟨_, rfl⟩
  have HX := Lib.hid hx
  rw [hx]
  clear hx
  obtain ⟨d, f, c, r, i, v, b, k⟩ := p
  cases b
  · go_enter Tryd.func61, Tryd.ntmps61
    go_wp2
    all_goals go_ret
    all_goals exact ⟨ret_bool (by rw [← HX.out, Bool.eq_iff_iff]; clear HX; first | (simp_all [may]; done) | (simp_all [may]; omega)), nest_below w [_]⟩
  · go_enter Tryd.func61, Tryd.ntmps61
    go_wp2
    all_goals go_ret
    all_goals exact ⟨ret_bool (by rw [← HX.out, Bool.eq_iff_iff]; clear HX; first | (simp_all [may]; done) | (simp_all [may]; omega)), nest_below w [_]⟩
end Go.Proofs.YtakkhdammmcjcaaDoor.Msc
/-
  What Put of layer 9, and the document's own, answer. Condition: the octets among a status are octets.
-/
namespace Go.Proofs.YtakkhdammmcjcaaDoor.Msc
open Go.RowKit Go.Proofs.YtakkhdammmcjcaaDoor.Base Go.Proofs.YtakkhdammmcjcaaDoor.Mem Go.Proofs.YtakkhdammmcjcaaDoor.Ea
theorem fput_no (p : St) (CM : ∀ w, Calls Tryd.prog 61 #[sv p] w fun x w' => x = .returned (.bool false) ∧ Below w.heap.size w w') (w : World) :
    Calls Tryd.prog 48 #[sv p] w fun x w' => x = .returned (.tuple #[.string ⟨#[]⟩, .int .i64 2]) ∧ Below w.heap.size w w' := by
  have CMh := Lib.hid CM
  clear CM
  go_enter Tryd.func48, Tryd.ntmps48
  go_wp2_with (go_at_call 61; ((with_reducible refine (CMh.out _).mono ?_); rintro e w1 ⟨rfl, hb⟩; have HB := Lib.hid (on_new (Below.refl _ _) hb); clear hb))
  go_ret2
  exact ⟨rfl, HB.out⟩
theorem fput_two (d : Nat) (f c r i v : Bool) (k : Nat) (n a : Nat) (hd : d < 256) (ha : addr d true = a) (hn : bt ⟨d, f, c, r, i, v, false, k⟩ = n) (CM : ∀ w, Calls Tryd.prog 61 #[sv ⟨d, f, c, r, i, v, false, k⟩] w fun x w' => x = .returned (.bool true) ∧ Below w.heap.size w w') (w : World) :
    Calls Tryd.prog 48 #[sv ⟨d, f, c, r, i, v, false, k⟩] w fun x w' => x = .returned (.tuple #[.string (two a n), .int .i64 0]) ∧ Below w.heap.size w w' := by
  have CMh := Lib.hid CM
  have CA := Lib.hid (fun w => address d hd true w)
  have CB := Lib.hid (fun w => fbits ⟨d, f, c, r, i, v, false, k⟩ w)
  rw [ha] at CA
  rw [hn] at CB
  have hcv := fun W => conv_two W a n
  obtain ⟨S, hS⟩ : ∃ S, two a n = S := ⟨_, rfl⟩
  have hcv2 : ∀ (W : World), (convert 99 9 (.slice (some ⟨W.heap.size, 0, none⟩) 2 2)).run Tryd.prog (W.alloc (.cells #[.int .u8 (a : Int), .int .u8 (n : Int)] 5)) = .ok (.string S) (W.alloc (.cells #[.int .u8 (a : Int), .int .u8 (n : Int)] 5)) := fun W => by rw [← hS]; exact hcv W
  rw [hS]
  clear CM hd ha hn hcv hS
  go_enter Tryd.func48, Tryd.ntmps48
  go_wp2_with (first
    | (go_at_call 61; ((with_reducible refine (CMh.out _).mono ?_); rintro e w1 ⟨rfl, hb⟩; have HF : Hid (w1.heap[w.heap.size]? = some (sO ⟨d, f, c, r, i, v, false, k⟩ 33)) := Lib.hid (fresh hb); obtain ⟨g0, g1, g2, g3, g4, g5, g6, g7⟩ := cells_of HF.out; dsimp only at g0 g1 g2 g3 g4 g5 g6 g7; have HB := Lib.hid (on_new (Below.refl _ _) hb); clear hb))
    | (go_at_call 62; ((with_reducible refine (CA.out _).mono ?_); rintro e w2 ⟨rfl, rfl⟩))
    | (go_at_call 63; ((with_reducible refine (CB.out _).mono ?_); rintro e w2 ⟨rfl, hb⟩; have HB2 := Lib.hid (below_on HB.out hb); clear hb)))
  go_ret2
  exact ⟨rfl, HB2.out.alloc HB2.out.size _⟩
theorem conv_three (w : World) (a b c : Nat) :
    (convert 99 9 (.slice (some ⟨w.heap.size, 0, none⟩) 3 3)).run Tryd.prog (w.alloc (.cells #[.int .u8 (a : Int), .int .u8 (b : Int), .int .u8 (c : Int)] 5))
      = .ok (.string (three a b c)) (w.alloc (.cells #[.int .u8 (a : Int), .int .u8 (b : Int), .int .u8 (c : Int)] 5)) :=
  conv_at3 (w.alloc (.cells #[.int .u8 (a : Int), .int .u8 (b : Int), .int .u8 (c : Int)] 5)) w.heap.size (a : Int) (b : Int) (c : Int) (cell_new w _ _ 0) (cell_new w _ _ 1) (cell_new w _ _ 2)
theorem not_mark (n : Nat) (h : n < 256) (h' : n % 2 = 1) : bits .andNot .u8 (n : Int) 1 = ((n - 1 : Nat) : Int) := by
  have : ∀ j : Fin 256, j.val % 2 = 1 → bits .andNot .u8 (j.val : Int) 1 = ((j.val - 1 : Nat) : Int) := by decide +kernel
  exact this ⟨n, h⟩ h'
theorem break_octet (k : Nat) (h : k ≤ 15) : bits .or .u8 (IntKind.u8.wrap ((k : Int) * 16)) 3 = ((16 * k + 3 : Nat) : Int) := by
  have : ∀ j : Fin 16, bits .or .u8 (IntKind.u8.wrap ((j.val : Int) * 16)) 3 = ((16 * j.val + 3 : Nat) : Int) := by decide +kernel
  exact this ⟨k, by omega⟩
theorem fput_three (d : Nat) (f c r i v : Bool) (k : Nat) (n m a : Nat) (hd : d < 256) (hk : k ≤ 15) (ha : addr d true = a) (hn : bt ⟨d, f, c, r, i, v, true, k⟩ = n) (hm : bits .andNot .u8 (n : Int) 1 = (m : Int)) (CM : ∀ w, Calls Tryd.prog 61 #[sv ⟨d, f, c, r, i, v, true, k⟩] w fun x w' => x = .returned (.bool true) ∧ Below w.heap.size w w') (w : World) :
    Calls Tryd.prog 48 #[sv ⟨d, f, c, r, i, v, true, k⟩] w fun x w' => x = .returned (.tuple #[.string (three a m (16 * k + 3)), .int .i64 0]) ∧ Below w.heap.size w w' := by
  have CMh := Lib.hid CM
  have CA := Lib.hid (fun w => address d hd true w)
  have CB := Lib.hid (fun w => fbits ⟨d, f, c, r, i, v, true, k⟩ w)
  rw [ha] at CA
  rw [hn] at CB
  obtain ⟨S, hS⟩ : ∃ S, three a m (16 * k + 3) = S := ⟨_, rfl⟩
  obtain ⟨x, hx⟩ : ∃ x, 16 * k + 3 = x := ⟨_, rfl⟩
  have hcv : ∀ (W : World), (convert 99 9 (.slice (some ⟨W.heap.size, 0, none⟩) 3 3)).run Tryd.prog (W.alloc (.cells #[.int .u8 (a : Int), .int .u8 (m : Int), .int .u8 (x : Int)] 5)) = .ok (.string S) (W.alloc (.cells #[.int .u8 (a : Int), .int .u8 (m : Int), .int .u8 (x : Int)] 5)) := fun W => by rw [← hS, ← hx]; exact conv_three W a m _
  have hkk : bits .or .u8 (IntKind.u8.wrap ((k : Int) * 16)) 3 = (x : Int) := by rw [← hx]; exact break_octet k hk
  rw [hS]
  clear CM hd ha hn hS hx
  go_enter Tryd.func48, Tryd.ntmps48
  go_wp2_with (first
    | (go_at_call 61; ((with_reducible refine (CMh.out _).mono ?_); rintro e w1 ⟨rfl, hb⟩; have HF0 : Hid (w1.heap[w.heap.size]? = some (sO ⟨d, f, c, r, i, v, true, k⟩ 33)) := Lib.hid (fresh hb); obtain ⟨g0, g1, g2, g3, g4, g5, g6, g7⟩ := cells_of HF0.out; dsimp only at g0 g1 g2 g3 g4 g5 g6 g7; have HB := Lib.hid (on_new (Below.refl _ _) hb); clear hb))
    | (go_at_call 62; ((with_reducible refine (CA.out _).mono ?_); rintro e w2 ⟨rfl, rfl⟩)))
  clear g0 g1 g2 g3 g4 g5 g6 g7
  obtain ⟨wx, rfl⟩ : ∃ wx : World, wx = w1 := ⟨_, rfl⟩
  have HF := HF0
  refine wp_region_held_drew (S := fun w' => Below wx.heap.size wx w') (by kernel_rfl) (Below.refl _ _).drew (fun hHeld => ?_)
  refine' wpAnyH_take (i := 0) (oi := { dst := some 19, op := Go.Op.move (Go.Operand.tmp 4), type := 5, pos := "msc.go:51", after := #[], guard := none }) (v := _) rfl (by kernel_rfl) (by kernel_rfl) (by kernel_rfl) (fun _ _ _ h => h) (Or.inl ⟨by rfl, ?hy1⟩) (by assumption) ?hr1
  case hy1 => (intro _ hSw; (try dsimp only at hSw); go_simp <;> with_reducible rfl)
  simp only [Act.put, List.setIfInBounds_toArray, List.set_cons_zero, List.set_cons_succ]
  refine' wpAnyH_take (i := 1) (oi := { dst := some 20, op := Go.Op.load 33 (Go.Operand.tmp 1), type := 33, pos := "msc.go:51", after := #[], guard := none }) (v := _) rfl (by kernel_rfl) (by kernel_rfl) (by kernel_rfl) (fun _ _ _ h => h) (Or.inl ⟨by rfl, ?hy2⟩) (by assumption) ?hr2
  case hy2 => (intro _ hSw; (try dsimp only at hSw); obtain ⟨c0, c1, c2, c3, c4, c5, c6, c7⟩ := cells_of (stays HF.out hSw); dsimp only at c0 c1 c2 c3 c4 c5 c6 c7; go_simp <;> with_reducible rfl)
  simp only [Act.put, List.setIfInBounds_toArray, List.set_cons_zero, List.set_cons_succ]
  refine' wpAnyH_take (i := 4) (oi := { dst := some 23, op := Go.Op.fieldAddr 33 (Go.Operand.tmp 1) 7, type := 0, pos := "msc.go:51", after := #[], guard := none }) (v := _) rfl (by kernel_rfl) (by kernel_rfl) (by kernel_rfl) (fun _ _ _ h => h) (Or.inl ⟨by rfl, ?hy3⟩) (by assumption) ?hr3
  case hy3 => (intro _ hSw; (try dsimp only at hSw); go_simp <;> with_reducible rfl)
  simp only [Act.put, List.setIfInBounds_toArray, List.set_cons_zero, List.set_cons_succ]
  refine' wpAnyH_take (i := 5) (oi := { dst := some 24, op := Go.Op.load 5 (Go.Operand.tmp 23), type := 5, pos := "msc.go:51", after := #[{ on := 4, ground := Go.Ground.data }], guard := none }) (v := _) rfl (by kernel_rfl) (by kernel_rfl) (by kernel_rfl) (fun _ _ _ h => h) (Or.inl ⟨by rfl, ?hy4⟩) (by assumption) ?hr4
  case hy4 => (intro _ hSw; (try dsimp only at hSw); obtain ⟨c0, c1, c2, c3, c4, c5, c6, c7⟩ := cells_of (stays HF.out hSw); dsimp only at c0 c1 c2 c3 c4 c5 c6 c7; go_simp <;> with_reducible rfl)
  simp only [Act.put, List.setIfInBounds_toArray, List.set_cons_zero, List.set_cons_succ]
  refine' wpAnyH_take (i := 6) (oi := { dst := some 25, op := Go.Op.binOp Go.BinOp.shl 5 (Go.Operand.tmp 24) (Go.Operand.const (Go.Value.int Go.IntKind.u64 4)) 115, type := 5, pos := "msc.go:51", after := #[{ on := 5, ground := Go.Ground.data }], guard := none }) (v := _) rfl (by kernel_rfl) (by kernel_rfl) (by kernel_rfl) (fun _ _ _ h => h) (Or.inl ⟨by rfl, ?hy5⟩) (by assumption) ?hr5
  case hy5 => (intro _ hSw; (try dsimp only at hSw); go_simp <;> with_reducible rfl)
  simp only [Act.put, List.setIfInBounds_toArray, List.set_cons_zero, List.set_cons_succ]
  refine' wpAnyH_take (i := 7) (oi := { dst := some 26, op := Go.Op.binOp Go.BinOp.or 5 (Go.Operand.tmp 25) (Go.Operand.const (Go.Value.int Go.IntKind.u8 3)) 5, type := 5, pos := "msc.go:51", after := #[{ on := 6, ground := Go.Ground.data }], guard := none }) (v := _) rfl (by kernel_rfl) (by kernel_rfl) (by kernel_rfl) (fun _ _ _ h => h) (Or.inl ⟨by rfl, ?hy6⟩) (by assumption) ?hr6
  case hy6 => (intro _ hSw; (try dsimp only at hSw); go_simp <;> with_reducible rfl)
  simp only [Act.put, List.setIfInBounds_toArray, List.set_cons_zero, List.set_cons_succ]
  refine wpAnyH_ready (rs := [2]) (by kernel_rfl) (by simp) ?_
  refine AllReadyH.cons (o := { dst := some 21, op := Go.Op.call { callee := Go.Callee.value (Go.Operand.func 63), args := #[Go.Operand.tmp 20], argTypes := #[33] }, type := 5, pos := "msc.go:51", after := #[{ on := 1, ground := Go.Ground.data }], guard := none }) rfl (fun K hK => ?_) AllReadyH.nil
  go_simp
  (with_reducible refine (CB.out _).mono ?_)
  rintro e wc ⟨rfl, hb⟩
  go_wp2_with fail
  refine hK.out _ _ (below_on hHeld hb) (fun hNext => ?_)
  clear hK K hHeld hb
  have hHeld := hNext
  clear hNext
  (try simp only [Act.put, List.setIfInBounds_toArray, List.set_cons_zero, List.set_cons_succ])
  refine' wpAnyH_take (i := 3) (oi := { dst := some 22, op := Go.Op.binOp Go.BinOp.andNot 5 (Go.Operand.tmp 21) (Go.Operand.const (Go.Value.int Go.IntKind.u8 1)) 5, type := 5, pos := "msc.go:51", after := #[{ on := 2, ground := Go.Ground.data }], guard := none }) (v := _) rfl (by kernel_rfl) (by kernel_rfl) (by kernel_rfl) (fun _ _ _ h => h) (Or.inl ⟨by rfl, ?hy7⟩) (by assumption) ?hr7
  case hy7 => (intro _ hSw; (try dsimp only at hSw); go_simp <;> with_reducible rfl)
  simp only [Act.put, List.setIfInBounds_toArray, List.set_cons_zero, List.set_cons_succ]
  refine wpAnyH_ready (rs := [8]) (by kernel_rfl) (by simp) ?_
  refine AllReadyH.cons (o := { dst := some 27, op := Go.Op.buildSlice 99 3 #[(0, Go.Operand.tmp 19), (1, Go.Operand.tmp 22), (2, Go.Operand.tmp 26)], type := 99, pos := "msc.go:51", after := #[{ on := 0, ground := Go.Ground.data }, { on := 3, ground := Go.Ground.data }, { on := 7, ground := Go.Ground.data }], guard := none }) rfl (fun K hK => ?_) AllReadyH.nil
  go_simp
  refine hK.out _ _ (hHeld.alloc hHeld.size _) (fun hNext => ?_)
  clear hK K hHeld
  have hHeld := hNext
  clear hNext
  (try simp only [Act.put, List.setIfInBounds_toArray, List.set_cons_zero, List.set_cons_succ])
  refine wpAnyH_ready (rs := [9]) (by kernel_rfl) (by simp) ?_
  refine AllReadyH.cons (o := { dst := some 28, op := Go.Op.convert 99 9 (Go.Operand.tmp 27), type := 9, pos := "msc.go:51", after := #[{ on := 8, ground := Go.Ground.data }], guard := none }) rfl (fun K hK => ?_) AllReadyH.nil
  go_simp
  refine hK.out _ _ hHeld (fun hNext => ?_)
  clear hK K hHeld
  have hHeld := hNext
  clear hNext
  (try simp only [Act.put, List.setIfInBounds_toArray, List.set_cons_zero, List.set_cons_succ])
  refine' wpAnyH_take (i := 10) (oi := { dst := some 2, op := Go.Op.assign (Go.Operand.tmp 28), type := 9, pos := "msc.go:51", after := #[{ on := 9, ground := Go.Ground.data }, { on := 2, ground := Go.Ground.chain }, { on := 0, ground := Go.Ground.phase }, { on := 1, ground := Go.Ground.phase }, { on := 2, ground := Go.Ground.phase }, { on := 3, ground := Go.Ground.phase }, { on := 4, ground := Go.Ground.phase }, { on := 5, ground := Go.Ground.phase }, { on := 6, ground := Go.Ground.phase }, { on := 7, ground := Go.Ground.phase }, { on := 8, ground := Go.Ground.phase }, { on := 9, ground := Go.Ground.phase }], guard := none }) (v := _) rfl (by kernel_rfl) (by kernel_rfl) (by kernel_rfl) (fun _ _ _ h => h) (Or.inl ⟨by rfl, ?hy8⟩) (by assumption) ?hr8
  case hy8 => (intro _ hSw; (try dsimp only at hSw); go_simp <;> with_reducible rfl)
  simp only [Act.put, List.setIfInBounds_toArray, List.set_cons_zero, List.set_cons_succ]
  refine' wpAnyH_take (i := 11) (oi := { dst := some 3, op := Go.Op.assign (Go.Operand.const (Go.Value.int Go.IntKind.i64 0)), type := 36, pos := "msc.go:51", after := #[{ on := 10, ground := Go.Ground.chain }, { on := 0, ground := Go.Ground.phase }, { on := 1, ground := Go.Ground.phase }, { on := 2, ground := Go.Ground.phase }, { on := 3, ground := Go.Ground.phase }, { on := 4, ground := Go.Ground.phase }, { on := 5, ground := Go.Ground.phase }, { on := 6, ground := Go.Ground.phase }, { on := 7, ground := Go.Ground.phase }, { on := 8, ground := Go.Ground.phase }, { on := 9, ground := Go.Ground.phase }, { on := 10, ground := Go.Ground.phase }], guard := none }) (v := _) rfl (by kernel_rfl) (by kernel_rfl) (by kernel_rfl) (fun _ _ _ h => h) (Or.inl ⟨by rfl, ?hy9⟩) (by assumption) ?hr9
  case hy9 => (intro _ hSw; (try dsimp only at hSw); go_simp <;> with_reducible rfl)
  simp only [Act.put, List.setIfInBounds_toArray, List.set_cons_zero, List.set_cons_succ]
  refine wpAnyH_done (by kernel_rfl) ?_ _
  go_wp2
  go_ret2
  exact ⟨rfl, below_on HB.out hHeld⟩
theorem fput (p : St) (hp : p.In) (w : World) :
    Calls Tryd.prog 48 #[sv p] w fun x w' => x = .returned (.tuple #[.string (putS p), .int .i64 (putE p)]) ∧ Below w.heap.size w w' := by
  unfold putS putE
  cases hm : may p
  · exact fput_no p (fun w => by have := fmay p w; rw [hm] at this; exact this) w
  · have CM := fun w => fmay p w
    rw [hm] at CM
    have hM := (may_iff p).1 hm
    obtain ⟨d, f, c, r, i, v, b, k⟩ := p
    cases b
    · rw [if_pos rfl, if_pos rfl, octets_two rfl]
      exact fput_two d f c r i v k _ _ hp.d rfl rfl CM w
    · rw [if_pos rfl, if_pos rfl, octets_three rfl]
      exact fput_three d f c r i v k _ _ _ hp.d hM.k rfl rfl (not_mark _ (bt_lt _) (bt_odd _)) CM w
end Go.Proofs.YtakkhdammmcjcaaDoor.Msc
