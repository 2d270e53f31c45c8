/-
  Layer 22, put together: MsgsRget. Conditions: as each theorem names them.
-/
import Derived.Test.YtakkhdammmcjcaaGreatDoorK25
import Derived.Test.YtakkhdammmcjcaaGreatDoorK11
import Derived.Test.YtakkhdammmcjcaaGreatDoorK26
import Derived.Test.YtakkhdammmcjcaaGreatDoorK01
namespace Go.Proofs.YtakkhdammmcjcaaGreatDoor.Msgs
open Go.RowKit Base Mem
set_option maxRecDepth 20000
theorem zeroI : (Tryz.prog.info? 155).map (·.zero) = some (some (.agg #[.int .u8 0, .bool false, .string ⟨#[]⟩])) := by kernel_rfl
theorem isI : IsRow 155 3 := ⟨⟨_, Tryz.underlying155⟩, by kernel_rfl⟩
theorem rget_err (s v : ByteArray) (k n : Nat) (c : Bool) (E : Int) (hE : (E != 0) = true) (CG : ∀ w, Calls Tryz.prog 100 #[.string s] w fun e w' => e = .returned (.tuple #[.agg #[.int .u8 (k : Int), .bool c, .string v], .int .i64 (n : Int), .int .i64 E]) ∧ Below w.heap.size w w') (w : World) :
 Calls Tryz.prog 79 #[.string s] w fun e w' => e = .returned (.tuple #[mv zero, .int .i64 0, .int .i64 E]) ∧ Below w.heap.size w w' := by
 have CGh := Lib.hid CG
 clear CG
 go_enter Tryz.func79, Tryz.ntmps79
 go_wp2_with (first
  | ((with_reducible refine alm zeroR ?_); intro b1 w1 h1 F1; have HR := Lib.hid h1; have L1 := Lib.hid (Nat.le_of_eq F1.eq.symm); have HB := Lib.hid F1.below; clear h1 F1)
  | (go_at_call 100; ((with_reducible refine (CGh.out _).mono ?_); rintro e w2 ⟨rfl, hb⟩; replace HR := Lib.hid (stays HR.out hb); replace HB := Lib.hid (below_on HB.out hb); clear hb))
  | ((with_reducible refine alr zeroI ?_); intro b2 w3 h3 F3; have N12 := Lib.hid (F3.ne HR.out); replace HR := Lib.hid (F3.stays HR.out); have L2 := Lib.hid (F3.le HB.out); replace HB := Lib.hid (F3.on HB.out); have HI0 := Lib.hid h3; clear h3 F3)
  | ((with_reducible refine str #[.int .u8 (k : Int), .bool c, .string v] isI HI0.out ?h0 ?h1 ?hc ?hx ?hy ?_); (case h0 => rfl); (case h1 => rfl); (case hc => (simp [Value.oneCell'])); (case hx => rfl); (case hy => rfl); intro wx h4 M4; have HI := Lib.hid h4; replace HR := Lib.hid (M4.other N12.out HR.out); replace HB := Lib.hid (M4.below HB.out L2.out); clear h4 M4 HI0)
  | ((with_reducible refine bdm (T := 79) (parts := #[]) zero ?hb ?_); (case hb => kernel_rfl))
  | ((with_reducible refine stm (m := zero) isR HR.out ?hx ?hy ?_); (case hx => rfl); (case hy => rfl); intro w9 h9 M9; replace HR := Lib.hid h9; replace HB := Lib.hid (M9.below HB.out L1.out); clear h9 M9))
 exact bodyPost_ret (rget_results _ _ b1 _ _ _ _ HR.out rfl rfl rfl) rfl ⟨rfl, HB.out⟩
theorem item {w : World} {b : Nat} {k : Nat} {c : Bool} {v : ByteArray} {t : TypeId} (h : w.heap[b]? = some (.cells #[.int .u8 (k : Int), .bool c, .string v] t (0, 0))) : w.cell? ⟨b, 0, none⟩ = some (.int .u8 (k : Int)) ∧ w.cell? ⟨b, 1, none⟩ = some (.bool c) ∧ w.cell? ⟨b, 2, none⟩ = some (.string v) := ⟨cell_of h rfl, cell_of h rfl, cell_of h rfl⟩
set_option maxHeartbeats 800000 in
theorem rget_1_yes (s v : ByteArray) (k n : Nat) (c : Bool) (p : Pn.Pr) (E : Int) (hE : (E != 0) = false) (CP : ∀ w, Calls Tryz.prog 101 #[.string v] w fun e w' => e = .returned (.tuple #[Pn.pv p, .int .i64 E]) ∧ Below w.heap.size w w') (CG : ∀ w, Calls Tryz.prog 100 #[.string s] w fun e w' => e = .returned (.tuple #[.agg #[.int .u8 (k : Int), .bool c, .string v], .int .i64 (n : Int), .int .i64 0]) ∧ Below w.heap.size w w') (CK : ∀ w, Calls Tryz.prog 75 #[.int .u8 (k : Int)] w fun e w' => e = .returned (.int .u8 1) ∧ Below w.heap.size w w') (w : World) :
 Calls Tryz.prog 79 #[.string s] w fun e w' => e = .returned (.tuple #[mv ⟨1, c, p, Msc.zero, 0, no⟩, .int .i64 (n : Int), .int .i64 0]) ∧ Below w.heap.size w w' := by
 have CGh := Lib.hid CG
 have CKh := Lib.hid CK
 clear CG CK
 have CPh := Lib.hid CP
 clear CP
 go_enter Tryz.func79, Tryz.ntmps79
 go_wp2_with (first
  | ((with_reducible refine alm zeroR ?_); intro b1 w1 h1 F1; have HR := Lib.hid h1; have L1 := Lib.hid (Nat.le_of_eq F1.eq.symm); have HB := Lib.hid F1.below; clear h1 F1)
  | (go_at_call 100; ((with_reducible refine (CGh.out _).mono ?_); rintro e w2 ⟨rfl, hb⟩; replace HR := Lib.hid (stays HR.out hb); replace HB := Lib.hid (below_on HB.out hb); clear hb))
  | ((with_reducible refine alr zeroI ?_); intro b2 w3 h3 F3; have N12 := Lib.hid (F3.ne HR.out); replace HR := Lib.hid (F3.stays HR.out); have L2 := Lib.hid (F3.le HB.out); replace HB := Lib.hid (F3.on HB.out); have HI0 := Lib.hid h3; clear h3 F3)
  | ((with_reducible refine str #[.int .u8 (k : Int), .bool c, .string v] isI HI0.out ?h0 ?h1 ?hc ?hx ?hy ?_); (case h0 => rfl); (case h1 => rfl); (case hc => (simp [Value.oneCell'])); (case hx => rfl); (case hy => rfl); intro wx h4 M4; have HI := Lib.hid h4; replace HR := Lib.hid (M4.other N12.out HR.out); replace HB := Lib.hid (M4.below HB.out L2.out); clear h4 M4 HI0))
 refine wp_region_held_drew (S := fun w' => Below wx.heap.size wx w') (by kernel_rfl) (Below.refl _ _).drew (fun hHeld => ?_)
 refine' tk9 0 rfl ?_
 refine' tv9 1 rfl (by intro _ hSw; (try dsimp only at hSw); obtain ⟨i0, i1, i2⟩ := item (stays HI.out hSw); go_simp <;> with_reducible rfl) ?_
 refine' tk9 3 rfl ?_
 refine' tv9 4 rfl (by intro _ hSw; (try dsimp only at hSw); obtain ⟨i0, i1, i2⟩ := item (stays HI.out hSw); go_simp <;> with_reducible rfl) ?_
 refine ry [2, 6] ?_
 refine AllReadyH.cons rfl (fun K hK => ?_) (AllReadyH.cons rfl (fun K hK => ?_) AllReadyH.nil)
 · go_simp
   (with_reducible refine (CKh.out _).mono ?_)
   rintro e wc ⟨rfl, hb⟩
   go_wp2_with fail
   refine hK.out _ _ (below_on hHeld hb) (fun hNext => ?_)
   clear hK K
   replace hHeld := hNext
   clear hNext
   (try simp only [Act.put, z1', z2', z3'])
   clear hb
   refine' tv9 5 rfl (by intro _ hSw; (try dsimp only at hSw); refine ex_bd ⟨1, c, Pn.zero, Msc.zero, 0, no⟩ ?_; kernel_rfl) ?_
   refine ry [6] (.cons rfl (fun K hK => ?_) .nil)
   rw [if_pos (by rfl)]
   refine wp_al zeroR ?_
   intro b3 u3 h3 F3
   have Lb3 := F3.le hHeld
   refine hK.out _ _ (F3.on hHeld) (fun hNext => ?_)
   clear hK K
   replace hHeld := hNext
   clear hNext
   (try simp only [Act.put, z1', z2', z3'])
   clear F3
   refine ry [7] (.cons rfl (fun K hK => ?_) .nil)
   rw [if_pos (by rfl)]
   refine wp_row (cs := mc ⟨1, c, Pn.zero, Msc.zero, 0, no⟩) isR h3 rfl rfl (one_all _) rfl rfl ?_
   intro u4 h4 M4
   refine hK.out _ _ (M4.below hHeld Lb3) (fun hNext => ?_)
   clear hK K
   replace hHeld := hNext
   clear hNext
   (try simp only [Act.put])
   clear M4 h3
   refine wpAnyH_done (by kernel_rfl) ?_ _
   have N13 : Hid (b1 ≠ b3) := Lib.hid (by have := lt_heap HR.out; omega)
   have N23 : Hid (b2 ≠ b3) := Lib.hid (by have := lt_heap HI.out; omega)
   have HN := Lib.hid h4
   have L3 : Hid (w.heap.size ≤ b3) := Lib.hid (by have := HB.out.size; omega)
   clear h4 Lb3
   replace HI := Lib.hid (stays HI.out hHeld)
   replace HR := Lib.hid (stays HR.out hHeld)
   replace HB := Lib.hid (below_on HB.out hHeld)
   clear hHeld
   obtain ⟨n0, n1, n18, n19⟩ := flds HN.out
   obtain ⟨i0, i1, i2⟩ := item HI.out
   go_wp2_with (first
    | (go_at_call 101; ((with_reducible refine (CPh.out _).mono ?_); rintro e w5 ⟨rfl, hb⟩; replace HI := Lib.hid (stays HI.out hb); replace HN := Lib.hid (stays HN.out hb); replace HR := Lib.hid (stays HR.out hb); replace HB := Lib.hid (below_on HB.out hb); clear hb n0 n1 n18 n19; obtain ⟨n0, n1, n18, n19⟩ := flds HN.out))
    | ((with_reducible refine stp (p := p) isPr HN.out ?hx ?hy ?_); (case hx => rfl); (case hy => rfl); intro w6 h6 M6; replace HI := Lib.hid (M6.other N23.out HI.out); replace HN := Lib.hid h6; replace HR := Lib.hid (M6.other N13.out HR.out); replace HB := Lib.hid (M6.below HB.out L3.out); clear n0 n1 n18 n19 i0 i1 i2 h6 M6; obtain ⟨i0, i1, i2⟩ := item HI.out)
    | ((with_reducible refine ldm isR HN.out ?hx ?_); (case hx => rfl))
    | ((with_reducible refine stm (m := ⟨1, c, p, Msc.zero, 0, no⟩) isR HR.out ?hx ?hy ?_); (case hx => rfl); (case hy => rfl); intro w9 h9 M9; replace HR := Lib.hid h9; replace HB := Lib.hid (M9.below HB.out L1.out); clear h9 M9))
   exact bodyPost_ret (rget_results _ _ b1 _ _ _ _ HR.out rfl rfl rfl) rfl ⟨rfl, HB.out⟩
 · rw [if_pos (by rfl)]
   refine wp_al zeroR ?_
   intro b3 u3 h3 F3
   have Lb3 := F3.le hHeld
   refine hK.out _ _ (F3.on hHeld) (fun hNext => ?_)
   clear hK K
   replace hHeld := hNext
   clear hNext
   (try simp only [Act.put, z1', z2', z3'])
   clear F3
   refine ry [2] (.cons rfl (fun K hK => ?_) .nil)
   go_simp
   (with_reducible refine (CKh.out _).mono ?_)
   rintro e wc ⟨rfl, hb⟩
   go_wp2_with fail
   replace h3 := stays h3 hb
   refine hK.out _ _ (below_on hHeld hb) (fun hNext => ?_)
   clear hK K
   replace hHeld := hNext
   clear hNext
   (try simp only [Act.put, z1', z2', z3'])
   clear hb
   refine' tv9 5 rfl (by intro _ hSw; (try dsimp only at hSw); refine ex_bd ⟨1, c, Pn.zero, Msc.zero, 0, no⟩ ?_; kernel_rfl) ?_
   refine ry [7] (.cons rfl (fun K hK => ?_) .nil)
   rw [if_pos (by rfl)]
   refine wp_row (cs := mc ⟨1, c, Pn.zero, Msc.zero, 0, no⟩) isR h3 rfl rfl (one_all _) rfl rfl ?_
   intro u4 h4 M4
   refine hK.out _ _ (M4.below hHeld Lb3) (fun hNext => ?_)
   clear hK K
   replace hHeld := hNext
   clear hNext
   (try simp only [Act.put])
   clear M4 h3
   refine wpAnyH_done (by kernel_rfl) ?_ _
   have N13 : Hid (b1 ≠ b3) := Lib.hid (by have := lt_heap HR.out; omega)
   have N23 : Hid (b2 ≠ b3) := Lib.hid (by have := lt_heap HI.out; omega)
   have HN := Lib.hid h4
   have L3 : Hid (w.heap.size ≤ b3) := Lib.hid (by have := HB.out.size; omega)
   clear h4 Lb3
   replace HI := Lib.hid (stays HI.out hHeld)
   replace HR := Lib.hid (stays HR.out hHeld)
   replace HB := Lib.hid (below_on HB.out hHeld)
   clear hHeld
   obtain ⟨n0, n1, n18, n19⟩ := flds HN.out
   obtain ⟨i0, i1, i2⟩ := item HI.out
   go_wp2_with (first
    | (go_at_call 101; ((with_reducible refine (CPh.out _).mono ?_); rintro e w5 ⟨rfl, hb⟩; replace HI := Lib.hid (stays HI.out hb); replace HN := Lib.hid (stays HN.out hb); replace HR := Lib.hid (stays HR.out hb); replace HB := Lib.hid (below_on HB.out hb); clear hb n0 n1 n18 n19; obtain ⟨n0, n1, n18, n19⟩ := flds HN.out))
    | ((with_reducible refine stp (p := p) isPr HN.out ?hx ?hy ?_); (case hx => rfl); (case hy => rfl); intro w6 h6 M6; replace HI := Lib.hid (M6.other N23.out HI.out); replace HN := Lib.hid h6; replace HR := Lib.hid (M6.other N13.out HR.out); replace HB := Lib.hid (M6.below HB.out L3.out); clear n0 n1 n18 n19 i0 i1 i2 h6 M6; obtain ⟨i0, i1, i2⟩ := item HI.out)
    | ((with_reducible refine ldm isR HN.out ?hx ?_); (case hx => rfl))
    | ((with_reducible refine stm (m := ⟨1, c, p, Msc.zero, 0, no⟩) isR HR.out ?hx ?hy ?_); (case hx => rfl); (case hy => rfl); intro w9 h9 M9; replace HR := Lib.hid h9; replace HB := Lib.hid (M9.below HB.out L1.out); clear h9 M9))
   exact bodyPost_ret (rget_results _ _ b1 _ _ _ _ HR.out rfl rfl rfl) rfl ⟨rfl, HB.out⟩
set_option maxHeartbeats 800000 in
theorem rget_1_no (s v : ByteArray) (k n : Nat) (c : Bool) (p : Pn.Pr) (E : Int) (hE : (E != 0) = true) (CP : ∀ w, Calls Tryz.prog 101 #[.string v] w fun e w' => e = .returned (.tuple #[Pn.pv p, .int .i64 E]) ∧ Below w.heap.size w w') (CG : ∀ w, Calls Tryz.prog 100 #[.string s] w fun e w' => e = .returned (.tuple #[.agg #[.int .u8 (k : Int), .bool c, .string v], .int .i64 (n : Int), .int .i64 0]) ∧ Below w.heap.size w w') (CK : ∀ w, Calls Tryz.prog 75 #[.int .u8 (k : Int)] w fun e w' => e = .returned (.int .u8 1) ∧ Below w.heap.size w w') (w : World) :
 Calls Tryz.prog 79 #[.string s] w fun e w' => e = .returned (.tuple #[mv zero, .int .i64 0, .int .i64 70]) ∧ Below w.heap.size w w' := by
 have CGh := Lib.hid CG
 have CKh := Lib.hid CK
 clear CG CK
 have CPh := Lib.hid CP
 clear CP
 go_enter Tryz.func79, Tryz.ntmps79
 go_wp2_with (first
  | ((with_reducible refine alm zeroR ?_); intro b1 w1 h1 F1; have HR := Lib.hid h1; have L1 := Lib.hid (Nat.le_of_eq F1.eq.symm); have HB := Lib.hid F1.below; clear h1 F1)
  | (go_at_call 100; ((with_reducible refine (CGh.out _).mono ?_); rintro e w2 ⟨rfl, hb⟩; replace HR := Lib.hid (stays HR.out hb); replace HB := Lib.hid (below_on HB.out hb); clear hb))
  | ((with_reducible refine alr zeroI ?_); intro b2 w3 h3 F3; have N12 := Lib.hid (F3.ne HR.out); replace HR := Lib.hid (F3.stays HR.out); have L2 := Lib.hid (F3.le HB.out); replace HB := Lib.hid (F3.on HB.out); have HI0 := Lib.hid h3; clear h3 F3)
  | ((with_reducible refine str #[.int .u8 (k : Int), .bool c, .string v] isI HI0.out ?h0 ?h1 ?hc ?hx ?hy ?_); (case h0 => rfl); (case h1 => rfl); (case hc => (simp [Value.oneCell'])); (case hx => rfl); (case hy => rfl); intro wx h4 M4; have HI := Lib.hid h4; replace HR := Lib.hid (M4.other N12.out HR.out); replace HB := Lib.hid (M4.below HB.out L2.out); clear h4 M4 HI0))
 refine wp_region_held_drew (S := fun w' => Below wx.heap.size wx w') (by kernel_rfl) (Below.refl _ _).drew (fun hHeld => ?_)
 refine' tk9 0 rfl ?_
 refine' tv9 1 rfl (by intro _ hSw; (try dsimp only at hSw); obtain ⟨i0, i1, i2⟩ := item (stays HI.out hSw); go_simp <;> with_reducible rfl) ?_
 refine' tk9 3 rfl ?_
 refine' tv9 4 rfl (by intro _ hSw; (try dsimp only at hSw); obtain ⟨i0, i1, i2⟩ := item (stays HI.out hSw); go_simp <;> with_reducible rfl) ?_
 refine ry [2, 6] ?_
 refine AllReadyH.cons rfl (fun K hK => ?_) (AllReadyH.cons rfl (fun K hK => ?_) AllReadyH.nil)
 · go_simp
   (with_reducible refine (CKh.out _).mono ?_)
   rintro e wc ⟨rfl, hb⟩
   go_wp2_with fail
   refine hK.out _ _ (below_on hHeld hb) (fun hNext => ?_)
   clear hK K
   replace hHeld := hNext
   clear hNext
   (try simp only [Act.put, z1', z2', z3'])
   clear hb
   refine' tv9 5 rfl (by intro _ hSw; (try dsimp only at hSw); refine ex_bd ⟨1, c, Pn.zero, Msc.zero, 0, no⟩ ?_; kernel_rfl) ?_
   refine ry [6] (.cons rfl (fun K hK => ?_) .nil)
   rw [if_pos (by rfl)]
   refine wp_al zeroR ?_
   intro b3 u3 h3 F3
   have Lb3 := F3.le hHeld
   refine hK.out _ _ (F3.on hHeld) (fun hNext => ?_)
   clear hK K
   replace hHeld := hNext
   clear hNext
   (try simp only [Act.put, z1', z2', z3'])
   clear F3
   refine ry [7] (.cons rfl (fun K hK => ?_) .nil)
   rw [if_pos (by rfl)]
   refine wp_row (cs := mc ⟨1, c, Pn.zero, Msc.zero, 0, no⟩) isR h3 rfl rfl (one_all _) rfl rfl ?_
   intro u4 h4 M4
   refine hK.out _ _ (M4.below hHeld Lb3) (fun hNext => ?_)
   clear hK K
   replace hHeld := hNext
   clear hNext
   (try simp only [Act.put])
   clear M4 h3
   refine wpAnyH_done (by kernel_rfl) ?_ _
   have N13 : Hid (b1 ≠ b3) := Lib.hid (by have := lt_heap HR.out; omega)
   have N23 : Hid (b2 ≠ b3) := Lib.hid (by have := lt_heap HI.out; omega)
   have HN := Lib.hid h4
   have L3 : Hid (w.heap.size ≤ b3) := Lib.hid (by have := HB.out.size; omega)
   clear h4 Lb3
   replace HI := Lib.hid (stays HI.out hHeld)
   replace HR := Lib.hid (stays HR.out hHeld)
   replace HB := Lib.hid (below_on HB.out hHeld)
   clear hHeld
   obtain ⟨n0, n1, n18, n19⟩ := flds HN.out
   obtain ⟨i0, i1, i2⟩ := item HI.out
   go_wp2_with (first
    | (go_at_call 101; ((with_reducible refine (CPh.out _).mono ?_); rintro e w5 ⟨rfl, hb⟩; replace HI := Lib.hid (stays HI.out hb); replace HN := Lib.hid (stays HN.out hb); replace HR := Lib.hid (stays HR.out hb); replace HB := Lib.hid (below_on HB.out hb); clear hb n0 n1 n18 n19; obtain ⟨n0, n1, n18, n19⟩ := flds HN.out))
    | ((with_reducible refine stp (p := p) isPr HN.out ?hx ?hy ?_); (case hx => rfl); (case hy => rfl); intro w6 h6 M6; replace HI := Lib.hid (M6.other N23.out HI.out); replace HN := Lib.hid h6; replace HR := Lib.hid (M6.other N13.out HR.out); replace HB := Lib.hid (M6.below HB.out L3.out); clear n0 n1 n18 n19 i0 i1 i2 h6 M6; obtain ⟨i0, i1, i2⟩ := item HI.out)
    | ((with_reducible refine bdm (T := 79) (parts := #[]) zero ?hb ?_); (case hb => kernel_rfl))
    | ((with_reducible refine stm (m := zero) isR HR.out ?hx ?hy ?_); (case hx => rfl); (case hy => rfl); intro w9 h9 M9; replace HR := Lib.hid h9; replace HB := Lib.hid (M9.below HB.out L1.out); clear h9 M9))
   exact bodyPost_ret (rget_results _ _ b1 _ _ _ _ HR.out rfl rfl rfl) rfl ⟨rfl, HB.out⟩
 · rw [if_pos (by rfl)]
   refine wp_al zeroR ?_
   intro b3 u3 h3 F3
   have Lb3 := F3.le hHeld
   refine hK.out _ _ (F3.on hHeld) (fun hNext => ?_)
   clear hK K
   replace hHeld := hNext
   clear hNext
   (try simp only [Act.put, z1', z2', z3'])
   clear F3
   refine ry [2] (.cons rfl (fun K hK => ?_) .nil)
   go_simp
   (with_reducible refine (CKh.out _).mono ?_)
   rintro e wc ⟨rfl, hb⟩
   go_wp2_with fail
   replace h3 := stays h3 hb
   refine hK.out _ _ (below_on hHeld hb) (fun hNext => ?_)
   clear hK K
   replace hHeld := hNext
   clear hNext
   (try simp only [Act.put, z1', z2', z3'])
   clear hb
   refine' tv9 5 rfl (by intro _ hSw; (try dsimp only at hSw); refine ex_bd ⟨1, c, Pn.zero, Msc.zero, 0, no⟩ ?_; kernel_rfl) ?_
   refine ry [7] (.cons rfl (fun K hK => ?_) .nil)
   rw [if_pos (by rfl)]
   refine wp_row (cs := mc ⟨1, c, Pn.zero, Msc.zero, 0, no⟩) isR h3 rfl rfl (one_all _) rfl rfl ?_
   intro u4 h4 M4
   refine hK.out _ _ (M4.below hHeld Lb3) (fun hNext => ?_)
   clear hK K
   replace hHeld := hNext
   clear hNext
   (try simp only [Act.put])
   clear M4 h3
   refine wpAnyH_done (by kernel_rfl) ?_ _
   have N13 : Hid (b1 ≠ b3) := Lib.hid (by have := lt_heap HR.out; omega)
   have N23 : Hid (b2 ≠ b3) := Lib.hid (by have := lt_heap HI.out; omega)
   have HN := Lib.hid h4
   have L3 : Hid (w.heap.size ≤ b3) := Lib.hid (by have := HB.out.size; omega)
   clear h4 Lb3
   replace HI := Lib.hid (stays HI.out hHeld)
   replace HR := Lib.hid (stays HR.out hHeld)
   replace HB := Lib.hid (below_on HB.out hHeld)
   clear hHeld
   obtain ⟨n0, n1, n18, n19⟩ := flds HN.out
   obtain ⟨i0, i1, i2⟩ := item HI.out
   go_wp2_with (first
    | (go_at_call 101; ((with_reducible refine (CPh.out _).mono ?_); rintro e w5 ⟨rfl, hb⟩; replace HI := Lib.hid (stays HI.out hb); replace HN := Lib.hid (stays HN.out hb); replace HR := Lib.hid (stays HR.out hb); replace HB := Lib.hid (below_on HB.out hb); clear hb n0 n1 n18 n19; obtain ⟨n0, n1, n18, n19⟩ := flds HN.out))
    | ((with_reducible refine stp (p := p) isPr HN.out ?hx ?hy ?_); (case hx => rfl); (case hy => rfl); intro w6 h6 M6; replace HI := Lib.hid (M6.other N23.out HI.out); replace HN := Lib.hid h6; replace HR := Lib.hid (M6.other N13.out HR.out); replace HB := Lib.hid (M6.below HB.out L3.out); clear n0 n1 n18 n19 i0 i1 i2 h6 M6; obtain ⟨i0, i1, i2⟩ := item HI.out)
    | ((with_reducible refine bdm (T := 79) (parts := #[]) zero ?hb ?_); (case hb => kernel_rfl))
    | ((with_reducible refine stm (m := zero) isR HR.out ?hx ?hy ?_); (case hx => rfl); (case hy => rfl); intro w9 h9 M9; replace HR := Lib.hid h9; replace HB := Lib.hid (M9.below HB.out L1.out); clear h9 M9))
   exact bodyPost_ret (rget_results _ _ b1 _ _ _ _ HR.out rfl rfl rfl) rfl ⟨rfl, HB.out⟩
set_option maxHeartbeats 800000 in
theorem rget_2_yes (s v : ByteArray) (k n : Nat) (c : Bool) (p : Msc.St) (E : Int) (hE : (E != 0) = false) (CP : ∀ w, Calls Tryz.prog 102 #[.string v] w fun e w' => e = .returned (.tuple #[Msc.sv p, .int .i64 E]) ∧ Below w.heap.size w w') (CG : ∀ w, Calls Tryz.prog 100 #[.string s] w fun e w' => e = .returned (.tuple #[.agg #[.int .u8 (k : Int), .bool c, .string v], .int .i64 (n : Int), .int .i64 0]) ∧ Below w.heap.size w w') (CK : ∀ w, Calls Tryz.prog 75 #[.int .u8 (k : Int)] w fun e w' => e = .returned (.int .u8 2) ∧ Below w.heap.size w w') (w : World) :
 Calls Tryz.prog 79 #[.string s] w fun e w' => e = .returned (.tuple #[mv ⟨2, c, Pn.zero, p, 0, no⟩, .int .i64 (n : Int), .int .i64 0]) ∧ Below w.heap.size w w' := by
 have CGh := Lib.hid CG
 have CKh := Lib.hid CK
 clear CG CK
 have CPh := Lib.hid CP
 clear CP
 go_enter Tryz.func79, Tryz.ntmps79
 go_wp2_with (first
  | ((with_reducible refine alm zeroR ?_); intro b1 w1 h1 F1; have HR := Lib.hid h1; have L1 := Lib.hid (Nat.le_of_eq F1.eq.symm); have HB := Lib.hid F1.below; clear h1 F1)
  | (go_at_call 100; ((with_reducible refine (CGh.out _).mono ?_); rintro e w2 ⟨rfl, hb⟩; replace HR := Lib.hid (stays HR.out hb); replace HB := Lib.hid (below_on HB.out hb); clear hb))
  | ((with_reducible refine alr zeroI ?_); intro b2 w3 h3 F3; have N12 := Lib.hid (F3.ne HR.out); replace HR := Lib.hid (F3.stays HR.out); have L2 := Lib.hid (F3.le HB.out); replace HB := Lib.hid (F3.on HB.out); have HI0 := Lib.hid h3; clear h3 F3)
  | ((with_reducible refine str #[.int .u8 (k : Int), .bool c, .string v] isI HI0.out ?h0 ?h1 ?hc ?hx ?hy ?_); (case h0 => rfl); (case h1 => rfl); (case hc => (simp [Value.oneCell'])); (case hx => rfl); (case hy => rfl); intro wx h4 M4; have HI := Lib.hid h4; replace HR := Lib.hid (M4.other N12.out HR.out); replace HB := Lib.hid (M4.below HB.out L2.out); clear h4 M4 HI0))
 refine wp_region_held_drew (S := fun w' => Below wx.heap.size wx w') (by kernel_rfl) (Below.refl _ _).drew (fun hHeld => ?_)
 refine' tk9 0 rfl ?_
 refine' tv9 1 rfl (by intro _ hSw; (try dsimp only at hSw); obtain ⟨i0, i1, i2⟩ := item (stays HI.out hSw); go_simp <;> with_reducible rfl) ?_
 refine' tk9 3 rfl ?_
 refine' tv9 4 rfl (by intro _ hSw; (try dsimp only at hSw); obtain ⟨i0, i1, i2⟩ := item (stays HI.out hSw); go_simp <;> with_reducible rfl) ?_
 refine ry [2, 6] ?_
 refine AllReadyH.cons rfl (fun K hK => ?_) (AllReadyH.cons rfl (fun K hK => ?_) AllReadyH.nil)
 · go_simp
   (with_reducible refine (CKh.out _).mono ?_)
   rintro e wc ⟨rfl, hb⟩
   go_wp2_with fail
   refine hK.out _ _ (below_on hHeld hb) (fun hNext => ?_)
   clear hK K
   replace hHeld := hNext
   clear hNext
   (try simp only [Act.put, z1', z2', z3'])
   clear hb
   refine' tv9 5 rfl (by intro _ hSw; (try dsimp only at hSw); refine ex_bd ⟨2, c, Pn.zero, Msc.zero, 0, no⟩ ?_; kernel_rfl) ?_
   refine ry [6] (.cons rfl (fun K hK => ?_) .nil)
   rw [if_pos (by rfl)]
   refine wp_al zeroR ?_
   intro b3 u3 h3 F3
   have Lb3 := F3.le hHeld
   refine hK.out _ _ (F3.on hHeld) (fun hNext => ?_)
   clear hK K
   replace hHeld := hNext
   clear hNext
   (try simp only [Act.put, z1', z2', z3'])
   clear F3
   refine ry [7] (.cons rfl (fun K hK => ?_) .nil)
   rw [if_pos (by rfl)]
   refine wp_row (cs := mc ⟨2, c, Pn.zero, Msc.zero, 0, no⟩) isR h3 rfl rfl (one_all _) rfl rfl ?_
   intro u4 h4 M4
   refine hK.out _ _ (M4.below hHeld Lb3) (fun hNext => ?_)
   clear hK K
   replace hHeld := hNext
   clear hNext
   (try simp only [Act.put])
   clear M4 h3
   refine wpAnyH_done (by kernel_rfl) ?_ _
   have N13 : Hid (b1 ≠ b3) := Lib.hid (by have := lt_heap HR.out; omega)
   have N23 : Hid (b2 ≠ b3) := Lib.hid (by have := lt_heap HI.out; omega)
   have HN := Lib.hid h4
   have L3 : Hid (w.heap.size ≤ b3) := Lib.hid (by have := HB.out.size; omega)
   clear h4 Lb3
   replace HI := Lib.hid (stays HI.out hHeld)
   replace HR := Lib.hid (stays HR.out hHeld)
   replace HB := Lib.hid (below_on HB.out hHeld)
   clear hHeld
   obtain ⟨n0, n1, n18, n19⟩ := flds HN.out
   obtain ⟨i0, i1, i2⟩ := item HI.out
   go_wp2_with (first
    | (go_at_call 102; ((with_reducible refine (CPh.out _).mono ?_); rintro e w5 ⟨rfl, hb⟩; replace HI := Lib.hid (stays HI.out hb); replace HN := Lib.hid (stays HN.out hb); replace HR := Lib.hid (stays HR.out hb); replace HB := Lib.hid (below_on HB.out hb); clear hb n0 n1 n18 n19; obtain ⟨n0, n1, n18, n19⟩ := flds HN.out))
    | ((with_reducible refine sts (s := p) isSr HN.out ?hx ?hy ?_); (case hx => rfl); (case hy => rfl); intro w6 h6 M6; replace HI := Lib.hid (M6.other N23.out HI.out); replace HN := Lib.hid h6; replace HR := Lib.hid (M6.other N13.out HR.out); replace HB := Lib.hid (M6.below HB.out L3.out); clear n0 n1 n18 n19 i0 i1 i2 h6 M6; obtain ⟨i0, i1, i2⟩ := item HI.out)
    | ((with_reducible refine ldm isR HN.out ?hx ?_); (case hx => rfl))
    | ((with_reducible refine stm (m := ⟨2, c, Pn.zero, p, 0, no⟩) isR HR.out ?hx ?hy ?_); (case hx => rfl); (case hy => rfl); intro w9 h9 M9; replace HR := Lib.hid h9; replace HB := Lib.hid (M9.below HB.out L1.out); clear h9 M9))
   exact bodyPost_ret (rget_results _ _ b1 _ _ _ _ HR.out rfl rfl rfl) rfl ⟨rfl, HB.out⟩
 · rw [if_pos (by rfl)]
   refine wp_al zeroR ?_
   intro b3 u3 h3 F3
   have Lb3 := F3.le hHeld
   refine hK.out _ _ (F3.on hHeld) (fun hNext => ?_)
   clear hK K
   replace hHeld := hNext
   clear hNext
   (try simp only [Act.put, z1', z2', z3'])
   clear F3
   refine ry [2] (.cons rfl (fun K hK => ?_) .nil)
   go_simp
   (with_reducible refine (CKh.out _).mono ?_)
   rintro e wc ⟨rfl, hb⟩
   go_wp2_with fail
   replace h3 := stays h3 hb
   refine hK.out _ _ (below_on hHeld hb) (fun hNext => ?_)
   clear hK K
   replace hHeld := hNext
   clear hNext
   (try simp only [Act.put, z1', z2', z3'])
   clear hb
   refine' tv9 5 rfl (by intro _ hSw; (try dsimp only at hSw); refine ex_bd ⟨2, c, Pn.zero, Msc.zero, 0, no⟩ ?_; kernel_rfl) ?_
   refine ry [7] (.cons rfl (fun K hK => ?_) .nil)
   rw [if_pos (by rfl)]
   refine wp_row (cs := mc ⟨2, c, Pn.zero, Msc.zero, 0, no⟩) isR h3 rfl rfl (one_all _) rfl rfl ?_
   intro u4 h4 M4
   refine hK.out _ _ (M4.below hHeld Lb3) (fun hNext => ?_)
   clear hK K
   replace hHeld := hNext
   clear hNext
   (try simp only [Act.put])
   clear M4 h3
   refine wpAnyH_done (by kernel_rfl) ?_ _
   have N13 : Hid (b1 ≠ b3) := Lib.hid (by have := lt_heap HR.out; omega)
   have N23 : Hid (b2 ≠ b3) := Lib.hid (by have := lt_heap HI.out; omega)
   have HN := Lib.hid h4
   have L3 : Hid (w.heap.size ≤ b3) := Lib.hid (by have := HB.out.size; omega)
   clear h4 Lb3
   replace HI := Lib.hid (stays HI.out hHeld)
   replace HR := Lib.hid (stays HR.out hHeld)
   replace HB := Lib.hid (below_on HB.out hHeld)
   clear hHeld
   obtain ⟨n0, n1, n18, n19⟩ := flds HN.out
   obtain ⟨i0, i1, i2⟩ := item HI.out
   go_wp2_with (first
    | (go_at_call 102; ((with_reducible refine (CPh.out _).mono ?_); rintro e w5 ⟨rfl, hb⟩; replace HI := Lib.hid (stays HI.out hb); replace HN := Lib.hid (stays HN.out hb); replace HR := Lib.hid (stays HR.out hb); replace HB := Lib.hid (below_on HB.out hb); clear hb n0 n1 n18 n19; obtain ⟨n0, n1, n18, n19⟩ := flds HN.out))
    | ((with_reducible refine sts (s := p) isSr HN.out ?hx ?hy ?_); (case hx => rfl); (case hy => rfl); intro w6 h6 M6; replace HI := Lib.hid (M6.other N23.out HI.out); replace HN := Lib.hid h6; replace HR := Lib.hid (M6.other N13.out HR.out); replace HB := Lib.hid (M6.below HB.out L3.out); clear n0 n1 n18 n19 i0 i1 i2 h6 M6; obtain ⟨i0, i1, i2⟩ := item HI.out)
    | ((with_reducible refine ldm isR HN.out ?hx ?_); (case hx => rfl))
    | ((with_reducible refine stm (m := ⟨2, c, Pn.zero, p, 0, no⟩) isR HR.out ?hx ?hy ?_); (case hx => rfl); (case hy => rfl); intro w9 h9 M9; replace HR := Lib.hid h9; replace HB := Lib.hid (M9.below HB.out L1.out); clear h9 M9))
   exact bodyPost_ret (rget_results _ _ b1 _ _ _ _ HR.out rfl rfl rfl) rfl ⟨rfl, HB.out⟩
set_option maxHeartbeats 800000 in
theorem rget_2_no (s v : ByteArray) (k n : Nat) (c : Bool) (p : Msc.St) (E : Int) (hE : (E != 0) = true) (CP : ∀ w, Calls Tryz.prog 102 #[.string v] w fun e w' => e = .returned (.tuple #[Msc.sv p, .int .i64 E]) ∧ Below w.heap.size w w') (CG : ∀ w, Calls Tryz.prog 100 #[.string s] w fun e w' => e = .returned (.tuple #[.agg #[.int .u8 (k : Int), .bool c, .string v], .int .i64 (n : Int), .int .i64 0]) ∧ Below w.heap.size w w') (CK : ∀ w, Calls Tryz.prog 75 #[.int .u8 (k : Int)] w fun e w' => e = .returned (.int .u8 2) ∧ Below w.heap.size w w') (w : World) :
 Calls Tryz.prog 79 #[.string s] w fun e w' => e = .returned (.tuple #[mv zero, .int .i64 0, .int .i64 70]) ∧ Below w.heap.size w w' := by
 have CGh := Lib.hid CG
 have CKh := Lib.hid CK
 clear CG CK
 have CPh := Lib.hid CP
 clear CP
 go_enter Tryz.func79, Tryz.ntmps79
 go_wp2_with (first
  | ((with_reducible refine alm zeroR ?_); intro b1 w1 h1 F1; have HR := Lib.hid h1; have L1 := Lib.hid (Nat.le_of_eq F1.eq.symm); have HB := Lib.hid F1.below; clear h1 F1)
  | (go_at_call 100; ((with_reducible refine (CGh.out _).mono ?_); rintro e w2 ⟨rfl, hb⟩; replace HR := Lib.hid (stays HR.out hb); replace HB := Lib.hid (below_on HB.out hb); clear hb))
  | ((with_reducible refine alr zeroI ?_); intro b2 w3 h3 F3; have N12 := Lib.hid (F3.ne HR.out); replace HR := Lib.hid (F3.stays HR.out); have L2 := Lib.hid (F3.le HB.out); replace HB := Lib.hid (F3.on HB.out); have HI0 := Lib.hid h3; clear h3 F3)
  | ((with_reducible refine str #[.int .u8 (k : Int), .bool c, .string v] isI HI0.out ?h0 ?h1 ?hc ?hx ?hy ?_); (case h0 => rfl); (case h1 => rfl); (case hc => (simp [Value.oneCell'])); (case hx => rfl); (case hy => rfl); intro wx h4 M4; have HI := Lib.hid h4; replace HR := Lib.hid (M4.other N12.out HR.out); replace HB := Lib.hid (M4.below HB.out L2.out); clear h4 M4 HI0))
 refine wp_region_held_drew (S := fun w' => Below wx.heap.size wx w') (by kernel_rfl) (Below.refl _ _).drew (fun hHeld => ?_)
 refine' tk9 0 rfl ?_
 refine' tv9 1 rfl (by intro _ hSw; (try dsimp only at hSw); obtain ⟨i0, i1, i2⟩ := item (stays HI.out hSw); go_simp <;> with_reducible rfl) ?_
 refine' tk9 3 rfl ?_
 refine' tv9 4 rfl (by intro _ hSw; (try dsimp only at hSw); obtain ⟨i0, i1, i2⟩ := item (stays HI.out hSw); go_simp <;> with_reducible rfl) ?_
 refine ry [2, 6] ?_
 refine AllReadyH.cons rfl (fun K hK => ?_) (AllReadyH.cons rfl (fun K hK => ?_) AllReadyH.nil)
 · go_simp
   (with_reducible refine (CKh.out _).mono ?_)
   rintro e wc ⟨rfl, hb⟩
   go_wp2_with fail
   refine hK.out _ _ (below_on hHeld hb) (fun hNext => ?_)
   clear hK K
   replace hHeld := hNext
   clear hNext
   (try simp only [Act.put, z1', z2', z3'])
   clear hb
   refine' tv9 5 rfl (by intro _ hSw; (try dsimp only at hSw); refine ex_bd ⟨2, c, Pn.zero, Msc.zero, 0, no⟩ ?_; kernel_rfl) ?_
   refine ry [6] (.cons rfl (fun K hK => ?_) .nil)
   rw [if_pos (by rfl)]
   refine wp_al zeroR ?_
   intro b3 u3 h3 F3
   have Lb3 := F3.le hHeld
   refine hK.out _ _ (F3.on hHeld) (fun hNext => ?_)
   clear hK K
   replace hHeld := hNext
   clear hNext
   (try simp only [Act.put, z1', z2', z3'])
   clear F3
   refine ry [7] (.cons rfl (fun K hK => ?_) .nil)
   rw [if_pos (by rfl)]
   refine wp_row (cs := mc ⟨2, c, Pn.zero, Msc.zero, 0, no⟩) isR h3 rfl rfl (one_all _) rfl rfl ?_
   intro u4 h4 M4
   refine hK.out _ _ (M4.below hHeld Lb3) (fun hNext => ?_)
   clear hK K
   replace hHeld := hNext
   clear hNext
   (try simp only [Act.put])
   clear M4 h3
   refine wpAnyH_done (by kernel_rfl) ?_ _
   have N13 : Hid (b1 ≠ b3) := Lib.hid (by have := lt_heap HR.out; omega)
   have N23 : Hid (b2 ≠ b3) := Lib.hid (by have := lt_heap HI.out; omega)
   have HN := Lib.hid h4
   have L3 : Hid (w.heap.size ≤ b3) := Lib.hid (by have := HB.out.size; omega)
   clear h4 Lb3
   replace HI := Lib.hid (stays HI.out hHeld)
   replace HR := Lib.hid (stays HR.out hHeld)
   replace HB := Lib.hid (below_on HB.out hHeld)
   clear hHeld
   obtain ⟨n0, n1, n18, n19⟩ := flds HN.out
   obtain ⟨i0, i1, i2⟩ := item HI.out
   go_wp2_with (first
    | (go_at_call 102; ((with_reducible refine (CPh.out _).mono ?_); rintro e w5 ⟨rfl, hb⟩; replace HI := Lib.hid (stays HI.out hb); replace HN := Lib.hid (stays HN.out hb); replace HR := Lib.hid (stays HR.out hb); replace HB := Lib.hid (below_on HB.out hb); clear hb n0 n1 n18 n19; obtain ⟨n0, n1, n18, n19⟩ := flds HN.out))
    | ((with_reducible refine sts (s := p) isSr HN.out ?hx ?hy ?_); (case hx => rfl); (case hy => rfl); intro w6 h6 M6; replace HI := Lib.hid (M6.other N23.out HI.out); replace HN := Lib.hid h6; replace HR := Lib.hid (M6.other N13.out HR.out); replace HB := Lib.hid (M6.below HB.out L3.out); clear n0 n1 n18 n19 i0 i1 i2 h6 M6; obtain ⟨i0, i1, i2⟩ := item HI.out)
    | ((with_reducible refine bdm (T := 79) (parts := #[]) zero ?hb ?_); (case hb => kernel_rfl))
    | ((with_reducible refine stm (m := zero) isR HR.out ?hx ?hy ?_); (case hx => rfl); (case hy => rfl); intro w9 h9 M9; replace HR := Lib.hid h9; replace HB := Lib.hid (M9.below HB.out L1.out); clear h9 M9))
   exact bodyPost_ret (rget_results _ _ b1 _ _ _ _ HR.out rfl rfl rfl) rfl ⟨rfl, HB.out⟩
 · rw [if_pos (by rfl)]
   refine wp_al zeroR ?_
   intro b3 u3 h3 F3
   have Lb3 := F3.le hHeld
   refine hK.out _ _ (F3.on hHeld) (fun hNext => ?_)
   clear hK K
   replace hHeld := hNext
   clear hNext
   (try simp only [Act.put, z1', z2', z3'])
   clear F3
   refine ry [2] (.cons rfl (fun K hK => ?_) .nil)
   go_simp
   (with_reducible refine (CKh.out _).mono ?_)
   rintro e wc ⟨rfl, hb⟩
   go_wp2_with fail
   replace h3 := stays h3 hb
   refine hK.out _ _ (below_on hHeld hb) (fun hNext => ?_)
   clear hK K
   replace hHeld := hNext
   clear hNext
   (try simp only [Act.put, z1', z2', z3'])
   clear hb
   refine' tv9 5 rfl (by intro _ hSw; (try dsimp only at hSw); refine ex_bd ⟨2, c, Pn.zero, Msc.zero, 0, no⟩ ?_; kernel_rfl) ?_
   refine ry [7] (.cons rfl (fun K hK => ?_) .nil)
   rw [if_pos (by rfl)]
   refine wp_row (cs := mc ⟨2, c, Pn.zero, Msc.zero, 0, no⟩) isR h3 rfl rfl (one_all _) rfl rfl ?_
   intro u4 h4 M4
   refine hK.out _ _ (M4.below hHeld Lb3) (fun hNext => ?_)
   clear hK K
   replace hHeld := hNext
   clear hNext
   (try simp only [Act.put])
   clear M4 h3
   refine wpAnyH_done (by kernel_rfl) ?_ _
   have N13 : Hid (b1 ≠ b3) := Lib.hid (by have := lt_heap HR.out; omega)
   have N23 : Hid (b2 ≠ b3) := Lib.hid (by have := lt_heap HI.out; omega)
   have HN := Lib.hid h4
   have L3 : Hid (w.heap.size ≤ b3) := Lib.hid (by have := HB.out.size; omega)
   clear h4 Lb3
   replace HI := Lib.hid (stays HI.out hHeld)
   replace HR := Lib.hid (stays HR.out hHeld)
   replace HB := Lib.hid (below_on HB.out hHeld)
   clear hHeld
   obtain ⟨n0, n1, n18, n19⟩ := flds HN.out
   obtain ⟨i0, i1, i2⟩ := item HI.out
   go_wp2_with (first
    | (go_at_call 102; ((with_reducible refine (CPh.out _).mono ?_); rintro e w5 ⟨rfl, hb⟩; replace HI := Lib.hid (stays HI.out hb); replace HN := Lib.hid (stays HN.out hb); replace HR := Lib.hid (stays HR.out hb); replace HB := Lib.hid (below_on HB.out hb); clear hb n0 n1 n18 n19; obtain ⟨n0, n1, n18, n19⟩ := flds HN.out))
    | ((with_reducible refine sts (s := p) isSr HN.out ?hx ?hy ?_); (case hx => rfl); (case hy => rfl); intro w6 h6 M6; replace HI := Lib.hid (M6.other N23.out HI.out); replace HN := Lib.hid h6; replace HR := Lib.hid (M6.other N13.out HR.out); replace HB := Lib.hid (M6.below HB.out L3.out); clear n0 n1 n18 n19 i0 i1 i2 h6 M6; obtain ⟨i0, i1, i2⟩ := item HI.out)
    | ((with_reducible refine bdm (T := 79) (parts := #[]) zero ?hb ?_); (case hb => kernel_rfl))
    | ((with_reducible refine stm (m := zero) isR HR.out ?hx ?hy ?_); (case hx => rfl); (case hy => rfl); intro w9 h9 M9; replace HR := Lib.hid h9; replace HB := Lib.hid (M9.below HB.out L1.out); clear h9 M9))
   exact bodyPost_ret (rget_results _ _ b1 _ _ _ _ HR.out rfl rfl rfl) rfl ⟨rfl, HB.out⟩
set_option maxHeartbeats 800000 in
theorem rget_5 (s v : ByteArray) (k n : Nat) (c : Bool) (CG : ∀ w, Calls Tryz.prog 100 #[.string s] w fun e w' => e = .returned (.tuple #[.agg #[.int .u8 (k : Int), .bool c, .string v], .int .i64 (n : Int), .int .i64 0]) ∧ Below w.heap.size w w') (CK : ∀ w, Calls Tryz.prog 75 #[.int .u8 (k : Int)] w fun e w' => e = .returned (.int .u8 5) ∧ Below w.heap.size w w') (w : World) :
 Calls Tryz.prog 79 #[.string s] w fun e w' => e = .returned (.tuple #[mv ⟨5, c, Pn.zero, Msc.zero, 0, v⟩, .int .i64 (n : Int), .int .i64 0]) ∧ Below w.heap.size w w' := by
 have CGh := Lib.hid CG
 have CKh := Lib.hid CK
 clear CG CK
 go_enter Tryz.func79, Tryz.ntmps79
 go_wp2_with (first
  | ((with_reducible refine alm zeroR ?_); intro b1 w1 h1 F1; have HR := Lib.hid h1; have L1 := Lib.hid (Nat.le_of_eq F1.eq.symm); have HB := Lib.hid F1.below; clear h1 F1)
  | (go_at_call 100; ((with_reducible refine (CGh.out _).mono ?_); rintro e w2 ⟨rfl, hb⟩; replace HR := Lib.hid (stays HR.out hb); replace HB := Lib.hid (below_on HB.out hb); clear hb))
  | ((with_reducible refine alr zeroI ?_); intro b2 w3 h3 F3; have N12 := Lib.hid (F3.ne HR.out); replace HR := Lib.hid (F3.stays HR.out); have L2 := Lib.hid (F3.le HB.out); replace HB := Lib.hid (F3.on HB.out); have HI0 := Lib.hid h3; clear h3 F3)
  | ((with_reducible refine str #[.int .u8 (k : Int), .bool c, .string v] isI HI0.out ?h0 ?h1 ?hc ?hx ?hy ?_); (case h0 => rfl); (case h1 => rfl); (case hc => (simp [Value.oneCell'])); (case hx => rfl); (case hy => rfl); intro wx h4 M4; have HI := Lib.hid h4; replace HR := Lib.hid (M4.other N12.out HR.out); replace HB := Lib.hid (M4.below HB.out L2.out); clear h4 M4 HI0))
 refine wp_region_held_drew (S := fun w' => Below wx.heap.size wx w') (by kernel_rfl) (Below.refl _ _).drew (fun hHeld => ?_)
 refine' tk9 0 rfl ?_
 refine' tv9 1 rfl (by intro _ hSw; (try dsimp only at hSw); obtain ⟨i0, i1, i2⟩ := item (stays HI.out hSw); go_simp <;> with_reducible rfl) ?_
 refine' tk9 3 rfl ?_
 refine' tv9 4 rfl (by intro _ hSw; (try dsimp only at hSw); obtain ⟨i0, i1, i2⟩ := item (stays HI.out hSw); go_simp <;> with_reducible rfl) ?_
 refine ry [2, 6] ?_
 refine AllReadyH.cons rfl (fun K hK => ?_) (AllReadyH.cons rfl (fun K hK => ?_) AllReadyH.nil)
 · go_simp
   (with_reducible refine (CKh.out _).mono ?_)
   rintro e wc ⟨rfl, hb⟩
   go_wp2_with fail
   refine hK.out _ _ (below_on hHeld hb) (fun hNext => ?_)
   clear hK K
   replace hHeld := hNext
   clear hNext
   (try simp only [Act.put, z1', z2', z3'])
   clear hb
   refine' tv9 5 rfl (by intro _ hSw; (try dsimp only at hSw); refine ex_bd ⟨5, c, Pn.zero, Msc.zero, 0, no⟩ ?_; kernel_rfl) ?_
   refine ry [6] (.cons rfl (fun K hK => ?_) .nil)
   rw [if_pos (by rfl)]
   refine wp_al zeroR ?_
   intro b3 u3 h3 F3
   have Lb3 := F3.le hHeld
   refine hK.out _ _ (F3.on hHeld) (fun hNext => ?_)
   clear hK K
   replace hHeld := hNext
   clear hNext
   (try simp only [Act.put, z1', z2', z3'])
   clear F3
   refine ry [7] (.cons rfl (fun K hK => ?_) .nil)
   rw [if_pos (by rfl)]
   refine wp_row (cs := mc ⟨5, c, Pn.zero, Msc.zero, 0, no⟩) isR h3 rfl rfl (one_all _) rfl rfl ?_
   intro u4 h4 M4
   refine hK.out _ _ (M4.below hHeld Lb3) (fun hNext => ?_)
   clear hK K
   replace hHeld := hNext
   clear hNext
   (try simp only [Act.put])
   clear M4 h3
   refine wpAnyH_done (by kernel_rfl) ?_ _
   have N13 : Hid (b1 ≠ b3) := Lib.hid (by have := lt_heap HR.out; omega)
   have N23 : Hid (b2 ≠ b3) := Lib.hid (by have := lt_heap HI.out; omega)
   have HN := Lib.hid h4
   have L3 : Hid (w.heap.size ≤ b3) := Lib.hid (by have := HB.out.size; omega)
   clear h4 Lb3
   replace HI := Lib.hid (stays HI.out hHeld)
   replace HR := Lib.hid (stays HR.out hHeld)
   replace HB := Lib.hid (below_on HB.out hHeld)
   clear hHeld
   obtain ⟨n0, n1, n18, n19⟩ := flds HN.out
   obtain ⟨i0, i1, i2⟩ := item HI.out
   go_wp2_with (first
    | ((with_reducible refine stb (z := v) HN.out ?hx ?hy ?_); (case hx => rfl); (case hy => rfl); intro w6 h6 M6; replace HI := Lib.hid (M6.other N23.out HI.out); replace HN := Lib.hid h6; replace HR := Lib.hid (M6.other N13.out HR.out); replace HB := Lib.hid (M6.below HB.out L3.out); clear n0 n1 n18 n19 i0 i1 i2 h6 M6; obtain ⟨i0, i1, i2⟩ := item HI.out)
    | ((with_reducible refine ldm isR HN.out ?hx ?_); (case hx => rfl))
    | ((with_reducible refine stm (m := ⟨5, c, Pn.zero, Msc.zero, 0, v⟩) isR HR.out ?hx ?hy ?_); (case hx => rfl); (case hy => rfl); intro w9 h9 M9; replace HR := Lib.hid h9; replace HB := Lib.hid (M9.below HB.out L1.out); clear h9 M9))
   exact bodyPost_ret (rget_results _ _ b1 _ _ _ _ HR.out rfl rfl rfl) rfl ⟨rfl, HB.out⟩
 · rw [if_pos (by rfl)]
   refine wp_al zeroR ?_
   intro b3 u3 h3 F3
   have Lb3 := F3.le hHeld
   refine hK.out _ _ (F3.on hHeld) (fun hNext => ?_)
   clear hK K
   replace hHeld := hNext
   clear hNext
   (try simp only [Act.put, z1', z2', z3'])
   clear F3
   refine ry [2] (.cons rfl (fun K hK => ?_) .nil)
   go_simp
   (with_reducible refine (CKh.out _).mono ?_)
   rintro e wc ⟨rfl, hb⟩
   go_wp2_with fail
   replace h3 := stays h3 hb
   refine hK.out _ _ (below_on hHeld hb) (fun hNext => ?_)
   clear hK K
   replace hHeld := hNext
   clear hNext
   (try simp only [Act.put, z1', z2', z3'])
   clear hb
   refine' tv9 5 rfl (by intro _ hSw; (try dsimp only at hSw); refine ex_bd ⟨5, c, Pn.zero, Msc.zero, 0, no⟩ ?_; kernel_rfl) ?_
   refine ry [7] (.cons rfl (fun K hK => ?_) .nil)
   rw [if_pos (by rfl)]
   refine wp_row (cs := mc ⟨5, c, Pn.zero, Msc.zero, 0, no⟩) isR h3 rfl rfl (one_all _) rfl rfl ?_
   intro u4 h4 M4
   refine hK.out _ _ (M4.below hHeld Lb3) (fun hNext => ?_)
   clear hK K
   replace hHeld := hNext
   clear hNext
   (try simp only [Act.put])
   clear M4 h3
   refine wpAnyH_done (by kernel_rfl) ?_ _
   have N13 : Hid (b1 ≠ b3) := Lib.hid (by have := lt_heap HR.out; omega)
   have N23 : Hid (b2 ≠ b3) := Lib.hid (by have := lt_heap HI.out; omega)
   have HN := Lib.hid h4
   have L3 : Hid (w.heap.size ≤ b3) := Lib.hid (by have := HB.out.size; omega)
   clear h4 Lb3
   replace HI := Lib.hid (stays HI.out hHeld)
   replace HR := Lib.hid (stays HR.out hHeld)
   replace HB := Lib.hid (below_on HB.out hHeld)
   clear hHeld
   obtain ⟨n0, n1, n18, n19⟩ := flds HN.out
   obtain ⟨i0, i1, i2⟩ := item HI.out
   go_wp2_with (first
    | ((with_reducible refine stb (z := v) HN.out ?hx ?hy ?_); (case hx => rfl); (case hy => rfl); intro w6 h6 M6; replace HI := Lib.hid (M6.other N23.out HI.out); replace HN := Lib.hid h6; replace HR := Lib.hid (M6.other N13.out HR.out); replace HB := Lib.hid (M6.below HB.out L3.out); clear n0 n1 n18 n19 i0 i1 i2 h6 M6; obtain ⟨i0, i1, i2⟩ := item HI.out)
    | ((with_reducible refine ldm isR HN.out ?hx ?_); (case hx => rfl))
    | ((with_reducible refine stm (m := ⟨5, c, Pn.zero, Msc.zero, 0, v⟩) isR HR.out ?hx ?hy ?_); (case hx => rfl); (case hy => rfl); intro w9 h9 M9; replace HR := Lib.hid h9; replace HB := Lib.hid (M9.below HB.out L1.out); clear h9 M9))
   exact bodyPost_ret (rget_results _ _ b1 _ _ _ _ HR.out rfl rfl rfl) rfl ⟨rfl, HB.out⟩
set_option maxHeartbeats 800000 in
theorem rget_7 (s v : ByteArray) (k n : Nat) (c : Bool) (z : Nat) (j0 : ∀ W, (Instr.index 9 (.string v) (.int .i64 0)).run Tryz.prog W = .ok (.int .u8 (z : Int)) W) (hz : ((v.size : Int) == 1) = true) (CG : ∀ w, Calls Tryz.prog 100 #[.string s] w fun e w' => e = .returned (.tuple #[.agg #[.int .u8 (k : Int), .bool c, .string v], .int .i64 (n : Int), .int .i64 0]) ∧ Below w.heap.size w w') (CK : ∀ w, Calls Tryz.prog 75 #[.int .u8 (k : Int)] w fun e w' => e = .returned (.int .u8 7) ∧ Below w.heap.size w w') (w : World) :
 Calls Tryz.prog 79 #[.string s] w fun e w' => e = .returned (.tuple #[mv ⟨7, c, Pn.zero, Msc.zero, z, no⟩, .int .i64 (n : Int), .int .i64 0]) ∧ Below w.heap.size w w' := by
 have CGh := Lib.hid CG
 have CKh := Lib.hid CK
 clear CG CK
 go_enter Tryz.func79, Tryz.ntmps79
 go_wp2_with (first
  | ((with_reducible refine alm zeroR ?_); intro b1 w1 h1 F1; have HR := Lib.hid h1; have L1 := Lib.hid (Nat.le_of_eq F1.eq.symm); have HB := Lib.hid F1.below; clear h1 F1)
  | (go_at_call 100; ((with_reducible refine (CGh.out _).mono ?_); rintro e w2 ⟨rfl, hb⟩; replace HR := Lib.hid (stays HR.out hb); replace HB := Lib.hid (below_on HB.out hb); clear hb))
  | ((with_reducible refine alr zeroI ?_); intro b2 w3 h3 F3; have N12 := Lib.hid (F3.ne HR.out); replace HR := Lib.hid (F3.stays HR.out); have L2 := Lib.hid (F3.le HB.out); replace HB := Lib.hid (F3.on HB.out); have HI0 := Lib.hid h3; clear h3 F3)
  | ((with_reducible refine str #[.int .u8 (k : Int), .bool c, .string v] isI HI0.out ?h0 ?h1 ?hc ?hx ?hy ?_); (case h0 => rfl); (case h1 => rfl); (case hc => (simp [Value.oneCell'])); (case hx => rfl); (case hy => rfl); intro wx h4 M4; have HI := Lib.hid h4; replace HR := Lib.hid (M4.other N12.out HR.out); replace HB := Lib.hid (M4.below HB.out L2.out); clear h4 M4 HI0))
 refine wp_region_held_drew (S := fun w' => Below wx.heap.size wx w') (by kernel_rfl) (Below.refl _ _).drew (fun hHeld => ?_)
 refine' tk9 0 rfl ?_
 refine' tv9 1 rfl (by intro _ hSw; (try dsimp only at hSw); obtain ⟨i0, i1, i2⟩ := item (stays HI.out hSw); go_simp <;> with_reducible rfl) ?_
 refine' tk9 3 rfl ?_
 refine' tv9 4 rfl (by intro _ hSw; (try dsimp only at hSw); obtain ⟨i0, i1, i2⟩ := item (stays HI.out hSw); go_simp <;> with_reducible rfl) ?_
 refine ry [2, 6] ?_
 refine AllReadyH.cons rfl (fun K hK => ?_) (AllReadyH.cons rfl (fun K hK => ?_) AllReadyH.nil)
 · go_simp
   (with_reducible refine (CKh.out _).mono ?_)
   rintro e wc ⟨rfl, hb⟩
   go_wp2_with fail
   refine hK.out _ _ (below_on hHeld hb) (fun hNext => ?_)
   clear hK K
   replace hHeld := hNext
   clear hNext
   (try simp only [Act.put, z1', z2', z3'])
   clear hb
   refine' tv9 5 rfl (by intro _ hSw; (try dsimp only at hSw); refine ex_bd ⟨7, c, Pn.zero, Msc.zero, 0, no⟩ ?_; kernel_rfl) ?_
   refine ry [6] (.cons rfl (fun K hK => ?_) .nil)
   rw [if_pos (by rfl)]
   refine wp_al zeroR ?_
   intro b3 u3 h3 F3
   have Lb3 := F3.le hHeld
   refine hK.out _ _ (F3.on hHeld) (fun hNext => ?_)
   clear hK K
   replace hHeld := hNext
   clear hNext
   (try simp only [Act.put, z1', z2', z3'])
   clear F3
   refine ry [7] (.cons rfl (fun K hK => ?_) .nil)
   rw [if_pos (by rfl)]
   refine wp_row (cs := mc ⟨7, c, Pn.zero, Msc.zero, 0, no⟩) isR h3 rfl rfl (one_all _) rfl rfl ?_
   intro u4 h4 M4
   refine hK.out _ _ (M4.below hHeld Lb3) (fun hNext => ?_)
   clear hK K
   replace hHeld := hNext
   clear hNext
   (try simp only [Act.put])
   clear M4 h3
   refine wpAnyH_done (by kernel_rfl) ?_ _
   have N13 : Hid (b1 ≠ b3) := Lib.hid (by have := lt_heap HR.out; omega)
   have N23 : Hid (b2 ≠ b3) := Lib.hid (by have := lt_heap HI.out; omega)
   have HN := Lib.hid h4
   have L3 : Hid (w.heap.size ≤ b3) := Lib.hid (by have := HB.out.size; omega)
   clear h4 Lb3
   replace HI := Lib.hid (stays HI.out hHeld)
   replace HR := Lib.hid (stays HR.out hHeld)
   replace HB := Lib.hid (below_on HB.out hHeld)
   clear hHeld
   obtain ⟨n0, n1, n18, n19⟩ := flds HN.out
   obtain ⟨i0, i1, i2⟩ := item HI.out
   go_wp2_with (first
    | ((with_reducible refine stt (z := z) HN.out ?hx ?hy ?_); (case hx => rfl); (case hy => rfl); intro w5 h5 M5; replace HI := Lib.hid (M5.other N23.out HI.out); replace HN := Lib.hid h5; replace HR := Lib.hid (M5.other N13.out HR.out); replace HB := Lib.hid (M5.below HB.out L3.out); clear n0 n1 n18 n19 i0 i1 i2 h5 M5; obtain ⟨i0, i1, i2⟩ := item HI.out; obtain ⟨n0, n1, n18, n19⟩ := flds HN.out)
    | ((with_reducible refine ldm isR HN.out ?hx ?_); (case hx => rfl))
    | ((with_reducible refine stm (m := ⟨7, c, Pn.zero, Msc.zero, z, no⟩) isR HR.out ?hx ?hy ?_); (case hx => rfl); (case hy => rfl); intro w9 h9 M9; replace HR := Lib.hid h9; replace HB := Lib.hid (M9.below HB.out L1.out); clear h9 M9))
   exact bodyPost_ret (rget_results _ _ b1 _ _ _ _ HR.out rfl rfl rfl) rfl ⟨rfl, HB.out⟩
 · rw [if_pos (by rfl)]
   refine wp_al zeroR ?_
   intro b3 u3 h3 F3
   have Lb3 := F3.le hHeld
   refine hK.out _ _ (F3.on hHeld) (fun hNext => ?_)
   clear hK K
   replace hHeld := hNext
   clear hNext
   (try simp only [Act.put, z1', z2', z3'])
   clear F3
   refine ry [2] (.cons rfl (fun K hK => ?_) .nil)
   go_simp
   (with_reducible refine (CKh.out _).mono ?_)
   rintro e wc ⟨rfl, hb⟩
   go_wp2_with fail
   replace h3 := stays h3 hb
   refine hK.out _ _ (below_on hHeld hb) (fun hNext => ?_)
   clear hK K
   replace hHeld := hNext
   clear hNext
   (try simp only [Act.put, z1', z2', z3'])
   clear hb
   refine' tv9 5 rfl (by intro _ hSw; (try dsimp only at hSw); refine ex_bd ⟨7, c, Pn.zero, Msc.zero, 0, no⟩ ?_; kernel_rfl) ?_
   refine ry [7] (.cons rfl (fun K hK => ?_) .nil)
   rw [if_pos (by rfl)]
   refine wp_row (cs := mc ⟨7, c, Pn.zero, Msc.zero, 0, no⟩) isR h3 rfl rfl (one_all _) rfl rfl ?_
   intro u4 h4 M4
   refine hK.out _ _ (M4.below hHeld Lb3) (fun hNext => ?_)
   clear hK K
   replace hHeld := hNext
   clear hNext
   (try simp only [Act.put])
   clear M4 h3
   refine wpAnyH_done (by kernel_rfl) ?_ _
   have N13 : Hid (b1 ≠ b3) := Lib.hid (by have := lt_heap HR.out; omega)
   have N23 : Hid (b2 ≠ b3) := Lib.hid (by have := lt_heap HI.out; omega)
   have HN := Lib.hid h4
   have L3 : Hid (w.heap.size ≤ b3) := Lib.hid (by have := HB.out.size; omega)
   clear h4 Lb3
   replace HI := Lib.hid (stays HI.out hHeld)
   replace HR := Lib.hid (stays HR.out hHeld)
   replace HB := Lib.hid (below_on HB.out hHeld)
   clear hHeld
   obtain ⟨n0, n1, n18, n19⟩ := flds HN.out
   obtain ⟨i0, i1, i2⟩ := item HI.out
   go_wp2_with (first
    | ((with_reducible refine stt (z := z) HN.out ?hx ?hy ?_); (case hx => rfl); (case hy => rfl); intro w5 h5 M5; replace HI := Lib.hid (M5.other N23.out HI.out); replace HN := Lib.hid h5; replace HR := Lib.hid (M5.other N13.out HR.out); replace HB := Lib.hid (M5.below HB.out L3.out); clear n0 n1 n18 n19 i0 i1 i2 h5 M5; obtain ⟨i0, i1, i2⟩ := item HI.out; obtain ⟨n0, n1, n18, n19⟩ := flds HN.out)
    | ((with_reducible refine ldm isR HN.out ?hx ?_); (case hx => rfl))
    | ((with_reducible refine stm (m := ⟨7, c, Pn.zero, Msc.zero, z, no⟩) isR HR.out ?hx ?hy ?_); (case hx => rfl); (case hy => rfl); intro w9 h9 M9; replace HR := Lib.hid h9; replace HB := Lib.hid (M9.below HB.out L1.out); clear h9 M9))
   exact bodyPost_ret (rget_results _ _ b1 _ _ _ _ HR.out rfl rfl rfl) rfl ⟨rfl, HB.out⟩
set_option maxHeartbeats 800000 in
theorem rget_7no (s v : ByteArray) (k n : Nat) (c : Bool) (hz : ((v.size : Int) == 1) = false) (CG : ∀ w, Calls Tryz.prog 100 #[.string s] w fun e w' => e = .returned (.tuple #[.agg #[.int .u8 (k : Int), .bool c, .string v], .int .i64 (n : Int), .int .i64 0]) ∧ Below w.heap.size w w') (CK : ∀ w, Calls Tryz.prog 75 #[.int .u8 (k : Int)] w fun e w' => e = .returned (.int .u8 7) ∧ Below w.heap.size w w') (w : World) :
 Calls Tryz.prog 79 #[.string s] w fun e w' => e = .returned (.tuple #[mv zero, .int .i64 0, .int .i64 70]) ∧ Below w.heap.size w w' := by
 have CGh := Lib.hid CG
 have CKh := Lib.hid CK
 clear CG CK
 go_enter Tryz.func79, Tryz.ntmps79
 go_wp2_with (first
  | ((with_reducible refine alm zeroR ?_); intro b1 w1 h1 F1; have HR := Lib.hid h1; have L1 := Lib.hid (Nat.le_of_eq F1.eq.symm); have HB := Lib.hid F1.below; clear h1 F1)
  | (go_at_call 100; ((with_reducible refine (CGh.out _).mono ?_); rintro e w2 ⟨rfl, hb⟩; replace HR := Lib.hid (stays HR.out hb); replace HB := Lib.hid (below_on HB.out hb); clear hb))
  | ((with_reducible refine alr zeroI ?_); intro b2 w3 h3 F3; have N12 := Lib.hid (F3.ne HR.out); replace HR := Lib.hid (F3.stays HR.out); have L2 := Lib.hid (F3.le HB.out); replace HB := Lib.hid (F3.on HB.out); have HI0 := Lib.hid h3; clear h3 F3)
  | ((with_reducible refine str #[.int .u8 (k : Int), .bool c, .string v] isI HI0.out ?h0 ?h1 ?hc ?hx ?hy ?_); (case h0 => rfl); (case h1 => rfl); (case hc => (simp [Value.oneCell'])); (case hx => rfl); (case hy => rfl); intro wx h4 M4; have HI := Lib.hid h4; replace HR := Lib.hid (M4.other N12.out HR.out); replace HB := Lib.hid (M4.below HB.out L2.out); clear h4 M4 HI0))
 refine wp_region_held_drew (S := fun w' => Below wx.heap.size wx w') (by kernel_rfl) (Below.refl _ _).drew (fun hHeld => ?_)
 refine' tk9 0 rfl ?_
 refine' tv9 1 rfl (by intro _ hSw; (try dsimp only at hSw); obtain ⟨i0, i1, i2⟩ := item (stays HI.out hSw); go_simp <;> with_reducible rfl) ?_
 refine' tk9 3 rfl ?_
 refine' tv9 4 rfl (by intro _ hSw; (try dsimp only at hSw); obtain ⟨i0, i1, i2⟩ := item (stays HI.out hSw); go_simp <;> with_reducible rfl) ?_
 refine ry [2, 6] ?_
 refine AllReadyH.cons rfl (fun K hK => ?_) (AllReadyH.cons rfl (fun K hK => ?_) AllReadyH.nil)
 · go_simp
   (with_reducible refine (CKh.out _).mono ?_)
   rintro e wc ⟨rfl, hb⟩
   go_wp2_with fail
   refine hK.out _ _ (below_on hHeld hb) (fun hNext => ?_)
   clear hK K
   replace hHeld := hNext
   clear hNext
   (try simp only [Act.put, z1', z2', z3'])
   clear hb
   refine' tv9 5 rfl (by intro _ hSw; (try dsimp only at hSw); refine ex_bd ⟨7, c, Pn.zero, Msc.zero, 0, no⟩ ?_; kernel_rfl) ?_
   refine ry [6] (.cons rfl (fun K hK => ?_) .nil)
   rw [if_pos (by rfl)]
   refine wp_al zeroR ?_
   intro b3 u3 h3 F3
   have Lb3 := F3.le hHeld
   refine hK.out _ _ (F3.on hHeld) (fun hNext => ?_)
   clear hK K
   replace hHeld := hNext
   clear hNext
   (try simp only [Act.put, z1', z2', z3'])
   clear F3
   refine ry [7] (.cons rfl (fun K hK => ?_) .nil)
   rw [if_pos (by rfl)]
   refine wp_row (cs := mc ⟨7, c, Pn.zero, Msc.zero, 0, no⟩) isR h3 rfl rfl (one_all _) rfl rfl ?_
   intro u4 h4 M4
   refine hK.out _ _ (M4.below hHeld Lb3) (fun hNext => ?_)
   clear hK K
   replace hHeld := hNext
   clear hNext
   (try simp only [Act.put])
   clear M4 h3
   refine wpAnyH_done (by kernel_rfl) ?_ _
   have N13 : Hid (b1 ≠ b3) := Lib.hid (by have := lt_heap HR.out; omega)
   have N23 : Hid (b2 ≠ b3) := Lib.hid (by have := lt_heap HI.out; omega)
   have HN := Lib.hid h4
   have L3 : Hid (w.heap.size ≤ b3) := Lib.hid (by have := HB.out.size; omega)
   clear h4 Lb3
   replace HI := Lib.hid (stays HI.out hHeld)
   replace HR := Lib.hid (stays HR.out hHeld)
   replace HB := Lib.hid (below_on HB.out hHeld)
   clear hHeld
   obtain ⟨n0, n1, n18, n19⟩ := flds HN.out
   obtain ⟨i0, i1, i2⟩ := item HI.out
   go_wp2_with (first
    | ((with_reducible refine bdm (T := 79) (parts := #[]) zero ?hb ?_); (case hb => kernel_rfl))
    | ((with_reducible refine stm (m := zero) isR HR.out ?hx ?hy ?_); (case hx => rfl); (case hy => rfl); intro w9 h9 M9; replace HR := Lib.hid h9; replace HB := Lib.hid (M9.below HB.out L1.out); clear h9 M9))
   exact bodyPost_ret (rget_results _ _ b1 _ _ _ _ HR.out rfl rfl rfl) rfl ⟨rfl, HB.out⟩
 · rw [if_pos (by rfl)]
   refine wp_al zeroR ?_
   intro b3 u3 h3 F3
   have Lb3 := F3.le hHeld
   refine hK.out _ _ (F3.on hHeld) (fun hNext => ?_)
   clear hK K
   replace hHeld := hNext
   clear hNext
   (try simp only [Act.put, z1', z2', z3'])
   clear F3
   refine ry [2] (.cons rfl (fun K hK => ?_) .nil)
   go_simp
   (with_reducible refine (CKh.out _).mono ?_)
   rintro e wc ⟨rfl, hb⟩
   go_wp2_with fail
   replace h3 := stays h3 hb
   refine hK.out _ _ (below_on hHeld hb) (fun hNext => ?_)
   clear hK K
   replace hHeld := hNext
   clear hNext
   (try simp only [Act.put, z1', z2', z3'])
   clear hb
   refine' tv9 5 rfl (by intro _ hSw; (try dsimp only at hSw); refine ex_bd ⟨7, c, Pn.zero, Msc.zero, 0, no⟩ ?_; kernel_rfl) ?_
   refine ry [7] (.cons rfl (fun K hK => ?_) .nil)
   rw [if_pos (by rfl)]
   refine wp_row (cs := mc ⟨7, c, Pn.zero, Msc.zero, 0, no⟩) isR h3 rfl rfl (one_all _) rfl rfl ?_
   intro u4 h4 M4
   refine hK.out _ _ (M4.below hHeld Lb3) (fun hNext => ?_)
   clear hK K
   replace hHeld := hNext
   clear hNext
   (try simp only [Act.put])
   clear M4 h3
   refine wpAnyH_done (by kernel_rfl) ?_ _
   have N13 : Hid (b1 ≠ b3) := Lib.hid (by have := lt_heap HR.out; omega)
   have N23 : Hid (b2 ≠ b3) := Lib.hid (by have := lt_heap HI.out; omega)
   have HN := Lib.hid h4
   have L3 : Hid (w.heap.size ≤ b3) := Lib.hid (by have := HB.out.size; omega)
   clear h4 Lb3
   replace HI := Lib.hid (stays HI.out hHeld)
   replace HR := Lib.hid (stays HR.out hHeld)
   replace HB := Lib.hid (below_on HB.out hHeld)
   clear hHeld
   obtain ⟨n0, n1, n18, n19⟩ := flds HN.out
   obtain ⟨i0, i1, i2⟩ := item HI.out
   go_wp2_with (first
    | ((with_reducible refine bdm (T := 79) (parts := #[]) zero ?hb ?_); (case hb => kernel_rfl))
    | ((with_reducible refine stm (m := zero) isR HR.out ?hx ?hy ?_); (case hx => rfl); (case hy => rfl); intro w9 h9 M9; replace HR := Lib.hid h9; replace HB := Lib.hid (M9.below HB.out L1.out); clear h9 M9))
   exact bodyPost_ret (rget_results _ _ b1 _ _ _ _ HR.out rfl rfl rfl) rfl ⟨rfl, HB.out⟩
set_option maxHeartbeats 800000 in
theorem rget_8 (s v : ByteArray) (k n : Nat) (c : Bool) (CG : ∀ w, Calls Tryz.prog 100 #[.string s] w fun e w' => e = .returned (.tuple #[.agg #[.int .u8 (k : Int), .bool c, .string v], .int .i64 (n : Int), .int .i64 0]) ∧ Below w.heap.size w w') (CK : ∀ w, Calls Tryz.prog 75 #[.int .u8 (k : Int)] w fun e w' => e = .returned (.int .u8 8) ∧ Below w.heap.size w w') (w : World) :
 Calls Tryz.prog 79 #[.string s] w fun e w' => e = .returned (.tuple #[mv ⟨8, c, Pn.zero, Msc.zero, k, v⟩, .int .i64 (n : Int), .int .i64 0]) ∧ Below w.heap.size w w' := by
 have CGh := Lib.hid CG
 have CKh := Lib.hid CK
 clear CG CK
 go_enter Tryz.func79, Tryz.ntmps79
 go_wp2_with (first
  | ((with_reducible refine alm zeroR ?_); intro b1 w1 h1 F1; have HR := Lib.hid h1; have L1 := Lib.hid (Nat.le_of_eq F1.eq.symm); have HB := Lib.hid F1.below; clear h1 F1)
  | (go_at_call 100; ((with_reducible refine (CGh.out _).mono ?_); rintro e w2 ⟨rfl, hb⟩; replace HR := Lib.hid (stays HR.out hb); replace HB := Lib.hid (below_on HB.out hb); clear hb))
  | ((with_reducible refine alr zeroI ?_); intro b2 w3 h3 F3; have N12 := Lib.hid (F3.ne HR.out); replace HR := Lib.hid (F3.stays HR.out); have L2 := Lib.hid (F3.le HB.out); replace HB := Lib.hid (F3.on HB.out); have HI0 := Lib.hid h3; clear h3 F3)
  | ((with_reducible refine str #[.int .u8 (k : Int), .bool c, .string v] isI HI0.out ?h0 ?h1 ?hc ?hx ?hy ?_); (case h0 => rfl); (case h1 => rfl); (case hc => (simp [Value.oneCell'])); (case hx => rfl); (case hy => rfl); intro wx h4 M4; have HI := Lib.hid h4; replace HR := Lib.hid (M4.other N12.out HR.out); replace HB := Lib.hid (M4.below HB.out L2.out); clear h4 M4 HI0))
 refine wp_region_held_drew (S := fun w' => Below wx.heap.size wx w') (by kernel_rfl) (Below.refl _ _).drew (fun hHeld => ?_)
 refine' tk9 0 rfl ?_
 refine' tv9 1 rfl (by intro _ hSw; (try dsimp only at hSw); obtain ⟨i0, i1, i2⟩ := item (stays HI.out hSw); go_simp <;> with_reducible rfl) ?_
 refine' tk9 3 rfl ?_
 refine' tv9 4 rfl (by intro _ hSw; (try dsimp only at hSw); obtain ⟨i0, i1, i2⟩ := item (stays HI.out hSw); go_simp <;> with_reducible rfl) ?_
 refine ry [2, 6] ?_
 refine AllReadyH.cons rfl (fun K hK => ?_) (AllReadyH.cons rfl (fun K hK => ?_) AllReadyH.nil)
 · go_simp
   (with_reducible refine (CKh.out _).mono ?_)
   rintro e wc ⟨rfl, hb⟩
   go_wp2_with fail
   refine hK.out _ _ (below_on hHeld hb) (fun hNext => ?_)
   clear hK K
   replace hHeld := hNext
   clear hNext
   (try simp only [Act.put, z1', z2', z3'])
   clear hb
   refine' tv9 5 rfl (by intro _ hSw; (try dsimp only at hSw); refine ex_bd ⟨8, c, Pn.zero, Msc.zero, 0, no⟩ ?_; kernel_rfl) ?_
   refine ry [6] (.cons rfl (fun K hK => ?_) .nil)
   rw [if_pos (by rfl)]
   refine wp_al zeroR ?_
   intro b3 u3 h3 F3
   have Lb3 := F3.le hHeld
   refine hK.out _ _ (F3.on hHeld) (fun hNext => ?_)
   clear hK K
   replace hHeld := hNext
   clear hNext
   (try simp only [Act.put, z1', z2', z3'])
   clear F3
   refine ry [7] (.cons rfl (fun K hK => ?_) .nil)
   rw [if_pos (by rfl)]
   refine wp_row (cs := mc ⟨8, c, Pn.zero, Msc.zero, 0, no⟩) isR h3 rfl rfl (one_all _) rfl rfl ?_
   intro u4 h4 M4
   refine hK.out _ _ (M4.below hHeld Lb3) (fun hNext => ?_)
   clear hK K
   replace hHeld := hNext
   clear hNext
   (try simp only [Act.put])
   clear M4 h3
   refine wpAnyH_done (by kernel_rfl) ?_ _
   have N13 : Hid (b1 ≠ b3) := Lib.hid (by have := lt_heap HR.out; omega)
   have N23 : Hid (b2 ≠ b3) := Lib.hid (by have := lt_heap HI.out; omega)
   have HN := Lib.hid h4
   have L3 : Hid (w.heap.size ≤ b3) := Lib.hid (by have := HB.out.size; omega)
   clear h4 Lb3
   replace HI := Lib.hid (stays HI.out hHeld)
   replace HR := Lib.hid (stays HR.out hHeld)
   replace HB := Lib.hid (below_on HB.out hHeld)
   clear hHeld
   obtain ⟨n0, n1, n18, n19⟩ := flds HN.out
   obtain ⟨i0, i1, i2⟩ := item HI.out
   go_wp2_with (first
    | ((with_reducible refine stt (z := k) HN.out ?hx ?hy ?_); (case hx => rfl); (case hy => rfl); intro w5 h5 M5; replace HI := Lib.hid (M5.other N23.out HI.out); replace HN := Lib.hid h5; replace HR := Lib.hid (M5.other N13.out HR.out); replace HB := Lib.hid (M5.below HB.out L3.out); clear n0 n1 n18 n19 i0 i1 i2 h5 M5; obtain ⟨i0, i1, i2⟩ := item HI.out; obtain ⟨n0, n1, n18, n19⟩ := flds HN.out)
    | ((with_reducible refine stb (z := v) HN.out ?hx ?hy ?_); (case hx => rfl); (case hy => rfl); intro w6 h6 M6; replace HI := Lib.hid (M6.other N23.out HI.out); replace HN := Lib.hid h6; replace HR := Lib.hid (M6.other N13.out HR.out); replace HB := Lib.hid (M6.below HB.out L3.out); clear n0 n1 n18 n19 i0 i1 i2 h6 M6; obtain ⟨i0, i1, i2⟩ := item HI.out)
    | ((with_reducible refine ldm isR HN.out ?hx ?_); (case hx => rfl))
    | ((with_reducible refine stm (m := ⟨8, c, Pn.zero, Msc.zero, k, v⟩) isR HR.out ?hx ?hy ?_); (case hx => rfl); (case hy => rfl); intro w9 h9 M9; replace HR := Lib.hid h9; replace HB := Lib.hid (M9.below HB.out L1.out); clear h9 M9))
   exact bodyPost_ret (rget_results _ _ b1 _ _ _ _ HR.out rfl rfl rfl) rfl ⟨rfl, HB.out⟩
 · rw [if_pos (by rfl)]
   refine wp_al zeroR ?_
   intro b3 u3 h3 F3
   have Lb3 := F3.le hHeld
   refine hK.out _ _ (F3.on hHeld) (fun hNext => ?_)
   clear hK K
   replace hHeld := hNext
   clear hNext
   (try simp only [Act.put, z1', z2', z3'])
   clear F3
   refine ry [2] (.cons rfl (fun K hK => ?_) .nil)
   go_simp
   (with_reducible refine (CKh.out _).mono ?_)
   rintro e wc ⟨rfl, hb⟩
   go_wp2_with fail
   replace h3 := stays h3 hb
   refine hK.out _ _ (below_on hHeld hb) (fun hNext => ?_)
   clear hK K
   replace hHeld := hNext
   clear hNext
   (try simp only [Act.put, z1', z2', z3'])
   clear hb
   refine' tv9 5 rfl (by intro _ hSw; (try dsimp only at hSw); refine ex_bd ⟨8, c, Pn.zero, Msc.zero, 0, no⟩ ?_; kernel_rfl) ?_
   refine ry [7] (.cons rfl (fun K hK => ?_) .nil)
   rw [if_pos (by rfl)]
   refine wp_row (cs := mc ⟨8, c, Pn.zero, Msc.zero, 0, no⟩) isR h3 rfl rfl (one_all _) rfl rfl ?_
   intro u4 h4 M4
   refine hK.out _ _ (M4.below hHeld Lb3) (fun hNext => ?_)
   clear hK K
   replace hHeld := hNext
   clear hNext
   (try simp only [Act.put])
   clear M4 h3
   refine wpAnyH_done (by kernel_rfl) ?_ _
   have N13 : Hid (b1 ≠ b3) := Lib.hid (by have := lt_heap HR.out; omega)
   have N23 : Hid (b2 ≠ b3) := Lib.hid (by have := lt_heap HI.out; omega)
   have HN := Lib.hid h4
   have L3 : Hid (w.heap.size ≤ b3) := Lib.hid (by have := HB.out.size; omega)
   clear h4 Lb3
   replace HI := Lib.hid (stays HI.out hHeld)
   replace HR := Lib.hid (stays HR.out hHeld)
   replace HB := Lib.hid (below_on HB.out hHeld)
   clear hHeld
   obtain ⟨n0, n1, n18, n19⟩ := flds HN.out
   obtain ⟨i0, i1, i2⟩ := item HI.out
   go_wp2_with (first
    | ((with_reducible refine stt (z := k) HN.out ?hx ?hy ?_); (case hx => rfl); (case hy => rfl); intro w5 h5 M5; replace HI := Lib.hid (M5.other N23.out HI.out); replace HN := Lib.hid h5; replace HR := Lib.hid (M5.other N13.out HR.out); replace HB := Lib.hid (M5.below HB.out L3.out); clear n0 n1 n18 n19 i0 i1 i2 h5 M5; obtain ⟨i0, i1, i2⟩ := item HI.out; obtain ⟨n0, n1, n18, n19⟩ := flds HN.out)
    | ((with_reducible refine stb (z := v) HN.out ?hx ?hy ?_); (case hx => rfl); (case hy => rfl); intro w6 h6 M6; replace HI := Lib.hid (M6.other N23.out HI.out); replace HN := Lib.hid h6; replace HR := Lib.hid (M6.other N13.out HR.out); replace HB := Lib.hid (M6.below HB.out L3.out); clear n0 n1 n18 n19 i0 i1 i2 h6 M6; obtain ⟨i0, i1, i2⟩ := item HI.out)
    | ((with_reducible refine ldm isR HN.out ?hx ?_); (case hx => rfl))
    | ((with_reducible refine stm (m := ⟨8, c, Pn.zero, Msc.zero, k, v⟩) isR HR.out ?hx ?hy ?_); (case hx => rfl); (case hy => rfl); intro w9 h9 M9; replace HR := Lib.hid h9; replace HB := Lib.hid (M9.below HB.out L1.out); clear h9 M9))
   exact bodyPost_ret (rget_results _ _ b1 _ _ _ _ HR.out rfl rfl rfl) rfl ⟨rfl, HB.out⟩
set_option maxHeartbeats 800000 in
theorem rget_3_yes (s v : ByteArray) (k n : Nat) (c : Bool) (hx : v.toList.isEmpty = true) (CG : ∀ w, Calls Tryz.prog 100 #[.string s] w fun e w' => e = .returned (.tuple #[.agg #[.int .u8 (k : Int), .bool c, .string v], .int .i64 (n : Int), .int .i64 0]) ∧ Below w.heap.size w w') (CK : ∀ w, Calls Tryz.prog 75 #[.int .u8 (k : Int)] w fun e w' => e = .returned (.int .u8 3) ∧ Below w.heap.size w w') (w : World) :
 Calls Tryz.prog 79 #[.string s] w fun e w' => e = .returned (.tuple #[mv ⟨3, c, Pn.zero, Msc.zero, 0, no⟩, .int .i64 (n : Int), .int .i64 0]) ∧ Below w.heap.size w w' := by
 have CGh := Lib.hid CG
 have CKh := Lib.hid CK
 clear CG CK
 go_enter Tryz.func79, Tryz.ntmps79
 go_wp2_with (first
  | ((with_reducible refine alm zeroR ?_); intro b1 w1 h1 F1; have HR := Lib.hid h1; have L1 := Lib.hid (Nat.le_of_eq F1.eq.symm); have HB := Lib.hid F1.below; clear h1 F1)
  | (go_at_call 100; ((with_reducible refine (CGh.out _).mono ?_); rintro e w2 ⟨rfl, hb⟩; replace HR := Lib.hid (stays HR.out hb); replace HB := Lib.hid (below_on HB.out hb); clear hb))
  | ((with_reducible refine alr zeroI ?_); intro b2 w3 h3 F3; have N12 := Lib.hid (F3.ne HR.out); replace HR := Lib.hid (F3.stays HR.out); have L2 := Lib.hid (F3.le HB.out); replace HB := Lib.hid (F3.on HB.out); have HI0 := Lib.hid h3; clear h3 F3)
  | ((with_reducible refine str #[.int .u8 (k : Int), .bool c, .string v] isI HI0.out ?h0 ?h1 ?hc ?hx ?hy ?_); (case h0 => rfl); (case h1 => rfl); (case hc => (simp [Value.oneCell'])); (case hx => rfl); (case hy => rfl); intro wx h4 M4; have HI := Lib.hid h4; replace HR := Lib.hid (M4.other N12.out HR.out); replace HB := Lib.hid (M4.below HB.out L2.out); clear h4 M4 HI0))
 refine wp_region_held_drew (S := fun w' => Below wx.heap.size wx w') (by kernel_rfl) (Below.refl _ _).drew (fun hHeld => ?_)
 refine' tk9 0 rfl ?_
 refine' tv9 1 rfl (by intro _ hSw; (try dsimp only at hSw); obtain ⟨i0, i1, i2⟩ := item (stays HI.out hSw); go_simp <;> with_reducible rfl) ?_
 refine' tk9 3 rfl ?_
 refine' tv9 4 rfl (by intro _ hSw; (try dsimp only at hSw); obtain ⟨i0, i1, i2⟩ := item (stays HI.out hSw); go_simp <;> with_reducible rfl) ?_
 refine ry [2, 6] ?_
 refine AllReadyH.cons rfl (fun K hK => ?_) (AllReadyH.cons rfl (fun K hK => ?_) AllReadyH.nil)
 · go_simp
   (with_reducible refine (CKh.out _).mono ?_)
   rintro e wc ⟨rfl, hb⟩
   go_wp2_with fail
   refine hK.out _ _ (below_on hHeld hb) (fun hNext => ?_)
   clear hK K
   replace hHeld := hNext
   clear hNext
   (try simp only [Act.put, z1', z2', z3'])
   clear hb
   refine' tv9 5 rfl (by intro _ hSw; (try dsimp only at hSw); refine ex_bd ⟨3, c, Pn.zero, Msc.zero, 0, no⟩ ?_; kernel_rfl) ?_
   refine ry [6] (.cons rfl (fun K hK => ?_) .nil)
   rw [if_pos (by rfl)]
   refine wp_al zeroR ?_
   intro b3 u3 h3 F3
   have Lb3 := F3.le hHeld
   refine hK.out _ _ (F3.on hHeld) (fun hNext => ?_)
   clear hK K
   replace hHeld := hNext
   clear hNext
   (try simp only [Act.put, z1', z2', z3'])
   clear F3
   refine ry [7] (.cons rfl (fun K hK => ?_) .nil)
   rw [if_pos (by rfl)]
   refine wp_row (cs := mc ⟨3, c, Pn.zero, Msc.zero, 0, no⟩) isR h3 rfl rfl (one_all _) rfl rfl ?_
   intro u4 h4 M4
   refine hK.out _ _ (M4.below hHeld Lb3) (fun hNext => ?_)
   clear hK K
   replace hHeld := hNext
   clear hNext
   (try simp only [Act.put])
   clear M4 h3
   refine wpAnyH_done (by kernel_rfl) ?_ _
   have N13 : Hid (b1 ≠ b3) := Lib.hid (by have := lt_heap HR.out; omega)
   have N23 : Hid (b2 ≠ b3) := Lib.hid (by have := lt_heap HI.out; omega)
   have HN := Lib.hid h4
   have L3 : Hid (w.heap.size ≤ b3) := Lib.hid (by have := HB.out.size; omega)
   clear h4 Lb3
   replace HI := Lib.hid (stays HI.out hHeld)
   replace HR := Lib.hid (stays HR.out hHeld)
   replace HB := Lib.hid (below_on HB.out hHeld)
   clear hHeld
   obtain ⟨n0, n1, n18, n19⟩ := flds HN.out
   obtain ⟨i0, i1, i2⟩ := item HI.out
   go_wp2_with (first
    | ((with_reducible refine ldm isR HN.out ?hx ?_); (case hx => rfl))
    | ((with_reducible refine stm (m := ⟨3, c, Pn.zero, Msc.zero, 0, no⟩) isR HR.out ?hx ?hy ?_); (case hx => rfl); (case hy => rfl); intro w9 h9 M9; replace HR := Lib.hid h9; replace HB := Lib.hid (M9.below HB.out L1.out); clear h9 M9))
   exact bodyPost_ret (rget_results _ _ b1 _ _ _ _ HR.out rfl rfl rfl) rfl ⟨rfl, HB.out⟩
 · rw [if_pos (by rfl)]
   refine wp_al zeroR ?_
   intro b3 u3 h3 F3
   have Lb3 := F3.le hHeld
   refine hK.out _ _ (F3.on hHeld) (fun hNext => ?_)
   clear hK K
   replace hHeld := hNext
   clear hNext
   (try simp only [Act.put, z1', z2', z3'])
   clear F3
   refine ry [2] (.cons rfl (fun K hK => ?_) .nil)
   go_simp
   (with_reducible refine (CKh.out _).mono ?_)
   rintro e wc ⟨rfl, hb⟩
   go_wp2_with fail
   replace h3 := stays h3 hb
   refine hK.out _ _ (below_on hHeld hb) (fun hNext => ?_)
   clear hK K
   replace hHeld := hNext
   clear hNext
   (try simp only [Act.put, z1', z2', z3'])
   clear hb
   refine' tv9 5 rfl (by intro _ hSw; (try dsimp only at hSw); refine ex_bd ⟨3, c, Pn.zero, Msc.zero, 0, no⟩ ?_; kernel_rfl) ?_
   refine ry [7] (.cons rfl (fun K hK => ?_) .nil)
   rw [if_pos (by rfl)]
   refine wp_row (cs := mc ⟨3, c, Pn.zero, Msc.zero, 0, no⟩) isR h3 rfl rfl (one_all _) rfl rfl ?_
   intro u4 h4 M4
   refine hK.out _ _ (M4.below hHeld Lb3) (fun hNext => ?_)
   clear hK K
   replace hHeld := hNext
   clear hNext
   (try simp only [Act.put])
   clear M4 h3
   refine wpAnyH_done (by kernel_rfl) ?_ _
   have N13 : Hid (b1 ≠ b3) := Lib.hid (by have := lt_heap HR.out; omega)
   have N23 : Hid (b2 ≠ b3) := Lib.hid (by have := lt_heap HI.out; omega)
   have HN := Lib.hid h4
   have L3 : Hid (w.heap.size ≤ b3) := Lib.hid (by have := HB.out.size; omega)
   clear h4 Lb3
   replace HI := Lib.hid (stays HI.out hHeld)
   replace HR := Lib.hid (stays HR.out hHeld)
   replace HB := Lib.hid (below_on HB.out hHeld)
   clear hHeld
   obtain ⟨n0, n1, n18, n19⟩ := flds HN.out
   obtain ⟨i0, i1, i2⟩ := item HI.out
   go_wp2_with (first
    | ((with_reducible refine ldm isR HN.out ?hx ?_); (case hx => rfl))
    | ((with_reducible refine stm (m := ⟨3, c, Pn.zero, Msc.zero, 0, no⟩) isR HR.out ?hx ?hy ?_); (case hx => rfl); (case hy => rfl); intro w9 h9 M9; replace HR := Lib.hid h9; replace HB := Lib.hid (M9.below HB.out L1.out); clear h9 M9))
   exact bodyPost_ret (rget_results _ _ b1 _ _ _ _ HR.out rfl rfl rfl) rfl ⟨rfl, HB.out⟩
set_option maxHeartbeats 800000 in
theorem rget_3_no (s v : ByteArray) (k n : Nat) (c : Bool) (hx : v.toList.isEmpty = false) (CG : ∀ w, Calls Tryz.prog 100 #[.string s] w fun e w' => e = .returned (.tuple #[.agg #[.int .u8 (k : Int), .bool c, .string v], .int .i64 (n : Int), .int .i64 0]) ∧ Below w.heap.size w w') (CK : ∀ w, Calls Tryz.prog 75 #[.int .u8 (k : Int)] w fun e w' => e = .returned (.int .u8 3) ∧ Below w.heap.size w w') (w : World) :
 Calls Tryz.prog 79 #[.string s] w fun e w' => e = .returned (.tuple #[mv zero, .int .i64 0, .int .i64 70]) ∧ Below w.heap.size w w' := by
 have CGh := Lib.hid CG
 have CKh := Lib.hid CK
 clear CG CK
 go_enter Tryz.func79, Tryz.ntmps79
 go_wp2_with (first
  | ((with_reducible refine alm zeroR ?_); intro b1 w1 h1 F1; have HR := Lib.hid h1; have L1 := Lib.hid (Nat.le_of_eq F1.eq.symm); have HB := Lib.hid F1.below; clear h1 F1)
  | (go_at_call 100; ((with_reducible refine (CGh.out _).mono ?_); rintro e w2 ⟨rfl, hb⟩; replace HR := Lib.hid (stays HR.out hb); replace HB := Lib.hid (below_on HB.out hb); clear hb))
  | ((with_reducible refine alr zeroI ?_); intro b2 w3 h3 F3; have N12 := Lib.hid (F3.ne HR.out); replace HR := Lib.hid (F3.stays HR.out); have L2 := Lib.hid (F3.le HB.out); replace HB := Lib.hid (F3.on HB.out); have HI0 := Lib.hid h3; clear h3 F3)
  | ((with_reducible refine str #[.int .u8 (k : Int), .bool c, .string v] isI HI0.out ?h0 ?h1 ?hc ?hx ?hy ?_); (case h0 => rfl); (case h1 => rfl); (case hc => (simp [Value.oneCell'])); (case hx => rfl); (case hy => rfl); intro wx h4 M4; have HI := Lib.hid h4; replace HR := Lib.hid (M4.other N12.out HR.out); replace HB := Lib.hid (M4.below HB.out L2.out); clear h4 M4 HI0))
 refine wp_region_held_drew (S := fun w' => Below wx.heap.size wx w') (by kernel_rfl) (Below.refl _ _).drew (fun hHeld => ?_)
 refine' tk9 0 rfl ?_
 refine' tv9 1 rfl (by intro _ hSw; (try dsimp only at hSw); obtain ⟨i0, i1, i2⟩ := item (stays HI.out hSw); go_simp <;> with_reducible rfl) ?_
 refine' tk9 3 rfl ?_
 refine' tv9 4 rfl (by intro _ hSw; (try dsimp only at hSw); obtain ⟨i0, i1, i2⟩ := item (stays HI.out hSw); go_simp <;> with_reducible rfl) ?_
 refine ry [2, 6] ?_
 refine AllReadyH.cons rfl (fun K hK => ?_) (AllReadyH.cons rfl (fun K hK => ?_) AllReadyH.nil)
 · go_simp
   (with_reducible refine (CKh.out _).mono ?_)
   rintro e wc ⟨rfl, hb⟩
   go_wp2_with fail
   refine hK.out _ _ (below_on hHeld hb) (fun hNext => ?_)
   clear hK K
   replace hHeld := hNext
   clear hNext
   (try simp only [Act.put, z1', z2', z3'])
   clear hb
   refine' tv9 5 rfl (by intro _ hSw; (try dsimp only at hSw); refine ex_bd ⟨3, c, Pn.zero, Msc.zero, 0, no⟩ ?_; kernel_rfl) ?_
   refine ry [6] (.cons rfl (fun K hK => ?_) .nil)
   rw [if_pos (by rfl)]
   refine wp_al zeroR ?_
   intro b3 u3 h3 F3
   have Lb3 := F3.le hHeld
   refine hK.out _ _ (F3.on hHeld) (fun hNext => ?_)
   clear hK K
   replace hHeld := hNext
   clear hNext
   (try simp only [Act.put, z1', z2', z3'])
   clear F3
   refine ry [7] (.cons rfl (fun K hK => ?_) .nil)
   rw [if_pos (by rfl)]
   refine wp_row (cs := mc ⟨3, c, Pn.zero, Msc.zero, 0, no⟩) isR h3 rfl rfl (one_all _) rfl rfl ?_
   intro u4 h4 M4
   refine hK.out _ _ (M4.below hHeld Lb3) (fun hNext => ?_)
   clear hK K
   replace hHeld := hNext
   clear hNext
   (try simp only [Act.put])
   clear M4 h3
   refine wpAnyH_done (by kernel_rfl) ?_ _
   have N13 : Hid (b1 ≠ b3) := Lib.hid (by have := lt_heap HR.out; omega)
   have N23 : Hid (b2 ≠ b3) := Lib.hid (by have := lt_heap HI.out; omega)
   have HN := Lib.hid h4
   have L3 : Hid (w.heap.size ≤ b3) := Lib.hid (by have := HB.out.size; omega)
   clear h4 Lb3
   replace HI := Lib.hid (stays HI.out hHeld)
   replace HR := Lib.hid (stays HR.out hHeld)
   replace HB := Lib.hid (below_on HB.out hHeld)
   clear hHeld
   obtain ⟨n0, n1, n18, n19⟩ := flds HN.out
   obtain ⟨i0, i1, i2⟩ := item HI.out
   go_wp2_with (first
    | ((with_reducible refine bdm (T := 79) (parts := #[]) zero ?hb ?_); (case hb => kernel_rfl))
    | ((with_reducible refine stm (m := zero) isR HR.out ?hx ?hy ?_); (case hx => rfl); (case hy => rfl); intro w9 h9 M9; replace HR := Lib.hid h9; replace HB := Lib.hid (M9.below HB.out L1.out); clear h9 M9))
   exact bodyPost_ret (rget_results _ _ b1 _ _ _ _ HR.out rfl rfl rfl) rfl ⟨rfl, HB.out⟩
 · rw [if_pos (by rfl)]
   refine wp_al zeroR ?_
   intro b3 u3 h3 F3
   have Lb3 := F3.le hHeld
   refine hK.out _ _ (F3.on hHeld) (fun hNext => ?_)
   clear hK K
   replace hHeld := hNext
   clear hNext
   (try simp only [Act.put, z1', z2', z3'])
   clear F3
   refine ry [2] (.cons rfl (fun K hK => ?_) .nil)
   go_simp
   (with_reducible refine (CKh.out _).mono ?_)
   rintro e wc ⟨rfl, hb⟩
   go_wp2_with fail
   replace h3 := stays h3 hb
   refine hK.out _ _ (below_on hHeld hb) (fun hNext => ?_)
   clear hK K
   replace hHeld := hNext
   clear hNext
   (try simp only [Act.put, z1', z2', z3'])
   clear hb
   refine' tv9 5 rfl (by intro _ hSw; (try dsimp only at hSw); refine ex_bd ⟨3, c, Pn.zero, Msc.zero, 0, no⟩ ?_; kernel_rfl) ?_
   refine ry [7] (.cons rfl (fun K hK => ?_) .nil)
   rw [if_pos (by rfl)]
   refine wp_row (cs := mc ⟨3, c, Pn.zero, Msc.zero, 0, no⟩) isR h3 rfl rfl (one_all _) rfl rfl ?_
   intro u4 h4 M4
   refine hK.out _ _ (M4.below hHeld Lb3) (fun hNext => ?_)
   clear hK K
   replace hHeld := hNext
   clear hNext
   (try simp only [Act.put])
   clear M4 h3
   refine wpAnyH_done (by kernel_rfl) ?_ _
   have N13 : Hid (b1 ≠ b3) := Lib.hid (by have := lt_heap HR.out; omega)
   have N23 : Hid (b2 ≠ b3) := Lib.hid (by have := lt_heap HI.out; omega)
   have HN := Lib.hid h4
   have L3 : Hid (w.heap.size ≤ b3) := Lib.hid (by have := HB.out.size; omega)
   clear h4 Lb3
   replace HI := Lib.hid (stays HI.out hHeld)
   replace HR := Lib.hid (stays HR.out hHeld)
   replace HB := Lib.hid (below_on HB.out hHeld)
   clear hHeld
   obtain ⟨n0, n1, n18, n19⟩ := flds HN.out
   obtain ⟨i0, i1, i2⟩ := item HI.out
   go_wp2_with (first
    | ((with_reducible refine bdm (T := 79) (parts := #[]) zero ?hb ?_); (case hb => kernel_rfl))
    | ((with_reducible refine stm (m := zero) isR HR.out ?hx ?hy ?_); (case hx => rfl); (case hy => rfl); intro w9 h9 M9; replace HR := Lib.hid h9; replace HB := Lib.hid (M9.below HB.out L1.out); clear h9 M9))
   exact bodyPost_ret (rget_results _ _ b1 _ _ _ _ HR.out rfl rfl rfl) rfl ⟨rfl, HB.out⟩
set_option maxHeartbeats 800000 in
theorem rget_4_yes (s v : ByteArray) (k n : Nat) (c : Bool) (hx : v.toList.isEmpty = true) (CG : ∀ w, Calls Tryz.prog 100 #[.string s] w fun e w' => e = .returned (.tuple #[.agg #[.int .u8 (k : Int), .bool c, .string v], .int .i64 (n : Int), .int .i64 0]) ∧ Below w.heap.size w w') (CK : ∀ w, Calls Tryz.prog 75 #[.int .u8 (k : Int)] w fun e w' => e = .returned (.int .u8 4) ∧ Below w.heap.size w w') (w : World) :
 Calls Tryz.prog 79 #[.string s] w fun e w' => e = .returned (.tuple #[mv ⟨4, c, Pn.zero, Msc.zero, 0, no⟩, .int .i64 (n : Int), .int .i64 0]) ∧ Below w.heap.size w w' := by
 have CGh := Lib.hid CG
 have CKh := Lib.hid CK
 clear CG CK
 go_enter Tryz.func79, Tryz.ntmps79
 go_wp2_with (first
  | ((with_reducible refine alm zeroR ?_); intro b1 w1 h1 F1; have HR := Lib.hid h1; have L1 := Lib.hid (Nat.le_of_eq F1.eq.symm); have HB := Lib.hid F1.below; clear h1 F1)
  | (go_at_call 100; ((with_reducible refine (CGh.out _).mono ?_); rintro e w2 ⟨rfl, hb⟩; replace HR := Lib.hid (stays HR.out hb); replace HB := Lib.hid (below_on HB.out hb); clear hb))
  | ((with_reducible refine alr zeroI ?_); intro b2 w3 h3 F3; have N12 := Lib.hid (F3.ne HR.out); replace HR := Lib.hid (F3.stays HR.out); have L2 := Lib.hid (F3.le HB.out); replace HB := Lib.hid (F3.on HB.out); have HI0 := Lib.hid h3; clear h3 F3)
  | ((with_reducible refine str #[.int .u8 (k : Int), .bool c, .string v] isI HI0.out ?h0 ?h1 ?hc ?hx ?hy ?_); (case h0 => rfl); (case h1 => rfl); (case hc => (simp [Value.oneCell'])); (case hx => rfl); (case hy => rfl); intro wx h4 M4; have HI := Lib.hid h4; replace HR := Lib.hid (M4.other N12.out HR.out); replace HB := Lib.hid (M4.below HB.out L2.out); clear h4 M4 HI0))
 refine wp_region_held_drew (S := fun w' => Below wx.heap.size wx w') (by kernel_rfl) (Below.refl _ _).drew (fun hHeld => ?_)
 refine' tk9 0 rfl ?_
 refine' tv9 1 rfl (by intro _ hSw; (try dsimp only at hSw); obtain ⟨i0, i1, i2⟩ := item (stays HI.out hSw); go_simp <;> with_reducible rfl) ?_
 refine' tk9 3 rfl ?_
 refine' tv9 4 rfl (by intro _ hSw; (try dsimp only at hSw); obtain ⟨i0, i1, i2⟩ := item (stays HI.out hSw); go_simp <;> with_reducible rfl) ?_
 refine ry [2, 6] ?_
 refine AllReadyH.cons rfl (fun K hK => ?_) (AllReadyH.cons rfl (fun K hK => ?_) AllReadyH.nil)
 · go_simp
   (with_reducible refine (CKh.out _).mono ?_)
   rintro e wc ⟨rfl, hb⟩
   go_wp2_with fail
   refine hK.out _ _ (below_on hHeld hb) (fun hNext => ?_)
   clear hK K
   replace hHeld := hNext
   clear hNext
   (try simp only [Act.put, z1', z2', z3'])
   clear hb
   refine' tv9 5 rfl (by intro _ hSw; (try dsimp only at hSw); refine ex_bd ⟨4, c, Pn.zero, Msc.zero, 0, no⟩ ?_; kernel_rfl) ?_
   refine ry [6] (.cons rfl (fun K hK => ?_) .nil)
   rw [if_pos (by rfl)]
   refine wp_al zeroR ?_
   intro b3 u3 h3 F3
   have Lb3 := F3.le hHeld
   refine hK.out _ _ (F3.on hHeld) (fun hNext => ?_)
   clear hK K
   replace hHeld := hNext
   clear hNext
   (try simp only [Act.put, z1', z2', z3'])
   clear F3
   refine ry [7] (.cons rfl (fun K hK => ?_) .nil)
   rw [if_pos (by rfl)]
   refine wp_row (cs := mc ⟨4, c, Pn.zero, Msc.zero, 0, no⟩) isR h3 rfl rfl (one_all _) rfl rfl ?_
   intro u4 h4 M4
   refine hK.out _ _ (M4.below hHeld Lb3) (fun hNext => ?_)
   clear hK K
   replace hHeld := hNext
   clear hNext
   (try simp only [Act.put])
   clear M4 h3
   refine wpAnyH_done (by kernel_rfl) ?_ _
   have N13 : Hid (b1 ≠ b3) := Lib.hid (by have := lt_heap HR.out; omega)
   have N23 : Hid (b2 ≠ b3) := Lib.hid (by have := lt_heap HI.out; omega)
   have HN := Lib.hid h4
   have L3 : Hid (w.heap.size ≤ b3) := Lib.hid (by have := HB.out.size; omega)
   clear h4 Lb3
   replace HI := Lib.hid (stays HI.out hHeld)
   replace HR := Lib.hid (stays HR.out hHeld)
   replace HB := Lib.hid (below_on HB.out hHeld)
   clear hHeld
   obtain ⟨n0, n1, n18, n19⟩ := flds HN.out
   obtain ⟨i0, i1, i2⟩ := item HI.out
   go_wp2_with (first
    | ((with_reducible refine ldm isR HN.out ?hx ?_); (case hx => rfl))
    | ((with_reducible refine stm (m := ⟨4, c, Pn.zero, Msc.zero, 0, no⟩) isR HR.out ?hx ?hy ?_); (case hx => rfl); (case hy => rfl); intro w9 h9 M9; replace HR := Lib.hid h9; replace HB := Lib.hid (M9.below HB.out L1.out); clear h9 M9))
   exact bodyPost_ret (rget_results _ _ b1 _ _ _ _ HR.out rfl rfl rfl) rfl ⟨rfl, HB.out⟩
 · rw [if_pos (by rfl)]
   refine wp_al zeroR ?_
   intro b3 u3 h3 F3
   have Lb3 := F3.le hHeld
   refine hK.out _ _ (F3.on hHeld) (fun hNext => ?_)
   clear hK K
   replace hHeld := hNext
   clear hNext
   (try simp only [Act.put, z1', z2', z3'])
   clear F3
   refine ry [2] (.cons rfl (fun K hK => ?_) .nil)
   go_simp
   (with_reducible refine (CKh.out _).mono ?_)
   rintro e wc ⟨rfl, hb⟩
   go_wp2_with fail
   replace h3 := stays h3 hb
   refine hK.out _ _ (below_on hHeld hb) (fun hNext => ?_)
   clear hK K
   replace hHeld := hNext
   clear hNext
   (try simp only [Act.put, z1', z2', z3'])
   clear hb
   refine' tv9 5 rfl (by intro _ hSw; (try dsimp only at hSw); refine ex_bd ⟨4, c, Pn.zero, Msc.zero, 0, no⟩ ?_; kernel_rfl) ?_
   refine ry [7] (.cons rfl (fun K hK => ?_) .nil)
   rw [if_pos (by rfl)]
   refine wp_row (cs := mc ⟨4, c, Pn.zero, Msc.zero, 0, no⟩) isR h3 rfl rfl (one_all _) rfl rfl ?_
   intro u4 h4 M4
   refine hK.out _ _ (M4.below hHeld Lb3) (fun hNext => ?_)
   clear hK K
   replace hHeld := hNext
   clear hNext
   (try simp only [Act.put])
   clear M4 h3
   refine wpAnyH_done (by kernel_rfl) ?_ _
   have N13 : Hid (b1 ≠ b3) := Lib.hid (by have := lt_heap HR.out; omega)
   have N23 : Hid (b2 ≠ b3) := Lib.hid (by have := lt_heap HI.out; omega)
   have HN := Lib.hid h4
   have L3 : Hid (w.heap.size ≤ b3) := Lib.hid (by have := HB.out.size; omega)
   clear h4 Lb3
   replace HI := Lib.hid (stays HI.out hHeld)
   replace HR := Lib.hid (stays HR.out hHeld)
   replace HB := Lib.hid (below_on HB.out hHeld)
   clear hHeld
   obtain ⟨n0, n1, n18, n19⟩ := flds HN.out
   obtain ⟨i0, i1, i2⟩ := item HI.out
   go_wp2_with (first
    | ((with_reducible refine ldm isR HN.out ?hx ?_); (case hx => rfl))
    | ((with_reducible refine stm (m := ⟨4, c, Pn.zero, Msc.zero, 0, no⟩) isR HR.out ?hx ?hy ?_); (case hx => rfl); (case hy => rfl); intro w9 h9 M9; replace HR := Lib.hid h9; replace HB := Lib.hid (M9.below HB.out L1.out); clear h9 M9))
   exact bodyPost_ret (rget_results _ _ b1 _ _ _ _ HR.out rfl rfl rfl) rfl ⟨rfl, HB.out⟩
set_option maxHeartbeats 800000 in
theorem rget_4_no (s v : ByteArray) (k n : Nat) (c : Bool) (hx : v.toList.isEmpty = false) (CG : ∀ w, Calls Tryz.prog 100 #[.string s] w fun e w' => e = .returned (.tuple #[.agg #[.int .u8 (k : Int), .bool c, .string v], .int .i64 (n : Int), .int .i64 0]) ∧ Below w.heap.size w w') (CK : ∀ w, Calls Tryz.prog 75 #[.int .u8 (k : Int)] w fun e w' => e = .returned (.int .u8 4) ∧ Below w.heap.size w w') (w : World) :
 Calls Tryz.prog 79 #[.string s] w fun e w' => e = .returned (.tuple #[mv zero, .int .i64 0, .int .i64 70]) ∧ Below w.heap.size w w' := by
 have CGh := Lib.hid CG
 have CKh := Lib.hid CK
 clear CG CK
 go_enter Tryz.func79, Tryz.ntmps79
 go_wp2_with (first
  | ((with_reducible refine alm zeroR ?_); intro b1 w1 h1 F1; have HR := Lib.hid h1; have L1 := Lib.hid (Nat.le_of_eq F1.eq.symm); have HB := Lib.hid F1.below; clear h1 F1)
  | (go_at_call 100; ((with_reducible refine (CGh.out _).mono ?_); rintro e w2 ⟨rfl, hb⟩; replace HR := Lib.hid (stays HR.out hb); replace HB := Lib.hid (below_on HB.out hb); clear hb))
  | ((with_reducible refine alr zeroI ?_); intro b2 w3 h3 F3; have N12 := Lib.hid (F3.ne HR.out); replace HR := Lib.hid (F3.stays HR.out); have L2 := Lib.hid (F3.le HB.out); replace HB := Lib.hid (F3.on HB.out); have HI0 := Lib.hid h3; clear h3 F3)
  | ((with_reducible refine str #[.int .u8 (k : Int), .bool c, .string v] isI HI0.out ?h0 ?h1 ?hc ?hx ?hy ?_); (case h0 => rfl); (case h1 => rfl); (case hc => (simp [Value.oneCell'])); (case hx => rfl); (case hy => rfl); intro wx h4 M4; have HI := Lib.hid h4; replace HR := Lib.hid (M4.other N12.out HR.out); replace HB := Lib.hid (M4.below HB.out L2.out); clear h4 M4 HI0))
 refine wp_region_held_drew (S := fun w' => Below wx.heap.size wx w') (by kernel_rfl) (Below.refl _ _).drew (fun hHeld => ?_)
 refine' tk9 0 rfl ?_
 refine' tv9 1 rfl (by intro _ hSw; (try dsimp only at hSw); obtain ⟨i0, i1, i2⟩ := item (stays HI.out hSw); go_simp <;> with_reducible rfl) ?_
 refine' tk9 3 rfl ?_
 refine' tv9 4 rfl (by intro _ hSw; (try dsimp only at hSw); obtain ⟨i0, i1, i2⟩ := item (stays HI.out hSw); go_simp <;> with_reducible rfl) ?_
 refine ry [2, 6] ?_
 refine AllReadyH.cons rfl (fun K hK => ?_) (AllReadyH.cons rfl (fun K hK => ?_) AllReadyH.nil)
 · go_simp
   (with_reducible refine (CKh.out _).mono ?_)
   rintro e wc ⟨rfl, hb⟩
   go_wp2_with fail
   refine hK.out _ _ (below_on hHeld hb) (fun hNext => ?_)
   clear hK K
   replace hHeld := hNext
   clear hNext
   (try simp only [Act.put, z1', z2', z3'])
   clear hb
   refine' tv9 5 rfl (by intro _ hSw; (try dsimp only at hSw); refine ex_bd ⟨4, c, Pn.zero, Msc.zero, 0, no⟩ ?_; kernel_rfl) ?_
   refine ry [6] (.cons rfl (fun K hK => ?_) .nil)
   rw [if_pos (by rfl)]
   refine wp_al zeroR ?_
   intro b3 u3 h3 F3
   have Lb3 := F3.le hHeld
   refine hK.out _ _ (F3.on hHeld) (fun hNext => ?_)
   clear hK K
   replace hHeld := hNext
   clear hNext
   (try simp only [Act.put, z1', z2', z3'])
   clear F3
   refine ry [7] (.cons rfl (fun K hK => ?_) .nil)
   rw [if_pos (by rfl)]
   refine wp_row (cs := mc ⟨4, c, Pn.zero, Msc.zero, 0, no⟩) isR h3 rfl rfl (one_all _) rfl rfl ?_
   intro u4 h4 M4
   refine hK.out _ _ (M4.below hHeld Lb3) (fun hNext => ?_)
   clear hK K
   replace hHeld := hNext
   clear hNext
   (try simp only [Act.put])
   clear M4 h3
   refine wpAnyH_done (by kernel_rfl) ?_ _
   have N13 : Hid (b1 ≠ b3) := Lib.hid (by have := lt_heap HR.out; omega)
   have N23 : Hid (b2 ≠ b3) := Lib.hid (by have := lt_heap HI.out; omega)
   have HN := Lib.hid h4
   have L3 : Hid (w.heap.size ≤ b3) := Lib.hid (by have := HB.out.size; omega)
   clear h4 Lb3
   replace HI := Lib.hid (stays HI.out hHeld)
   replace HR := Lib.hid (stays HR.out hHeld)
   replace HB := Lib.hid (below_on HB.out hHeld)
   clear hHeld
   obtain ⟨n0, n1, n18, n19⟩ := flds HN.out
   obtain ⟨i0, i1, i2⟩ := item HI.out
   go_wp2_with (first
    | ((with_reducible refine bdm (T := 79) (parts := #[]) zero ?hb ?_); (case hb => kernel_rfl))
    | ((with_reducible refine stm (m := zero) isR HR.out ?hx ?hy ?_); (case hx => rfl); (case hy => rfl); intro w9 h9 M9; replace HR := Lib.hid h9; replace HB := Lib.hid (M9.below HB.out L1.out); clear h9 M9))
   exact bodyPost_ret (rget_results _ _ b1 _ _ _ _ HR.out rfl rfl rfl) rfl ⟨rfl, HB.out⟩
 · rw [if_pos (by rfl)]
   refine wp_al zeroR ?_
   intro b3 u3 h3 F3
   have Lb3 := F3.le hHeld
   refine hK.out _ _ (F3.on hHeld) (fun hNext => ?_)
   clear hK K
   replace hHeld := hNext
   clear hNext
   (try simp only [Act.put, z1', z2', z3'])
   clear F3
   refine ry [2] (.cons rfl (fun K hK => ?_) .nil)
   go_simp
   (with_reducible refine (CKh.out _).mono ?_)
   rintro e wc ⟨rfl, hb⟩
   go_wp2_with fail
   replace h3 := stays h3 hb
   refine hK.out _ _ (below_on hHeld hb) (fun hNext => ?_)
   clear hK K
   replace hHeld := hNext
   clear hNext
   (try simp only [Act.put, z1', z2', z3'])
   clear hb
   refine' tv9 5 rfl (by intro _ hSw; (try dsimp only at hSw); refine ex_bd ⟨4, c, Pn.zero, Msc.zero, 0, no⟩ ?_; kernel_rfl) ?_
   refine ry [7] (.cons rfl (fun K hK => ?_) .nil)
   rw [if_pos (by rfl)]
   refine wp_row (cs := mc ⟨4, c, Pn.zero, Msc.zero, 0, no⟩) isR h3 rfl rfl (one_all _) rfl rfl ?_
   intro u4 h4 M4
   refine hK.out _ _ (M4.below hHeld Lb3) (fun hNext => ?_)
   clear hK K
   replace hHeld := hNext
   clear hNext
   (try simp only [Act.put])
   clear M4 h3
   refine wpAnyH_done (by kernel_rfl) ?_ _
   have N13 : Hid (b1 ≠ b3) := Lib.hid (by have := lt_heap HR.out; omega)
   have N23 : Hid (b2 ≠ b3) := Lib.hid (by have := lt_heap HI.out; omega)
   have HN := Lib.hid h4
   have L3 : Hid (w.heap.size ≤ b3) := Lib.hid (by have := HB.out.size; omega)
   clear h4 Lb3
   replace HI := Lib.hid (stays HI.out hHeld)
   replace HR := Lib.hid (stays HR.out hHeld)
   replace HB := Lib.hid (below_on HB.out hHeld)
   clear hHeld
   obtain ⟨n0, n1, n18, n19⟩ := flds HN.out
   obtain ⟨i0, i1, i2⟩ := item HI.out
   go_wp2_with (first
    | ((with_reducible refine bdm (T := 79) (parts := #[]) zero ?hb ?_); (case hb => kernel_rfl))
    | ((with_reducible refine stm (m := zero) isR HR.out ?hx ?hy ?_); (case hx => rfl); (case hy => rfl); intro w9 h9 M9; replace HR := Lib.hid h9; replace HB := Lib.hid (M9.below HB.out L1.out); clear h9 M9))
   exact bodyPost_ret (rget_results _ _ b1 _ _ _ _ HR.out rfl rfl rfl) rfl ⟨rfl, HB.out⟩
set_option maxHeartbeats 800000 in
theorem rget_6_yes (s v : ByteArray) (k n : Nat) (c : Bool) (hx : v.toList.isEmpty = true) (CG : ∀ w, Calls Tryz.prog 100 #[.string s] w fun e w' => e = .returned (.tuple #[.agg #[.int .u8 (k : Int), .bool c, .string v], .int .i64 (n : Int), .int .i64 0]) ∧ Below w.heap.size w w') (CK : ∀ w, Calls Tryz.prog 75 #[.int .u8 (k : Int)] w fun e w' => e = .returned (.int .u8 6) ∧ Below w.heap.size w w') (w : World) :
 Calls Tryz.prog 79 #[.string s] w fun e w' => e = .returned (.tuple #[mv ⟨6, c, Pn.zero, Msc.zero, 0, no⟩, .int .i64 (n : Int), .int .i64 0]) ∧ Below w.heap.size w w' := by
 have CGh := Lib.hid CG
 have CKh := Lib.hid CK
 clear CG CK
 go_enter Tryz.func79, Tryz.ntmps79
 go_wp2_with (first
  | ((with_reducible refine alm zeroR ?_); intro b1 w1 h1 F1; have HR := Lib.hid h1; have L1 := Lib.hid (Nat.le_of_eq F1.eq.symm); have HB := Lib.hid F1.below; clear h1 F1)
  | (go_at_call 100; ((with_reducible refine (CGh.out _).mono ?_); rintro e w2 ⟨rfl, hb⟩; replace HR := Lib.hid (stays HR.out hb); replace HB := Lib.hid (below_on HB.out hb); clear hb))
  | ((with_reducible refine alr zeroI ?_); intro b2 w3 h3 F3; have N12 := Lib.hid (F3.ne HR.out); replace HR := Lib.hid (F3.stays HR.out); have L2 := Lib.hid (F3.le HB.out); replace HB := Lib.hid (F3.on HB.out); have HI0 := Lib.hid h3; clear h3 F3)
  | ((with_reducible refine str #[.int .u8 (k : Int), .bool c, .string v] isI HI0.out ?h0 ?h1 ?hc ?hx ?hy ?_); (case h0 => rfl); (case h1 => rfl); (case hc => (simp [Value.oneCell'])); (case hx => rfl); (case hy => rfl); intro wx h4 M4; have HI := Lib.hid h4; replace HR := Lib.hid (M4.other N12.out HR.out); replace HB := Lib.hid (M4.below HB.out L2.out); clear h4 M4 HI0))
 refine wp_region_held_drew (S := fun w' => Below wx.heap.size wx w') (by kernel_rfl) (Below.refl _ _).drew (fun hHeld => ?_)
 refine' tk9 0 rfl ?_
 refine' tv9 1 rfl (by intro _ hSw; (try dsimp only at hSw); obtain ⟨i0, i1, i2⟩ := item (stays HI.out hSw); go_simp <;> with_reducible rfl) ?_
 refine' tk9 3 rfl ?_
 refine' tv9 4 rfl (by intro _ hSw; (try dsimp only at hSw); obtain ⟨i0, i1, i2⟩ := item (stays HI.out hSw); go_simp <;> with_reducible rfl) ?_
 refine ry [2, 6] ?_
 refine AllReadyH.cons rfl (fun K hK => ?_) (AllReadyH.cons rfl (fun K hK => ?_) AllReadyH.nil)
 · go_simp
   (with_reducible refine (CKh.out _).mono ?_)
   rintro e wc ⟨rfl, hb⟩
   go_wp2_with fail
   refine hK.out _ _ (below_on hHeld hb) (fun hNext => ?_)
   clear hK K
   replace hHeld := hNext
   clear hNext
   (try simp only [Act.put, z1', z2', z3'])
   clear hb
   refine' tv9 5 rfl (by intro _ hSw; (try dsimp only at hSw); refine ex_bd ⟨6, c, Pn.zero, Msc.zero, 0, no⟩ ?_; kernel_rfl) ?_
   refine ry [6] (.cons rfl (fun K hK => ?_) .nil)
   rw [if_pos (by rfl)]
   refine wp_al zeroR ?_
   intro b3 u3 h3 F3
   have Lb3 := F3.le hHeld
   refine hK.out _ _ (F3.on hHeld) (fun hNext => ?_)
   clear hK K
   replace hHeld := hNext
   clear hNext
   (try simp only [Act.put, z1', z2', z3'])
   clear F3
   refine ry [7] (.cons rfl (fun K hK => ?_) .nil)
   rw [if_pos (by rfl)]
   refine wp_row (cs := mc ⟨6, c, Pn.zero, Msc.zero, 0, no⟩) isR h3 rfl rfl (one_all _) rfl rfl ?_
   intro u4 h4 M4
   refine hK.out _ _ (M4.below hHeld Lb3) (fun hNext => ?_)
   clear hK K
   replace hHeld := hNext
   clear hNext
   (try simp only [Act.put])
   clear M4 h3
   refine wpAnyH_done (by kernel_rfl) ?_ _
   have N13 : Hid (b1 ≠ b3) := Lib.hid (by have := lt_heap HR.out; omega)
   have N23 : Hid (b2 ≠ b3) := Lib.hid (by have := lt_heap HI.out; omega)
   have HN := Lib.hid h4
   have L3 : Hid (w.heap.size ≤ b3) := Lib.hid (by have := HB.out.size; omega)
   clear h4 Lb3
   replace HI := Lib.hid (stays HI.out hHeld)
   replace HR := Lib.hid (stays HR.out hHeld)
   replace HB := Lib.hid (below_on HB.out hHeld)
   clear hHeld
   obtain ⟨n0, n1, n18, n19⟩ := flds HN.out
   obtain ⟨i0, i1, i2⟩ := item HI.out
   go_wp2_with (first
    | ((with_reducible refine ldm isR HN.out ?hx ?_); (case hx => rfl))
    | ((with_reducible refine stm (m := ⟨6, c, Pn.zero, Msc.zero, 0, no⟩) isR HR.out ?hx ?hy ?_); (case hx => rfl); (case hy => rfl); intro w9 h9 M9; replace HR := Lib.hid h9; replace HB := Lib.hid (M9.below HB.out L1.out); clear h9 M9))
   exact bodyPost_ret (rget_results _ _ b1 _ _ _ _ HR.out rfl rfl rfl) rfl ⟨rfl, HB.out⟩
 · rw [if_pos (by rfl)]
   refine wp_al zeroR ?_
   intro b3 u3 h3 F3
   have Lb3 := F3.le hHeld
   refine hK.out _ _ (F3.on hHeld) (fun hNext => ?_)
   clear hK K
   replace hHeld := hNext
   clear hNext
   (try simp only [Act.put, z1', z2', z3'])
   clear F3
   refine ry [2] (.cons rfl (fun K hK => ?_) .nil)
   go_simp
   (with_reducible refine (CKh.out _).mono ?_)
   rintro e wc ⟨rfl, hb⟩
   go_wp2_with fail
   replace h3 := stays h3 hb
   refine hK.out _ _ (below_on hHeld hb) (fun hNext => ?_)
   clear hK K
   replace hHeld := hNext
   clear hNext
   (try simp only [Act.put, z1', z2', z3'])
   clear hb
   refine' tv9 5 rfl (by intro _ hSw; (try dsimp only at hSw); refine ex_bd ⟨6, c, Pn.zero, Msc.zero, 0, no⟩ ?_; kernel_rfl) ?_
   refine ry [7] (.cons rfl (fun K hK => ?_) .nil)
   rw [if_pos (by rfl)]
   refine wp_row (cs := mc ⟨6, c, Pn.zero, Msc.zero, 0, no⟩) isR h3 rfl rfl (one_all _) rfl rfl ?_
   intro u4 h4 M4
   refine hK.out _ _ (M4.below hHeld Lb3) (fun hNext => ?_)
   clear hK K
   replace hHeld := hNext
   clear hNext
   (try simp only [Act.put])
   clear M4 h3
   refine wpAnyH_done (by kernel_rfl) ?_ _
   have N13 : Hid (b1 ≠ b3) := Lib.hid (by have := lt_heap HR.out; omega)
   have N23 : Hid (b2 ≠ b3) := Lib.hid (by have := lt_heap HI.out; omega)
   have HN := Lib.hid h4
   have L3 : Hid (w.heap.size ≤ b3) := Lib.hid (by have := HB.out.size; omega)
   clear h4 Lb3
   replace HI := Lib.hid (stays HI.out hHeld)
   replace HR := Lib.hid (stays HR.out hHeld)
   replace HB := Lib.hid (below_on HB.out hHeld)
   clear hHeld
   obtain ⟨n0, n1, n18, n19⟩ := flds HN.out
   obtain ⟨i0, i1, i2⟩ := item HI.out
   go_wp2_with (first
    | ((with_reducible refine ldm isR HN.out ?hx ?_); (case hx => rfl))
    | ((with_reducible refine stm (m := ⟨6, c, Pn.zero, Msc.zero, 0, no⟩) isR HR.out ?hx ?hy ?_); (case hx => rfl); (case hy => rfl); intro w9 h9 M9; replace HR := Lib.hid h9; replace HB := Lib.hid (M9.below HB.out L1.out); clear h9 M9))
   exact bodyPost_ret (rget_results _ _ b1 _ _ _ _ HR.out rfl rfl rfl) rfl ⟨rfl, HB.out⟩
set_option maxHeartbeats 800000 in
theorem rget_6_no (s v : ByteArray) (k n : Nat) (c : Bool) (hx : v.toList.isEmpty = false) (CG : ∀ w, Calls Tryz.prog 100 #[.string s] w fun e w' => e = .returned (.tuple #[.agg #[.int .u8 (k : Int), .bool c, .string v], .int .i64 (n : Int), .int .i64 0]) ∧ Below w.heap.size w w') (CK : ∀ w, Calls Tryz.prog 75 #[.int .u8 (k : Int)] w fun e w' => e = .returned (.int .u8 6) ∧ Below w.heap.size w w') (w : World) :
 Calls Tryz.prog 79 #[.string s] w fun e w' => e = .returned (.tuple #[mv zero, .int .i64 0, .int .i64 70]) ∧ Below w.heap.size w w' := by
 have CGh := Lib.hid CG
 have CKh := Lib.hid CK
 clear CG CK
 go_enter Tryz.func79, Tryz.ntmps79
 go_wp2_with (first
  | ((with_reducible refine alm zeroR ?_); intro b1 w1 h1 F1; have HR := Lib.hid h1; have L1 := Lib.hid (Nat.le_of_eq F1.eq.symm); have HB := Lib.hid F1.below; clear h1 F1)
  | (go_at_call 100; ((with_reducible refine (CGh.out _).mono ?_); rintro e w2 ⟨rfl, hb⟩; replace HR := Lib.hid (stays HR.out hb); replace HB := Lib.hid (below_on HB.out hb); clear hb))
  | ((with_reducible refine alr zeroI ?_); intro b2 w3 h3 F3; have N12 := Lib.hid (F3.ne HR.out); replace HR := Lib.hid (F3.stays HR.out); have L2 := Lib.hid (F3.le HB.out); replace HB := Lib.hid (F3.on HB.out); have HI0 := Lib.hid h3; clear h3 F3)
  | ((with_reducible refine str #[.int .u8 (k : Int), .bool c, .string v] isI HI0.out ?h0 ?h1 ?hc ?hx ?hy ?_); (case h0 => rfl); (case h1 => rfl); (case hc => (simp [Value.oneCell'])); (case hx => rfl); (case hy => rfl); intro wx h4 M4; have HI := Lib.hid h4; replace HR := Lib.hid (M4.other N12.out HR.out); replace HB := Lib.hid (M4.below HB.out L2.out); clear h4 M4 HI0))
 refine wp_region_held_drew (S := fun w' => Below wx.heap.size wx w') (by kernel_rfl) (Below.refl _ _).drew (fun hHeld => ?_)
 refine' tk9 0 rfl ?_
 refine' tv9 1 rfl (by intro _ hSw; (try dsimp only at hSw); obtain ⟨i0, i1, i2⟩ := item (stays HI.out hSw); go_simp <;> with_reducible rfl) ?_
 refine' tk9 3 rfl ?_
 refine' tv9 4 rfl (by intro _ hSw; (try dsimp only at hSw); obtain ⟨i0, i1, i2⟩ := item (stays HI.out hSw); go_simp <;> with_reducible rfl) ?_
 refine ry [2, 6] ?_
 refine AllReadyH.cons rfl (fun K hK => ?_) (AllReadyH.cons rfl (fun K hK => ?_) AllReadyH.nil)
 · go_simp
   (with_reducible refine (CKh.out _).mono ?_)
   rintro e wc ⟨rfl, hb⟩
   go_wp2_with fail
   refine hK.out _ _ (below_on hHeld hb) (fun hNext => ?_)
   clear hK K
   replace hHeld := hNext
   clear hNext
   (try simp only [Act.put, z1', z2', z3'])
   clear hb
   refine' tv9 5 rfl (by intro _ hSw; (try dsimp only at hSw); refine ex_bd ⟨6, c, Pn.zero, Msc.zero, 0, no⟩ ?_; kernel_rfl) ?_
   refine ry [6] (.cons rfl (fun K hK => ?_) .nil)
   rw [if_pos (by rfl)]
   refine wp_al zeroR ?_
   intro b3 u3 h3 F3
   have Lb3 := F3.le hHeld
   refine hK.out _ _ (F3.on hHeld) (fun hNext => ?_)
   clear hK K
   replace hHeld := hNext
   clear hNext
   (try simp only [Act.put, z1', z2', z3'])
   clear F3
   refine ry [7] (.cons rfl (fun K hK => ?_) .nil)
   rw [if_pos (by rfl)]
   refine wp_row (cs := mc ⟨6, c, Pn.zero, Msc.zero, 0, no⟩) isR h3 rfl rfl (one_all _) rfl rfl ?_
   intro u4 h4 M4
   refine hK.out _ _ (M4.below hHeld Lb3) (fun hNext => ?_)
   clear hK K
   replace hHeld := hNext
   clear hNext
   (try simp only [Act.put])
   clear M4 h3
   refine wpAnyH_done (by kernel_rfl) ?_ _
   have N13 : Hid (b1 ≠ b3) := Lib.hid (by have := lt_heap HR.out; omega)
   have N23 : Hid (b2 ≠ b3) := Lib.hid (by have := lt_heap HI.out; omega)
   have HN := Lib.hid h4
   have L3 : Hid (w.heap.size ≤ b3) := Lib.hid (by have := HB.out.size; omega)
   clear h4 Lb3
   replace HI := Lib.hid (stays HI.out hHeld)
   replace HR := Lib.hid (stays HR.out hHeld)
   replace HB := Lib.hid (below_on HB.out hHeld)
   clear hHeld
   obtain ⟨n0, n1, n18, n19⟩ := flds HN.out
   obtain ⟨i0, i1, i2⟩ := item HI.out
   go_wp2_with (first
    | ((with_reducible refine bdm (T := 79) (parts := #[]) zero ?hb ?_); (case hb => kernel_rfl))
    | ((with_reducible refine stm (m := zero) isR HR.out ?hx ?hy ?_); (case hx => rfl); (case hy => rfl); intro w9 h9 M9; replace HR := Lib.hid h9; replace HB := Lib.hid (M9.below HB.out L1.out); clear h9 M9))
   exact bodyPost_ret (rget_results _ _ b1 _ _ _ _ HR.out rfl rfl rfl) rfl ⟨rfl, HB.out⟩
 · rw [if_pos (by rfl)]
   refine wp_al zeroR ?_
   intro b3 u3 h3 F3
   have Lb3 := F3.le hHeld
   refine hK.out _ _ (F3.on hHeld) (fun hNext => ?_)
   clear hK K
   replace hHeld := hNext
   clear hNext
   (try simp only [Act.put, z1', z2', z3'])
   clear F3
   refine ry [2] (.cons rfl (fun K hK => ?_) .nil)
   go_simp
   (with_reducible refine (CKh.out _).mono ?_)
   rintro e wc ⟨rfl, hb⟩
   go_wp2_with fail
   replace h3 := stays h3 hb
   refine hK.out _ _ (below_on hHeld hb) (fun hNext => ?_)
   clear hK K
   replace hHeld := hNext
   clear hNext
   (try simp only [Act.put, z1', z2', z3'])
   clear hb
   refine' tv9 5 rfl (by intro _ hSw; (try dsimp only at hSw); refine ex_bd ⟨6, c, Pn.zero, Msc.zero, 0, no⟩ ?_; kernel_rfl) ?_
   refine ry [7] (.cons rfl (fun K hK => ?_) .nil)
   rw [if_pos (by rfl)]
   refine wp_row (cs := mc ⟨6, c, Pn.zero, Msc.zero, 0, no⟩) isR h3 rfl rfl (one_all _) rfl rfl ?_
   intro u4 h4 M4
   refine hK.out _ _ (M4.below hHeld Lb3) (fun hNext => ?_)
   clear hK K
   replace hHeld := hNext
   clear hNext
   (try simp only [Act.put])
   clear M4 h3
   refine wpAnyH_done (by kernel_rfl) ?_ _
   have N13 : Hid (b1 ≠ b3) := Lib.hid (by have := lt_heap HR.out; omega)
   have N23 : Hid (b2 ≠ b3) := Lib.hid (by have := lt_heap HI.out; omega)
   have HN := Lib.hid h4
   have L3 : Hid (w.heap.size ≤ b3) := Lib.hid (by have := HB.out.size; omega)
   clear h4 Lb3
   replace HI := Lib.hid (stays HI.out hHeld)
   replace HR := Lib.hid (stays HR.out hHeld)
   replace HB := Lib.hid (below_on HB.out hHeld)
   clear hHeld
   obtain ⟨n0, n1, n18, n19⟩ := flds HN.out
   obtain ⟨i0, i1, i2⟩ := item HI.out
   go_wp2_with (first
    | ((with_reducible refine bdm (T := 79) (parts := #[]) zero ?hb ?_); (case hb => kernel_rfl))
    | ((with_reducible refine stm (m := zero) isR HR.out ?hx ?hy ?_); (case hx => rfl); (case hy => rfl); intro w9 h9 M9; replace HR := Lib.hid h9; replace HB := Lib.hid (M9.below HB.out L1.out); clear h9 M9))
   exact bodyPost_ret (rget_results _ _ b1 _ _ _ _ HR.out rfl rfl rfl) rfl ⟨rfl, HB.out⟩
end Go.Proofs.YtakkhdammmcjcaaGreatDoor.Msgs
