/-
  Layer 22, put together: CtlMeetsC1. Conditions: as each theorem names them.
-/
import Derived.Test.YtakkhdammmcjcaaGreatDoorK37
import Derived.Test.YtakkhdammmcjcaaGreatDoorK01
import Derived.Deep.DeepCutAuto
namespace Go.Proofs.YtakkhdammmcjcaaGreatDoor.ctlMeets
open Go.RowKit Base Mem Msgs Cr Ctl
set_option maxRecDepth 100000
section
variable {p0 p1 : Pn.Pr} {oa ob o0 o1 : Option Addr} {n ca m cb n0 k0 n1 k1 b4 b5 b9 b10 b11 c0 c1 la lb gk : Nat} {w wr : World} {y0 y1 : Ct} {f0 f1 : List Fa} {A B : List Ms} {J : Nat → Act → World → Prop} {K : Act → World → Prop} {K1 : Act → World → Prop}
 {u8 u13 u14 u16 u17 u18 u20 u21 u22 u23 u24 u25 u26 u27 u28 u29 u30 u31 u32 u33 u34 u35 u36 u37 u38 u39 u45 u46 u47 u48 u49 u50 u51 u52 u53 u54 u55 u56 u57 u58 u59 u60 u61 u62 u63 u64 u65 u66 u67 u68 u69 u70 u71 u72 u73 u74 u77 u78 u79 u80 u81 u82 u83 u84 u85 u86 u87 u88 u89 u90 u91 u92 u93 u94 u95 u96 u97 u98 u99 u100 u101 u102 u103 u104 u105 u106 u107 u108 u109 u110 u111 u112 u113 u114 u115 u116 u117 u118 u119 u120 u121 u122 u123 u124 u125 u126 u127 u128 u129 u130 u131 u132 u133 u134 u135 u136 u137 u138 u139 u140 u141 u142 u143 u144 u145 u146 u147 u148 u149 u150 u151 u152 u153 u154 u155 u156 u157 u158 u159 u160 u161 u162 u163 u164 u165 u166 u167 u168 u169 u170 u171 u172 u173 u174 u175 u176 u177 u178 u179 u180 u181 u182 u183 u184 u185 u186 u187 u188 u189 u190 u191 u192 u193 u194 u195 u196 u197 u198 u199 u200 u201 u202 u203 u204 u205 u206 u207 u208 u209 u210 u211 u212 u213 u214 u215 u216 u217 u218 u219 u220 u221 u222 u223 u224 : Value}
set_option maxHeartbeats 64000000 in
theorem sC1 (HE : Hid (Ends p0 p1 A B y0 y1 f0 f1)) (_ : Hid (A.length = la)) (HLB : Hid (B.length = lb))
 (CLA : Hid (∀ (u : World), Below w.heap.size w u → Calls Tryz.prog 22 #[.slice oa n ca] u fun e u' => ∃ oq cq, e = .returned (.slice oq la cq) ∧ OwnS MT 20 ml u' u.heap.size (.slice oq la cq) A ∧ Below u.heap.size u u'))
 (CLB : Hid (∀ (u : World), Below w.heap.size w u → Calls Tryz.prog 22 #[.slice ob m cb] u fun e u' => ∃ oq cq, e = .returned (.slice oq lb cq) ∧ OwnS MT 20 ml u' u.heap.size (.slice oq lb cq) B ∧ Below u.heap.size u u'))
 (_ : la ≤ 20) (lb20 : lb ≤ 20) (_ : Hid (f0.length = n0)) (HN1 : Hid (f1.length = n1)) (_ : IntKind.i64.wrap ((la : Int) + (lb : Int)) = (n0 : Int)) (wl1 : IntKind.i64.wrap ((lb : Int) + (la : Int)) = (n1 : Int)) (_ : n0 ≤ 40) (n1le : n1 ≤ 40)
 (hgm : 2 - 1 ≤ gk) (ME1 : Hid (Me w c0 c1 b4 b5 b9 b10 b11 p0 p1 (.slice oa n ca) (.slice ob m cb) (.slice o0 n0 k0) (.slice o1 n1 k1) y0 y1 f0 f1 wr))
 (hJ : ∀ (k : Nat) (a' : Act) (w' : World), (∃ u8 u19 u20 u21 u22 u23 u24 u25 u106 u107 u108 u109 u110 u111 u112 u113 u114 u115 u116 u117 u118 u119 u120 u121 u122 u123 u124 u125 u126 u127 u128 u129 u130 u131 u132 u133 u134 u135 u136 u137 u138 u139 u140 u141 u142 u143 u144 u145 u146 u147 u148 u149 u150 u151 u152 u153 u154 u155 u156 u157 u158 u159 u160 u161 u162 u163 u164 u165 u166 u167 u168 u169 u170 u171 u172 u173 u174 u175 u176 u177 u178 u179 u180 u181 u182 u183 u184 u185 u186 u187 u188 u189 u190 u191 u192 u193 u194 u195 u196 u197 u198 u199 u200 u201 u202 u203 u204 u205 u206 u207 u208 u209 u210 u211 u212 u213 u214 u215 u216 u217 u218 u219 u220 u221 u222 u223 : Value, (∃ k_1 : Nat, u19 = nm k_1 ∧ 2 - k_1 ≤ k ∧ k_1 ≤ 2 ∧ Hid (Me w c0 c1 b4 b5 b9 b10 b11 p0 p1 (.slice oa n ca) (.slice ob m cb) (.slice o0 n0 k0) (.slice o1 n1 k1) y0 y1 f0 f1 w')) ∧ a' = ⟨#[Pn.pv p0, Pn.pv p1, Value.slice oa n ca, Value.slice ob m cb, ptr b4, ptr b5, undef, undef, u8, ptr b9, ptr b10, ptr b11, nm 2, u13, u14, nm 200, u16, u17, u18, u19, u20, u21, u22, u23, u24, u25, u26, u27, u28, u29, u30, u31, u32, u33, u34, u35, u36, u37, u38, u39, Value.slice oa n ca, Value.slice ob m cb, Value.agg #[Value.slice oa n ca, Value.slice ob m cb], nm 2, Value.bool false, u45, u46, u47, u48, u49, u50, u51, u52, u53, u54, u55, u56, u57, u58, u59, u60, u61, u62, u63, u64, u65, u66, u67, u68, u69, u70, u71, u72, u73, u74, nm 200, Value.bool false, u77, u78, u79, u80, u81, u82, u83, u84, u85, u86, u87, u88, u89, u90, u91, u92, u93, u94, u95, u96, u97, u98, u99, u100, u101, u102, u103, u104, u105, u106, u107, u108, u109, u110, u111, u112, u113, u114, u115, u116, u117, u118, u119, u120, u121, u122, u123, u124, u125, u126, u127, u128, u129, u130, u131, u132, u133, u134, u135, u136, u137, u138, u139, u140, u141, u142, u143, u144, u145, u146, u147, u148, u149, u150, u151, u152, u153, u154, u155, u156, u157, u158, u159, u160, u161, u162, u163, u164, u165, u166, u167, u168, u169, u170, u171, u172, u173, u174, u175, u176, u177, u178, u179, u180, u181, u182, u183, u184, u185, u186, u187, u188, u189, u190, u191, u192, u193, u194, u195, u196, u197, u198, u199, u200, u201, u202, u203, u204, u205, u206, u207, u208, u209, u210, u211, u212, u213, u214, u215, u216, u217, u218, u219, u220, u221, u222, u223, u224], []⟩) → J k a' w')
 (hK : ∀ (a' : Act) (w' : World), Handed J gk a' w' → K a' w') :
 Code.wp Tryz.prog bodyC (Exit.then K (Exit.inBlock 6 (Exit.then K1 (bodyPost Tryz.prog Tryz.f6 fun e w' => e = .returned (.bool true) ∧ Below w.heap.size w w')))) ⟨#[Pn.pv p0, Pn.pv p1, Value.slice oa n ca, Value.slice ob m cb, ptr b4, ptr b5, undef, undef, u8, ptr b9, ptr b10, ptr b11, nm 2, u13, u14, nm 200, u16, u17, u18, nm 1, u20, u21, u22, u23, u24, u25, u26, u27, u28, u29, u30, u31, u32, u33, u34, u35, u36, u37, u38, u39, Value.slice oa n ca, Value.slice ob m cb, Value.agg #[Value.slice oa n ca, Value.slice ob m cb], nm 2, Value.bool false, u45, u46, u47, u48, u49, u50, u51, u52, u53, u54, u55, u56, u57, u58, u59, u60, u61, u62, u63, u64, u65, u66, u67, u68, u69, u70, u71, u72, u73, u74, nm 200, Value.bool false, u77, u78, u79, u80, u81, u82, u83, u84, u85, u86, u87, u88, u89, u90, u91, u92, u93, u94, u95, u96, u97, u98, u99, u100, u101, u102, u103, u104, u105, u106, u107, u108, u109, u110, u111, u112, u113, u114, u115, u116, u117, u118, u119, u120, u121, u122, u123, u124, u125, u126, u127, u128, u129, u130, u131, u132, u133, u134, u135, u136, u137, u138, u139, u140, u141, u142, u143, u144, u145, u146, u147, u148, u149, u150, u151, u152, u153, u154, u155, u156, u157, u158, u159, u160, u161, u162, u163, u164, u165, u166, u167, u168, u169, u170, u171, u172, u173, u174, u175, u176, u177, u178, u179, u180, u181, u182, u183, u184, u185, u186, u187, u188, u189, u190, u191, u192, u193, u194, u195, u196, u197, u198, u199, u200, u201, u202, u203, u204, u205, u206, u207, u208, u209, u210, u211, u212, u213, u214, u215, u216, u217, u218, u219, u220, u221, u222, u223, u224], []⟩ wr := by
 have hk2 : 1 ≤ 2 := by decide
 conv => arg 2; whnf
 have q0 : IntKind.i64.wrap 0 = 0 := rfl
 have q1 : IntKind.i64.wrap 1 = 1 := rfl
 have CW_ : Hid (∀ u : World, Tw w c0 c1 p0 p1 y0 y1 u → Calls Tryz.prog 15 #[ptr c1] u fun e u' => e = .returned (.tuple #[.int .i64 0, .int .i64 0]) ∧ Below u.heap.size u u') := Lib.hid (fun u h => waits_nil (h.waits1) HE.out.a1 HE.out.c1)
 obtain ⟨d1, d2, d3, d4, d5, d6⟩ := ME1.out.cells
 go_wp2_with (first
  | (go_at_call 15; refine (CW_.out _ ME1.out.tw).mono ?_; rintro _ w7 ⟨rfl, hb⟩; have ME7 := Lib.hid (ME1.out.on hb); clear hb d1 d2 d3 d4 d5 d6 ME1; obtain ⟨d1, d2, d3, d4, d5, d6⟩ := ME7.out.cells)
  | (go_at_call 22; refine (CLB.out _ ME7.out.tw.below).mono ?_; rintro _ w8 ⟨oq, cq, rfl, ho, hb⟩; have ME8 := Lib.hid (ME7.out.on hb); have HO8 := Lib.hid (own_weak ho ME7.out.tw.below.size); clear ho hb d1 d2 d3 d4 d5 d6 ME7))
 replace ME8 := Lib.hid (ME8.out.on (u' := w8.drew) ⟨rfl, rfl, rfl, Nat.le_refl _, fun _ _ => rfl⟩)
 replace HO8 := Lib.hid (HO8.out.below (w' := w8.drew) ⟨rfl, rfl, rfl, Nat.le_refl _, fun _ _ => rfl⟩)
 refine wp_region_held_drew (S := (fun w' => Me w c0 c1 b4 b5 b9 b10 b11 p0 p1 (.slice oa n ca) (.slice ob m cb) (.slice o0 n0 k0) (.slice o1 n1 k1) y0 y1 f0 f1 w')) (by kernel_rfl) ME8.out (fun hHeld => ?_)
 refine' tk9 0 rfl ?_
 refine' tk9 1 rfl ?_
 refine' tk9 2 rfl ?_
 refine' tk9 3 rfl ?_
 refine' tk9 4 rfl ?_
 refine' tk9 5 rfl ?_
 refine' tk9 6 rfl ?_
 refine' tk9 7 rfl ?_
 refine' tk9 8 rfl ?_
 refine' tv9 9 rfl (by intro _ hSw; (try dsimp only at hSw); have e10 := (hSw.cells).2.2.2.1; go_simp <;> with_reducible rfl) ?_
 refine' tk9 10 rfl ?_
 refine' tk9 11 rfl ?_
 refine' tk9 12 rfl ?_
 refine' tk9 13 rfl ?_
 refine' tk9 14 rfl ?_
 refine' tk9 15 rfl ?_
 refine' tv9 16 rfl (by intro _ hSw; (try dsimp only at hSw); have e11 := (hSw.cells).2.2.2.2.1; go_simp <;> with_reducible rfl) ?_
 refine ry [17] (.cons rfl (fun K hK => ?_) .nil)
 go_simp
 refine (CLA.out _ ME8.out.tw.below).mono ?_
 rintro e w9 ⟨oq9, cq9, rfl, ho, hb⟩
 go_wp2_with fail
 have ME9 := Lib.hid (ME8.out.on hb)
 have HO9 := Lib.hid (HO8.out.below hb)
 clear ME8 HO8 ho hb
 refine hK.out _ _ ME9.out (fun hNext => ?_)
 clear hK K hHeld
 have hHeld := hNext; clear hNext
 (try simp only [Act.put, z1', z2', z3'])
 refine' tk9 18 rfl ?_
 refine' tk9 19 rfl ?_
 refine' tk9 20 rfl ?_
 refine' tk9 21 rfl ?_
 refine wpAnyH_done (by kernel_rfl) ?_ _
 clear hHeld
 have HX0 : Hid (Me w c0 c1 b4 b5 b9 b10 b11 p0 p1 (.slice oa n ca) (.slice ob m cb) (.slice o0 n0 k0) (.slice o1 n1 k1) y0 y1 f0 f1 w9 ∧ OwnS MT 20 ml w9 w.heap.size (.slice oq lb cq) B) := Lib.hid ⟨ME9.out, HO9.out⟩
 clear ME9 HO9
 clear CW_
 go_wp2_with fail
 go_loopg [23] lb (fun gm s23 wr => ∃ k : Nat, s23 = nm k ∧ lb - k ≤ gm ∧ k ≤ lb ∧ Hid (Me w c0 c1 b4 b5 b9 b10 b11 p0 p1 (.slice oa n ca) (.slice ob m cb) (.slice o0 n0 k0) (.slice o1 n1 k1) y0 y1 f0 f1 wr ∧ OwnS MT 20 ml wr w.heap.size (.slice oq lb cq) B))
 case atStart => exact ⟨0, by first | rfl | go_num, by omega, by omega, HX0⟩
 case round =>
  clear HX0
  obtain ⟨k, rfl, hgm2, hk3, HX⟩ := hrel
  by_cases hlt : k < lb
  · have t1 : decide ((k : Int) < (lb : Int)) = true := decide_eq_true (by omega)
    have t2 : (k : Int) < (lb : Int) := by omega
    have t3 : (0 : Int) ≤ (k : Int) := by omega
    have vk := nat_wrap (k + 1) (by omega)
    have hkl : k < B.length := by rw [HLB.out]; exact hlt
    obtain ⟨g, rfl⟩ := own_at HX.out.2 (by omega)
    obtain ⟨a, ha⟩ : ∃ a, B[k]? = some a := ⟨_, List.getElem?_eq_getElem hkl⟩
    have HAK := Lib.hid ha
    have hcn := HE.out.n1 a (List.mem_of_getElem? ha)
    have hai := HE.out.iB a (List.mem_of_getElem? ha)
    have CO2 : Hid (∀ u, Me w c0 c1 b4 b5 b9 b10 b11 p0 p1 (.slice oa n ca) (.slice ob m cb) (.slice o0 n0 k0) (.slice o1 n1 k1) y0 y1 f0 f1 u → Calls Tryz.prog 23 #[.slice o1 n1 k1, .int .u8 2, mv a] u fun e u' => e = .returned (.int .i64 1) ∧ Below u.heap.size u u') := Lib.hid (fun u h => by
     have := lof h.g1 (by rw [HE.out.l1]; have := HE.out.eA; have := HE.out.eB; omega) 2 a hai HE.out.i1
     rw [hcn.1] at this
     exact this)
    have CO1 : Hid (∀ u, Me w c0 c1 b4 b5 b9 b10 b11 p0 p1 (.slice oa n ca) (.slice ob m cb) (.slice o0 n0 k0) (.slice o1 n1 k1) y0 y1 f0 f1 u → Calls Tryz.prog 23 #[.slice o0 n0 k0, .int .u8 1, mv a] u fun e u' => e = .returned (.int .i64 1) ∧ Below u.heap.size u u') := Lib.hid (fun u h => by
     have := lof h.g0 (by rw [HE.out.l0]; have := HE.out.eA; have := HE.out.eB; omega) 1 a hai HE.out.i0
     rw [hcn.2] at this
     exact this)
    clear ha hcn hai hkl
    go_wp2_with fail
    refine wp_region_held_drew (S := (fun w' => Me w c0 c1 b4 b5 b9 b10 b11 p0 p1 (.slice oa n ca) (.slice ob m cb) (.slice o0 n0 k0) (.slice o1 n1 k1) y0 y1 f0 f1 w' ∧ OwnS MT 20 ml w' w.heap.size (.slice (some ⟨g, 0, none⟩) lb cq) B)) (by kernel_rfl) ⟨HX.out.1.on ⟨rfl, rfl, rfl, Nat.le_refl _, fun _ _ => rfl⟩, HX.out.2.below ⟨rfl, rfl, rfl, Nat.le_refl _, fun _ _ => rfl⟩⟩ (fun hHeld => ?_)
    refine' tk9 0 rfl ?_
    refine' tk9 1 rfl ?_
    refine' tv9 2 rfl (by intro _ hSw; (try dsimp only at hSw); have e10 := (hSw.1.cells).2.2.2.1; go_simp <;> with_reducible rfl) ?_
    refine' tk9 3 rfl ?_
    refine' tk9 4 rfl ?_
    refine' tk9 5 rfl ?_
    refine' tv9 6 rfl (by intro _ hSw; (try dsimp only at hSw); refine ex_ldr isM (own_rangez (fun x => (rfl : (ml x).length = 20)) hSw.2 k a HAK.out) ?_; rfl) ?_
    refine ry [7] (.cons rfl (fun K hK => ?_) .nil)
    go_simp
    (with_reducible refine (CO2.out _ hHeld.1).mono ?_)
    rintro e wc ⟨rfl, hb⟩
    go_wp2_with fail
    refine hK.out _ _ ⟨hHeld.1.on hb, hHeld.2.below hb⟩ (fun hNext => ?_)
    clear hK K hHeld hb
    have hHeld := hNext; clear hNext
    (try simp only [Act.put, z1', z2', z3'])
    refine' tk9 8 rfl ?_
    refine' tk9 9 rfl ?_
    refine' tk9 10 rfl ?_
    refine' tk9 11 rfl ?_
    refine' tk9 12 rfl ?_
    refine' tv9 13 rfl (by intro _ hSw; (try dsimp only at hSw); have e11 := (hSw.1.cells).2.2.1; go_simp <;> with_reducible rfl) ?_
    refine' tk9 14 rfl ?_
    refine' tk9 15 rfl ?_
    refine' tk9 16 rfl ?_
    refine' tv9 17 rfl (by intro _ hSw; (try dsimp only at hSw); refine ex_ldr isM (own_rangez (fun x => (rfl : (ml x).length = 20)) hSw.2 k a HAK.out) ?_; rfl) ?_
    refine ry [18] (.cons rfl (fun K hK => ?_) .nil)
    go_simp
    (with_reducible refine (CO1.out _ hHeld.1).mono ?_)
    rintro e wc ⟨rfl, hb⟩
    go_wp2_with fail
    refine hK.out _ _ ⟨hHeld.1.on hb, hHeld.2.below hb⟩ (fun hNext => ?_)
    clear hK K hHeld hb
    have hHeld := hNext; clear hNext
    (try simp only [Act.put, z1', z2', z3'])
    refine' tk9 19 rfl ?_
    refine' tk9 20 rfl ?_
    refine wpAnyH_done (by kernel_rfl) ?_ _
    have HX9 := Lib.hid hHeld
    clear hHeld
    go_wp2
    go_roundg (lb - (k + 1))
    case measure => omega
    case rel => exact ⟨k + 1, by first | rfl | go_num, Nat.le_refl _, by omega, HX9⟩
  · obtain rfl : lb = k := by omega
    have t1 : decide ((lb : Int) < (lb : Int)) = false := decide_eq_false (by omega)
    have t2 : ¬ (lb : Int) < (lb : Int) := by omega
    have ME0 := Lib.hid HX.out.1
    clear HX
    go_wp2_with fail
    go_loopg [24] n1 (fun gm s24 wr => ∃ k : Nat, s24 = nm k ∧ n1 - k ≤ gm ∧ k ≤ n1 ∧ Hid (Me w c0 c1 b4 b5 b9 b10 b11 p0 p1 (.slice oa n ca) (.slice ob m cb) (.slice o0 n0 k0) (.slice o1 n1 k1) y0 y1 f0 f1 wr))
    case atStart => exact ⟨0, by first | rfl | go_num, by omega, by omega, ME0⟩
    case round =>
     clear ME0 hlt t1 t2
     obtain ⟨k, rfl, hgm3, hk4, ME1⟩ := hrel
     obtain ⟨d1, d2, d3, d4, d5, d6⟩ := ME1.out.cells
     by_cases hlt : k < n1
     · have t1 : decide ((k : Int) < (n1 : Int)) = true := decide_eq_true (by omega)
       have t2 : (k : Int) < (n1 : Int) := by omega
       have t3 : (0 : Int) ≤ (k : Int) := by omega
       have vk := nat_wrap (k + 1) (by omega)
       have hkl : k < f1.length := by rw [HN1.out]; exact hlt
       obtain ⟨g, rfl⟩ := own_at ME1.out.g1 (by omega)
       obtain ⟨f, hf⟩ : ∃ f, f1[k]? = some f := ⟨_, List.getElem?_eq_getElem hkl⟩
       have HFK := Lib.hid hf
       have HR := Lib.hid (fact_m (own_rangez fl_len ME1.out.g1 k f hf))
       by_cases h1 : f.k = 2
       · have e1 : ((f.k : Int) == 2) = true := by rw [h1]; rfl
         by_cases h2 : f.m.k = 1
         · have e2 : ((f.m.k : Int) == 1) = true := by rw [h2]; rfl
           obtain ⟨b1, b2⟩ := HE.out.g1 f (List.mem_of_getElem? hf) h1 h2
           have e3 : decide (max 1 p0.n < f.m.p.n) = false := decide_eq_false (by omega)
           have e4 : decide (max 1 p0.k < f.m.p.k) = false := decide_eq_false (by omega)
           have e5 : ¬ max 1 p0.n < f.m.p.n := by omega
           have e6 : ¬ max 1 p0.k < f.m.p.k := by omega
           clear h1 h2 hf hkl b1 b2
           go_wp2_with (first
            | ((with_reducible refine ldr (m := f.m) isM HR.out ?hx ?_); (case hx => rfl))
            | ((with_reducible refine alm zeroM ?_); intro b14 w6 h F6; have ME6 := Lib.hid (ME1.out.on F6.below); have H14a := Lib.hid h; have N14 := Lib.hid (ME1.out.le F6); clear h F6 d1 d2 d3 d4 d5 d6)
            | ((with_reducible refine stm (m := f.m) isM H14a.out ?hx ?hy ?_); (case hx => rfl); (case hy => rfl); intro w7 h M; have ME7 := Lib.hid (ME6.out.mod M H14a.out N14.out); have H14 := Lib.hid h; clear h M ME6 H14a))
           refine wp_region_held_drew (S := (fun w' => Me w c0 c1 b4 b5 b9 b10 b11 p0 p1 (.slice oa n ca) (.slice ob m cb) (.slice o0 n0 k0) (.slice (some ⟨g, 0, none⟩) n1 k1) y0 y1 f0 f1 w' ∧ w'.heap[b14]? = some (mO f.m MT))) (by kernel_rfl) ⟨ME7.out.on ⟨rfl, rfl, rfl, Nat.le_refl _, fun _ _ => rfl⟩, H14.out⟩ (fun hHeld => ?_)
           refine' tk9 0 rfl ?_
           refine' tk9 1 rfl ?_
           refine' tv9 2 rfl (by intro _ hSw; (try dsimp only at hSw); have e10 := (hSw.1.cells).2.2.2.1; go_simp <;> with_reducible rfl) ?_
           refine' tk9 3 rfl ?_
           refine' tk9 4 rfl ?_
           refine' tk9 5 rfl ?_
           refine' tv9 6 rfl (by intro _ hSw; (try dsimp only at hSw); have e0 := own_rangez fl_len hSw.1.g1 k f HFK.out 0 _ rfl; rw [Nat.add_zero] at e0; go_simp <;> with_reducible rfl) ?_
           refine' tk9 7 rfl ?_
           refine' tk9 8 rfl ?_
           refine' tk9 9 rfl ?_
           refine' tv9 10 rfl (by intro _ hSw; (try dsimp only at hSw); have e25 := (lay hSw.2).1; go_simp <;> with_reducible rfl) ?_
           refine' tk9 11 rfl ?_
           refine' tk9 12 rfl ?_
           refine' tk9 13 rfl ?_
           refine' tk9 14 rfl ?_
           refine' tk9 15 rfl ?_
           refine' tv9 16 rfl (by intro _ hSw; (try dsimp only at hSw); have e7 := cell7 hSw.2; go_simp <;> with_reducible rfl) ?_
           refine' tv9 17 rfl (by intro _ hSw; (try dsimp only at hSw); refine ex_ldz (pll p1) isP (pll_at hSw.1.h5) rfl ?_; rfl) ?_
           refine' tv9 18 rfl (by intro _ hSw; (try dsimp only at hSw); refine ex_ldz (pll p0) isP (pll_at hSw.1.h4) rfl ?_; rfl) ?_
           refine' tv9 19 rfl (by intro _ hSw; (try dsimp only at hSw); refine bdk (ops := 0) ((pll p1 ++ pll p0).toArray) rfl ?_; kernel_rfl) ?_
           refine' tk9 20 rfl ?_
           refine' tv9 21 rfl (by intro _ hSw; (try dsimp only at hSw); refine ex_ix1 p1 p0 ?_ ?_ <;> rfl) ?_
           refine' tv9 22 rfl (by intro _ hSw; (try dsimp only at hSw); refine ex_fd5 p0 ?_; rfl) ?_
           refine' tk9 23 rfl ?_
           refine' tk9 24 rfl ?_
           refine' tk9 25 rfl ?_
           refine' tk9 26 rfl ?_
           refine' tk9 27 rfl ?_
           refine' tv9 28 rfl (by intro _ hSw; (try dsimp only at hSw); have e9 := cell9 hSw.2; go_simp <;> with_reducible rfl) ?_
           refine' tv9 29 rfl (by intro _ hSw; (try dsimp only at hSw); refine ex_ldz (pll p1) isP (pll_at hSw.1.h5) rfl ?_; rfl) ?_
           refine' tv9 30 rfl (by intro _ hSw; (try dsimp only at hSw); refine ex_ldz (pll p0) isP (pll_at hSw.1.h4) rfl ?_; rfl) ?_
           refine' tv9 31 rfl (by intro _ hSw; (try dsimp only at hSw); refine bdk (ops := 0) ((pll p1 ++ pll p0).toArray) rfl ?_; kernel_rfl) ?_
           refine' tk9 32 rfl ?_
           refine' tv9 33 rfl (by intro _ hSw; (try dsimp only at hSw); refine ex_ix1 p1 p0 ?_ ?_ <;> rfl) ?_
           refine' tv9 34 rfl (by intro _ hSw; (try dsimp only at hSw); refine ex_fd7 p0 ?_; rfl) ?_
           refine' tk9 35 rfl ?_
           refine' tk9 36 rfl ?_
           refine' tk9 37 rfl ?_
           refine' tk9 38 rfl ?_
           refine wpAnyH_done (by kernel_rfl) ?_ _
           have HX9 := Lib.hid hHeld.1
           clear hHeld ME7 H14
           go_wp2
           go_roundg (n1 - (k + 1))
           case measure => omega
           case rel => exact ⟨k + 1, by first | rfl | go_num, Nat.le_refl _, by omega, HX9⟩
         · have e2 : ((f.m.k : Int) == 1) = false := Mem.beq_false (by omega)
           clear h1 h2 hf hkl
           go_wp2_with (first
            | ((with_reducible refine ldr (m := f.m) isM HR.out ?hx ?_); (case hx => rfl))
            | ((with_reducible refine alm zeroM ?_); intro b14 w6 h F6; have ME6 := Lib.hid (ME1.out.on F6.below); have H14a := Lib.hid h; have N14 := Lib.hid (ME1.out.le F6); clear h F6 d1 d2 d3 d4 d5 d6)
            | ((with_reducible refine stm (m := f.m) isM H14a.out ?hx ?hy ?_); (case hx => rfl); (case hy => rfl); intro w7 h M; have ME7 := Lib.hid (ME6.out.mod M H14a.out N14.out); have H14 := Lib.hid h; clear h M ME6 H14a))
           refine wp_region_held_drew (S := (fun w' => Me w c0 c1 b4 b5 b9 b10 b11 p0 p1 (.slice oa n ca) (.slice ob m cb) (.slice o0 n0 k0) (.slice (some ⟨g, 0, none⟩) n1 k1) y0 y1 f0 f1 w' ∧ w'.heap[b14]? = some (mO f.m MT))) (by kernel_rfl) ⟨ME7.out.on ⟨rfl, rfl, rfl, Nat.le_refl _, fun _ _ => rfl⟩, H14.out⟩ (fun hHeld => ?_)
           refine' tk9 0 rfl ?_
           refine' tk9 1 rfl ?_
           refine' tv9 2 rfl (by intro _ hSw; (try dsimp only at hSw); have e10 := (hSw.1.cells).2.2.2.1; go_simp <;> with_reducible rfl) ?_
           refine' tk9 3 rfl ?_
           refine' tk9 4 rfl ?_
           refine' tk9 5 rfl ?_
           refine' tv9 6 rfl (by intro _ hSw; (try dsimp only at hSw); have e0 := own_rangez fl_len hSw.1.g1 k f HFK.out 0 _ rfl; rw [Nat.add_zero] at e0; go_simp <;> with_reducible rfl) ?_
           refine' tk9 7 rfl ?_
           refine' tk9 8 rfl ?_
           refine' tk9 9 rfl ?_
           refine' tv9 10 rfl (by intro _ hSw; (try dsimp only at hSw); have e25 := (lay hSw.2).1; go_simp <;> with_reducible rfl) ?_
           refine' tk9 11 rfl ?_
           refine' tk9 12 rfl ?_
           refine' tk9 13 rfl ?_
           refine sk9 14 rfl ?_
           refine sk9 15 rfl ?_
           refine sk9 16 rfl ?_
           refine sk9 17 rfl ?_
           refine sk9 18 rfl ?_
           refine sk9 19 rfl ?_
           refine sk9 20 rfl ?_
           refine sk9 21 rfl ?_
           refine sk9 22 rfl ?_
           refine sk9 23 rfl ?_
           refine sk9 24 rfl ?_
           refine sk9 25 rfl ?_
           refine sk9 26 rfl ?_
           refine sk9 27 rfl ?_
           refine sk9 28 rfl ?_
           refine sk9 29 rfl ?_
           refine sk9 30 rfl ?_
           refine sk9 31 rfl ?_
           refine sk9 32 rfl ?_
           refine sk9 33 rfl ?_
           refine sk9 34 rfl ?_
           refine sk9 35 rfl ?_
           refine sk9 36 rfl ?_
           refine sk9 37 rfl ?_
           refine' tk9 38 rfl ?_
           refine wpAnyH_done (by kernel_rfl) ?_ _
           have HX9 := Lib.hid hHeld.1
           clear hHeld ME7 H14
           go_wp2
           go_roundg (n1 - (k + 1))
           case measure => omega
           case rel => exact ⟨k + 1, by first | rfl | go_num, Nat.le_refl _, by omega, HX9⟩
       · have e1 : ((f.k : Int) == 2) = false := Mem.beq_false (by omega)
         clear h1 hf hkl
         go_wp2_with (first
          | ((with_reducible refine ldr (m := f.m) isM HR.out ?hx ?_); (case hx => rfl))
          | ((with_reducible refine alm zeroM ?_); intro b14 w6 h F6; have ME6 := Lib.hid (ME1.out.on F6.below); have H14a := Lib.hid h; have N14 := Lib.hid (ME1.out.le F6); clear h F6 d1 d2 d3 d4 d5 d6)
          | ((with_reducible refine stm (m := f.m) isM H14a.out ?hx ?hy ?_); (case hx => rfl); (case hy => rfl); intro w7 h M; have ME7 := Lib.hid (ME6.out.mod M H14a.out N14.out); have H14 := Lib.hid h; clear h M ME6 H14a))
         refine wp_region_held_drew (S := (fun w' => Me w c0 c1 b4 b5 b9 b10 b11 p0 p1 (.slice oa n ca) (.slice ob m cb) (.slice o0 n0 k0) (.slice (some ⟨g, 0, none⟩) n1 k1) y0 y1 f0 f1 w' ∧ w'.heap[b14]? = some (mO f.m MT))) (by kernel_rfl) ⟨ME7.out.on ⟨rfl, rfl, rfl, Nat.le_refl _, fun _ _ => rfl⟩, H14.out⟩ (fun hHeld => ?_)
         refine' tk9 0 rfl ?_
         refine' tk9 1 rfl ?_
         refine' tv9 2 rfl (by intro _ hSw; (try dsimp only at hSw); have e10 := (hSw.1.cells).2.2.2.1; go_simp <;> with_reducible rfl) ?_
         refine' tk9 3 rfl ?_
         refine' tk9 4 rfl ?_
         refine' tk9 5 rfl ?_
         refine' tv9 6 rfl (by intro _ hSw; (try dsimp only at hSw); have e0 := own_rangez fl_len hSw.1.g1 k f HFK.out 0 _ rfl; rw [Nat.add_zero] at e0; go_simp <;> with_reducible rfl) ?_
         refine' tk9 7 rfl ?_
         refine' tk9 8 rfl ?_
         refine sk9 9 rfl ?_
         refine sk9 10 rfl ?_
         refine sk9 11 rfl ?_
         refine' tk9 12 rfl ?_
         refine' tk9 13 rfl ?_
         refine sk9 14 rfl ?_
         refine sk9 15 rfl ?_
         refine sk9 16 rfl ?_
         refine sk9 17 rfl ?_
         refine sk9 18 rfl ?_
         refine sk9 19 rfl ?_
         refine sk9 20 rfl ?_
         refine sk9 21 rfl ?_
         refine sk9 22 rfl ?_
         refine sk9 23 rfl ?_
         refine sk9 24 rfl ?_
         refine sk9 25 rfl ?_
         refine sk9 26 rfl ?_
         refine sk9 27 rfl ?_
         refine sk9 28 rfl ?_
         refine sk9 29 rfl ?_
         refine sk9 30 rfl ?_
         refine sk9 31 rfl ?_
         refine sk9 32 rfl ?_
         refine sk9 33 rfl ?_
         refine sk9 34 rfl ?_
         refine sk9 35 rfl ?_
         refine sk9 36 rfl ?_
         refine sk9 37 rfl ?_
         refine' tk9 38 rfl ?_
         refine wpAnyH_done (by kernel_rfl) ?_ _
         have HX9 := Lib.hid hHeld.1
         clear hHeld ME7 H14
         go_wp2
         go_roundg (n1 - (k + 1))
         case measure => omega
         case rel => exact ⟨k + 1, by first | rfl | go_num, Nat.le_refl _, by omega, HX9⟩
     · obtain rfl : n1 = k := by omega
       have t1 : decide ((n1 : Int) < (n1 : Int)) = false := decide_eq_false (by omega)
       have t2 : ¬ (n1 : Int) < (n1 : Int) := by omega
       go_wp2_with fail
       go_roundg (1 - 1)
       case measure => omega
       case rel => exact ⟨2, by first | rfl | go_num, by omega, by omega, ME1⟩
end
end Go.Proofs.YtakkhdammmcjcaaGreatDoor.ctlMeets
