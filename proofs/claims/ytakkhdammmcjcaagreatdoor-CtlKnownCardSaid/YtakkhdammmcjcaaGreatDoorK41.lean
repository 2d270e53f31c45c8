/-
  Layer 22, put together: CtlKnownLaw. Conditions: as each theorem names them.
-/
import Derived.Test.YtakkhdammmcjcaaGreatDoorK37
import Derived.Test.YtakkhdammmcjcaaGreatDoorK40
import Derived.Test.YtakkhdammmcjcaaGreatDoorK34
import Derived.Test.YtakkhdammmcjcaaGreatDoorK01
namespace Go.Proofs.YtakkhdammmcjcaaGreatDoor.ctlKnown
open Go.RowKit Base Mem Msgs Cr Ctl ctlMeets
set_option maxRecDepth 100000
def OW : Pn.Pr := ⟨0, 0, 0, 0, 0, 64, 0, 1⟩
def OX : Pn.Pr := ⟨0, 0, 0, 0, 0, 500, 0, 7⟩
def cls (a b : Ms) : List Cl := [⟨0, a, no⟩, ⟨0, b, no⟩, ⟨2, b, no⟩, ⟨1, zero, no⟩, ⟨2, a, ⟨#[163, 1]⟩⟩, ⟨1, zero, no⟩, ⟨3, zero, no⟩, ⟨1, zero, no⟩, ⟨2, b, ⟨#[0]⟩⟩, ⟨3, zero, no⟩, ⟨3, zero, no⟩, ⟨1, zero, no⟩, ⟨3, zero, no⟩, ⟨3, zero, no⟩, ⟨2, a, no⟩]
/-- All that the law keeps: its messages, its parameters; all else is as it was. -/
def Kw (w : World) (g b2 : Nat) (u : World) : Prop := u.heap[g]? = some (.cells SC MT (0, 0)) ∧ u.heap[b2]? = some (.cells (pcl OW) 25 (0, 0)) ∧ Below w.heap.size w u
theorem Kw.on {w u u' : World} {g b2 : Nat} (h : Kw w g b2 u) (hb : Below u.heap.size u u') : Kw w g b2 u' := ⟨stays h.1 hb, stays h.2.1 hb, below_on h.2.2 hb⟩
theorem Kw.grown {w u u' : World} {g b2 : Nat} {v : Value} {l : List Cl} (h : Kw w g b2 u) (ho : OwnS QT 22 xl u w.heap.size v l) (hg : u.grownBy u' v.ownBlock) : Kw w g b2 u' := by
 have ne : ∀ (k : Nat) (cs : Array Value) (T : TypeId), u.heap[k]? = some (.cells cs T (0, 0)) → T ≠ QT → u'.heap[k]? = some (.cells cs T (0, 0)) := fun k cs T hk hT => (hg.block k (lt_heap hk) fun e => by
  obtain ⟨cs', hc⟩ := row_blk ho e.symm
  exact type_ne hk hc hT rfl).trans hk
 exact ⟨ne _ _ _ h.1 (by decide), ne _ _ _ h.2.1 (by decide), h.2.2.grown hg h.2.2.size fun k hk => (ho.lt k hk).1⟩
theorem cls_fit {a b : Ms} (ha : a.In ∧ a.b.size ≤ 1) (hb : b.In ∧ b.b.size ≤ 1) : ∀ x ∈ cls a b, x.Fit := by
 have hz : zero.In ∧ zero.b.size ≤ 1 := ⟨zero_in, by decide⟩
 have key : ∀ (k : Int) (m : Ms) (s : ByteArray), m.In ∧ m.b.size ≤ 1 → s.size ≤ 2 → (⟨k, m, s⟩ : Cl).Fit := fun k m s h1 h2 => ⟨h1.1, Nat.le_trans h1.2 (by decide), Nat.le_trans h2 (by decide)⟩
 intro x hx
 simp only [cls, List.mem_cons, List.not_mem_nil, or_false] at hx
 rcases hx with rfl | rfl | rfl | rfl | rfl | rfl | rfl | rfl | rfl | rfl | rfl | rfl | rfl | rfl | rfl <;> exact key _ _ _ (by assumption) (by decide)
theorem fits3 {a b c : Ms} (ha : a.In ∧ a.b.size ≤ 1) (hb : b.In ∧ b.b.size ≤ 1) (hc : c.In ∧ c.b.size ≤ 1) : ∀ m ∈ [a, b, c], Fits m := by
 intro m hm
 simp only [List.mem_cons, List.not_mem_nil, or_false] at hm
 rcases hm with rfl | rfl | rfl
 · exact ⟨ha.1, Nat.le_trans ha.2 (by decide)⟩
 · exact ⟨hb.1, Nat.le_trans hb.2 (by decide)⟩
 · exact ⟨hc.1, Nat.le_trans hc.2 (by decide)⟩
theorem fits1 {a : Ms} (ha : a.In ∧ a.b.size ≤ 1) : ∀ m ∈ [a], Fits m := by
 intro m hm
 rw [List.mem_singleton.1 hm]
 exact ⟨ha.1, Nat.le_trans ha.2 (by decide)⟩
theorem sm_part {w : World} {g k m : Nat} (h : w.heap[g]? = some (.cells SC MT (0, 0))) (hk : k + m ≤ 19) : ArgS 20 ml Fits w (some ⟨g, k * 20, none⟩) m (fun i => (((SM.drop k).take m)[i]?).getD zero) := by
 have hl : ((SM.drop k).take m).length = m := by rw [List.length_take, List.length_drop, show SM.length = 19 from rfl]; omega
 have h1 := rd_sub (k := k) (m := m) (c2 := 0) (sm_rd h) (lt_heap h) hl.symm
 rw [Nat.zero_add] at h1
 exact rd_arg h1 hl fun x hx => sm_fits x (List.mem_of_mem_drop (List.mem_of_mem_take hx))
def M0 : Ms := mm 1 true P5 Msc.zero 0 no
def M7c : Ms := mm 3 true Pn.zero Msc.zero 0 no
abbrev NCO : Obj := .cells #[.int .i64 (-9223372036854775808), .int .i64 (-1), .int .i64 0, .int .i64 1, .int .i64 255, .int .i64 256, .int .i64 9223372036854775807] 3 (0, 0)
theorem min_wrap {k q : Nat} (hk : k < 19) (h : min 19 (k + 5) = q) : min (19 : Int) (IntKind.i64.wrap ((k : Int) + 5)) = (q : Int) := by
 have e : IntKind.i64.wrap ((k : Int) + 5) = (k : Int) + 5 := by rw [IntKind.wrap_i64]; omega
 rw [e]; omega
theorem m0_in : M0 ∈ SM := List.mem_of_getElem? (show SM[0]? = some M0 from rfl)
theorem m7_in : M7c ∈ SM := List.mem_of_getElem? (show SM[7]? = some M7c from rfl)
def PNN (z : Int) : Pn.Pr := ⟨0, 0, 0, 0, 0, z, 0, z⟩
def nls : List Cl := [⟨0, M0, no⟩, ⟨2, M0, no⟩, ⟨1, zero, no⟩, ⟨1, zero, no⟩, ⟨3, zero, no⟩, ⟨1, zero, no⟩, ⟨3, zero, no⟩]
theorem nls_fit : ∀ x ∈ nls, x.Fit := by
 intro x hx
 have hz : zero.In ∧ zero.b.size ≤ 1 := ⟨zero_in, by decide⟩
 have h0 := sm_fit M0 m0_in
 simp only [nls, List.mem_cons, List.not_mem_nil, or_false] at hx
 rcases hx with rfl | rfl | rfl | rfl | rfl | rfl | rfl <;> first | exact ⟨h0.1, Nat.le_trans h0.2 (by decide), by decide⟩ | exact ⟨hz.1, Nat.le_trans hz.2 (by decide), by decide⟩
/-- More answers than may wait. -/
def mn (i : Nat) : Cl := ⟨2, (SM[i % 12]?).getD zero, no⟩
def MN : List Cl := (List.range 70).map mn
theorem mn_one (i : Nat) : (mn i).Fit := by
 have h : i % 12 < SM.length := Nat.lt_trans (Nat.mod_lt i (by decide)) (by decide)
 have hf := sm_fit (SM[i % 12]) (List.getElem_mem h)
 unfold mn
 rw [List.getElem?_eq_getElem h]
 exact ⟨hf.1, Nat.le_trans hf.2 (by decide), (show no.size ≤ 130 by decide)⟩
theorem mn_fit : ∀ x ∈ MN ++ MN, x.Fit := by
 intro x hx
 have hx2 : x ∈ MN := by rcases List.mem_append.1 hx with h | h <;> exact h
 obtain ⟨i, _, rfl⟩ := List.mem_map.1 hx2
 exact mn_one i
theorem mn_next {k : Nat} (hk : k < 70) : MN.take (k + 1) = MN.take k ++ [mn k] := by
 have : MN[k]? = some (mn k) := by unfold MN; rw [List.getElem?_map, List.getElem?_range hk]; rfl
 rw [List.take_add_one, this]; rfl
def NL : List Int := [-9223372036854775808, -1, 0, 1, 255, 256, 9223372036854775807]
section
variable {ops : Array Oper} {a : Act} {Q : Exit → Act → World → Prop} {d : Option Tmp} {ty : TypeId} {pos : String} {af : Array Edge} {w : World} {K : Act → World → Prop}
theorem wp_bslz {gd : Option (Nat × Bool)} {z len : Nat} {S e : Nat} {zc : Array Value} {parts : Array (Nat × Operand)} (cells : Array Value) (hu : Tryz.prog.underlying S = some (.slice e)) (he : (Tryz.prog.info? e).map (fun i => (i.zero, i.size)) = some (some (.agg zc), z)) (hl : 0 < len ∧ len ≤ 100) (hz : 0 < z ∧ z ≤ 100)
 (hf : Instr.fill (fun i => some (i * z, z)) ((Array.range (len * z)).map (zc[· % zc.size]!)) (parts.map fun (i, x) => (i, a.eval x)).toList = some cells)
 (k : ∀ (b : Nat) (w' : World), w'.heap[b]? = some (.cells cells e (0, 0)) → Fresh b w w' → K (a.put d (.slice (some ⟨b, 0, none⟩) len len)) w') :
 Oper.wp Tryz.prog { dst := d, op := .buildSlice S len parts, type := ty, pos := pos, after := af, guard := gd } a w K Q := by
 cases hq : Tryz.prog.info? e with
 | none => simp [hq] at he
 | some i =>
  simp only [hq, Option.map_some, Option.some.injEq, Prod.mk.injEq] at he
  have hm : len * z ≤ 100 * 100 := Nat.mul_le_mul hl.2 hz.2
  have hp : 0 < len * z := Nat.mul_pos hl.1 hz.1
  refine wp_buildSlice S e len parts rfl cells i (.agg zc) hu hq he.1 (by rw [he.2]; omega) (by rw [he.2]; omega) (by rw [he.2]; exact hf) ?_
  exact k w.heap.size (w.alloc (.cells cells e (0, 0))) (nest w [_] 0 _ rfl) (fresh_alloc w _)
end
set_option maxHeartbeats 64000000 in
theorem law (w : World) (ht : Tab w) : Calls Tryz.prog 3 #[] w fun e w' => e = .returned (.bool true) ∧ Below w.heap.size w w' := by
 have CW := Lib.hid (fun (u : World) hu => works u hu)
 have HT := Lib.hid ht
 clear ht
 go_enter Tryz.func3, Tryz.ntmps3
 go_wp2_with fail
 refine (lsome _).mono ?_
 rintro _ w1 ⟨g, rfl, h, hb⟩
 have H1 := Lib.hid h
 have B1 := Lib.hid hb
 clear h hb
 go_wp2_with fail
 have HK0 : Hid (Kw w g w1.heap.size (w1.alloc (.cells (pcl OW) 25 (0, 0)))) := Lib.hid ⟨stays H1.out ((Below.refl _ _).alloc (Nat.le_refl _) _), nest w1 [_] 0 _ rfl, B1.out.alloc B1.out.size _⟩
 obtain ⟨b2, hb2⟩ : ∃ b2, w1.heap.size = b2 := ⟨_, rfl⟩
 obtain ⟨u0, hu0⟩ : ∃ u0, w1.alloc (.cells (pcl OW) 25 (0, 0)) = u0 := ⟨_, rfl⟩
 change Hid (Kw w g w1.heap.size _) at HK0
 rw [hb2, hu0] at HK0
 rw [hb2]
 have hu1 : w1.alloc (.cells #[.int .u8 0, .int .u8 0, .int .u8 0, .int .u8 0, .int .i64 0, .int .i64 64, .int .i64 0, .int .i64 1] 25 (0, 0)) = u0 := hu0
 rw [hu1]
 clear hu0 hu1 hb2 H1 B1
 go_loopg [3] 19 (fun gm s3 wr => ∃ i : Nat, s3 = nm i ∧ 19 - i ≤ gm ∧ i ≤ 19 ∧ Hid (Kw w g b2 wr))
 case atStart => exact ⟨0, by first | rfl | go_num, by omega, by omega, HK0⟩
 case round =>
  clear HK0
  obtain ⟨i, rfl, hgm, hin, HK0⟩ := hrel
  by_cases hlt : i < 19
  · have t1 : decide ((i : Int) < 19) = true := decide_eq_true (by omega)
    have t2 : (i : Int) < 19 := by omega
    have t3 : (0 : Int) ≤ (i : Int) := by omega
    have vi := nat_wrap (i + 1) (by omega)
    obtain ⟨a, ha⟩ : ∃ a, SM[i]? = some a := ⟨_, List.getElem?_eq_getElem (l := SM) hlt⟩
    have HAI := Lib.hid ha
    have HAF := Lib.hid (sm_fit a (List.mem_of_getElem? ha))
    clear ha
    go_wp2_with fail
    go_loopg [4] 19 (fun gm s4 wr => ∃ k : Nat, s4 = nm k ∧ 19 - k ≤ gm ∧ k ≤ 19 ∧ Hid (Kw w g b2 wr))
    case atStart => exact ⟨0, by first | rfl | go_num, by omega, by omega, HK0⟩
    case round =>
     clear HK0
     obtain ⟨k, rfl, hgm2, hkn, HK0⟩ := hrel
     by_cases hlk : k < 19
     · have s1 : decide ((k : Int) < 19) = true := decide_eq_true (by omega)
       have s2 : (k : Int) < 19 := by omega
       have s3 : (0 : Int) ≤ (k : Int) := by omega
       have vk := nat_wrap (k + 1) (by omega)
       obtain ⟨b, hb⟩ : ∃ b, SM[k]? = some b := ⟨_, List.getElem?_eq_getElem (l := SM) hlk⟩
       have HBK := Lib.hid hb
       have HBF := Lib.hid (sm_fit b (List.mem_of_getElem? hb))
       clear hb
       go_wp2_with fail
       replace HK0 := Lib.hid (HK0.out.on (u' := wr.drew) ⟨rfl, rfl, rfl, Nat.le_refl _, fun _ _ => rfl⟩)
       refine wp_region_held_drew (S := (fun w' => Kw w g b2 w')) (by kernel_rfl) (HK0.out.on ⟨rfl, rfl, rfl, Nat.le_refl _, fun _ _ => rfl⟩) (fun hHeld => ?_)
       refine' tk9 0 rfl ?_
       refine' tk9 1 rfl ?_
       refine' tk9 2 rfl ?_
       refine' tv9 3 rfl (by intro _ hSw; (try dsimp only at hSw); refine ex_ldr isM (sm_at hSw.1 HAI.out) ?_; rfl) ?_
       refine' tv9 4 rfl (by intro _ hSw; (try dsimp only at hSw); refine ex_bdc (xl ⟨0, a, no⟩).toArray ?_; kernel_rfl) ?_
       refine' tk9 5 rfl ?_
       refine' tk9 6 rfl ?_
       refine' tk9 7 rfl ?_
       refine' tv9 8 rfl (by intro _ hSw; (try dsimp only at hSw); refine ex_ldr isM (sm_at hSw.1 HBK.out) ?_; rfl) ?_
       refine' tv9 9 rfl (by intro _ hSw; (try dsimp only at hSw); refine ex_bdc (xl ⟨0, b, no⟩).toArray ?_; kernel_rfl) ?_
       refine' tk9 10 rfl ?_
       refine' tk9 11 rfl ?_
       refine' tk9 12 rfl ?_
       refine' tv9 13 rfl (by intro _ hSw; (try dsimp only at hSw); refine ex_ldr isM (sm_at hSw.1 HBK.out) ?_; rfl) ?_
       refine' tv9 14 rfl (by intro _ hSw; (try dsimp only at hSw); refine ex_bdc (xl ⟨2, b, no⟩).toArray ?_; kernel_rfl) ?_
       refine' tv9 15 rfl (by intro _ hSw; (try dsimp only at hSw); refine ex_bdc (xl ⟨1, zero, no⟩).toArray ?_; kernel_rfl) ?_
       refine' tk9 16 rfl ?_
       refine' tk9 17 rfl ?_
       refine' tk9 18 rfl ?_
       refine' tv9 19 rfl (by intro _ hSw; (try dsimp only at hSw); refine ex_ldr isM (sm_at hSw.1 HAI.out) ?_; rfl) ?_
       refine' tv9 20 rfl (by intro _ hSw; (try dsimp only at hSw); refine ex_bdc (xl ⟨2, a, ⟨#[163, 1]⟩⟩).toArray ?_; kernel_rfl) ?_
       refine' tv9 21 rfl (by intro _ hSw; (try dsimp only at hSw); refine ex_bdc (xl ⟨1, zero, no⟩).toArray ?_; kernel_rfl) ?_
       refine' tv9 22 rfl (by intro _ hSw; (try dsimp only at hSw); refine ex_bdc (xl ⟨3, zero, no⟩).toArray ?_; kernel_rfl) ?_
       refine' tv9 23 rfl (by intro _ hSw; (try dsimp only at hSw); refine ex_bdc (xl ⟨1, zero, no⟩).toArray ?_; kernel_rfl) ?_
       refine' tk9 24 rfl ?_
       refine' tk9 25 rfl ?_
       refine' tk9 26 rfl ?_
       refine' tv9 27 rfl (by intro _ hSw; (try dsimp only at hSw); refine ex_ldr isM (sm_at hSw.1 HBK.out) ?_; rfl) ?_
       refine' tv9 28 rfl (by intro _ hSw; (try dsimp only at hSw); refine ex_bdc (xl ⟨2, b, ⟨#[0]⟩⟩).toArray ?_; kernel_rfl) ?_
       refine' tv9 29 rfl (by intro _ hSw; (try dsimp only at hSw); refine ex_bdc (xl ⟨3, zero, no⟩).toArray ?_; kernel_rfl) ?_
       refine' tv9 30 rfl (by intro _ hSw; (try dsimp only at hSw); refine ex_bdc (xl ⟨3, zero, no⟩).toArray ?_; kernel_rfl) ?_
       refine' tv9 31 rfl (by intro _ hSw; (try dsimp only at hSw); refine ex_bdc (xl ⟨1, zero, no⟩).toArray ?_; kernel_rfl) ?_
       refine' tv9 32 rfl (by intro _ hSw; (try dsimp only at hSw); refine ex_bdc (xl ⟨3, zero, no⟩).toArray ?_; kernel_rfl) ?_
       refine' tv9 33 rfl (by intro _ hSw; (try dsimp only at hSw); refine ex_bdc (xl ⟨3, zero, no⟩).toArray ?_; kernel_rfl) ?_
       refine' tk9 34 rfl ?_
       refine' tk9 35 rfl ?_
       refine' tk9 36 rfl ?_
       refine' tv9 37 rfl (by intro _ hSw; (try dsimp only at hSw); refine ex_ldr isM (sm_at hSw.1 HAI.out) ?_; rfl) ?_
       refine' tv9 38 rfl (by intro _ hSw; (try dsimp only at hSw); refine ex_bdc (xl ⟨2, a, no⟩).toArray ?_; kernel_rfl) ?_
       refine ry [39] (.cons rfl (fun K hK => ?_) .nil)
       rw [if_pos (by rfl)]
       refine wp_bslz (z := 22) (((cls a b)).flatMap xl).toArray Tryz.underlying32 infoQ ⟨by decide, by decide⟩ ⟨by decide, by decide⟩ (fill_rows xl_len (by decide) (cls a b) (by kernel_rfl) (by rw [Array.size_map, Array.size_range]; rfl)) ?_
       intro gx gxw h F
       have HX := Lib.hid h
       have HK9 := Lib.hid (HK0.out.on F.below)
       clear h F
       refine hK.out _ _ HK9.out (fun hNext => ?_)
       clear hK K hHeld
       have hHeld := hNext; clear hNext
       (try simp only [Act.put, z1', z2', z3'])
       refine' tk9 40 rfl ?_
       refine wpAnyH_done (by kernel_rfl) ?_ _
       clear hHeld
       clear HK0
       obtain ⟨s, hs⟩ : ∃ s : Nat, i + k = s := ⟨_, rfl⟩
       have vik : IntKind.i64.wrap ((i : Int) + (k : Int)) = (s : Int) := by rw [IntKind.wrap_i64]; omega
       obtain ⟨d4, hd4⟩ : ∃ d4 : Nat, s % 4 = d4 := ⟨_, rfl⟩
       have r4 : (s : Int).tmod 4 = (d4 : Int) := by rw [Int.tmod_eq_emod_of_nonneg (by omega)]; omega
       obtain ⟨dk, hdk⟩ : ∃ dk : Nat, k % 3 = dk := ⟨_, rfl⟩
       have rk : (k : Int).tmod 3 = (dk : Int) := by rw [Int.tmod_eq_emod_of_nonneg (by omega)]; omega
       obtain ⟨di, hdi⟩ : ∃ di : Nat, i % 3 = di := ⟨_, rfl⟩
       have ri : (i : Int).tmod 3 = (di : Int) := by rw [Int.tmod_eq_emod_of_nonneg (by omega)]; omega
       have k19 : ¬ 19 = k := by omega
       obtain ⟨q, hq⟩ : ∃ q : Nat, min 19 (k + 5) = q := ⟨_, rfl⟩
       have q1 := min_wrap hlk hq
       have q2 : (k : Int) ≤ (q : Int) := by omega
       have q3 : (q : Int) ≤ 19 := by omega
       have q4 : k ≤ q := by omega
       obtain ⟨qm, hqm⟩ : ∃ qm : Nat, q - k = qm := ⟨_, rfl⟩
       have HQ := Lib.hid (And.intro hq hqm)
       have hqs : k + qm ≤ 19 := by omega
       clear hs hdk hdi hq
       by_cases h4 : d4 = 0
       · have e4 : ((d4 : Int) == 0) = true := by rw [h4]; rfl
         clear h4 hd4
         go_wp2_with fail
         refine wp_region_held_drew (S := (fun w' => Kw w g b2 w' ∧ w'.heap[gx]? = some (.cells ((cls a b).flatMap xl).toArray QT (0, 0)))) (by kernel_rfl) ⟨HK9.out.on ⟨rfl, rfl, rfl, Nat.le_refl _, fun _ _ => rfl⟩, stays HX.out ⟨rfl, rfl, rfl, Nat.le_refl _, fun _ _ => rfl⟩⟩ (fun hHeld => ?_)
         refine' tv9 0 rfl (by intro _ hSw; (try dsimp only at hSw); refine ex_ldz (pll OW) isP (pll_at hSw.1.2.1) rfl ?_; rfl) ?_
         refine' tk9 1 rfl ?_
         refine ry [2] (.cons rfl (fun K hK => ?_) .nil)
         go_simp
         refine (lplays OW 2 1 _ (cls a b) _ (tab_below HT.out hHeld.1.2.2) (rd_blk xl_len hHeld.2 15) (by show 15 ≤ 150; decide) (cls_fit HAF.out HBF.out)).mono ?_
         rintro e v3 ⟨rfl, hb⟩
         go_wp2_with fail
         have HS2 := Lib.hid (And.intro (hHeld.1.on hb) (stays hHeld.2 hb))
         clear hb
         refine hK.out _ _ HS2.out (fun hNext => ?_)
         clear hK K hHeld
         have hHeld := hNext; clear hNext
         (try simp only [Act.put, z1', z2', z3'])
         refine' tk9 3 rfl ?_
         refine' tk9 4 rfl ?_
         refine' tv9 5 rfl (by intro _ hSw; (try dsimp only at hSw); refine ex_ldz (pll OW) isP (pll_at hSw.1.2.1) rfl ?_; rfl) ?_
         refine' tv9 6 rfl (by intro _ hSw; (try dsimp only at hSw); refine ex_bdc (pcl OX) ?_; kernel_rfl) ?_
         refine' tk9 7 rfl ?_
         refine' tk9 8 rfl ?_
         refine' tk9 9 rfl ?_
         refine' tv9 10 rfl (by intro _ hSw; (try dsimp only at hSw); refine ex_ldr isM (sm_at hSw.1.1 HAI.out) ?_; rfl) ?_
         refine' tk9 11 rfl ?_
         refine' tk9 12 rfl ?_
         refine' tk9 13 rfl ?_
         refine' tv9 14 rfl (by intro _ hSw; (try dsimp only at hSw); refine ex_ldr isM (sm_at hSw.1.1 HBK.out) ?_; rfl) ?_
         refine' tk9 15 rfl ?_
         refine' tk9 16 rfl ?_
         refine' tk9 17 rfl ?_
         refine' tv9 18 rfl (by intro _ hSw; (try dsimp only at hSw); refine ex_ldr isM (sm_at hSw.1.1 HAI.out) ?_; rfl) ?_
         refine' tk9 20 rfl ?_
         refine' tk9 21 rfl ?_
         refine' tk9 22 rfl ?_
         refine' tv9 23 rfl (by intro _ hSw; (try dsimp only at hSw); refine ex_ldr isM (sm_at hSw.1.1 HBK.out) ?_; rfl) ?_
         refine ry [19, 24] ?_
         refine AllReadyH.cons rfl (fun K hK => ?_) (AllReadyH.cons rfl (fun K hK => ?_) AllReadyH.nil)
         · rw [if_pos (by rfl)]
           refine wp_bslz (z := 20) (([a, b, a]).flatMap ml).toArray Tryz.underlying22 Ctl.infoM ⟨by decide, by decide⟩ ⟨by decide, by decide⟩ (fill_rows ml_len (by decide) [a, b, a] (by kernel_rfl) (by rw [Array.size_map, Array.size_range]; rfl)) ?_
           intro g3 g3w h F
           have HS19 := Lib.hid (And.intro (hHeld.1.on F.below) (stays hHeld.2 F.below))
           have HA3 := Lib.hid h
           try replace HA4 := Lib.hid (stays HA4.out F.below)
           clear h F
           refine hK.out _ _ HS19.out (fun hNext => ?_)
           clear hK K hHeld
           have hHeld := hNext; clear hNext
           (try simp only [Act.put, z1', z2', z3'])
           refine ry [24] (.cons rfl (fun K hK => ?_) .nil)
           rw [if_pos (by rfl)]
           refine wp_bslz (z := 20) (([b]).flatMap ml).toArray Tryz.underlying22 Ctl.infoM ⟨by decide, by decide⟩ ⟨by decide, by decide⟩ (fill_rows ml_len (by decide) [b] (by kernel_rfl) (by rw [Array.size_map, Array.size_range]; rfl)) ?_
           intro g4 g4w h F
           have HS24 := Lib.hid (And.intro (hHeld.1.on F.below) (stays hHeld.2 F.below))
           have HA4 := Lib.hid h
           try replace HA3 := Lib.hid (stays HA3.out F.below)
           clear h F
           refine hK.out _ _ HS24.out (fun hNext => ?_)
           clear hK K hHeld
           have hHeld := hNext; clear hNext
           (try simp only [Act.put, z1', z2', z3'])
           refine ry [25] (.cons rfl (fun K hK => ?_) .nil)
           go_simp
           refine (ctlMeets.all OW OX _ 3 3 _ _ 1 1 _ _ (tab_below HT.out hHeld.1.2.2) (rd_arg (rd_blk (L := [a, b, a]) ml_len HA3.out 3) rfl (fits3 HAF.out HBF.out HAF.out)) (rd_arg (rd_blk (L := [b]) ml_len HA4.out 1) rfl (fits1 HBF.out))).mono ?_
           rintro e v5 ⟨rfl, hb⟩
           go_wp2_with fail
           have HS25 := Lib.hid (And.intro (hHeld.1.on hb) (stays hHeld.2 hb))
           clear hb
           refine hK.out _ _ HS25.out (fun hNext => ?_)
           clear hK K hHeld
           have hHeld := hNext; clear hNext
           (try simp only [Act.put, z1', z2', z3'])
           refine' tk9 26 rfl ?_
           refine' tk9 27 rfl ?_
           refine' tk9 28 rfl ?_
           refine' tk9 29 rfl ?_
           refine' tk9 30 rfl ?_
           refine' tk9 31 rfl ?_
           refine' tk9 32 rfl ?_
           refine' tk9 33 rfl ?_
           refine' tk9 34 rfl ?_
           refine' tk9 35 rfl ?_
           refine' tk9 36 rfl ?_
           refine' tk9 37 rfl ?_
           refine' tk9 38 rfl ?_
           refine' tk9 39 rfl ?_
           refine' tk9 40 rfl ?_
           refine' tk9 41 rfl ?_
           refine' tv9 42 rfl (by intro _ hSw; (try dsimp only at hSw); refine ex_ldr isM (sm_at hSw.1.1 HAI.out) ?_; rfl) ?_
           refine' tk9 43 rfl ?_
           refine' tk9 44 rfl ?_
           refine' tk9 45 rfl ?_
           refine' tk9 46 rfl ?_
           refine' tk9 47 rfl ?_
           refine' tk9 48 rfl ?_
           refine' tk9 49 rfl ?_
           refine' tk9 50 rfl ?_
           refine ry [51] (.cons rfl (fun K hK => ?_) .nil)
           go_simp
           refine (ctlGives.all _ _ a HAF.out.1 _ _ _ _ _ (tab_below HT.out hHeld.1.2.2) (sm_part (k := k) (m := qm) hHeld.1.1 (by omega))).mono ?_
           rintro e v6 ⟨rfl, hb⟩
           go_wp2_with fail
           have HS51 := Lib.hid (And.intro (hHeld.1.on hb) (stays hHeld.2 hb))
           clear hb
           refine hK.out _ _ HS51.out (fun hNext => ?_)
           clear hK K hHeld
           have hHeld := hNext; clear hNext
           (try simp only [Act.put, z1', z2', z3'])
           refine' tk9 52 rfl ?_
           refine' tk9 53 rfl ?_
           refine' tk9 54 rfl ?_
           refine wpAnyH_done (by kernel_rfl) ?_ _
           have HK1 : Hid (Kw w g b2 _) := Lib.hid HS51.out.1
           clear hHeld
           go_wp2_with fail
           go_roundg (19 - (k + 1))
           case measure => omega
           case rel => exact ⟨k + 1, by first | rfl | go_num, Nat.le_refl _, by omega, HK1⟩
         · rw [if_pos (by rfl)]
           refine wp_bslz (z := 20) (([b]).flatMap ml).toArray Tryz.underlying22 Ctl.infoM ⟨by decide, by decide⟩ ⟨by decide, by decide⟩ (fill_rows ml_len (by decide) [b] (by kernel_rfl) (by rw [Array.size_map, Array.size_range]; rfl)) ?_
           intro g4 g4w h F
           have HS24 := Lib.hid (And.intro (hHeld.1.on F.below) (stays hHeld.2 F.below))
           have HA4 := Lib.hid h
           try replace HA3 := Lib.hid (stays HA3.out F.below)
           clear h F
           refine hK.out _ _ HS24.out (fun hNext => ?_)
           clear hK K hHeld
           have hHeld := hNext; clear hNext
           (try simp only [Act.put, z1', z2', z3'])
           refine ry [19] (.cons rfl (fun K hK => ?_) .nil)
           rw [if_pos (by rfl)]
           refine wp_bslz (z := 20) (([a, b, a]).flatMap ml).toArray Tryz.underlying22 Ctl.infoM ⟨by decide, by decide⟩ ⟨by decide, by decide⟩ (fill_rows ml_len (by decide) [a, b, a] (by kernel_rfl) (by rw [Array.size_map, Array.size_range]; rfl)) ?_
           intro g3 g3w h F
           have HS19 := Lib.hid (And.intro (hHeld.1.on F.below) (stays hHeld.2 F.below))
           have HA3 := Lib.hid h
           try replace HA4 := Lib.hid (stays HA4.out F.below)
           clear h F
           refine hK.out _ _ HS19.out (fun hNext => ?_)
           clear hK K hHeld
           have hHeld := hNext; clear hNext
           (try simp only [Act.put, z1', z2', z3'])
           refine ry [25] (.cons rfl (fun K hK => ?_) .nil)
           go_simp
           refine (ctlMeets.all OW OX _ 3 3 _ _ 1 1 _ _ (tab_below HT.out hHeld.1.2.2) (rd_arg (rd_blk (L := [a, b, a]) ml_len HA3.out 3) rfl (fits3 HAF.out HBF.out HAF.out)) (rd_arg (rd_blk (L := [b]) ml_len HA4.out 1) rfl (fits1 HBF.out))).mono ?_
           rintro e v5 ⟨rfl, hb⟩
           go_wp2_with fail
           have HS25 := Lib.hid (And.intro (hHeld.1.on hb) (stays hHeld.2 hb))
           clear hb
           refine hK.out _ _ HS25.out (fun hNext => ?_)
           clear hK K hHeld
           have hHeld := hNext; clear hNext
           (try simp only [Act.put, z1', z2', z3'])
           refine' tk9 26 rfl ?_
           refine' tk9 27 rfl ?_
           refine' tk9 28 rfl ?_
           refine' tk9 29 rfl ?_
           refine' tk9 30 rfl ?_
           refine' tk9 31 rfl ?_
           refine' tk9 32 rfl ?_
           refine' tk9 33 rfl ?_
           refine' tk9 34 rfl ?_
           refine' tk9 35 rfl ?_
           refine' tk9 36 rfl ?_
           refine' tk9 37 rfl ?_
           refine' tk9 38 rfl ?_
           refine' tk9 39 rfl ?_
           refine' tk9 40 rfl ?_
           refine' tk9 41 rfl ?_
           refine' tv9 42 rfl (by intro _ hSw; (try dsimp only at hSw); refine ex_ldr isM (sm_at hSw.1.1 HAI.out) ?_; rfl) ?_
           refine' tk9 43 rfl ?_
           refine' tk9 44 rfl ?_
           refine' tk9 45 rfl ?_
           refine' tk9 46 rfl ?_
           refine' tk9 47 rfl ?_
           refine' tk9 48 rfl ?_
           refine' tk9 49 rfl ?_
           refine' tk9 50 rfl ?_
           refine ry [51] (.cons rfl (fun K hK => ?_) .nil)
           go_simp
           refine (ctlGives.all _ _ a HAF.out.1 _ _ _ _ _ (tab_below HT.out hHeld.1.2.2) (sm_part (k := k) (m := qm) hHeld.1.1 (by omega))).mono ?_
           rintro e v6 ⟨rfl, hb⟩
           go_wp2_with fail
           have HS51 := Lib.hid (And.intro (hHeld.1.on hb) (stays hHeld.2 hb))
           clear hb
           refine hK.out _ _ HS51.out (fun hNext => ?_)
           clear hK K hHeld
           have hHeld := hNext; clear hNext
           (try simp only [Act.put, z1', z2', z3'])
           refine' tk9 52 rfl ?_
           refine' tk9 53 rfl ?_
           refine' tk9 54 rfl ?_
           refine wpAnyH_done (by kernel_rfl) ?_ _
           have HK1 : Hid (Kw w g b2 _) := Lib.hid HS51.out.1
           clear hHeld
           go_wp2_with fail
           go_roundg (19 - (k + 1))
           case measure => omega
           case rel => exact ⟨k + 1, by first | rfl | go_num, Nat.le_refl _, by omega, HK1⟩
       · have e4 : ((d4 : Int) == 0) = false := Mem.beq_false (by omega)
         clear h4 hd4
         go_wp2_with fail
         refine wp_region_held_drew (S := (fun w' => Kw w g b2 w' ∧ w'.heap[gx]? = some (.cells ((cls a b).flatMap xl).toArray QT (0, 0)))) (by kernel_rfl) ⟨HK9.out.on ⟨rfl, rfl, rfl, Nat.le_refl _, fun _ _ => rfl⟩, stays HX.out ⟨rfl, rfl, rfl, Nat.le_refl _, fun _ _ => rfl⟩⟩ (fun hHeld => ?_)
         refine' tv9 0 rfl (by intro _ hSw; (try dsimp only at hSw); refine ex_ldz (pll OW) isP (pll_at hSw.1.2.1) rfl ?_; rfl) ?_
         refine' tk9 1 rfl ?_
         refine ry [2] (.cons rfl (fun K hK => ?_) .nil)
         go_simp
         refine (lplays OW 2 1 _ (cls a b) _ (tab_below HT.out hHeld.1.2.2) (rd_blk xl_len hHeld.2 15) (by show 15 ≤ 150; decide) (cls_fit HAF.out HBF.out)).mono ?_
         rintro e v3 ⟨rfl, hb⟩
         go_wp2_with fail
         have HS2 := Lib.hid (And.intro (hHeld.1.on hb) (stays hHeld.2 hb))
         clear hb
         refine hK.out _ _ HS2.out (fun hNext => ?_)
         clear hK K hHeld
         have hHeld := hNext; clear hNext
         (try simp only [Act.put, z1', z2', z3'])
         refine' tk9 3 rfl ?_
         refine' tk9 4 rfl ?_
         refine' tv9 5 rfl (by intro _ hSw; (try dsimp only at hSw); refine ex_ldz (pll OW) isP (pll_at hSw.1.2.1) rfl ?_; rfl) ?_
         refine' tv9 6 rfl (by intro _ hSw; (try dsimp only at hSw); refine ex_bdc (pcl OX) ?_; kernel_rfl) ?_
         refine' tk9 7 rfl ?_
         refine' tk9 8 rfl ?_
         refine' tk9 9 rfl ?_
         refine' tv9 10 rfl (by intro _ hSw; (try dsimp only at hSw); refine ex_ldr isM (sm_at hSw.1.1 HAI.out) ?_; rfl) ?_
         refine' tk9 11 rfl ?_
         refine' tk9 12 rfl ?_
         refine' tk9 13 rfl ?_
         refine' tv9 14 rfl (by intro _ hSw; (try dsimp only at hSw); refine ex_ldr isM (sm_at hSw.1.1 HBK.out) ?_; rfl) ?_
         refine' tk9 15 rfl ?_
         refine' tk9 16 rfl ?_
         refine' tk9 17 rfl ?_
         refine' tv9 18 rfl (by intro _ hSw; (try dsimp only at hSw); refine ex_ldr isM (sm_at hSw.1.1 HAI.out) ?_; rfl) ?_
         refine' tk9 20 rfl ?_
         refine' tk9 21 rfl ?_
         refine' tk9 22 rfl ?_
         refine' tv9 23 rfl (by intro _ hSw; (try dsimp only at hSw); refine ex_ldr isM (sm_at hSw.1.1 HBK.out) ?_; rfl) ?_
         refine ry [19, 24] ?_
         refine AllReadyH.cons rfl (fun K hK => ?_) (AllReadyH.cons rfl (fun K hK => ?_) AllReadyH.nil)
         · rw [if_pos (by rfl)]
           refine wp_bslz (z := 20) (([a, b, a]).flatMap ml).toArray Tryz.underlying22 Ctl.infoM ⟨by decide, by decide⟩ ⟨by decide, by decide⟩ (fill_rows ml_len (by decide) [a, b, a] (by kernel_rfl) (by rw [Array.size_map, Array.size_range]; rfl)) ?_
           intro g3 g3w h F
           have HS19 := Lib.hid (And.intro (hHeld.1.on F.below) (stays hHeld.2 F.below))
           have HA3 := Lib.hid h
           try replace HA4 := Lib.hid (stays HA4.out F.below)
           clear h F
           refine hK.out _ _ HS19.out (fun hNext => ?_)
           clear hK K hHeld
           have hHeld := hNext; clear hNext
           (try simp only [Act.put, z1', z2', z3'])
           refine ry [24] (.cons rfl (fun K hK => ?_) .nil)
           rw [if_pos (by rfl)]
           refine wp_bslz (z := 20) (([b]).flatMap ml).toArray Tryz.underlying22 Ctl.infoM ⟨by decide, by decide⟩ ⟨by decide, by decide⟩ (fill_rows ml_len (by decide) [b] (by kernel_rfl) (by rw [Array.size_map, Array.size_range]; rfl)) ?_
           intro g4 g4w h F
           have HS24 := Lib.hid (And.intro (hHeld.1.on F.below) (stays hHeld.2 F.below))
           have HA4 := Lib.hid h
           try replace HA3 := Lib.hid (stays HA3.out F.below)
           clear h F
           refine hK.out _ _ HS24.out (fun hNext => ?_)
           clear hK K hHeld
           have hHeld := hNext; clear hNext
           (try simp only [Act.put, z1', z2', z3'])
           refine ry [25] (.cons rfl (fun K hK => ?_) .nil)
           go_simp
           refine (ctlMeets.all OW OX _ 3 3 _ _ 1 1 _ _ (tab_below HT.out hHeld.1.2.2) (rd_arg (rd_blk (L := [a, b, a]) ml_len HA3.out 3) rfl (fits3 HAF.out HBF.out HAF.out)) (rd_arg (rd_blk (L := [b]) ml_len HA4.out 1) rfl (fits1 HBF.out))).mono ?_
           rintro e v5 ⟨rfl, hb⟩
           go_wp2_with fail
           have HS25 := Lib.hid (And.intro (hHeld.1.on hb) (stays hHeld.2 hb))
           clear hb
           refine hK.out _ _ HS25.out (fun hNext => ?_)
           clear hK K hHeld
           have hHeld := hNext; clear hNext
           (try simp only [Act.put, z1', z2', z3'])
           refine' tk9 26 rfl ?_
           refine' tk9 27 rfl ?_
           refine' tk9 28 rfl ?_
           refine' tk9 29 rfl ?_
           refine' tk9 30 rfl ?_
           refine' tk9 31 rfl ?_
           refine' tk9 32 rfl ?_
           refine' tk9 33 rfl ?_
           refine' tk9 34 rfl ?_
           refine sk9 35 rfl ?_
           refine sk9 36 rfl ?_
           refine sk9 37 rfl ?_
           refine sk9 38 rfl ?_
           refine sk9 39 rfl ?_
           refine sk9 40 rfl ?_
           refine sk9 41 rfl ?_
           refine sk9 42 rfl ?_
           refine sk9 43 rfl ?_
           refine sk9 44 rfl ?_
           refine sk9 45 rfl ?_
           refine sk9 46 rfl ?_
           refine sk9 47 rfl ?_
           refine sk9 48 rfl ?_
           refine sk9 49 rfl ?_
           refine sk9 50 rfl ?_
           refine sk9 51 rfl ?_
           refine sk9 52 rfl ?_
           refine' tk9 53 rfl ?_
           refine' tk9 54 rfl ?_
           refine wpAnyH_done (by kernel_rfl) ?_ _
           have HK1 : Hid (Kw w g b2 _) := Lib.hid HS25.out.1
           clear hHeld
           go_wp2_with fail
           go_roundg (19 - (k + 1))
           case measure => omega
           case rel => exact ⟨k + 1, by first | rfl | go_num, Nat.le_refl _, by omega, HK1⟩
         · rw [if_pos (by rfl)]
           refine wp_bslz (z := 20) (([b]).flatMap ml).toArray Tryz.underlying22 Ctl.infoM ⟨by decide, by decide⟩ ⟨by decide, by decide⟩ (fill_rows ml_len (by decide) [b] (by kernel_rfl) (by rw [Array.size_map, Array.size_range]; rfl)) ?_
           intro g4 g4w h F
           have HS24 := Lib.hid (And.intro (hHeld.1.on F.below) (stays hHeld.2 F.below))
           have HA4 := Lib.hid h
           try replace HA3 := Lib.hid (stays HA3.out F.below)
           clear h F
           refine hK.out _ _ HS24.out (fun hNext => ?_)
           clear hK K hHeld
           have hHeld := hNext; clear hNext
           (try simp only [Act.put, z1', z2', z3'])
           refine ry [19] (.cons rfl (fun K hK => ?_) .nil)
           rw [if_pos (by rfl)]
           refine wp_bslz (z := 20) (([a, b, a]).flatMap ml).toArray Tryz.underlying22 Ctl.infoM ⟨by decide, by decide⟩ ⟨by decide, by decide⟩ (fill_rows ml_len (by decide) [a, b, a] (by kernel_rfl) (by rw [Array.size_map, Array.size_range]; rfl)) ?_
           intro g3 g3w h F
           have HS19 := Lib.hid (And.intro (hHeld.1.on F.below) (stays hHeld.2 F.below))
           have HA3 := Lib.hid h
           try replace HA4 := Lib.hid (stays HA4.out F.below)
           clear h F
           refine hK.out _ _ HS19.out (fun hNext => ?_)
           clear hK K hHeld
           have hHeld := hNext; clear hNext
           (try simp only [Act.put, z1', z2', z3'])
           refine ry [25] (.cons rfl (fun K hK => ?_) .nil)
           go_simp
           refine (ctlMeets.all OW OX _ 3 3 _ _ 1 1 _ _ (tab_below HT.out hHeld.1.2.2) (rd_arg (rd_blk (L := [a, b, a]) ml_len HA3.out 3) rfl (fits3 HAF.out HBF.out HAF.out)) (rd_arg (rd_blk (L := [b]) ml_len HA4.out 1) rfl (fits1 HBF.out))).mono ?_
           rintro e v5 ⟨rfl, hb⟩
           go_wp2_with fail
           have HS25 := Lib.hid (And.intro (hHeld.1.on hb) (stays hHeld.2 hb))
           clear hb
           refine hK.out _ _ HS25.out (fun hNext => ?_)
           clear hK K hHeld
           have hHeld := hNext; clear hNext
           (try simp only [Act.put, z1', z2', z3'])
           refine' tk9 26 rfl ?_
           refine' tk9 27 rfl ?_
           refine' tk9 28 rfl ?_
           refine' tk9 29 rfl ?_
           refine' tk9 30 rfl ?_
           refine' tk9 31 rfl ?_
           refine' tk9 32 rfl ?_
           refine' tk9 33 rfl ?_
           refine' tk9 34 rfl ?_
           refine sk9 35 rfl ?_
           refine sk9 36 rfl ?_
           refine sk9 37 rfl ?_
           refine sk9 38 rfl ?_
           refine sk9 39 rfl ?_
           refine sk9 40 rfl ?_
           refine sk9 41 rfl ?_
           refine sk9 42 rfl ?_
           refine sk9 43 rfl ?_
           refine sk9 44 rfl ?_
           refine sk9 45 rfl ?_
           refine sk9 46 rfl ?_
           refine sk9 47 rfl ?_
           refine sk9 48 rfl ?_
           refine sk9 49 rfl ?_
           refine sk9 50 rfl ?_
           refine sk9 51 rfl ?_
           refine sk9 52 rfl ?_
           refine' tk9 53 rfl ?_
           refine' tk9 54 rfl ?_
           refine wpAnyH_done (by kernel_rfl) ?_ _
           have HK1 : Hid (Kw w g b2 _) := Lib.hid HS25.out.1
           clear hHeld
           go_wp2_with fail
           go_roundg (19 - (k + 1))
           case measure => omega
           case rel => exact ⟨k + 1, by first | rfl | go_num, Nat.le_refl _, by omega, HK1⟩
     · obtain rfl : k = 19 := by omega
       have s1 : decide ((((19 : Nat) : Int)) < 19) = false := by decide
       clear hlk hgm2 hkn
       have HRA := Lib.hid (sm_at HK0.out.1 HAI.out)
       go_wp2_with (first
        | ((with_reducible refine ldr (m := a) isM HRA.out ?hx ?_); (case hx => rfl))
        | (go_at_call 8; refine (ctlNone.law a HAF.out.1 ⟨#[163, 1]⟩ (by decide) _ (tab_below HT.out HK0.out.2.2)).mono ?_; rintro _ w9 ⟨rfl, hb⟩; have HK1 := Lib.hid (HK0.out.on hb); clear hb))
       go_roundg (19 - (i + 1))
       case measure => omega
       case rel => exact ⟨i + 1, by first | rfl | go_num, Nat.le_refl _, by omega, HK1⟩
  · obtain rfl : i = 19 := by omega
    have t1 : decide ((((19 : Nat) : Int)) < 19) = false := by decide
    clear hlt hgm hin
    go_wp2_with fail
    have HM0 : Hid (OwnS QT 22 xl wr w.heap.size (.slice none 0 0) (MN.take 0)) := Lib.hid (ownS_nil _ _)
    go_loopg [6, 7] 70 (fun gm s6 s7 wr => ∃ k : Nat, s7 = nm k ∧ 70 - k ≤ gm ∧ k ≤ 70 ∧ Hid (Kw w g b2 wr) ∧ Hid (OwnS QT 22 xl wr w.heap.size s6 (MN.take k)))
    case atStart => exact ⟨0, by first | rfl | go_num, by omega, by omega, HK0, HM0⟩
    case round =>
     clear HK0 HM0
     obtain ⟨k, rfl, hgm, hkn, HK0, HMN⟩ := hrel
     by_cases hlk : k < 70
     · have s1 : decide ((k : Int) < 70) = true := decide_eq_true (by omega)
       have s2 : (k : Int) < 70 := by omega
       have vk := nat_wrap (k + 1) (by omega)
       obtain ⟨d, hd⟩ : ∃ d : Nat, k % 12 = d := ⟨_, rfl⟩
       have rd : (k : Int).tmod 12 = (d : Int) := by rw [Int.tmod_eq_emod_of_nonneg (by omega)]; omega
       have d0 : (0 : Int) ≤ (d : Int) := by omega
       have d1 : (d : Int) < 19 := by omega
       obtain ⟨m, hm⟩ : ∃ m, SM[d]? = some m := ⟨_, List.getElem?_eq_getElem (l := SM) (show d < 19 by omega)⟩
       have HMI := Lib.hid hm
       have HNX : Hid (MN.take (k + 1) = MN.take k ++ [⟨2, m, no⟩]) := Lib.hid (by rw [mn_next hlk]; unfold mn; rw [hd, hm]; rfl)
       have HLT : Hid ((MN.take k).length + 1 ≤ 1000000) := Lib.hid (by rw [List.length_take, show MN.length = 70 from rfl]; omega)
       clear hm hd hlk
       have HRM := Lib.hid (sm_at HK0.out.1 HMI.out)
       have HBU : Hid (Tryz.prog.built QT [(0, .int .i64 2), (1, mv m)] = some (xl ⟨2, m, no⟩).toArray) := Lib.hid (by kernel_rfl)
       go_wp2_with (first
        | ((with_reducible refine ldr (m := m) isM HRM.out ?hx ?_); (case hx => rfl))
        | ((with_reducible refine bdC HBU.out ?hl ?_); (case hl => kernel_rfl))
        | ((with_reducible refine bslz (z := 22) (([⟨2, m, no⟩] : List Cl).flatMap xl).toArray Tryz.underlying32 infoQ ?hl ?hz ?hf ?_); (case hl => exact ⟨by decide, by decide⟩); (case hz => exact ⟨by decide, by decide⟩); (case hf => exact fill_rows xl_len (by decide) [⟨2, m, no⟩] (by kernel_rfl) (by rw [Array.size_map, Array.size_range]; rfl)); intro b3 w3 h3 F3; have HK3 := Lib.hid (HK0.out.on F3.below); have HM3 := Lib.hid (HMN.out.below F3.below); have HB3 := Lib.hid (row_ofz (vs := xl ⟨2, m, no⟩) (by rw [List.flatMap_cons, List.flatMap_nil, List.append_nil] at h3; exact h3)); clear h3 F3)
        | (at_builtin; refine wpList_append_elt eltQ _ rfl _ _ rfl w.heap.size _ rfl _ HM3.out b3 _ rfl ⟨2, m, no⟩ HB3.out HLT.out HK3.out.2.2.size ?_; intro v5 w5 ho hg _; have HK5 : Hid (Kw w g b2 w5) := Lib.hid (Kw.grown HK3.out HM3.out hg); have HM5 := Lib.hid ho; clear ho hg))
       rw [← HNX.out] at HM5
       go_roundg (70 - (k + 1))
       case measure => omega
       case rel => exact ⟨k + 1, by first | rfl | go_num, Nat.le_refl _, by omega, HK5, HM5⟩
     · obtain rfl : k = 70 := by omega
       have s1 : decide ((((70 : Nat) : Int)) < 70) = false := by decide
       replace HMN : Hid (OwnS QT 22 xl wr w.heap.size _ MN) := Lib.hid HMN.out
       clear hlk hgm hkn
       go_wp2_with fail
       obtain ⟨g7, hg7⟩ : ∃ g7, wr.heap.size = g7 := ⟨_, rfl⟩
       obtain ⟨u7, hu7⟩ : ∃ u7, wr.alloc NCO = u7 := ⟨_, rfl⟩
       have hb7 : Below wr.heap.size wr u7 := by rw [← hu7]; exact (Below.refl _ _).alloc (Nat.le_refl _) _
       replace HK0 := Lib.hid (HK0.out.on hb7)
       replace HMN := Lib.hid (HMN.out.below hb7)
       have HNB : Hid (u7.heap[g7]? = some NCO) := Lib.hid (by rw [← hu7, ← hg7]; exact nest wr [_] 0 _ rfl)
       rw [hg7]
       have hu8 : wr.alloc (.cells #[.int .i64 (-9223372036854775808), .int .i64 (-1), .int .i64 0, .int .i64 1, .int .i64 255, .int .i64 256, .int .i64 9223372036854775807] 3 (0, 0)) = u7 := hu7
       rw [hu8]
       clear hu7 hu8 hb7 hg7
       go_loopg [140] 7 (fun gm s140 wr => ∃ k : Nat, s140 = nm k ∧ 7 - k ≤ gm ∧ k ≤ 7 ∧ Hid (Kw w g b2 wr) ∧ Hid (OwnS QT 22 xl wr w.heap.size u6 MN) ∧ Hid (wr.heap[g7]? = some NCO))
       case atStart => exact ⟨0, by first | rfl | go_num, by omega, by omega, HK0, HMN, HNB⟩
       case round =>
        clear HK0 HMN HNB
        obtain ⟨k, rfl, hgm, hkn, HK0, HMN, HNB⟩ := hrel
        by_cases hlk : k < 7
        · have s1 : decide ((k : Int) < 7) = true := decide_eq_true (by omega)
          have s2 : (k : Int) < 7 := by omega
          have s3 : (0 : Int) ≤ (k : Int) := by omega
          have vk := nat_wrap (k + 1) (by omega)
          obtain ⟨z, hz⟩ : ∃ z, NL[k]? = some z := ⟨_, List.getElem?_eq_getElem (l := NL) hlk⟩
          have c7 : wr.cell? ⟨g7, k, none⟩ = some (.int .i64 z) := cell_of HNB.out (show (NL.map (Value.int .i64)).toArray[k]? = _ by rw [List.getElem?_toArray, List.getElem?_map, hz]; rfl)
          clear hz
          go_wp2_with fail
          replace HK0 := Lib.hid (HK0.out.on (u' := wr.drew) ⟨rfl, rfl, rfl, Nat.le_refl _, fun _ _ => rfl⟩)
          replace HMN := Lib.hid (HMN.out.below (w' := wr.drew) ⟨rfl, rfl, rfl, Nat.le_refl _, fun _ _ => rfl⟩)
          replace HNB := Lib.hid (stays (b := wr.drew) HNB.out ⟨rfl, rfl, rfl, Nat.le_refl _, fun _ _ => rfl⟩)
          refine wp_region_held_drew (S := (fun w' => Kw w g b2 w')) (by kernel_rfl) (HK0.out.on ⟨rfl, rfl, rfl, Nat.le_refl _, fun _ _ => rfl⟩) (fun hHeld => ?_)
          refine' tk9 0 rfl ?_
          refine' tk9 1 rfl ?_
          refine' tv9 2 rfl (by intro _ hSw; (try dsimp only at hSw); refine ex_bdc (pcl (PNN z)) ?_; kernel_rfl) ?_
          refine' tk9 3 rfl ?_
          refine' tk9 4 rfl ?_
          refine' tk9 5 rfl ?_
          refine' tk9 6 rfl ?_
          refine' tv9 7 rfl (by intro _ hSw; (try dsimp only at hSw); refine ex_ldr isM (sm_at (k := 0) (m := M0) hSw.1 rfl) ?_; rfl) ?_
          refine' tv9 8 rfl (by intro _ hSw; (try dsimp only at hSw); refine ex_bdc (xl ⟨0, M0, no⟩).toArray ?_; kernel_rfl) ?_
          refine' tk9 9 rfl ?_
          refine' tk9 10 rfl ?_
          refine' tv9 11 rfl (by intro _ hSw; (try dsimp only at hSw); refine ex_ldr isM (sm_at (k := 0) (m := M0) hSw.1 rfl) ?_; rfl) ?_
          refine' tv9 12 rfl (by intro _ hSw; (try dsimp only at hSw); refine ex_bdc (xl ⟨2, M0, no⟩).toArray ?_; kernel_rfl) ?_
          refine' tv9 13 rfl (by intro _ hSw; (try dsimp only at hSw); refine ex_bdc (xl ⟨1, zero, no⟩).toArray ?_; kernel_rfl) ?_
          refine' tv9 14 rfl (by intro _ hSw; (try dsimp only at hSw); refine ex_bdc (xl ⟨1, zero, no⟩).toArray ?_; kernel_rfl) ?_
          refine' tv9 15 rfl (by intro _ hSw; (try dsimp only at hSw); refine ex_bdc (xl ⟨3, zero, no⟩).toArray ?_; kernel_rfl) ?_
          refine' tv9 16 rfl (by intro _ hSw; (try dsimp only at hSw); refine ex_bdc (xl ⟨1, zero, no⟩).toArray ?_; kernel_rfl) ?_
          refine' tv9 17 rfl (by intro _ hSw; (try dsimp only at hSw); refine ex_bdc (xl ⟨3, zero, no⟩).toArray ?_; kernel_rfl) ?_
          refine ry [18] (.cons rfl (fun K hK => ?_) .nil)
          rw [if_pos (by rfl)]
          refine wp_bslz (z := 22) ((nls).flatMap xl).toArray Tryz.underlying32 infoQ ⟨by decide, by decide⟩ ⟨by decide, by decide⟩ (fill_rows xl_len (by decide) nls (by kernel_rfl) (by rw [Array.size_map, Array.size_range]; rfl)) ?_
          intro gx gxw h F
          have HX := Lib.hid h
          have HK9 := Lib.hid (hHeld.on F.below)
          have HM9 := Lib.hid (HMN.out.below F.below)
          have HN9 := Lib.hid (stays HNB.out F.below)
          clear h F
          refine hK.out _ _ HK9.out (fun hNext => ?_)
          clear hK K hHeld
          have hHeld := hNext; clear hNext
          (try simp only [Act.put, z1', z2', z3'])
          refine ry [19] (.cons rfl (fun K hK => ?_) .nil)
          go_simp
          refine (lplays (PNN z) z z _ nls _ (tab_below HT.out hHeld.2.2) (rd_blk xl_len HX.out 7) (by decide) nls_fit).mono ?_
          rintro e v3 ⟨rfl, hb⟩
          go_wp2_with fail
          have HK8 := Lib.hid (hHeld.on hb)
          have HM8 := Lib.hid (HM9.out.below hb)
          have HN8 := Lib.hid (stays HN9.out hb)
          clear hb
          refine hK.out _ _ HK8.out (fun hNext => ?_)
          clear hK K hHeld
          have hHeld := hNext; clear hNext
          (try simp only [Act.put, z1', z2', z3'])
          refine' tk9 20 rfl ?_
          refine' tk9 21 rfl ?_
          refine' tk9 22 rfl ?_
          refine' tk9 23 rfl ?_
          refine' tk9 24 rfl ?_
          refine' tk9 25 rfl ?_
          refine' tv9 26 rfl (by intro _ hSw; (try dsimp only at hSw); refine ex_ldr isM (sm_at (k := 7) (m := M7c) hSw.1 rfl) ?_; rfl) ?_
          refine' tk9 27 rfl ?_
          refine' tk9 28 rfl ?_
          refine ry [29] (.cons rfl (fun K hK => ?_) .nil)
          go_simp
          refine (ctlGives.all z z M7c (sm_fit M7c m7_in).1 _ _ _ _ _ (tab_below HT.out hHeld.2.2) (sm_part (k := 0) (m := 4) hHeld.1 (by decide))).mono ?_
          rintro e v4 ⟨rfl, hb⟩
          go_wp2_with fail
          have HK7 := Lib.hid (hHeld.on hb)
          have HM7 := Lib.hid (HM8.out.below hb)
          have HN7 := Lib.hid (stays HN8.out hb)
          clear hb
          refine hK.out _ _ HK7.out (fun hNext => ?_)
          clear hK K hHeld
          have hHeld := hNext; clear hNext
          (try simp only [Act.put, z1', z2', z3'])
          refine' tk9 30 rfl ?_
          refine' tk9 31 rfl ?_
          refine wpAnyH_done (by kernel_rfl) ?_ _
          clear hHeld
          go_wp2_with fail
          go_roundg (7 - (k + 1))
          case measure => omega
          case rel => exact ⟨k + 1, by first | rfl | go_num, Nat.le_refl _, by omega, HK7, HM7, HN7⟩
        · obtain rfl : k = 7 := by omega
          have s1 : decide ((((7 : Nat) : Int)) < 7) = false := by decide
          clear hlk hgm hkn HNB
          go_wp2_with fail
          replace HK0 := Lib.hid (HK0.out.on (u' := wr.drew) ⟨rfl, rfl, rfl, Nat.le_refl _, fun _ _ => rfl⟩)
          replace HMN := Lib.hid (HMN.out.below (w' := wr.drew) ⟨rfl, rfl, rfl, Nat.le_refl _, fun _ _ => rfl⟩)
          refine wp_region_held_drew (S := (fun w' => Kw w g b2 w')) (by kernel_rfl) (HK0.out.on ⟨rfl, rfl, rfl, Nat.le_refl _, fun _ _ => rfl⟩) (fun hHeld => ?_)
          refine' tv9 0 rfl (by intro _ hSw; (try dsimp only at hSw); refine ex_ldz (pll OW) isP (pll_at hSw.2.1) rfl ?_; rfl) ?_
          refine' tk9 1 rfl ?_
          refine' tk9 2 rfl ?_
          refine ry [3] ?_
          refine AllReadyH.cons (o := ⟨some 180, .call ⟨.builtin .append, #[.tmp 178, .tmp 179], #[32, 32]⟩, 32, "law.go:264", #[⟨1, .data⟩, ⟨2, .data⟩], none⟩) rfl (fun K hK => ?_) AllReadyH.nil
          obtain ⟨v8, w8, hr8, hrd, hg8⟩ := app_self _ 32 w.heap.size _ MN HMN.out (by decide) (by decide) hHeld.2.2.size
          refine step_append_known rfl _ _ _ _ rfl rfl rfl hr8 ?_
          have HR8 := Lib.hid hrd
          have HK8 := Lib.hid (hHeld.grown HMN.out hg8)
          clear hrd hg8 hr8
          refine hK.out _ _ HK8.out (fun hNext => ?_)
          clear hK K hHeld
          have hHeld := hNext; clear hNext
          (try simp only [Act.put, z1', z2', z3'])
          refine ry [4] (.cons rfl (fun K hK => ?_) .nil)
          go_simp
          refine (lplays OW 2 1 _ (MN ++ MN) _ (tab_below HT.out hHeld.2.2) HR8.out (by decide) mn_fit).mono ?_
          rintro e v3 ⟨rfl, hb⟩
          go_wp2_with fail
          have HK7 := Lib.hid (hHeld.on hb)
          clear hb
          refine hK.out _ _ HK7.out (fun hNext => ?_)
          clear hK K hHeld
          have hHeld := hNext; clear hNext
          (try simp only [Act.put, z1', z2', z3'])
          refine' tk9 5 rfl ?_
          refine ry [6] (.cons rfl (fun K hK => ?_) .nil)
          go_simp
          refine (CW.out _ (tab_below HT.out hHeld.2.2)).mono ?_
          rintro e v4 ⟨rfl, hb⟩
          go_wp2_with fail
          have HK6 := Lib.hid (hHeld.on hb)
          clear hb
          refine hK.out _ _ HK6.out (fun hNext => ?_)
          clear hK K hHeld
          have hHeld := hNext; clear hNext
          (try simp only [Act.put, z1', z2', z3'])
          refine' tk9 7 rfl ?_
          refine' tk9 8 rfl ?_
          refine wpAnyH_done (by kernel_rfl) ?_ _
          clear hHeld
          go_wp2_with fail
          go_ret
          exact ⟨rfl, HK6.out.2.2⟩
end Go.Proofs.YtakkhdammmcjcaaGreatDoor.ctlKnown
