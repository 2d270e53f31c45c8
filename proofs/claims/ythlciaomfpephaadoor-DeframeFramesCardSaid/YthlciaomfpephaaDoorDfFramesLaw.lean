/-
  DeframeFrames: frames that are encoded, one behind the other, are told in order, each at its last flag, and nothing is bad. Condition: the tables of layers 1 and 3 lie where the program lays them.
-/
import Derived.Test.YthlciaomfpephaaDoorDfComesLaw
import Derived.Test.YthlciaomfpephaaDoorDfArgs
namespace Go.Proofs.YthlciaomfpephaaDoor.Df
open Go.RowKit Go.Proofs.YthlciaomfpephaaDoor.Base Go.Proofs.YthlciaomfpephaaDoor.Ea Go.Proofs.YthlciaomfpephaaDoor.Field Go.Proofs.YthlciaomfpephaaDoor.Basic Go.Proofs.YthlciaomfpephaaDoor.Adv
/-- What holds when some frames have been fed (sm: whether there was one). -/
structure FramesAt (w : World) (adv ini : Bool) (n1 : Int) (sm : Bool) (wr : World) : Prop where
  ex : ∃ q v, DfAt wr (w.heap.size + 1) ⟨adv, ini, room n1⟩ q v ∧ Good ⟨adv, ini, room n1⟩ q ∧ q.bad = 0 ∧ (q.m = 0 ∨ Ready ⟨adv, ini, room n1⟩ q) ∧ (sm = true → Ready ⟨adv, ini, room n1⟩ q)
  row : wr.heap[w.heap.size]? = some (rowO adv ini n1)
  tabs : TabsB wr (w.heap.size + 1)
  base : Below w.heap.size w wr
theorem FramesAt.on {w wr w1 : World} {adv ini sm : Bool} {n1 : Int} (h : FramesAt w adv ini n1 sm wr) (hb : Below wr.heap.size wr w1) : FramesAt w adv ini n1 sm w1 := by
  obtain ⟨q, v, h1, h2⟩ := h.ex
  have hl : w.heap.size + 1 ≤ wr.heap.size := Nat.le_of_lt h1.lt
  exact ⟨⟨q, v, h1.below hb, h2⟩, stays h.row hb, h.tabs.next (hb.mono hl) (Nat.le_refl _), h.base.trans (hb.mono (by omega))⟩
theorem spot_none {w : World} {x : Addr} {v : Value} (h : w.cell? x = some v) : x = ⟨x.block, x.off, none⟩ := by
  obtain ⟨b, o, sp⟩ := x
  cases sp with
  | none => rfl
  | some y =>
    exfalso
    unfold World.cell? at h
    split at h <;> simp_all
theorem add_at (b o j : Nat) : (⟨b, o, none⟩ : Addr).add j = ⟨b, o + j, none⟩ := by unfold Addr.add; split <;> simp_all
/-- What an argument's frame lies at. -/
theorem ArgF.at' {w wr : World} {oa : Option Addr} {n : Nat} {F : Nat → Fr} (h : ArgF w oa n F) (hb : Below w.heap.size w wr) {k : Nat} (hk : k < n) : ∃ a, oa = some a ∧ ∃ gb go, a.add (k * 7) = ⟨gb, go, none⟩ ∧ gb < w.heap.size ∧ RowAt wr gb go (F k) := by
  obtain ⟨a, rfl, ha⟩ := h.has (by omega)
  have p0 := h.cell a rfl k hk 0 (by decide)
  rw [show ∀ x : Addr, x.add 0 = x from fun x => if_pos rfl, show (fc (F k))[0]? = some (.int .u8 ((F k).d : Int)) from rfl] at p0
  have e := spot_none p0
  have hlt : (a.add (k * 7)).block < w.heap.size := by rw [add_block]; exact ha
  refine ⟨a, rfl, (a.add (k * 7)).block, (a.add (k * 7)).off, e, hlt, ?_⟩
  have q : ∀ j, j < 7 → wr.cell? ⟨(a.add (k * 7)).block, (a.add (k * 7)).off + j, none⟩ = (fc (F k))[j]? := fun j hj => by
    have p := h.cell a rfl k hk j hj
    rw [e, add_at] at p
    rw [← p]
    exact hb.cell (p := ⟨(a.add (k * 7)).block, (a.add (k * 7)).off + j, none⟩) hlt
  exact ⟨q 0 (by decide), q 1 (by decide), q 2 (by decide), q 3 (by decide), q 4 (by decide), q 5 (by decide), q 6 (by decide)⟩
theorem ArgB.at' {w wr : World} {oa : Option Addr} {n : Nat} {B : Nat → Bool} (h : ArgB w oa n B) (hb : Below w.heap.size w wr) {k : Nat} (hk : k < n) : ∃ a, oa = some a ∧ ∃ gb go, a.add k = ⟨gb, go, none⟩ ∧ wr.cell? ⟨gb, go, none⟩ = some (.bool (B k)) := by
  obtain ⟨a, rfl, ha⟩ := h.has (by omega)
  have p0 := h.cell a rfl k hk
  have e := spot_none p0
  have hlt : (a.add k).block < w.heap.size := by rw [add_block]; exact ha
  refine ⟨a, rfl, (a.add k).block, (a.add k).off, e, ?_⟩
  rw [← e, ← p0]
  exact hb.cell hlt
set_option maxHeartbeats 2000000 in
set_option maxRecDepth 100000 in
theorem deframe_frames (adv ini : Bool) (n1 : Int) (oa : Option Addr) (n cap : Nat) (F : Nat → Fr) (ob : Option Addr) (nb capb : Nat) (B : Nat → Bool) (w : World) (ht : Tabs w) (hA : ArgF w oa n F) (hB : ArgB w ob nb B) :
    Calls Tryd.prog 3 #[rowV adv ini n1, .slice oa n cap, .slice ob nb capb] w fun e w' => e = .returned (.bool true) ∧ Below w.heap.size w w' := by
  have HT := Lib.hid ht
  have HP := Lib.hid (tabs_pos ht)
  have HAF := Lib.hid hA
  have HAB := Lib.hid hB
  clear ht hA hB
  by_cases hs : 20 < n
  · have h1 : (20 : Int) < (n : Int) := by omega
    go_enter Tryd.func3, Tryd.ntmps3
    go_wp2_with (go_at_call 6; ((with_reducible refine (works _ ?_).mono ?_); (· exact tabs_below HT.out ((Below.refl _ _).alloc (Nat.le_refl _) _)); rintro e w1 ⟨rfl, hb⟩; have HB := Lib.hid (on0 hb); clear hb))
    go_ret
    exact ⟨rfl, HB.out⟩
  have h1 : ¬ (20 : Int) < (n : Int) := by omega
  go_enter Tryd.func3, Tryd.ntmps3
  go_wp2_with (go_at_call 7; ((with_reducible refine (fnew adv ini n1 _).mono ?_); rintro e w1 ⟨rfl, hd1, hb⟩; have HD1 := Lib.hid hd1; have HB := Lib.hid hb; clear hd1 hb))
  go_loopw [8, 9] (fun sv i wr => ∃ (sm : Bool) (k : Nat), sv = .bool sm ∧ k ≤ n ∧ i = .int .i64 (k : Int) ∧ Hid (FramesAt w adv ini n1 sm wr)) (fun _ i _ => n - (intOf i).toNat)
  case atStart =>
    refine ⟨false, 0, rfl, Nat.zero_le _, rfl, Lib.hid ⟨⟨⟨0, [], 0, 0⟩, nilV, ?_, good_new (room_le n1), rfl, Or.inl rfl, fun h => by cases h⟩, ?_, ?_, on0 HB.out⟩⟩
    · have p := HD1.out
      rw [size_alloc] at p
      exact p
    · exact fresh0 HB.out
    · exact ⟨tabs_below HT.out (on0 HB.out), Nat.lt_succ_of_lt HP.out.1, Nat.lt_succ_of_lt HP.out.2⟩
  case round =>
    obtain ⟨sm, k, rfl, hk, rfl, HR⟩ := hrel
    have htw : Tabs wr := HR.out.tabs.1
    by_cases hlk : k < n
    · obtain ⟨a, rfl, gb, go, ha, hgb, hrw⟩ := HAF.out.at' HR.out.base hlk
      obtain ⟨f, hf⟩ : ∃ f, F k = f := ⟨_, rfl⟩
      obtain ⟨hin, hlen⟩ := HAF.out.inb k hlk
      rw [hf] at hin hlen hrw
      have HRow := Lib.hid hrw
      obtain ⟨c1, c2, c3, c4, c5, c6, c7⟩ := hrw
      obtain ⟨r0, r1, r2⟩ := row_cells HR.out.row
      clear hf
      by_cases hi : 128 < f.info.size
      · have d1 : decide ((f.info.size : Int) > 128) = true := by simp; omega
        have d2 : (128 : Int) < (f.info.size : Int) := by omega
        go_wp2_with (go_at_call 6; ((with_reducible refine (works _ htw).mono ?_); rintro e w2 ⟨rfl, hb⟩; have HB2 := Lib.hid (HR.out.on hb).base; clear hb))
        go_ret
        exact ⟨rfl, HB2.out⟩
      have d1 : decide ((f.info.size : Int) > 128) = false := by simp; omega
      have d2 : ¬ (128 : Int) < (f.info.size : Int) := by omega
      by_cases he : encX adv f ini n1 = 0
      · obtain ⟨c, hc⟩ : ∃ c : Cf, c = ⟨adv, ini, room n1⟩ := ⟨_, rfl⟩
        have hcr : c.room ≤ 128 := by rw [hc]; exact room_le n1
        have he' : encX c.adv f c.ini c.room = 0 := by rw [hc]; show encX adv f ini ((room n1 : Nat) : Int) = 0; rw [encX_room]; exact he
        obtain ⟨dec, hd, hdf⟩ := decs_of c f hin he' (innX_le he')
        have HD : Hid (∀ l, l.length ≤ 300 → DecX c l (dec l)) := Lib.hid (fun l hl => (hd l hl).1)
        have hz := bytes_le he'
        have bl := bytesX_long c.adv f c.ini
        have HX : Hid (∀ w, Tabs w → Calls Tryd.prog 8 #[rowV adv ini n1, fv f] w fun e w' => e = .returned (.tuple #[.string (bytesX c.adv f c.ini), .bool true]) ∧ Below w.heap.size w w') := Lib.hid (fun w ht => by rw [hc]; exact fencoded_yes adv f hin hlen ini n1 w ht he)
        have HW : Hid (∀ (q : St), (q.m = 0 ∨ Ready ⟨adv, ini, room n1⟩ q) → ∃ q2, Ready c q2 ∧ q2.bad = q.bad ∧ run c dec ⟨q, [], false⟩ (bytesX c.adv f c.ini).data.toList = ⟨q2, [f], true⟩) := Lib.hid (fun q hq => run_whole hcr dec f he' hdf q [] false (by rw [hc]; exact hq))
        have HG : Hid (∀ (q : St), Ready ⟨adv, ini, room n1⟩ q → ∃ q2, Ready c q2 ∧ q2.bad = q.bad ∧ run c dec ⟨q, [], false⟩ ((bytesX c.adv f c.ini).extract 1 (bytesX c.adv f c.ini).size).data.toList = ⟨q2, [f], true⟩) := Lib.hid (fun q hq => by
          rw [ext_drop, bytesX_list]
          exact run_frame hcr dec f he' hdf q [] false (by rw [hc]; exact hq))
        generalize bytesX c.adv f c.ini = t at HX bl hz HW HG
        have hne := neq_same f
        have hgt : Tryd.prog.eqGuardType Tryd.prog.depth 30 = false := by kernel_rfl
        have z1 : (1 : Int) ≤ (t.size : Int) := by omega
        clear he he' hd hdf hin hlen hi
        cases sm
        · go_wp2_with fail
          refine wp_region_held_drew (S := fun w' => w'.cell? ⟨w.heap.size, 0, none⟩ = some (.bool adv) ∧ w'.cell? ⟨w.heap.size, 1, none⟩ = some (.bool ini) ∧ w'.cell? ⟨w.heap.size, 2, none⟩ = some (.int .i64 n1) ∧ w'.cell? ⟨gb, go, none⟩ = some (.int .u8 (f.d : Int)) ∧ w'.cell? ⟨gb, go + 1, none⟩ = some (.bool f.c) ∧ w'.cell? ⟨gb, go + 2, none⟩ = some (.int .u8 (f.k : Int)) ∧ w'.cell? ⟨gb, go + 3, none⟩ = some (.bool f.pf) ∧ w'.cell? ⟨gb, go + 4, none⟩ = some (.int .u8 (f.ns : Int)) ∧ w'.cell? ⟨gb, go + 5, none⟩ = some (.int .u8 (f.nr : Int)) ∧ w'.cell? ⟨gb, go + 6, none⟩ = some (.string f.info)) (by kernel_rfl) ⟨r0, r1, r2, c1, c2, c3, c4, c5, c6, c7⟩ (fun hHeld => ?_)
          refine' wpAnyH_take (i := 0) (oi := { dst := some 40, op := Go.Op.load 23 (Go.Operand.tmp 3), type := 23, pos := "law.go:73", after := #[], guard := none }) (v := _) rfl (by kernel_rfl) (by kernel_rfl) (by kernel_rfl) (fun _ _ _ h => h) (Or.inl ⟨by rfl, ?hy1⟩) (by assumption) ?hr1
          case hy1 => (intro _ hSw; (try dsimp only at hSw); go_simp <;> with_reducible rfl)
          simp only [Act.put, List.setIfInBounds_toArray, List.set_cons_zero, List.set_cons_succ]
          refine' wpAnyH_take (i := 1) (oi := { dst := some 41, op := Go.Op.move (Go.Operand.tmp 1), type := 24, pos := "law.go:73", after := #[], guard := none }) (v := _) rfl (by kernel_rfl) (by kernel_rfl) (by kernel_rfl) (fun _ _ _ h => h) (Or.inl ⟨by rfl, ?hy2⟩) (by assumption) ?hr2
          case hy2 => (intro _ hSw; (try dsimp only at hSw); go_simp <;> with_reducible rfl)
          simp only [Act.put, List.setIfInBounds_toArray, List.set_cons_zero, List.set_cons_succ]
          refine' wpAnyH_take (i := 2) (oi := { dst := some 42, op := Go.Op.move (Go.Operand.tmp 9), type := 3, pos := "law.go:73", after := #[], guard := none }) (v := _) rfl (by kernel_rfl) (by kernel_rfl) (by kernel_rfl) (fun _ _ _ h => h) (Or.inl ⟨by rfl, ?hy3⟩) (by assumption) ?hr3
          case hy3 => (intro _ hSw; (try dsimp only at hSw); go_simp <;> with_reducible rfl)
          simp only [Act.put, List.setIfInBounds_toArray, List.set_cons_zero, List.set_cons_succ]
          refine' wpAnyH_take (i := 3) (oi := { dst := some 43, op := Go.Op.indexAddr 24 (Go.Operand.tmp 41) (Go.Operand.tmp 42), type := 0, pos := "law.go:73", after := #[{ on := 1, ground := Go.Ground.data }, { on := 2, ground := Go.Ground.data }], guard := none }) (v := _) rfl (by kernel_rfl) (by kernel_rfl) (by kernel_rfl) (fun _ _ _ h => h) (Or.inl ⟨by rfl, ?hy4⟩) (by assumption) ?hr4
          case hy4 => (intro _ hSw; (try dsimp only at hSw); go_simp <;> with_reducible rfl)
          simp only [Act.put, List.setIfInBounds_toArray, List.set_cons_zero, List.set_cons_succ]
          refine' wpAnyH_take (i := 4) (oi := { dst := some 44, op := Go.Op.load 30 (Go.Operand.tmp 43), type := 30, pos := "law.go:73", after := #[{ on := 3, ground := Go.Ground.data }], guard := none }) (v := _) rfl (by kernel_rfl) (by kernel_rfl) (by kernel_rfl) (fun _ _ _ h => h) (Or.inl ⟨by rfl, ?hy5⟩) (by assumption) ?hr5
          case hy5 => (intro _ hSw; (try dsimp only at hSw); go_simp <;> with_reducible rfl)
          simp only [Act.put, List.setIfInBounds_toArray, List.set_cons_zero, List.set_cons_succ]
          refine wpAnyH_ready (rs := [5]) (by kernel_rfl) (by simp) ?_
          refine AllReadyH.cons (o := { dst := some 45, op := Go.Op.call { callee := Go.Callee.value (Go.Operand.func 8), args := #[Go.Operand.tmp 40, Go.Operand.tmp 44], argTypes := #[23, 30] }, type := 31, pos := "law.go:73", after := #[{ on := 0, ground := Go.Ground.data }, { on := 4, ground := Go.Ground.data }], guard := none }) rfl (fun K hK => ?_) AllReadyH.nil
          go_simp
          (with_reducible refine (HX.out _ ?_).mono ?_)
          · exact tabs_below htw (Below.refl _ _).drew
          rintro e w5 ⟨rfl, hb5⟩
          have HB5 := Lib.hid (below_on' (Below.refl _ _).drew hb5)
          clear hb5
          go_wp2_with fail
          refine hK.out _ _ ⟨cell_below r0 HB5.out, cell_below r1 HB5.out, cell_below r2 HB5.out, cell_below c1 HB5.out, cell_below c2 HB5.out, cell_below c3 HB5.out, cell_below c4 HB5.out, cell_below c5 HB5.out, cell_below c6 HB5.out, cell_below c7 HB5.out⟩ (fun hHeld => ?_)
          clear hK K
          (try simp only [Act.put, List.setIfInBounds_toArray, List.set_cons_zero, List.set_cons_succ])
          refine' wpAnyH_take (i := 6) (oi := { dst := some 39, op := Go.Op.move (Go.Operand.tmp 45), type := 31, pos := "law.go:73", after := #[{ on := 5, ground := Go.Ground.data }], guard := none }) (v := _) rfl (by kernel_rfl) (by kernel_rfl) (by kernel_rfl) (fun _ _ _ h => h) (Or.inl ⟨by rfl, ?hy6⟩) (by assumption) ?hr6
          case hy6 => (intro _ hSw; (try dsimp only at hSw); go_simp <;> with_reducible rfl)
          simp only [Act.put, List.setIfInBounds_toArray, List.set_cons_zero, List.set_cons_succ]
          refine' wpAnyH_take (i := 7) (oi := { dst := some 46, op := Go.Op.extract (Go.Operand.tmp 39) 0, type := 9, pos := "law.go:73", after := #[{ on := 6, ground := Go.Ground.data }], guard := none }) (v := _) rfl (by kernel_rfl) (by kernel_rfl) (by kernel_rfl) (fun _ _ _ h => h) (Or.inl ⟨by rfl, ?hy7⟩) (by assumption) ?hr7
          case hy7 => (intro _ hSw; (try dsimp only at hSw); go_simp <;> with_reducible rfl)
          simp only [Act.put, List.setIfInBounds_toArray, List.set_cons_zero, List.set_cons_succ]
          refine' wpAnyH_take (i := 8) (oi := { dst := some 47, op := Go.Op.extract (Go.Operand.tmp 39) 1, type := 4, pos := "law.go:73", after := #[{ on := 6, ground := Go.Ground.data }, { on := 9, ground := Go.Ground.gcOnly Go.Departure.lateStores }], guard := none }) (v := _) rfl (by kernel_rfl) (by kernel_rfl) (by kernel_rfl) (fun _ _ _ h => h) (Or.inl ⟨by rfl, ?hy8⟩) (by assumption) ?hr8
          case hy8 => (intro _ hSw; (try dsimp only at hSw); go_simp <;> with_reducible rfl)
          simp only [Act.put, List.setIfInBounds_toArray, List.set_cons_zero, List.set_cons_succ]
          refine' wpAnyH_take (i := 9) (oi := { dst := some 10, op := Go.Op.assign (Go.Operand.tmp 46), type := 9, pos := "law.go:73", after := #[{ on := 7, ground := Go.Ground.data }, { on := 5, ground := Go.Ground.chain }, { on := 0, ground := Go.Ground.phase }, { on := 1, ground := Go.Ground.phase }, { on := 2, ground := Go.Ground.phase }, { on := 3, ground := Go.Ground.phase }, { on := 4, ground := Go.Ground.phase }, { on := 5, ground := Go.Ground.phase }, { on := 6, ground := Go.Ground.phase }, { on := 7, ground := Go.Ground.phase }, { on := 8, ground := Go.Ground.textOnly Go.Departure.lateStores }], guard := none }) (v := _) rfl (by kernel_rfl) (by kernel_rfl) (by kernel_rfl) (fun _ _ _ h => h) (Or.inl ⟨by rfl, ?hy9⟩) (by assumption) ?hr9
          case hy9 => (intro _ hSw; (try dsimp only at hSw); go_simp <;> with_reducible rfl)
          simp only [Act.put, List.setIfInBounds_toArray, List.set_cons_zero, List.set_cons_succ]
          refine' wpAnyH_take (i := 10) (oi := { dst := some 11, op := Go.Op.assign (Go.Operand.tmp 47), type := 4, pos := "law.go:73", after := #[{ on := 8, ground := Go.Ground.data }, { on := 9, ground := Go.Ground.chain }, { on := 0, ground := Go.Ground.phase }, { on := 1, ground := Go.Ground.phase }, { on := 2, ground := Go.Ground.phase }, { on := 3, ground := Go.Ground.phase }, { on := 4, ground := Go.Ground.phase }, { on := 5, ground := Go.Ground.phase }, { on := 6, ground := Go.Ground.phase }, { on := 7, ground := Go.Ground.phase }, { on := 8, ground := Go.Ground.phase }, { on := 9, ground := Go.Ground.phase }], guard := none }) (v := _) rfl (by kernel_rfl) (by kernel_rfl) (by kernel_rfl) (fun _ _ _ h => h) (Or.inl ⟨by rfl, ?hy10⟩) (by assumption) ?hr10
          case hy10 => (intro _ hSw; (try dsimp only at hSw); go_simp <;> with_reducible rfl)
          simp only [Act.put, List.setIfInBounds_toArray, List.set_cons_zero, List.set_cons_succ]
          refine wpAnyH_done (by kernel_rfl) ?_ _
          clear hHeld
          have HR5 := Lib.hid (HR.out.on HB5.out)
          obtain ⟨q, v, h1, h2, h3, h4, h5⟩ := HR5.out.ex
          obtain ⟨q2, g1, g2, g3⟩ := HW.out q h4
          have p := ffeeds w5 (w.heap.size + 1) c q v t (by rw [hc]; exact h1) (by rw [hc]; exact h2) (by rw [h3]; have : t.size ≤ 1000 := (by omega); omega) HR5.out.tabs (by omega) dec HD.out
          unfold feedsP at p
          rw [g3] at p
          have P := Lib.hid p
          have HQ1 := Lib.hid h1
          have HG1 := Lib.hid g1
          have HG2 := Lib.hid (g2.trans h3)
          have HG3 := Lib.hid (good_run (c := c) dec t.data.toList (r := ⟨q, [], false⟩) (by rw [hc]; exact h2))
          rw [g3] at HG3
          clear p h1 h2 h3 h4 h5 g1 g2 g3
          go_wp2_with fail
          refine P.out.mono ?_
          rintro e w6 ⟨t2, rfl, hf2⟩
          obtain ⟨gg, gcap, rfl, y1, y2, hrow⟩ := fed_one hf2
          obtain ⟨v6, d6, -, -⟩ := hf2.at'
          have HN6 : Hid (Below (w.heap.size + 1) w5 w6) := Lib.hid (hf2.next.belowD (by rw [hc]; exact HQ1.out))
          have HR6 : Hid (FramesAt w adv ini n1 true w6) := Lib.hid ⟨⟨q2, v6, by rw [← hc]; exact d6, by rw [← hc]; exact HG3.out, HG2.out, Or.inr (by rw [← hc]; exact HG1.out), fun _ => by rw [← hc]; exact HG1.out⟩, (HN6.out.block _ (by omega)).trans HR5.out.row, HR5.out.tabs.next HN6.out (Nat.le_refl _), HR5.out.base.trans (HN6.out.mono (by omega))⟩
          have HBd : Hid (∀ m, Calls Tryd.prog 10 #[ptr (w.heap.size + 1)] (w6.drewN m) fun e w' => e = .returned (.int .i64 0) ∧ w6.drewN m = w') := Lib.hid (fun m => by
            have p := fbad (w6.drewN m) (w.heap.size + 1) c q2 v6 (d6.drewN m)
            rw [HG2.out] at p
            exact p)
          obtain ⟨m1, m2, m3, m4, m5, m6, m7⟩ := hrow
          obtain ⟨e1, e2, e3, e4, e5, e6, e7⟩ := HRow.out.move (w' := w6) ((HR6.out.base.block gb hgb).trans (HR.out.base.block gb hgb).symm)
          clear hf2 d6 c1 c2 c3 c4 c5 c6 c7 r0 r1 r2
          go_wp2_with fail
          go_quiet ((go_at_call 10; with_reducible exact quiet_left (HBd.out _)))
          go_wp2
          go_roundw
          case rel => exact ⟨true, k + 1, rfl, by omega, by go_num, Lib.hid (HR6.out.on (below_drewN (Below.refl _ _) _))⟩
          case measure => simp [intOf]; omega
        · by_cases hks : k < nb
          · obtain ⟨b, rfl, hb0, ho0, hb1, hb2⟩ := HAB.out.at' HR.out.base hks
            cases hbk : B k
            · rw [hbk] at hb2
              have s1 : decide ((k : Int) < (nb : Int)) = true := by simp; omega
              have hb3 : ∀ w5, Below wr.heap.size wr w5 → w5.cell? ⟨hb0, ho0, none⟩ = some (.bool false) := fun w5 h => cell_below hb2 h
              go_wp2_with fail
              refine wp_region_held_drew (S := fun w' => w'.cell? ⟨w.heap.size, 0, none⟩ = some (.bool adv) ∧ w'.cell? ⟨w.heap.size, 1, none⟩ = some (.bool ini) ∧ w'.cell? ⟨w.heap.size, 2, none⟩ = some (.int .i64 n1) ∧ w'.cell? ⟨gb, go, none⟩ = some (.int .u8 (f.d : Int)) ∧ w'.cell? ⟨gb, go + 1, none⟩ = some (.bool f.c) ∧ w'.cell? ⟨gb, go + 2, none⟩ = some (.int .u8 (f.k : Int)) ∧ w'.cell? ⟨gb, go + 3, none⟩ = some (.bool f.pf) ∧ w'.cell? ⟨gb, go + 4, none⟩ = some (.int .u8 (f.ns : Int)) ∧ w'.cell? ⟨gb, go + 5, none⟩ = some (.int .u8 (f.nr : Int)) ∧ w'.cell? ⟨gb, go + 6, none⟩ = some (.string f.info)) (by kernel_rfl) ⟨r0, r1, r2, c1, c2, c3, c4, c5, c6, c7⟩ (fun hHeld => ?_)
              refine' wpAnyH_take (i := 0) (oi := { dst := some 40, op := Go.Op.load 23 (Go.Operand.tmp 3), type := 23, pos := "law.go:73", after := #[], guard := none }) (v := _) rfl (by kernel_rfl) (by kernel_rfl) (by kernel_rfl) (fun _ _ _ h => h) (Or.inl ⟨by rfl, ?hy11⟩) (by assumption) ?hr11
              case hy11 => (intro _ hSw; (try dsimp only at hSw); go_simp <;> with_reducible rfl)
              simp only [Act.put, List.setIfInBounds_toArray, List.set_cons_zero, List.set_cons_succ]
              refine' wpAnyH_take (i := 1) (oi := { dst := some 41, op := Go.Op.move (Go.Operand.tmp 1), type := 24, pos := "law.go:73", after := #[], guard := none }) (v := _) rfl (by kernel_rfl) (by kernel_rfl) (by kernel_rfl) (fun _ _ _ h => h) (Or.inl ⟨by rfl, ?hy12⟩) (by assumption) ?hr12
              case hy12 => (intro _ hSw; (try dsimp only at hSw); go_simp <;> with_reducible rfl)
              simp only [Act.put, List.setIfInBounds_toArray, List.set_cons_zero, List.set_cons_succ]
              refine' wpAnyH_take (i := 2) (oi := { dst := some 42, op := Go.Op.move (Go.Operand.tmp 9), type := 3, pos := "law.go:73", after := #[], guard := none }) (v := _) rfl (by kernel_rfl) (by kernel_rfl) (by kernel_rfl) (fun _ _ _ h => h) (Or.inl ⟨by rfl, ?hy13⟩) (by assumption) ?hr13
              case hy13 => (intro _ hSw; (try dsimp only at hSw); go_simp <;> with_reducible rfl)
              simp only [Act.put, List.setIfInBounds_toArray, List.set_cons_zero, List.set_cons_succ]
              refine' wpAnyH_take (i := 3) (oi := { dst := some 43, op := Go.Op.indexAddr 24 (Go.Operand.tmp 41) (Go.Operand.tmp 42), type := 0, pos := "law.go:73", after := #[{ on := 1, ground := Go.Ground.data }, { on := 2, ground := Go.Ground.data }], guard := none }) (v := _) rfl (by kernel_rfl) (by kernel_rfl) (by kernel_rfl) (fun _ _ _ h => h) (Or.inl ⟨by rfl, ?hy14⟩) (by assumption) ?hr14
              case hy14 => (intro _ hSw; (try dsimp only at hSw); go_simp <;> with_reducible rfl)
              simp only [Act.put, List.setIfInBounds_toArray, List.set_cons_zero, List.set_cons_succ]
              refine' wpAnyH_take (i := 4) (oi := { dst := some 44, op := Go.Op.load 30 (Go.Operand.tmp 43), type := 30, pos := "law.go:73", after := #[{ on := 3, ground := Go.Ground.data }], guard := none }) (v := _) rfl (by kernel_rfl) (by kernel_rfl) (by kernel_rfl) (fun _ _ _ h => h) (Or.inl ⟨by rfl, ?hy15⟩) (by assumption) ?hr15
              case hy15 => (intro _ hSw; (try dsimp only at hSw); go_simp <;> with_reducible rfl)
              simp only [Act.put, List.setIfInBounds_toArray, List.set_cons_zero, List.set_cons_succ]
              refine wpAnyH_ready (rs := [5]) (by kernel_rfl) (by simp) ?_
              refine AllReadyH.cons (o := { dst := some 45, op := Go.Op.call { callee := Go.Callee.value (Go.Operand.func 8), args := #[Go.Operand.tmp 40, Go.Operand.tmp 44], argTypes := #[23, 30] }, type := 31, pos := "law.go:73", after := #[{ on := 0, ground := Go.Ground.data }, { on := 4, ground := Go.Ground.data }], guard := none }) rfl (fun K hK => ?_) AllReadyH.nil
              go_simp
              (with_reducible refine (HX.out _ ?_).mono ?_)
              · exact tabs_below htw (Below.refl _ _).drew
              rintro e w5 ⟨rfl, hb5⟩
              have HB5 := Lib.hid (below_on' (Below.refl _ _).drew hb5)
              clear hb5
              go_wp2_with fail
              refine hK.out _ _ ⟨cell_below r0 HB5.out, cell_below r1 HB5.out, cell_below r2 HB5.out, cell_below c1 HB5.out, cell_below c2 HB5.out, cell_below c3 HB5.out, cell_below c4 HB5.out, cell_below c5 HB5.out, cell_below c6 HB5.out, cell_below c7 HB5.out⟩ (fun hHeld => ?_)
              clear hK K
              (try simp only [Act.put, List.setIfInBounds_toArray, List.set_cons_zero, List.set_cons_succ])
              refine' wpAnyH_take (i := 6) (oi := { dst := some 39, op := Go.Op.move (Go.Operand.tmp 45), type := 31, pos := "law.go:73", after := #[{ on := 5, ground := Go.Ground.data }], guard := none }) (v := _) rfl (by kernel_rfl) (by kernel_rfl) (by kernel_rfl) (fun _ _ _ h => h) (Or.inl ⟨by rfl, ?hy16⟩) (by assumption) ?hr16
              case hy16 => (intro _ hSw; (try dsimp only at hSw); go_simp <;> with_reducible rfl)
              simp only [Act.put, List.setIfInBounds_toArray, List.set_cons_zero, List.set_cons_succ]
              refine' wpAnyH_take (i := 7) (oi := { dst := some 46, op := Go.Op.extract (Go.Operand.tmp 39) 0, type := 9, pos := "law.go:73", after := #[{ on := 6, ground := Go.Ground.data }], guard := none }) (v := _) rfl (by kernel_rfl) (by kernel_rfl) (by kernel_rfl) (fun _ _ _ h => h) (Or.inl ⟨by rfl, ?hy17⟩) (by assumption) ?hr17
              case hy17 => (intro _ hSw; (try dsimp only at hSw); go_simp <;> with_reducible rfl)
              simp only [Act.put, List.setIfInBounds_toArray, List.set_cons_zero, List.set_cons_succ]
              refine' wpAnyH_take (i := 8) (oi := { dst := some 47, op := Go.Op.extract (Go.Operand.tmp 39) 1, type := 4, pos := "law.go:73", after := #[{ on := 6, ground := Go.Ground.data }, { on := 9, ground := Go.Ground.gcOnly Go.Departure.lateStores }], guard := none }) (v := _) rfl (by kernel_rfl) (by kernel_rfl) (by kernel_rfl) (fun _ _ _ h => h) (Or.inl ⟨by rfl, ?hy18⟩) (by assumption) ?hr18
              case hy18 => (intro _ hSw; (try dsimp only at hSw); go_simp <;> with_reducible rfl)
              simp only [Act.put, List.setIfInBounds_toArray, List.set_cons_zero, List.set_cons_succ]
              refine' wpAnyH_take (i := 9) (oi := { dst := some 10, op := Go.Op.assign (Go.Operand.tmp 46), type := 9, pos := "law.go:73", after := #[{ on := 7, ground := Go.Ground.data }, { on := 5, ground := Go.Ground.chain }, { on := 0, ground := Go.Ground.phase }, { on := 1, ground := Go.Ground.phase }, { on := 2, ground := Go.Ground.phase }, { on := 3, ground := Go.Ground.phase }, { on := 4, ground := Go.Ground.phase }, { on := 5, ground := Go.Ground.phase }, { on := 6, ground := Go.Ground.phase }, { on := 7, ground := Go.Ground.phase }, { on := 8, ground := Go.Ground.textOnly Go.Departure.lateStores }], guard := none }) (v := _) rfl (by kernel_rfl) (by kernel_rfl) (by kernel_rfl) (fun _ _ _ h => h) (Or.inl ⟨by rfl, ?hy19⟩) (by assumption) ?hr19
              case hy19 => (intro _ hSw; (try dsimp only at hSw); go_simp <;> with_reducible rfl)
              simp only [Act.put, List.setIfInBounds_toArray, List.set_cons_zero, List.set_cons_succ]
              refine' wpAnyH_take (i := 10) (oi := { dst := some 11, op := Go.Op.assign (Go.Operand.tmp 47), type := 4, pos := "law.go:73", after := #[{ on := 8, ground := Go.Ground.data }, { on := 9, ground := Go.Ground.chain }, { on := 0, ground := Go.Ground.phase }, { on := 1, ground := Go.Ground.phase }, { on := 2, ground := Go.Ground.phase }, { on := 3, ground := Go.Ground.phase }, { on := 4, ground := Go.Ground.phase }, { on := 5, ground := Go.Ground.phase }, { on := 6, ground := Go.Ground.phase }, { on := 7, ground := Go.Ground.phase }, { on := 8, ground := Go.Ground.phase }, { on := 9, ground := Go.Ground.phase }], guard := none }) (v := _) rfl (by kernel_rfl) (by kernel_rfl) (by kernel_rfl) (fun _ _ _ h => h) (Or.inl ⟨by rfl, ?hy20⟩) (by assumption) ?hr20
              case hy20 => (intro _ hSw; (try dsimp only at hSw); go_simp <;> with_reducible rfl)
              simp only [Act.put, List.setIfInBounds_toArray, List.set_cons_zero, List.set_cons_succ]
              refine wpAnyH_done (by kernel_rfl) ?_ _
              clear hHeld
              have hb4 := hb3 _ HB5.out
              clear hb3 hb2
              have HR5 := Lib.hid (HR.out.on HB5.out)
              obtain ⟨q, v, h1, h2, h3, h4, h5⟩ := HR5.out.ex
              obtain ⟨q2, g1, g2, g3⟩ := HW.out q h4
              have p := ffeeds w5 (w.heap.size + 1) c q v t (by rw [hc]; exact h1) (by rw [hc]; exact h2) (by rw [h3]; have : t.size ≤ 1000 := (by omega); omega) HR5.out.tabs (by omega) dec HD.out
              unfold feedsP at p
              rw [g3] at p
              have P := Lib.hid p
              have HQ1 := Lib.hid h1
              have HG1 := Lib.hid g1
              have HG2 := Lib.hid (g2.trans h3)
              have HG3 := Lib.hid (good_run (c := c) dec t.data.toList (r := ⟨q, [], false⟩) (by rw [hc]; exact h2))
              rw [g3] at HG3
              clear p h1 h2 h3 h4 h5 g1 g2 g3
              go_wp2_with fail
              refine P.out.mono ?_
              rintro e w6 ⟨t2, rfl, hf2⟩
              obtain ⟨gg, gcap, rfl, y1, y2, hrow⟩ := fed_one hf2
              obtain ⟨v6, d6, -, -⟩ := hf2.at'
              have HN6 : Hid (Below (w.heap.size + 1) w5 w6) := Lib.hid (hf2.next.belowD (by rw [hc]; exact HQ1.out))
              have HR6 : Hid (FramesAt w adv ini n1 true w6) := Lib.hid ⟨⟨q2, v6, by rw [← hc]; exact d6, by rw [← hc]; exact HG3.out, HG2.out, Or.inr (by rw [← hc]; exact HG1.out), fun _ => by rw [← hc]; exact HG1.out⟩, (HN6.out.block _ (by omega)).trans HR5.out.row, HR5.out.tabs.next HN6.out (Nat.le_refl _), HR5.out.base.trans (HN6.out.mono (by omega))⟩
              have HBd : Hid (∀ m, Calls Tryd.prog 10 #[ptr (w.heap.size + 1)] (w6.drewN m) fun e w' => e = .returned (.int .i64 0) ∧ w6.drewN m = w') := Lib.hid (fun m => by
                have p := fbad (w6.drewN m) (w.heap.size + 1) c q2 v6 (d6.drewN m)
                rw [HG2.out] at p
                exact p)
              obtain ⟨m1, m2, m3, m4, m5, m6, m7⟩ := hrow
              obtain ⟨e1, e2, e3, e4, e5, e6, e7⟩ := HRow.out.move (w' := w6) ((HR6.out.base.block gb hgb).trans (HR.out.base.block gb hgb).symm)
              clear hf2 d6 c1 c2 c3 c4 c5 c6 c7 r0 r1 r2
              go_wp2_with fail
              go_quiet ((go_at_call 10; with_reducible exact quiet_left (HBd.out _)))
              go_wp2
              go_roundw
              case rel => exact ⟨true, k + 1, rfl, by omega, by go_num, Lib.hid (HR6.out.on (below_drewN (Below.refl _ _) _))⟩
              case measure => simp [intOf]; omega
            · rw [hbk] at hb2
              have s1 : decide ((k : Int) < (nb : Int)) = true := by simp; omega
              have hb3 : ∀ w5, Below wr.heap.size wr w5 → w5.cell? ⟨hb0, ho0, none⟩ = some (.bool true) := fun w5 h => cell_below hb2 h
              go_wp2_with fail
              refine wp_region_held_drew (S := fun w' => w'.cell? ⟨w.heap.size, 0, none⟩ = some (.bool adv) ∧ w'.cell? ⟨w.heap.size, 1, none⟩ = some (.bool ini) ∧ w'.cell? ⟨w.heap.size, 2, none⟩ = some (.int .i64 n1) ∧ w'.cell? ⟨gb, go, none⟩ = some (.int .u8 (f.d : Int)) ∧ w'.cell? ⟨gb, go + 1, none⟩ = some (.bool f.c) ∧ w'.cell? ⟨gb, go + 2, none⟩ = some (.int .u8 (f.k : Int)) ∧ w'.cell? ⟨gb, go + 3, none⟩ = some (.bool f.pf) ∧ w'.cell? ⟨gb, go + 4, none⟩ = some (.int .u8 (f.ns : Int)) ∧ w'.cell? ⟨gb, go + 5, none⟩ = some (.int .u8 (f.nr : Int)) ∧ w'.cell? ⟨gb, go + 6, none⟩ = some (.string f.info)) (by kernel_rfl) ⟨r0, r1, r2, c1, c2, c3, c4, c5, c6, c7⟩ (fun hHeld => ?_)
              refine' wpAnyH_take (i := 0) (oi := { dst := some 40, op := Go.Op.load 23 (Go.Operand.tmp 3), type := 23, pos := "law.go:73", after := #[], guard := none }) (v := _) rfl (by kernel_rfl) (by kernel_rfl) (by kernel_rfl) (fun _ _ _ h => h) (Or.inl ⟨by rfl, ?hy21⟩) (by assumption) ?hr21
              case hy21 => (intro _ hSw; (try dsimp only at hSw); go_simp <;> with_reducible rfl)
              simp only [Act.put, List.setIfInBounds_toArray, List.set_cons_zero, List.set_cons_succ]
              refine' wpAnyH_take (i := 1) (oi := { dst := some 41, op := Go.Op.move (Go.Operand.tmp 1), type := 24, pos := "law.go:73", after := #[], guard := none }) (v := _) rfl (by kernel_rfl) (by kernel_rfl) (by kernel_rfl) (fun _ _ _ h => h) (Or.inl ⟨by rfl, ?hy22⟩) (by assumption) ?hr22
              case hy22 => (intro _ hSw; (try dsimp only at hSw); go_simp <;> with_reducible rfl)
              simp only [Act.put, List.setIfInBounds_toArray, List.set_cons_zero, List.set_cons_succ]
              refine' wpAnyH_take (i := 2) (oi := { dst := some 42, op := Go.Op.move (Go.Operand.tmp 9), type := 3, pos := "law.go:73", after := #[], guard := none }) (v := _) rfl (by kernel_rfl) (by kernel_rfl) (by kernel_rfl) (fun _ _ _ h => h) (Or.inl ⟨by rfl, ?hy23⟩) (by assumption) ?hr23
              case hy23 => (intro _ hSw; (try dsimp only at hSw); go_simp <;> with_reducible rfl)
              simp only [Act.put, List.setIfInBounds_toArray, List.set_cons_zero, List.set_cons_succ]
              refine' wpAnyH_take (i := 3) (oi := { dst := some 43, op := Go.Op.indexAddr 24 (Go.Operand.tmp 41) (Go.Operand.tmp 42), type := 0, pos := "law.go:73", after := #[{ on := 1, ground := Go.Ground.data }, { on := 2, ground := Go.Ground.data }], guard := none }) (v := _) rfl (by kernel_rfl) (by kernel_rfl) (by kernel_rfl) (fun _ _ _ h => h) (Or.inl ⟨by rfl, ?hy24⟩) (by assumption) ?hr24
              case hy24 => (intro _ hSw; (try dsimp only at hSw); go_simp <;> with_reducible rfl)
              simp only [Act.put, List.setIfInBounds_toArray, List.set_cons_zero, List.set_cons_succ]
              refine' wpAnyH_take (i := 4) (oi := { dst := some 44, op := Go.Op.load 30 (Go.Operand.tmp 43), type := 30, pos := "law.go:73", after := #[{ on := 3, ground := Go.Ground.data }], guard := none }) (v := _) rfl (by kernel_rfl) (by kernel_rfl) (by kernel_rfl) (fun _ _ _ h => h) (Or.inl ⟨by rfl, ?hy25⟩) (by assumption) ?hr25
              case hy25 => (intro _ hSw; (try dsimp only at hSw); go_simp <;> with_reducible rfl)
              simp only [Act.put, List.setIfInBounds_toArray, List.set_cons_zero, List.set_cons_succ]
              refine wpAnyH_ready (rs := [5]) (by kernel_rfl) (by simp) ?_
              refine AllReadyH.cons (o := { dst := some 45, op := Go.Op.call { callee := Go.Callee.value (Go.Operand.func 8), args := #[Go.Operand.tmp 40, Go.Operand.tmp 44], argTypes := #[23, 30] }, type := 31, pos := "law.go:73", after := #[{ on := 0, ground := Go.Ground.data }, { on := 4, ground := Go.Ground.data }], guard := none }) rfl (fun K hK => ?_) AllReadyH.nil
              go_simp
              (with_reducible refine (HX.out _ ?_).mono ?_)
              · exact tabs_below htw (Below.refl _ _).drew
              rintro e w5 ⟨rfl, hb5⟩
              have HB5 := Lib.hid (below_on' (Below.refl _ _).drew hb5)
              clear hb5
              go_wp2_with fail
              refine hK.out _ _ ⟨cell_below r0 HB5.out, cell_below r1 HB5.out, cell_below r2 HB5.out, cell_below c1 HB5.out, cell_below c2 HB5.out, cell_below c3 HB5.out, cell_below c4 HB5.out, cell_below c5 HB5.out, cell_below c6 HB5.out, cell_below c7 HB5.out⟩ (fun hHeld => ?_)
              clear hK K
              (try simp only [Act.put, List.setIfInBounds_toArray, List.set_cons_zero, List.set_cons_succ])
              refine' wpAnyH_take (i := 6) (oi := { dst := some 39, op := Go.Op.move (Go.Operand.tmp 45), type := 31, pos := "law.go:73", after := #[{ on := 5, ground := Go.Ground.data }], guard := none }) (v := _) rfl (by kernel_rfl) (by kernel_rfl) (by kernel_rfl) (fun _ _ _ h => h) (Or.inl ⟨by rfl, ?hy26⟩) (by assumption) ?hr26
              case hy26 => (intro _ hSw; (try dsimp only at hSw); go_simp <;> with_reducible rfl)
              simp only [Act.put, List.setIfInBounds_toArray, List.set_cons_zero, List.set_cons_succ]
              refine' wpAnyH_take (i := 7) (oi := { dst := some 46, op := Go.Op.extract (Go.Operand.tmp 39) 0, type := 9, pos := "law.go:73", after := #[{ on := 6, ground := Go.Ground.data }], guard := none }) (v := _) rfl (by kernel_rfl) (by kernel_rfl) (by kernel_rfl) (fun _ _ _ h => h) (Or.inl ⟨by rfl, ?hy27⟩) (by assumption) ?hr27
              case hy27 => (intro _ hSw; (try dsimp only at hSw); go_simp <;> with_reducible rfl)
              simp only [Act.put, List.setIfInBounds_toArray, List.set_cons_zero, List.set_cons_succ]
              refine' wpAnyH_take (i := 8) (oi := { dst := some 47, op := Go.Op.extract (Go.Operand.tmp 39) 1, type := 4, pos := "law.go:73", after := #[{ on := 6, ground := Go.Ground.data }, { on := 9, ground := Go.Ground.gcOnly Go.Departure.lateStores }], guard := none }) (v := _) rfl (by kernel_rfl) (by kernel_rfl) (by kernel_rfl) (fun _ _ _ h => h) (Or.inl ⟨by rfl, ?hy28⟩) (by assumption) ?hr28
              case hy28 => (intro _ hSw; (try dsimp only at hSw); go_simp <;> with_reducible rfl)
              simp only [Act.put, List.setIfInBounds_toArray, List.set_cons_zero, List.set_cons_succ]
              refine' wpAnyH_take (i := 9) (oi := { dst := some 10, op := Go.Op.assign (Go.Operand.tmp 46), type := 9, pos := "law.go:73", after := #[{ on := 7, ground := Go.Ground.data }, { on := 5, ground := Go.Ground.chain }, { on := 0, ground := Go.Ground.phase }, { on := 1, ground := Go.Ground.phase }, { on := 2, ground := Go.Ground.phase }, { on := 3, ground := Go.Ground.phase }, { on := 4, ground := Go.Ground.phase }, { on := 5, ground := Go.Ground.phase }, { on := 6, ground := Go.Ground.phase }, { on := 7, ground := Go.Ground.phase }, { on := 8, ground := Go.Ground.textOnly Go.Departure.lateStores }], guard := none }) (v := _) rfl (by kernel_rfl) (by kernel_rfl) (by kernel_rfl) (fun _ _ _ h => h) (Or.inl ⟨by rfl, ?hy29⟩) (by assumption) ?hr29
              case hy29 => (intro _ hSw; (try dsimp only at hSw); go_simp <;> with_reducible rfl)
              simp only [Act.put, List.setIfInBounds_toArray, List.set_cons_zero, List.set_cons_succ]
              refine' wpAnyH_take (i := 10) (oi := { dst := some 11, op := Go.Op.assign (Go.Operand.tmp 47), type := 4, pos := "law.go:73", after := #[{ on := 8, ground := Go.Ground.data }, { on := 9, ground := Go.Ground.chain }, { on := 0, ground := Go.Ground.phase }, { on := 1, ground := Go.Ground.phase }, { on := 2, ground := Go.Ground.phase }, { on := 3, ground := Go.Ground.phase }, { on := 4, ground := Go.Ground.phase }, { on := 5, ground := Go.Ground.phase }, { on := 6, ground := Go.Ground.phase }, { on := 7, ground := Go.Ground.phase }, { on := 8, ground := Go.Ground.phase }, { on := 9, ground := Go.Ground.phase }], guard := none }) (v := _) rfl (by kernel_rfl) (by kernel_rfl) (by kernel_rfl) (fun _ _ _ h => h) (Or.inl ⟨by rfl, ?hy30⟩) (by assumption) ?hr30
              case hy30 => (intro _ hSw; (try dsimp only at hSw); go_simp <;> with_reducible rfl)
              simp only [Act.put, List.setIfInBounds_toArray, List.set_cons_zero, List.set_cons_succ]
              refine wpAnyH_done (by kernel_rfl) ?_ _
              clear hHeld
              have hb4 := hb3 _ HB5.out
              clear hb3 hb2
              have HR5 := Lib.hid (HR.out.on HB5.out)
              obtain ⟨q, v, h1, h2, h3, h4, h5⟩ := HR5.out.ex
              obtain ⟨q2, g1, g2, g3⟩ := HG.out q (h5 rfl)
              have p := ffeeds w5 (w.heap.size + 1) c q v (t.extract 1 t.size) (by rw [hc]; exact h1) (by rw [hc]; exact h2) (by rw [h3]; have : (t.extract 1 t.size).size ≤ 1000 := (by rw [ByteArray.size_extract]; omega); omega) HR5.out.tabs (by rw [ByteArray.size_extract]; omega) dec HD.out
              unfold feedsP at p
              rw [g3] at p
              have P := Lib.hid p
              have HQ1 := Lib.hid h1
              have HG1 := Lib.hid g1
              have HG2 := Lib.hid (g2.trans h3)
              have HG3 := Lib.hid (good_run (c := c) dec (t.extract 1 t.size).data.toList (r := ⟨q, [], false⟩) (by rw [hc]; exact h2))
              rw [g3] at HG3
              clear p h1 h2 h3 h4 h5 g1 g2 g3
              go_wp2_with fail
              refine P.out.mono ?_
              rintro e w6 ⟨t2, rfl, hf2⟩
              obtain ⟨gg, gcap, rfl, y1, y2, hrow⟩ := fed_one hf2
              obtain ⟨v6, d6, -, -⟩ := hf2.at'
              have HN6 : Hid (Below (w.heap.size + 1) w5 w6) := Lib.hid (hf2.next.belowD (by rw [hc]; exact HQ1.out))
              have HR6 : Hid (FramesAt w adv ini n1 true w6) := Lib.hid ⟨⟨q2, v6, by rw [← hc]; exact d6, by rw [← hc]; exact HG3.out, HG2.out, Or.inr (by rw [← hc]; exact HG1.out), fun _ => by rw [← hc]; exact HG1.out⟩, (HN6.out.block _ (by omega)).trans HR5.out.row, HR5.out.tabs.next HN6.out (Nat.le_refl _), HR5.out.base.trans (HN6.out.mono (by omega))⟩
              have HBd : Hid (∀ m, Calls Tryd.prog 10 #[ptr (w.heap.size + 1)] (w6.drewN m) fun e w' => e = .returned (.int .i64 0) ∧ w6.drewN m = w') := Lib.hid (fun m => by
                have p := fbad (w6.drewN m) (w.heap.size + 1) c q2 v6 (d6.drewN m)
                rw [HG2.out] at p
                exact p)
              obtain ⟨m1, m2, m3, m4, m5, m6, m7⟩ := hrow
              obtain ⟨e1, e2, e3, e4, e5, e6, e7⟩ := HRow.out.move (w' := w6) ((HR6.out.base.block gb hgb).trans (HR.out.base.block gb hgb).symm)
              clear hf2 d6 c1 c2 c3 c4 c5 c6 c7 r0 r1 r2
              go_wp2_with fail
              go_quiet ((go_at_call 10; with_reducible exact quiet_left (HBd.out _)))
              go_wp2
              go_roundw
              case rel => exact ⟨true, k + 1, rfl, by omega, by go_num, Lib.hid (HR6.out.on (below_drewN (Below.refl _ _) _))⟩
              case measure => simp [intOf]; omega
          · have s1 : decide ((k : Int) < (nb : Int)) = false := by simp; omega
            go_wp2_with fail
            refine wp_region_held_drew (S := fun w' => w'.cell? ⟨w.heap.size, 0, none⟩ = some (.bool adv) ∧ w'.cell? ⟨w.heap.size, 1, none⟩ = some (.bool ini) ∧ w'.cell? ⟨w.heap.size, 2, none⟩ = some (.int .i64 n1) ∧ w'.cell? ⟨gb, go, none⟩ = some (.int .u8 (f.d : Int)) ∧ w'.cell? ⟨gb, go + 1, none⟩ = some (.bool f.c) ∧ w'.cell? ⟨gb, go + 2, none⟩ = some (.int .u8 (f.k : Int)) ∧ w'.cell? ⟨gb, go + 3, none⟩ = some (.bool f.pf) ∧ w'.cell? ⟨gb, go + 4, none⟩ = some (.int .u8 (f.ns : Int)) ∧ w'.cell? ⟨gb, go + 5, none⟩ = some (.int .u8 (f.nr : Int)) ∧ w'.cell? ⟨gb, go + 6, none⟩ = some (.string f.info)) (by kernel_rfl) ⟨r0, r1, r2, c1, c2, c3, c4, c5, c6, c7⟩ (fun hHeld => ?_)
            refine' wpAnyH_take (i := 0) (oi := { dst := some 40, op := Go.Op.load 23 (Go.Operand.tmp 3), type := 23, pos := "law.go:73", after := #[], guard := none }) (v := _) rfl (by kernel_rfl) (by kernel_rfl) (by kernel_rfl) (fun _ _ _ h => h) (Or.inl ⟨by rfl, ?hy31⟩) (by assumption) ?hr31
            case hy31 => (intro _ hSw; (try dsimp only at hSw); go_simp <;> with_reducible rfl)
            simp only [Act.put, List.setIfInBounds_toArray, List.set_cons_zero, List.set_cons_succ]
            refine' wpAnyH_take (i := 1) (oi := { dst := some 41, op := Go.Op.move (Go.Operand.tmp 1), type := 24, pos := "law.go:73", after := #[], guard := none }) (v := _) rfl (by kernel_rfl) (by kernel_rfl) (by kernel_rfl) (fun _ _ _ h => h) (Or.inl ⟨by rfl, ?hy32⟩) (by assumption) ?hr32
            case hy32 => (intro _ hSw; (try dsimp only at hSw); go_simp <;> with_reducible rfl)
            simp only [Act.put, List.setIfInBounds_toArray, List.set_cons_zero, List.set_cons_succ]
            refine' wpAnyH_take (i := 2) (oi := { dst := some 42, op := Go.Op.move (Go.Operand.tmp 9), type := 3, pos := "law.go:73", after := #[], guard := none }) (v := _) rfl (by kernel_rfl) (by kernel_rfl) (by kernel_rfl) (fun _ _ _ h => h) (Or.inl ⟨by rfl, ?hy33⟩) (by assumption) ?hr33
            case hy33 => (intro _ hSw; (try dsimp only at hSw); go_simp <;> with_reducible rfl)
            simp only [Act.put, List.setIfInBounds_toArray, List.set_cons_zero, List.set_cons_succ]
            refine' wpAnyH_take (i := 3) (oi := { dst := some 43, op := Go.Op.indexAddr 24 (Go.Operand.tmp 41) (Go.Operand.tmp 42), type := 0, pos := "law.go:73", after := #[{ on := 1, ground := Go.Ground.data }, { on := 2, ground := Go.Ground.data }], guard := none }) (v := _) rfl (by kernel_rfl) (by kernel_rfl) (by kernel_rfl) (fun _ _ _ h => h) (Or.inl ⟨by rfl, ?hy34⟩) (by assumption) ?hr34
            case hy34 => (intro _ hSw; (try dsimp only at hSw); go_simp <;> with_reducible rfl)
            simp only [Act.put, List.setIfInBounds_toArray, List.set_cons_zero, List.set_cons_succ]
            refine' wpAnyH_take (i := 4) (oi := { dst := some 44, op := Go.Op.load 30 (Go.Operand.tmp 43), type := 30, pos := "law.go:73", after := #[{ on := 3, ground := Go.Ground.data }], guard := none }) (v := _) rfl (by kernel_rfl) (by kernel_rfl) (by kernel_rfl) (fun _ _ _ h => h) (Or.inl ⟨by rfl, ?hy35⟩) (by assumption) ?hr35
            case hy35 => (intro _ hSw; (try dsimp only at hSw); go_simp <;> with_reducible rfl)
            simp only [Act.put, List.setIfInBounds_toArray, List.set_cons_zero, List.set_cons_succ]
            refine wpAnyH_ready (rs := [5]) (by kernel_rfl) (by simp) ?_
            refine AllReadyH.cons (o := { dst := some 45, op := Go.Op.call { callee := Go.Callee.value (Go.Operand.func 8), args := #[Go.Operand.tmp 40, Go.Operand.tmp 44], argTypes := #[23, 30] }, type := 31, pos := "law.go:73", after := #[{ on := 0, ground := Go.Ground.data }, { on := 4, ground := Go.Ground.data }], guard := none }) rfl (fun K hK => ?_) AllReadyH.nil
            go_simp
            (with_reducible refine (HX.out _ ?_).mono ?_)
            · exact tabs_below htw (Below.refl _ _).drew
            rintro e w5 ⟨rfl, hb5⟩
            have HB5 := Lib.hid (below_on' (Below.refl _ _).drew hb5)
            clear hb5
            go_wp2_with fail
            refine hK.out _ _ ⟨cell_below r0 HB5.out, cell_below r1 HB5.out, cell_below r2 HB5.out, cell_below c1 HB5.out, cell_below c2 HB5.out, cell_below c3 HB5.out, cell_below c4 HB5.out, cell_below c5 HB5.out, cell_below c6 HB5.out, cell_below c7 HB5.out⟩ (fun hHeld => ?_)
            clear hK K
            (try simp only [Act.put, List.setIfInBounds_toArray, List.set_cons_zero, List.set_cons_succ])
            refine' wpAnyH_take (i := 6) (oi := { dst := some 39, op := Go.Op.move (Go.Operand.tmp 45), type := 31, pos := "law.go:73", after := #[{ on := 5, ground := Go.Ground.data }], guard := none }) (v := _) rfl (by kernel_rfl) (by kernel_rfl) (by kernel_rfl) (fun _ _ _ h => h) (Or.inl ⟨by rfl, ?hy36⟩) (by assumption) ?hr36
            case hy36 => (intro _ hSw; (try dsimp only at hSw); go_simp <;> with_reducible rfl)
            simp only [Act.put, List.setIfInBounds_toArray, List.set_cons_zero, List.set_cons_succ]
            refine' wpAnyH_take (i := 7) (oi := { dst := some 46, op := Go.Op.extract (Go.Operand.tmp 39) 0, type := 9, pos := "law.go:73", after := #[{ on := 6, ground := Go.Ground.data }], guard := none }) (v := _) rfl (by kernel_rfl) (by kernel_rfl) (by kernel_rfl) (fun _ _ _ h => h) (Or.inl ⟨by rfl, ?hy37⟩) (by assumption) ?hr37
            case hy37 => (intro _ hSw; (try dsimp only at hSw); go_simp <;> with_reducible rfl)
            simp only [Act.put, List.setIfInBounds_toArray, List.set_cons_zero, List.set_cons_succ]
            refine' wpAnyH_take (i := 8) (oi := { dst := some 47, op := Go.Op.extract (Go.Operand.tmp 39) 1, type := 4, pos := "law.go:73", after := #[{ on := 6, ground := Go.Ground.data }, { on := 9, ground := Go.Ground.gcOnly Go.Departure.lateStores }], guard := none }) (v := _) rfl (by kernel_rfl) (by kernel_rfl) (by kernel_rfl) (fun _ _ _ h => h) (Or.inl ⟨by rfl, ?hy38⟩) (by assumption) ?hr38
            case hy38 => (intro _ hSw; (try dsimp only at hSw); go_simp <;> with_reducible rfl)
            simp only [Act.put, List.setIfInBounds_toArray, List.set_cons_zero, List.set_cons_succ]
            refine' wpAnyH_take (i := 9) (oi := { dst := some 10, op := Go.Op.assign (Go.Operand.tmp 46), type := 9, pos := "law.go:73", after := #[{ on := 7, ground := Go.Ground.data }, { on := 5, ground := Go.Ground.chain }, { on := 0, ground := Go.Ground.phase }, { on := 1, ground := Go.Ground.phase }, { on := 2, ground := Go.Ground.phase }, { on := 3, ground := Go.Ground.phase }, { on := 4, ground := Go.Ground.phase }, { on := 5, ground := Go.Ground.phase }, { on := 6, ground := Go.Ground.phase }, { on := 7, ground := Go.Ground.phase }, { on := 8, ground := Go.Ground.textOnly Go.Departure.lateStores }], guard := none }) (v := _) rfl (by kernel_rfl) (by kernel_rfl) (by kernel_rfl) (fun _ _ _ h => h) (Or.inl ⟨by rfl, ?hy39⟩) (by assumption) ?hr39
            case hy39 => (intro _ hSw; (try dsimp only at hSw); go_simp <;> with_reducible rfl)
            simp only [Act.put, List.setIfInBounds_toArray, List.set_cons_zero, List.set_cons_succ]
            refine' wpAnyH_take (i := 10) (oi := { dst := some 11, op := Go.Op.assign (Go.Operand.tmp 47), type := 4, pos := "law.go:73", after := #[{ on := 8, ground := Go.Ground.data }, { on := 9, ground := Go.Ground.chain }, { on := 0, ground := Go.Ground.phase }, { on := 1, ground := Go.Ground.phase }, { on := 2, ground := Go.Ground.phase }, { on := 3, ground := Go.Ground.phase }, { on := 4, ground := Go.Ground.phase }, { on := 5, ground := Go.Ground.phase }, { on := 6, ground := Go.Ground.phase }, { on := 7, ground := Go.Ground.phase }, { on := 8, ground := Go.Ground.phase }, { on := 9, ground := Go.Ground.phase }], guard := none }) (v := _) rfl (by kernel_rfl) (by kernel_rfl) (by kernel_rfl) (fun _ _ _ h => h) (Or.inl ⟨by rfl, ?hy40⟩) (by assumption) ?hr40
            case hy40 => (intro _ hSw; (try dsimp only at hSw); go_simp <;> with_reducible rfl)
            simp only [Act.put, List.setIfInBounds_toArray, List.set_cons_zero, List.set_cons_succ]
            refine wpAnyH_done (by kernel_rfl) ?_ _
            clear hHeld
            have HR5 := Lib.hid (HR.out.on HB5.out)
            obtain ⟨q, v, h1, h2, h3, h4, h5⟩ := HR5.out.ex
            obtain ⟨q2, g1, g2, g3⟩ := HW.out q h4
            have p := ffeeds w5 (w.heap.size + 1) c q v t (by rw [hc]; exact h1) (by rw [hc]; exact h2) (by rw [h3]; have : t.size ≤ 1000 := (by omega); omega) HR5.out.tabs (by omega) dec HD.out
            unfold feedsP at p
            rw [g3] at p
            have P := Lib.hid p
            have HQ1 := Lib.hid h1
            have HG1 := Lib.hid g1
            have HG2 := Lib.hid (g2.trans h3)
            have HG3 := Lib.hid (good_run (c := c) dec t.data.toList (r := ⟨q, [], false⟩) (by rw [hc]; exact h2))
            rw [g3] at HG3
            clear p h1 h2 h3 h4 h5 g1 g2 g3
            go_wp2_with fail
            refine P.out.mono ?_
            rintro e w6 ⟨t2, rfl, hf2⟩
            obtain ⟨gg, gcap, rfl, y1, y2, hrow⟩ := fed_one hf2
            obtain ⟨v6, d6, -, -⟩ := hf2.at'
            have HN6 : Hid (Below (w.heap.size + 1) w5 w6) := Lib.hid (hf2.next.belowD (by rw [hc]; exact HQ1.out))
            have HR6 : Hid (FramesAt w adv ini n1 true w6) := Lib.hid ⟨⟨q2, v6, by rw [← hc]; exact d6, by rw [← hc]; exact HG3.out, HG2.out, Or.inr (by rw [← hc]; exact HG1.out), fun _ => by rw [← hc]; exact HG1.out⟩, (HN6.out.block _ (by omega)).trans HR5.out.row, HR5.out.tabs.next HN6.out (Nat.le_refl _), HR5.out.base.trans (HN6.out.mono (by omega))⟩
            have HBd : Hid (∀ m, Calls Tryd.prog 10 #[ptr (w.heap.size + 1)] (w6.drewN m) fun e w' => e = .returned (.int .i64 0) ∧ w6.drewN m = w') := Lib.hid (fun m => by
              have p := fbad (w6.drewN m) (w.heap.size + 1) c q2 v6 (d6.drewN m)
              rw [HG2.out] at p
              exact p)
            obtain ⟨m1, m2, m3, m4, m5, m6, m7⟩ := hrow
            obtain ⟨e1, e2, e3, e4, e5, e6, e7⟩ := HRow.out.move (w' := w6) ((HR6.out.base.block gb hgb).trans (HR.out.base.block gb hgb).symm)
            clear hf2 d6 c1 c2 c3 c4 c5 c6 c7 r0 r1 r2
            go_wp2_with fail
            go_quiet ((go_at_call 10; with_reducible exact quiet_left (HBd.out _)))
            go_wp2
            go_roundw
            case rel => exact ⟨true, k + 1, rfl, by omega, by go_num, Lib.hid (HR6.out.on (below_drewN (Below.refl _ _) _))⟩
            case measure => simp [intOf]; omega
      · have HX : Hid (∀ w, Tabs w → Calls Tryd.prog 8 #[rowV adv ini n1, fv f] w fun e w' => e = .returned (.tuple #[.string ⟨#[]⟩, .bool false]) ∧ Below w.heap.size w w') := Lib.hid (fun w ht => fencoded_not adv f hin hlen ini n1 w ht he)
        clear he hin hlen hi
        go_wp2_with fail
        refine wp_region_held_drew (S := fun w' => w'.cell? ⟨w.heap.size, 0, none⟩ = some (.bool adv) ∧ w'.cell? ⟨w.heap.size, 1, none⟩ = some (.bool ini) ∧ w'.cell? ⟨w.heap.size, 2, none⟩ = some (.int .i64 n1) ∧ w'.cell? ⟨gb, go, none⟩ = some (.int .u8 (f.d : Int)) ∧ w'.cell? ⟨gb, go + 1, none⟩ = some (.bool f.c) ∧ w'.cell? ⟨gb, go + 2, none⟩ = some (.int .u8 (f.k : Int)) ∧ w'.cell? ⟨gb, go + 3, none⟩ = some (.bool f.pf) ∧ w'.cell? ⟨gb, go + 4, none⟩ = some (.int .u8 (f.ns : Int)) ∧ w'.cell? ⟨gb, go + 5, none⟩ = some (.int .u8 (f.nr : Int)) ∧ w'.cell? ⟨gb, go + 6, none⟩ = some (.string f.info)) (by kernel_rfl) ⟨r0, r1, r2, c1, c2, c3, c4, c5, c6, c7⟩ (fun hHeld => ?_)
        refine' wpAnyH_take (i := 0) (oi := { dst := some 40, op := Go.Op.load 23 (Go.Operand.tmp 3), type := 23, pos := "law.go:73", after := #[], guard := none }) (v := _) rfl (by kernel_rfl) (by kernel_rfl) (by kernel_rfl) (fun _ _ _ h => h) (Or.inl ⟨by rfl, ?hy41⟩) (by assumption) ?hr41
        case hy41 => (intro _ hSw; (try dsimp only at hSw); go_simp <;> with_reducible rfl)
        simp only [Act.put, List.setIfInBounds_toArray, List.set_cons_zero, List.set_cons_succ]
        refine' wpAnyH_take (i := 1) (oi := { dst := some 41, op := Go.Op.move (Go.Operand.tmp 1), type := 24, pos := "law.go:73", after := #[], guard := none }) (v := _) rfl (by kernel_rfl) (by kernel_rfl) (by kernel_rfl) (fun _ _ _ h => h) (Or.inl ⟨by rfl, ?hy42⟩) (by assumption) ?hr42
        case hy42 => (intro _ hSw; (try dsimp only at hSw); go_simp <;> with_reducible rfl)
        simp only [Act.put, List.setIfInBounds_toArray, List.set_cons_zero, List.set_cons_succ]
        refine' wpAnyH_take (i := 2) (oi := { dst := some 42, op := Go.Op.move (Go.Operand.tmp 9), type := 3, pos := "law.go:73", after := #[], guard := none }) (v := _) rfl (by kernel_rfl) (by kernel_rfl) (by kernel_rfl) (fun _ _ _ h => h) (Or.inl ⟨by rfl, ?hy43⟩) (by assumption) ?hr43
        case hy43 => (intro _ hSw; (try dsimp only at hSw); go_simp <;> with_reducible rfl)
        simp only [Act.put, List.setIfInBounds_toArray, List.set_cons_zero, List.set_cons_succ]
        refine' wpAnyH_take (i := 3) (oi := { dst := some 43, op := Go.Op.indexAddr 24 (Go.Operand.tmp 41) (Go.Operand.tmp 42), type := 0, pos := "law.go:73", after := #[{ on := 1, ground := Go.Ground.data }, { on := 2, ground := Go.Ground.data }], guard := none }) (v := _) rfl (by kernel_rfl) (by kernel_rfl) (by kernel_rfl) (fun _ _ _ h => h) (Or.inl ⟨by rfl, ?hy44⟩) (by assumption) ?hr44
        case hy44 => (intro _ hSw; (try dsimp only at hSw); go_simp <;> with_reducible rfl)
        simp only [Act.put, List.setIfInBounds_toArray, List.set_cons_zero, List.set_cons_succ]
        refine' wpAnyH_take (i := 4) (oi := { dst := some 44, op := Go.Op.load 30 (Go.Operand.tmp 43), type := 30, pos := "law.go:73", after := #[{ on := 3, ground := Go.Ground.data }], guard := none }) (v := _) rfl (by kernel_rfl) (by kernel_rfl) (by kernel_rfl) (fun _ _ _ h => h) (Or.inl ⟨by rfl, ?hy45⟩) (by assumption) ?hr45
        case hy45 => (intro _ hSw; (try dsimp only at hSw); go_simp <;> with_reducible rfl)
        simp only [Act.put, List.setIfInBounds_toArray, List.set_cons_zero, List.set_cons_succ]
        refine wpAnyH_ready (rs := [5]) (by kernel_rfl) (by simp) ?_
        refine AllReadyH.cons (o := { dst := some 45, op := Go.Op.call { callee := Go.Callee.value (Go.Operand.func 8), args := #[Go.Operand.tmp 40, Go.Operand.tmp 44], argTypes := #[23, 30] }, type := 31, pos := "law.go:73", after := #[{ on := 0, ground := Go.Ground.data }, { on := 4, ground := Go.Ground.data }], guard := none }) rfl (fun K hK => ?_) AllReadyH.nil
        go_simp
        (with_reducible refine (HX.out _ ?_).mono ?_)
        · exact tabs_below htw (Below.refl _ _).drew
        rintro e w5 ⟨rfl, hb5⟩
        have HB5 := Lib.hid (below_on' (Below.refl _ _).drew hb5)
        clear hb5
        go_wp2_with fail
        refine hK.out _ _ ⟨cell_below r0 HB5.out, cell_below r1 HB5.out, cell_below r2 HB5.out, cell_below c1 HB5.out, cell_below c2 HB5.out, cell_below c3 HB5.out, cell_below c4 HB5.out, cell_below c5 HB5.out, cell_below c6 HB5.out, cell_below c7 HB5.out⟩ (fun hHeld => ?_)
        clear hK K
        (try simp only [Act.put, List.setIfInBounds_toArray, List.set_cons_zero, List.set_cons_succ])
        refine' wpAnyH_take (i := 6) (oi := { dst := some 39, op := Go.Op.move (Go.Operand.tmp 45), type := 31, pos := "law.go:73", after := #[{ on := 5, ground := Go.Ground.data }], guard := none }) (v := _) rfl (by kernel_rfl) (by kernel_rfl) (by kernel_rfl) (fun _ _ _ h => h) (Or.inl ⟨by rfl, ?hy46⟩) (by assumption) ?hr46
        case hy46 => (intro _ hSw; (try dsimp only at hSw); go_simp <;> with_reducible rfl)
        simp only [Act.put, List.setIfInBounds_toArray, List.set_cons_zero, List.set_cons_succ]
        refine' wpAnyH_take (i := 7) (oi := { dst := some 46, op := Go.Op.extract (Go.Operand.tmp 39) 0, type := 9, pos := "law.go:73", after := #[{ on := 6, ground := Go.Ground.data }], guard := none }) (v := _) rfl (by kernel_rfl) (by kernel_rfl) (by kernel_rfl) (fun _ _ _ h => h) (Or.inl ⟨by rfl, ?hy47⟩) (by assumption) ?hr47
        case hy47 => (intro _ hSw; (try dsimp only at hSw); go_simp <;> with_reducible rfl)
        simp only [Act.put, List.setIfInBounds_toArray, List.set_cons_zero, List.set_cons_succ]
        refine' wpAnyH_take (i := 8) (oi := { dst := some 47, op := Go.Op.extract (Go.Operand.tmp 39) 1, type := 4, pos := "law.go:73", after := #[{ on := 6, ground := Go.Ground.data }, { on := 9, ground := Go.Ground.gcOnly Go.Departure.lateStores }], guard := none }) (v := _) rfl (by kernel_rfl) (by kernel_rfl) (by kernel_rfl) (fun _ _ _ h => h) (Or.inl ⟨by rfl, ?hy48⟩) (by assumption) ?hr48
        case hy48 => (intro _ hSw; (try dsimp only at hSw); go_simp <;> with_reducible rfl)
        simp only [Act.put, List.setIfInBounds_toArray, List.set_cons_zero, List.set_cons_succ]
        refine' wpAnyH_take (i := 9) (oi := { dst := some 10, op := Go.Op.assign (Go.Operand.tmp 46), type := 9, pos := "law.go:73", after := #[{ on := 7, ground := Go.Ground.data }, { on := 5, ground := Go.Ground.chain }, { on := 0, ground := Go.Ground.phase }, { on := 1, ground := Go.Ground.phase }, { on := 2, ground := Go.Ground.phase }, { on := 3, ground := Go.Ground.phase }, { on := 4, ground := Go.Ground.phase }, { on := 5, ground := Go.Ground.phase }, { on := 6, ground := Go.Ground.phase }, { on := 7, ground := Go.Ground.phase }, { on := 8, ground := Go.Ground.textOnly Go.Departure.lateStores }], guard := none }) (v := _) rfl (by kernel_rfl) (by kernel_rfl) (by kernel_rfl) (fun _ _ _ h => h) (Or.inl ⟨by rfl, ?hy49⟩) (by assumption) ?hr49
        case hy49 => (intro _ hSw; (try dsimp only at hSw); go_simp <;> with_reducible rfl)
        simp only [Act.put, List.setIfInBounds_toArray, List.set_cons_zero, List.set_cons_succ]
        refine' wpAnyH_take (i := 10) (oi := { dst := some 11, op := Go.Op.assign (Go.Operand.tmp 47), type := 4, pos := "law.go:73", after := #[{ on := 8, ground := Go.Ground.data }, { on := 9, ground := Go.Ground.chain }, { on := 0, ground := Go.Ground.phase }, { on := 1, ground := Go.Ground.phase }, { on := 2, ground := Go.Ground.phase }, { on := 3, ground := Go.Ground.phase }, { on := 4, ground := Go.Ground.phase }, { on := 5, ground := Go.Ground.phase }, { on := 6, ground := Go.Ground.phase }, { on := 7, ground := Go.Ground.phase }, { on := 8, ground := Go.Ground.phase }, { on := 9, ground := Go.Ground.phase }], guard := none }) (v := _) rfl (by kernel_rfl) (by kernel_rfl) (by kernel_rfl) (fun _ _ _ h => h) (Or.inl ⟨by rfl, ?hy50⟩) (by assumption) ?hr50
        case hy50 => (intro _ hSw; (try dsimp only at hSw); go_simp <;> with_reducible rfl)
        simp only [Act.put, List.setIfInBounds_toArray, List.set_cons_zero, List.set_cons_succ]
        refine wpAnyH_done (by kernel_rfl) ?_ _
        clear hHeld
        have HR5 := Lib.hid (HR.out.on HB5.out)
        clear c1 c2 c3 c4 c5 c6 c7 r0 r1 r2
        go_wp2
        go_roundw
        case rel => exact ⟨sm, k + 1, rfl, by omega, by go_num, HR5⟩
        case measure => simp [intOf]; omega
    · go_wp2_with (go_at_call 6; ((with_reducible refine (works _ htw).mono ?_); rintro e w2 ⟨rfl, hb⟩; have HB2 := Lib.hid (HR.out.on hb).base; clear hb))
      go_ret
      exact ⟨rfl, HB2.out⟩
end Go.Proofs.YthlciaomfpephaaDoor.Df
