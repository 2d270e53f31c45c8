/-
  MsgsKnown answers true, and turns nothing that was there. Condition: the table of the types lies where the program lays it.
-/
import Derived.Test.YtffahjlboakakaaDoorMsgsPutsLaw
import Derived.Test.YtffahjlboakakaaDoorMsgsGetsLaw
import Derived.Test.YtffahjlboakakaaDoorMsgsBackLaw
import Derived.Test.YtffahjlboakakaaDoorMem
import Derived.Laws.MakeOwn
import Derived.Laws.OwnMore
namespace Go.Proofs.YtffahjlboakakaaDoor.Mem
open Go.RowKit Go.Proofs.YtffahjlboakakaaDoor.Base
def zeroV (n : Nat) : Array Value := (List.replicate n (Value.int .u8 0)).toArray
def zeroS (n : Nat) : ByteArray := ⟨(List.replicate n 0).toArray⟩
theorem zeroS_size (n : Nat) : (zeroS n).size = n := by
  show (List.replicate n (0 : UInt8)).toArray.size = n
  simp
theorem infoB : (Tryd.prog.info? 5).map (fun i => (i.zero, i.size, i.bytes)) = some (some (.int .u8 0), 1, 1) := by kernel_rfl
theorem make_zeros (n : Nat) (hn : n ≤ 100000) (w : World) : (Instr.makeSlice 54 (.int .i64 (n : Int)) (.int .i64 (n : Int))).run Tryd.prog w = .ok (.slice (some ⟨w.heap.size, 0, none⟩) n n) (w.alloc (.cells (zeroV n) 5)) := by
  obtain ⟨i, hi, hz0, hz1, hz2⟩ := info_parts infoB
  have h := run_make (P := Tryd.prog) w 54 5 i (.int .u8 0) Tryd.underlying54 hi hz0 .i64 .i64 (n : Int) (n : Int) (by omega) (Int.le_refl _) (by rw [hz2]; omega) (by omega)
  rw [h, hz1]
  simp only [Int.toNat_natCast, Nat.mul_one]
  have e : madeCells (Value.cells (.int .u8 0)) n = zeroV n := by
    apply Array.ext'
    show (madeCells #[.int .u8 0] n).toList = _
    rw [toList_madeCells_one]
    rfl
  exact congrArg (fun c => Result.ok _ (w.alloc (.cells c 5))) e
theorem conv_zeros (n : Nat) (W : World) (b : Nat) (h : W.heap[b]? = some (.cells (zeroV n) 5 (0, 0))) : (convert 54 9 (.slice (some ⟨b, 0, none⟩) n n)).run Tryd.prog W = .ok (.string (zeroS n)) W := by
  have h := run_convert_bytes_arg (P := Tryd.prog) W 54 5 Tryd.underlying54 Tryd.underlying5 b 0 n n (List.replicate n 0) (by simp) (fun i hi => by
    rw [Nat.zero_add]
    refine cell_of h ?_
    simp [zeroV, hi]) 9 Tryd.underlying9
  rw [h]
  have e : strOfNums (List.replicate n 0) = zeroS n := by
    unfold strOfNums zeroS
    simp
  rw [e]
end Go.Proofs.YtffahjlboakakaaDoor.Mem
namespace Go.Proofs.YtffahjlboakakaaDoor.msgsKnown
open Go.RowKit Go.Proofs.YtffahjlboakakaaDoor.Base Go.Proofs.YtffahjlboakakaaDoor.Mem Go.Proofs.YtffahjlboakakaaDoor.Msgs
set_option maxRecDepth 100000
def pP : Pn.Pr := ⟨5, 2, 3, 7, 10, 300, 3, 2⟩
def sS : Msc.St := ⟨1, false, true, true, false, true, false, 0⟩
theorem pP_in : pP.In := ⟨by decide, by decide, by decide, by decide⟩
theorem sS_in : sS.In := ⟨by decide, by decide⟩
/-- A message that the law makes: its numbers are octets, its string is short. -/
structure Good (m : Ms) : Prop where
  in_ : m.In
  b : m.b.size ≤ 128
theorem Good.fits {m : Ms} (h : Good m) : Fits m := ⟨h.in_, Nat.le_trans h.b (by decide)⟩
theorem fc_fits : Fits ⟨3, false, Pn.zero, Msc.zero, 0, no⟩ := ⟨⟨by decide, Pn.zero_in, Msc.zero_in, by decide⟩, by decide⟩
/-- What stays through all rounds. -/
structure Kept (w : World) (b1 b2 : Nat) (wr : World) : Prop where
  base : Below w.heap.size w wr
  p : wr.heap[b1]? = some (.cells #[.int .u8 5, .int .u8 2, .int .u8 3, .int .u8 7, .int .i64 10, .int .i64 300, .int .i64 3, .int .i64 2] 23 (0, 0))
  s : wr.heap[b2]? = some (.cells #[.int .u8 1, .bool false, .bool true, .bool true, .bool false, .bool true, .bool false, .int .u8 0] 25 (0, 0))
theorem Kept.on {w : World} {b1 b2 : Nat} {a b : World} (h : Kept w b1 b2 a) (hb : Below a.heap.size a b) : Kept w b1 b2 b := ⟨below_on h.base hb, stays h.p hb, stays h.s hb⟩
theorem Kept.mod {w : World} {b1 b2 b6 : Nat} {a b : World} (h : Kept w b1 b2 a) (M : Mod b6 a b) (hl : w.heap.size ≤ b6) (h1 : b1 ≠ b6) (h2 : b2 ≠ b6) : Kept w b1 b2 b := ⟨M.below h.base hl, M.other h1 h.p, M.other h2 h.s⟩
section
variable {ops : Array Oper} {rest : List Oper} {a : Act} {Q : Exit → Act → World → Prop} {d : Option Tmp} {x y : Operand} {ty : TypeId} {pos : String} {af : Array Edge} {w : World} {b : Nat} {m : Ms} {t : TypeId} {T : Nat}
theorem ldw {n : Nat} {cs : Array Value} (hT : IsRow T n) (h : w.heap[b]? = some (.cells cs t (0, 0))) (hz : cs.size = n) (hx : a.eval x = ptr b) (k : wpList Tryd.prog ops Q rest (a.put d (.agg cs)) w) :
    wpList Tryd.prog ops Q ({ dst := d, op := .load T x, type := ty, pos := pos, after := af, guard := none } :: rest) a w := by
  obtain ⟨fs, hu⟩ := hT.under
  exact wpList_load_row rfl T x rfl b hx t cs (0, 0) _ h hu rfl (by rw [hz]; exact hT.size) k
theorem stmx (hT : IsRow T 20) (hG : Good m) {m0 : Ms} (h : w.heap[b]? = some (mO m0 t)) (hx : a.eval x = ptr b) (hy : a.eval y = mv m) (k : ∀ m' w', Good m' → w'.heap[b]? = some (mO m' t) → Mod b w w' → wpList Tryd.prog ops Q rest (a.put d undef) w') :
    wpList Tryd.prog ops Q ({ dst := d, op := .store T x y, type := ty, pos := pos, after := af, guard := none } :: rest) a w := stm hT h hx hy fun w' h' M => k m w' hG h' M
theorem stpx (hT : IsRow T 8) {p : Pn.Pr} (hp : p.In) (hG : Good m) (h : w.heap[b]? = some (mO m t)) (hx : a.eval x = .pointer (some ⟨b, 2, none⟩)) (hy : a.eval y = Pn.pv p) (k : ∀ m' w', Good m' → w'.heap[b]? = some (mO m' t) → Mod b w w' → wpList Tryd.prog ops Q rest (a.put d undef) w') :
    wpList Tryd.prog ops Q ({ dst := d, op := .store T x y, type := ty, pos := pos, after := af, guard := none } :: rest) a w := stp hT h hx hy fun w' h' M => k ⟨m.k, m.c, p, m.s, m.t, m.b⟩ w' ⟨⟨hG.in_.k, hp, hG.in_.s, hG.in_.t⟩, hG.b⟩ h' M
theorem stsx (hT : IsRow T 8) {s : Msc.St} (hp : s.In) (hG : Good m) (h : w.heap[b]? = some (mO m t)) (hx : a.eval x = .pointer (some ⟨b, 10, none⟩)) (hy : a.eval y = Msc.sv s) (k : ∀ m' w', Good m' → w'.heap[b]? = some (mO m' t) → Mod b w w' → wpList Tryd.prog ops Q rest (a.put d undef) w') :
    wpList Tryd.prog ops Q ({ dst := d, op := .store T x y, type := ty, pos := pos, after := af, guard := none } :: rest) a w := sts hT h hx hy fun w' h' M => k ⟨m.k, m.c, m.p, s, m.t, m.b⟩ w' ⟨⟨hG.in_.k, hG.in_.p, hp, hG.in_.t⟩, hG.b⟩ h' M
theorem sttx {u z : Nat} (hz : z < 256) (hG : Good m) (h : w.heap[b]? = some (mO m T)) (hx : a.eval x = .pointer (some ⟨b, 18, none⟩)) (hy : a.eval y = .int .u8 (z : Int)) (k : ∀ m' w', Good m' → w'.heap[b]? = some (mO m' T) → Mod b w w' → wpList Tryd.prog ops Q rest (a.put d undef) w') :
    wpList Tryd.prog ops Q ({ dst := d, op := .store 5 x y, type := u, pos := pos, after := af, guard := none } :: rest) a w := stt h hx hy fun w' h' M => k ⟨m.k, m.c, m.p, m.s, z, m.b⟩ w' ⟨⟨hG.in_.k, hG.in_.p, hG.in_.s, hz⟩, hG.b⟩ h' M
theorem stbx {u : Nat} {z : ByteArray} (hz : z.size ≤ 128) (hG : Good m) (h : w.heap[b]? = some (mO m T)) (hx : a.eval x = .pointer (some ⟨b, 19, none⟩)) (hy : a.eval y = .string z) (k : ∀ m' w', Good m' → w'.heap[b]? = some (mO m' T) → Mod b w w' → wpList Tryd.prog ops Q rest (a.put d undef) w') :
    wpList Tryd.prog ops Q ({ dst := d, op := .store 9 x y, type := u, pos := pos, after := af, guard := none } :: rest) a w := stb h hx hy fun w' h' M => k ⟨m.k, m.c, m.p, m.s, m.t, z⟩ w' ⟨⟨hG.in_.k, hG.in_.p, hG.in_.s, hG.in_.t⟩, hz⟩ h' M
theorem bslg {g : Option (Nat × Bool)} {len : Nat} {S e : Nat} {parts : Array (Nat × Operand)} (cells : Array Value) (hu : Tryd.prog.underlying S = some (.slice e)) (he : (Tryd.prog.info? e).map (fun i => (i.zero, i.size)) = some (some (mv zero), 20)) (hl : 0 < len ∧ len ≤ 100)
    (hg : Region.wanted { dst := d, op := .buildSlice S len parts, type := ty, pos := pos, after := af, guard := g } (yielded ops a.tmps) = true)
    (hf : Instr.fill (fun i => some (i * 20, 20)) ((Array.range (len * 20)).map ((mc zero)[· % (mc zero).size]!)) (parts.map fun (i, x) => (i, a.eval x)).toList = some cells)
    (k : ∀ (b : Nat) (w' : World), w'.heap[b]? = some (.cells cells e (0, 0)) → Fresh b w w' → wpList Tryd.prog ops Q rest (a.put d (.slice (some ⟨b, 0, none⟩) len len)) w') :
    wpList Tryd.prog ops Q ({ dst := d, op := .buildSlice S len parts, type := ty, pos := pos, after := af, guard := g } :: rest) a w := by
  cases hq : Tryd.prog.info? e with
  | none => simp [hq] at he
  | some i =>
    simp only [hq, Option.map_some, Option.some.injEq, Prod.mk.injEq] at he
    refine wpList_step fun K hK => ?_
    rw [if_pos hg]
    refine wp_buildSlice S e len parts rfl cells i (mv zero) hu hq he.1 (by rw [he.2]; omega) (by rw [he.2]; omega) (by rw [he.2]; exact hf) ?_
    exact hK _ _ (k w.heap.size (w.alloc (.cells cells e (0, 0))) (nest w [_] 0 _ rfl) (fresh_alloc w _))
/-- A slice of one octet. -/
theorem bs1 {S e : Nat} {parts : Array (Nat × Operand)} (cells : Array Value) (hu : Tryd.prog.underlying S = some (.slice e)) (he : (Tryd.prog.info? e).map (fun i => (i.zero, i.size)) = some (some (.int .u8 0), 1))
    (hf : Instr.fill (fun i => some (i * 1, 1)) ((Array.range (1 * 1)).map ((Value.int .u8 0).cells[· % (Value.int .u8 0).cells.size]!)) (parts.map fun (i, x) => (i, a.eval x)).toList = some cells)
    (k : ∀ (b : Nat) (w' : World), w'.heap[b]? = some (.cells cells e (0, 0)) → Fresh b w w' → wpList Tryd.prog ops Q rest (a.put d (.slice (some ⟨b, 0, none⟩) 1 1)) w') :
    wpList Tryd.prog ops Q ({ dst := d, op := .buildSlice S 1 parts, type := ty, pos := pos, after := af, guard := none } :: rest) a w := by
  cases hq : Tryd.prog.info? e with
  | none => simp [hq] at he
  | some i =>
    simp only [hq, Option.map_some, Option.some.injEq, Prod.mk.injEq] at he
    refine wpList_buildSlice rfl S e 1 parts rfl cells i (.int .u8 0) hu hq he.1 (by rw [he.2]; omega) (by rw [he.2]; omega) (by rw [he.2]; exact hf) ?_
    exact k w.heap.size (w.alloc (.cells cells e (0, 0))) (nest w [_] 0 _ rfl) (fresh_alloc w _)
end
theorem infoB : (Tryd.prog.info? 5).map (fun i => (i.zero, i.size)) = some (some (.int .u8 0), 1) := by kernel_rfl
/-- A slice of messages that was built is one that might have come in. -/
theorem arg_of (l : List Ms) (hl : ∀ x ∈ l, Fits x) {w : World} {b : Nat} {t : TypeId} (h : w.heap[b]? = some (.cells (l.flatMap ml).toArray t (0, 0))) : ArgS 20 ml Fits w (some ⟨b, 0, none⟩) l.length (fun i => l.getD i zero) := by
  refine ⟨fun _ => ⟨_, rfl, lt_heap h⟩, fun k hk => ?_, fun a ha k hk j hj => ?_⟩
  · rw [List.getD_eq_getElem?_getD, List.getElem?_eq_getElem hk]
    exact hl _ (List.getElem_mem hk)
  · cases ha
    rw [add_at, add_off]
    have hx : l[k]? = some (l.getD k zero) := by rw [List.getD_eq_getElem?_getD, List.getElem?_eq_getElem hk]; rfl
    have hg := flat_get ml_len l _ k j hx hj
    rw [Nat.mul_comm k 20]
    have hlen : j < (ml (l.getD k zero)).length := hj
    rw [List.getElem?_eq_getElem hlen] at hg ⊢
    exact cell_of h (by rw [List.getElem?_toArray]; exact hg)
theorem arg3 {x y z : Ms} {w : World} {b : Nat} {t : TypeId} (h : w.heap[b]? = some (.cells ([x, y, z].flatMap ml).toArray t (0, 0))) (h1 : Fits x) (h2 : Fits y) (h3 : Fits z) : ArgS 20 ml Fits w (some ⟨b, 0, none⟩) 3 (fun i => [x, y, z].getD i zero) :=
  arg_of [x, y, z] (fun u hu => by
    simp only [List.mem_cons, List.not_mem_nil, or_false] at hu
    rcases hu with rfl | rfl | rfl
    · exact h1
    · exact h2
    · exact h3) h
theorem arg1 {x : Ms} {w : World} {b : Nat} {t : TypeId} (h : w.heap[b]? = some (.cells ([x].flatMap ml).toArray t (0, 0))) (h1 : Fits x) : ArgS 20 ml Fits w (some ⟨b, 0, none⟩) 1 (fun i => [x].getD i zero) :=
  arg_of [x] (fun u hu => by rw [List.mem_singleton.1 hu]; exact h1) h
theorem wrap_small {n : Nat} (h : n < 100) : wrap64 (n : Int) = (n : Int) := by unfold wrap64; omega
theorem tdiv_is (n : Nat) (d : Nat) : (n : Int).tdiv (d : Int) = ((n / d : Nat) : Int) := rfl
theorem tmod_is (n : Nat) (d : Nat) : (n : Int).tmod (d : Int) = ((n % d : Nat) : Int) := rfl
set_option maxHeartbeats 8000000 in
theorem law (w : World) (ht : Tab w) :
    Calls Tryd.prog 6 #[] w fun e w' => e = .returned (.bool true) ∧ Below w.heap.size w w' := by
  have HT := Lib.hid ht
  clear ht
  have hzs := zeroS_size 128
  obtain ⟨Z, hZ⟩ : ∃ Z, zeroS 128 = Z := ⟨_, rfl⟩
  rw [hZ] at hzs
  go_enter Tryd.func6, Tryd.ntmps6
  go_wp2_with (first
    | ((with_reducible refine alr zeroP ?_); intro b1 w1 h F0; have H1 := Lib.hid h; have L1 := Lib.hid (Nat.le_of_eq F0.eq.symm); have HB := Lib.hid F0.below; clear h F0)
    | ((with_reducible refine str #[.int .u8 5, .int .u8 2, .int .u8 3, .int .u8 7, .int .i64 10, .int .i64 300, .int .i64 3, .int .i64 2] isP H1.out ?h0 ?h1 ?hc ?hx ?hy ?_); (case h0 => rfl); (case h1 => rfl); (case hc => (simp [Value.oneCell'])); (case hx => rfl); (case hy => rfl); intro w2 h M; replace H1 := Lib.hid h; replace HB := Lib.hid (M.below HB.out L1.out); clear h M)
    | ((with_reducible refine alr zeroS ?_); intro b2 w3 h F0; have N12 := Lib.hid (F0.ne H1.out); replace H1 := Lib.hid (F0.stays H1.out); have H2 := Lib.hid h; have L2 := Lib.hid (F0.le HB.out); replace HB := Lib.hid (F0.on HB.out); clear h F0)
    | ((with_reducible refine str #[.int .u8 1, .bool false, .bool true, .bool true, .bool false, .bool true, .bool false, .int .u8 0] isS H2.out ?h0 ?h1 ?hc ?hx ?hy ?_); (case h0 => rfl); (case h1 => rfl); (case hc => (simp [Value.oneCell'])); (case hx => rfl); (case hy => rfl); intro w4 h M; replace H1 := Lib.hid (M.other N12.out H1.out); replace H2 := Lib.hid h; replace HB := Lib.hid (M.below HB.out L2.out); clear h M; have hmk : (Instr.makeSlice 54 (.int .i64 128) (.int .i64 128)).run Tryd.prog w4 = .ok (.slice (some ⟨w4.heap.size, 0, none⟩) 128 128) (w4.alloc (.cells (zeroV 128) 5)) := make_zeros 128 (by decide) w4; have hcv : (convert 54 9 (.slice (some ⟨w4.heap.size, 0, none⟩) 128 128)).run Tryd.prog (w4.alloc (.cells (zeroV 128) 5)) = .ok (.string Z) (w4.alloc (.cells (zeroV 128) 5)) := by (rw [← hZ]; exact conv_zeros 128 _ w4.heap.size (nest w4 [_] 0 _ rfl))))
  obtain ⟨w5, HK⟩ : ∃ w5, w5 = w4.alloc (.cells (zeroV 128) 5) ∧ Hid (Kept w b1 b2 w5) := ⟨_, rfl, Lib.hid ⟨HB.out.alloc HB.out.size _, stays H1.out ((Below.refl _ _).alloc (Nat.le_refl _) _), stays H2.out ((Below.refl _ _).alloc (Nat.le_refl _) _)⟩⟩
  obtain ⟨e5, HK⟩ := HK
  rw [← e5]
  clear e5 hmk hcv H1 H2 HB L1 L2 N12
  go_loopw [4] (fun v wr => ∃ k : Nat, k ≤ 10 ∧ v = .int .u8 (k : Int) ∧ Hid (Kept w b1 b2 wr)) (fun v _ => 10 - (intOf v).toNat)
  case atStart => exact ⟨0, by decide, rfl, HK⟩
  case round =>
    obtain ⟨k, hk, rfl, HK⟩ := hrel
    by_cases hlt : k < 10
    · have hd : decide ((k : Int) < 10) = true := by simp; omega
      go_wp2
      go_loopw [5] (fun v wr => ∃ n : Nat, n ≤ 32 ∧ v = .int .i64 (n : Int) ∧ Hid (Kept w b1 b2 wr)) (fun v _ => 32 - (intOf v).toNat)
      case atStart => exact ⟨0, by decide, rfl, HK⟩
      case round =>
        obtain ⟨n, hn, rfl, HK⟩ := hrel
        by_cases hnl : n < 32
        · have HNB : Hid (n < 256) := Lib.hid (by omega)
          obtain ⟨r2, e2⟩ : ∃ r, n % 2 = r := ⟨_, rfl⟩
          obtain ⟨a2, d2⟩ : ∃ r, n / 2 = r := ⟨_, rfl⟩
          obtain ⟨a4, d4⟩ : ∃ r, n / 4 = r := ⟨_, rfl⟩
          obtain ⟨a8, d8⟩ : ∃ r, n / 8 = r := ⟨_, rfl⟩
          obtain ⟨a16, d16⟩ : ∃ r, n / 16 = r := ⟨_, rfl⟩
          obtain ⟨r5, e5⟩ : ∃ r, n % 5 = r := ⟨_, rfl⟩
          have h5 : r5 < 5 := by omega
          have t2 : (n : Int).tmod 2 = (r2 : Int) := by rw [← e2]; exact tmod_is n 2
          have u2 : (n : Int).tdiv 2 = (a2 : Int) := by rw [← d2]; exact tdiv_is n 2
          have u4 : (n : Int).tdiv 4 = (a4 : Int) := by rw [← d4]; exact tdiv_is n 4
          have u8 : (n : Int).tdiv 8 = (a8 : Int) := by rw [← d8]; exact tdiv_is n 8
          have u16 : (n : Int).tdiv 16 = (a16 : Int) := by rw [← d16]; exact tdiv_is n 16
          have t5 : (n : Int).tmod 5 = (r5 : Int) := by rw [← e5]; exact tmod_is n 5
          obtain ⟨s2, f2⟩ : ∃ r, a2 % 2 = r := ⟨_, rfl⟩
          obtain ⟨s4, f4⟩ : ∃ r, a4 % 2 = r := ⟨_, rfl⟩
          obtain ⟨s8, f8⟩ : ∃ r, a8 % 2 = r := ⟨_, rfl⟩
          have x2 : wrap64 (a2 : Int) = (a2 : Int) := wrap_small (by rw [← d2]; exact Nat.lt_of_le_of_lt (Nat.div_le_self n 2) (Nat.lt_trans hnl (by decide)))
          have x4 : wrap64 (a4 : Int) = (a4 : Int) := wrap_small (by rw [← d4]; exact Nat.lt_of_le_of_lt (Nat.div_le_self n 4) (Nat.lt_trans hnl (by decide)))
          have x8 : wrap64 (a8 : Int) = (a8 : Int) := wrap_small (by rw [← d8]; exact Nat.lt_of_le_of_lt (Nat.div_le_self n 8) (Nat.lt_trans hnl (by decide)))
          have x16 : wrap64 (a16 : Int) = (a16 : Int) := wrap_small (by rw [← d16]; exact Nat.lt_of_le_of_lt (Nat.div_le_self n 16) (Nat.lt_trans hnl (by decide)))
          have v2 : (a2 : Int).tmod 2 = (s2 : Int) := by rw [← f2]; exact tmod_is a2 2
          have v4 : (a4 : Int).tmod 2 = (s4 : Int) := by rw [← f4]; exact tmod_is a4 2
          have v8 : (a8 : Int).tmod 2 = (s8 : Int) := by rw [← f8]; exact tmod_is a8 2
          obtain ⟨c2, hc2⟩ : ∃ c, ((r2 : Int) == 0) = c := ⟨_, rfl⟩
          obtain ⟨g2, hg2⟩ : ∃ c, ((s2 : Int) == 1) = c := ⟨_, rfl⟩
          obtain ⟨g4, hg4⟩ : ∃ c, ((s4 : Int) == 1) = c := ⟨_, rfl⟩
          obtain ⟨g8, hg8⟩ : ∃ c, ((s8 : Int) == 1) = c := ⟨_, rfl⟩
          obtain ⟨g16, hg16⟩ : ∃ c, ((a16 : Int) == 1) = c := ⟨_, rfl⟩
          clear e2 d2 d4 d8 d16 e5 f2 f4 f8
          have j1 : (r5 : Int) < 5 := by omega
          have j0 : (0 : Int) ≤ (r5 : Int) := by omega
          have hzi : (Z.size : Int) = 128 := by rw [hzs]; rfl
          obtain ⟨x5, hx5⟩ : ∃ x, Z.extract 0 (r5 + 124) = x := ⟨_, rfl⟩
          have HX5 : Hid (x5.size ≤ 128) := Lib.hid (by rw [← hx5, ByteArray.size_extract]; omega)
          have HGB : Hid (Good ⟨k, c2, Pn.zero, Msc.zero, 0, no⟩) := Lib.hid ⟨⟨by show k < 256; omega, Pn.zero_in, Msc.zero_in, by show 0 < 256; decide⟩, by show 0 ≤ 128; decide⟩
          cases g2 <;> cases g4 <;> cases g8 <;> cases g16
          all_goals
            go_wp2_with (first
              | ((with_reducible refine alm zeroM ?_); intro b6 w6 h F0; have N16 := Lib.hid (F0.ne HK.out.p); have N26 := Lib.hid (F0.ne HK.out.s); have L6 := Lib.hid (F0.le HK.out.base); replace HK := Lib.hid (HK.out.on F0.below); have HM := Lib.hid h; clear h F0)
              | ((with_reducible refine bdm (T := 27) ⟨k, c2, Pn.zero, Msc.zero, 0, no⟩ ?hb ?_); (case hb => kernel_rfl))
              | ((with_reducible refine stmx (m := ⟨k, c2, Pn.zero, Msc.zero, 0, no⟩) isM HGB.out HM.out ?hx ?hy ?_); (case hx => rfl); (case hy => rfl); intro m1 w7 g h M; replace HK := Lib.hid (HK.out.mod M L6.out N16.out N26.out); have HG := Lib.hid g; replace HM := Lib.hid h; clear g h M)
              | ((with_reducible refine ldw isP HK.out.p ?hz ?hx ?_); (case hz => rfl); (case hx => rfl))
              | ((with_reducible refine ldw isS HK.out.s ?hz ?hx ?_); (case hz => rfl); (case hx => rfl))
              | ((with_reducible refine stpx isP pP_in HG.out HM.out ?hx ?hy ?_); (case hx => rfl); (case hy => rfl); intro m2 w8 g h M; replace HK := Lib.hid (HK.out.mod M L6.out N16.out N26.out); replace HG := Lib.hid g; replace HM := Lib.hid h; clear g h M)
              | ((with_reducible refine stsx isS sS_in HG.out HM.out ?hx ?hy ?_); (case hx => rfl); (case hy => rfl); intro m3 w8 g h M; replace HK := Lib.hid (HK.out.mod M L6.out N16.out N26.out); replace HG := Lib.hid g; replace HM := Lib.hid h; clear g h M)
              | ((with_reducible refine sttx (z := n) HNB.out HG.out HM.out ?hx ?hy ?_); (case hx => rfl); (case hy => rfl); intro m4 w8 g h M; replace HK := Lib.hid (HK.out.mod M L6.out N16.out N26.out); replace HG := Lib.hid g; replace HM := Lib.hid h; clear g h M)
              | ((with_reducible refine stbx (z := x5) HX5.out HG.out HM.out ?hx ?hy ?_); (case hx => rfl); (case hy => exact congrArg Value.string hx5); intro m5 w8 g h M; replace HK := Lib.hid (HK.out.mod M L6.out N16.out N26.out); replace HG := Lib.hid g; replace HM := Lib.hid h; clear g h M)
              | ((with_reducible refine ldm isM HM.out ?hx ?_); (case hx => rfl))
              | (go_at_call 3; ((with_reducible refine (msgsPuts.law _ HG.out.in_ _ (tab_below HT.out HK.out.base)).mono ?_); rintro e wz ⟨rfl, hb⟩; replace HK := Lib.hid (HK.out.on hb); (try replace HM := Lib.hid (stays HM.out hb)); (try replace HN := Lib.hid (stays HN.out hb)); clear hb))
              | ((with_reducible refine ldmg isM HM.out ?hg ?hx ?_); (case hg => rfl); (case hx => rfl))
              | ((with_reducible refine bdmg (T := 27) (parts := #[(0, .const (.int .u8 3))]) ⟨3, false, Pn.zero, Msc.zero, 0, no⟩ ?hg ?hb ?_); (case hg => rfl); (case hb => kernel_rfl))
              | ((with_reducible refine bslg (([m5, ⟨3, false, Pn.zero, Msc.zero, 0, no⟩, m5].flatMap ml).toArray) Tryd.underlying49 infoM ?hl ?hg ?hf ?_); (case hl => exact ⟨by decide, by decide⟩); (case hg => rfl); (case hf => kernel_rfl); intro b9 w9 h F0; replace HK := Lib.hid (HK.out.on F0.below); replace HM := Lib.hid (F0.stays HM.out); have HQ := Lib.hid h; clear h F0)
              | ((with_reducible refine bslg (([m4, ⟨3, false, Pn.zero, Msc.zero, 0, no⟩, m4].flatMap ml).toArray) Tryd.underlying49 infoM ?hl ?hg ?hf ?_); (case hl => exact ⟨by decide, by decide⟩); (case hg => rfl); (case hf => kernel_rfl); intro b9 w9 h F0; replace HK := Lib.hid (HK.out.on F0.below); replace HM := Lib.hid (F0.stays HM.out); have HQ := Lib.hid h; clear h F0)
              | ((with_reducible refine bslg (([m3, ⟨3, false, Pn.zero, Msc.zero, 0, no⟩, m3].flatMap ml).toArray) Tryd.underlying49 infoM ?hl ?hg ?hf ?_); (case hl => exact ⟨by decide, by decide⟩); (case hg => rfl); (case hf => kernel_rfl); intro b9 w9 h F0; replace HK := Lib.hid (HK.out.on F0.below); replace HM := Lib.hid (F0.stays HM.out); have HQ := Lib.hid h; clear h F0)
              | ((with_reducible refine bslg (([m2, ⟨3, false, Pn.zero, Msc.zero, 0, no⟩, m2].flatMap ml).toArray) Tryd.underlying49 infoM ?hl ?hg ?hf ?_); (case hl => exact ⟨by decide, by decide⟩); (case hg => rfl); (case hf => kernel_rfl); intro b9 w9 h F0; replace HK := Lib.hid (HK.out.on F0.below); replace HM := Lib.hid (F0.stays HM.out); have HQ := Lib.hid h; clear h F0)
              | ((with_reducible refine bslg (([m1, ⟨3, false, Pn.zero, Msc.zero, 0, no⟩, m1].flatMap ml).toArray) Tryd.underlying49 infoM ?hl ?hg ?hf ?_); (case hl => exact ⟨by decide, by decide⟩); (case hg => rfl); (case hf => kernel_rfl); intro b9 w9 h F0; replace HK := Lib.hid (HK.out.on F0.below); replace HM := Lib.hid (F0.stays HM.out); have HQ := Lib.hid h; clear h F0)
              | (go_at_call 5; ((with_reducible refine (msgsBack.lawR (some ⟨b9, 0, none⟩) 3 3 (fun i => [m5, ⟨3, false, Pn.zero, Msc.zero, 0, no⟩, m5].getD i zero) (by decide) ⟨#[]⟩ (by decide) _ (tab_below HT.out HK.out.base) (arg3 HQ.out HG.out.fits fc_fits HG.out.fits)).mono ?_); rintro e wz ⟨rfl, hb⟩; replace HK := Lib.hid (HK.out.on hb); clear hb))
              | (go_at_call 5; ((with_reducible refine (msgsBack.lawR (some ⟨b9, 0, none⟩) 3 3 (fun i => [m4, ⟨3, false, Pn.zero, Msc.zero, 0, no⟩, m4].getD i zero) (by decide) ⟨#[]⟩ (by decide) _ (tab_below HT.out HK.out.base) (arg3 HQ.out HG.out.fits fc_fits HG.out.fits)).mono ?_); rintro e wz ⟨rfl, hb⟩; replace HK := Lib.hid (HK.out.on hb); clear hb))
              | (go_at_call 5; ((with_reducible refine (msgsBack.lawR (some ⟨b9, 0, none⟩) 3 3 (fun i => [m3, ⟨3, false, Pn.zero, Msc.zero, 0, no⟩, m3].getD i zero) (by decide) ⟨#[]⟩ (by decide) _ (tab_below HT.out HK.out.base) (arg3 HQ.out HG.out.fits fc_fits HG.out.fits)).mono ?_); rintro e wz ⟨rfl, hb⟩; replace HK := Lib.hid (HK.out.on hb); clear hb))
              | (go_at_call 5; ((with_reducible refine (msgsBack.lawR (some ⟨b9, 0, none⟩) 3 3 (fun i => [m2, ⟨3, false, Pn.zero, Msc.zero, 0, no⟩, m2].getD i zero) (by decide) ⟨#[]⟩ (by decide) _ (tab_below HT.out HK.out.base) (arg3 HQ.out HG.out.fits fc_fits HG.out.fits)).mono ?_); rintro e wz ⟨rfl, hb⟩; replace HK := Lib.hid (HK.out.on hb); clear hb))
              | (go_at_call 5; ((with_reducible refine (msgsBack.lawR (some ⟨b9, 0, none⟩) 3 3 (fun i => [m1, ⟨3, false, Pn.zero, Msc.zero, 0, no⟩, m1].getD i zero) (by decide) ⟨#[]⟩ (by decide) _ (tab_below HT.out HK.out.base) (arg3 HQ.out HG.out.fits fc_fits HG.out.fits)).mono ?_); rintro e wz ⟨rfl, hb⟩; replace HK := Lib.hid (HK.out.on hb); clear hb)))
            go_roundw
            case rel => exact ⟨n + 1, by omega, by go_num, HK⟩
            case measure => simp [intOf]; omega
        · go_wp2
          go_roundw
          case rel => exact ⟨k + 1, by omega, by go_num, HK⟩
          case measure => simp [intOf]; omega
    · go_wp2
      go_loopw [7] (fun v wr => ∃ t : Nat, t ≤ 256 ∧ v = .int .i64 (t : Int) ∧ Hid (Kept w b1 b2 wr)) (fun v _ => 256 - (intOf v).toNat)
      case atStart => exact ⟨0, by decide, rfl, HK⟩
      case round =>
        obtain ⟨t, ht, rfl, HK⟩ := hrel
        by_cases htl : t < 256
        · obtain ⟨o, hoo⟩ : ∃ o, one t = o := ⟨_, rfl⟩
          have hos : o.size = 1 := by rw [← hoo]; rfl
          have HOO := Lib.hid hoo
          have HO := Lib.hid hos
          have HI8 : Hid (Ms.In ⟨8, false, Pn.zero, Msc.zero, t, ⟨#[97, 98]⟩⟩) := Lib.hid ⟨by show 8 < 256; decide, Pn.zero_in, Msc.zero_in, htl⟩
          have HI7 : Hid (Ms.In ⟨7, false, Pn.zero, Msc.zero, t, no⟩) := Lib.hid ⟨by show 7 < 256; decide, Pn.zero_in, Msc.zero_in, htl⟩
          have HF8 : Hid (Fits ⟨8, false, Pn.zero, Msc.zero, t, ⟨#[97, 98]⟩⟩) := Lib.hid ⟨HI8.out, by show 2 ≤ maxLen; decide⟩
          clear hoo
          go_wp2_with (first
            | ((with_reducible refine alm zeroM ?_); intro b8 w6 h F0; have N18 := Lib.hid (F0.ne HK.out.p); have N28 := Lib.hid (F0.ne HK.out.s); have L8 := Lib.hid (F0.le HK.out.base); replace HK := Lib.hid (HK.out.on F0.below); have HM := Lib.hid h; clear h F0)
            | ((with_reducible refine bs1 #[.int .u8 (t : Int)] Tryd.underlying54 infoB ?hf ?_); (case hf => kernel_rfl); intro b7 w8 h F0; replace HK := Lib.hid (HK.out.on F0.below); replace HM := Lib.hid (F0.stays HM.out); have hcv := hcb w8 b7 (cell_of h rfl); clear h F0)
            | ((with_reducible refine bdm (T := 27) ⟨8, false, Pn.zero, Msc.zero, t, ⟨#[97, 98]⟩⟩ ?hb ?_); (case hb => kernel_rfl))
            | ((with_reducible refine stm (m := ⟨8, false, Pn.zero, Msc.zero, t, ⟨#[97, 98]⟩⟩) isM HM.out ?hx ?hy ?_); (case hx => rfl); (case hy => rfl); intro w7 h M; replace HK := Lib.hid (HK.out.mod M L8.out N18.out N28.out); replace HM := Lib.hid h; clear h M; have hcb : ∀ (W : World) (b : Nat), W.cell? ⟨b, 0, none⟩ = some (.int .u8 (t : Int)) → (convert 54 9 (.slice (some ⟨b, 0, none⟩) 1 1)).run Tryd.prog W = .ok (.string o) W := fun W b h0 => by rw [← HOO.out]; exact conv_at1 W b _ h0)
            | ((with_reducible refine ldm isM HM.out ?hx ?_); (case hx => rfl))
            | (go_at_call 3; ((with_reducible refine (msgsPuts.law _ HI8.out _ (tab_below HT.out HK.out.base)).mono ?_); rintro e wz ⟨rfl, hb⟩; replace HK := Lib.hid (HK.out.on hb); (try replace HM := Lib.hid (stays HM.out hb)); (try replace HN := Lib.hid (stays HN.out hb)); clear hb))
            | (go_at_call 3; ((with_reducible refine (msgsPuts.law _ HI7.out _ (tab_below HT.out HK.out.base)).mono ?_); rintro e wz ⟨rfl, hb⟩; replace HK := Lib.hid (HK.out.on hb); (try replace HM := Lib.hid (stays HM.out hb)); (try replace HN := Lib.hid (stays HN.out hb)); clear hb))
            | ((with_reducible refine bdmg (T := 27) ⟨7, false, Pn.zero, Msc.zero, t, no⟩ ?hg ?hb ?_); (case hg => rfl); (case hb => kernel_rfl))
            | (go_at_call 4; ((with_reducible refine (msgsGets.law _ (by rw [HO.out]; decide) _ (tab_below HT.out HK.out.base)).mono ?_); rintro e wz ⟨rfl, hb⟩; replace HK := Lib.hid (HK.out.on hb); (try replace HM := Lib.hid (stays HM.out hb)); clear hb))
            | (go_at_call 4; ((with_reducible refine (msgsGets.law _ (by rw [ByteArray.size_append, HO.out]; decide) _ (tab_below HT.out HK.out.base)).mono ?_); rintro e wz ⟨rfl, hb⟩; replace HK := Lib.hid (HK.out.on hb); (try replace HM := Lib.hid (stays HM.out hb)); clear hb))
            | (go_at_call 4; ((with_reducible refine (msgsGets.law _ (by rw [ByteArray.size_append, ByteArray.size_append, HO.out]; decide) _ (tab_below HT.out HK.out.base)).mono ?_); rintro e wz ⟨rfl, hb⟩; replace HK := Lib.hid (HK.out.on hb); (try replace HM := Lib.hid (stays HM.out hb)); clear hb))
            | (go_at_call 4; ((with_reducible refine (msgsGets.law _ (by decide) _ (tab_below HT.out HK.out.base)).mono ?_); rintro e wz ⟨rfl, hb⟩; replace HK := Lib.hid (HK.out.on hb); (try replace HM := Lib.hid (stays HM.out hb)); clear hb))
            | ((with_reducible refine ldmg isM HM.out ?hg ?hx ?_); (case hg => rfl); (case hx => rfl))
            | ((with_reducible refine bslg (([⟨8, false, Pn.zero, Msc.zero, t, ⟨#[97, 98]⟩⟩].flatMap ml).toArray) Tryd.underlying49 infoM ?hl ?hg ?hf ?_); (case hl => exact ⟨by decide, by decide⟩); (case hg => rfl); (case hf => kernel_rfl); intro b9 w9 h F0; replace HK := Lib.hid (HK.out.on F0.below); replace HM := Lib.hid (F0.stays HM.out); have HQ := Lib.hid h; clear h F0)
            | (go_at_call 5; ((with_reducible refine (msgsBack.lawR (some ⟨b9, 0, none⟩) 1 1 (fun i => [⟨8, false, Pn.zero, Msc.zero, t, ⟨#[97, 98]⟩⟩].getD i zero) (by decide) _ (by rw [ByteArray.size_append, HO.out]; decide) _ (tab_below HT.out HK.out.base) (arg1 HQ.out HF8.out)).mono ?_); rintro e wz ⟨rfl, hb⟩; replace HK := Lib.hid (HK.out.on hb); clear hb)))
          go_roundw
          case rel => exact ⟨t + 1, by omega, by go_num, HK⟩
          case measure => simp [intOf]; omega
        · have HF1 : Hid (Ms.In ⟨5, false, Pn.zero, Msc.zero, 0, Z⟩) := Lib.hid ⟨by show 5 < 256; decide, Pn.zero_in, Msc.zero_in, by show 0 < 256; decide⟩
          obtain ⟨Z1, hz1⟩ : ∃ x, Z.extract 1 128 = x := ⟨_, rfl⟩
          have HF2 : Hid (Ms.In ⟨5, false, Pn.zero, Msc.zero, 0, Z1⟩) := Lib.hid ⟨by show 5 < 256; decide, Pn.zero_in, Msc.zero_in, by show 0 < 256; decide⟩
          have hzi : (1 : Int) ≤ (Z.size : Int) := by rw [hzs]; decide
          go_wp2_with (first
            | (go_at_call 4; ((with_reducible refine (msgsGets.law _ (by decide) _ (tab_below HT.out HK.out.base)).mono ?_); rintro e wz ⟨rfl, hb⟩; replace HK := Lib.hid (HK.out.on hb); (try replace HM := Lib.hid (stays HM.out hb)); clear hb))
            | ((with_reducible refine bdmg (T := 27) (parts := #[(0, .const (.int .u8 5)), (5, .tmp 134)]) ⟨5, false, Pn.zero, Msc.zero, 0, Z⟩ ?hg ?hb ?_); (case hg => rfl); (case hb => kernel_rfl))
            | ((with_reducible refine bdmg (T := 27) (parts := #[(0, .const (.int .u8 5)), (5, .tmp 140)]) ⟨5, false, Pn.zero, Msc.zero, 0, Z1⟩ ?hg ?hb ?_); (case hg => rfl); (case hb => kernel_rfl))
            | (go_at_call 3; ((with_reducible refine (msgsPuts.law _ HF1.out _ (tab_below HT.out HK.out.base)).mono ?_); rintro e wz ⟨rfl, hb⟩; replace HK := Lib.hid (HK.out.on hb); (try replace HM := Lib.hid (stays HM.out hb)); (try replace HN := Lib.hid (stays HN.out hb)); clear hb))
            | (go_at_call 3; ((with_reducible refine (msgsPuts.law _ HF2.out _ (tab_below HT.out HK.out.base)).mono ?_); rintro e wz ⟨rfl, hb⟩; replace HK := Lib.hid (HK.out.on hb); (try replace HM := Lib.hid (stays HM.out hb)); (try replace HN := Lib.hid (stays HN.out hb)); clear hb))
            | (go_at_call 7; ((with_reducible refine (works _ (tab_below HT.out HK.out.base)).mono ?_); rintro e wz ⟨rfl, hb⟩; replace HK := Lib.hid (HK.out.on hb); clear hb)))
          go_ret
          exact ⟨rfl, HK.out.base⟩
end Go.Proofs.YtffahjlboakakaaDoor.msgsKnown

