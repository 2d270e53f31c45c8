/-
  Where an octet of the inner ones stands in a frame's bytes, and that with one bit of its information turned the check is wrong. Conditions: the places' bounds.
-/
import Derived.Test.YtgikdcamppcphaaDoorAdvBackLaw
namespace Go.Proofs.YtgikdcamppcphaaDoor.Adv
open Go.RowKit Go.Proofs.YtgikdcamppcphaaDoor.Base Go.Proofs.YtgikdcamppcphaaDoor.Ea Go.Proofs.YtgikdcamppcphaaDoor.Field Go.Proofs.YtgikdcamppcphaaDoor.Basic
/-- Where the j-th inner octet begins. -/
def plN (L : List UInt8) (j : Nat) : Nat := 1 + (st (L.take j)).length
theorem pl_zero (L : List UInt8) : plN L 0 = 1 := by simp [plN, st]
theorem pl_succ (L : List UInt8) (j : Nat) (h : j < L.length) : plN L (j + 1) = plN L j + (st1 (L.getD j 0)).length := by
  unfold plN
  rw [st_take L j h, List.length_append]; omega
theorem split_at (L : List UInt8) (j : Nat) (h : j < L.length) : L = L.take j ++ (L.getD j 0 :: L.drop (j + 1)) := by
  have e : L.getD j 0 = L[j] := by simp [List.getD, h]
  rw [e, ← List.drop_eq_getElem_cons h, List.take_append_drop]
theorem st_split (L : List UInt8) (j : Nat) (h : j < L.length) : st L = st (L.take j) ++ (st1 (L.getD j 0) ++ st (L.drop (j + 1))) := by
  have := congrArg st (split_at L j h)
  rw [st_app, st_cons] at this
  exact this
theorem pl_lt (f : Fr) (ini : Bool) (j : Nat) : plN (Fr.inner f ini).data.toList j < (Fr.adv f ini).size := by
  have h1 : (st ((Fr.inner f ini).data.toList.take j)).length ≤ (st (Fr.inner f ini).data.toList).length := by
    have h := congrArg List.length (congrArg st (List.take_append_drop j (Fr.inner f ini).data.toList))
    rw [st_app, List.length_append] at h
    omega
  have h2 := adv_size f ini
  have h3 : (stB (Fr.inner f ini)).size = (st (Fr.inner f ini).data.toList).length := by rw [← size_toList, stB_list]
  unfold plN
  omega
theorem at_pl (f : Fr) (ini : Bool) (j : Nat) (h : j < (Fr.inner f ini).data.toList.length) (hp : plN (Fr.inner f ini).data.toList j < (Fr.adv f ini).size) : some ((Fr.adv f ini)[plN (Fr.inner f ini).data.toList j]'hp) = (st1 ((Fr.inner f ini).data.toList.getD j 0)).head? := by
  rw [get_list (Fr.adv f ini) _ hp, adv_list, st_split _ j h]
  unfold plN
  rw [Nat.add_comm 1, List.getElem?_cons_succ, List.append_assoc, List.getElem?_append_right (Nat.le_refl _), Nat.sub_self, List.append_assoc]
  have h1 := (st1_len ((Fr.inner f ini).data.toList.getD j 0)).1
  cases hs : st1 ((Fr.inner f ini).data.toList.getD j 0) with
  | nil => rw [hs] at h1; simp at h1
  | cons c r => simp
/-- An octet that stands as it is. -/
theorem at_plain {f : Fr} {ini : Bool} {j : Nat} (h : j < (Fr.inner f ini).data.toList.length) (hp : plN (Fr.inner f ini).data.toList j < (Fr.adv f ini).size) (h6 : (Fr.inner f ini).data.toList.getD j 0 ≠ 126) (h5 : (Fr.inner f ini).data.toList.getD j 0 ≠ 125) : (Fr.adv f ini)[plN (Fr.inner f ini).data.toList j]'hp = (Fr.inner f ini).data.toList.getD j 0 := by
  have := at_pl f ini j h hp
  rw [st1_plain h6 h5] at this
  simpa using this
theorem at_esc {f : Fr} {ini : Bool} {j : Nat} (h : j < (Fr.inner f ini).data.toList.length) (hp : plN (Fr.inner f ini).data.toList j < (Fr.adv f ini).size) (hs : (Fr.inner f ini).data.toList.getD j 0 = 126 ∨ (Fr.inner f ini).data.toList.getD j 0 = 125) : (Fr.adv f ini)[plN (Fr.inner f ini).data.toList j]'hp = 125 ∧ plN (Fr.inner f ini).data.toList (j + 1) = plN (Fr.inner f ini).data.toList j + 2 := by
  have e := at_pl f ini j h hp
  have p := pl_succ (Fr.inner f ini).data.toList j h
  rcases hs with hs | hs <;> rw [hs] at e p
  · exact ⟨by rw [st1_flag] at e; simpa using e, by rw [p, st1_flag]; rfl⟩
  · exact ⟨by rw [st1_esc] at e; simpa using e, by rw [p, st1_esc]; rfl⟩
theorem pl_plain {L : List UInt8} {j : Nat} (h : j < L.length) (h6 : L.getD j 0 ≠ 126) (h5 : L.getD j 0 ≠ 125) : plN L (j + 1) = plN L j + 1 := by
  rw [pl_succ L j h, st1_plain h6 h5]; rfl
/-- A turned octet that stands as it is. -/
theorem st_set (L : List UInt8) (j : Nat) (v : UInt8) (h : j < L.length) (h6 : L.getD j 0 ≠ 126) (h5 : L.getD j 0 ≠ 125) (v6 : v ≠ 126) (v5 : v ≠ 125) : (st L).set (plN L j - 1) v = st (L.set j v) := by
  have e1 := st_split L j h
  rw [st1_plain h6 h5] at e1
  have e2 : L.set j v = L.take j ++ (v :: L.drop (j + 1)) := List.set_eq_take_append_cons_drop.trans (by rw [if_pos h])
  rw [e2, st_app, st_cons, st1_plain v6 v5, e1]
  unfold plN
  rw [Nat.add_sub_cancel_left, List.set_append_right _ _ (Nat.le_refl _), Nat.sub_self]
  rfl
theorem reg_set (l : List UInt8) (k : Nat) (v : UInt8) (h : k < l.length) (hv : l.getD k 0 ≠ v) : Fcs.reg (l.set k v) ≠ Fcs.reg l := by
  have e1 := split_at l k h
  have e2 : l.set k v = l.take k ++ (v :: l.drop (k + 1)) := List.set_eq_take_append_cons_drop.trans (by rw [if_pos h])
  intro e
  rw [e2] at e
  rw [e1] at e
  have e3 : l.take k = (l.take k ++ (l.getD k 0 :: l.drop (k + 1))).take k := by rw [← e1]
  have e4 : l.drop (k + 1) = (l.take k ++ (l.getD k 0 :: l.drop (k + 1))).drop (k + 1) := by rw [← e1]
  rw [← e3, ← e4] at e
  unfold Fcs.reg at e
  rw [Fcs.regFrom_append, Fcs.regFrom_append] at e
  have hr := Fcs.regFrom_lt 255 (l.take k) (by decide)
  generalize Fcs.regFrom 255 (l.take k) = r at e hr
  generalize l.drop (k + 1) = m at e
  generalize l.getD k 0 = c at e hv
  have e5 : Fcs.step r v.toNat = Fcs.step r c.toNat ^^^ Fcs.T (c.toNat ^^^ v.toNat) := by
    unfold Fcs.step
    rw [← Fcs.T_lin, Nat.xor_assoc, Fcs.xor_self_left]
  have e6 : Fcs.regFrom (Fcs.step r v.toNat) m = Fcs.regFrom (Fcs.step r c.toNat) m := e
  rw [e5, Fcs.regFrom_diff] at e6
  have hd : c.toNat ^^^ v.toNat < 256 := Fcs.xor_lt _ _ (oct_lt c) (oct_lt v)
  have e7 : Fcs.Tn m.length (Fcs.T (c.toNat ^^^ v.toNat)) = 0 := by
    have h1 := Fcs.xor_self_left (Fcs.regFrom (Fcs.step r c.toNat) m) (Fcs.Tn m.length (Fcs.T (c.toNat ^^^ v.toNat)))
    rw [e6, Nat.xor_self] at h1
    exact h1.symm
  have e8 := (Fcs.T_zero_iff _ hd).1 ((Fcs.Tn_zero_iff _ _ (Fcs.T_lt _ hd)).1 e7)
  exact hv (UInt8.toNat_inj.1 ((Fcs.xor_zero_iff _ _).1 e8))
theorem sum_set (l : List UInt8) (k : Nat) (v : UInt8) (h : k < l.length) (hv : l.getD k 0 ≠ v) : Fcs.sum (l.set k v) ≠ Fcs.sum l := by
  have h1 := reg_set l k v h hv
  have h2 := Fcs.reg_lt (l.set k v)
  have h3 := Fcs.reg_lt l
  unfold Fcs.sum
  omega
theorem inner_list (f : Fr) (ini : Bool) : (Fr.inner f ini).data.toList = UInt8.ofNat (f.a ini) :: UInt8.ofNat f.o :: (f.info.data.toList ++ [UInt8.ofNat (Fr.y f ini)]) := inn_list _ _ _ _
theorem inner_at (f : Fr) (ini : Bool) (k : Nat) (hk : k < f.info.size) : (Fr.inner f ini).data.toList.getD (2 + k) 0 = f.info[k] := by
  rw [inner_list, show 2 + k = k + 1 + 1 by omega]
  have h : k < f.info.data.toList.length := hk
  simp only [List.getD, List.getElem?_cons_succ]
  rw [List.getElem?_append_left h, ← get_list f.info k hk]; rfl
/-- With one octet of the information another one, the check is wrong. -/
theorem turned_ans (f : Fr) (ini : Bool) (h : Fr.ae f 128 = 0) (k5 : f.k ≠ 5) (k : Nat) (hk : k < f.info.size) (v : UInt8) (hv : f.info[k] ≠ v) (o6 : f.info[k] ≠ 126) (o5 : f.info[k] ≠ 125) (v6 : v ≠ 126) (v5 : v ≠ 125) :
    Ans ⟨((stB (Fr.inner f ini)).data.toList.set (plN (Fr.inner f ini).data.toList (2 + k) - 1) v).toArray⟩ ini 128 fr0 41 := by
  obtain ⟨h1, h2, h3⟩ := ienc_dec h ini
  obtain ⟨a1, a2, a3, a4⟩ := ae_ok h
  have hl : (Fr.inner f ini).data.toList.length = f.info.size + 3 := inn_size (f.a ini) f.o (Fr.y f ini) f.info
  have hj : 2 + k < (Fr.inner f ini).data.toList.length := by omega
  have hi := inner_at f ini k hk
  have hs : (stB (Fr.inner f ini)).data.toList.set (plN (Fr.inner f ini).data.toList (2 + k) - 1) v = st ((Fr.inner f ini).data.toList.set (2 + k) v) := by
    rw [stB_list]
    exact st_set _ _ v hj (by rw [hi]; exact o6) (by rw [hi]; exact o5) v6 v5
  have ht : (Fr.inner f ini).data.toList.set (2 + k) v = (inn (f.a ini) f.o (Fr.y f ini) ⟨(f.info.data.toList.set k v).toArray⟩).data.toList := by
    rw [inner_list, inn_list, show 2 + k = k + 1 + 1 by omega, List.set_cons_succ, List.set_cons_succ, List.set_append_left _ _ (by exact hk)]
  have ho : f.o = oct f.k f.pf f.ns f.nr := pC_ok _ a2
  have gk : gK f.o = f.k := by rw [ho]; exact (put_get f.pf a2).1
  have k0 : f.k ≠ 0 := by have := okP_bounds a2; omega
  have hne : Fcs.sum (ckB f.k (two (f.a ini) f.o) ⟨(f.info.data.toList.set k v).toArray⟩).data.toList ≠ Fr.y f ini := by
    unfold Fr.y ckB
    rw [if_neg k5, if_neg k5, app_list, app_list]
    show Fcs.sum (UInt8.ofNat (f.a ini) :: UInt8.ofNat f.o :: f.info.data.toList.set k v) ≠ Fcs.sum (UInt8.ofNat (f.a ini) :: UInt8.ofNat f.o :: f.info.data.toList)
    have := sum_set (UInt8.ofNat (f.a ini) :: UInt8.ofNat f.o :: f.info.data.toList) (k + 1 + 1) v (by simp only [List.length_cons]; have : k < f.info.data.toList.length := hk; omega) (by
      simp only [List.getD, List.getElem?_cons_succ]
      rw [← get_list f.info k hk]; exact hv)
    exact this
  have e41 : aE (f.a ini) f.o (Fr.y f ini) ⟨(f.info.data.toList.set k v).toArray⟩ ini 128 = 41 := by
    unfold aE
    rw [gk, if_neg k0, if_pos hne]
  refine Or.inr (Or.inr ⟨inn (f.a ini) f.o (Fr.y f ini) ⟨(f.info.data.toList.set k v).toArray⟩, f.a ini, f.o, Fr.y f ini, ⟨(f.info.data.toList.set k v).toArray⟩, ?_, ⟨h1.ha, h1.hc, h1.hx, h1.ok, rfl⟩, Or.inr ⟨by rw [e41]; decide, rfl, e41.symm⟩⟩)
  rw [← ht]
  show un ((stB (Fr.inner f ini)).data.toList.set (plN (Fr.inner f ini).data.toList (2 + k) - 1) v).toArray.toList = _
  rw [hs, un_st]
end Go.Proofs.YtgikdcamppcphaaDoor.Adv
