import Derived.Test.YtdemodhjlbkbeabRF
import Derived.Test.YtdemodhjlbkbeabRN
import Derived.Laws.AppendOwn
import Derived.Laws.AppendOwnNone
import Derived.Lib.ItoaMem
namespace Go.Proofs.Ytdemodhjlbkbeab
open Go.RowKit
set_option linter.unusedVariables false
/-- the document's dict. -/
structure RD where
  seed : Int
  s1 : Nat
  l1 : List Ent
  s2 : Nat
  l2 : List Ent
  ix : Nat
def rover (R : RD) : RD := if 0 < R.s2 ∧ R.l1 = [] then ⟨R.seed, R.s2, R.l2, 0, [], 0⟩ else R
def rbegin (R : RD) (s : Nat) : RD := rover ⟨R.seed, R.s1, R.l1, s, [], 0⟩
def inBk (seed : Int) (s b : Nat) (e : Ent) : Bool := hN seed e.1 % s == b
def rstepB (R : RD) (b : Nat) : RD := ⟨R.seed, R.s1, R.l1.filter (fun e => !(inBk R.seed R.s1 b e)), R.s2, R.l2 ++ R.l1.filter (inBk R.seed R.s1 b), b + 1⟩
def rroom (R : RD) : RD := if R.s1 = 0 then ⟨R.seed, 4, R.l1, R.s2, R.l2, R.ix⟩ else if R.s2 = 0 ∧ R.s1 ≤ R.l1.length then rbegin R (2 * R.s1) else R
def rgive (R : RD) : RD := if R.s2 = 0 ∧ 4 < R.s1 ∧ 8 * R.l1.length ≤ R.s1 then rbegin R (upS R.l1.length) else R
def rjoin (R : RD) (e : Ent) : RD := if 0 < R.s2 then ⟨R.seed, R.s1, R.l1, R.s2, R.l2 ++ [e], R.ix⟩ else ⟨R.seed, R.s1, R.l1 ++ [e], R.s2, R.l2, R.ix⟩
/-- the program's and the document's. -/
structure Rel (D : DS) (R : RD) : Prop where
  seed : R.seed = D.seed
  s1 : R.s1 = D.T1.length
  s2 : R.s2 = D.T2.length
  p1 : D.T1.flatten.Perm R.l1
  p2 : D.T2.flatten.Perm R.l2
  ix : D.T2 ≠ [] → R.ix = D.ix
theorem len_pos {T : List (List Ent)} : 0 < T.length ↔ T ≠ [] := List.length_pos_iff
theorem Rel.mv {D : DS} {R : RD} (h : Rel D R) : 0 < R.s2 ↔ D.T2 ≠ [] := by rw [h.s2]; exact len_pos
theorem Rel.c1 {D : DS} {R : RD} (h : Rel D R) : cnt D.T1 = R.l1.length := h.p1.length_eq
theorem Rel.c2 {D : DS} {R : RD} (h : Rel D R) : cnt D.T2 = R.l2.length := h.p2.length_eq
theorem Rel.over {D : DS} {R : RD} (h : Rel D R) : Rel (endD D) (rover R) := by
  unfold endD rover
  by_cases hc : D.T2 ≠ [] ∧ cnt D.T1 = 0
  · have h0 : R.l1 = [] := List.length_eq_zero_iff.1 (by rw [← h.c1]; exact hc.2)
    rw [if_pos hc, if_pos ⟨h.mv.2 hc.1, h0⟩]
    exact ⟨h.seed, h.s2, rfl, h.p2, List.Perm.refl _, fun e => absurd rfl e⟩
  · have hn : ¬ (0 < R.s2 ∧ R.l1 = []) := fun q => hc ⟨h.mv.1 q.1, by rw [h.c1, q.2]; rfl⟩
    rw [if_neg hc, if_neg hn]; exact h
theorem Rel.begin {D : DS} {R : RD} (h : Rel D R) (s : Nat) : Rel (beginD D s) (rbegin R s) := by
  unfold beginD rbegin
  refine Rel.over ⟨h.seed, h.s1, by simp, h.p1, ?_, fun _ => rfl⟩
  simp
theorem tab_filter (f : Ent → Nat) : ∀ (T : List (List Ent)) (o : Nat), (∀ i (h : i < T.length), ∀ e ∈ T[i], f e = o + i) → ∀ j, T.flatten.filter (fun e => f e == o + j) = T[j]?.getD [] ∧ T.flatten.filter (fun e => !(f e == o + j)) = (T.set j []).flatten
  | [], o, h, j => ⟨rfl, rfl⟩
  | a :: T, o, h, j => by
    have ha : ∀ e ∈ a, f e = o := fun e he => h 0 (by simp) e he
    have hT : ∀ i (hi : i < T.length), ∀ e ∈ T[i], f e = (o + 1) + i := fun i hi e he => by
      have := h (i + 1) (by simpa using hi) e (by simpa using he)
      omega
    have hm : ∀ e ∈ T.flatten, f e ≠ o := fun e he => by
      obtain ⟨b, hb, hk⟩ := List.mem_flatten.1 he
      obtain ⟨i, hi, rfl⟩ := List.mem_iff_getElem.1 hb
      have := hT i hi e hk
      omega
    rw [List.flatten_cons, List.filter_append, List.filter_append]
    cases j with
    | zero =>
      have q1 : a.filter (fun e => f e == o + 0) = a := List.filter_eq_self.2 (fun e he => by simp [ha e he])
      have q2 : T.flatten.filter (fun e => f e == o + 0) = [] := List.filter_eq_nil_iff.2 (fun e he => by simp [hm e he])
      have q3 : a.filter (fun e => !(f e == o + 0)) = [] := List.filter_eq_nil_iff.2 (fun e he => by simp [ha e he])
      have q4 : T.flatten.filter (fun e => !(f e == o + 0)) = T.flatten := List.filter_eq_self.2 (fun e he => by simp [hm e he])
      rw [q1, q2, q3, q4]
      exact ⟨by simp, by simp⟩
    | succ j =>
      obtain ⟨i1, i2⟩ := tab_filter f T (o + 1) hT j
      have e1 : o + (j + 1) = o + 1 + j := by omega
      rw [e1]
      have q1 : a.filter (fun e => f e == o + 1 + j) = [] := List.filter_eq_nil_iff.2 (fun e he => by simp [ha e he]; omega)
      have q3 : a.filter (fun e => !(f e == o + 1 + j)) = a := List.filter_eq_self.2 (fun e he => by simp [ha e he]; omega)
      rw [q1, q3, i1, i2]
      exact ⟨by simp, by simp⟩
theorem wf_filter {seed : Int} {T : List (List Ent)} (h : TWf seed T) (j : Nat) : T.flatten.filter (inBk seed T.length j) = T[j]?.getD [] ∧ T.flatten.filter (fun e => !(inBk seed T.length j e)) = (T.set j []).flatten := by
  have := tab_filter (fun e => hN seed e.1 % T.length) T 0 (fun i hi e he => by rw [Nat.zero_add]; exact h.here i hi e he) j
  rw [Nat.zero_add] at this
  exact this
theorem Rel.bk1 {D : DS} {R : RD} (h : Rel D R) (hD : DInv D) (b : Nat) : (R.l1.filter (inBk R.seed R.s1 b)).Perm (D.T1[b]?.getD []) := by
  rw [h.seed, h.s1, ← (wf_filter hD.wf1 b).1]
  exact (h.p1.filter _).symm
theorem Rel.bk2 {D : DS} {R : RD} (h : Rel D R) (hD : DInv D) (b : Nat) : (R.l2.filter (inBk R.seed R.s2 b)).Perm (D.T2[b]?.getD []) := by
  rw [h.seed, h.s2, ← (wf_filter hD.wf2 b).1]
  exact (h.p2.filter _).symm
theorem Rel.stay {D : DS} {R : RD} (h : Rel D R) (hD : DInv D) (b : Nat) : (R.l1.filter (fun e => !(inBk R.seed R.s1 b e))).Perm (D.T1.set b []).flatten := by
  rw [h.seed, h.s1, ← (wf_filter hD.wf1 b).2]
  exact (h.p1.filter _).symm
/-- where a step of a move stands. -/
structure NextIs (R : RD) (b : Nat) : Prop where
  ge : R.ix ≤ b
  lt : b < R.s1
  low : ∀ i, R.ix ≤ i → i < b → R.l1.filter (inBk R.seed R.s1 i) = []
  hit : R.l1.filter (inBk R.seed R.s1 b) ≠ []
theorem Rel.next {D : DS} {R : RD} (h : Rel D R) (hD : DInv D) (hm : D.T2 ≠ []) : NextIs R (nextB D.T1 D.ix) := by
  obtain ⟨hl, hne⟩ := nextB_hit hD hm
  have hx := h.ix hm
  refine ⟨by rw [hx]; exact nextB_ge _ _, by rw [h.s1]; exact hl, fun i h1 h2 => ?_, fun e => ?_⟩
  · have := h.bk1 hD i
    rw [List.getElem?_eq_getElem (by omega), Option.getD_some, nextB_low D.T1 D.ix i (by omega) h2 (by omega)] at this
    exact this.eq_nil
  · have := h.bk1 hD (nextB D.T1 D.ix)
    rw [List.getElem?_eq_getElem hl, Option.getD_some, e] at this
    exact hne this.symm.eq_nil
theorem Rel.take {D : DS} {R : RD} (h : Rel D R) (hD : DInv D) (hm : D.T2 ≠ []) : Rel (takeD D) (rstepB R (nextB D.T1 D.ix)) := by
  obtain ⟨hl, hne⟩ := nextB_hit hD hm
  have hj : D.T1[nextB D.T1 D.ix]?.getD [] = D.T1[nextB D.T1 D.ix] := by rw [List.getElem?_eq_getElem hl, Option.getD_some]
  have hnd : ((D.T1[nextB D.T1 D.ix] ++ D.T2.flatten).map (·.1)).Nodup := by
    refine List.Sublist.nodup (List.Sublist.map _ ?_) hD.nd
    exact List.Sublist.append_right (List.sublist_flatten_of_mem (List.getElem_mem hl)) _
  obtain ⟨f1, f2, f3⟩ := fold_add D.seed _ _ hD.wf2 hm hnd
  refine ⟨h.seed, by show R.s1 = (D.T1.set _ _).length; rw [List.length_set]; exact h.s1, ?_, (h.stay hD _).symm, ?_, fun _ => rfl⟩
  · show R.s2 = (List.foldl _ D.T2 (D.T1[nextB D.T1 D.ix]?.getD [])).length
    rw [hj, f2]; exact h.s2
  · show (List.foldl _ D.T2 (D.T1[nextB D.T1 D.ix]?.getD [])).flatten.Perm (R.l2 ++ _)
    rw [hj]
    have := h.bk1 hD (nextB D.T1 D.ix)
    rw [hj] at this
    exact f3.trans (List.perm_append_comm.trans (List.Perm.append h.p2 this.symm))
def rstep (D : DS) (R : RD) : RD := if R.s2 = 0 then R else rover (rstepB R (nextB D.T1 D.ix))
theorem Rel.step {D : DS} {R : RD} (h : Rel D R) (hD : DInv D) : Rel (stepD D) (rstep D R) := by
  unfold stepD rstep
  by_cases hm : D.T2 = []
  · rw [if_pos hm, if_pos (by rw [h.s2, hm]; rfl)]; exact h
  · rw [if_neg hm, if_neg (by have := h.mv.2 hm; omega)]
    exact (h.take hD hm).over
theorem nd_one {l : List Ent} (hn : (l.map (·.1)).Nodup) {k : ByteArray} {a b : Int} (h1 : (k, a) ∈ l) (h2 : (k, b) ∈ l) : a = b := by
  induction l with
  | nil => cases h1
  | cons x l ih =>
    rw [List.map_cons, List.nodup_cons] at hn
    rcases List.mem_cons.1 h1 with e1 | h1
    · rcases List.mem_cons.1 h2 with e2 | h2
      · rw [← e1] at e2; exact (Prod.mk.inj e2).2.symm
      · exact absurd (List.mem_map.2 ⟨_, h2, by rw [← e1]⟩) hn.1
    · rcases List.mem_cons.1 h2 with e2 | h2
      · exact absurd (List.mem_map.2 ⟨_, h1, by rw [← e2]⟩) hn.1
      · exact ih hn.2 h1 h2
theorem rest_of {l R : List Ent} (hn : (l.map (·.1)).Nodup) {k : ByteArray} {v0 : Int} (hp : l.Perm ((k, v0) :: R)) {j : Nat} (hj : j < l.length) (hk : l[j].1 = k) : R.Perm (l.take j ++ l.drop (j + 1)) := by
  have h2 : l.Perm (l[j] :: (l.take j ++ l.drop (j + 1))) := by
    conv => lhs; rw [← List.take_append_drop j l, List.drop_eq_getElem_cons hj]
    exact List.perm_middle
  subst hk
  have hv : v0 = l[j].2 := nd_one hn (hp.mem_iff.2 (by simp)) (List.getElem_mem hj)
  have h3 : l.Perm ((l[j].1, v0) :: (l.take j ++ l.drop (j + 1))) := by rw [hv]; exact h2
  exact List.Perm.cons_inv (hp.symm.trans h3)
theorem nd1 {D : DS} {R : RD} (h : Rel D R) (hD : DInv D) : (R.l1.map (·.1)).Nodup := by
  have := hD.nd
  unfold DS.all at this
  rw [List.map_append] at this
  exact ((h.p1.map _).nodup_iff).1 (List.nodup_append.1 this).1
theorem nd2 {D : DS} {R : RD} (h : Rel D R) (hD : DInv D) : (R.l2.map (·.1)).Nodup := by
  have := hD.nd
  unfold DS.all at this
  rw [List.map_append] at this
  exact ((h.p2.map _).nodup_iff).1 (List.nodup_append.1 this).2.1
theorem put_rest {l : List Ent} {j : Nat} (hj : j < l.length) (x : Ent) : (l.set j x).Perm (x :: (l.take j ++ l.drop (j + 1))) := by
  rw [List.set_eq_take_append_cons_drop, if_pos hj]
  exact List.perm_middle
theorem Rel.put1 {D : DS} {R : RD} (h : Rel D R) (hD : DInv D) {k : ByteArray} (v : Int) (hk : thas D.seed D.T1 k = true) {j : Nat} (hj : j < R.l1.length) (hjk : R.l1[j].1 = k) : Rel ⟨D.seed, tput D.seed D.T1 k v, D.T2, D.ix⟩ ⟨R.seed, R.s1, R.l1.set j (k, v), R.s2, R.l2, R.ix⟩ := by
  obtain ⟨v0, Q, q1, q2, q3⟩ := tput_wf hD.wf1 hk v
  refine ⟨h.seed, by show R.s1 = (tput _ _ _ _).length; rw [tput_len]; exact h.s1, h.s2, ?_, h.p2, h.ix⟩
  exact q3.trans ((List.Perm.cons _ (rest_of (nd1 h hD) (h.p1.symm.trans q2) hj hjk)).trans (put_rest hj _).symm)
theorem Rel.put2 {D : DS} {R : RD} (h : Rel D R) (hD : DInv D) {k : ByteArray} (v : Int) (hk : thas D.seed D.T2 k = true) {j : Nat} (hj : j < R.l2.length) (hjk : R.l2[j].1 = k) : Rel ⟨D.seed, D.T1, tput D.seed D.T2 k v, D.ix⟩ ⟨R.seed, R.s1, R.l1, R.s2, R.l2.set j (k, v), R.ix⟩ := by
  obtain ⟨v0, Q, q1, q2, q3⟩ := tput_wf hD.wf2 hk v
  refine ⟨h.seed, h.s1, by show R.s2 = (tput _ _ _ _).length; rw [tput_len]; exact h.s2, h.p1, ?_, fun _ => h.ix (fun e => by rw [e] at hk; cases hk)⟩
  exact q3.trans ((List.Perm.cons _ (rest_of (nd2 h hD) (h.p2.symm.trans q2) hj hjk)).trans (put_rest hj _).symm)
theorem Rel.drop1 {D : DS} {R : RD} (h : Rel D R) (hD : DInv D) {k : ByteArray} (hk : thas D.seed D.T1 k = true) {j : Nat} (hj : j < R.l1.length) (hjk : R.l1[j].1 = k) : Rel (cutD D k) ⟨R.seed, R.s1, R.l1.take j ++ R.l1.drop (j + 1), R.s2, R.l2, R.ix⟩ := by
  obtain ⟨v0, q1, q2⟩ := tdrop_wf hD.wf1 hk
  unfold cutD; rw [if_pos hk]
  exact ⟨h.seed, by show R.s1 = (tdrop _ _ _).length; rw [tdrop_len]; exact h.s1, h.s2, rest_of (nd1 h hD) (h.p1.symm.trans q2) hj hjk, h.p2, h.ix⟩
theorem Rel.drop2 {D : DS} {R : RD} (h : Rel D R) (hD : DInv D) {k : ByteArray} (hn : thas D.seed D.T1 k = false) (hk : thas D.seed D.T2 k = true) {j : Nat} (hj : j < R.l2.length) (hjk : R.l2[j].1 = k) : Rel (cutD D k) ⟨R.seed, R.s1, R.l1, R.s2, R.l2.take j ++ R.l2.drop (j + 1), R.ix⟩ := by
  obtain ⟨v0, q1, q2⟩ := tdrop_wf hD.wf2 hk
  unfold cutD; rw [if_neg (by rw [hn]; exact Bool.false_ne_true)]
  exact ⟨h.seed, h.s1, by show R.s2 = (tdrop _ _ _).length; rw [tdrop_len]; exact h.s2, h.p1, rest_of (nd2 h hD) (h.p2.symm.trans q2) hj hjk, fun _ => h.ix (fun e => by rw [e] at hk; cases hk)⟩
theorem Rel.room {D : DS} {R : RD} (h : Rel D R) : Rel (roomD D) (rroom R) := by
  unfold roomD rroom
  by_cases h1 : D.T1 = []
  · rw [if_pos h1, if_pos (show R.s1 = 0 by rw [h.s1, h1]; rfl)]
    have hp := h.p1
    rw [h1] at hp
    exact ⟨h.seed, by simp, h.s2, by simpa using hp, h.p2, h.ix⟩
  · rw [if_neg h1, if_neg (show ¬ R.s1 = 0 by have := len_pos.2 h1; rw [h.s1]; omega)]
    by_cases h2 : D.T2 = [] ∧ D.T1.length ≤ cnt D.T1
    · rw [if_pos h2, if_pos (show R.s2 = 0 ∧ R.s1 ≤ R.l1.length from ⟨by rw [h.s2, h2.1]; rfl, by rw [h.s1, ← h.c1]; exact h2.2⟩), h.s1]
      exact h.begin _
    · rw [if_neg h2, if_neg (show ¬ (R.s2 = 0 ∧ R.s1 ≤ R.l1.length) from fun q => h2 ⟨List.length_eq_zero_iff.1 (by rw [← h.s2]; exact q.1), by rw [← h.s1, h.c1]; exact q.2⟩)]
      exact h
theorem Rel.give {D : DS} {R : RD} (h : Rel D R) : Rel (giveD D) (rgive R) := by
  unfold giveD rgive
  have e2 : R.s2 = 0 ↔ D.T2 = [] := by rw [h.s2]; exact List.length_eq_zero_iff
  by_cases hc : R.s2 = 0 ∧ 4 < R.s1 ∧ 8 * R.l1.length ≤ R.s1
  · rw [if_pos hc, if_neg, ← h.c1]
    · exact h.begin _
    · rw [← h.s1, h.c1]
      rintro (q | q | q)
      · exact q (e2.1 hc.1)
      · omega
      · omega
  · rw [if_neg hc, if_pos]
    · exact h
    · rw [← h.s1, h.c1]
      by_cases q1 : D.T2 = []
      · right
        by_cases q2 : R.s1 ≤ 4
        · exact Or.inl q2
        · right
          have : ¬ 8 * R.l1.length ≤ R.s1 := fun q3 => hc ⟨e2.2 q1, by omega, q3⟩
          omega
      · exact Or.inl q1
theorem Rel.fresh {D : DS} {R : RD} (h : Rel D R) (hD : DInv D) (hr : Room D) {k : ByteArray} (v : Int) (h1 : thas D.seed D.T1 k = false) (h2 : thas D.seed D.T2 k = false) : Rel (if D.T2 ≠ [] then ⟨D.seed, D.T1, tadd D.seed D.T2 k v, D.ix⟩ else ⟨D.seed, tadd D.seed D.T1 k v, D.T2, D.ix⟩) (rjoin R (k, v)) := by
  unfold rjoin
  by_cases hm : D.T2 ≠ []
  · rw [if_pos hm, if_pos (h.mv.2 hm)]
    obtain ⟨q1, q2⟩ := tadd_wf hD.wf2 hm h2 v
    exact ⟨h.seed, h.s1, by show R.s2 = (tadd _ _ _ _).length; rw [tadd_len]; exact h.s2, h.p1, (q2.trans (List.Perm.cons _ h.p2)).trans (List.perm_append_singleton _ _).symm, fun _ => h.ix hm⟩
  · rw [if_neg hm, if_neg (fun q => hm (h.mv.1 q))]
    obtain ⟨q1, q2⟩ := tadd_wf hD.wf1 (hr.a (Decidable.not_not.1 hm)).1 h1 v
    exact ⟨h.seed, by show R.s1 = (tadd _ _ _ _).length; rw [tadd_len]; exact h.s1, h.s2, (q2.trans (List.Perm.cons _ h.p1)).trans (List.perm_append_singleton _ _).symm, h.p2, h.ix⟩
/-- rising texts. -/
def SortedB (l : List ByteArray) : Prop := l.Pairwise fun a b => lessB b a = false
theorem sorted_one : ∀ {a b : List ByteArray}, a.Perm b → SortedB a → SortedB b → a = b
  | [], b, hp, _, _ => hp.nil_eq
  | x :: a, [], hp, _, _ => hp.eq_nil
  | x :: a, y :: b, hp, ha, hb => by
    obtain ⟨a1, a2⟩ := List.pairwise_cons.1 ha
    obtain ⟨b1, b2⟩ := List.pairwise_cons.1 hb
    have e : x = y := by
      rcases List.mem_cons.1 (hp.mem_iff.1 (List.mem_cons_self (a := x) (l := a))) with e | e
      · exact e
      · rcases List.mem_cons.1 (hp.mem_iff.2 (List.mem_cons_self (a := y) (l := b))) with e2 | e2
        · exact e2.symm
        · exact less_tri (b1 x e) (a1 y e2) 
    subst e
    rw [sorted_one (List.Perm.cons_inv hp) a2 b2]
theorem Rising.sorted {es : List Ent} (h : Rising es) : SortedB (es.map (·.1)) := by
  unfold SortedB
  rw [List.pairwise_map]
  exact h.imp (fun q => less_asym q)
end Go.Proofs.Ytdemodhjlbkbeab
namespace Go.Proofs.Ytdemodhjlbkbeab
open Go.RowKit
set_option linter.unusedVariables false
abbrev dval (seed : Int) (s1 : Nat) (v1 : Value) (s2 : Nat) (v2 : Value) (ix : Nat) : Value := .agg #[.int .i64 seed, .int .i64 (s1 : Int), v1, .int .i64 (s2 : Int), v2, .int .i64 (ix : Int)]
/-- a row of items in memory. -/
def IRow (Q : Nat → Prop) (w : World) (v : Value) (l : List Ent) : Prop := (l = [] ∧ v = .slice none 0 0) ∨ ∃ g cap, v = .slice (some ⟨g, 0, none⟩) l.length cap ∧ Q g ∧ l.length ≤ cap ∧ g < w.heap.size ∧ ∀ j u, (flat l)[j]? = some u → w.cell? ⟨g, j, none⟩ = some u
theorem IRow.form {Q : Nat → Prop} {w : World} {v : Value} {l : List Ent} (h : IRow Q w v l) : ∃ P c, v = .slice P l.length c := by
  rcases h with ⟨rfl, rfl⟩ | ⟨g, cap, rfl, _⟩
  · exact ⟨_, _, rfl⟩
  · exact ⟨_, _, rfl⟩
theorem IRow.on {Q : Nat → Prop} {w w' : World} {v : Value} {l : List Ent} (h : IRow Q w v l) (hb : Below w.heap.size w w') : IRow Q w' v l := by
  rcases h with h | ⟨g, cap, e, hq, hcp, hg, hc⟩
  · exact Or.inl h
  · exact Or.inr ⟨g, cap, e, hq, hcp, Nat.lt_of_lt_of_le hg hb.size, fun j u hu => cell_on (hc j u hu) hb⟩
theorem IRow.cells {Q : Nat → Prop} {w : World} {v : Value} {l : List Ent} (h : IRow Q w v l) {j : Nat} (hj : j < l.length) : ∃ g c, v = .slice (some ⟨g, 0, none⟩) l.length c ∧ w.cell? ⟨g, j * 2, none⟩ = some (.string l[j].1) ∧ w.cell? ⟨g, j * 2 + 1, none⟩ = some (.int .i64 l[j].2) := by
  rcases h with ⟨rfl, _⟩ | ⟨g, cap, e, hq, hcp, hg, hc⟩
  · simp at hj
  · obtain ⟨q1, q2⟩ := flat_get l j hj
    exact ⟨g, cap, e, hc _ _ q1, hc _ _ q2⟩
theorem IRow.of_own {Q : Nat → Prop} {w : World} {base : Nat} {v : Value} {l : List Ent} (h : w.ownsRow base 63 2 v l.length (flat l)) (hQ : ∀ q, base ≤ q → Q q) : IRow Q w v l := by
  rcases h.2 with ⟨rfl, h0⟩ | ⟨g, cap, cur, rfl, hb, hg, hcp, _⟩
  · exact Or.inl ⟨List.length_eq_zero_iff.1 h0, rfl⟩
  · refine Or.inr ⟨g, cap, rfl, hQ g hb, hcp, row_lt hg, fun j u hu => ?_⟩
    have := World.ownsRow.cells h (g := g) rfl j u hu
    rw [Lib.add_plain] at this
    simpa using this
theorem IRow.only {Q : Nat → Prop} {b : Nat} {w w' : World} {v : Value} {l : List Ent} (h : IRow (fun q => Q q ∧ q ≠ b) w v l) (ho : Only w w' b) : IRow Q w' v l := by
  rcases h with h | ⟨g, cap, e, hq, hcp, hg, hc⟩
  · exact Or.inl h
  · exact Or.inr ⟨g, cap, e, hq.1, hcp, by rw [ho.size]; exact hg, fun j u hu => (World.cell?_of_block (a := ⟨g, j, none⟩) (ho.other g hq.2)).trans (hc j u hu)⟩
theorem IRow.ne {Q : Nat → Prop} {b : Nat} {w : World} {v : Value} {l : List Ent} (h : IRow Q w v l) (hb : w.heap.size ≤ b) : IRow (fun q => Q q ∧ q ≠ b) w v l := by
  rcases h with h | ⟨g, cap, e, hq, hcp, hg, hc⟩
  · exact Or.inl h
  · exact Or.inr ⟨g, cap, e, ⟨hq, by omega⟩, hcp, hg, hc⟩
/-- a whole struct stored. -/
def st6 (w : World) (b : Nat) (v0 v1 v2 v3 v4 v5 : Value) : World := (((((w.setCell ⟨b, 0, none⟩ v0).setCell ⟨b, 1, none⟩ v1).setCell ⟨b, 2, none⟩ v2).setCell ⟨b, 3, none⟩ v3).setCell ⟨b, 4, none⟩ v4).setCell ⟨b, 5, none⟩ v5
theorem st6_only (w : World) (b : Nat) (v0 v1 v2 v3 v4 v5 : Value) : Only w (st6 w b v0 v1 v2 v3 v4 v5) b := ((((((Only.refl w b).set 0 v0).set 1 v1).set 2 v2).set 3 v3).set 4 v4).set 5 v5
theorem st6_row {w : World} {b T : Nat} {o0 o1 o2 o3 o4 o5 : Value} (h : w.heap[b]? = some (.cells #[o0, o1, o2, o3, o4, o5] T)) (v0 v1 v2 v3 v4 v5 : Value) : (st6 w b v0 v1 v2 v3 v4 v5).heap[b]? = some (.cells #[v0, v1, v2, v3, v4, v5] T) := by
  have h0 := heap_setCell_same w b 0 _ _ v0 h
  have h1 := heap_setCell_same _ b 1 _ _ v1 h0
  have h2 := heap_setCell_same _ b 2 _ _ v2 h1
  have h3 := heap_setCell_same _ b 3 _ _ v3 h2
  have h4 := heap_setCell_same _ b 4 _ _ v4 h3
  have h5 := heap_setCell_same _ b 5 _ _ v5 h4
  exact h5
/-- the document's dict as a value. -/
def RV (Q : Nat → Prop) (w : World) (v : Value) (R : RD) : Prop := ∃ v1 v2, v = dval R.seed R.s1 v1 R.s2 v2 R.ix ∧ IRow Q w v1 R.l1 ∧ IRow Q w v2 R.l2
theorem RV.on {Q : Nat → Prop} {w w' : World} {v : Value} {R : RD} (h : RV Q w v R) (hb : Below w.heap.size w w') : RV Q w' v R := by
  obtain ⟨v1, v2, e, h1, h2⟩ := h
  exact ⟨v1, v2, e, h1.on hb, h2.on hb⟩
theorem fin6 {Q : Nat → Prop} {w2 : World} {b : Nat} {o0 o1 o2 o3 o4 o5 : Value} {U1 U2 : Option Addr} {d1 d2 : Nat} {R' : RD} (hr : w2.heap[b]? = some (.cells #[o0, o1, o2, o3, o4, o5] 29)) (h1 : IRow (fun q => Q q ∧ q ≠ b) w2 (.slice U1 R'.l1.length d1) R'.l1) (h2 : IRow (fun q => Q q ∧ q ≠ b) w2 (.slice U2 R'.l2.length d2) R'.l2) :
    ∃ W, W = st6 w2 b (.int .i64 R'.seed) (.int .i64 (R'.s1 : Int)) (.slice U1 R'.l1.length d1) (.int .i64 (R'.s2 : Int)) (.slice U2 R'.l2.length d2) (.int .i64 (R'.ix : Int)) ∧ W.heap[b]? = some (.cells #[.int .i64 R'.seed, .int .i64 (R'.s1 : Int), .slice U1 R'.l1.length d1, .int .i64 (R'.s2 : Int), .slice U2 R'.l2.length d2, .int .i64 (R'.ix : Int)] 29) ∧ RV Q W (dval R'.seed R'.s1 (.slice U1 R'.l1.length d1) R'.s2 (.slice U2 R'.l2.length d2) R'.ix) R' ∧ Only w2 W b :=
  ⟨_, rfl, st6_row hr _ _ _ _ _ _, ⟨_, _, rfl, h1.only (st6_only ..), h2.only (st6_only ..)⟩, st6_only ..⟩
set_option maxHeartbeats 1000000 in
set_option maxRecDepth 100000 in
theorem moving_any (seed : Int) (s1 : Nat) (v1 : Value) (s2 : Nat) (v2 : Value) (ix : Nat) (w : World) : Calls Try.prog 24 #[dval seed s1 v1 s2 v2 ix] w fun e w' => e = .returned (.bool (decide (0 < s2))) ∧ Below w.heap.size w w' := by
  have HB : Hid (Below w.heap.size w (w.alloc (.cells #[.int .i64 seed, .int .i64 (s1 : Int), v1, .int .i64 (s2 : Int), v2, .int .i64 (ix : Int)] 29))) := (Below.refl _ _).alloc (Nat.le_refl _) _
  go_enter Try.func24, Try.ntmps24
  go_wp2
  go_returns
  exact ⟨by simp, HB.out⟩
set_option maxHeartbeats 1000000 in
set_option maxRecDepth 100000 in
theorem over_any (seed : Int) (s1 : Nat) (P1 : Option Addr) (n1 c1 : Nat) (s2 : Nat) (P2 : Option Addr) (n2 c2 : Nat) (ix : Nat) (w : World) : Calls Try.prog 35 #[dval seed s1 (.slice P1 n1 c1) s2 (.slice P2 n2 c2) ix] w fun e w' => e = .returned (if 0 < s2 ∧ n1 = 0 then dval seed s2 (.slice P2 n2 c2) 0 (.slice none 0 0) 0 else dval seed s1 (.slice P1 n1 c1) s2 (.slice P2 n2 c2) ix) ∧ Below w.heap.size w w' := by
  go_enter Try.func35, Try.ntmps35
  by_cases h2 : 0 < s2
  · by_cases h1 : n1 = 0
    · subst h1
      go_wp2
      go_returns
      refine ⟨by simp, ?_⟩
      repeat (refine Below.alloc ?_ (by simp <;> omega) _)
      exact Below.refl _ _
    · have h1' : ((n1 : Int) == 0) = false := by simpa using h1
      go_wp2
      go_returns
      refine ⟨by simp, ?_⟩
      repeat (refine Below.alloc ?_ (by simp <;> omega) _)
      exact Below.refl _ _
  · go_wp2
    go_returns
    refine ⟨by simp, ?_⟩
    repeat (refine Below.alloc ?_ (by simp <;> omega) _)
    exact Below.refl _ _
theorem Over_any (Q : Nat → Prop) (v : Value) (R : RD) (w : World) (h : RV Q w v R) : Calls Try.prog 35 #[v] w fun e w' => ∃ v', e = .returned v' ∧ RV Q w' v' (rover R) ∧ Below w.heap.size w w' := by
  obtain ⟨v1, v2, rfl, h1, h2⟩ := h
  obtain ⟨P1, c1, rfl⟩ := h1.form
  obtain ⟨P2, c2, rfl⟩ := h2.form
  refine (over_any _ _ _ _ _ _ _ _ _ _ _).mono ?_
  rintro e w' ⟨rfl, hb⟩
  refine ⟨_, rfl, ?_, hb⟩
  unfold rover
  by_cases hc : 0 < R.s2 ∧ R.l1 = []
  · rw [if_pos hc, if_pos ⟨hc.1, by rw [hc.2]; rfl⟩]
    exact ⟨_, _, rfl, h2.on hb, Or.inl ⟨rfl, rfl⟩⟩
  · rw [if_neg hc, if_neg (fun q => hc ⟨q.1, List.length_eq_zero_iff.1 q.2⟩)]
    exact ⟨_, _, rfl, h1.on hb, h2.on hb⟩
set_option maxHeartbeats 1000000 in
set_option maxRecDepth 100000 in
theorem Begin_any (Q : Nat → Prop) (v : Value) (R : RD) (s : Nat) (w : World) (h : RV Q w v R) : Calls Try.prog 25 #[v, .int .i64 (s : Int)] w fun e w' => ∃ v', e = .returned v' ∧ RV Q w' v' (rbegin R s) ∧ Below w.heap.size w w' := by
  obtain ⟨v1, v2, rfl, h1, h2⟩ := h
  obtain ⟨P1, c1, rfl⟩ := h1.form
  obtain ⟨P2, c2, rfl⟩ := h2.form
  have HRV : Hid (∀ W, Below w.heap.size w W → RV (fun q => Q q ∧ q ≠ w.heap.size + 1) W (dval R.seed R.s1 (.slice P1 R.l1.length c1) s (.slice none 0 0) 0) ⟨R.seed, R.s1, R.l1, s, [], 0⟩) := fun W hb => ⟨_, _, rfl, (h1.ne (by omega)).on hb, Or.inl ⟨rfl, rfl⟩⟩
  clear h1 h2
  have HOV : Hid (∀ W, Below w.heap.size w W → _) := fun W hb => Over_any (fun q => Q q ∧ q ≠ w.heap.size + 1) _ _ W (HRV.out W hb)
  go_enter Try.func25, Try.ntmps25
  go_wp2_with fail
  refine (show Calls _ _ _ _ _ from HOV.out _ ?b1).mono ?_
  case b1 =>
    repeat (refine Below.alloc ?_ (by simp <;> omega) _)
    exact Below.refl _ _
  rintro e w2 ⟨v', rfl, hv, hb⟩
  obtain ⟨u1, u2, rfl, r1, r2⟩ := id hv
  obtain ⟨U1, d1, rfl⟩ := r1.form
  obtain ⟨U2, d2, rfl⟩ := r2.form
  have HV1 : Hid _ := r1
  have HV2 : Hid _ := r2
  have hr := keep_row (one_alloc (w.alloc _) (.cells #[.int .i64 0, .int .i64 0, .slice none 0 0, .int .i64 0, .slice none 0 0, .int .i64 0] 29)) hb
  have hr2 : w2.heap[w.heap.size + 1]? = some (.cells #[.int .i64 0, .int .i64 0, .slice none 0 0, .int .i64 0, .slice none 0 0, .int .i64 0] 29) := by simpa using hr
  have HR : Hid _ := hr2
  obtain ⟨e0, e1, e2, e3, e4, e5, ef⟩ := row6 hr2
  have HB : Hid (Below w.heap.size w w2) := by
    refine Below.trans ?_ (hb.mono (by simp <;> omega))
    repeat (refine Below.alloc ?_ (by simp <;> omega) _)
    exact Below.refl _ _
  have HE : Hid (rbegin R s = rover ⟨R.seed, R.s1, R.l1, s, [], 0⟩) := rfl
  clear hv r1 r2 hr hr2 hb
  generalize rover ⟨R.seed, R.s1, R.l1, s, [], 0⟩ = R' at *
  go_wp2
  obtain ⟨W, hW, hrw, hrv, how⟩ := fin6 HR.out HV1.out HV2.out
  change bodyPost _ _ _ _ _ (st6 w2 _ _ _ _ _ _ _)
  rw [← hW]
  have HRV2 : Hid _ := hrv
  have HOW : Hid _ := how
  obtain ⟨e0, e1, e2, e3, e4, e5, ef⟩ := row6 hrw
  clear hW hrw hrv how
  refine bodyPost_ret (v := dval R'.seed R'.s1 (.slice U1 R'.l1.length d1) R'.s2 (.slice U2 R'.l2.length d2) R'.ix) (by simp [results, Try.results25, go_sem, e0, e1, e2, e3, e4, e5]) rfl ?_
  refine ⟨_, rfl, ?_, ?_⟩
  · rw [HE.out]; exact HRV2.out
  · exact HB.out.trans (HOW.out.below (by omega))
set_option maxHeartbeats 1000000 in
set_option maxRecDepth 100000 in
theorem at_any (Q : Nat → Prop) (s : Nat) (v : Value) (l : List Ent) (hl : l.length ≤ 4398046511104) (k : ByteArray) (w : World) (h : IRow Q w v l) : Calls Try.prog 23 #[.agg #[.int .i64 (s : Int), v], .string k] w fun e w' => Below w.heap.size w w' ∧ ((e = .returned (.int .i64 (-1)) ∧ k ∉ l.map (·.1)) ∨ ∃ j : Nat, ∃ hj : j < l.length, e = .returned (.int .i64 (j : Int)) ∧ l[j].1 = k) := by
  obtain ⟨P, c, rfl⟩ := h.form
  have HI : Hid (IRow Q w _ l) := h
  clear h
  go_enter Try.func23, Try.ntmps23
  go_wp2
  go_loopw [5] (fun ci wr => wr = w.alloc (.cells #[.int .i64 (s : Int), .slice P l.length c] 27) ∧ ∃ j : Nat, j ≤ l.length ∧ ci = .int .i64 (j : Int) ∧ ∀ t (ht : t < l.length), t < j → l[t].1 ≠ k) (fun ci _ => l.length - (intOf ci).toNat)
  case atStart => exact ⟨rfl, 0, Nat.zero_le _, rfl, fun t _ h => by omega⟩
  case round =>
    obtain ⟨rfl, j, hj, rfl, hno⟩ := hrel
    have HB : Hid (Below w.heap.size w (w.alloc (.cells #[.int .i64 (s : Int), .slice P l.length c] 27))) := (Below.refl _ _).alloc (Nat.le_refl _) _
    have HNO : Hid _ := hno
    clear hno
    by_cases hlt : j < l.length
    · obtain ⟨g, c', hf, hc1, hc2⟩ := HI.out.cells hlt
      obtain ⟨rfl, _, rfl⟩ : P = some ⟨g, 0, none⟩ ∧ True ∧ c = c' := by injection hf with h1 h2 h3; exact ⟨h1, trivial, h3⟩
      have hcj := cell_on hc1 HB.out
      have hz3 : (0 : Int) ≤ (j : Int) := by omega
      have hz4 : (j : Int) < (l.length : Int) := by omega
      clear hc1 hc2 hf
      by_cases heq : l[j].1 = k
      · have hsame : (l[j].1.toList == k.toList) = true := by rw [heq]; simp
        have HEQ : Hid _ := heq
        clear heq
        obtain ⟨X, hX⟩ : ∃ X, l[j].1 = X := ⟨_, rfl⟩
        rw [hX] at hsame hcj
        have HX : Hid _ := hX
        clear hX
        go_wp2
        go_returns
        exact ⟨HB.out, Or.inr ⟨j, hlt, rfl, HEQ.out⟩⟩
      · have hother : (l[j].1.toList == k.toList) = false := str_other (fun e => heq (ByteArray.ext (Array.toList_inj.1 e)))
        have HN2 : Hid (∀ t (ht : t < l.length), t < j + 1 → l[t].1 ≠ k) := fun t ht h1 => by
          rcases Nat.lt_or_ge t j with h2 | h2
          · exact HNO.out t ht h2
          · have : t = j := by omega
            subst this; exact heq
        have hjw : IntKind.i64.wrap ((j : Int) + 1) = (j : Int) + 1 := by rw [IntKind.wrap_i64] <;> omega
        clear heq
        generalize l[j].1 = X at *
        go_wp2
        go_roundw
        case rel => exact ⟨by trivial, j + 1, hlt, by simp, HN2.out⟩
        case measure => simp [intOf]; omega
    · have HR : Hid (k ∉ l.map (·.1)) := fun hm => by
        obtain ⟨x, hx, e⟩ := List.mem_map.1 hm
        obtain ⟨t, ht, rfl⟩ := List.mem_iff_getElem.1 hx
        exact HNO.out t ht (by omega) e
      go_wp2
      go_returns
      exact ⟨HB.out, Or.inl ⟨rfl, HR.out⟩⟩
theorem hash_nat (seed : Int) (k : ByteArray) : hashT seed k = ((hN seed k : Nat) : Int) ∧ hN seed k < 9223372036854775808 := by
  have hx : ∀ a b : Int, 0 ≤ bits .xor .u64 a b ∧ bits .xor .u64 a b < 18446744073709551616 := fun a b => by
    show 0 ≤ IntKind.u64.wrap _ ∧ IntKind.u64.wrap _ < _
    rw [wrapU]; omega
  have hb : 0 ≤ hashT seed k ∧ hashT seed k < 9223372036854775808 := by
    unfold hashT hfin
    have := hx (hmix (hfold (hseed seed) k.data.toList)) (hmix (hfold (hseed seed) k.data.toList) / 536870912)
    generalize bits .xor .u64 (hmix (hfold (hseed seed) k.data.toList)) (hmix (hfold (hseed seed) k.data.toList) / 536870912) = X at *
    unfold wrap64; omega
  unfold hN
  rw [BitVec.toNat_ofInt]
  omega
set_option maxHeartbeats 1000000 in
set_option maxRecDepth 100000 in
theorem bucket_ref (seed : Int) (s1 : Nat) (v1 : Value) (s2 : Nat) (v2 : Value) (ix : Nat) (k : ByteArray) (hk : k.size ≤ 281474976710656) (n : Nat) (hn : 0 < n) (hn2 : n ≤ 4398046511104) (w : World) : Calls Try.prog 47 #[dval seed s1 v1 s2 v2 ix, .string k, .int .i64 (n : Int)] w fun e w' => e = .returned (.int .i64 ((hN seed k % n : Nat) : Int)) ∧ Below w.heap.size w w' := by
  have HB : Hid (Below w.heap.size w (w.alloc (.cells #[.int .i64 seed, .int .i64 (s1 : Int), v1, .int .i64 (s2 : Int), v2, .int .i64 (ix : Int)] 29))) := (Below.refl _ _).alloc (Nat.le_refl _) _
  have HH : Hid (∀ W, _) := fun W => rHash_any seed k hk W
  obtain ⟨h1, h2⟩ := hash_nat seed k
  rw [h1] at HH
  have hm : Int.tmod ((hN seed k : Nat) : Int) (n : Int) = ((hN seed k % n : Nat) : Int) := by rw [Int.tmod_eq_emod_of_nonneg (by omega)]; norm_cast
  have hlt := Nat.mod_lt (hN seed k) hn
  have hne : ((n : Int) == 0) = false := by simp; omega
  clear h1
  generalize hN seed k % n = m at *
  generalize hN seed k = H at *
  go_enter Try.func47, Try.ntmps47
  go_wp2_with fail
  refine (show Calls _ _ _ _ _ from HH.out _).mono ?_
  rintro e w1 ⟨rfl, rfl⟩
  go_wp2
  go_returns
  exact ⟨by first | rfl | simp [hm], HB.out⟩
set_option maxHeartbeats 1000000 in
set_option maxRecDepth 100000 in
theorem rNew_any (seed : Int) (w : World) : Calls Try.prog 5 #[.int .i64 seed] w fun e w' => e = .returned (dval seed 0 (.slice none 0 0) 0 (.slice none 0 0) 0) ∧ Below w.heap.size w w' := by
  go_enter Try.func5, Try.ntmps5
  go_wp2
  go_returns
  refine ⟨rfl, ?_⟩
  repeat (refine Below.alloc ?_ (by simp <;> omega) _)
  exact Below.refl _ _
set_option maxHeartbeats 1000000 in
set_option maxRecDepth 100000 in
theorem rLen_any (seed : Int) (s1 : Nat) (P1 : Option Addr) (n1 c1 : Nat) (s2 : Nat) (P2 : Option Addr) (n2 c2 : Nat) (ix : Nat) (hn : n1 + n2 ≤ 4398046511104) (w : World) : Calls Try.prog 44 #[dval seed s1 (.slice P1 n1 c1) s2 (.slice P2 n2 c2) ix] w fun e w' => e = .returned (.int .i64 ((n1 + n2 : Nat) : Int)) ∧ Below w.heap.size w w' := by
  have hw : IntKind.i64.wrap ((n1 : Int) + (n2 : Int)) = ((n1 + n2 : Nat) : Int) := by rw [IntKind.wrap_i64] <;> omega
  go_enter Try.func44, Try.ntmps44
  go_wp2
  go_returns
  refine ⟨by first | rfl | simp [hw], ?_⟩
  repeat (refine Below.alloc ?_ (by simp <;> omega) _)
  exact Below.refl _ _
set_option maxHeartbeats 1000000 in
set_option maxRecDepth 100000 in
theorem rTables_any (seed : Int) (s1 : Nat) (P1 : Option Addr) (n1 c1 : Nat) (s2 : Nat) (P2 : Option Addr) (n2 c2 : Nat) (ix : Nat) (w : World) : Calls Try.prog 43 #[dval seed s1 (.slice P1 n1 c1) s2 (.slice P2 n2 c2) ix] w fun e w' => e = .returned (if 0 < s2 then .tuple #[.int .i64 (s1 : Int), .int .i64 (s2 : Int), .int .i64 (ix : Int)] else .tuple #[.int .i64 (s1 : Int), .int .i64 0, .int .i64 (-1)]) ∧ Below w.heap.size w w' := by
  go_enter Try.func43, Try.ntmps43
  by_cases h2 : 0 < s2
  · go_wp2
    go_quiet (fail)
    go_wp2
    go_returns
    refine ⟨by simp, below_dn ?_ _⟩
    repeat (refine Below.alloc ?_ (by simp <;> omega) _)
    exact Below.refl _ _
  · go_wp2
    go_returns
    refine ⟨by simp, ?_⟩
    repeat (refine Below.alloc ?_ (by simp <;> omega) _)
    exact Below.refl _ _
end Go.Proofs.Ytdemodhjlbkbeab
namespace Go.Proofs.Ytdemodhjlbkbeab
open Go.RowKit
set_option linter.unusedVariables false
theorem infoIt : (Try.prog.info? 63).map (fun i => (i.zero, i.size, i.bytes)) = some (some (.agg #[.string ⟨#[]⟩, .int .i64 0]), 2, 24) := by kernel_rfl
theorem flat_sgl (es : List Ent) : ∀ u ∈ flat es, u.oneCell' = true := by
  intro u hu
  unfold flat at hu
  obtain ⟨e, _, he⟩ := List.mem_flatMap.1 hu
  simp at he
  rcases he with rfl | rfl <;> rfl
theorem wpList_append_from {w : World} {ops : Array Oper} {rest : List Oper} {o : Oper} {a : Act} {Q' : Exit → Act → World → Prop} (hg : o.guard = none) (s x : Operand)
    (hop : o.op = Op.call { callee := Callee.builtin Builtin.append, args := #[s, x], argTypes := #[25, 25] })
    (base : Nat) (v : Value) (xs : List Ent) (n : Nat) (hn : n = xs.length) (hs : a.eval s = v) (hown : w.ownsRow base 63 2 v n (flat xs)) (ad : Addr) (m c : Nat) (l : List Ent) (hm : m = l.length) (hx : a.eval x = .slice (some ad) m c) (hr : ∀ j u, (flat l)[j]? = some u → w.cell? (ad.add j) = some u)
    (N : Nat) (hN : N = xs.length + l.length) (hl : xs.length + l.length ≤ 4398046512128) (hb : base ≤ w.heap.size)
    (h : ∀ v' w', w'.ownsRow base 63 2 v' N (flat (xs ++ l)) → w.grownBy w' v.ownBlock → wpList Try.prog ops Q' rest (a.put o.dst v') w') :
    wpList Try.prog ops Q' (o :: rest) a w := by
  subst hn
  subst hN
  subst hm
  obtain ⟨i0, hi, hz0, hz1, hz2⟩ := info_parts infoIt
  refine wpList_append_own w hg s x 25 hop base 63 i0 (.agg #[.string ⟨#[]⟩, .int .i64 0]) 2 24 Try.underlying25 hi hz0 hz1 hz2 rfl (by decide) v xs.length (flat xs) hs hown ad l.length c (flat l) hx (flat_len l) hr (flat_sgl l) (by unfold maxLen; omega) (by omega) hb ?_
  intro v' w' ho hgw hnil
  refine h v' w' ?_ hgw
  rw [flat_app]; exact ho
/-- items behind items. -/
theorem wpList_append_items {w : World} {ops : Array Oper} {rest : List Oper} {o : Oper} {a : Act} {Q' : Exit → Act → World → Prop} (hg : o.guard = none) (s x : Operand)
    (hop : o.op = Op.call { callee := Callee.builtin Builtin.append, args := #[s, x], argTypes := #[25, 25] })
    (base : Nat) (v : Value) (xs : List Ent) (n : Nat) (hn : n = xs.length) (hs : a.eval s = v) (hown : w.ownsRow base 63 2 v n (flat xs)) (Q : Nat → Prop) (r : Value) (l : List Ent) (hx : a.eval x = r) (hr : IRow Q w r l)
    (N : Nat) (hN : N = xs.length + l.length) (hl : xs.length + l.length ≤ 4398046512128) (hb : base ≤ w.heap.size)
    (h : ∀ v' w', w'.ownsRow base 63 2 v' N (flat (xs ++ l)) → w.grownBy w' v.ownBlock → wpList Try.prog ops Q' rest (a.put o.dst v') w') :
    wpList Try.prog ops Q' (o :: rest) a w := by
  subst hn
  subst hN
  obtain ⟨i0, hi, hz0, hz1, hz2⟩ := info_parts infoIt
  rcases hr with ⟨rfl, rfl⟩ | ⟨g, cap, rfl, hq, hcp, hgl, hc⟩
  · refine wpList_append_own_none hg s x 25 hop base 63 i0 2 Try.underlying25 hi v xs.length (flat xs) hs hown hx ?_
    exact h v w (by rw [List.append_nil]; exact hown) ⟨rfl, rfl, rfl, Nat.le_refl _, fun k _ _ => rfl⟩
  · refine wpList_append_own w hg s x 25 hop base 63 i0 (.agg #[.string ⟨#[]⟩, .int .i64 0]) 2 24 Try.underlying25 hi hz0 hz1 hz2 rfl (by decide) v xs.length (flat xs) hs hown ⟨g, 0, none⟩ l.length cap (flat l) hx (flat_len l) ?_ (flat_sgl l) (by unfold maxLen; omega) (by omega) hb ?_
    · intro j u hj
      rw [Lib.add_plain, Nat.zero_add]
      exact hc j u hj
    · intro v' w' ho hgw hnil
      refine h v' w' ?_ hgw
      rw [flat_app]; exact ho
theorem IRow.slc {Q : Nat → Prop} {w : World} {P : Option Addr} {n c : Nat} {l : List Ent} (h : IRow Q w (.slice P n c) l) : n = l.length := by
  rcases h with ⟨rfl, e⟩ | ⟨g, cap, e, _⟩
  · injection e
  · injection e
set_option maxHeartbeats 1000000 in
set_option maxRecDepth 100000 in
theorem with_any (Q : Nat → Prop) (v : Value) (l : List Ent) (hl : l.length ≤ 4398046511104) (k : ByteArray) (n : Int) (w : World) (h : IRow Q w v l) : Calls Try.prog 26 #[v, .agg #[.string k, .int .i64 n]] w fun e w' => ∃ v', e = .returned v' ∧ w'.ownsRow w.heap.size 63 2 v' (l ++ [(k, n)]).length (flat (l ++ [(k, n)])) ∧ Below w.heap.size w w' := by
  obtain ⟨P, c, rfl⟩ := h.form
  obtain ⟨W0, hW0⟩ : ∃ W0, W0 = w.alloc (.cells #[.string k, .int .i64 n] 63) := ⟨_, rfl⟩
  have hbw : Below w.heap.size w W0 := by rw [hW0]; exact (Below.refl _ _).alloc (Nat.le_refl _) _
  have hx0 : W0.heap[w.heap.size]? = some (.cells #[.string k, .int .i64 n] 63) := by rw [hW0]; exact one_alloc _ _
  have hsz0 : W0.heap.size = w.heap.size + 1 := by rw [hW0]; simp
  have HSZ0 : Hid _ := hsz0
  have HX0 : Hid _ := hx0
  have HB0 : Hid _ := hbw
  have HI : Hid (IRow Q W0 _ l) := h.on hbw
  have HO : Hid (W0.ownsRow w.heap.size 63 2 (.slice none 0 0) 0 (flat [])) := ⟨rfl, Or.inl ⟨rfl, rfl⟩⟩
  clear h hbw hx0 hsz0
  go_enter Try.func26, Try.ntmps26
  go_upto_region 2 with fail
  rw [← hW0]
  clear hW0
  go_wp2_with (at_builtin; go_must (refine wpList_append_items rfl _ _ rfl w.heap.size _ [] 0 rfl rfl HO.out Q _ l rfl HI.out l.length (by simp) ?p1 HB0.out.size ?_))
  case p1 => simp; omega
  intro v1 w1 ho1 hg1
  have hb1 : Below W0.heap.size W0 w1 := (Below.refl _ _).grown hg1 (Nat.le_refl _) (fun q hq => by cases hq)
  have HB1 : Hid (Below w.heap.size w w1) := HB0.out.trans (hb1.mono HB0.out.size)
  have hx1 : w1.heap[w.heap.size]? = _ := keep_row HX0.out hb1
  obtain ⟨x0, x1, xf⟩ := row2 hx1
  obtain ⟨P8, k8, hkf⟩ := own_form ho1
  subst hkf
  have HO1 : Hid (w1.ownsRow w.heap.size 63 2 _ l.length (flat l)) := ho1
  clear ho1 hg1 hb1 hx1
  obtain ⟨W2, hW2⟩ : ∃ W2, W2 = w1.alloc (.cells #[.string k, .int .i64 n] 63) := ⟨_, rfl⟩
  have hb2 : Below w1.heap.size w1 W2 := by rw [hW2]; exact (Below.refl _ _).alloc (Nat.le_refl _) _
  have hx2 : W2.heap[w1.heap.size]? = some (.cells #[.string k, .int .i64 n] 63) := by rw [hW2]; exact one_alloc _ _
  have HI2 : Hid (IRow (fun _ => True) W2 (.slice (some ⟨w1.heap.size, 0, none⟩) 1 1) [(k, n)]) := Or.inr ⟨w1.heap.size, 1, rfl, trivial, Nat.le_refl _, row_lt hx2, fun j u hu => by rw [cell_of_row _ _ _ _ _ _ hx2]; simpa [flat] using hu⟩
  have HO2 : Hid (W2.ownsRow w.heap.size 63 2 (.slice P8 l.length k8) l.length (flat l)) := own_keep HO1.out (fun q _ hq => hb2.block q hq)
  have HB2 : Hid (Below w.heap.size w W2) := HB1.out.trans (hb2.mono HB1.out.size)
  clear hb2 hx2
  go_wp2_with (at_builtin; rw [← hW2]; go_must (refine wpList_append_items rfl _ _ rfl w.heap.size _ l l.length rfl rfl HO2.out (fun _ => True) _ [(k, n)] rfl HI2.out (l.length + 1) rfl ?p3 HB2.out.size ?_))
  case p3 => simp; omega
  intro v3 w3 ho3 hg3
  rw [← hW2] at hg3
  have HB3 : Hid (Below w.heap.size w w3) := HB2.out.grown hg3 HB2.out.size (fun q hq => (World.ownsRow.lt HO2.out q hq).1)
  obtain ⟨P9, k9, hkf⟩ := own_form ho3
  subst hkf
  have HO3 : Hid (w3.ownsRow w.heap.size 63 2 (.slice P9 (l.length + 1) k9) (l.length + 1) (flat (l ++ [(k, n)]))) := ho3
  clear ho3 hg3
  go_wp2
  go_returns
  exact ⟨_, rfl, by rw [List.length_append]; exact HO3.out, HB3.out⟩
set_option maxHeartbeats 1000000 in
set_option maxRecDepth 100000 in
theorem without_any (Q : Nat → Prop) (v : Value) (l : List Ent) (hl : l.length ≤ 4398046511104) (i : Nat) (hi : i < l.length) (w : World) (h : IRow Q w v l) : Calls Try.prog 34 #[v, .int .i64 (i : Int)] w fun e w' => ∃ v', e = .returned v' ∧ w'.ownsRow w.heap.size 63 2 v' (l.take i ++ l.drop (i + 1)).length (flat (l.take i ++ l.drop (i + 1))) ∧ Below w.heap.size w w' := by
  obtain ⟨g, c, rfl, hlen, hcl⟩ : ∃ g c, v = .slice (some ⟨g, 0, none⟩) l.length c ∧ l.length ≤ c ∧ ∀ j u, (flat l)[j]? = some u → w.cell? ⟨g, j, none⟩ = some u := by
    rcases h with ⟨rfl, _⟩ | ⟨g', cap, e, hq, hcp, hg, hc⟩
    · simp at hi
    · exact ⟨g', cap, e, hcp, hc⟩
  have hc1 : ∀ j u, (flat (l.take i))[j]? = some u → w.cell? ((⟨g, 0, none⟩ : Addr).add j) = some u := fun j u hu => by
    rw [Lib.add_plain, Nat.zero_add]
    refine hcl j u ?_
    have e : flat l = flat (l.take i) ++ flat (l.drop i) := by rw [← flat_app, List.take_append_drop]
    rw [e, List.getElem?_append_left]
    · exact hu
    · exact (List.getElem?_eq_some_iff.1 hu).1
  have hc2 : ∀ j u, (flat (l.drop (i + 1)))[j]? = some u → w.cell? ((⟨g, (i + 1) * 2, none⟩ : Addr).add j) = some u := fun j u hu => by
    rw [Lib.add_plain]
    refine hcl _ u ?_
    have e : flat l = flat (l.take (i + 1)) ++ flat (l.drop (i + 1)) := by rw [← flat_app, List.take_append_drop]
    have hlen : (flat (l.take (i + 1))).length = (i + 1) * 2 := by rw [flat_len, List.length_take, Nat.min_eq_left (by omega)]
    rw [e, List.getElem?_append_right (by omega), hlen, Nat.add_sub_cancel_left]
    exact hu
  have HC1 : Hid _ := hc1
  have HC2 : Hid _ := hc2
  have HO : Hid (w.ownsRow w.heap.size 63 2 (.slice none 0 0) 0 (flat [])) := ⟨rfl, Or.inl ⟨rfl, rfl⟩⟩
  have hiw : IntKind.i64.wrap ((i : Int) + 1) = ((i + 1 : Nat) : Int) := by rw [IntKind.wrap_i64] <;> omega
  clear h hcl hc1 hc2
  go_enter Try.func34, Try.ntmps34
  go_upto_region 2 with fail
  go_wp2_with (at_builtin; go_must (refine wpList_append_from rfl _ _ rfl w.heap.size _ [] 0 rfl rfl HO.out ⟨g, 0, none⟩ i c (l.take i) ?p0 ?p2 HC1.out i ?p0b ?p1 (Nat.le_refl _) ?_))
  case p0 => rw [List.length_take]; omega
  case p0b => rw [List.length_take]; simp; omega
  case p2 => rfl
  case p1 => rw [List.length_take]; simp; omega
  intro v1 w1 ho1 hg1
  have hb1 : Below w.heap.size w w1 := (Below.refl _ _).grown hg1 (Nat.le_refl _) (fun q hq => by cases hq)
  have HB1 : Hid (Below w.heap.size w w1) := hb1
  have HC3 : Hid (∀ j u, (flat (l.drop (i + 1)))[j]? = some u → w1.cell? ((⟨g, (i + 1) * 2, none⟩ : Addr).add j) = some u) := fun j u hu => cell_on (HC2.out j u hu) hb1
  obtain ⟨P8, k8, hkf⟩ := own_form ho1
  subst hkf
  have HO1 : Hid (w1.ownsRow w.heap.size 63 2 (.slice P8 i k8) i (flat (l.take i))) := ho1
  clear ho1 hg1 hb1
  by_cases hce : c = i + 1
  · subst hce
    have hdn : l.drop (i + 1) = [] := List.drop_eq_nil_of_le (by omega)
    have HC4 : Hid (∀ j u, (flat (l.drop (i + 1)))[j]? = some u → w1.cell? ((⟨g, 0, none⟩ : Addr).add j) = some u) := by
      show ∀ j u, _ → _
      rw [hdn]; intro j u hu; simp [flat] at hu
    clear hdn
    go_upto_region 3 with fail
    go_wp2_with (at_builtin; go_must (refine wpList_append_from rfl _ _ rfl w.heap.size _ (l.take i) i ?p3 rfl HO1.out ⟨g, 0, none⟩ 0 0 (l.drop (i + 1)) ?p4 ?p5 HC4.out (l.length - 1) ?p7 ?p6 HB1.out.size ?_))
    case p3 => rw [List.length_take]; omega
    case p4 => rw [List.length_drop]; omega
    case p5 => rfl
    case p7 => rw [List.length_take, List.length_drop]; omega
    case p6 => rw [List.length_take, List.length_drop]; omega
    intro v3 w3 ho3 hg3
    have HB3 : Hid (Below w.heap.size w w3) := HB1.out.grown hg3 HB1.out.size (fun q hq => (World.ownsRow.lt HO1.out q hq).1)
    obtain ⟨P9, k9, hkf⟩ := own_form ho3
    subst hkf
    have HO3 : Hid (w3.ownsRow w.heap.size 63 2 (.slice P9 (l.length - 1) k9) (l.take i ++ l.drop (i + 1)).length (flat (l.take i ++ l.drop (i + 1)))) := by
      show World.ownsRow _ _ _ _ _ _ _
      have e : (l.take i ++ l.drop (i + 1)).length = l.length - 1 := by rw [List.length_append, List.length_take, List.length_drop]; omega
      rw [e]; exact ho3
    clear ho3 hg3
    go_wp2
    go_returns
    exact ⟨_, rfl, HO3.out, HB3.out⟩
  · go_upto_region 3 with fail
    go_wp2_with (at_builtin; go_must (refine wpList_append_from rfl _ _ rfl w.heap.size _ (l.take i) i ?p3 rfl HO1.out ⟨g, (i + 1) * 2, none⟩ (l.length - (i + 1)) (c - (i + 1)) (l.drop (i + 1)) ?p4 ?p5 HC3.out (l.length - 1) ?p7 ?p6 HB1.out.size ?_))
    case p3 => rw [List.length_take]; omega
    case p4 => rw [List.length_drop]
    case p5 => rfl
    case p7 => rw [List.length_take, List.length_drop]; omega
    case p6 => rw [List.length_take, List.length_drop]; omega
    intro v3 w3 ho3 hg3
    have HB3 : Hid (Below w.heap.size w w3) := HB1.out.grown hg3 HB1.out.size (fun q hq => (World.ownsRow.lt HO1.out q hq).1)
    obtain ⟨P9, k9, hkf⟩ := own_form ho3
    subst hkf
    have HO3 : Hid (w3.ownsRow w.heap.size 63 2 (.slice P9 (l.length - 1) k9) (l.take i ++ l.drop (i + 1)).length (flat (l.take i ++ l.drop (i + 1)))) := by
      show World.ownsRow _ _ _ _ _ _ _
      have e : (l.take i ++ l.drop (i + 1)).length = l.length - 1 := by rw [List.length_append, List.length_take, List.length_drop]; omega
      rw [e]; exact ho3
    clear ho3 hg3
    go_wp2
    go_returns
    exact ⟨_, rfl, HO3.out, HB3.out⟩
end Go.Proofs.Ytdemodhjlbkbeab
