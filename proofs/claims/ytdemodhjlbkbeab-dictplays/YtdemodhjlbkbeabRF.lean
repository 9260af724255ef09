import Derived.Test.YtdemodhjlbkbeabRB
import Derived.Test.YtdemodhjlbkbeabRA
namespace Go.Proofs.Ytdemodhjlbkbeab
open Go.RowKit
set_option linter.unusedVariables false
theorem less_irr (a : ByteArray) : lessB a a = false := bl_irrefl _
theorem less_asym {a b : ByteArray} (h : lessB a b = true) : lessB b a = false := by
  rcases h2 : lessB b a with _ | _
  · rfl
  · have := less_trans h h2; rw [less_irr] at this; cases this
theorem less_tri {a b : ByteArray} (h1 : lessB a b = false) (h2 : lessB b a = false) : a = b := by
  have := bl_tri _ _ h1 h2
  rw [ByteArray.toList_eq, ByteArray.toList_eq] at this
  exact ByteArray.ext (Array.toList_inj.1 this)
theorem less_ne {a b : ByteArray} (h : lessB a b = true) : a ≠ b := fun e => by subst e; rw [less_irr] at h; cases h
theorem lb_parts (es : List Ent) (k : ByteArray) : es.take (lb es k) = es.takeWhile (fun e => lessB e.1 k) ∧ es.drop (lb es k) = es.dropWhile (fun e => lessB e.1 k) := by
  unfold lb
  have h := List.takeWhile_append_dropWhile (p := fun e : Ent => lessB e.1 k) (l := es)
  constructor
  · have q := List.take_left (l₁ := es.takeWhile (fun e : Ent => lessB e.1 k)) (l₂ := es.dropWhile (fun e : Ent => lessB e.1 k))
    rw [h] at q; exact q
  · have q := List.drop_left (l₁ := es.takeWhile (fun e : Ent => lessB e.1 k)) (l₂ := es.dropWhile (fun e : Ent => lessB e.1 k))
    rw [h] at q; exact q
theorem lb_le (es : List Ent) (k : ByteArray) : lb es k ≤ es.length := by
  unfold lb; exact (List.takeWhile_sublist _).length_le
theorem lb_below (es : List Ent) (k : ByteArray) : ∀ e ∈ es.take (lb es k), lessB e.1 k = true := by
  rw [(lb_parts es k).1]; intro e he; exact List.all_eq_true.1 (List.all_takeWhile (p := fun e : Ent => lessB e.1 k) (l := es)) e he
theorem Rising.drop_ge {es : List Ent} (hr : Rising es) (k : ByteArray) : ∀ e ∈ es.drop (lb es k), lessB e.1 k = false := by
  rw [(lb_parts es k).2]
  induction es with
  | nil => simp
  | cons a es ih =>
    have hr' : Rising es := (List.pairwise_cons.1 hr).2
    rw [List.dropWhile_cons]
    rcases ha : lessB a.1 k with _ | _
    · intro e he
      simp only [Bool.false_eq_true, if_false] at he
      rcases List.mem_cons.1 he with rfl | he
      · exact ha
      · rcases hq : lessB e.1 k with _ | _
        · rfl
        · have := less_trans ((List.pairwise_cons.1 hr).1 e he) hq
          rw [ha] at this; cases this
    · simpa using ih hr'
theorem hit_split {es : List Ent} {k : ByteArray} (h : hit es k = true) : ∃ v, es = es.take (lb es k) ++ (k, v) :: es.drop (lb es k + 1) ∧ es[lb es k]? = some (k, v) ∧ lb es k < es.length := by
  unfold hit at h
  rcases hq : es[lb es k]? with _ | ⟨k', v⟩
  · rw [hq] at h; cases h
  · rw [hq] at h
    obtain ⟨hl, hg⟩ := List.getElem?_eq_some_iff.1 hq
    have hk : k' = k := by
      have h2 : k'.toList = k.toList := by simpa using h
      rw [ByteArray.toList_eq, ByteArray.toList_eq] at h2
      exact ByteArray.ext (Array.toList_inj.1 h2)
    subst hk
    refine ⟨v, ?_, rfl, hl⟩
    conv => lhs; rw [← List.take_append_drop (lb es k') es]
    rw [List.drop_eq_getElem_cons hl, hg]
theorem Rising.miss {es : List Ent} (hr : Rising es) {k : ByteArray} (h : hit es k = false) : ∀ e ∈ es, e.1 ≠ k := by
  intro e he hk
  rw [← List.take_append_drop (lb es k) es] at he
  rcases List.mem_append.1 he with he | he
  · have := lb_below es k e he
    rw [hk, less_irr] at this; cases this
  · have hr2 : Rising (es.drop (lb es k)) := List.Pairwise.sublist (List.drop_sublist _ _) hr
    unfold hit at h
    rcases hd : es.drop (lb es k) with _ | ⟨a, l⟩
    · rw [hd] at he; simp at he
    · have ha : es[lb es k]? = some a := by
        rw [← Nat.add_zero (lb es k), ← List.getElem?_drop, hd]; rfl
      rw [ha] at h
      have hak : a.1 ≠ k := fun e' => by simp [e'] at h
      have hage : lessB a.1 k = false := hr.drop_ge k a (by rw [hd]; simp)
      rw [hd] at he hr2
      rcases List.mem_cons.1 he with rfl | he
      · exact hak hk
      · have h1 := (List.pairwise_cons.1 hr2).1 e he
        rw [hk] at h1
        rw [hage] at h1; cases h1
theorem Rising.ins {es : List Ent} (hr : Rising es) {k : ByteArray} (h : hit es k = false) (v : Int) : Rising (insL es (lb es k) (k, v)) := by
  refine List.pairwise_append.2 ⟨List.Pairwise.sublist (List.take_sublist _ _) hr, List.pairwise_cons.2 ⟨fun e he => ?_, List.Pairwise.sublist (List.drop_sublist _ _) hr⟩, fun a ha b hb => ?_⟩
  · have h1 := hr.drop_ge k e he
    have h2 := hr.miss h e (List.mem_of_mem_drop he)
    rcases hq : lessB k e.1 with _ | _
    · exact absurd (less_tri h1 hq) h2
    · rfl
  · rcases List.mem_cons.1 hb with rfl | hb
    · exact lb_below es k a ha
    · have : Rising (es.take (lb es k) ++ es.drop (lb es k)) := by rw [List.take_append_drop]; exact hr
      exact (List.pairwise_append.1 this).2.2 a ha b hb
theorem ins_perm (es : List Ent) (i : Nat) (e : Ent) : (insL es i e).Perm (e :: es) := by
  have := List.perm_middle (a := e) (l₁ := es.take i) (l₂ := es.drop i)
  rwa [List.take_append_drop] at this
theorem Rising.del {es : List Ent} (hr : Rising es) (i : Nat) : Rising (delL es i) := by
  refine List.Pairwise.sublist ?_ hr
  conv => rhs; rw [← List.take_append_drop i es]
  exact List.Sublist.append_left (by rw [← List.drop_drop]; exact List.drop_sublist _ _) _
theorem del_perm {es : List Ent} {k : ByteArray} (h : hit es k = true) : ∃ v, (k, v) ∈ es ∧ es[lb es k]? = some (k, v) ∧ es.Perm ((k, v) :: delL es (lb es k)) := by
  obtain ⟨v, h1, h2, h3⟩ := hit_split h
  refine ⟨v, by rw [h1]; simp, h2, ?_⟩
  conv => lhs; rw [h1]
  exact List.perm_middle
/-- the entry at a hit has another value. -/
abbrev putL (es : List Ent) (k : ByteArray) (v : Int) : List Ent := es.set (lb es k) (k, v)
theorem put_split {es : List Ent} {k : ByteArray} (h : hit es k = true) (v : Int) : putL es k v = es.take (lb es k) ++ (k, v) :: es.drop (lb es k + 1) := by
  obtain ⟨v0, h1, h2, h3⟩ := hit_split h
  unfold putL; rw [List.set_eq_take_append_cons_drop, if_pos h3]
theorem put_perm {es : List Ent} {k : ByteArray} (h : hit es k = true) (v : Int) : (putL es k v).Perm ((k, v) :: delL es (lb es k)) := by
  rw [put_split h]; exact List.perm_middle
theorem Rising.put {es : List Ent} (hr : Rising es) {k : ByteArray} (h : hit es k = true) (v : Int) : Rising (putL es k v) := by
  obtain ⟨v0, h1, h2, h3⟩ := hit_split h
  rw [put_split h]
  rw [h1] at hr
  have := List.pairwise_append.1 hr
  refine List.pairwise_append.2 ⟨this.1, List.pairwise_cons.2 ⟨(List.pairwise_cons.1 this.2.1).1, (List.pairwise_cons.1 this.2.1).2⟩, fun a ha b hb => ?_⟩
  rcases List.mem_cons.1 hb with rfl | hb
  · exact this.2.2 a ha (k, v0) (by simp)
  · exact this.2.2 a ha b (by simp [hb])
theorem hit_of_mem {es : List Ent} (hr : Rising es) {k : ByteArray} {v : Int} (h : (k, v) ∈ es) : hit es k = true := by
  rcases hq : hit es k with _ | _
  · exact absurd rfl (hr.miss hq _ h)
  · rfl
theorem Rising.nodup {es : List Ent} (hr : Rising es) : (es.map (·.1)).Nodup := by
  unfold List.Nodup
  rw [List.pairwise_map]
  exact hr.imp (fun h => less_ne h)
/-- a row of buckets, one of them another one. -/
theorem set_flat {α : Type} (T : List (List α)) (i : Nat) (h : i < T.length) (X : List α) : ∃ R, T.flatten.Perm (T[i] ++ R) ∧ (T.set i X).flatten.Perm (X ++ R) := by
  refine ⟨(T.take i).flatten ++ (T.drop (i + 1)).flatten, ?_, ?_⟩
  · conv => lhs; rw [← List.take_append_drop i T, List.drop_eq_getElem_cons h, List.flatten_append, List.flatten_cons]
    rw [← List.append_assoc, ← List.append_assoc]
    exact List.Perm.append_right _ List.perm_append_comm
  · rw [List.set_eq_take_append_cons_drop, if_pos h, List.flatten_append, List.flatten_cons, ← List.append_assoc, ← List.append_assoc]
    exact List.Perm.append_right _ List.perm_append_comm
/-- a key's hash as a natural number. -/
def hN (seed : Int) (k : ByteArray) : Nat := (BitVec.ofInt 64 (hashT seed k)).toNat
/-- a table as it should be. -/
structure TWf (seed : Int) (T : List (List Ent)) : Prop where
  pow : T = [] ∨ ∃ j, 2 ≤ j ∧ T.length = 2 ^ j
  rise : ∀ i (h : i < T.length), Rising T[i]
  here : ∀ i (h : i < T.length), ∀ e ∈ T[i], hN seed e.1 % T.length = i
theorem TWf.nil (seed : Int) : TWf seed [] := ⟨Or.inl rfl, fun i h => by simp at h, fun i h => by simp at h⟩
theorem TWf.new (seed : Int) (j : Nat) (hj : 2 ≤ j) : TWf seed (List.replicate (2 ^ j) []) :=
  ⟨Or.inr ⟨j, hj, by simp⟩, fun i h => by rw [List.getElem_replicate]; exact List.Pairwise.nil, fun i h e he => by rw [List.getElem_replicate] at he; simp at he⟩
theorem TWf.lt {seed : Int} {T : List (List Ent)} (hne : T ≠ []) (k : ByteArray) : hN seed k % T.length < T.length :=
  Nat.mod_lt _ (List.length_pos_iff.2 hne)
theorem TWf.mem {seed : Int} {T : List (List Ent)} (h : TWf seed T) {k : ByteArray} {v : Int} (hm : (k, v) ∈ T.flatten) : ∃ hl : hN seed k % T.length < T.length, (k, v) ∈ T[hN seed k % T.length] := by
  obtain ⟨b, hb, hk⟩ := List.mem_flatten.1 hm
  obtain ⟨i, hi, rfl⟩ := List.mem_iff_getElem.1 hb
  have := h.here i hi _ hk
  subst this
  exact ⟨hi, hk⟩
theorem TWf.set {seed : Int} {T : List (List Ent)} (h : TWf seed T) {i : Nat} {X : List Ent} (hX : Rising X) (hh : ∀ e ∈ X, hN seed e.1 % T.length = i) : TWf seed (T.set i X) := by
  refine ⟨?_, fun j hj => ?_, fun j hj e he => ?_⟩
  · rcases h.pow with rfl | ⟨j, h1, h2⟩
    · exact Or.inl rfl
    · exact Or.inr ⟨j, h1, by simpa using h2⟩
  · rw [List.getElem_set]
    split
    · exact hX
    · exact h.rise j (by simpa using hj)
  · rw [List.getElem_set] at he
    rw [List.length_set]
    split at he
    · next e' => subst e'; exact hh e he
    · exact h.here j (by simpa using hj) e he
/-- an entry put in. -/
def tadd (seed : Int) (T : List (List Ent)) (k : ByteArray) (v : Int) : List (List Ent) := T.set (hN seed k % T.length) (insL (T[hN seed k % T.length]?.getD []) (lb (T[hN seed k % T.length]?.getD []) k) (k, v))
def tdrop (seed : Int) (T : List (List Ent)) (k : ByteArray) : List (List Ent) := T.set (hN seed k % T.length) (delL (T[hN seed k % T.length]?.getD []) (lb (T[hN seed k % T.length]?.getD []) k))
def tput (seed : Int) (T : List (List Ent)) (k : ByteArray) (v : Int) : List (List Ent) := T.set (hN seed k % T.length) (putL (T[hN seed k % T.length]?.getD []) k v)
def thas (seed : Int) (T : List (List Ent)) (k : ByteArray) : Bool := hit (T[hN seed k % T.length]?.getD []) k
theorem tadd_len (seed : Int) (T : List (List Ent)) (k : ByteArray) (v : Int) : (tadd seed T k v).length = T.length := by unfold tadd; simp
theorem tdrop_len (seed : Int) (T : List (List Ent)) (k : ByteArray) : (tdrop seed T k).length = T.length := by unfold tdrop; simp
theorem tput_len (seed : Int) (T : List (List Ent)) (k : ByteArray) (v : Int) : (tput seed T k v).length = T.length := by unfold tput; simp
theorem hit_nil (k : ByteArray) : hit [] k = false := rfl
theorem thas_nil (seed : Int) (k : ByteArray) : thas seed [] k = false := rfl
theorem thas_no {seed : Int} {T : List (List Ent)} (h : TWf seed T) {k : ByteArray} (hk : thas seed T k = false) : ∀ v, (k, v) ∉ T.flatten := by
  intro v hm
  obtain ⟨hl, hm2⟩ := h.mem hm
  unfold thas at hk
  rw [List.getElem?_eq_getElem hl, Option.getD_some] at hk
  rw [hit_of_mem (h.rise _ hl) hm2] at hk; cases hk
theorem thas_yes {seed : Int} {T : List (List Ent)} (h : TWf seed T) {k : ByteArray} {v : Int} (hm : (k, v) ∈ T.flatten) : thas seed T k = true := by
  rcases hq : thas seed T k with _ | _
  · exact absurd hm (thas_no h hq v)
  · rfl
theorem tadd_wf {seed : Int} {T : List (List Ent)} (h : TWf seed T) (hne : T ≠ []) {k : ByteArray} (hk : thas seed T k = false) (v : Int) : TWf seed (tadd seed T k v) ∧ (tadd seed T k v).flatten.Perm ((k, v) :: T.flatten) := by
  have hl := TWf.lt (seed := seed) hne k
  unfold tadd thas at *
  rw [List.getElem?_eq_getElem hl, Option.getD_some] at *
  refine ⟨h.set ((h.rise _ hl).ins hk v) (fun e he => ?_), ?_⟩
  · rcases List.mem_cons.1 ((ins_perm _ _ _).mem_iff.1 he) with rfl | he
    · rfl
    · exact h.here _ hl e he
  · obtain ⟨R, h1, h2⟩ := set_flat T _ hl (insL T[hN seed k % T.length] (lb T[hN seed k % T.length] k) (k, v))
    refine h2.trans (((ins_perm _ _ _).append_right R).trans ?_)
    rw [List.cons_append]
    exact List.Perm.cons _ h1.symm
theorem tdrop_wf {seed : Int} {T : List (List Ent)} (h : TWf seed T) {k : ByteArray} (hk : thas seed T k = true) : ∃ v, TWf seed (tdrop seed T k) ∧ T.flatten.Perm ((k, v) :: (tdrop seed T k).flatten) := by
  have hl : hN seed k % T.length < T.length := by
    rcases Nat.lt_or_ge (hN seed k % T.length) T.length with h1 | h1
    · exact h1
    · unfold thas at hk; rw [List.getElem?_eq_none h1] at hk; cases hk
  unfold tdrop thas at *
  rw [List.getElem?_eq_getElem hl, Option.getD_some] at *
  obtain ⟨v, h1, h2, h3⟩ := del_perm hk
  refine ⟨v, h.set ((h.rise _ hl).del _) (fun e he => h.here _ hl e (h3.mem_iff.2 (List.mem_cons_of_mem _ he))), ?_⟩
  obtain ⟨R, q1, q2⟩ := set_flat T _ hl (delL T[hN seed k % T.length] (lb T[hN seed k % T.length] k))
  refine q1.trans ((h3.append_right R).trans ?_)
  rw [List.cons_append]
  exact List.Perm.cons _ q2.symm
theorem tput_wf {seed : Int} {T : List (List Ent)} (h : TWf seed T) {k : ByteArray} (hk : thas seed T k = true) (v : Int) : ∃ v0, ∃ R, TWf seed (tput seed T k v) ∧ T.flatten.Perm ((k, v0) :: R) ∧ (tput seed T k v).flatten.Perm ((k, v) :: R) := by
  have hl : hN seed k % T.length < T.length := by
    rcases Nat.lt_or_ge (hN seed k % T.length) T.length with h1 | h1
    · exact h1
    · unfold thas at hk; rw [List.getElem?_eq_none h1] at hk; cases hk
  unfold tput thas at *
  rw [List.getElem?_eq_getElem hl, Option.getD_some] at *
  obtain ⟨v0, h1, h2, h3⟩ := del_perm hk
  have h4 := put_perm hk v
  obtain ⟨R, q1, q2⟩ := set_flat T _ hl (putL T[hN seed k % T.length] k v)
  refine ⟨v0, delL T[hN seed k % T.length] (lb T[hN seed k % T.length] k) ++ R, h.set ((h.rise _ hl).put hk v) (fun e he => ?_), ?_, ?_⟩
  · rcases List.mem_cons.1 (h4.mem_iff.1 he) with rfl | he
    · rfl
    · exact h.here _ hl e (h3.mem_iff.2 (List.mem_cons_of_mem _ he))
  · exact q1.trans (h3.append_right R)
  · exact q2.trans (h4.append_right R)
end Go.Proofs.Ytdemodhjlbkbeab
namespace Go.Proofs.Ytdemodhjlbkbeab
open Go.RowKit
set_option linter.unusedVariables false
/-- a dict's state. -/
structure DS where
  seed : Int
  T1 : List (List Ent)
  T2 : List (List Ent)
  ix : Nat
def cnt (T : List (List Ent)) : Nat := T.flatten.length
def DS.all (D : DS) : List Ent := D.T1.flatten ++ D.T2.flatten
theorem DS.all_len (D : DS) : D.all.length = cnt D.T1 + cnt D.T2 := by unfold DS.all cnt; simp
/-- the next bucket that is not empty. -/
def nextB (T : List (List Ent)) (i : Nat) : Nat := i + ((T.drop i).takeWhile (·.isEmpty)).length
def endD (D : DS) : DS := if D.T2 ≠ [] ∧ cnt D.T1 = 0 then ⟨D.seed, D.T2, [], D.ix⟩ else D
def takeD (D : DS) : DS := ⟨D.seed, D.T1.set (nextB D.T1 D.ix) [], (D.T1[nextB D.T1 D.ix]?.getD []).foldl (fun T e => tadd D.seed T e.1 e.2) D.T2, nextB D.T1 D.ix + 1⟩
def stepD (D : DS) : DS := if D.T2 = [] then D else endD (takeD D)
structure DInv (D : DS) : Prop where
  wf1 : TWf D.seed D.T1
  wf2 : TWf D.seed D.T2
  nd : (D.all.map (·.1)).Nodup
  mv : D.T2 ≠ [] → 0 < cnt D.T1
  low : D.T2 ≠ [] → ∀ i (h : i < D.T1.length), i < D.ix → D.T1[i] = []
  keys : ∀ e ∈ D.all, e.1.size ≤ 281474976710656
  sz1 : D.T1.length ≤ 4398046511104
  sz2 : D.T2.length ≤ 4398046511104
  me1 : D.T2 = [] → cnt D.T1 ≤ 2 * D.T1.length
  me2 : D.T2 ≠ [] → cnt D.T1 + cnt D.T2 + min (cnt D.T1) (D.T1.length - D.ix) ≤ 2 * D.T2.length
theorem thas_mem {seed : Int} {T : List (List Ent)} (h : TWf seed T) {k : ByteArray} (hk : thas seed T k = true) : ∃ v, (k, v) ∈ T.flatten := by
  obtain ⟨v, _, hp⟩ := tdrop_wf h hk
  exact ⟨v, hp.mem_iff.2 (by simp)⟩
theorem thas_keys {seed : Int} {T : List (List Ent)} (h : TWf seed T) {k : ByteArray} (hk : k ∉ T.flatten.map (·.1)) : thas seed T k = false := by
  rcases hq : thas seed T k with _ | _
  · rfl
  · obtain ⟨v, hv⟩ := thas_mem h hq
    exact absurd (List.mem_map.2 ⟨_, hv, rfl⟩) hk
theorem ne_of_len {T T' : List (List Ent)} (h : T'.length = T.length) (hne : T ≠ []) : T' ≠ [] := fun e => by
  subst e; exact hne (List.length_eq_zero_iff.1 h.symm)
theorem fold_add (seed : Int) : ∀ (es : List Ent) (T : List (List Ent)), TWf seed T → T ≠ [] → ((es ++ T.flatten).map (·.1)).Nodup →
    TWf seed (es.foldl (fun T e => tadd seed T e.1 e.2) T) ∧ (es.foldl (fun T e => tadd seed T e.1 e.2) T).length = T.length ∧ (es.foldl (fun T e => tadd seed T e.1 e.2) T).flatten.Perm (es ++ T.flatten)
  | [], T, h, hne, hd => ⟨h, rfl, List.Perm.refl _⟩
  | e :: es, T, h, hne, hd => by
    rw [List.cons_append, List.map_cons, List.nodup_cons] at hd
    have hk : thas seed T e.1 = false := thas_keys h (fun hm => hd.1 (by rw [List.map_append]; exact List.mem_append_right _ hm))
    obtain ⟨h1, h2⟩ := tadd_wf h hne hk e.2
    have hp : (es ++ (tadd seed T e.1 e.2).flatten).Perm (e :: (es ++ T.flatten)) := (List.Perm.append_left es h2).trans List.perm_middle
    have ih := fold_add seed es (tadd seed T e.1 e.2) h1 (ne_of_len (tadd_len ..) hne) (by
      rw [(hp.map _).nodup_iff, List.map_cons]; exact List.nodup_cons.2 hd)
    rw [List.foldl_cons]
    exact ⟨ih.1, ih.2.1.trans (tadd_len ..), ih.2.2.trans hp⟩
theorem flat_nil {T : List (List Ent)} (h : ∀ i (hi : i < T.length), T[i] = []) : cnt T = 0 := by
  unfold cnt
  rw [List.length_eq_zero_iff, List.flatten_eq_nil_iff]
  intro l hl
  obtain ⟨i, hi, rfl⟩ := List.mem_iff_getElem.1 hl
  exact h i hi
theorem nextB_low (T : List (List Ent)) (ix i : Nat) (h1 : ix ≤ i) (h2 : i < nextB T ix) (h : i < T.length) : T[i] = [] := by
  unfold nextB at h2
  have h3 : i - ix < ((T.drop ix).takeWhile (·.isEmpty)).length := by omega
  have hm := List.getElem_mem h3
  have := List.all_eq_true.1 (List.all_takeWhile (p := fun l : List Ent => l.isEmpty) (l := T.drop ix)) _ hm
  have e : ((T.drop ix).takeWhile (·.isEmpty))[i - ix] = T[i] := by
    have hp := List.takeWhile_prefix (p := fun l : List Ent => l.isEmpty) (l := T.drop ix)
    rw [hp.getElem h3, List.getElem_drop]
    congr 1; omega
  rw [e] at this
  exact List.isEmpty_iff.1 this
theorem dw_head {α : Type} (p : α → Bool) : ∀ (l : List α) (x : α), (l.dropWhile p)[0]? = some x → p x = false
  | [], x, h => by simp at h
  | a :: l, x, h => by
    rw [List.dropWhile_cons] at h
    rcases ha : p a with _ | _
    · rw [ha] at h; simp at h; subst h; exact ha
    · rw [ha] at h; exact dw_head p l x (by simpa using h)
theorem nextB_ge (T : List (List Ent)) (ix : Nat) : ix ≤ nextB T ix := by unfold nextB; omega
theorem nextB_hit {D : DS} (h : DInv D) (hm : D.T2 ≠ []) : ∃ hl : nextB D.T1 D.ix < D.T1.length, D.T1[nextB D.T1 D.ix] ≠ [] := by
  rcases Nat.lt_or_ge (nextB D.T1 D.ix) D.T1.length with hl | hl
  · refine ⟨hl, fun e => ?_⟩
    have hx := List.takeWhile_append_dropWhile (p := fun l : List Ent => l.isEmpty) (l := D.T1.drop D.ix)
    have hlen : ((D.T1.drop D.ix).takeWhile (·.isEmpty)).length + ((D.T1.drop D.ix).dropWhile (·.isEmpty)).length = D.T1.length - D.ix := by
      rw [← List.length_append, hx, List.length_drop]
    have h1 : nextB D.T1 D.ix = D.ix + ((D.T1.drop D.ix).takeWhile (·.isEmpty)).length := rfl
    have h2 : 0 < ((D.T1.drop D.ix).dropWhile (·.isEmpty)).length := by omega
    have h3 : ((D.T1.drop D.ix).dropWhile (·.isEmpty))[0] = D.T1[nextB D.T1 D.ix] := by
      have e2 : (D.T1.drop D.ix)[((D.T1.drop D.ix).takeWhile (·.isEmpty)).length]? = some ((D.T1.drop D.ix).dropWhile (·.isEmpty))[0] := by
        conv => lhs; arg 1; rw [← hx]
        rw [List.getElem?_append_right (Nat.le_refl _), Nat.sub_self, List.getElem?_eq_getElem h2]
      rw [List.getElem?_drop, ← h1, List.getElem?_eq_getElem hl] at e2
      exact (Option.some.inj e2).symm
    have h4 := dw_head (fun l : List Ent => l.isEmpty) (D.T1.drop D.ix) _ (List.getElem?_eq_getElem h2)
    rw [h3, e] at h4
    simp at h4
  · exfalso
    have := h.mv hm
    have h0 : cnt D.T1 = 0 := flat_nil (fun i hi => by
      rcases Nat.lt_or_ge i D.ix with h1 | h1
      · exact h.low hm i hi h1
      · exact nextB_low _ _ _ h1 (by omega) hi)
    omega
theorem endD_all (D : DS) : (endD D).all.Perm D.all := by
  unfold endD
  split
  · next h =>
    have : D.T1.flatten = [] := List.length_eq_zero_iff.1 h.2
    unfold DS.all; simp [this]
  · exact List.Perm.refl _
theorem endD_seed (D : DS) : (endD D).seed = D.seed := by unfold endD; split <;> rfl
/-- all that holds but for the end of a move. -/
structure DPre (D : DS) : Prop where
  wf1 : TWf D.seed D.T1
  wf2 : TWf D.seed D.T2
  nd : (D.all.map (·.1)).Nodup
  low : D.T2 ≠ [] → ∀ i (h : i < D.T1.length), i < D.ix → D.T1[i] = []
  keys : ∀ e ∈ D.all, e.1.size ≤ 281474976710656
  sz1 : D.T1.length ≤ 4398046511104
  sz2 : D.T2.length ≤ 4398046511104
  me1 : D.T2 = [] → cnt D.T1 ≤ 2 * D.T1.length
  me2 : D.T2 ≠ [] → cnt D.T1 + cnt D.T2 + min (cnt D.T1) (D.T1.length - D.ix) ≤ 2 * D.T2.length
theorem DInv.pre {D : DS} (h : DInv D) : DPre D := ⟨h.wf1, h.wf2, h.nd, h.low, h.keys, h.sz1, h.sz2, h.me1, h.me2⟩
theorem DPre.fin {D : DS} (h : DPre D) : DInv (endD D) := by
  have hnd := h.nd
  have hky := h.keys
  have hp := endD_all D
  rw [← (hp.map _).nodup_iff] at hnd
  have hk2 : ∀ e ∈ (endD D).all, e.1.size ≤ 281474976710656 := fun e he => hky e (hp.mem_iff.1 he)
  unfold endD at hnd hk2 ⊢
  split
  · next hc =>
    rw [if_pos hc] at hnd hk2
    refine ⟨h.wf2, TWf.nil _, hnd, fun e => absurd rfl e, fun e => absurd rfl e, hk2, h.sz2, by simp, fun _ => ?_, fun e => absurd rfl e⟩
    have := h.me2 hc.1
    show cnt D.T2 ≤ 2 * D.T2.length
    omega
  · next hc =>
    rw [if_neg hc] at hnd hk2
    refine ⟨h.wf1, h.wf2, h.nd, fun hm => ?_, h.low, hky, h.sz1, h.sz2, h.me1, h.me2⟩
    rcases Nat.eq_zero_or_pos (cnt D.T1) with h0 | h0
    · exact absurd ⟨hm, h0⟩ hc
    · exact h0
theorem takeD_ok {D : DS} (h : DInv D) (hm : D.T2 ≠ []) : DPre (takeD D) ∧ (takeD D).all.Perm D.all ∧ (takeD D).T1.length = D.T1.length ∧ (takeD D).T2.length = D.T2.length ∧ D.ix < (takeD D).ix ∧ (takeD D).ix ≤ D.T1.length ∧ cnt (takeD D).T1 < cnt D.T1 ∧ cnt (takeD D).T1 + cnt (takeD D).T2 + min (cnt (takeD D).T1) ((takeD D).T1.length - (takeD D).ix) < 2 * (takeD D).T2.length := by
  obtain ⟨hl, hne⟩ := nextB_hit h hm
  have hge := nextB_ge D.T1 D.ix
  have hj : D.T1[nextB D.T1 D.ix]?.getD [] = D.T1[nextB D.T1 D.ix] := by rw [List.getElem?_eq_getElem hl, Option.getD_some]
  obtain ⟨R, p1, p2⟩ := set_flat D.T1 _ hl []
  rw [List.nil_append] at p2
  have hpa : (D.T1[nextB D.T1 D.ix] ++ (R ++ D.T2.flatten)).Perm D.all := by
    rw [← List.append_assoc]; exact (p1.append_right _).symm
  have hnd : ((D.T1[nextB D.T1 D.ix] ++ D.T2.flatten).map (·.1)).Nodup := by
    have h1 := h.nd
    rw [← (hpa.map _).nodup_iff] at h1
    refine List.Sublist.nodup (List.Sublist.map _ ?_) h1
    exact List.Sublist.append_left (List.sublist_append_right _ _) _
  obtain ⟨f1, f2, f3⟩ := fold_add D.seed _ _ h.wf2 hm hnd
  have hall : (takeD D).all.Perm D.all := by
    unfold takeD DS.all
    simp only [hj]
    refine (List.Perm.append p2 f3).trans ?_
    refine List.Perm.trans ?_ hpa
    exact (List.perm_append_comm_assoc _ _ _)
  have hc1 : cnt D.T1 = D.T1[nextB D.T1 D.ix].length + cnt (D.T1.set (nextB D.T1 D.ix) []) := by
    unfold cnt; rw [p1.length_eq, p2.length_eq, List.length_append]
  have hc2 : cnt ((D.T1[nextB D.T1 D.ix]).foldl (fun T e => tadd D.seed T e.1 e.2) D.T2) = D.T1[nextB D.T1 D.ix].length + cnt D.T2 := by
    unfold cnt; rw [f3.length_eq, List.length_append]
  have hpos : 0 < D.T1[nextB D.T1 D.ix].length := List.length_pos_iff.2 hne
  have hm2 := h.me2 hm
  refine ⟨⟨?_, ?_, ?_, ?_, ?_, ?_, ?_, ?_, ?_⟩, hall, ?_, ?_, ?_, ?_, ?_, ?_⟩
  · exact h.wf1.set List.Pairwise.nil (fun e he => by simp at he)
  · unfold takeD; simp only [hj]; exact f1
  · rw [(hall.map _).nodup_iff]; exact h.nd
  · intro _ i hi hlt
    unfold takeD at hi hlt ⊢
    simp only [List.length_set] at hi
    simp only at hlt
    show (D.T1.set (nextB D.T1 D.ix) [])[i] = []
    rw [List.getElem_set]
    split
    · rfl
    · next hx =>
      rcases Nat.lt_or_ge i D.ix with h1 | h1
      · exact h.low hm i hi h1
      · exact nextB_low _ _ _ h1 (by omega) hi
  · exact fun e he => h.keys e (hall.mem_iff.1 he)
  · unfold takeD; simpa using h.sz1
  · unfold takeD; simp only [hj]; rw [f2]; exact h.sz2
  · intro he
    exfalso
    have : (takeD D).T2.length = 0 := by rw [he]; rfl
    unfold takeD at this
    simp only [hj] at this
    rw [f2] at this
    exact hm (List.length_eq_zero_iff.1 this)
  · intro _
    unfold takeD
    simp only [hj, List.length_set]
    rw [hc2, f2]
    omega
  · unfold takeD; simp
  · unfold takeD; simp only [hj]; exact f2
  · unfold takeD; simp only; omega
  · unfold takeD; simp only; omega
  · unfold takeD; simp only; omega
  · unfold takeD
    simp only [hj, List.length_set]
    rw [hc2, f2]
    omega
theorem stepD_room {D : DS} (h : DInv D) : (stepD D).T2 ≠ [] → cnt (stepD D).T1 + cnt (stepD D).T2 + min (cnt (stepD D).T1) ((stepD D).T1.length - (stepD D).ix) < 2 * (stepD D).T2.length := by
  unfold stepD
  split
  · next h0 => intro hx; exact absurd h0 hx
  · next hm =>
    obtain ⟨_, _, _, _, _, _, _, h1⟩ := takeD_ok h hm
    unfold endD
    split
    · intro hx; exact absurd rfl hx
    · intro _; exact h1
theorem stepD_ok {D : DS} (h : DInv D) : DInv (stepD D) ∧ (stepD D).all.Perm D.all ∧ (stepD D).seed = D.seed := by
  unfold stepD
  split
  · exact ⟨h, List.Perm.refl _, rfl⟩
  · next hm =>
    obtain ⟨h1, h2, _⟩ := takeD_ok h hm
    exact ⟨h1.fin, (endD_all _).trans h2, by rw [endD_seed]; rfl⟩
end Go.Proofs.Ytdemodhjlbkbeab
namespace Go.Proofs.Ytdemodhjlbkbeab
open Go.RowKit
set_option linter.unusedVariables false
/-- the size of a smaller table. -/
def upF : Nat → Nat → Nat → Nat
  | 0, s, k => s
  | f + 1, s, k => if k ≤ s then s else upF f (2 * s) k
def upS (k : Nat) : Nat := upF k 4 k
theorem upF_ok : ∀ (f s k j : Nat), s = 4 * 2 ^ j → (j = 0 ∨ 2 * 2 ^ j < k) → k ≤ s * 2 ^ f → ∃ i, upF f s k = 4 * 2 ^ i ∧ k ≤ upF f s k ∧ (i = 0 ∨ 2 * 2 ^ i < k)
  | 0, s, k, j, h1, h2, h3 => ⟨j, h1, by show k ≤ s; simpa using h3, h2⟩
  | f + 1, s, k, j, h1, h2, h3 => by
    unfold upF
    split
    · next h => exact ⟨j, h1, h, h2⟩
    · next h =>
      refine upF_ok f (2 * s) k (j + 1) (by rw [h1, Nat.pow_succ]; omega) (Or.inr ?_) ?_
      · rw [Nat.pow_succ]; omega
      · rw [Nat.pow_succ] at h3
        calc k ≤ s * (2 ^ f * 2) := h3
          _ = 2 * s * 2 ^ f := by rw [Nat.mul_comm (2 ^ f) 2, ← Nat.mul_assoc, Nat.mul_comm s 2]
theorem upS_ok (k : Nat) : ∃ i, upS k = 4 * 2 ^ i ∧ k ≤ upS k ∧ (i = 0 ∨ 2 * 2 ^ i < k) := by
  refine upF_ok k 4 k 0 rfl (Or.inl rfl) ?_
  have := Nat.lt_two_pow_self (n := k)
  omega
def beginD (D : DS) (s : Nat) : DS := endD ⟨D.seed, D.T1, List.replicate s [], 0⟩
def roomD (D : DS) : DS := if D.T1 = [] then ⟨D.seed, List.replicate 4 [], D.T2, D.ix⟩ else if D.T2 = [] ∧ D.T1.length ≤ cnt D.T1 then beginD D (2 * D.T1.length) else D
def giveD (D : DS) : DS := if D.T2 ≠ [] ∨ D.T1.length ≤ 4 ∨ D.T1.length / 8 < cnt D.T1 then D else beginD D (upS (cnt D.T1))
def setD (D : DS) (k : ByteArray) (v : Int) : DS :=
  if thas (stepD D).seed (stepD D).T1 k then ⟨(stepD D).seed, tput (stepD D).seed (stepD D).T1 k v, (stepD D).T2, (stepD D).ix⟩
  else if thas (stepD D).seed (stepD D).T2 k then ⟨(stepD D).seed, (stepD D).T1, tput (stepD D).seed (stepD D).T2 k v, (stepD D).ix⟩
  else if (roomD (stepD D)).T2 ≠ [] then ⟨(stepD D).seed, (roomD (stepD D)).T1, tadd (stepD D).seed (roomD (stepD D)).T2 k v, (roomD (stepD D)).ix⟩
  else ⟨(stepD D).seed, tadd (stepD D).seed (roomD (stepD D)).T1 k v, (roomD (stepD D)).T2, (roomD (stepD D)).ix⟩
def cutD (D : DS) (k : ByteArray) : DS :=
  if thas D.seed D.T1 k then ⟨D.seed, tdrop D.seed D.T1 k, D.T2, D.ix⟩ else ⟨D.seed, D.T1, tdrop D.seed D.T2 k, D.ix⟩
def DS.has (D : DS) (k : ByteArray) : Bool := thas D.seed D.T1 k || thas D.seed D.T2 k
def deleteD (D : DS) (k : ByteArray) : DS := if (stepD D).has k then giveD (endD (cutD (stepD D) k)) else stepD D
theorem DPre.of_first {D : DS} (h : DInv D) {T : List (List Ent)} (hw : TWf D.seed T) (hl : T.length = D.T1.length) (hnd : ((T.flatten ++ D.T2.flatten).map (·.1)).Nodup) (hky : ∀ e ∈ T.flatten, e.1.size ≤ 281474976710656)
    (hlow : D.T2 ≠ [] → ∀ i (h : i < T.length), i < D.ix → T[i] = []) (hc : D.T2 = [] ∨ cnt T ≤ cnt D.T1) (hc2 : D.T2 = [] → cnt T ≤ 2 * T.length) : DPre ⟨D.seed, T, D.T2, D.ix⟩ := by
  refine ⟨hw, h.wf2, hnd, hlow, fun e he => ?_, by show T.length ≤ _; rw [hl]; exact h.sz1, h.sz2, hc2, fun hm => ?_⟩
  · rcases List.mem_append.1 he with he | he
    · exact hky e he
    · exact h.keys e (List.mem_append_right _ he)
  · have := h.me2 hm
    show cnt T + cnt D.T2 + min (cnt T) (T.length - D.ix) ≤ 2 * D.T2.length
    rcases hc with hc | hc
    · exact absurd hc hm
    · rw [hl]; omega
theorem all_keys {D : DS} (h : DInv D) (k : ByteArray) : D.has k = true ↔ k ∈ D.all.map (·.1) := by
  unfold DS.has DS.all
  rw [List.map_append, List.mem_append]
  constructor
  · intro hq
    rcases Bool.or_eq_true .. ▸ hq with hq | hq
    · obtain ⟨v, hv⟩ := thas_mem h.wf1 hq
      exact Or.inl (List.mem_map.2 ⟨_, hv, rfl⟩)
    · obtain ⟨v, hv⟩ := thas_mem h.wf2 hq
      exact Or.inr (List.mem_map.2 ⟨_, hv, rfl⟩)
  · rintro (hq | hq)
    · obtain ⟨⟨k', v⟩, hv, rfl⟩ := List.mem_map.1 hq
      rw [thas_yes h.wf1 hv]; rfl
    · obtain ⟨⟨k', v⟩, hv, rfl⟩ := List.mem_map.1 hq
      rw [thas_yes h.wf2 hv, Bool.or_true]
theorem tput_low {seed : Int} {T : List (List Ent)} {k : ByteArray} {v : Int} {i : Nat} (hk : thas seed T k = true) (hi : i < (tput seed T k v).length) (hi2 : i < T.length) (h : T[i] = []) : (tput seed T k v)[i] = [] := by
  unfold tput thas at *
  rw [List.getElem_set]
  split
  · next e =>
    subst e
    rw [List.getElem?_eq_getElem hi2, Option.getD_some, h] at hk
    cases hk
  · exact h
theorem tdrop_low {seed : Int} {T : List (List Ent)} {k : ByteArray} {i : Nat} (hi : i < (tdrop seed T k).length) (hi2 : i < T.length) (h : T[i] = []) : (tdrop seed T k)[i] = [] := by
  unfold tdrop at *
  rw [List.getElem_set]
  split
  · next e =>
    subst e
    rw [List.getElem?_eq_getElem hi2, Option.getD_some, h]; rfl
  · exact h
theorem beginD_ok {D : DS} (h : DInv D) (hm : D.T2 = []) (j : Nat) (hj : 2 ≤ j) (hj2 : j ≤ 42) (hme : cnt D.T1 + min (cnt D.T1) D.T1.length ≤ 2 * 2 ^ j) : DInv (beginD D (2 ^ j)) ∧ (beginD D (2 ^ j)).all.Perm D.all := by
  have hall : (⟨D.seed, D.T1, List.replicate (2 ^ j) [], 0⟩ : DS).all = D.all := by
    unfold DS.all; simp [hm]
  have h2 : cnt (List.replicate (2 ^ j) []) = 0 := by unfold cnt; simp
  have h0 : 0 < 2 ^ j := Nat.two_pow_pos j
  have hp : 2 ^ j ≤ 2 ^ 42 := Nat.pow_le_pow_right (by omega) hj2
  have hpre : DPre ⟨D.seed, D.T1, List.replicate (2 ^ j) [], 0⟩ := by
    refine ⟨h.wf1, TWf.new _ j hj, by rw [hall]; exact h.nd, fun _ i _ hi => by simp at hi, by rw [hall]; exact h.keys, h.sz1, by simpa using hp, fun e => ?_, fun _ => ?_⟩
    · exact absurd (congrArg List.length e) (by simp)
    · show cnt D.T1 + cnt (List.replicate (2 ^ j) []) + min (cnt D.T1) (D.T1.length - 0) ≤ 2 * (List.replicate (2 ^ j) ([] : List Ent)).length
      rw [h2, List.length_replicate]; omega
  exact ⟨hpre.fin, by rw [← hall]; exact endD_all _⟩
theorem T1_pow {D : DS} (h : DInv D) (hne : D.T1 ≠ []) : ∃ j, 2 ≤ j ∧ j ≤ 42 ∧ D.T1.length = 2 ^ j := by
  rcases h.wf1.pow with e | ⟨j, h1, h2⟩
  · exact absurd e hne
  · refine ⟨j, h1, ?_, h2⟩
    have hl := h.sz1
    rw [h2] at hl
    rcases Nat.lt_or_ge 42 j with h3 | h3
    · have : 2 ^ 43 ≤ 2 ^ j := Nat.pow_le_pow_right (by omega) h3
      omega
    · exact h3
/-- room for one more key. -/
structure Room (D : DS) : Prop where
  a : D.T2 = [] → D.T1 ≠ [] ∧ cnt D.T1 < 2 * D.T1.length
  b : D.T2 ≠ [] → cnt D.T1 + cnt D.T2 + min (cnt D.T1) (D.T1.length - D.ix) < 2 * D.T2.length
theorem roomD_ok {D : DS} (h : DInv D) (hc : cnt D.T1 < 4398046511104) (hr : D.T2 ≠ [] → cnt D.T1 + cnt D.T2 + min (cnt D.T1) (D.T1.length - D.ix) < 2 * D.T2.length) : DInv (roomD D) ∧ (roomD D).all.Perm D.all ∧ Room (roomD D) := by
  unfold roomD
  split
  · next h1 =>
    have h2 : D.T2 = [] := Decidable.byContradiction fun hm => by
      have := h.mv hm
      rw [h1] at this
      simp [cnt] at this
    have hall : (⟨D.seed, List.replicate 4 [], D.T2, D.ix⟩ : DS).all = D.all := by unfold DS.all; simp [h1]
    refine ⟨⟨TWf.new _ 2 (by omega), h.wf2, by rw [hall]; exact h.nd, fun hm => absurd h2 hm, fun hm => absurd h2 hm, by rw [hall]; exact h.keys, by simp, h.sz2, fun _ => by simp [cnt], fun hm => absurd h2 hm⟩, by rw [hall], ⟨fun _ => ⟨by simp, by simp [cnt]⟩, fun hm => absurd h2 hm⟩⟩
  · next h1 =>
    split
    · next h2 =>
      obtain ⟨j, hj1, hj2, hj3⟩ := T1_pow h h1
      have hme := h.me1 h2.1
      have hj4 : j + 1 ≤ 42 := by
        rcases Nat.lt_or_ge j 42 with h3 | h3
        · omega
        · have : j = 42 := by omega
          subst this
          have := h2.2
          omega
      have he : 2 * D.T1.length = 2 ^ (j + 1) := by rw [hj3, Nat.pow_succ]; omega
      have h4 : 4 ≤ D.T1.length := by
        rw [hj3]; exact Nat.pow_le_pow_right (n := 2) (by omega) hj1
      obtain ⟨q1, q2⟩ := beginD_ok h h2.1 (j + 1) (by omega) hj4 (by rw [← he]; omega)
      rw [he]
      refine ⟨q1, q2, ?_⟩
      rw [← he]
      have hnz : ¬ cnt D.T1 = 0 := by omega
      have hb : beginD D (2 * D.T1.length) = ⟨D.seed, D.T1, List.replicate (2 * D.T1.length) [], 0⟩ := by
        unfold beginD endD; rw [if_neg (fun hx => hnz hx.2)]
      rw [hb]
      refine ⟨fun e => ?_, fun _ => ?_⟩
      · have := congrArg List.length e
        simp at this
        omega
      · show cnt D.T1 + cnt (List.replicate (2 * D.T1.length) []) + min (cnt D.T1) (D.T1.length - 0) < 2 * (List.replicate (2 * D.T1.length) ([] : List Ent)).length
        rw [List.length_replicate, show cnt (List.replicate (2 * D.T1.length) []) = 0 by unfold cnt; simp]
        omega
    · next h2 =>
      refine ⟨h, List.Perm.refl _, ⟨fun e => ⟨h1, ?_⟩, hr⟩⟩
      have : ¬ D.T1.length ≤ cnt D.T1 := fun hx => h2 ⟨e, hx⟩
      omega
theorem key_no {D : DS} (h : DInv D) {k : ByteArray} (hk : k ∉ D.all.map (·.1)) : thas D.seed D.T1 k = false ∧ thas D.seed D.T2 k = false := by
  unfold DS.all at hk
  rw [List.map_append, List.mem_append, not_or] at hk
  exact ⟨thas_keys h.wf1 hk.1, thas_keys h.wf2 hk.2⟩
theorem roomD_seed (D : DS) : (roomD D).seed = D.seed := by
  unfold roomD beginD; split
  · rfl
  · split
    · rw [endD_seed]
    · rfl
/-- what Set does. -/
structure SetIs (D D' : DS) (k : ByteArray) (v : Int) (new : Bool) : Prop where
  inv : DInv D'
  seed : D'.seed = D.seed
  fresh : new = true → k ∉ D.all.map (·.1) ∧ D'.all.Perm ((k, v) :: D.all)
  old : new = false → ∃ v0 R, D.all.Perm ((k, v0) :: R) ∧ D'.all.Perm ((k, v) :: R)
theorem setD_ok {D : DS} (h : DInv D) (k : ByteArray) (hk : k.size ≤ 281474976710656) (v : Int) (hc : cnt D.T1 + cnt D.T2 < 4398046511000) : SetIs D (setD D k v) k v (! (stepD D).has k) := by
  obtain ⟨h1, h2, h3⟩ := stepD_ok h
  have hrm := stepD_room h
  have hcs : cnt (stepD D).T1 + cnt (stepD D).T2 < 4398046511000 := by
    have := h2.length_eq
    rw [DS.all_len, DS.all_len] at this; omega
  unfold setD
  generalize stepD D = S at *
  by_cases ha : thas S.seed S.T1 k = true
  · rw [if_pos ha]
    obtain ⟨v0, R, q1, q2, q3⟩ := tput_wf h1.wf1 ha v
    have hall : S.all.Perm ((k, v0) :: (R ++ S.T2.flatten)) := q2.append_right _
    have hall2 : (⟨S.seed, tput S.seed S.T1 k v, S.T2, S.ix⟩ : DS).all.Perm ((k, v) :: (R ++ S.T2.flatten)) := q3.append_right _
    have hcn : cnt (tput S.seed S.T1 k v) = cnt S.T1 := by unfold cnt; rw [q2.length_eq, q3.length_eq]; rfl
    have hnd : ((⟨S.seed, tput S.seed S.T1 k v, S.T2, S.ix⟩ : DS).all.map (·.1)).Nodup := by
      rw [(hall2.map _).nodup_iff]
      have := h1.nd
      rw [(hall.map _).nodup_iff] at this
      exact this
    refine ⟨⟨q1, h1.wf2, hnd, fun hm => by show 0 < cnt (tput S.seed S.T1 k v); rw [hcn]; exact h1.mv hm, fun hm i hi hx => ?_, fun e he => ?_, by show (tput S.seed S.T1 k v).length ≤ _; rw [tput_len]; exact h1.sz1, h1.sz2, fun hm => by show cnt (tput S.seed S.T1 k v) ≤ 2 * (tput S.seed S.T1 k v).length; rw [hcn, tput_len]; exact h1.me1 hm, fun hm => by show cnt (tput S.seed S.T1 k v) + cnt S.T2 + min (cnt (tput S.seed S.T1 k v)) ((tput S.seed S.T1 k v).length - S.ix) ≤ _; rw [hcn, tput_len]; exact h1.me2 hm⟩, h3, fun hn => ?_, fun _ => ⟨v0, _, h2.symm.trans hall, hall2⟩⟩
    · have hi2 : i < S.T1.length := by rw [← tput_len S.seed S.T1 k v]; exact hi
      exact tput_low ha hi hi2 (h1.low hm i hi2 hx)
    · rcases List.mem_cons.1 (hall2.mem_iff.1 he) with rfl | he
      · exact hk
      · exact h1.keys e (hall.mem_iff.2 (List.mem_cons_of_mem _ he))
    · unfold DS.has at hn; rw [ha] at hn; cases hn
  · have ha' : thas S.seed S.T1 k = false := by simpa using ha
    rw [if_neg ha]
    by_cases hb : thas S.seed S.T2 k = true
    · rw [if_pos hb]
      have hT2 : S.T2 ≠ [] := fun e => by rw [e] at hb; cases hb
      obtain ⟨v0, R, q1, q2, q3⟩ := tput_wf h1.wf2 hb v
      have hall : S.all.Perm ((k, v0) :: (S.T1.flatten ++ R)) := (List.Perm.append_left _ q2).trans List.perm_middle
      have hall2 : (⟨S.seed, S.T1, tput S.seed S.T2 k v, S.ix⟩ : DS).all.Perm ((k, v) :: (S.T1.flatten ++ R)) := (List.Perm.append_left _ q3).trans List.perm_middle
      have hcn : cnt (tput S.seed S.T2 k v) = cnt S.T2 := by unfold cnt; rw [q2.length_eq, q3.length_eq]; rfl
      have hnd : ((⟨S.seed, S.T1, tput S.seed S.T2 k v, S.ix⟩ : DS).all.map (·.1)).Nodup := by
        rw [(hall2.map _).nodup_iff]
        have := h1.nd
        rw [(hall.map _).nodup_iff] at this
        exact this
      refine ⟨⟨h1.wf1, q1, hnd, fun hm => h1.mv hT2, fun hm => h1.low hT2, fun e he => ?_, h1.sz1, by show (tput S.seed S.T2 k v).length ≤ _; rw [tput_len]; exact h1.sz2, fun e => absurd e (ne_of_len (tput_len ..) hT2), fun hm => by show cnt S.T1 + cnt (tput S.seed S.T2 k v) + min (cnt S.T1) (S.T1.length - S.ix) ≤ 2 * (tput S.seed S.T2 k v).length; rw [hcn, tput_len]; exact h1.me2 hT2⟩, h3, fun hn => ?_, fun _ => ⟨v0, _, h2.symm.trans hall, hall2⟩⟩
      · rcases List.mem_cons.1 (hall2.mem_iff.1 he) with rfl | he
        · exact hk
        · exact h1.keys e (hall.mem_iff.2 (List.mem_cons_of_mem _ he))
      · unfold DS.has at hn; rw [hb, Bool.or_true] at hn; cases hn
    · have hb' : thas S.seed S.T2 k = false := by simpa using hb
      rw [if_neg hb]
      have hno : k ∉ S.all.map (·.1) := fun hm => by
        have := (all_keys h1 k).2 hm
        unfold DS.has at this; rw [ha', hb'] at this; cases this
      obtain ⟨r1, r2, r3⟩ := roomD_ok h1 (by omega) hrm
      have hno2 : k ∉ (roomD S).all.map (·.1) := fun hm => hno ((r2.map _).mem_iff.1 hm)
      have hcr : cnt (roomD S).T1 + cnt (roomD S).T2 = cnt S.T1 + cnt S.T2 := by
        have := r2.length_eq
        rwa [DS.all_len, DS.all_len] at this
      have hsd := roomD_seed S
      generalize roomD S = Q at *
      rw [← hsd]
      obtain ⟨k1, k2⟩ := key_no r1 hno2
      have fin : ∀ Q' : DS, Q'.all.Perm ((k, v) :: Q.all) → (Q'.all.map (·.1)).Nodup ∧ (∀ e ∈ Q'.all, e.1.size ≤ 281474976710656) ∧ ((!S.has k) = true → k ∉ D.all.map (·.1) ∧ Q'.all.Perm ((k, v) :: D.all)) ∧ ((!S.has k) = false → ∃ v0 R, D.all.Perm ((k, v0) :: R) ∧ Q'.all.Perm ((k, v) :: R)) := by
        intro Q' hp
        refine ⟨?_, fun e he => ?_, fun _ => ⟨fun hm => hno ((h2.map _).mem_iff.2 hm), hp.trans (List.Perm.cons _ (r2.trans h2))⟩, fun hn => ?_⟩
        · rw [(hp.map _).nodup_iff, List.map_cons]
          exact List.nodup_cons.2 ⟨hno2, r1.nd⟩
        · rcases List.mem_cons.1 (hp.mem_iff.1 he) with rfl | he
          · exact hk
          · exact r1.keys e he
        · unfold DS.has at hn; rw [ha', hb'] at hn; cases hn
      by_cases hm : Q.T2 ≠ []
      · rw [if_pos hm]
        obtain ⟨q1, q2⟩ := tadd_wf r1.wf2 hm k2 v
        have hp : (⟨Q.seed, Q.T1, tadd Q.seed Q.T2 k v, Q.ix⟩ : DS).all.Perm ((k, v) :: Q.all) := (List.Perm.append_left _ q2).trans List.perm_middle
        have hcn : cnt (tadd Q.seed Q.T2 k v) = cnt Q.T2 + 1 := by unfold cnt; rw [q2.length_eq]; rfl
        obtain ⟨f1, f2, f3, f4⟩ := fin _ hp
        refine ⟨⟨r1.wf1, q1, f1, fun _ => r1.mv hm, fun _ => r1.low hm, f2, r1.sz1, by show (tadd Q.seed Q.T2 k v).length ≤ _; rw [tadd_len]; exact r1.sz2, fun e => absurd e (ne_of_len (tadd_len ..) hm), fun _ => ?_⟩, hsd.trans h3, f3, f4⟩
        have := r3.b hm
        show cnt Q.T1 + cnt (tadd Q.seed Q.T2 k v) + min (cnt Q.T1) (Q.T1.length - Q.ix) ≤ 2 * (tadd Q.seed Q.T2 k v).length
        rw [hcn, tadd_len]; omega
      · rw [if_neg hm]
        have hm' : Q.T2 = [] := Decidable.not_not.1 hm
        obtain ⟨hne, hlt⟩ := r3.a hm'
        obtain ⟨q1, q2⟩ := tadd_wf r1.wf1 hne k1 v
        have hp : (⟨Q.seed, tadd Q.seed Q.T1 k v, Q.T2, Q.ix⟩ : DS).all.Perm ((k, v) :: Q.all) := q2.append_right _
        have hcn : cnt (tadd Q.seed Q.T1 k v) = cnt Q.T1 + 1 := by unfold cnt; rw [q2.length_eq]; rfl
        obtain ⟨f1, f2, f3, f4⟩ := fin _ hp
        refine ⟨⟨q1, r1.wf2, f1, fun e => absurd hm' e, fun e => absurd hm' e, f2, by show (tadd Q.seed Q.T1 k v).length ≤ _; rw [tadd_len]; exact r1.sz1, r1.sz2, fun _ => ?_, fun e => absurd hm' e⟩, hsd.trans h3, f3, f4⟩
        show cnt (tadd Q.seed Q.T1 k v) ≤ 2 * (tadd Q.seed Q.T1 k v).length
        rw [hcn, tadd_len]; omega
/-- what Delete does. -/
structure DelIs (D D' : DS) (k : ByteArray) (was : Bool) : Prop where
  inv : DInv D'
  seed : D'.seed = D.seed
  hit : was = true → ∃ v0, D.all.Perm ((k, v0) :: D'.all)
  miss : was = false → k ∉ D.all.map (·.1) ∧ D'.all.Perm D.all
theorem beginD_seed (D : DS) (s : Nat) : (beginD D s).seed = D.seed := by unfold beginD; rw [endD_seed]
theorem giveD_ok {D : DS} (h : DInv D) : DInv (giveD D) ∧ (giveD D).all.Perm D.all ∧ (giveD D).seed = D.seed := by
  unfold giveD
  split
  · exact ⟨h, List.Perm.refl _, rfl⟩
  · next hx =>
    rw [not_or, not_or] at hx
    have hm : D.T2 = [] := Decidable.not_not.1 hx.1
    obtain ⟨i, u1, u2, u3⟩ := upS_ok (cnt D.T1)
    have he : upS (cnt D.T1) = 2 ^ (i + 2) := by rw [u1, Nat.pow_add]; omega
    have hsz := h.sz1
    have hi : i + 2 ≤ 42 := by
      rcases u3 with h0 | h0
      · omega
      · rcases Nat.lt_or_ge 42 (i + 2) with h3 | h3
        · have : 2 ^ 41 ≤ 2 ^ i := Nat.pow_le_pow_right (by omega) (by omega)
          omega
        · exact h3
    obtain ⟨q1, q2⟩ := beginD_ok h hm (i + 2) (by omega) hi (by rw [← he]; omega)
    rw [he]
    exact ⟨q1, q2, beginD_seed ..⟩
theorem cutD_ok {D : DS} (h : DInv D) {k : ByteArray} (hk : D.has k = true) : DPre (cutD D k) ∧ ∃ v0, D.all.Perm ((k, v0) :: (cutD D k).all) := by
  unfold cutD
  by_cases ha : thas D.seed D.T1 k = true
  · rw [if_pos ha]
    obtain ⟨v0, q1, q2⟩ := tdrop_wf h.wf1 ha
    have hall : D.all.Perm ((k, v0) :: (⟨D.seed, tdrop D.seed D.T1 k, D.T2, D.ix⟩ : DS).all) := q2.append_right _
    have hcn : cnt D.T1 = cnt (tdrop D.seed D.T1 k) + 1 := by unfold cnt; rw [q2.length_eq]; rfl
    refine ⟨⟨q1, h.wf2, ?_, fun hm i hi hx => ?_, fun e he => h.keys e (hall.mem_iff.2 (List.mem_cons_of_mem _ he)), by show (tdrop D.seed D.T1 k).length ≤ _; rw [tdrop_len]; exact h.sz1, h.sz2, fun hm => ?_, fun hm => ?_⟩, v0, hall⟩
    · have := h.nd
      rw [(hall.map _).nodup_iff, List.map_cons] at this
      exact (List.nodup_cons.1 this).2
    · have hi2 : i < D.T1.length := by rw [← tdrop_len D.seed D.T1 k]; exact hi
      exact tdrop_low hi hi2 (h.low hm i hi2 hx)
    · have := h.me1 hm
      show cnt (tdrop D.seed D.T1 k) ≤ 2 * (tdrop D.seed D.T1 k).length
      rw [tdrop_len]; omega
    · have := h.me2 hm
      show cnt (tdrop D.seed D.T1 k) + cnt D.T2 + min (cnt (tdrop D.seed D.T1 k)) ((tdrop D.seed D.T1 k).length - D.ix) ≤ 2 * D.T2.length
      rw [tdrop_len]; omega
  · rw [if_neg ha]
    have hb : thas D.seed D.T2 k = true := by
      unfold DS.has at hk
      have ha' : thas D.seed D.T1 k = false := by simpa using ha
      rw [ha', Bool.false_or] at hk; exact hk
    have hT2 : D.T2 ≠ [] := fun e => by rw [e] at hb; cases hb
    obtain ⟨v0, q1, q2⟩ := tdrop_wf h.wf2 hb
    have hall : D.all.Perm ((k, v0) :: (⟨D.seed, D.T1, tdrop D.seed D.T2 k, D.ix⟩ : DS).all) := (List.Perm.append_left _ q2).trans List.perm_middle
    have hcn : cnt D.T2 = cnt (tdrop D.seed D.T2 k) + 1 := by unfold cnt; rw [q2.length_eq]; rfl
    refine ⟨⟨h.wf1, q1, ?_, fun _ => h.low hT2, fun e he => h.keys e (hall.mem_iff.2 (List.mem_cons_of_mem _ he)), h.sz1, by show (tdrop D.seed D.T2 k).length ≤ _; rw [tdrop_len]; exact h.sz2, fun e => absurd e (ne_of_len (tdrop_len ..) hT2), fun _ => ?_⟩, v0, hall⟩
    · have := h.nd
      rw [(hall.map _).nodup_iff, List.map_cons] at this
      exact (List.nodup_cons.1 this).2
    · have := h.me2 hT2
      show cnt D.T1 + cnt (tdrop D.seed D.T2 k) + min (cnt D.T1) (D.T1.length - D.ix) ≤ 2 * (tdrop D.seed D.T2 k).length
      rw [tdrop_len]; omega
theorem cutD_seed (D : DS) (k : ByteArray) : (cutD D k).seed = D.seed := by unfold cutD; split <;> rfl
theorem deleteD_ok {D : DS} (h : DInv D) (k : ByteArray) : DelIs D (deleteD D k) k ((stepD D).has k) := by
  obtain ⟨h1, h2, h3⟩ := stepD_ok h
  unfold deleteD
  generalize stepD D = S at *
  by_cases hk : S.has k = true
  · rw [if_pos hk, hk]
    obtain ⟨c1, v0, c2⟩ := cutD_ok h1 hk
    obtain ⟨g1, g2, g3⟩ := giveD_ok c1.fin
    refine ⟨g1, ?_, fun _ => ⟨v0, ?_⟩, fun e => by cases e⟩
    · rw [g3, endD_seed, cutD_seed, h3]
    · exact h2.symm.trans (c2.trans (List.Perm.cons _ (g2.trans (endD_all _)).symm))
  · rw [if_neg hk]
    have hk' : S.has k = false := by simpa using hk
    rw [hk']
    refine ⟨h1, h3, fun e => by (cases e), fun _ => ⟨fun hm => ?_, h2⟩⟩
    exact hk ((all_keys h1 k).2 ((h2.map _).mem_iff.2 hm))
theorem newD_ok (seed : Int) : DInv ⟨seed, [], [], 0⟩ := ⟨TWf.nil _, TWf.nil _, by simp [DS.all], fun e => absurd rfl e, fun e => absurd rfl e, by simp [DS.all], by simp, by simp, fun _ => by simp [cnt], fun e => absurd rfl e⟩
end Go.Proofs.Ytdemodhjlbkbeab
