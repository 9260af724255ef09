import Derived.Test.YtgbplghokciimaaDoorSkN
import Derived.Lib.TrailingZeros
namespace Go.Proofs.YtgbplghokciimaaDoor
open Go.RowKit
set_option linter.unusedVariables false
theorem insT_perm0 (T : List Tw) (k : Nat) (t : Tw) : (insT T k t).Perm (t :: T) := by
  have := List.perm_middle (a := t) (l₁ := T.take k) (l₂ := T.drop k)
  rwa [List.take_append_drop] at this
/-- how many towers are of height j + 1. -/
def cntT (T : List Tw) (j : Nat) : Nat := T.countP fun t => decide (t.h = j + 1)
theorem cntT_ins (T : List Tw) (k : Nat) (t : Tw) (j : Nat) : cntT (insT T k t) j = cntT T j + if t.h = j + 1 then 1 else 0 := by
  unfold cntT
  rw [(insT_perm0 T k t).countP_eq, List.countP_cons]
  simp
theorem cntT_zero {T : List Tw} {j : Nat} (h : cntT T j = 0) : ∀ t ∈ T, t.h ≠ j + 1 := fun t ht => by
  have := List.countP_eq_zero.1 h t ht
  simpa using this
theorem cntT_pos {T : List Tw} {j : Nat} (h : cntT T j ≠ 0) : ∃ t ∈ T, t.h = j + 1 := by
  obtain ⟨t, ht, e⟩ := List.countP_pos_iff.1 (Nat.pos_of_ne_zero h)
  exact ⟨t, ht, by simpa using e⟩
theorem cntT_le (T : List Tw) (j : Nat) : cntT T j ≤ T.length := List.countP_le_length
/-- the greatest height. -/
structure IsTop (T : List Tw) (H : Nat) : Prop where
  le : ∀ x ∈ hts T, x ≤ H
  at_ : H = 0 ∨ ∃ t ∈ T, t.h = H
theorem IsTop.one {T : List Tw} {H H' : Nat} (h : IsTop T H) (h' : IsTop T H') : H = H' := by
  have key : ∀ {A B : Nat}, IsTop T A → IsTop T B → A ≤ B := fun {A B} ha hb => by
    rcases ha.at_ with e | ⟨t, ht, e⟩
    · omega
    · have := hb.le t.h (List.mem_map.2 ⟨t, ht, rfl⟩); omega
  exact Nat.le_antisymm (key h h') (key h' h)
theorem IsTop.ins {T : List Tw} {H : Nat} (h : IsTop T H) (k : Nat) (t : Tw) : IsTop (insT T k t) (max H t.h) := by
  have hp := insT_perm0 T k t
  refine ⟨fun x hx => ?_, ?_⟩
  · have := (hp.map Tw.h).mem_iff.1 hx
    rw [List.map_cons, List.mem_cons] at this
    rcases this with e | e
    · omega
    · have := h.le x e; omega
  · rcases Nat.lt_or_ge H t.h with h1 | h1
    · exact Or.inr ⟨t, hp.mem_iff.2 (by simp), by omega⟩
    · rcases h.at_ with e | ⟨u, hu, e⟩
      · exact Or.inl (by omega)
      · exact Or.inr ⟨u, hp.mem_iff.2 (by simp [hu]), by omega⟩
theorem plc_dec {L : List En} (h : Brd L) (x : En) (q : Nat) (hq : q < L.length) : ahd L[q] x = decide (q < plc L x) := by
  by_cases hk : q < plc L x
  · rw [decide_eq_true hk]
    refine plc_lo L x _ ?_
    exact List.mem_iff_getElem.2 ⟨q, by rw [List.length_take]; omega, by rw [List.getElem_take]⟩
  · rw [decide_eq_false hk]
    refine plc_hi h.up x _ ?_
    exact List.mem_iff_getElem.2 ⟨q - plc L x, by rw [List.length_drop]; omega, by rw [List.getElem_drop]; congr 1; omega⟩
theorem self_dec {L : List En} (h : Brd L) {k q : Nat} (hk : k < L.length) (hq : q < L.length) : ahd L[q] L[k] = decide (q < k) := by
  have hp := List.pairwise_iff_getElem.1 h.up
  rcases Nat.lt_trichotomy q k with h1 | h1 | h1
  · rw [decide_eq_true h1]; exact hp q k hq hk h1
  · subst h1; rw [decide_eq_false (by omega)]; exact ahd_irr _
  · rw [decide_eq_false (by omega)]; exact ahd_asym (hp k q hk hq h1)
abbrev ens (T : List Tw) : List En := T.map Tw.e
theorem ens_len (T : List Tw) : (ens T).length = T.length := by simp
theorem insT_ens (T : List Tw) (k : Nat) (t : Tw) : ens (insT T k t) = (ens T).take k ++ t.e :: (ens T).drop k := by
  unfold insT ens
  rw [List.map_append, List.map_cons, List.map_take, List.map_drop]
theorem insT_insM (T : List Tw) (t : Tw) : ens (insT T (plc (ens T) t.e) t) = insM (ens T) t.e := insT_ens _ _ _
theorem split_at {T : List Tw} {k : Nat} (hk : k < T.length) : ∃ T', T = insT T' k T[k] ∧ T'.length + 1 = T.length ∧ k ≤ T'.length := by
  refine ⟨T.take k ++ T.drop (k + 1), ?_, ?_, ?_⟩
  · unfold insT
    have hl : (T.take k).length = k := by rw [List.length_take]; omega
    have e1 : (T.take k ++ T.drop (k + 1)).take k = T.take k := by
      have := List.take_left (l₁ := T.take k) (l₂ := T.drop (k + 1)); rwa [hl] at this
    have e2 : (T.take k ++ T.drop (k + 1)).drop k = T.drop (k + 1) := by
      have := List.drop_left (l₁ := T.take k) (l₂ := T.drop (k + 1)); rwa [hl] at this
    rw [e1, e2, ← List.drop_eq_getElem_cons hk, List.take_append_drop]
  · rw [List.length_append, List.length_take, List.length_drop]; omega
  · rw [List.length_append, List.length_take, List.length_drop]; omega
theorem dropM_ins {T : List Tw} {k : Nat} {t : Tw} (hn : ((ens (insT T k t)).map (·.1)).Nodup) : dropM (ens (insT T k t)) t.e.1 = ens T := by
  have hp : (((ens (insT T k t)).map (·.1))).Perm (t.e.1 :: (ens T).map (·.1)) := ((insT_perm0 T k t).map Tw.e).map _
  have hno : t.e.1 ∉ (ens T).map (·.1) := (List.nodup_cons.1 (hp.nodup_iff.1 hn)).1
  have hall : ∀ e ∈ ens T, e.1 ≠ t.e.1 := fun e he h => hno (List.mem_map.2 ⟨e, he, h⟩)
  rw [insT_ens]
  unfold dropM
  rw [List.filter_append, List.filter_cons]
  simp only [ne_eq, not_true_eq_false, decide_false, Bool.false_eq_true, if_false]
  rw [← List.filter_append, List.take_append_drop]
  exact List.filter_eq_self.2 (fun e he => by simpa using hall e he)
theorem dropM_none {L : List En} {m : ByteArray} (h : m ∉ L.map (·.1)) : dropM L m = L :=
  List.filter_eq_self.2 (fun e he => by
    have : e.1 ≠ m := fun q => h (List.mem_map.2 ⟨e, he, q⟩)
    simpa using this)
/-- the tower of a member. -/
def towOf (T : List Tw) (m : ByteArray) : Option Nat := (T.find? fun t => decide (t.e.1 = m)).map Tw.b
theorem towOf_none {T : List Tw} {m : ByteArray} (h : towOf T m = none) : m ∉ (ens T).map (·.1) := fun hm => by
  obtain ⟨e, he, rfl⟩ := List.mem_map.1 hm
  obtain ⟨t, ht, rfl⟩ := List.mem_map.1 he
  unfold towOf at h
  have := List.find?_eq_none.1 (Option.map_eq_none_iff.1 h) t ht
  simp at this
theorem towOf_some {T : List Tw} {m : ByteArray} {b : Nat} (h : towOf T m = some b) : ∃ k, ∃ hk : k < T.length, T[k].b = b ∧ T[k].e.1 = m := by
  unfold towOf at h
  obtain ⟨t, ht, rfl⟩ := Option.map_eq_some_iff.1 h
  have h1 := List.find?_some ht
  obtain ⟨k, hk, rfl⟩ := List.mem_iff_getElem.1 (List.mem_of_find?_eq_some ht)
  exact ⟨k, hk, rfl, by simpa using h1⟩
theorem towOf_at {T : List Tw} (hn : ((ens T).map (·.1)).Nodup) {k : Nat} (hk : k < T.length) : towOf T T[k].e.1 = some T[k].b := by
  rcases h : towOf T T[k].e.1 with _ | b
  · exact absurd (List.mem_map.2 ⟨T[k].e, List.mem_map.2 ⟨T[k], List.getElem_mem hk, rfl⟩, rfl⟩) (towOf_none h)
  · obtain ⟨j, hj, hb, hm⟩ := towOf_some h
    rw [List.map_map] at hn
    have : j = k := by
      have hp := List.pairwise_iff_getElem.1 hn
      rcases Nat.lt_trichotomy j k with q | q | q
      · exact absurd (by rw [List.getElem_map, List.getElem_map]; exact hm) (hp j k (by simpa using hj) (by simpa using hk) q)
      · exact q
      · exact absurd (by rw [List.getElem_map, List.getElem_map]; exact hm.symm) (hp k j (by simpa using hk) (by simpa using hj) q)
    subst this; rw [hb]
theorem towOf_iff {T : List Tw} (hn : ((ens T).map (·.1)).Nodup) (m : ByteArray) (b : Nat) : towOf T m = some b ↔ ∃ t ∈ T, t.e.1 = m ∧ t.b = b := by
  constructor
  · intro h
    obtain ⟨k, hk, hb, hm⟩ := towOf_some h
    exact ⟨T[k], List.getElem_mem hk, hm, hb⟩
  · rintro ⟨t, ht, rfl, rfl⟩
    obtain ⟨k, hk, rfl⟩ := List.mem_iff_getElem.1 ht
    exact towOf_at hn hk
theorem towOf_ext {T T' : List Tw} (hn : ((ens T).map (·.1)).Nodup) (hn' : ((ens T').map (·.1)).Nodup) {f : ByteArray → Option Nat} (h : ∀ m b, f m = some b ↔ ∃ t ∈ T', t.e.1 = m ∧ t.b = b) : f = towOf T' := by
  funext m
  rcases h1 : f m with _ | b
  · rcases h2 : towOf T' m with _ | b
    · rfl
    · have := (h m b).2 ((towOf_iff hn' m b).1 h2)
      rw [h1] at this; cases this
  · exact ((towOf_iff hn' m b).2 ((h m b).1 h1)).symm
/-! heights -/
/-- 1 and how often 4 divides, f times at most. -/
def hgtF : Nat → Nat → Nat
  | 0, _ => 1
  | f + 1, h => if h % 4 = 0 then 1 + hgtF f (h / 4) else 1
def hgt (h : Nat) : Nat := hgtF 23 h
theorem hgtF_bd : ∀ f h, 1 ≤ hgtF f h ∧ hgtF f h ≤ f + 1
  | 0, h => ⟨Nat.le_refl _, Nat.le_refl _⟩
  | f + 1, h => by
    unfold hgtF
    have := hgtF_bd f (h / 4)
    split <;> omega
theorem hgt_bd (h : Nat) : 1 ≤ hgt h ∧ hgt h ≤ 24 := hgtF_bd 23 h
theorem hgtF_zero : ∀ f, hgtF f 0 = f + 1
  | 0 => rfl
  | f + 1 => by
    unfold hgtF
    rw [if_pos (by omega), Nat.zero_div, hgtF_zero f]; omega
theorem ctz_hgt : ∀ f g x, 0 < x → 2 * f ≤ g → min (1 + Lib.ctzFrom g x / 2) (f + 1) = hgtF f x
  | 0, g, x, h0, hg => by
    show _ = 1
    omega
  | f + 1, g, x, h0, hg => by
    obtain ⟨g', rfl⟩ : ∃ g', g = g' + 1 + 1 := ⟨g - 2, by omega⟩
    unfold Lib.ctzFrom hgtF
    by_cases h1 : x % 2 = 1
    · rw [if_pos h1, if_neg (by omega)]; omega
    · rw [if_neg h1]
      unfold Lib.ctzFrom
      by_cases h2 : x / 2 % 2 = 1
      · rw [if_pos h2, if_neg (by omega)]; omega
      · rw [if_neg h2, if_pos (by omega), Nat.div_div_eq_div_mul, show 2 * 2 = 4 from rfl]
        have := ctz_hgt f g' (x / 4) (by omega) (by omega)
        rw [← this]
        omega
theorem ctz64_hgt (x : Nat) : min (1 + Lib.ctz 64 x / 2) 24 = hgt x := by
  unfold Lib.ctz hgt
  by_cases h : x = 0
  · subst h; rw [if_pos rfl, hgtF_zero]; rfl
  · rw [if_neg h]; exact ctz_hgt 23 64 x (by omega) (by omega)
end Go.Proofs.YtgbplghokciimaaDoor
