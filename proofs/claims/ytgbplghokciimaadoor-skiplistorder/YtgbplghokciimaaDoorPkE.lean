import Derived.Test.YtgbplghokciimaaDoorPkD
namespace Go.Proofs.YtgbplghokciimaaDoor.I
open Go.RowKit
set_option linter.unusedVariables false
abbrev SkS.setT (S : SkS) (T : List Tw) : SkS := { S with T := T }
theorem insT_get {T : List Tw} {k : Nat} {t : Tw} (hk : k ≤ T.length) (i : Nat) (hi : i < (insT T k t).length) : (i < k ∧ ∃ h : i < T.length, (insT T k t)[i] = T[i]) ∨ (i = k ∧ (insT T k t)[i] = t) ∨ (k < i ∧ ∃ h : i - 1 < T.length, (insT T k t)[i] = T[i - 1]) := by
  have hl := insT_len T k t
  rcases Nat.lt_trichotomy i k with h | h | h
  · left
    refine ⟨h, by omega, ?_⟩
    have := insT_lo (t := t) hk h
    rw [List.getElem?_eq_getElem hi, List.getElem?_eq_getElem (by omega)] at this
    exact Option.some.inj this
  · right; left
    subst h
    refine ⟨rfl, ?_⟩
    have := insT_at (t := t) hk
    rw [List.getElem?_eq_getElem hi] at this
    exact Option.some.inj this
  · right; right
    refine ⟨h, by omega, ?_⟩
    have := insT_hi (t := t) (q := i - 1) hk (by omega)
    rw [show i - 1 + 1 = i by omega, List.getElem?_eq_getElem hi, List.getElem?_eq_getElem (by omega)] at this
    exact Option.some.inj this
theorem insT_perm (T : List Tw) (k : Nat) (t : Tw) : (insT T k t).Perm (t :: T) := by
  have := List.perm_middle (a := t) (l₁ := T.take k) (l₂ := T.drop k)
  rwa [List.take_append_drop] at this
section
variable {W : World} {g : Nat} {S : SkS} {C : Nat → Nat} {n : Nat} {c c' : Nat → Nat → Lk} {pv pv' : Nat → Option Nat}
/-- a tower put in. -/
theorem Sk.ins (h : Sk W g S C n c pv) {k : Nat} {t : Tw} (hk : k ≤ S.T.length) (hb : Blk W t.b (towL t (pv' k)) 63) (hr : Rw W (.slice (some ⟨t.k, 0, none⟩) t.h t.h) t.h (c' (k + 1))) (nb : t.b ∉ S.hb :: S.T.map Tw.b) (nk : t.k ∉ S.hv.ownBlock.toList ++ S.T.map Tw.k) (hc0 : ∀ p, p ≤ k → ∀ l, l < hgA S p → c p l = c' p l) (hc1 : ∀ p, k < p → p ≤ S.T.length → ∀ l, l < hgA S p → c p l = c' (p + 1) l) (hp0 : ∀ i, i < k → pv i = pv' i) (hp1 : ∀ i, k ≤ i → pv i = pv' (i + 1)) : Sk W g (S.setT (insT S.T k t)) C n c' pv' := by
  refine ⟨h.brd, h.head, h.hrow.congr (fun l hl => hc0 0 (Nat.zero_le _) l hl), fun i hi => ?_, fun i hi => ?_, ?_, ?_⟩
  · rcases insT_get hk i hi with ⟨h1, h2, e⟩ | ⟨h1, e⟩ | ⟨h1, h2, e⟩
    · show Blk W (insT S.T k t)[i].b (towL (insT S.T k t)[i] (pv' i)) _
      rw [e, ← hp0 i h1]; exact h.tow i h2
    · subst h1
      show Blk W (insT S.T i t)[i].b (towL (insT S.T i t)[i] (pv' i)) _
      rw [e]; exact hb
    · show Blk W (insT S.T k t)[i].b (towL (insT S.T k t)[i] (pv' i)) _
      have := hp1 (i - 1) (by omega)
      rw [show i - 1 + 1 = i by omega] at this
      rw [e, ← this]; exact h.tow (i - 1) h2
  · rcases insT_get hk i hi with ⟨h1, h2, e⟩ | ⟨h1, e⟩ | ⟨h1, h2, e⟩
    · show Rw W (.slice (some ⟨(insT S.T k t)[i].k, 0, none⟩) (insT S.T k t)[i].h (insT S.T k t)[i].h) (insT S.T k t)[i].h (c' (i + 1))
      rw [e]
      exact (h.row i h2).congr (fun l hl => hc0 (i + 1) h1 l (by rw [hgA_s h2]; exact hl))
    · subst h1
      show Rw W (.slice (some ⟨(insT S.T i t)[i].k, 0, none⟩) (insT S.T i t)[i].h (insT S.T i t)[i].h) (insT S.T i t)[i].h (c' (i + 1))
      rw [e]; exact hr
    · show Rw W (.slice (some ⟨(insT S.T k t)[i].k, 0, none⟩) (insT S.T k t)[i].h (insT S.T k t)[i].h) (insT S.T k t)[i].h (c' (i + 1))
      rw [e]
      refine (h.row (i - 1) h2).congr (fun l hl => ?_)
      have := hc1 (i - 1 + 1) (by omega) h2 l (by rw [hgA_s h2]; exact hl)
      rw [this, show i - 1 + 1 + 1 = i + 1 by omega]
  · show (S.hb :: (insT S.T k t).map Tw.b).Nodup
    have hp := (((insT_perm S.T k t).map Tw.b).cons S.hb)
    rw [hp.nodup_iff]
    have h1 := List.nodup_cons.1 h.ndB
    simp only [List.mem_cons, not_or] at nb
    rw [List.map_cons]
    refine List.nodup_cons.2 ⟨?_, List.nodup_cons.2 ⟨nb.2, h1.2⟩⟩
    simp only [List.mem_cons, not_or]
    exact ⟨fun e => nb.1 e.symm, h1.1⟩
  · show (S.hv.ownBlock.toList ++ (insT S.T k t).map Tw.k).Nodup
    have hp := (((insT_perm S.T k t).map Tw.k).append_left S.hv.ownBlock.toList)
    rw [hp.nodup_iff, List.map_cons, List.perm_middle.nodup_iff]
    exact List.nodup_cons.2 ⟨nk, h.ndK⟩
/-- a tower taken out. -/
theorem Sk.del {T : List Tw} {k : Nat} {t : Tw} (hT : S.T = insT T k t) (h : Sk W g S C n c pv) (hk : k ≤ T.length) (hc0 : ∀ p, p ≤ k → ∀ l, l < hgA (S.setT T) p → c p l = c' p l) (hc1 : ∀ p, k < p → p ≤ T.length → ∀ l, l < hgA (S.setT T) p → c (p + 1) l = c' p l) (hp0 : ∀ i, i < k → pv i = pv' i) (hp1 : ∀ i, k ≤ i → pv (i + 1) = pv' i) : Sk W g (S.setT T) C n c' pv' := by
  have hlen := insT_len T k t
  have get0 : ∀ i (hi : i < T.length), i < k → ∃ hj : i < S.T.length, S.T[i] = T[i] := fun i hi hik => by
    have hj : i < S.T.length := by rw [hT, hlen]; omega
    refine ⟨hj, ?_⟩
    have := insT_lo (t := t) hk hik
    rw [← hT, List.getElem?_eq_getElem hj, List.getElem?_eq_getElem hi] at this
    exact Option.some.inj this
  have get1 : ∀ i (hi : i < T.length), k ≤ i → ∃ hj : i + 1 < S.T.length, S.T[i + 1] = T[i] := fun i hi hik => by
    have hj : i + 1 < S.T.length := by rw [hT, hlen]; omega
    refine ⟨hj, ?_⟩
    have := insT_hi (t := t) (q := i) hk hik
    rw [← hT, List.getElem?_eq_getElem hj, List.getElem?_eq_getElem hi] at this
    exact Option.some.inj this
  refine ⟨h.brd, h.head, h.hrow.congr (fun l hl => hc0 0 (Nat.zero_le _) l hl), fun i hi => ?_, fun i hi => ?_, ?_, ?_⟩
  · rcases Nat.lt_or_ge i k with h1 | h1
    · obtain ⟨hj, e⟩ := get0 i hi h1
      have := h.tow i hj
      rw [e, hp0 i h1] at this; exact this
    · obtain ⟨hj, e⟩ := get1 i hi h1
      have := h.tow (i + 1) hj
      rw [e, hp1 i h1] at this; exact this
  · rcases Nat.lt_or_ge i k with h1 | h1
    · obtain ⟨hj, e⟩ := get0 i hi h1
      have := h.row i hj
      rw [e] at this
      exact this.congr (fun l hl => hc0 (i + 1) h1 l (by rw [hgA_s (S := S.setT T) hi]; exact hl))
    · obtain ⟨hj, e⟩ := get1 i hi h1
      have := h.row (i + 1) hj
      rw [e] at this
      exact this.congr (fun l hl => hc1 (i + 1) (by omega) hi l (by rw [hgA_s (S := S.setT T) hi]; exact hl))
  · have hp := (((insT_perm T k t).map Tw.b).cons S.hb)
    have h1 := h.ndB
    rw [hT, hp.nodup_iff, List.map_cons] at h1
    obtain ⟨h2, h3⟩ := List.nodup_cons.1 h1
    exact List.nodup_cons.2 ⟨fun hm => h2 (List.mem_cons_of_mem _ hm), (List.nodup_cons.1 h3).2⟩
  · have hp := (((insT_perm T k t).map Tw.k).append_left S.hv.ownBlock.toList)
    have h1 := h.ndK
    rw [hT, hp.nodup_iff, List.map_cons, List.perm_middle.nodup_iff] at h1
    exact (List.nodup_cons.1 h1).2
def updF (pv : Nat → Option Nat) (i : Nat) (o : Option Nat) : Nat → Option Nat := fun j => if j = i then o else pv j
theorem Sk.neB (h : Sk W g S C n c pv) {i j : Nat} (hi : i < S.T.length) (hj : j < S.T.length) (hij : i ≠ j) : S.T[i].b ≠ S.T[j].b := by
  have h1 := (List.nodup_cons.1 h.ndB).2
  have := nd_ne h1 (i := i) (j := j) (by simpa using hi) (by simpa using hj) hij
  simpa using this
theorem Sk.neH (h : Sk W g S C n c pv) {i : Nat} (hi : i < S.T.length) : S.T[i].b ≠ S.hb := fun e => (List.nodup_cons.1 h.ndB).1 (by rw [← e]; exact List.mem_map.2 ⟨_, List.getElem_mem hi, rfl⟩)
/-- a tower's block has turned. -/
theorem Sk.setTow (h : Sk W g S C n c pv) {i : Nat} (hi : i < S.T.length) {W' : World} (ho : Only W W' S.T[i].b) {o : Option Nat} (hb : Blk W' S.T[i].b (towL S.T[i] o) 63) : Sk W' g S C n c (updF pv i o) := by
  have hbi := h.tow i hi
  refine ⟨h.brd.to (ho.other _ (h.brd.ne hbi (by decide))), h.head.to (ho.other _ (h.neH hi).symm), h.hrow.to (fun K hK => ho.other _ (h.hrow.ne hK hbi (by decide)).symm), fun j hj => ?_, fun j hj => (h.row j hj).to (fun K hK => ho.other _ ((h.row j hj).ne hK hbi (by decide)).symm), h.ndB, h.ndK⟩
  unfold updF
  by_cases hij : j = i
  · subst hij; rw [if_pos rfl]; exact hb
  · rw [if_neg hij]
    exact (h.tow j hj).to (ho.other _ (h.neB hj hi hij))
theorem Sk.setPrev (h : Sk W g S C n c pv) {i : Nat} (hi : i < S.T.length) (o : Option Nat) : Sk (W.setCell ⟨S.T[i].b, 4, none⟩ (ptr o)) g S C n c (updF pv i o) :=
  h.setTow hi (only_set _ _ _ _) ((h.tow i hi).set 4 (ptr o))
/-- the board's block has turned. -/
theorem Sk.setBrd (h : Sk W g S C n c pv) {W' : World} (ho : Only W W' g) {C' : Nat → Nat} {n' : Nat} (hb : Blk W' g (boardL S.seed S.mb S.hb C' n') 66) : Sk W' g S C' n' c pv :=
  ⟨hb, h.head.to (ho.other _ (h.head.ne h.brd (by decide))), h.hrow.to (fun K hK => ho.other _ (h.hrow.ne hK h.brd (by decide)).symm), fun j hj => (h.tow j hj).to (ho.other _ ((h.tow j hj).ne h.brd (by decide))), fun j hj => (h.row j hj).to (fun K hK => ho.other _ ((h.row j hj).ne hK h.brd (by decide)).symm), h.ndB, h.ndK⟩
theorem Sk.setCount (h : Sk W g S C n c pv) {j : Nat} (hj : j < 24) (x : Nat) : Sk (W.setCell ⟨g, 3 + j, none⟩ (.int .i64 (x : Nat))) g S (updC C j x) n c pv := by
  refine h.setBrd (only_set _ _ _ _) ?_
  have := h.brd.set (3 + j) (.int .i64 (x : Nat))
  rw [boardL_set _ _ _ _ _ _ _ hj] at this; exact this
theorem Sk.setSize (h : Sk W g S C n c pv) (x : Nat) : Sk (W.setCell ⟨g, 27, none⟩ (.int .i64 (x : Nat))) g S C x c pv := h.setBrd (only_set _ _ _ _) (h.brd.set 27 (.int .i64 (x : Nat)))
end
end Go.Proofs.YtgbplghokciimaaDoor.I
