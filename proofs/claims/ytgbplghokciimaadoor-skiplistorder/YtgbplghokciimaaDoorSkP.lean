import Derived.Test.YtgbplghokciimaaDoorSkO
namespace Go.Proofs.YtgbplghokciimaaDoor
open Go.RowKit
set_option linter.unusedVariables false
def updL (c : Nat → Lk) (l : Nat) (x : Lk) : Nat → Lk := fun j => if j = l then x else c j
def updP (c : Nat → Nat → Lk) (p : Nat) (f : Nat → Lk) : Nat → Nat → Lk := fun q => if q = p then f else c q
/-- links while a tower comes in: the levels below lv are done. -/
def cI (hb : Nat) (T : List Tw) (k : Nat) (t : Tw) (lv : Nat) : Nat → Nat → Lk := fun p l => if p ≤ k ∧ l < lv then lnk hb (insT T k t) p l else lnk hb T p l
def cT (hb : Nat) (T : List Tw) (k : Nat) (t : Tw) (lv : Nat) : Nat → Lk := fun l => if l < lv then lnk hb (insT T k t) (k + 1) l else (none, 0)
theorem cI_zero (hb : Nat) (T : List Tw) (k : Nat) (t : Tw) : cI hb T k t 0 = lnk hb T := by
  funext p l; unfold cI; rw [if_neg (by omega)]
theorem cT_zero (hb : Nat) (T : List Tw) (k : Nat) (t : Tw) : cT hb T k t 0 = fun _ => (none, 0) := by
  funext l; unfold cT; rw [if_neg (by omega)]
theorem cI_now (hb : Nat) (T : List Tw) (k : Nat) (t : Tw) (lv p : Nat) : cI hb T k t lv p lv = lnk hb T p lv := by
  unfold cI; rw [if_neg (by omega)]
theorem cT_step (hb : Nat) (T : List Tw) (k : Nat) (t : Tw) (lv : Nat) : updL (cT hb T k t lv) lv (lnk hb (insT T k t) (k + 1) lv) = cT hb T k t (lv + 1) := by
  funext l; unfold cT updL
  by_cases h : l = lv
  · subst h; rw [if_pos rfl, if_pos (by omega)]
  · rw [if_neg h]
    show (if l < lv then lnk hb (insT T k t) (k + 1) l else (none, 0)) = _
    by_cases h2 : l < lv
    · rw [if_pos h2, if_pos (by omega)]
    · rw [if_neg h2, if_neg (by omega)]
theorem stand_near {T : List Tw} {k p p' l : Nat} (hk : k ≤ T.length) (hp : IsPrv (hts T) l k p) (hst : Stand (hts T) l p') (hle : p' ≤ k) (hne : p' ≠ p) : nx (hts T) l p' ≤ k := by
  have hlt : p' < p := by
    rcases Nat.lt_or_ge p p' with h | h
    · exact absurd hst (hp.last p' h hle)
    · omega
  have := nxt_to_prv (by rw [hts_len]; exact hk) hp hlt (nx_is (by rw [hts_len]; omega))
  have := hp.le
  omega
theorem cI_step {hb : Nat} {T : List Tw} {k : Nat} {t : Tw} {lv p : Nat} (hk : k ≤ T.length) (hp : IsPrv (hts T) lv k p) {p' l' : Nat} (hst : Stand (hts T) l' p') : updP (cI hb T k t lv) p (updL (cI hb T k t lv p) lv (lnk hb (insT T k t) p lv)) p' l' = cI hb T k t (lv + 1) p' l' := by
  unfold updP
  by_cases h1 : p' = p
  · subst h1
    rw [if_pos rfl]
    unfold updL cI
    by_cases h2 : l' = lv
    · subst h2; rw [if_pos rfl, if_pos ⟨hp.le, by omega⟩]
    · rw [if_neg h2]
      by_cases h3 : p' ≤ k ∧ l' < lv
      · rw [if_pos h3, if_pos ⟨h3.1, by omega⟩]
      · rw [if_neg h3, if_neg (by omega)]
  · rw [if_neg h1]
    unfold cI
    by_cases h2 : p' ≤ k ∧ l' < lv
    · rw [if_pos h2, if_pos ⟨h2.1, by omega⟩]
    · rw [if_neg h2]
      by_cases h3 : p' ≤ k ∧ l' < lv + 1
      · rw [if_pos h3]
        have : l' = lv := by omega
        subst this
        exact (lnk_near hk h3.1 (stand_near hk hp hst h3.1 h1)).symm
      · rw [if_neg h3]
theorem cI_end {hb : Nat} {T : List Tw} {k : Nat} {t : Tw} {H : Nat} : (∀ p, p ≤ k → ∀ l, l < H → cI hb T k t H p l = lnk hb (insT T k t) p l) ∧ (k ≤ T.length → ∀ p, k < p → p ≤ T.length → ∀ l, cI hb T k t H p l = lnk hb (insT T k t) (p + 1) l) := by
  refine ⟨fun p hp l hl => ?_, fun hk p hp hpn l => ?_⟩
  · unfold cI; rw [if_pos ⟨hp, hl⟩]
  · unfold cI; rw [if_neg (by omega), lnk_far hk hp hpn]
/-- what is written at a level: the one ahead, and the one that comes. -/
theorem link_hi {hb : Nat} {T : List Tw} {k : Nat} {t : Tw} {l p : Nat} (hk : k ≤ T.length) (hp : IsPrv (hts T) l k p) (hl : ¬ l < t.h) : lnk hb (insT T k t) p l = ((lnk hb T p l).1, (lnk hb T p l).2 + 1) := by
  rw [lnk_prv hk hp, if_neg hl]
theorem link_lo {hb : Nat} {T : List Tw} {k : Nat} {t : Tw} {l p : Nat} (hk : k ≤ T.length) (hp : IsPrv (hts T) l k p) (hl : l < t.h) : lnk hb (insT T k t) p l = (some t.b, k + 1 - p) ∧ lnk hb (insT T k t) (k + 1) l = ((lnk hb T p l).1, (lnk hb T p l).2 + 1 - (k + 1 - p)) := by
  refine ⟨by rw [lnk_prv hk hp, if_pos hl], ?_⟩
  obtain ⟨h1, h2⟩ := lnk_new (hb := hb) (t := t) hk hp
  refine Prod.ext h1 ?_
  have := hp.le
  simp only
  omega
theorem lnk_room {hb : Nat} {T : List Tw} {k l p : Nat} (hk : k ≤ T.length) (hp : IsPrv (hts T) l k p) : k - p < (lnk hb T p l).2 ∧ (lnk hb T p l).2 ≤ T.length + 1 := by
  have h1 := nx_is (hs := hts T) (l := l) (p := p) (by rw [hts_len]; have := hp.le; omega)
  have h2 := nxt_over (by rw [hts_len]; exact hk) hp h1
  have h3 := h1.le
  rw [hts_len] at h3
  have := hp.le
  unfold lnk
  simp only
  omega
/-- links while a tower is taken out: the levels below lv are done. -/
def cD (hb : Nat) (T : List Tw) (k : Nat) (t : Tw) (lv : Nat) : Nat → Nat → Lk := fun p l => if p ≤ k ∧ l < lv then lnk hb T p l else lnk hb (insT T k t) p l
theorem cD_zero (hb : Nat) (T : List Tw) (k : Nat) (t : Tw) : cD hb T k t 0 = lnk hb (insT T k t) := by
  funext p l; unfold cD; rw [if_neg (by omega)]
theorem cD_now (hb : Nat) (T : List Tw) (k : Nat) (t : Tw) (lv p : Nat) : cD hb T k t lv p lv = lnk hb (insT T k t) p lv := by
  unfold cD; rw [if_neg (by omega)]
theorem cD_own (hb : Nat) (T : List Tw) (k : Nat) (t : Tw) (lv l : Nat) : cD hb T k t lv (k + 1) l = lnk hb (insT T k t) (k + 1) l := by
  unfold cD; rw [if_neg (by omega)]
theorem cD_step {hb : Nat} {T : List Tw} {k : Nat} {t : Tw} {lv p : Nat} (hk : k ≤ T.length) (hp : IsPrv (hts T) lv k p) {p' l' : Nat} (hst : Stand (hts (insT T k t)) l' p') : updP (cD hb T k t lv) p (updL (cD hb T k t lv p) lv (lnk hb T p lv)) p' l' = cD hb T k t (lv + 1) p' l' := by
  unfold updP
  by_cases h1 : p' = p
  · subst h1
    rw [if_pos rfl]
    unfold updL cD
    by_cases h2 : l' = lv
    · subst h2; rw [if_pos rfl, if_pos ⟨hp.le, by omega⟩]
    · rw [if_neg h2]
      by_cases h3 : p' ≤ k ∧ l' < lv
      · rw [if_pos h3, if_pos ⟨h3.1, by omega⟩]
      · rw [if_neg h3, if_neg (by omega)]
  · rw [if_neg h1]
    unfold cD
    by_cases h2 : p' ≤ k ∧ l' < lv
    · rw [if_pos h2, if_pos ⟨h2.1, by omega⟩]
    · rw [if_neg h2]
      by_cases h3 : p' ≤ k ∧ l' < lv + 1
      · rw [if_pos h3]
        have : l' = lv := by omega
        subst this
        have hs' : Stand (hts T) l' p' := by
          rw [insT_hts] at hst
          exact (insH_lo (by rw [hts_len]; exact hk) h3.1).1 hst
        exact lnk_near hk h3.1 (stand_near hk hp hs' h3.1 h1)
      · rw [if_neg h3]
theorem cD_end {hb : Nat} {T : List Tw} {k : Nat} {t : Tw} {H : Nat} : (∀ p, p ≤ k → ∀ l, l < H → cD hb T k t H p l = lnk hb T p l) ∧ (k ≤ T.length → ∀ p, k < p → p ≤ T.length → ∀ l, cD hb T k t H (p + 1) l = lnk hb T p l) := by
  refine ⟨fun p hp l hl => ?_, fun hk p hp hpn l => ?_⟩
  · unfold cD; rw [if_pos ⟨hp, hl⟩]
  · unfold cD; rw [if_neg (by omega), lnk_far hk hp hpn]
theorem prv_ins {T : List Tw} {k : Nat} {t : Tw} {l p : Nat} (hk : k ≤ T.length) : IsPrv (hts (insT T k t)) l k p ↔ IsPrv (hts T) l k p := by
  rw [insT_hts]; exact ins_prv (by rw [hts_len]; exact hk)
end Go.Proofs.YtgbplghokciimaaDoor
