import Derived.Test.YtgbplghokciimaaDoorSkM
namespace Go.Proofs.YtgbplghokciimaaDoor
open Go.RowKit
set_option linter.unusedVariables false
theorem tw_spec {α : Type} (f : α → Bool) : ∀ X : List α, (∀ i (h : i < X.length), i < (X.takeWhile f).length → f X[i] = true) ∧ (∀ h : (X.takeWhile f).length < X.length, f X[(X.takeWhile f).length] = false)
  | [] => ⟨fun i h => by simp at h, fun h => by simp at h⟩
  | a :: X => by
    obtain ⟨h1, h2⟩ := tw_spec f X
    rcases ha : f a with _ | _
    · have e : (a :: X).takeWhile f = [] := by simp [ha]
      refine ⟨fun i h hi => by rw [e] at hi; simp at hi, fun h => ?_⟩
      simp only [e, List.length_nil, List.getElem_cons_zero]; exact ha
    · have e : (a :: X).takeWhile f = a :: X.takeWhile f := by simp [ha]
      refine ⟨fun i h hi => ?_, fun h => ?_⟩
      · rw [e] at hi
        cases i with
        | zero => exact ha
        | succ i => exact h1 i (by simpa using h) (by simpa using hi)
      · simp only [e, List.length_cons, List.getElem_cons_succ]
        exact h2 (by rw [e] at h; simpa using h)
/-- the next place at a level. -/
def nx (hs : List Nat) (l p : Nat) : Nat := p + 1 + ((hs.drop p).takeWhile fun h => decide (h ≤ l)).length
theorem nx_is {hs : List Nat} {l p : Nat} (hp : p ≤ hs.length) : IsNxt hs l p (nx hs l p) := by
  obtain ⟨h1, h2⟩ := tw_spec (fun h => decide (h ≤ l)) (hs.drop p)
  have hle : ((hs.drop p).takeWhile fun h => decide (h ≤ l)).length ≤ (hs.drop p).length := (List.takeWhile_sublist _).length_le
  rw [List.length_drop] at hle
  unfold nx
  refine ⟨by omega, by omega, fun h => Or.inr ?_, fun r hr1 hr2 hst => ?_⟩
  · have hlt : ((hs.drop p).takeWhile fun h => decide (h ≤ l)).length < (hs.drop p).length := by rw [List.length_drop]; omega
    have h3 := h2 hlt
    rw [List.getElem_drop] at h3
    refine ⟨_, List.getElem?_eq_getElem (by rw [List.length_drop] at hlt; omega), ?_⟩
    have e : p + 1 + ((hs.drop p).takeWhile fun h => decide (h ≤ l)).length - 1 = p + ((hs.drop p).takeWhile fun h => decide (h ≤ l)).length := by omega
    simp only [e]
    simpa using h3
  · rcases hst with h0 | ⟨h, e, hl⟩
    · omega
    · have hrl : r - 1 - p < (hs.drop p).length := by rw [List.length_drop]; omega
      have h3 := h1 (r - 1 - p) hrl (by omega)
      rw [List.getElem_drop] at h3
      have e2 : p + (r - 1 - p) = r - 1 := by omega
      simp only [e2] at h3
      obtain ⟨hb, e3⟩ := List.getElem?_eq_some_iff.1 e
      rw [e3] at h3
      simp at h3; omega
/-- a tower: its block, the block of its links, its height, its entry. -/
structure Tw where
  b : Nat
  k : Nat
  h : Nat
  e : En
abbrev hts (T : List Tw) : List Nat := T.map Tw.h
def insT (T : List Tw) (k : Nat) (t : Tw) : List Tw := T.take k ++ t :: T.drop k
theorem insT_hts (T : List Tw) (k : Nat) (t : Tw) : hts (insT T k t) = insH (hts T) k t.h := by
  unfold insT insH hts
  rw [List.map_append, List.map_cons, List.map_take, List.map_drop]
theorem insT_len (T : List Tw) (k : Nat) (t : Tw) : (insT T k t).length = T.length + 1 := by
  have := congrArg List.length (insT_hts T k t)
  rw [insH_len] at this
  simpa using this
/-- the tower of a place: the head's, then theirs; behind the last: none. -/
def pAt (hb : Nat) (T : List Tw) : Nat → Option Nat
  | 0 => some hb
  | q + 1 => (T[q]?).map Tw.b
theorem pAt_lo {hb : Nat} {T : List Tw} {k q : Nat} {t : Tw} (hk : k ≤ T.length) (hq : q ≤ k) : pAt hb (insT T k t) q = pAt hb T q := by
  cases q with
  | zero => rfl
  | succ q =>
    show ((T.take k ++ t :: T.drop k)[q]?).map Tw.b = (T[q]?).map Tw.b
    rw [List.getElem?_append_left (by rw [List.length_take]; omega), List.getElem?_take_of_lt (by omega)]
theorem insT_at {T : List Tw} {k : Nat} {t : Tw} (hk : k ≤ T.length) : (insT T k t)[k]? = some t := by
  unfold insT
  have hl : (T.take k).length = k := by rw [List.length_take]; omega
  rw [List.getElem?_append_right (by omega), hl, Nat.sub_self]; rfl
theorem insT_hi {T : List Tw} {k q : Nat} {t : Tw} (hk : k ≤ T.length) (hq : k ≤ q) : (insT T k t)[q + 1]? = T[q]? := by
  unfold insT
  have hl : (T.take k).length = k := by rw [List.length_take]; omega
  rw [List.getElem?_append_right (by omega), hl, show q + 1 - k = (q - k) + 1 by omega, List.getElem?_cons_succ, List.getElem?_drop, show k + (q - k) = q by omega]
theorem insT_lo {T : List Tw} {k q : Nat} {t : Tw} (hk : k ≤ T.length) (hq : q < k) : (insT T k t)[q]? = T[q]? := by
  unfold insT
  rw [List.getElem?_append_left (by rw [List.length_take]; omega), List.getElem?_take_of_lt hq]
theorem pAt_at {hb : Nat} {T : List Tw} {k : Nat} {t : Tw} (hk : k ≤ T.length) : pAt hb (insT T k t) (k + 1) = some t.b := by
  show ((insT T k t)[k]?).map Tw.b = _
  rw [insT_at hk]; rfl
theorem pAt_hi {hb : Nat} {T : List Tw} {k q : Nat} {t : Tw} (hk : k ≤ T.length) (hq : k < q) : pAt hb (insT T k t) (q + 1) = pAt hb T q := by
  cases q with
  | zero => omega
  | succ q =>
    show ((insT T k t)[q + 1]?).map Tw.b = (T[q]?).map Tw.b
    rw [insT_hi hk (by omega)]
/-- a link: where it leads, and over how many places. -/
abbrev Lk := Option Nat × Nat
def lnk (hb : Nat) (T : List Tw) (p l : Nat) : Lk := (pAt hb T (nx (hts T) l p), nx (hts T) l p - p)
theorem hts_len (T : List Tw) : (hts T).length = T.length := by simp
theorem lnk_near {hb : Nat} {T : List Tw} {k p l : Nat} {t : Tw} (hk : k ≤ T.length) (hp : p ≤ k) (hn : nx (hts T) l p ≤ k) : lnk hb (insT T k t) p l = lnk hb T p l := by
  have h1 := nx_is (hs := hts T) (l := l) (p := p) (by rw [hts_len]; omega)
  have h2 := ins_lower (h := t.h) (by rw [hts_len]; exact hk) h1 hn
  have h3 := nx_is (hs := hts (insT T k t)) (l := l) (p := p) (by rw [hts_len, insT_len]; omega)
  rw [← insT_hts] at h2
  have e := h3.one h2
  unfold lnk
  rw [e, pAt_lo hk hn]
theorem lnk_prv {hb : Nat} {T : List Tw} {k p l : Nat} {t : Tw} (hk : k ≤ T.length) (hp : IsPrv (hts T) l k p) : lnk hb (insT T k t) p l = if l < t.h then (some t.b, k + 1 - p) else ((lnk hb T p l).1, (lnk hb T p l).2 + 1) := by
  have hk' : k ≤ (hts T).length := by rw [hts_len]; exact hk
  have h1 := nx_is (hs := hts T) (l := l) (p := p) (Nat.le_trans hp.le hk')
  have h3 := nx_is (hs := hts (insT T k t)) (l := l) (p := p) (by rw [hts_len, insT_len]; have := hp.le; omega)
  by_cases hl : l < t.h
  · rw [if_pos hl]
    have h2 := ins_to (h := t.h) hk' hp hl
    rw [← insT_hts] at h2
    unfold lnk
    rw [h3.one h2, pAt_at hk]
  · rw [if_neg hl]
    have h2 := ins_past (h := t.h) hk' hp h1 hl
    rw [← insT_hts] at h2
    have ho := nxt_over hk' hp h1
    have := h1.lt
    unfold lnk
    rw [h3.one h2, pAt_hi hk ho]
    simp only [Prod.mk.injEq, true_and]; omega
theorem lnk_far {hb : Nat} {T : List Tw} {k p l : Nat} {t : Tw} (hk : k ≤ T.length) (hp : k < p) (hpn : p ≤ T.length) : lnk hb (insT T k t) (p + 1) l = lnk hb T p l := by
  have hk' : k ≤ (hts T).length := by rw [hts_len]; exact hk
  have h1 := nx_is (hs := hts T) (l := l) (p := p) (by rw [hts_len]; exact hpn)
  have h2 := ins_upper (h := t.h) hk' h1 hp
  have h3 := nx_is (hs := hts (insT T k t)) (l := l) (p := p + 1) (by rw [hts_len, insT_len]; omega)
  rw [← insT_hts] at h2
  have := h1.lt
  unfold lnk
  rw [h3.one h2, pAt_hi hk (by omega)]
  simp only [Prod.mk.injEq, true_and]; omega
theorem lnk_new {hb : Nat} {T : List Tw} {k p l : Nat} {t : Tw} (hk : k ≤ T.length) (hp : IsPrv (hts T) l k p) : (lnk hb (insT T k t) (k + 1) l).1 = (lnk hb T p l).1 ∧ (lnk hb (insT T k t) (k + 1) l).2 + (k - p) = (lnk hb T p l).2 := by
  have hk' : k ≤ (hts T).length := by rw [hts_len]; exact hk
  have h1 := nx_is (hs := hts T) (l := l) (p := p) (Nat.le_trans hp.le hk')
  have h2 := ins_on (h := t.h) hk' hp h1
  have h3 := nx_is (hs := hts (insT T k t)) (l := l) (p := k + 1) (by rw [hts_len, insT_len]; omega)
  rw [← insT_hts] at h2
  have ho := nxt_over hk' hp h1
  have := hp.le
  unfold lnk
  rw [h3.one h2, pAt_hi hk ho]
  refine ⟨rfl, ?_⟩
  simp only; omega
/-- who stands at a level, and leads beyond k: the last one up to k. -/
theorem prv_of {hs : List Nat} {l k p : Nat} (hk : k ≤ hs.length) (hp : p ≤ k) (hst : Stand hs l p) (hn : k < nx hs l p) : IsPrv hs l k p := (nx_is (by omega)).stop hst hp hn
theorem prv_far {hs : List Nat} {l k p : Nat} (hk : k ≤ hs.length) (hp : IsPrv hs l k p) : k < nx hs l p := nxt_over hk hp (nx_is (by have := hp.le; omega))
end Go.Proofs.YtgbplghokciimaaDoor
