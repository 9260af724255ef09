namespace Go.Proofs.Gb
set_option linter.unusedVariables false

/-- a step of a pattern: any bytes, or one byte by f (by one alone, where it is no set). -/
structure St where
  any : Bool
  set : Bool
  one : UInt8
  f : UInt8 → Bool
def endSt : St := ⟨false, false, 0, fun _ => false⟩
def starSt : St := ⟨true, false, 0, fun _ => true⟩
def qSt : St := ⟨false, true, 0, fun _ => true⟩
def oneSt (c : UInt8) : St := ⟨false, false, c, fun b => b == c⟩
def sufs (g : List UInt8 → Bool) : List UInt8 → Bool
  | [] => g []
  | b :: t => g (b :: t) || sufs g t
def mt : List St → List UInt8 → Bool
  | [], t => t.isEmpty
  | s :: p, t => if s.any then sufs (mt p) t else match t with
    | [] => false
    | b :: t' => s.f b && mt p t'
theorem sufs_iff (g : List UInt8 → Bool) (t : List UInt8) : sufs g t = true ↔ ∃ a b, t = a ++ b ∧ g b = true := by
  induction t with
  | nil =>
    constructor
    · intro h; exact ⟨[], [], rfl, h⟩
    · rintro ⟨a, b, h, hg⟩
      have hb : b = [] := (List.append_eq_nil_iff.1 h.symm).2
      subst hb; exact hg
  | cons c t ih =>
    simp only [sufs, Bool.or_eq_true]
    constructor
    · rintro (h | h)
      · exact ⟨[], _, rfl, h⟩
      · obtain ⟨a, b, e, hg⟩ := ih.1 h
        exact ⟨c :: a, b, by rw [e]; rfl, hg⟩
    · rintro ⟨a, b, e, hg⟩
      cases a with
      | nil => left; have : b = c :: t := by simpa using e.symm
               subst this; exact hg
      | cons x a =>
        right
        have : t = a ++ b := by simpa using (List.cons.inj e).2
        exact ih.2 ⟨a, b, this, hg⟩
theorem mt_nil (t : List UInt8) : mt [] t = t.isEmpty := rfl
theorem mt_any {s : St} (h : s.any = true) (p : List St) (t : List UInt8) : mt (s :: p) t = sufs (mt p) t := by simp [mt, h]
theorem mt_one_nil {s : St} (h : s.any = false) (p : List St) : mt (s :: p) [] = false := by simp [mt, h]
theorem mt_one_cons {s : St} (h : s.any = false) (p : List St) (b : UInt8) (t : List UInt8) : mt (s :: p) (b :: t) = (s.f b && mt p t) := by simp [mt, h]
theorem mt_append (p q : List St) (t : List UInt8) : mt (p ++ q) t = true ↔ ∃ a b, t = a ++ b ∧ mt p a = true ∧ mt q b = true := by
  induction p generalizing t with
  | nil =>
    constructor
    · intro h; exact ⟨[], t, rfl, rfl, h⟩
    · rintro ⟨a, b, e, h1, h2⟩
      have : a = [] := by simpa [mt] using h1
      subst this; subst e; exact h2
  | cons s p ih =>
    rw [List.cons_append]
    by_cases hs : s.any = true
    · rw [mt_any hs, sufs_iff]
      constructor
      · rintro ⟨a, b, e, h⟩
        obtain ⟨c, d, e2, h1, h2⟩ := (ih b).1 h
        refine ⟨a ++ c, d, by rw [e, e2, List.append_assoc], ?_, h2⟩
        rw [mt_any hs, sufs_iff]
        exact ⟨a, c, rfl, h1⟩
      · rintro ⟨a, b, e, h1, h2⟩
        rw [mt_any hs, sufs_iff] at h1
        obtain ⟨c, d, e2, h3⟩ := h1
        exact ⟨c, d ++ b, by rw [e, e2, List.append_assoc], (ih _).2 ⟨d, b, rfl, h3, h2⟩⟩
    · have hs' : s.any = false := by simpa using hs
      cases t with
      | nil =>
        rw [mt_one_nil hs']
        constructor
        · intro h; cases h
        · rintro ⟨a, b, e, h1, h2⟩
          have : a = [] := (List.append_eq_nil_iff.1 e.symm).1
          subst this
          rw [mt_one_nil hs'] at h1; cases h1
      | cons x t =>
        rw [mt_one_cons hs', Bool.and_eq_true]
        constructor
        · rintro ⟨hf, h⟩
          obtain ⟨a, b, e, h1, h2⟩ := (ih t).1 h
          exact ⟨x :: a, b, by rw [e]; rfl, by rw [mt_one_cons hs', hf, h1]; rfl, h2⟩
        · rintro ⟨a, b, e, h1, h2⟩
          cases a with
          | nil => rw [mt_one_nil hs'] at h1; cases h1
          | cons y a =>
            obtain ⟨rfl, e1⟩ := List.cons.inj e
            rw [mt_one_cons hs', Bool.and_eq_true] at h1
            exact ⟨h1.1, (ih t).2 ⟨a, b, e1, h1.2, h2⟩⟩
theorem mt_congr {p q r : List St} (h : mt q = mt r) : mt (p ++ q) = mt (p ++ r) := by
  funext t
  apply Bool.eq_iff_iff.2
  rw [mt_append, mt_append, h]
theorem mt_two {s s' : St} (h : s.any = true) (h' : s'.any = true) (p : List St) : mt (s :: s' :: p) = mt (s :: p) := by
  funext t
  apply Bool.eq_iff_iff.2
  rw [mt_any h, mt_any h, sufs_iff, sufs_iff]
  constructor
  · rintro ⟨a, b, e, h1⟩
    rw [mt_any h', sufs_iff] at h1
    obtain ⟨c, d, e2, h2⟩ := h1
    exact ⟨a ++ c, d, by rw [e, e2, List.append_assoc], h2⟩
  · rintro ⟨a, b, e, h1⟩
    refine ⟨a, b, e, ?_⟩
    rw [mt_any h', sufs_iff]
    exact ⟨[], b, rfl, h1⟩
/-- a star swallows what stands ahead of it. -/
theorem mt_dom {s : St} (h : s.any = true) (q p : List St) (t : List UInt8) (hm : mt (q ++ s :: p) t = true) : mt (s :: p) t = true := by
  obtain ⟨a, b, e, h1, h2⟩ := (mt_append _ _ _).1 hm
  rw [mt_any h, sufs_iff] at h2 ⊢
  obtain ⟨c, d, e2, h3⟩ := h2
  exact ⟨a ++ c, d, by rw [e, e2, List.append_assoc], h3⟩
/-- stars that follow one another become one. -/
def colF (acc : List St) (s : St) : List St := if s.any = true ∧ (acc.getLast?.map St.any) = some true then acc else acc ++ [s]
theorem col_mt (p : List St) (acc : List St) : mt (p.foldl colF acc) = mt (acc ++ p) := by
  induction p generalizing acc with
  | nil => simp
  | cons s p ih =>
    rw [List.foldl_cons, ih]
    unfold colF
    split
    · rename_i h
      obtain ⟨h1, h2⟩ := h
      obtain ⟨s', e, h3⟩ := Option.map_eq_some_iff.1 h2
      obtain ⟨l, rfl⟩ := List.getLast?_eq_some_iff.1 e
      rw [List.append_assoc, List.append_assoc]
      exact mt_congr (mt_two h3 h1 p).symm
    · rw [List.append_assoc]; rfl
def noAdj (p : List St) : Prop := ∀ k s s', p[k]? = some s → p[k + 1]? = some s' → s.any = true → s'.any = true → False
theorem col_adj1 {acc : List St} (h : noAdj acc) (s : St) : noAdj (colF acc s) := by
  unfold colF
  split
  · exact h
  · rename_i hn
    intro k a b ha hb h1 h2
    by_cases hk : k + 1 < acc.length
    · rw [List.getElem?_append_left (by omega)] at ha
      rw [List.getElem?_append_left hk] at hb
      exact h k a b ha hb h1 h2
    · by_cases hk2 : k + 1 = acc.length
      · rw [List.getElem?_append_left (by omega)] at ha
        rw [List.getElem?_append_right (by omega)] at hb
        simp [hk2] at hb
        subst hb
        apply hn
        refine ⟨h2, ?_⟩
        rw [List.getLast?_eq_getElem?, show acc.length - 1 = k by omega, ha]
        simp [h1]
      · rw [List.getElem?_eq_none (by simp; omega)] at hb
        cases hb
theorem col_adj (p : List St) {acc : List St} (h : noAdj acc) : noAdj (p.foldl colF acc) := by
  induction p generalizing acc with
  | nil => exact h
  | cons s p ih => exact ih (col_adj1 h s)
theorem noAdj_nil : noAdj [] := by intro k s s' h; simp at h
end Go.Proofs.Gb
