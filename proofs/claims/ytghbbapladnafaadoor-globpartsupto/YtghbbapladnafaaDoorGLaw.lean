import Derived.Test.YtghbbapladnafaaDoorGRef
namespace Go.Proofs.Gb
set_option linter.unusedVariables false
def quote : List UInt8 → List UInt8
  | [] => []
  | b :: s => 92 :: b :: quote s
theorem quote_snoc (l : List UInt8) (b : UInt8) : quote (l ++ [b]) = quote l ++ [92, b] := by
  induction l with
  | nil => rfl
  | cons a l ih => simp only [List.cons_append, quote, ih]
theorem quote_len (l : List UInt8) : (quote l).length = 2 * l.length := by
  induction l with
  | nil => rfl
  | cons a l ih => simp only [quote, List.length_cons, ih]; omega
theorem parse_esc (b : UInt8) (q : List UInt8) : parse (92 :: b :: q) = oneSt b :: parse q := by
  rw [parse_cons (by simp)]
  have he : esc (92 :: b :: q) = true := by unfold esc; simp
  have e : stepF (92 :: b :: q) = (oneSt b, q) := by
    unfold stepF
    have h0 : (92 :: b :: q).getD 0 0 = 92 := rfl
    rw [h0, if_neg (by decide), if_neg (by decide), if_neg (by decide)]
    unfold firstB firstN
    rw [if_pos he, if_pos he]; rfl
  rw [e]
theorem parse_plain (c : UInt8) (q : List UInt8) (h1 : c ≠ 42) (h2 : c ≠ 63) (h3 : c ≠ 91) (h4 : c ≠ 92) : parse (c :: q) = oneSt c :: parse q := by
  rw [parse_cons (by simp)]
  have he : esc (c :: q) = false := by unfold esc; simp [h4]
  have e : stepF (c :: q) = (oneSt c, q) := by
    unfold stepF
    have h0 : (c :: q).getD 0 0 = c := rfl
    rw [h0, if_neg h1, if_neg h2, if_neg h3]
    unfold firstB firstN
    rw [if_neg (by rw [he]; decide), if_neg (by rw [he]; decide)]; rfl
  rw [e]
theorem parse_star (q : List UInt8) : parse (42 :: q) = starSt :: parse q := by
  rw [parse_cons (by simp)]; rfl
theorem parse_q (q : List UInt8) : parse (63 :: q) = qSt :: parse q := by
  rw [parse_cons (by simp)]; rfl
theorem parse_quote (s q : List UInt8) : parse (quote s ++ q) = s.map oneSt ++ parse q := by
  induction s with
  | nil => rfl
  | cons b s ih => simp only [quote, List.cons_append, List.map_cons]; rw [parse_esc, ih]
theorem parse_quote' (s : List UInt8) : parse (quote s) = s.map oneSt := by
  have := parse_quote s []
  rw [List.append_nil, parse_nil, List.append_nil] at this
  exact this
theorem parse_qs (n : Nat) (q : List UInt8) : parse (List.replicate n 63 ++ q) = List.replicate n qSt ++ parse q := by
  induction n with
  | zero => rfl
  | succ n ih => simp only [List.replicate_succ, List.cons_append]; rw [parse_q, ih]
theorem mt_ones (s t : List UInt8) : mt (s.map oneSt) t = (s == t) := by
  apply litOf_mt
  · intro st hs _ _
    obtain ⟨c, _, rfl⟩ := List.mem_map.1 hs
    rfl
  · induction s with
    | nil => rfl
    | cons c s ih => simp only [List.map_cons, litOf]; rw [if_neg (by simp [oneSt]), ih]; rfl
theorem lit_quote (s : List UInt8) : lit (quote s) = some s := by
  unfold lit
  rw [parse_quote']
  induction s with
  | nil => rfl
  | cons c s ih => simp only [List.map_cons, litOf]; rw [if_neg (by simp [oneSt]), ih]; rfl
theorem litOf_len (p : List St) (x : List UInt8) (h : litOf p = some x) : x.length = p.length := by
  induction p generalizing x with
  | nil => have : x = [] := by simpa [litOf] using h.symm
           subst this; rfl
  | cons s p ih =>
    simp only [litOf] at h
    split at h
    · cases h
    · obtain ⟨y, hy, rfl⟩ := Option.map_eq_some_iff.1 h
      simp [ih y hy]
theorem lit_len {l x : List UInt8} (h : lit l = some x) : x.length ≤ l.length := by
  rw [litOf_len _ x h]; exact parse_len _ _
theorem m_quote (s t : List UInt8) : match' (quote s) t false = (s == t) := by
  show mt (parse (quote s)) t = _
  rw [parse_quote', mt_ones]
theorem m_star (t : List UInt8) : match' [42] t false = true := by
  show mt (parse [42]) t = true
  rw [parse_star]; exact mt_star starSt rfl t
theorem m_begins (s t : List UInt8) : match' (quote s ++ [42]) t false = decide (s.length ≤ t.length ∧ t.take s.length = s) := by
  show mt (parse (quote s ++ [42])) t = _
  rw [parse_quote, parse_star, parse_nil, Bool.eq_iff_iff, decide_eq_true_iff, mt_append]
  constructor
  · rintro ⟨a, b, rfl, h1, _⟩
    rw [mt_ones] at h1
    have : s = a := by simpa using h1
    subst this
    simp
  · rintro ⟨h1, h2⟩
    exact ⟨s, t.drop s.length, by have := List.take_append_drop s.length t; rw [h2] at this; exact this.symm, by rw [mt_ones]; simp, mt_star starSt rfl _⟩
theorem m_ends (s t : List UInt8) : match' ([42] ++ quote s) t false = decide (s.length ≤ t.length ∧ t.drop (t.length - s.length) = s) := by
  show mt (parse (42 :: quote s)) t = _
  rw [parse_star, parse_quote', Bool.eq_iff_iff, decide_eq_true_iff, show starSt :: s.map oneSt = [starSt] ++ s.map oneSt from rfl, mt_append]
  constructor
  · rintro ⟨a, b, rfl, _, h1⟩
    rw [mt_ones] at h1
    have : s = b := by simpa using h1
    subst this
    simp
  · rintro ⟨h1, h2⟩
    exact ⟨t.take (t.length - s.length), s, by have := List.take_append_drop (t.length - s.length) t; rw [h2] at this; exact this.symm, mt_star starSt rfl _, by rw [mt_ones]; simp⟩
/-- a star between two patterns. -/
def partL (A : List UInt8) (n : Nat) : List UInt8 := quote A ++ List.replicate n 63
def cutW (A B t : List UInt8) (n i k : Nat) : Bool := match' (partL A n) (t.take i) false && match' (quote B) (t.drop k) false
theorem parse_part (A : List UInt8) (n : Nat) (q : List UInt8) : parse (partL A n ++ q) = (A.map oneSt ++ List.replicate n qSt) ++ parse q := by
  unfold partL; rw [List.append_assoc, parse_quote, parse_qs, List.append_assoc]
theorem m_parts (A B t : List UInt8) (n : Nat) : match' (partL A n ++ [42] ++ quote B) t false = true ↔ ∃ i k, i ≤ k ∧ k ≤ t.length ∧ cutW A B t n i k = true := by
  show mt (parse (partL A n ++ [42] ++ quote B)) t = true ↔ _
  have hp : parse (partL A n) = A.map oneSt ++ List.replicate n qSt := by
    have := parse_part A n []
    rw [List.append_nil, parse_nil, List.append_nil] at this
    exact this
  rw [List.append_assoc, parse_part, List.cons_append, List.nil_append, parse_star, ← hp, mt_append]
  constructor
  · rintro ⟨a, b, rfl, h1, h2⟩
    rw [mt_any rfl, sufs_iff] at h2
    obtain ⟨c, d, rfl, h3⟩ := h2
    refine ⟨a.length, a.length + c.length, by omega, by simp, ?_⟩
    unfold cutW
    rw [Bool.and_eq_true]
    refine ⟨?_, ?_⟩
    · show mt (parse (partL A n)) _ = true
      rw [List.take_left]; exact h1
    · show mt (parse (quote B)) _ = true
      rw [← List.append_assoc, show a.length + c.length = (a ++ c).length by simp, List.drop_left]; exact h3
  · rintro ⟨i, k, hik, hk, h⟩
    unfold cutW at h
    rw [Bool.and_eq_true] at h
    refine ⟨t.take i, t.drop i, (List.take_append_drop i t).symm, h.1, ?_⟩
    rw [mt_any rfl, sufs_iff]
    refine ⟨(t.drop i).take (k - i), t.drop k, ?_, h.2⟩
    have := (List.take_append_drop (k - i) (t.drop i)).symm
    rw [List.drop_drop, show i + (k - i) = k by omega] at this
    exact this
theorem m_parts2 (A B t : List UInt8) (n : Nat) : match' (partL A n ++ [42, 42] ++ quote B) t false = match' (partL A n ++ [42] ++ quote B) t false := by
  show mt (parse (partL A n ++ [42, 42] ++ quote B)) t = mt (parse (partL A n ++ [42] ++ quote B)) t
  rw [List.append_assoc, parse_part, List.append_assoc (partL A n) [42] (quote B), parse_part]
  show mt (_ ++ parse (42 :: 42 :: quote B)) t = mt (_ ++ parse (42 :: quote B)) t
  rw [parse_star, parse_star]
  exact congrFun (mt_congr (mt_two rfl rfl _)) t
def inn (W : Nat → Nat → Bool) (i : Nat) : Nat → Bool
  | 0 => false
  | k + 1 => inn W i k || (decide (i ≤ k) && W i k)
def outW (W : Nat → Nat → Bool) (n : Nat) : Nat → Bool
  | 0 => false
  | i + 1 => outW W n i || inn W i (n + 1)
theorem inn_iff (W : Nat → Nat → Bool) (i m : Nat) : inn W i m = true ↔ ∃ k, k < m ∧ i ≤ k ∧ W i k = true := by
  induction m with
  | zero => simp [inn]
  | succ m ih =>
    simp only [inn, Bool.or_eq_true, Bool.and_eq_true, decide_eq_true_iff]
    rw [ih]
    constructor
    · rintro (⟨k, h1, h2, h3⟩ | ⟨h1, h2⟩)
      · exact ⟨k, by omega, h2, h3⟩
      · exact ⟨m, by omega, h1, h2⟩
    · rintro ⟨k, h1, h2, h3⟩
      by_cases e : k = m
      · subst e; exact Or.inr ⟨h2, h3⟩
      · exact Or.inl ⟨k, by omega, h2, h3⟩
theorem outW_iff (W : Nat → Nat → Bool) (n m : Nat) : outW W n m = true ↔ ∃ i k, i < m ∧ k ≤ n ∧ i ≤ k ∧ W i k = true := by
  induction m with
  | zero => simp [outW]
  | succ m ih =>
    simp only [outW, Bool.or_eq_true]
    rw [ih, inn_iff]
    constructor
    · rintro (⟨i, k, h1, h2, h3, h4⟩ | ⟨k, h1, h2, h3⟩)
      · exact ⟨i, k, by omega, h2, h3, h4⟩
      · exact ⟨m, k, by omega, by omega, h2, h3⟩
    · rintro ⟨i, k, h1, h2, h3, h4⟩
      by_cases e : i = m
      · subst e; exact Or.inr ⟨k, by omega, h3, h4⟩
      · exact Or.inl ⟨i, k, by omega, h2, h3, h4⟩
theorem inn_self (W : Nat → Nat → Bool) (i : Nat) : inn W i i = false := by
  apply Bool.eq_false_iff.2
  intro h
  obtain ⟨k, h1, h2, _⟩ := (inn_iff W i i).1 h
  omega
theorem parts_want (A B t : List UInt8) (n : Nat) : match' (partL A n ++ [42] ++ quote B) t false = outW (cutW A B t n) t.length (t.length + 1) := by
  rw [Bool.eq_iff_iff, m_parts, outW_iff]
  constructor
  · rintro ⟨i, k, h1, h2, h3⟩; exact ⟨i, k, by omega, h2, h1, h3⟩
  · rintro ⟨i, k, h1, h2, h3, h4⟩; exact ⟨i, k, h3, h2, h4⟩
/-- folding. -/
def upB (c : UInt8) : UInt8 := if 97 ≤ c ∧ c ≤ 122 then c - 32 else c
theorem low_up (c : UInt8) : lowB (upB c) = lowB c := by
  have : ∀ n : Fin 256, lowB (upB (UInt8.ofNat n.val)) = lowB (UInt8.ofNat n.val) := by decide +kernel
  have h := this ⟨c.toNat, c.toNat_lt⟩
  simpa using h
theorem low_low (c : UInt8) : lowB (lowB c) = lowB c := by
  have : ∀ n : Fin 256, lowB (lowB (UInt8.ofNat n.val)) = lowB (UInt8.ofNat n.val) := by decide +kernel
  have h := this ⟨c.toNat, c.toNat_lt⟩
  simpa using h
theorem low_mark (c d : UInt8) (hd : d = 42 ∨ d = 63 ∨ d = 91 ∨ d = 92) : lowB c = d ↔ c = d := by
  have : ∀ n : Fin 256, (lowB (UInt8.ofNat n.val) = 42 ↔ UInt8.ofNat n.val = 42) ∧ (lowB (UInt8.ofNat n.val) = 63 ↔ UInt8.ofNat n.val = 63) ∧ (lowB (UInt8.ofNat n.val) = 91 ↔ UInt8.ofNat n.val = 91) ∧ (lowB (UInt8.ofNat n.val) = 92 ↔ UInt8.ofNat n.val = 92) := by decide +kernel
  have h := this ⟨c.toNat, c.toNat_lt⟩
  have e : UInt8.ofNat (⟨c.toNat, c.toNat_lt⟩ : Fin 256).val = c := by simp
  rw [e] at h
  rcases hd with rfl | rfl | rfl | rfl
  · exact h.1
  · exact h.2.1
  · exact h.2.2.1
  · exact h.2.2.2
theorem fold_up (l : List UInt8) : fold (l.map upB) = fold l := by
  unfold fold
  rw [List.map_map]
  apply List.map_congr_left
  intro c _
  exact low_up c
theorem fold_fold (l : List UInt8) : fold (fold l) = fold l := by
  unfold fold
  rw [List.map_map]
  apply List.map_congr_left
  intro c _
  exact low_low c
theorem fold_getD (l : List UInt8) (k : Nat) (h : k < l.length) : (fold l).getD k 0 = lowB (l.getD k 0) := by
  unfold fold
  rw [List.getD_eq_getElem?_getD, List.getD_eq_getElem?_getD, List.getElem?_map, List.getElem?_eq_getElem h]; rfl
theorem mt_fold_mono (p q : List St) (hl : p.length = q.length) (h : ∀ (k : Nat) (s s' : St), p[k]? = some s → q[k]? = some s' → s.any = s'.any ∧ ∀ b, s.f b = true → s'.f (lowB b) = true) (t : List UInt8) (hm : mt p t = true) : mt q (fold t) = true := by
  induction p generalizing q t with
  | nil =>
    have : q = [] := List.length_eq_zero_iff.1 hl.symm
    subst this
    have : t = [] := by simpa [mt] using hm
    subst this; rfl
  | cons s p ih =>
    cases q with
    | nil => simp at hl
    | cons s' q =>
      have h0 := h 0 s s' rfl rfl
      have ih' := ih q (by simpa using hl) (fun k a b ha hb => h (k + 1) a b (by simpa using ha) (by simpa using hb))
      by_cases ha : s.any = true
      · rw [mt_any ha, sufs_iff] at hm
        obtain ⟨a, b, rfl, h2⟩ := hm
        rw [mt_any (by rw [← h0.1]; exact ha), sufs_iff]
        exact ⟨fold a, fold b, by unfold fold; rw [List.map_append], ih' b h2⟩
      · have ha' : s.any = false := by simpa using ha
        cases t with
        | nil => rw [mt_one_nil ha'] at hm; cases hm
        | cons x t =>
          rw [mt_one_cons ha', Bool.and_eq_true] at hm
          show mt (s' :: q) (lowB x :: fold t) = true
          rw [mt_one_cons (by rw [← h0.1]; exact ha'), h0.2 x hm.1, ih' t hm.2]; rfl
def foldSt (s : St) : St := if s.any || s.set then s else oneSt (lowB s.one)
theorem fold_drop (l : List UInt8) (k : Nat) : fold (l.drop k) = (fold l).drop k := by unfold fold; rw [List.map_drop]
theorem fold_len (l : List UInt8) : (fold l).length = l.length := by unfold fold; rw [List.length_map]
theorem step_fold {l : List UInt8} (hne : l ≠ []) (h : ¬ (91 : UInt8) ∈ l) : (stepF (fold l)).1 = foldSt (stepF l).1 ∧ (stepF (fold l)).2 = fold (stepF l).2 ∧ ¬ (91 : UInt8) ∈ (stepF l).2 := by
  have hp := List.length_pos_iff.2 hne
  have h0 := fold_getD l 0 hp
  have hm : l.getD 0 0 ∈ l := by rw [List.getD_eq_getElem?_getD, List.getElem?_eq_getElem hp]; exact List.getElem_mem hp
  have h91 : ¬ l.getD 0 0 = 91 := fun e => h (e ▸ hm)
  have hd : ∀ k, ¬ (91 : UInt8) ∈ l.drop k := fun k hk => h (List.mem_of_mem_drop hk)
  have he : esc (fold l) = esc l := by
    unfold esc
    rw [h0, fold_len, Bool.eq_iff_iff, Bool.and_eq_true, Bool.and_eq_true, beq_iff_eq, beq_iff_eq, low_mark _ 92 (by simp)]
  have hfN : firstN (fold l) = firstN l := by unfold firstN; rw [he]
  have hfB : firstB (fold l) = lowB (firstB l) := by
    unfold firstB
    rw [he]
    split
    · rename_i hes
      have : 1 < l.length := by unfold esc at hes; simp at hes; exact hes.2
      exact fold_getD l 1 this
    · exact h0
  unfold stepF
  by_cases c1 : l.getD 0 0 = 42
  · rw [if_pos c1, if_pos (by rw [h0]; exact (low_mark _ 42 (by simp)).2 c1)]
    exact ⟨rfl, (fold_drop l 1).symm, hd 1⟩
  · rw [if_neg c1, if_neg (by rw [h0]; exact fun e => c1 ((low_mark _ 42 (by simp)).1 e))]
    by_cases c2 : l.getD 0 0 = 63
    · rw [if_pos c2, if_pos (by rw [h0]; exact (low_mark _ 63 (by simp)).2 c2)]
      exact ⟨rfl, (fold_drop l 1).symm, hd 1⟩
    · rw [if_neg c2, if_neg (by rw [h0]; exact fun e => c2 ((low_mark _ 63 (by simp)).1 e)), if_neg h91, if_neg (by rw [h0]; exact fun e => h91 ((low_mark _ 91 (by simp)).1 e))]
      refine ⟨?_, ?_, hd _⟩
      · show oneSt (firstB (fold l)) = foldSt (oneSt (firstB l))
        rw [hfB]; rfl
      · show (fold l).drop (firstN (fold l)) = fold (l.drop (firstN l))
        rw [hfN, fold_drop]
theorem parse_fold (n : Nat) (l : List UInt8) (hl : l.length ≤ n) (h : ¬ (91 : UInt8) ∈ l) : parse (fold l) = (parse l).map foldSt := by
  induction n generalizing l with
  | zero =>
    have : l = [] := List.length_eq_zero_iff.1 (by omega)
    subst this; rfl
  | succ n ih =>
    by_cases hne : l = []
    · subst hne; rfl
    · obtain ⟨h1, h2, h3⟩ := step_fold hne h
      have hz := stepF_len hne
      have hfe : fold l ≠ [] := fun e => hne (List.length_eq_zero_iff.1 (by rw [← fold_len, e]; rfl))
      rw [parse_cons hne, parse_cons hfe, h1, h2, List.map_cons, ih _ (by omega) h3]
theorem step_sets {l : List UInt8} (hne : l ≠ []) (h : ¬ (91 : UInt8) ∈ l) : (stepF l).1.set = true → (stepF l).1 = qSt := by
  have hp := List.length_pos_iff.2 hne
  have hm : l.getD 0 0 ∈ l := by rw [List.getD_eq_getElem?_getD, List.getElem?_eq_getElem hp]; exact List.getElem_mem hp
  have h91 : ¬ l.getD 0 0 = 91 := fun e => h (e ▸ hm)
  unfold stepF
  split
  · intro hh; cases hh
  · split
    · intro _; rfl
    · intro hh; cases hh
theorem parse_sets (n : Nat) (l : List UInt8) (hl : l.length ≤ n) (h : ¬ (91 : UInt8) ∈ l) : ∀ s, s ∈ parse l → s.set = true → s = qSt := by
  induction n generalizing l with
  | zero =>
    have : l = [] := List.length_eq_zero_iff.1 (by omega)
    subst this
    intro s hs; cases hs
  | succ n ih =>
    by_cases hne : l = []
    · subst hne
      intro s hs; cases hs
    · have hz := stepF_len hne
      intro s hs
      rw [parse_cons hne] at hs
      rcases List.mem_cons.1 hs with e | e
      · subst e; exact step_sets hne h
      · exact ih _ (by omega) (step_fold hne h).2.2 s e
theorem m_folds (p t : List UInt8) (h : ¬ (91 : UInt8) ∈ p) (hm : match' p t false = true) : match' p t true = true := by
  show mt (parse (fold p)) (fold t) = true
  rw [parse_fold _ p (Nat.le_refl _) h]
  refine mt_fold_mono (parse p) _ (by simp) ?_ t hm
  intro k s s' hs hs'
  rw [List.getElem?_map, hs] at hs'
  have : foldSt s = s' := by simpa using hs'
  subst this
  have hin := List.mem_of_getElem? hs
  have hpr := parse_props _ _ s hin
  unfold foldSt
  by_cases ha : (s.any || s.set) = true
  · rw [if_pos ha]
    refine ⟨rfl, fun b hb => ?_⟩
    by_cases hany : s.any = true
    · rw [hpr.1 hany]; rfl
    · have hset : s.set = true := by simpa [hany] using ha
      rw [parse_sets _ p (Nat.le_refl _) h s hin hset]; rfl
  · rw [if_neg ha]
    have h1 : s.any = false ∧ s.set = false := by simpa using ha
    refine ⟨h1.1, fun b hb => ?_⟩
    have e := hpr.2 h1.1 h1.2
    rw [e] at hb
    have : b = s.one := by simpa [oneSt] using hb
    subst this
    simp [oneSt]
/-- patterns that make a careless matcher slow. -/
def rep (x : List UInt8) : Nat → List UInt8
  | 0 => []
  | n + 1 => rep x n ++ x
def reps (x : List St) : Nat → List St
  | 0 => []
  | n + 1 => x ++ reps x n
theorem rep_len (x : List UInt8) (n : Nat) : (rep x n).length = n * x.length := by
  induction n with
  | zero => simp [rep]
  | succ n ih => simp only [rep, List.length_append, ih]; rw [Nat.add_mul]; omega
theorem rep_front (x : List UInt8) (n : Nat) : rep x (n + 1) = x ++ rep x n := by
  induction n with
  | zero => simp [rep]
  | succ n ih =>
    have h : rep x (n + 1) ++ x = (x ++ rep x n) ++ x := by rw [ih]
    show rep x (n + 1) ++ x = x ++ rep x (n + 1)
    rw [h, List.append_assoc]; rfl
theorem rep_one (n : Nat) : rep [97] n = List.replicate n 97 := by
  induction n with
  | zero => rfl
  | succ n ih => rw [rep_front, ih]; rfl
theorem rep_ten (n : Nat) : rep [97, 97, 97, 97, 97, 97, 97, 97, 97, 97] n = List.replicate (10 * n) 97 := by
  induction n with
  | zero => rfl
  | succ n ih =>
    rw [rep_front, ih, show 10 * (n + 1) = 10 + 10 * n by omega, ← List.replicate_append_replicate]; rfl
theorem parse_sa (n : Nat) (q : List UInt8) : parse (rep [42, 97] n ++ q) = reps [starSt, oneSt 97] n ++ parse q := by
  induction n with
  | zero => rfl
  | succ n ih =>
    rw [rep_front]
    show parse (42 :: 97 :: (rep [42, 97] n ++ q)) = _
    rw [parse_star, parse_plain 97 _ (by decide) (by decide) (by decide) (by decide), ih]; rfl
theorem parse_as (n : Nat) (q : List UInt8) : parse (rep [97, 42] n ++ q) = reps [oneSt 97, starSt] n ++ parse q := by
  induction n with
  | zero => rfl
  | succ n ih =>
    rw [rep_front]
    show parse (97 :: 42 :: (rep [97, 42] n ++ q)) = _
    rw [parse_plain 97 _ (by decide) (by decide) (by decide) (by decide), parse_star, ih]; rfl
theorem mt_sa (n m : Nat) (h : n ≤ m) (h0 : 0 < n) : mt (reps [starSt, oneSt 97] n) (List.replicate m 97) = true := by
  have key : ∀ k, mt (reps [starSt, oneSt 97] k) (List.replicate k 97) = true := by
    intro k
    induction k with
    | zero => rfl
    | succ k ih =>
      show mt (starSt :: oneSt 97 :: reps [starSt, oneSt 97] k) (97 :: List.replicate k 97) = true
      rw [mt_any rfl, sufs_iff]
      refine ⟨[], _, rfl, ?_⟩
      rw [mt_one_cons rfl, ih]; rfl
  obtain ⟨k, rfl⟩ : ∃ k, n = k + 1 := ⟨n - 1, by omega⟩
  have e : List.replicate m (97 : UInt8) = List.replicate (m - (k + 1)) 97 ++ List.replicate (k + 1) 97 := by
    rw [List.replicate_append_replicate]; congr 1; omega
  rw [e]
  have hk := key (k + 1)
  show mt (starSt :: (oneSt 97 :: reps [starSt, oneSt 97] k)) _ = true
  have hk' : mt (starSt :: (oneSt 97 :: reps [starSt, oneSt 97] k)) (List.replicate (k + 1) 97) = true := hk
  rw [mt_any rfl, sufs_iff] at hk' ⊢
  obtain ⟨a, b, e2, h3⟩ := hk'
  exact ⟨List.replicate (m - (k + 1)) 97 ++ a, b, by rw [e2, List.append_assoc], h3⟩
theorem reps_end (x : List St) (n : Nat) : reps x (n + 1) = reps x n ++ x := by
  induction n with
  | zero => simp [reps]
  | succ n ih =>
    show x ++ reps x (n + 1) = x ++ reps x n ++ x
    rw [ih, List.append_assoc]
theorem mt_as (n m : Nat) (h : n ≤ m) (h0 : 0 < n) : mt (reps [oneSt 97, starSt] n) (List.replicate m 97) = true := by
  have key : ∀ k, mt (reps [oneSt 97, starSt] k) (List.replicate k 97) = true := by
    intro k
    induction k with
    | zero => rfl
    | succ k ih =>
      show mt (oneSt 97 :: starSt :: reps [oneSt 97, starSt] k) (97 :: List.replicate k 97) = true
      rw [mt_one_cons rfl, mt_any rfl]
      have : sufs (mt (reps [oneSt 97, starSt] k)) (List.replicate k 97) = true := (sufs_iff _ _).2 ⟨[], _, rfl, ih⟩
      rw [this]; rfl
  obtain ⟨k, rfl⟩ : ∃ k, n = k + 1 := ⟨n - 1, by omega⟩
  have e : List.replicate m (97 : UInt8) = List.replicate (k + 1) 97 ++ List.replicate (m - (k + 1)) 97 := by
    rw [List.replicate_append_replicate]; congr 1; omega
  rw [e]
  have hk := key (k + 1)
  rw [reps_end, show ([oneSt 97, starSt] : List St) = [oneSt 97] ++ [starSt] from rfl, ← List.append_assoc] at hk ⊢
  obtain ⟨a, b, e2, h3, _⟩ := (mt_append _ _ _).1 hk
  exact (mt_append _ _ _).2 ⟨a, b ++ List.replicate (m - (k + 1)) 97, by rw [e2, List.append_assoc], h3, mt_star starSt rfl _⟩
theorem slow_1 (n m : Nat) : match' (rep [42, 97] n ++ [98]) (List.replicate m 97) false = false := by
  show mt (parse (rep [42, 97] n ++ [98])) _ = false
  rw [parse_sa, parse_plain 98 [] (by decide) (by decide) (by decide) (by decide), parse_nil]
  apply Bool.eq_false_iff.2
  intro hh
  obtain ⟨a, b, e, h1, h2⟩ := (mt_append _ _ _).1 hh
  obtain ⟨y, rfl, h3⟩ := (mt_one1 (oneSt 98) rfl b).1 h2
  have hy : y ∈ List.replicate m (97 : UInt8) := by rw [e]; simp
  have h97 := List.eq_of_mem_replicate hy
  subst h97
  exact absurd h3 (by decide)
theorem slow_2 (n m : Nat) (h : n ≤ m) (h0 : 0 < n) : match' (rep [42, 97] n) (List.replicate m 97) false = true := by
  show mt (parse (rep [42, 97] n)) _ = true
  have := parse_sa n []
  rw [List.append_nil, parse_nil, List.append_nil] at this
  rw [this]; exact mt_sa n m h h0
theorem slow_3 (q : List UInt8) (m : Nat) : match' ([98] ++ q) (List.replicate m 97) false = false := by
  show mt (parse (98 :: q)) _ = false
  rw [parse_plain 98 q (by decide) (by decide) (by decide) (by decide)]
  cases m with
  | zero => exact mt_one_nil rfl _
  | succ m => rw [List.replicate_succ, mt_one_cons rfl]; rfl
theorem fold_a (n : Nat) : fold (List.replicate n 97) = List.replicate n 97 := by unfold fold; rw [List.map_replicate]; rfl
theorem fold_rep (n : Nat) : fold (rep [97, 42] n) = rep [97, 42] n := by
  induction n with
  | zero => rfl
  | succ n ih =>
    show fold (rep [97, 42] n ++ [97, 42]) = _
    unfold fold at ih ⊢
    rw [List.map_append, ih]; rfl
theorem slow_4 (n m : Nat) (h : n ≤ m) (h0 : 0 < n) : match' (rep [97, 42] n) (List.replicate m 97) true = true := by
  show mt (parse (fold (rep [97, 42] n))) (fold _) = true
  rw [fold_a, fold_rep]
  have := parse_as n []
  rw [List.append_nil, parse_nil, List.append_nil] at this
  rw [this]; exact mt_as n m h h0
end Go.Proofs.Gb
