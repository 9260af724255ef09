import Derived.Test.YtpckadpnedfkkaaDoorGMath
namespace Go.Proofs.Gb
set_option linter.unusedVariables false

/-- a pattern's steps, with the end behind them, by number. -/
def at' (p : List St) (k : Nat) : St := p.getD k endSt
def an (p : List St) (k : Nat) : Bool := (at' p k).any
def fn (p : List St) (k : Nat) (b : UInt8) : Bool := (at' p k).f b
theorem at_end (p : List St) (k : Nat) (h : p.length ≤ k) : at' p k = endSt := by unfold at'; rw [List.getD_eq_getElem?_getD, List.getElem?_eq_none h]; rfl
theorem an_end (p : List St) (k : Nat) (h : p.length ≤ k) : an p k = false := by unfold an; rw [at_end p k h]; rfl
theorem fn_end (p : List St) (k : Nat) (b : UInt8) (h : p.length ≤ k) : fn p k b = false := by unfold fn; rw [at_end p k h]; rfl
theorem an_lt {p : List St} {k : Nat} (h : an p k = true) : k < p.length := by
  rcases Nat.lt_or_ge k p.length with h' | h'
  · exact h'
  · rw [an_end p k h'] at h; cases h
theorem fn_lt {p : List St} {k : Nat} {b : UInt8} (h : fn p k b = true) : k < p.length := by
  rcases Nat.lt_or_ge k p.length with h' | h'
  · exact h'
  · rw [fn_end p k b h'] at h; cases h
def V (p : List St) (k : Nat) (t : List UInt8) : Bool := mt (p.drop k) t
theorem drop_at' (p : List St) (k : Nat) (h : k < p.length) : p.drop k = at' p k :: p.drop (k + 1) := by
  rw [List.drop_eq_getElem_cons h]; unfold at'; rw [List.getD_eq_getElem?_getD, List.getElem?_eq_getElem h]; rfl
theorem V_any {p : List St} {k : Nat} (h : an p k = true) (t : List UInt8) : V p k t = sufs (V p (k + 1)) t := by
  unfold V; rw [drop_at' p k (an_lt h)]; exact mt_any h _ _
theorem V_one_nil {p : List St} {k : Nat} (hk : k < p.length) (h : an p k = false) : V p k [] = false := by
  unfold V; rw [drop_at' p k hk]; exact mt_one_nil h _
theorem V_one_cons {p : List St} {k : Nat} (h : an p k = false) (b : UInt8) (t : List UInt8) : V p k (b :: t) = (fn p k b && V p (k + 1) t) := by
  rcases Nat.lt_or_ge k p.length with hk | hk
  · unfold V; rw [drop_at' p k hk]; exact mt_one_cons h _ _ _
  · rw [fn_end p k b hk]; unfold V; rw [List.drop_eq_nil_of_le hk]; rfl
theorem V_end {p : List St} (t : List UInt8) : V p p.length t = t.isEmpty := by unfold V; rw [List.drop_length]; rfl
theorem V_any_cons {p : List St} {k : Nat} (h : an p k = true) (b : UInt8) (t : List UInt8) : V p k (b :: t) = (V p (k + 1) (b :: t) || V p k t) := by
  rw [V_any h, V_any h]; rfl
theorem V_self {p : List St} {k : Nat} (h : an p k = true) (t : List UInt8) (h1 : V p (k + 1) t = true) : V p k t = true := by
  rw [V_any h, sufs_iff]; exact ⟨[], t, rfl, h1⟩
theorem V_dom {p : List St} {j k : Nat} (hjk : j ≤ k) (h : an p k = true) (t : List UInt8) (hj : V p j t = true) : V p k t = true := by
  unfold V at *
  have e : p.drop j = (p.drop j).take (k - j) ++ p.drop k := by
    have := (List.take_append_drop (k - j) (p.drop j)).symm
    rw [List.drop_drop, show j + (k - j) = k by omega] at this
    exact this
  rw [e] at hj
  rw [drop_at' p k (an_lt h)] at hj ⊢
  exact mt_dom h _ _ _ hj
def reachP (p : List St) (acc : List Nat) (k : Nat) : List Nat := (if an p k then acc ++ [k + 1] else acc) ++ [k]
def toP (p : List St) (k : Nat) : Nat := if an p k then k else k + 1
def nextP (p : List St) (b : UInt8) : List Nat → List Nat → List Nat
  | [], acc => acc
  | k :: r, acc => if fn p k b then (if an p (toP p k) then reachP p acc (toP p k) else nextP p b r (reachP p acc (toP p k))) else nextP p b r acc
def walkP (p : List St) : List UInt8 → List Nat → Bool
  | [], l => l.head? == some p.length
  | b :: t, l => if l.isEmpty then false else walkP p t (nextP p b l [])
theorem to_le (p : List St) (k : Nat) : toP p k ≤ k + 1 := by unfold toP; split <;> omega
theorem to_ge (p : List St) (k : Nat) : k ≤ toP p k := by unfold toP; split <;> omega
theorem to_one {p : List St} {k : Nat} (h : an p (toP p k) = false) : toP p k = k + 1 ∧ an p k = false := by
  unfold toP at *
  split at h
  · rename_i h'; rw [h'] at h; cases h
  · rename_i h'; exact ⟨if_neg h', by simpa using h'⟩
theorem mem_reach {p : List St} {acc : List Nat} {k x : Nat} : x ∈ reachP p acc k ↔ x ∈ acc ∨ x = k ∨ (an p k = true ∧ x = k + 1) := by
  unfold reachP
  split
  · rename_i h
    simp only [List.mem_append, List.mem_singleton, h, true_and]
    constructor
    · rintro ((h | h) | h) <;> simp_all
    · rintro (h | h | h) <;> simp_all
  · rename_i h
    simp only [List.mem_append, List.mem_singleton, h, Bool.false_eq_true, false_and, or_false]
/-- all that a list of places may still find. -/
def anyV (p : List St) (l : List Nat) (t : List UInt8) : Prop := ∃ k, k ∈ l ∧ V p k t = true
theorem reach_sub {p : List St} {acc : List Nat} {k x : Nat} (h : x ∈ acc) : x ∈ reachP p acc k := mem_reach.2 (Or.inl h)
theorem next_sub {p : List St} {b : UInt8} (l acc : List Nat) {x : Nat} (h : x ∈ acc) : x ∈ nextP p b l acc := by
  induction l generalizing acc with
  | nil => exact h
  | cons k r ih =>
    simp only [nextP]
    split
    · split
      · exact reach_sub h
      · exact ih _ (reach_sub h)
    · exact ih _ h
theorem trans_sound {p : List St} {b : UInt8} {k : Nat} (hf : fn p k b = true) {t : List UInt8} (h : V p (toP p k) t = true) : V p k (b :: t) = true := by
  unfold toP at h
  split at h
  · rename_i h'; rw [V_any_cons h', h]; simp
  · rename_i h'; rw [V_one_cons (by simpa using h'), hf, h]; rfl
theorem next_sound {p : List St} {b : UInt8} {t : List UInt8} (l acc : List Nat) (h : anyV p (nextP p b l acc) t) : anyV p acc t ∨ anyV p l (b :: t) := by
  induction l generalizing acc with
  | nil => exact Or.inl h
  | cons k r ih =>
    have key : fn p k b = true → anyV p (reachP p acc (toP p k)) t → anyV p acc t ∨ anyV p (k :: r) (b :: t) := by
      rintro hf ⟨x, hx, hv⟩
      rcases mem_reach.1 hx with h1 | h1 | ⟨h1, h2⟩
      · exact Or.inl ⟨x, h1, hv⟩
      · subst h1; exact Or.inr ⟨k, by simp, trans_sound hf hv⟩
      · subst h2; exact Or.inr ⟨k, by simp, trans_sound hf (V_self h1 t hv)⟩
    simp only [nextP] at h
    split at h
    · rename_i hf
      split at h
      · exact key hf h
      · rcases ih _ h with h1 | ⟨x, hx, hv⟩
        · exact key hf h1
        · exact Or.inr ⟨x, by simp [hx], hv⟩
    · rcases ih _ h with h1 | ⟨x, hx, hv⟩
      · exact Or.inl h1
      · exact Or.inr ⟨x, by simp [hx], hv⟩
theorem next_compl {p : List St} {b : UInt8} {t : List UInt8} (l acc : List Nat) (hp : l.Pairwise (· ≥ ·)) (k : Nat) (hk : k ∈ l) (hf : fn p k b = true) (hv : V p (toP p k) t = true) : anyV p (nextP p b l acc) t := by
  induction l generalizing acc with
  | nil => cases hk
  | cons j r ih =>
    have hp2 := (List.pairwise_cons.1 hp).2
    have hkj : k ≤ j := by
      rcases List.mem_cons.1 hk with h | h
      · omega
      · exact (List.pairwise_cons.1 hp).1 k h
    simp only [nextP]
    by_cases hj : fn p j b = true
    · rw [if_pos hj]
      by_cases ha : an p (toP p j) = true
      · rw [if_pos ha]
        refine ⟨toP p j, mem_reach.2 (Or.inr (Or.inl rfl)), ?_⟩
        by_cases e : k = j
        · subst e; exact hv
        · have := to_le p k; have := to_ge p j
          exact V_dom (by omega) ha t hv
      · rw [if_neg ha]
        by_cases e : k = j
        · subst e; exact ⟨toP p k, next_sub _ _ (mem_reach.2 (Or.inr (Or.inl rfl))), hv⟩
        · exact ih _ hp2 ((List.mem_cons.1 hk).resolve_left e)
    · rw [if_neg hj]
      have e : k ≠ j := fun e => hj (e ▸ hf)
      exact ih _ hp2 ((List.mem_cons.1 hk).resolve_left e)
structure Inv (p : List St) (l : List Nat) : Prop where
  le : ∀ k, k ∈ l → k ≤ p.length
  desc : l.Pairwise (· ≥ ·)
  closed : ∀ k, k ∈ l → an p k = true → k + 1 ∈ l
theorem an_adj {p : List St} (hn : noAdj p) {k : Nat} (h : an p k = true) : an p (k + 1) = false := by
  rcases Nat.lt_or_ge (k + 1) p.length with h' | h'
  · by_cases h2 : an p (k + 1) = true
    · exfalso
      have e1 : p[k]? = some (at' p k) := by unfold at'; rw [List.getD_eq_getElem?_getD, List.getElem?_eq_getElem (an_lt h)]; rfl
      have e2 : p[k + 1]? = some (at' p (k + 1)) := by unfold at'; rw [List.getD_eq_getElem?_getD, List.getElem?_eq_getElem h']; rfl
      exact hn k _ _ e1 e2 h h2
    · simpa using h2
  · exact an_end p _ h'
theorem reach_inv {p : List St} (hn : noAdj p) {acc : List Nat} {k : Nat} (hi : Inv p acc) (hk : k ≤ p.length) (hx : ∀ x, x ∈ acc → k ≤ x ∧ (an p k = true → k + 1 ≤ x)) : Inv p (reachP p acc k) := by
  refine ⟨?_, ?_, ?_⟩
  · intro x h
    rcases mem_reach.1 h with h | h | ⟨h1, h2⟩
    · exact hi.le x h
    · omega
    · have := an_lt h1; omega
  · unfold reachP
    split
    · rename_i h
      rw [List.append_assoc, List.pairwise_append]
      refine ⟨hi.desc, by simp, ?_⟩
      intro a ha c hc
      have := hx a ha
      have := this.2 h
      simp at hc
      rcases hc with rfl | rfl <;> omega
    · rw [List.pairwise_append]
      refine ⟨hi.desc, by simp, ?_⟩
      intro a ha c hc
      have := hx a ha
      simp at hc
      omega
  · intro x h ha
    rcases mem_reach.1 h with h | h | ⟨h1, h2⟩
    · exact reach_sub (hi.closed x h ha)
    · subst h; exact mem_reach.2 (Or.inr (Or.inr ⟨ha, rfl⟩))
    · subst h2; rw [an_adj hn h1] at ha; cases ha
theorem inv_nil (p : List St) : Inv p [] := ⟨fun k h => (by cases h), List.Pairwise.nil, fun k h => (by cases h)⟩
theorem next_inv {p : List St} (hn : noAdj p) (b : UInt8) (l acc : List Nat) (hl : l.Pairwise (· ≥ ·)) (hi : Inv p acc) (hx : ∀ k, k ∈ l → ∀ x, x ∈ acc → k + 1 ≤ x ∧ an p x = false) : Inv p (nextP p b l acc) := by
  induction l generalizing acc with
  | nil => exact hi
  | cons k r ih =>
    have hp2 := (List.pairwise_cons.1 hl).2
    simp only [nextP]
    by_cases hf : fn p k b = true
    · rw [if_pos hf]
      have hr : Inv p (reachP p acc (toP p k)) := by
        refine reach_inv hn hi ?_ ?_
        · have := to_le p k; have := fn_lt hf; omega
        · intro x h
          obtain ⟨h1, h2⟩ := hx k (by simp) x h
          have h3 := to_le p k
          refine ⟨by omega, fun ha => ?_⟩
          have : x ≠ toP p k := fun e => by rw [e, ha] at h2; cases h2
          omega
      by_cases ha : an p (toP p k) = true
      · rw [if_pos ha]; exact hr
      · rw [if_neg ha]
        have ha' : an p (toP p k) = false := by simpa using ha
        obtain ⟨e1, e2⟩ := to_one ha'
        refine ih _ hp2 hr ?_
        intro j hj x h
        have hjk : j ≤ k := (List.pairwise_cons.1 hl).1 j hj
        rcases mem_reach.1 h with h | h | ⟨h1, h2⟩
        · obtain ⟨h1, h2⟩ := hx k (by simp) x h
          exact ⟨by omega, h2⟩
        · subst h; exact ⟨by omega, ha'⟩
        · rw [ha'] at h1; cases h1
    · rw [if_neg hf]
      exact ih _ hp2 hi (fun j hj => hx j (by simp [hj]))
theorem next_any {p : List St} (hn : noAdj p) (hs : ∀ k b, an p k = true → fn p k b = true) (b : UInt8) (t : List UInt8) {l : List Nat} (hi : Inv p l) : anyV p (nextP p b l []) t ↔ anyV p l (b :: t) := by
  constructor
  · intro h
    rcases next_sound l [] h with ⟨x, hx, _⟩ | h
    · cases hx
    · exact h
  · rintro ⟨k, hk, hv⟩
    have one : ∀ k, k ∈ l → an p k = false → V p k (b :: t) = true → anyV p (nextP p b l []) t := by
      intro k hk ha hv
      rw [V_one_cons ha, Bool.and_eq_true] at hv
      refine next_compl l [] hi.desc k hk hv.1 ?_
      unfold toP; rw [if_neg (by rw [ha]; decide)]; exact hv.2
    by_cases ha : an p k = true
    · rw [V_any_cons ha, Bool.or_eq_true] at hv
      rcases hv with hv | hv
      · exact one (k + 1) (hi.closed k hk ha) (an_adj hn ha) hv
      · refine next_compl l [] hi.desc k hk (hs k b ha) ?_
        unfold toP; rw [if_pos ha]; exact hv
    · exact one k hk (by simpa using ha) hv
theorem end_any {p : List St} (hn : noAdj p) {l : List Nat} (hi : Inv p l) : (l.head? == some p.length) = true ↔ anyV p l [] := by
  have key : p.length ∈ l ↔ anyV p l [] := by
    constructor
    · intro h; exact ⟨_, h, by rw [V_end]; rfl⟩
    · rintro ⟨k, hk, hv⟩
      by_cases ha : an p k = true
      · rw [V_any ha] at hv
        have hv' : V p (k + 1) [] = true := hv
        have hlt := an_lt ha
        rcases Nat.lt_or_ge (k + 1) p.length with h | h
        · rw [V_one_nil h (an_adj hn ha)] at hv'; cases hv'
        · have e : p.length = k + 1 := by omega
          rw [e]; exact hi.closed k hk ha
      · rcases Nat.lt_or_ge k p.length with h | h
        · rw [V_one_nil h (by simpa using ha)] at hv; cases hv
        · have := hi.le k hk
          have e : p.length = k := by omega
          rw [e]; exact hk
  rw [← key]
  cases l with
  | nil => simp
  | cons k r =>
    simp only [List.head?_cons, beq_iff_eq, Option.some.injEq, List.mem_cons]
    constructor
    · intro h; exact Or.inl h.symm
    · rintro (h | h)
      · exact h.symm
      · have h1 := (List.pairwise_cons.1 hi.desc).1 _ h
        have h2 := hi.le k (by simp)
        omega
theorem walk_any {p : List St} (hn : noAdj p) (hs : ∀ k b, an p k = true → fn p k b = true) (t : List UInt8) {l : List Nat} (hi : Inv p l) : walkP p t l = true ↔ anyV p l t := by
  induction t generalizing l with
  | nil => exact end_any hn hi
  | cons b t ih =>
    simp only [walkP]
    split
    · rename_i h
      have : l = [] := by simpa using h
      subst this
      constructor
      · intro h; cases h
      · rintro ⟨k, hk, _⟩; cases hk
    · rw [ih (next_inv hn b l [] hi.desc (inv_nil p) (fun k _ x hx => by cases hx)), next_any hn hs b t hi]
theorem start_inv {p : List St} (hn : noAdj p) : Inv p (reachP p [] 0) := reach_inv hn (inv_nil p) (Nat.zero_le _) (fun x h => by cases h)
theorem walk_mt {p : List St} (hn : noAdj p) (hs : ∀ k b, an p k = true → fn p k b = true) (t : List UInt8) : walkP p t (reachP p [] 0) = mt p t := by
  apply Bool.eq_iff_iff.2
  rw [walk_any hn hs t (start_inv hn)]
  have e : V p 0 t = mt p t := by unfold V; rw [List.drop_zero]
  constructor
  · rintro ⟨k, hk, hv⟩
    rw [← e]
    rcases mem_reach.1 hk with h | h | ⟨h1, h2⟩
    · cases h
    · subst h; exact hv
    · subst h2; exact V_self h1 t hv
  · intro h
    exact ⟨0, mem_reach.2 (Or.inr (Or.inl rfl)), by rw [e]; exact h⟩
theorem reach_len (p : List St) (acc : List Nat) (k : Nat) : acc.length < (reachP p acc k).length ∧ (reachP p acc k).length ≤ acc.length + 2 ∧ (an p k = false → (reachP p acc k).length = acc.length + 1) := by
  unfold reachP
  split
  · rename_i h; simp [h]
  · rename_i h; simp
theorem next_len (p : List St) (b : UInt8) (l acc : List Nat) : (nextP p b l acc).length ≤ acc.length + l.length + 1 := by
  induction l generalizing acc with
  | nil => simp [nextP]
  | cons k r ih =>
    simp only [nextP]
    have h1 := reach_len p acc (toP p k)
    split
    · split
      · rw [List.length_cons]; omega
      · rename_i ha
        have := ih (reachP p acc (toP p k))
        rw [h1.2.2 (by simpa using ha)] at this
        rw [List.length_cons]; omega
    · have := ih acc
      rw [List.length_cons]; omega
end Go.Proofs.Gb
