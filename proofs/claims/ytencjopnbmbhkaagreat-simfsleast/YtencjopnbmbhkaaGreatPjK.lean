import Derived.Test.YtencjopnbmbhkaaGreatPjJ
namespace Go.Proofs.YtencjopnbmbhkaaGreat
open Go.RowKit Go.Maps
set_option linter.unusedVariables false
set_option linter.unusedSimpArgs false
theorem ltQ_key {a b a' b' : Pq} (h1 : a.s = a'.s ∧ a.c = a'.c) (h2 : b.s = b'.s ∧ b.c = b'.c) : ltQ a b ↔ ltQ a' b' := by
  unfold ltQ; rw [h1.1, h1.2, h2.1, h2.2]
theorem ltQ_tri {a b : Pq} (h : ¬ ltQ a b) (hn : ¬ (a.s = b.s ∧ a.c = b.c)) : ltQ b a := by
  unfold ltQ at *
  rcases Nat.lt_trichotomy a.s b.s with h1 | h1 | h1
  · exact absurd (Or.inl h1) h
  · refine Or.inr ⟨h1.symm, ?_⟩
    cases ha : a.c <;> cases hb : b.c
    · exact absurd ⟨h1, by rw [ha, hb]⟩ hn
    · exact ⟨rfl, rfl⟩
    · exact absurd (Or.inr ⟨h1, ha, hb⟩) h
    · exact absurd ⟨h1, by rw [ha, hb]⟩ hn
  · exact Or.inl h1
theorem ltQ_ne {a b : Pq} (h : ltQ a b) : a.s ≠ b.s ∨ a.c ≠ b.c := by
  unfold ltQ at h
  rcases h with h | ⟨_, h1, h2⟩
  · exact Or.inl (by omega)
  · exact Or.inr (by rw [h1, h2]; decide)
structure LayF (qs : List Pq) (p : Pq) (qs' : List Pq) : Prop where
  srt : qs'.Pairwise ltQ
  mem : p ∈ qs'
  old : ∀ q ∈ qs, ∃ q' ∈ qs', q'.s = q.s ∧ q'.c = q.c
  new : ∀ q ∈ qs', q = p ∨ (q ∈ qs ∧ (q.s ≠ p.s ∨ q.c ≠ p.c))
  len : qs'.length ≤ qs.length + 1
theorem LayL.facts {qs : List Pq} {p : Pq} {qs' : List Pq} (hs : qs.Pairwise ltQ) (h : LayL qs p qs') : LayF qs p qs' := by
  have hg := List.pairwise_iff_getElem.1 hs
  obtain ⟨i, hpl, ⟨hi, hk1, hk2, rfl⟩ | ⟨hno, rfl⟩⟩ := h
  · have hkey : ∀ j (hj : j < (qs.set i p).length), ((qs.set i p)[j]).s = (qs[j]'(by simpa using hj)).s ∧ ((qs.set i p)[j]).c = (qs[j]'(by simpa using hj)).c := fun j hj => by
      rw [List.getElem_set]
      by_cases e : i = j
      · subst e; rw [if_pos rfl]; exact ⟨hk1.symm, hk2.symm⟩
      · rw [if_neg e]; exact ⟨rfl, rfl⟩
    refine ⟨List.pairwise_iff_getElem.2 (fun a b ha hb hab => (ltQ_key (hkey a ha) (hkey b hb)).2 (hg a b _ _ hab)), List.mem_set hi p, fun q hq => ?_, fun q hq => ?_, by simp⟩
    · obtain ⟨j, hj, rfl⟩ := List.getElem_of_mem hq
      exact ⟨_, List.getElem_mem (l := qs.set i p) (by simpa using hj), hkey j (by simpa using hj)⟩
    · obtain ⟨j, hj, rfl⟩ := List.getElem_of_mem hq
      rw [List.getElem_set]
      by_cases e : i = j
      · left; rw [if_pos e]
      · right
        rw [if_neg e]
        have hj' : j < qs.length := by simpa using hj
        refine ⟨List.getElem_mem hj', ?_⟩
        rw [← hk1, ← hk2]
        rcases Nat.lt_or_gt_of_ne e with h1 | h1
        · have := ltQ_ne (hg i j hi hj' h1)
          exact this.imp (fun q e => q e.symm) (fun q e => q e.symm)
        · exact ltQ_ne (hg j i hj' hi h1)
  · have hlo : ∀ q ∈ qs.take i, ltQ q p := fun q hq => by
      obtain ⟨j, hj, rfl⟩ := List.getElem_of_mem hq
      rw [List.length_take] at hj
      rw [List.getElem_take]
      exact hpl.lo j (by omega) (by omega)
    have hhi : ∀ q ∈ qs.drop i, ltQ p q := fun q hq => by
      obtain ⟨j, hj, rfl⟩ := List.getElem_of_mem hq
      rw [List.length_drop] at hj
      rw [List.getElem_drop]
      have hi : i < qs.length := by omega
      have h0 : ltQ p qs[i] := ltQ_tri (hpl.hi i hi (Nat.le_refl _)) (fun e => hno ⟨hi, e⟩)
      rcases Nat.eq_zero_or_pos j with rfl | hj0
      · exact h0
      · exact ltQ_trans h0 (hg i (i + j) hi (by omega) (by omega))
    refine ⟨?_, by simp, fun q hq => ⟨q, ?_, rfl, rfl⟩, fun q hq => ?_, by simp; omega⟩
    · rw [List.pairwise_append, List.pairwise_cons]
      refine ⟨hs.sublist (List.take_sublist _ _), ⟨hhi, hs.sublist (List.drop_sublist _ _)⟩, fun a ha b hb => ?_⟩
      rcases List.mem_cons.1 hb with rfl | hb
      · exact hlo a ha
      · exact ltQ_trans (hlo a ha) (hhi b hb)
    · rw [← List.take_append_drop i qs] at hq
      rcases List.mem_append.1 hq with hq | hq
      · exact List.mem_append_left _ hq
      · exact List.mem_append_right _ (List.mem_cons_of_mem _ hq)
    · rcases List.mem_append.1 hq with hq | hq
      · exact Or.inr ⟨List.mem_of_mem_take hq, ltQ_ne (hlo q hq)⟩
      · rcases List.mem_cons.1 hq with rfl | hq
        · exact Or.inl rfl
        · exact Or.inr ⟨List.mem_of_mem_drop hq, (ltQ_ne (hhi q hq)).imp (fun q e => q e.symm) (fun q e => q e.symm)⟩
theorem failM_app (l : List (Int × Int)) (s n : Nat) (p : Int) : failM (l ++ [((s : Int), p)]) n = if n = s then some p else failM l n := by
  unfold failM
  rw [List.reverse_append, List.reverse_singleton, List.singleton_append, List.find?_cons]
  by_cases h : n = s
  · subst h; simp
  · rw [if_neg h]
    have : ((s : Int) == (n : Int)) = false := by simp; omega
    simp only [this]
/-- A failure is planned. -/
theorem Plans.fail {F : Fs} {qs qs' : List Pq} {p : Pq} {part : Int} (h : Plans F qs) (hl : LayF qs p qs') (hc : p.c = false) (hs : F.steps < p.s) : Plans { F with fails := F.fails ++ [((p.s : Int), part)] } qs' := by
  refine ⟨hl.srt, fun q hq => ?_, fun n r hn hf => ?_, fun n hn hf => ?_⟩
  · rcases hl.new q hq with rfl | ⟨hq, _⟩
    · exact hs
    · exact h.ahead q hq
  · have hf' : failM (F.fails ++ [((p.s : Int), part)]) n = some r := hf
    rw [failM_app] at hf'
    by_cases e : n = p.s
    · exact ⟨p, hl.mem, hc, e.symm⟩
    · rw [if_neg e] at hf'
      obtain ⟨q, hq, h1, h2⟩ := h.all n r hn hf'
      obtain ⟨q', hq', e1, e2⟩ := hl.old q hq
      exact ⟨q', hq', e2.trans h1, e1.trans h2⟩
  · obtain ⟨q, hq, h1, h2⟩ := h.cr n hn hf
    obtain ⟨q', hq', e1, e2⟩ := hl.old q hq
    exact ⟨q', hq', e2.trans h1, e1.trans h2⟩
theorem Holds.fail {W : World} {F : Fs} {q p : Pq} {part : Int} (h : Holds W F q) (hc : p.c = false) (hn : q.s ≠ p.s ∨ q.c ≠ p.c) : Holds W { F with fails := F.fails ++ [((p.s : Int), part)] } q := by
  refine ⟨h.cr, fun hq => ?_⟩
  obtain ⟨r, h1, h2⟩ := h.fl hq
  refine ⟨r, h1, ?_⟩
  show failM (F.fails ++ [((p.s : Int), part)]) q.s = some r
  rw [failM_app, if_neg (by rcases hn with h | h; exact h; exact absurd (hq.trans hc.symm) h)]
  exact h2
end Go.Proofs.YtencjopnbmbhkaaGreat
