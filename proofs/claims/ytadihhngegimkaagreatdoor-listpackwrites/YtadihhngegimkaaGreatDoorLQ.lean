import Derived.Test.YtadihhngegimkaaGreatDoorLPar
set_option linter.unusedVariables false
namespace Go.Proofs.YtadihhngegimkaaGreatDoor.LM
open Go.Proofs.Vi
/-! what 'parse' hands over. -/
theorem rd_kind {s : List UInt8} {it : Item} {n : Nat} (e : rdItem s = some (it, n)) : (it.isN = true ∧ it.txt = [] ∧ I64 it.num) ∨ (it.isN = false ∧ it.num = 0 ∧ it.txt.length ≤ s.length) := by
  cases s with
  | nil => cases e
  | cons b t =>
    rw [rdItem_cons] at e
    have ht : ∀ {h L}, txtAt (b :: t) h L = some (it, n) → (it.isN = true ∧ it.txt = [] ∧ I64 it.num) ∨ (it.isN = false ∧ it.num = 0 ∧ it.txt.length ≤ (b :: t).length) := fun e => by
      obtain ⟨h1, h2, h3⟩ := txtAt_some e
      subst h2
      refine Or.inr ⟨rfl, rfl, ?_⟩
      show ((List.drop _ (b :: t)).take _).length ≤ _
      rw [List.length_take, List.length_drop]; omega
    have hm : ∀ {k}, (∀ m : Int, fits k m → I64 m) → numAt (b :: t) k = some (it, n) → (it.isN = true ∧ it.txt = [] ∧ I64 it.num) ∨ (it.isN = false ∧ it.num = 0 ∧ it.txt.length ≤ (b :: t).length) := fun hf e => by
      obtain ⟨g1, g2, g3, g4, g5⟩ := num_inv b t _ it n e
      exact Or.inl ⟨by rw [g2]; rfl, by rw [g2]; rfl, hf _ g3⟩
    have hs : ∀ {x : Int} {k : Nat}, I64 x → some (numI x, k) = some (it, n) → (it.isN = true ∧ it.txt = [] ∧ I64 it.num) ∨ (it.isN = false ∧ it.num = 0 ∧ it.txt.length ≤ (b :: t).length) := fun h1 e => by
      have := congrArg Prod.fst (Option.some.inj e); simp only at this; subst this
      exact Or.inl ⟨rfl, rfl, h1⟩
    have hb := b.toNat_lt
    unfold rdF at e
    split at e
    · exact hs (by unfold I64; omega) e
    split at e
    · exact ht e
    split at e
    · split at e
      · refine hs ?_ e
        unfold s13 I64; split <;> omega
      · cases e
    split at e
    · split at e
      · exact ht e
      · cases e
    split at e
    · split at e
      · exact ht e
      · cases e
    split at e
    · exact hm (fun m h => by unfold fits at h; unfold I64; omega) e
    split at e
    · exact hm (fun m h => by unfold fits at h; unfold I64; omega) e
    split at e
    · exact hm (fun m h => by unfold fits at h; unfold I64; omega) e
    split at e
    · exact hm (fun m h => by unfold fits at h; unfold I64; omega) e
    · cases e
theorem parse_mem (b : List UInt8) : ∀ (k p a : Nat) (s : List UInt8), s = b.drop a → ∀ e ∈ (parse k p a s).1, e.begin < b.length ∧ rdItem (b.drop e.begin) = some (e.it, e.span)
  | 0, p, a, s, _, e, he => by simp [parse] at he
  | k + 1, p, a, s, hs, e, he => by
    by_cases hn : s = []
    · subst hn; rw [parse_nil] at he; simp at he
    · cases hr : rdItem s with
      | none => rw [parse_none k p a hn hr] at he; simp at he
      | some x =>
        obtain ⟨it, n⟩ := x
        rw [parse_some k p a hr] at he
        rcases List.mem_cons.1 he with rfl | he
        · refine ⟨?_, by rw [← hs]; exact hr⟩
          rcases Nat.lt_or_ge a b.length with h | h
          · exact h
          · exact absurd (by rw [hs]; exact List.drop_eq_nil_of_le h) hn
        · exact parse_mem b k (p + 1) (a + esp n) (s.drop (esp n)) (by rw [hs, List.drop_drop]) e he
theorem parse_place : ∀ (k p a : Nat) (s : List UInt8) (pre : List Ent) (x : Ent), pre ++ [x] <+: (parse k p a s).1 → x.place = p + pre.length
  | 0, p, a, s, pre, x, h => by simp [parse] at h
  | k + 1, p, a, s, pre, x, h => by
    by_cases hn : s = []
    · subst hn; rw [parse_nil] at h; simp at h
    · cases hr : rdItem s with
      | none => rw [parse_none k p a hn hr] at h; simp at h
      | some y =>
        obtain ⟨it, n⟩ := y
        rw [parse_some k p a hr] at h
        cases pre with
        | nil =>
          simp only [List.nil_append] at h
          have := (List.cons_prefix_cons.1 h).1
          subst this; simp
        | cons z pre =>
          simp only [List.cons_append] at h
          have := parse_place k (p + 1) _ _ pre x (List.cons_prefix_cons.1 h).2
          rw [this, List.length_cons]; omega
theorem pre_mem {α : Type} {pre L : List α} {x : α} (h : pre ++ [x] <+: L) : x ∈ L := h.subset (by simp)
theorem pre_len {α : Type} {pre L : List α} {x : α} (h : pre ++ [x] <+: L) : pre.length < L.length := by have := h.length_le; simp at this; omega
theorem parse_len (k p a : Nat) (s : List UInt8) : (parse k p a s).1.length ≤ k := by
  induction k generalizing p a s with
  | zero => simp [parse]
  | succ k ih =>
    by_cases hn : s = []
    · subst hn; rw [parse_nil]; simp
    · cases hr : rdItem s with
      | none => rw [parse_none k p a hn hr]; simp
      | some x =>
        obtain ⟨it, n⟩ := x
        rw [parse_some k p a hr]
        have := ih (p + 1) (a + esp n) (s.drop (esp n))
        simp only [List.length_cons]; omega
theorem parse_more : ∀ (k j p a : Nat) (s : List UInt8), s.length < k → s.length < j → parse k p a s = parse j p a s
  | 0, _, _, _, _, h, _ => by omega
  | _ + 1, 0, _, _, _, _, h => by omega
  | k + 1, j + 1, p, a, s, hk, hj => by
    by_cases hn : s = []
    · subst hn; rw [parse_nil, parse_nil]
    · cases hr : rdItem s with
      | none => rw [parse_none k p a hn hr, parse_none j p a hn hr]
      | some x =>
        obtain ⟨it, n⟩ := x
        rw [parse_some k p a hr, parse_some j p a hr]
        have h1 := rd_span hr
        have hd : (s.drop (esp n)).length < k ∧ (s.drop (esp n)).length < j := by
          rw [List.length_drop]; unfold esp; omega
        rw [parse_more k j _ _ _ hd.1 hd.2]
/-! entries of items: where each begins. -/
theorem ents_get : ∀ (l : List Item) (p a i : Nat) (h : i < l.length), (entsFrom p a l)[i]? = some ⟨p + i, l[i], a + bsum (l.take i), dsize l[i]⟩
  | x :: l, p, a, 0, _ => by simp [entsFrom, bsum]
  | x :: l, p, a, i + 1, h => by
    simp only [entsFrom, List.getElem?_cons_succ, List.getElem_cons_succ, List.take_succ_cons, bsum_cons]
    rw [ents_get l (p + 1) (a + esz x) i (by simpa using h)]
    rw [show p + 1 + i = p + (i + 1) by omega, show a + esz x + bsum (l.take i) = a + (esz x + bsum (l.take i)) by omega]
theorem bsum_take_le (l : List Item) (i : Nat) : bsum (l.take i) ≤ bsum l := by
  conv => rhs; rw [← List.take_append_drop i l, bsum_app]
  omega
theorem body_take (l : List Item) (i : Nat) : (bodyOf l).take (bsum (l.take i)) = bodyOf (l.take i) := by
  have e : bodyOf l = bodyOf (l.take i) ++ bodyOf (l.drop i) := by rw [← bodyOf_app, List.take_append_drop]
  rw [e]; exact List.take_left' (bodyOf_len _)
theorem body_drop (l : List Item) (i : Nat) : (bodyOf l).drop (bsum (l.take i)) = bodyOf (l.drop i) := by
  have e : bodyOf l = bodyOf (l.take i) ++ bodyOf (l.drop i) := by rw [← bodyOf_app, List.take_append_drop]
  rw [e]; exact List.drop_left' (bodyOf_len _)
end Go.Proofs.YtadihhngegimkaaGreatDoor.LM
