import Derived.Test.YtbmfbpcjokbjkaaGreatDoorPcA
namespace Go.Proofs.YtbmfbpcjokbjkaaGreatDoor
open Go.RowKit Vi
set_option linter.unusedVariables false
set_option linter.unusedSimpArgs false
/-! how many words a request has. -/
theorem line_args (S : PS) (a : SP.Bs) : (rdLine S a).args.length ≤ S.part.length + a.length := by
  unfold rdLine
  cases hi : lfAt (a.take (65537 - S.part.length)) with
  | none => dsimp only; split <;> exact Nat.zero_le _
  | some k =>
    dsimp only
    cases ho : lnW (S.part ++ a.take k) with
    | none => exact Nat.zero_le _
    | some out =>
      have h1 : out.length ≤ S.part.length + a.length := by
        unfold lnW at ho
        have h2 := sp_len _ _ _ _ ho
        have h3 := eol_len (S.part ++ a.take k)
        rw [List.length_append, List.length_take] at h3
        simp at h2
        omega
      cases out with
      | nil => exact Nat.zero_le _
      | cons x l => exact h1
def Ars (n : Nat) : Prop := ∀ (S : PS) (a : SP.Bs), a.length ≤ n → (rdN S a).args.length ≤ S.words.length + a.length
theorem body_args (S : PS) (a : SP.Bs) (hN : Ars a.length) : (rdBody rdN S a).args.length ≤ S.words.length + 1 + a.length := by
  unfold rdBody
  split
  · exact Nat.zero_le _
  · split
    · refine Nat.le_trans (hN _ _ (by rw [List.length_drop]; omega)) ?_
      show (S.words ++ [_]).length + _ ≤ _
      rw [List.length_append, List.length_drop, List.length_singleton]; omega
    · show (S.words ++ [_]).length ≤ _
      rw [List.length_append, List.length_singleton]; omega
theorem len_args (S : PS) (a : SP.Bs) (hN : ∀ n, n < a.length → Ars n) : (rdLen rdN S a).args.length ≤ S.words.length + a.length := by
  unfold rdLen
  cases hi : lfAt (a.take (65 - S.part.length)) with
  | none => dsimp only; split <;> exact Nat.zero_le _
  | some k =>
    have hk := lf_len hi
    rw [List.length_take] at hk
    dsimp only
    unfold lenO
    split
    · exact Nat.zero_le _
    · split
      · refine Nat.le_trans (body_args _ (a.drop (k + 1)) (hN _ (by rw [List.length_drop]; omega))) ?_
        show S.words.length + 1 + _ ≤ _
        rw [List.length_drop]; omega
      · exact Nat.zero_le _
theorem ars_all : ∀ n, Ars n := by
  intro n
  induction n using Nat.strongRecOn with
  | _ n ih =>
    intro S a ha
    rw [rdN_eq]
    cases a with
    | nil => exact Nat.zero_le _
    | cons b t =>
      unfold rdWord
      dsimp only
      by_cases hb : b = 36
      · rw [if_pos hb]
        exact len_args { S with st := 2 } _ (fun m hm => ih m (by omega))
      · rw [if_neg hb]; exact Nat.zero_le _
theorem rd0_args (a : SP.Bs) : (rdG (PS0 0) a).args.length ≤ a.length := by
  by_cases hb : a.head? = some 42
  · rw [show rdG (PS0 0) a = rdCount rdN (PS0 0) a from if_pos hb]
    unfold rdCount
    cases hi : lfAt (a.take (65 - (PS0 0).part.length)) with
    | none => dsimp only; split <;> exact Nat.zero_le _
    | some k =>
      dsimp only
      unfold cntO
      split
      · split
        · exact Nat.zero_le _
        · rw [← rdN_eq]
          refine Nat.le_trans (ars_all _ _ _ (Nat.le_refl _)) ?_
          show 0 + (a.drop (k + 1)).length ≤ _
          rw [List.length_drop]; omega
      · exact Nat.zero_le _
  · rw [show rdG (PS0 0) a = rdLine (PS0 0) a from if_neg hb]
    have := line_args (PS0 0) a
    simpa [PS0] using this
theorem TX_args : ∀ (n : Nat) (a : SP.Bs), a.length ≤ n → ∀ r ∈ (TX a).1, r.args.length ≤ a.length := by
  intro n
  induction n with
  | zero =>
    intro a ha r hr
    have : a = [] := List.eq_nil_of_length_eq_zero (by omega)
    subst this
    cases hr
  | succ n ih =>
    intro a ha r hr
    by_cases h0 : a = []
    · subst h0; cases hr
    · have htd : ∀ r ∈ told (rdG (PS0 0) a), r.args.length ≤ a.length := by
        intro r hr
        unfold told at hr
        split at hr
        · have : r = ⟨(rdG (PS0 0) a).args, (rdG (PS0 0) a).err⟩ := by simpa using hr
          rw [this]; exact rd0_args a
        · cases hr
      by_cases hk : (rdG (PS0 0) a).k = 0
      · rw [TX_wait a h0 hk] at hr; cases hr
      · by_cases he : (rdG (PS0 0) a).err = []
        · rw [TX_ok a h0 hk he] at hr
          rcases List.mem_append.1 hr with hr | hr
          · exact htd r hr
          · have hlen := rd0_rest a h0
            exact Nat.le_trans (ih _ (by omega) r hr) (by omega)
        · rw [TX_err a h0 hk he] at hr
          exact htd r hr
theorem FX_args (s : SP.Bs) : ∀ r ∈ (FX (some []) s).1, r.args.length ≤ s.length := TX_args _ s (Nat.le_refl _)
/-- a row of numbers. -/
def NV (w : World) (v : Value) (zs : List Int) : Prop :=
  (zs = [] ∧ ∃ p c, v = .slice p 0 c) ∨ (∃ g o c, v = .slice (some ⟨g, o, none⟩) zs.length c ∧ ∀ j (h : j < zs.length), w.cell? ⟨g, o + j, none⟩ = some (.int .i64 zs[j]))
theorem NV.on {w w' : World} {v : Value} {zs : List Int} (h : NV w v zs) (hb : Below w.heap.size w w') : NV w' v zs := by
  rcases h with h | ⟨g, o, c, h1, h2⟩
  · exact Or.inl h
  · exact Or.inr ⟨g, o, c, h1, fun j hj => cell_on (h2 j hj) hb⟩
theorem NV.form {w : World} {v : Value} {zs : List Int} (h : NV w v zs) : ∃ p c, v = .slice p zs.length c := by
  rcases h with ⟨rfl, p, c, h⟩ | ⟨g, o, c, h1, _⟩
  · exact ⟨p, c, h⟩
  · exact ⟨_, _, h1⟩
theorem NV.cell {w : World} {P : Option Addr} {n c : Nat} {zs : List Int} (h : NV w (.slice P n c) zs) (j : Nat) (hj : j < zs.length) : ∃ g o, P = some ⟨g, o, none⟩ ∧ w.cell? ⟨g, o + j, none⟩ = some (.int .i64 zs[j]) := by
  rcases h with ⟨he, _⟩ | ⟨g, o, c', h1, h2⟩
  · rw [he] at hj; simp at hj
  · injection h1 with h1 _ _
    exact ⟨g, o, h1, h2 j hj⟩
/-- how far the pieces of a text have come. -/
structure PcI (B : Nat) (w0 W : World) (q : Nat) (t rest : SP.Bs) (E : List (Value × Rq)) (P : Option Addr) (c : Nat) (o : Option SP.Bs) (pv wv : Value) : Prop where
  fi : FI B w0.heap.size w0 W q (.slice none 0 0) (.slice none 0 0) pv wv (stP o) (.slice P E.length c) E
  eq : ∃ T, T ++ rest = t ∧ FX (some []) T = (E.map (·.2), o)
theorem PcI.pnd {B : Nat} {w0 W : World} {q : Nat} {t rest : SP.Bs} {E : List (Value × Rq)} {P : Option Addr} {c : Nat} {o : Option SP.Bs} {pv wv : Value} (h : PcI B w0 W q t rest E P c o pv wv) : Pnd o ∧ (∀ P, o = some P → P.length ≤ t.length) ∧ E.length + rest.length ≤ t.length := by
  obtain ⟨T, h1, h2⟩ := h.eq
  have hl := FX_len T
  have hp := FX_pnd (some []) T
  rw [h2] at hl hp
  rw [← h1, List.length_append]
  refine ⟨hp, fun P hP => Nat.le_trans (hl.2 P hP) (by omega), ?_⟩
  have := hl.1
  rw [List.length_map] at this
  omega
theorem PcI.zero {B : Nat} {w0 : World} {q : Nat} (t : SP.Bs) (h : PA B w0 q (.slice none 0 0) (.slice none 0 0) (stP (some []))) : PcI B w0 w0 q t t [] none 0 (some []) (.slice none 0 0) (.slice none 0 0) :=
  ⟨⟨h, Mv.refl _ _ _ _, RLs.nil _ _ _, fun x hx => by cases hx⟩, [], rfl, rfl⟩
/-- one piece more. -/
theorem PcI.step {B b1 : Nat} {w0 W W' : World} {q : Nat} {t rest u r2 : SP.Bs} {E F : List (Value × Rq)} {P P' : Option Addr} {c c' : Nat} {o : Option SP.Bs} {pv wv pv' wv' fv : Value} (h : PcI B w0 W q t rest E P c o pv wv) (W1 : World) (hu : u ++ r2 = rest)
    (h1 : FI B w0.heap.size w0 W1 q (.slice none 0 0) (.slice none 0 0) pv' wv' (stP (FX o u).2) (.slice P E.length c) E) (hF : RLs B b1 W1 fv F) (hdj : ∀ x ∈ F, ∀ g, x.1.ownBlock = some g → wv'.ownBlock ≠ some g) (hm : F.map (·.2) = (FX o u).1)
    (ho : W'.ownsRow w0.heap.size 43 2 (.slice P' (E.length + F.length) c') (E.length + F.length) (rqC E ++ rqC F)) (hg : W1.grownBy W' (Value.slice P E.length c).ownBlock) :
    PcI B w0 W' q t r2 (E ++ F) P' c' (FX o u).2 pv' wv' := by
  obtain ⟨T, e1, e2⟩ := h.eq
  refine ⟨by rw [List.length_append]; exact h1.more (Nat.le_refl _) hF hdj ho hg, T ++ u, by rw [List.append_assoc, hu, e1], ?_⟩
  rw [FX_app, e2, List.map_append, hm]
theorem PcI.fin {B : Nat} {w0 W : World} {q : Nat} {t : SP.Bs} {E : List (Value × Rq)} {P : Option Addr} {c : Nat} {o : Option SP.Bs} {pv wv : Value} (h : PcI B w0 W q t [] E P c o pv wv) : FX (some []) t = (E.map (·.2), o) := by
  obtain ⟨T, e1, e2⟩ := h.eq
  rw [List.append_nil] at e1
  rw [← e1]; exact e2
end Go.Proofs.YtbmfbpcjokbjkaaGreatDoor
