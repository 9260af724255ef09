import Derived.Test.YthjcbolbbdclnaaNote
namespace Go.Proofs.Ythjcbolbbdclnaa
open Go.RowKit Lz
set_option linter.unusedVariables false
theorem three_bk {s : ByteArray} {sh a b : Nat} (h : three s.data.toList a = three s.data.toList b) : bk s sh a = bk s sh b := by
  have h0 := three_at h 0 (by omega)
  have h1 := three_at h 1 (by omega)
  have h2 := three_at h 2 (by omega)
  simp only [Nat.add_zero] at h0
  unfold bk num3
  rw [h0, h1, h2]
/-- how far a search has come: from m on, below i, nothing is alike; c - 1 is the next one of the bucket. -/
structure Srch (s : ByteArray) (sh i m c : Nat) : Prop where
  le : m ≤ i
  eq : c = lastB s sh (bk s sh i) m
  no : ∀ j, m ≤ j → j < i → three s.data.toList j ≠ three s.data.toList i
theorem Srch.none {s : ByteArray} {sh i m c : Nat} (h : Srch s sh i m c) : ∀ j, c ≤ j → j < i → (three s.data.toList j == three s.data.toList i) = false := by
  intro j h1 h2
  by_cases hm : m ≤ j
  · simpa using h.no j hm h2
  · have h3 := h.eq
    have h5 : lastB s sh (bk s sh i) m ≤ j := by omega
    have h4 : (bk s sh j == bk s sh i) = false := lastP_none (fun j => bk s sh j == bk s sh i) m j h5 (by omega)
    simp only [beq_eq_false_iff_ne, ne_eq] at h4 ⊢
    exact fun e => h4 (three_bk e)
theorem Srch.bound {s : ByteArray} {sh i m c : Nat} (h : Srch s sh i m c) : c ≤ i := by
  have := lastB_le s sh (bk s sh i) m
  have := h.eq
  have := h.le
  omega
theorem Srch.last {s : ByteArray} {sh i m c : Nat} (h : Srch s sh i m c) : last3 s.data.toList i i = last3 s.data.toList i c :=
  lastP_skip _ _ _ h.bound h.none
theorem Srch.start (s : ByteArray) (sh i : Nat) : Srch s sh i i (lastB s sh (bk s sh i) i) := ⟨Nat.le_refl _, rfl, fun j h1 h2 => absurd h2 (by omega)⟩
theorem Srch.zero {s : ByteArray} {sh i m : Nat} (h : Srch s sh i m 0) : findF s.data.toList i = 0 := by
  have e : last3 s.data.toList i i = 0 := by rw [h.last]; rfl
  unfold findF
  rw [if_pos (Or.inl e)]
theorem Srch.far {s : ByteArray} {sh i m j : Nat} (h : Srch s sh i m (j + 1)) (hf : 8192 < i - j) : findF s.data.toList i = 0 := by
  have e : last3 s.data.toList i i ≤ j + 1 := by rw [h.last]; exact lastP_le _ _
  unfold findF
  rw [if_pos (by omega)]
theorem Srch.hit {s : ByteArray} {sh i m j : Nat} (h : Srch s sh i m (j + 1)) (hf : ¬ 8192 < i - j) (h3 : three s.data.toList j = three s.data.toList i) : findF s.data.toList i = i - j := by
  have hb := h.bound
  have e : last3 s.data.toList i i = j + 1 := by
    rw [h.last]
    unfold last3
    simp only [lastP]
    rw [if_pos (by simpa using h3)]
  unfold findF
  rw [e, if_neg (by omega)]
  omega
theorem Srch.next {s : ByteArray} {sh i m j : Nat} (h : Srch s sh i m (j + 1)) (h3 : three s.data.toList j ≠ three s.data.toList i) : Srch s sh i j (lastB s sh (bk s sh j) j) := by
  have hb := h.bound
  have hh : (bk s sh j == bk s sh i) = true := by
    have h5 : lastB s sh (bk s sh i) m ≠ 0 := by have := h.eq; omega
    have h2 := lastP_holds (fun j => bk s sh j == bk s sh i) m h5
    have e : lastP (fun j => bk s sh j == bk s sh i) m = j + 1 := h.eq.symm
    rw [e] at h2
    simpa using h2
  refine ⟨by omega, by rw [eq_of_beq hh], fun k h1 h2 => ?_⟩
  by_cases hk : k = j
  · rw [hk]; exact h3
  · have := h.none k (by omega) h2
    simpa using this
theorem three_ext (s : ByteArray) (i : Nat) : (s.extract i (i + 3)).data.toList = three s.data.toList i := by
  rw [ext_any, show i + 3 - i = 3 by omega]; rfl
end Go.Proofs.Ythjcbolbbdclnaa
