import Derived.Test.YtcnicdcjdieodaaDoorLoopMath
namespace Go.Proofs.Vi
set_option linter.unusedVariables false

theorem ri_nil : readInt [] = ⟨0, 0, 20⟩ := rfl
theorem ri_0short {l : List UInt8} {b : UInt8} (hl : l = b :: tl l) (h : (b.toNat : Int) = 192) (hs : l.length < 2) : readInt l = ⟨0, 0, 20⟩ := by
  have hn : (tl l).length < 1 := by rw [tl_length]; omega
  rw [hl]; simp only [readInt]; rw [if_pos (by omega), if_pos hn]
theorem ri_0 {l : List UInt8} {b : UInt8} (hl : l = b :: tl l) (h : (b.toNat : Int) = 192) (hs : 2 ≤ l.length) : readInt l = ⟨sgn 256 (num ((tl l).take 1)), 2, 0⟩ := by
  have hn : ¬ (tl l).length < 1 := by rw [tl_length]; omega
  have hb : b.toNat = 192 := by omega
  revert hl
  generalize tl l = r at *
  intro hl
  rw [hl]; simp only [readInt]; rw [if_pos hb, if_neg hn]
theorem ri_1short {l : List UInt8} {b : UInt8} (hl : l = b :: tl l) (h : (b.toNat : Int) = 193) (hs : l.length < 3) : readInt l = ⟨0, 0, 20⟩ := by
  have hn : (tl l).length < 2 := by rw [tl_length]; omega
  rw [hl]; simp only [readInt]; rw [if_neg (by omega), if_pos (by omega), if_pos hn]
theorem ri_1 {l : List UInt8} {b : UInt8} (hl : l = b :: tl l) (h : (b.toNat : Int) = 193) (hs : 3 ≤ l.length) : readInt l = if leastF (sgn 65536 (num ((tl l).take 2))) = 1 then ⟨sgn 65536 (num ((tl l).take 2)), 3, 0⟩ else ⟨0, 0, 21⟩ := by
  have hn : ¬ (tl l).length < 2 := by rw [tl_length]; omega
  have hb : b.toNat = 193 := by omega
  revert hl
  generalize tl l = r at *
  intro hl
  rw [hl]; simp only [readInt]; rw [if_neg (by omega), if_pos hb, if_neg hn]
theorem ri_2short {l : List UInt8} {b : UInt8} (hl : l = b :: tl l) (h : (b.toNat : Int) = 194) (hs : l.length < 5) : readInt l = ⟨0, 0, 20⟩ := by
  have hn : (tl l).length < 4 := by rw [tl_length]; omega
  rw [hl]; simp only [readInt]; rw [if_neg (by omega), if_neg (by omega), if_pos (by omega), if_pos hn]
theorem ri_2 {l : List UInt8} {b : UInt8} (hl : l = b :: tl l) (h : (b.toNat : Int) = 194) (hs : 5 ≤ l.length) : readInt l = if leastF (sgn 4294967296 (num ((tl l).take 4))) = 2 then ⟨sgn 4294967296 (num ((tl l).take 4)), 5, 0⟩ else ⟨0, 0, 21⟩ := by
  have hn : ¬ (tl l).length < 4 := by rw [tl_length]; omega
  have hb : b.toNat = 194 := by omega
  revert hl
  generalize tl l = r at *
  intro hl
  rw [hl]; simp only [readInt]; rw [if_neg (by omega), if_neg (by omega), if_pos hb, if_neg hn]
theorem ri_bad {l : List UInt8} {b : UInt8} (hl : l = b :: tl l) (h : (b.toNat : Int) < 192 ∨ 194 < (b.toNat : Int)) : readInt l = ⟨0, 0, 21⟩ := by
  rw [hl]; simp only [readInt]; rw [if_neg (by omega), if_neg (by omega), if_neg (by omega)]
end Go.Proofs.Vi
