import Derived.Test.YtcnicdcjdieodaaDoorLoopMath
namespace Go.Proofs.Vi
set_option linter.unusedVariables false

theorem rl_nil : readLen [] = ⟨0, 0, 0, 20⟩ := rfl
theorem rl_1 {l : List UInt8} {b : UInt8} (hl : l = b :: tl l) (h : (b.toNat : Int) < 64) : readLen l = ⟨b.toNat, 1, 0, 0⟩ := by
  rw [hl]; simp only [readLen]; rw [if_pos (by omega)]
theorem rl_2short {l : List UInt8} {b : UInt8} (hl : l = b :: tl l) (h0 : 64 ≤ (b.toNat : Int)) (h : (b.toNat : Int) < 128) (hs : l.length < 2) : readLen l = ⟨0, 0, 0, 20⟩ := by
  have hn : (tl l).length < 1 := by rw [tl_length]; omega
  rw [hl]; simp only [readLen]; rw [if_neg (by omega), if_pos (by omega), if_pos hn]
theorem rl_2 {l : List UInt8} {b : UInt8} (hl : l = b :: tl l) (h0 : 64 ≤ (b.toNat : Int)) (h : (b.toNat : Int) < 128) (hs : 2 ≤ l.length) (c : UInt8) (hc : (tl l).take 1 = [c]) :
    readLen l = if ((b.toNat % 64) * 256 + c.toNat : Nat) < 64 then ⟨0, 0, 0, 21⟩ else ⟨(((b.toNat % 64) * 256 + c.toNat : Nat) : Int), 2, 0, 0⟩ := by
  have hn : ¬ (tl l).length < 1 := by rw [tl_length]; omega
  rw [hl]; simp only [readLen]; rw [if_neg (by omega), if_pos (by omega), if_neg hn, hc, show val [c] = c.toNat by simp [val]]
  by_cases e : ((b.toNat % 64) * 256 + c.toNat : Nat) < 64
  · rw [if_pos e, if_pos (by omega)]
  · rw [if_neg e, if_neg (by omega)]
    congr 1
    omega
theorem rl_5short {l : List UInt8} {b : UInt8} (hl : l = b :: tl l) (h : (b.toNat : Int) = 128) (hs : l.length < 5) : readLen l = ⟨0, 0, 0, 20⟩ := by
  have hn : (tl l).length < 4 := by rw [tl_length]; omega
  rw [hl]; simp only [readLen]; rw [if_neg (by omega), if_neg (by omega), if_pos (by omega), if_pos hn]
theorem rl_5 {l : List UInt8} {b : UInt8} (hl : l = b :: tl l) (h : (b.toNat : Int) = 128) (hs : 5 ≤ l.length) :
    readLen l = if val ((tl l).take 4) < 16384 then ⟨0, 0, 0, 21⟩ else ⟨val ((tl l).take 4), 5, 0, 0⟩ := by
  have hn : ¬ (tl l).length < 4 := by rw [tl_length]; omega
  have hb : ¬ b.toNat < 64 := by omega
  have hb2 : ¬ b.toNat < 128 := by omega
  have hb3 : b.toNat = 128 := by omega
  revert hl
  generalize tl l = r at *
  intro hl
  rw [hl]; simp only [readLen]; rw [if_neg hb, if_neg hb2, if_pos hb3, if_neg hn]
theorem rl_9short {l : List UInt8} {b : UInt8} (hl : l = b :: tl l) (h : (b.toNat : Int) = 129) (hs : l.length < 9) : readLen l = ⟨0, 0, 0, 20⟩ := by
  have hn : (tl l).length < 8 := by rw [tl_length]; omega
  rw [hl]; simp only [readLen]; rw [if_neg (by omega), if_neg (by omega), if_neg (by omega), if_pos (by omega), if_pos hn]
theorem rl_9 {l : List UInt8} {b : UInt8} (hl : l = b :: tl l) (h : (b.toNat : Int) = 129) (hs : 9 ≤ l.length) :
    readLen l = if val ((tl l).take 8) < 4294967296 ∨ 4611686018427387904 < val ((tl l).take 8) then ⟨0, 0, 0, 21⟩ else ⟨val ((tl l).take 8), 9, 0, 0⟩ := by
  have hn : ¬ (tl l).length < 8 := by rw [tl_length]; omega
  have hb : ¬ b.toNat < 64 := by omega
  have hb2 : ¬ b.toNat < 128 := by omega
  have hb3 : ¬ b.toNat = 128 := by omega
  have hb4 : b.toNat = 129 := by omega
  revert hl
  generalize tl l = r at *
  intro hl
  rw [hl]; simp only [readLen]; rw [if_neg hb, if_neg hb2, if_neg hb3, if_pos hb4, if_neg hn]
theorem rl_sp {l : List UInt8} {b : UInt8} (hl : l = b :: tl l) (h0 : 192 ≤ (b.toNat : Int)) (h1 : (b.toNat : Int) ≤ 195) : readLen l = ⟨0, 1, (b.toNat : Int) - 192 + 1, 0⟩ := by
  rw [hl]; simp only [readLen]; rw [if_neg (by omega), if_neg (by omega), if_neg (by omega), if_neg (by omega), if_pos (by omega)]; congr 1; omega
theorem rl_sp' {l : List UInt8} {b : UInt8} (hl : l = b :: tl l) (h0 : 192 ≤ (b.toNat : Int)) (h1 : (b.toNat : Int) ≤ 195) : readLen l = ⟨0, 1, (b.toNat : Int) - 191, 0⟩ := by
  rw [rl_sp hl h0 h1]; congr 1; omega
theorem rl_bad {l : List UInt8} {b : UInt8} (hl : l = b :: tl l) (h0 : 130 ≤ (b.toNat : Int)) (h1 : (b.toNat : Int) < 192 ∨ 195 < (b.toNat : Int)) : readLen l = ⟨0, 0, 0, 21⟩ := by
  rw [hl]; simp only [readLen]; rw [if_neg (by omega), if_neg (by omega), if_neg (by omega), if_neg (by omega), if_neg (by omega)]
end Go.Proofs.Vi
