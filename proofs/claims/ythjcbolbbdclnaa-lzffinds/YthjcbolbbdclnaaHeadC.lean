import Derived.Test.YthjcbolbbdclnaaHead
namespace Go.Proofs.Ythjcbolbbdclnaa
open Go.RowKit Lz
set_option linter.unusedVariables false
theorem bytes_1 (p : ByteArray) (h : 0 < p.size) : p.data.toList = p[0] :: p.data.toList.drop 1 := by
  have := drop_at p 0 h
  rw [List.drop_zero] at this
  exact this
theorem headOf_none (p : ByteArray) (c : Nat) (hp : 0 < p.size) (hm : p.size ≤ 140737488355328) (e0 : p[0].toNat = c) (hc : 32 ≤ c) (hh : headC c (p.data.toList.drop 1) = none) (w : World) :
    Calls Try.prog 13 #[.string p] w fun e w' => e = .returned (headV 0 0 0 false) ∧ Below w.heap.size w w' := by
  have hb := p[0].toNat_lt
  rw [e0] at hb
  unfold headC at hh
  by_cases h7 : c / 32 = 7
  · rw [if_pos h7] at hh
    refine headOf_short3 p c (c % 32) hp ?_ e0 (by omega) (by omega) w
    rcases Nat.lt_or_ge p.size 3 with h | h
    · exact h
    · rw [drop_at p 1 (by omega), drop_at p 2 (by omega)] at hh
      simp at hh
  · rw [if_neg h7] at hh
    refine headOf_short2 p c (c / 32) (c % 32) hp ?_ e0 (by omega) (by omega) (by omega) (by omega) w
    rcases Nat.lt_or_ge p.size 2 with h | h
    · exact h
    · rw [drop_at p 1 (by omega)] at hh
      simp at hh
theorem headOf_some (p : ByteArray) (c n b : Nat) (r : List UInt8) (hp : 0 < p.size) (hm : p.size ≤ 140737488355328) (e0 : p[0].toNat = c) (hc : 32 ≤ c) (hh : headC c (p.data.toList.drop 1) = some (n, b, r)) :
    ∃ sz : Nat, 2 ≤ sz ∧ sz ≤ 3 ∧ sz ≤ p.size ∧ r = p.data.toList.drop sz ∧ 3 ≤ n ∧ n ≤ 264 ∧ 1 ≤ b ∧ b ≤ 8192 ∧ ∀ w : World,
    Calls Try.prog 13 #[.string p] w fun e w' => e = .returned (headV sz n b true) ∧ Below w.heap.size w w' := by
  have hb := p[0].toNat_lt
  rw [e0] at hb
  unfold headC at hh
  by_cases h7 : c / 32 = 7
  · rw [if_pos h7] at hh
    rcases Nat.lt_or_ge p.size 3 with h | h
    · exfalso
      have hl : (p.data.toList.drop 1).length < 2 := by rw [List.length_drop, list_len]; omega
      match hd : p.data.toList.drop 1, hl, hh with
      | [], _, hh => simp at hh
      | [x], _, hh => simp at hh
      | x :: y :: t, hl, _ => simp at hl; omega
    · rw [drop_at p 1 (by omega), drop_at p 2 (by omega)] at hh
      simp only [Option.some.injEq, Prod.mk.injEq] at hh
      obtain ⟨rfl, rfl, rfl⟩ := hh
      have hx := p[1].toNat_lt
      have hy := p[2].toNat_lt
      refine ⟨3, by omega, by omega, by omega, rfl, by omega, by omega, by omega, by omega, fun w => ?_⟩
      have := headOf_full3 p c (c % 32) p[1].toNat p[2].toNat (by omega) hm e0 rfl rfl hx hy (by omega) (by omega) w
      refine this.mono fun e w' h => ⟨?_, h.2⟩
      rw [h.1]
      congr 2
  · rw [if_neg h7] at hh
    rcases Nat.lt_or_ge p.size 2 with h | h
    · exfalso
      have hl : (p.data.toList.drop 1).length < 1 := by rw [List.length_drop, list_len]; omega
      match hd : p.data.toList.drop 1, hl, hh with
      | [], _, hh => simp at hh
      | x :: t, hl, _ => simp at hl
    · rw [drop_at p 1 (by omega)] at hh
      simp only [Option.some.injEq, Prod.mk.injEq] at hh
      obtain ⟨rfl, rfl, rfl⟩ := hh
      have hy := p[1].toNat_lt
      refine ⟨2, by omega, by omega, by omega, rfl, by omega, by omega, by omega, by omega, fun w => ?_⟩
      have := headOf_full2 p c (c / 32) (c % 32) p[1].toNat (by omega) hm e0 rfl hy (by omega) (by omega) (by omega) (by omega) w
      refine this.mono fun e w' h => ⟨?_, h.2⟩
      rw [h.1]
      congr 2
end Go.Proofs.Ythjcbolbbdclnaa
