import Derived.Test.YtghgdekdbbogkaaILaw
namespace Go.Proofs.Ytghgdekdbbogkaa
open Go.RowKit IM
set_option linter.unusedVariables false
set_option maxHeartbeats 400000 in
set_option maxRecDepth 100000 in
theorem in_quiet (a : Value) (l : List Int) (n : Int) (hlen : l.length ≤ 9223372036854775807) (w : World) (ha : HoldsO w a l) :
    Calls Try.prog 13 #[a, .int .i64 n] w fun e w' => e = .returned (.bool (decide (n ∈ l))) ∧ ∃ n, w' = w.drewN n := by
  obtain ⟨qa, ca, rfl, ha⟩ := ha
  have HA : Hid _ := ha
  clear ha
  have HT : Hid (∀ k, (h : k < l.length) → l[k] = n → decide (n ∈ l) = true) := fun k h e => decide_eq_true (by rw [← e]; exact List.getElem_mem h)
  have HF : Hid ((∀ k, (h : k < l.length) → l[k] ≠ n) → decide (n ∈ l) = false) := fun h => decide_eq_false (fun hm => by
    obtain ⟨k, hk, e⟩ := List.getElem_of_mem hm
    exact h k hk e)
  generalize decide (n ∈ l) = M at *
  go_enter Try.func13, Try.ntmps13
  go_wp2
  go_loopw [5] (fun ii wr => ∃ k : Nat, k ≤ l.length ∧ ii = .int .i64 k ∧ (∀ t, (h : t < l.length) → t < k → l[t] ≠ n) ∧ ∃ m, wr = w.drewN m) (fun ii _ => l.length - (intOf ii).toNat)
  case atStart => exact ⟨0, by omega, rfl, by intro t h h2; omega, 0, rfl⟩
  case round =>
    obtain ⟨k, hk, rfl, hup, m, rfl⟩ := hrel
    have HU : Hid (∀ t, (h : t < l.length) → t < k → l[t] ≠ n) := hup
    clear hup
    by_cases hlt : k < l.length
    · obtain ⟨g, off, rfl, hcell⟩ := HA.out (by intro e; rw [e] at hlt; simp at hlt)
      have hc := hcell k hlt
      have hkz : (k : Int) < (l.length : Int) := by omega
      clear hcell
      generalize hx : l[k] = x at hc
      have HX : Hid (l[k] = x) := hx
      clear hx
      by_cases he : x = n
      · have HMT : Hid (M = true) := HT.out k hlt (by rw [HX.out]; exact he)
        subst he
        go_wp2
        go_ret
        exact ⟨by rw [HMT.out]; rfl, _, rfl⟩
      · have he2 : (x == n) = false := beq_eq_false_iff_ne.2 he
        have HE : Hid (x ≠ n) := he
        clear he
        go_wp2
        go_roundw
        case rel =>
          refine ⟨k + 1, by omega, by go_num, ?_, _, rfl⟩
          intro t h h2
          rcases Nat.lt_or_ge t k with h3 | h3
          · exact HU.out t h h3
          · have : t = k := by omega
            subst this
            rw [HX.out]; exact HE.out
        case measure => simp [intOf]; omega
    · have HMF : Hid (M = false) := HF.out (fun t h => HU.out t h (by omega))
      go_wp2
      go_ret
      exact ⟨by rw [HMF.out]; rfl, _, rfl⟩
end Go.Proofs.Ytghgdekdbbogkaa
