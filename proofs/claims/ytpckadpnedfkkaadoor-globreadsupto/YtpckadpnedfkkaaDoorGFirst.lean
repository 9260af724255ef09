import Derived.Test.YtpckadpnedfkkaaDoorGSet
namespace Go.Proofs.YtpckadpnedfkkaaDoor
open Go.RowKit Gb
set_option linter.unusedVariables false
theorem getD_at (s : ByteArray) (k : Nat) (h : k < s.size) : s.data.toList.getD k 0 = s[k] := by
  rw [List.getD_eq_getElem?_getD, at_list s k h]; rfl
theorem ext_drop (s : ByteArray) (i : Nat) : (s.extract i s.size).data.toList = s.data.toList.drop i := by
  rw [ext_any]
  apply List.take_of_length_le
  rw [List.length_drop, list_len]
  exact Nat.le_refl _
def dropB (s : ByteArray) (i : Nat) : ByteArray := s.extract i s.size
theorem dropB_list (s : ByteArray) (i : Nat) : (dropB s i).data.toList = s.data.toList.drop i := ext_drop s i
theorem dropB_size (s : ByteArray) (i : Nat) : (dropB s i).size = s.size - i := by unfold dropB; rw [ext_size _ _ _ (Nat.le_refl _)]
def firstT (s : ByteArray) : Value := .tuple #[.int .u8 ((firstB s.data.toList).toNat : Int), .string (dropB s (firstN s.data.toList))]
theorem esc_yes (s : ByteArray) (h1 : 1 < s.size) (e : s[0].toNat = 92) : esc s.data.toList = true := by
  unfold esc
  rw [getD_at s 0 (by omega), list_len]
  have : s[0] = 92 := UInt8.toNat_inj.1 e
  simp [this, h1]
theorem esc_no (s : ByteArray) (h0 : 0 < s.size) (e : ¬ (s[0].toNat = 92 ∧ 1 < s.size)) : esc s.data.toList = false := by
  unfold esc
  rw [getD_at s 0 h0, list_len]
  apply Bool.eq_false_iff.2
  intro h
  rw [Bool.and_eq_true, decide_eq_true_iff, beq_iff_eq] at h
  exact e ⟨by rw [h.1]; rfl, h.2⟩
set_option maxHeartbeats 1000000 in
set_option maxRecDepth 20000 in
theorem firstByte_any (s : ByteArray) (h0 : 0 < s.size) (hm : s.size ≤ 140737488355328) (w : World) :
    Calls Tryd.prog 24 #[.string s] w fun e w' => e = .returned (firstT s) ∧ ∃ n, w' = w.drewN n := by
  by_cases he : s[0].toNat = 92 ∧ 1 < s.size
  · obtain ⟨e, h1⟩ := he
    have HT : Hid (firstT s = .tuple #[.int .u8 (s[1].toNat : Int), .string (s.extract 2 s.size)]) := by
      show _ = _
      unfold firstT firstB firstN
      rw [if_pos (esc_yes s h1 e), if_pos (esc_yes s h1 e), getD_at s 1 h1]; rfl
    have h2 : 2 ≤ s.size := by omega
    obtain ⟨c1, e1⟩ : ∃ c, s[1].toNat = c := ⟨_, rfl⟩
    rw [e1] at HT
    go_enter Tryd.func24, Tryd.ntmps24
    go_wp2_with fail
    go_quiet (fail)
    go_wp2
    go_ret2
    exact ⟨by rw [HT.out]; rfl, _, rfl⟩
  · have HT : Hid (firstT s = .tuple #[.int .u8 (s[0].toNat : Int), .string (s.extract 1 s.size)]) := by
      show _ = _
      unfold firstT firstB firstN
      rw [if_neg (by rw [esc_no s h0 he]; decide), if_neg (by rw [esc_no s h0 he]; decide), getD_at s 0 h0]; rfl
    have h2 : 1 ≤ s.size := by omega
    obtain ⟨c, e0⟩ : ∃ c, s[0].toNat = c := ⟨_, rfl⟩
    rw [e0] at HT he
    by_cases hc : c = 92
    · have h1 : s.size = 1 := by omega
      have HX : Hid (s.extract 1 s.size = ByteArray.empty) := by
        show _ = _
        rw [h1]
        apply ByteArray.ext
        simp
      subst hc
      go_enter Tryd.func24, Tryd.ntmps24
      go_wp2_with fail
      go_quiet (fail)
      go_wp2
      go_ret2
      exact ⟨by rw [HT.out, HX.out]; rfl, _, rfl⟩
    · clear he
      go_enter Tryd.func24, Tryd.ntmps24
      go_wp2_with fail
      go_quiet (fail)
      go_wp2
      go_ret2
      exact ⟨by rw [HT.out]; rfl, _, rfl⟩
set_option maxHeartbeats 1000000 in
set_option maxRecDepth 20000 in
theorem isRange_any (s : ByteArray) (hm : s.size ≤ 140737488355328) (w : World) :
    Calls Tryd.prog 41 #[.string s] w fun e w' => e = .returned (.bool (isR s.data.toList)) ∧ w' = w := by
  by_cases h2 : 2 < s.size
  · have HI : Hid (isR s.data.toList = (!(s[0].toNat == 92) && s[1].toNat == 45)) := by
      show _ = _
      unfold isR
      rw [getD_at s 0 (by omega), getD_at s 1 (by omega), list_len]
      have e : ∀ (a b : UInt8), (a == b) = (a.toNat == b.toNat) := fun a b => by
        rw [Bool.eq_iff_iff, beq_iff_eq, beq_iff_eq]; exact UInt8.toNat_inj.symm
      rw [e, e]
      simp [h2]
    have h1 : 1 < s.size := by omega
    have h0 : 0 < s.size := by omega
    obtain ⟨c0, e0⟩ : ∃ c, s[0].toNat = c := ⟨_, rfl⟩
    obtain ⟨c1, e1⟩ : ∃ c, s[1].toNat = c := ⟨_, rfl⟩
    rw [e0, e1] at HI
    by_cases hc : c0 = 92
    · subst hc
      go_enter Tryd.func41, Tryd.ntmps41
      go_wp2
      go_ret
      exact ⟨by rw [HI.out]; rfl, rfl⟩
    · by_cases hd : c1 = 45
      · subst hd
        have HF : Hid ((c0 == 92) = false) := by show _ = _; simpa using hc
        have hcb : ((c0 : Int) != 92) = true := by simp; omega
        go_enter Tryd.func41, Tryd.ntmps41
        go_wp2
        go_ret
        exact ⟨by rw [HI.out, HF.out]; rfl, rfl⟩
      · have HF : Hid ((c1 == 45) = false) := by show _ = _; simpa using hd
        have hcb : ((c0 : Int) != 92) = true := by simp; omega
        have hdb : ((c1 : Int) == 45) = false := by simp; omega
        go_enter Tryd.func41, Tryd.ntmps41
        go_wp2
        go_ret
        exact ⟨by rw [HI.out, HF.out, Bool.and_false]; rfl, rfl⟩
  · have HI : Hid (isR s.data.toList = false) := by
      show _ = _
      unfold isR
      rw [list_len]; simp [h2]
    go_enter Tryd.func41, Tryd.ntmps41
    go_wp2
    go_ret
    exact ⟨by rw [HI.out]; rfl, rfl⟩
end Go.Proofs.YtpckadpnedfkkaaDoor
