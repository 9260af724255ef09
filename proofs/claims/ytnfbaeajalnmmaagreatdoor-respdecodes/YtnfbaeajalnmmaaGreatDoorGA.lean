import Derived.Test.YtnfbaeajalnmmaaGreatDoorSpM
import Derived.Test.YtnfbaeajalnmmaaGreatDoorRB
import Derived.Deep.Cut
import Derived.Deep.CutRange
namespace Go.Proofs.YtnfbaeajalnmmaaGreatDoor
open Go.RowKit
set_option linter.unusedVariables false
set_option linter.unusedSimpArgs false
set_option maxHeartbeats 1000000 in
theorem blank_any (c : UInt8) (w : World) : Calls Tryz.prog 94 #[.int .u8 (c.toNat : Int)] w fun e w' => e = .returned (.bool (SP.bl c)) ∧ ∃ n, w' = w.drewN n := by
  obtain ⟨n, hn⟩ : ∃ n, c.toNat = n := ⟨_, rfl⟩
  rw [hn]
  by_cases h32 : n = 32
  · have HB : Hid (SP.bl c = true) := by
      show _ = _
      unfold SP.bl; rw [hn, h32]; rfl
    subst h32
    clear hn
    go_enter Tryz.func94, Tryz.ntmps94
    go_wp2
    go_returns
    exact ⟨by rw [HB.out]; first | rfl | simp, 0, rfl⟩
  have e32 : ((n : Int) == 32) = false := by simp; omega
  by_cases h9 : n = 9
  · have HB : Hid (SP.bl c = true) := by
      show _ = _
      unfold SP.bl; rw [hn, h9]; rfl
    subst h9
    clear hn
    go_enter Tryz.func94, Tryz.ntmps94
    go_wp2
    go_returns
    exact ⟨by rw [HB.out]; first | rfl | simp, 0, rfl⟩
  have e9 : ((n : Int) == 9) = false := by simp; omega
  by_cases h10 : n = 10
  · have HB : Hid (SP.bl c = true) := by
      show _ = _
      unfold SP.bl; rw [hn, h10]; rfl
    subst h10
    clear hn
    go_enter Tryz.func94, Tryz.ntmps94
    go_wp2
    go_returns
    exact ⟨by rw [HB.out]; first | rfl | simp, 0, rfl⟩
  have e10 : ((n : Int) == 10) = false := by simp; omega
  by_cases h11 : n = 11
  · have HB : Hid (SP.bl c = true) := by
      show _ = _
      unfold SP.bl; rw [hn, h11]; rfl
    subst h11
    clear hn
    go_enter Tryz.func94, Tryz.ntmps94
    go_wp2
    go_returns
    exact ⟨by rw [HB.out]; first | rfl | simp, 0, rfl⟩
  have e11 : ((n : Int) == 11) = false := by simp; omega
  by_cases h12 : n = 12
  · have HB : Hid (SP.bl c = true) := by
      show _ = _
      unfold SP.bl; rw [hn, h12]; rfl
    subst h12
    clear hn
    go_enter Tryz.func94, Tryz.ntmps94
    go_wp2
    go_returns
    exact ⟨by rw [HB.out]; first | rfl | simp, 0, rfl⟩
  have e12 : ((n : Int) == 12) = false := by simp; omega
  by_cases h13 : n = 13
  · have HB : Hid (SP.bl c = true) := by
      show _ = _
      unfold SP.bl; rw [hn, h13]; rfl
    subst h13
    clear hn
    go_enter Tryz.func94, Tryz.ntmps94
    go_wp2
    go_returns
    exact ⟨by rw [HB.out]; first | rfl | simp, 0, rfl⟩
  have e13 : ((n : Int) == 13) = false := by simp; omega
  have HB : Hid (SP.bl c = false) := by
    show _ = _
    unfold SP.bl; rw [hn]; simp; omega
  clear hn
  go_enter Tryz.func94, Tryz.ntmps94
  go_wp2
  go_returns
  exact ⟨by rw [HB.out]; first | rfl | simp, 0, rfl⟩
/-- a splitter in memory. -/
abbrev SpR (W : World) (q : Nat) (s : ByteArray) (i : Nat) (wv : Value) : Prop := W.heap[q]? = some (.cells #[.string s, .int .i64 (i : Int), wv] 116)
theorem SpR.dn {W : World} {q : Nat} {s : ByteArray} {i : Nat} {wv : Value} (h : SpR W q s i wv) (n : Nat) : SpR (W.drewN n) q s i wv := h
theorem only_dn {w w' : World} {q : Nat} (h : Only w w' q) (n : Nat) : Only w (w'.drewN n) q := ⟨h.os, h.tape, h.output, h.size, h.other⟩
theorem set_at (w : World) (q : Nat) (s : ByteArray) (i j : Nat) (wv : Value) (h : SpR w q s i wv) : SpR (w.setCell ⟨q, 1, none⟩ (.int .i64 (j : Int))) q s j wv ∧ Only w (w.setCell ⟨q, 1, none⟩ (.int .i64 (j : Int))) q := by
  refine ⟨?_, (Only.refl w q).set _ _⟩
  show _ = _
  rw [heap_setCell_same _ _ _ _ _ _ h]; rfl
theorem ended_at (s : ByteArray) (i : Nat) (h : i < s.size) : SP.ended (s.data.toList.drop i) = SP.bl s[i] := by rw [drop_at s i h]; rfl
theorem ended_end (s : ByteArray) (i : Nat) (h : s.size ≤ i) : SP.ended (s.data.toList.drop i) = true := by rw [List.drop_eq_nil_of_le (by rw [list_len]; exact h)]; rfl
set_option maxHeartbeats 1000000 in
theorem ended_any (q : Nat) (s : ByteArray) (i : Nat) (wv : Value) (hs : s.size ≤ 1073741824) (hi : i ≤ s.size) (w : World) (h : SpR w q s i wv) : Calls Tryz.prog 95 #[.pointer (some ⟨q, 0, none⟩)] w fun e w' => e = .returned (.bool (SP.ended (s.data.toList.drop i))) ∧ ∃ n, w' = w.drewN n := by
  obtain ⟨r0, r1, r2, rf⟩ := row3 h
  have HBL : Hid _ := blank_any
  clear h
  by_cases hlt : i < s.size
  · have HE : Hid (SP.ended (s.data.toList.drop i) = SP.bl s[i]) := ended_at s i hlt
    have hne : ((i : Int) == (s.size : Int)) = false := by simp; omega
    have hz0 : (0 : Int) ≤ (i : Int) := by omega
    have hz1 : (i : Int) < (s.size : Int) := by omega
    have HC : Hid (∀ W, Calls Tryz.prog 94 #[.int .u8 (s[i].toNat : Int)] W fun e w' => e = .returned (.bool (SP.bl s[i])) ∧ ∃ n, w' = W.drewN n) := fun W => HBL.out s[i] W
    rw [HE.out]
    generalize SP.bl s[i] = bb at *
    go_enter Tryz.func95, Tryz.ntmps95
    go_wp2_with fail
    go_quiet ((go_at_call 94; exact Calls.quiet_of (HC.out _)))
    go_wp2
    go_returns
    exact ⟨by first | rfl | simp, nq, rfl⟩
  · have hie : i = s.size := by omega
    have HE : Hid (SP.ended (s.data.toList.drop i) = true) := ended_end s i (by omega)
    have hne : ((i : Int) == (s.size : Int)) = true := by simp; omega
    rw [HE.out]
    clear hlt
    go_enter Tryz.func95, Tryz.ntmps95
    go_wp2_with fail
    go_quiet (fail)
    go_wp2
    go_returns
    exact ⟨by first | rfl | simp, nq, rfl⟩
set_option maxHeartbeats 1000000 in
theorem next_any (q : Nat) (s : ByteArray) (i : Nat) (wv : Value) (hs : s.size ≤ 1073741824) (hlt : i < s.size) (w : World) (h : SpR w q s i wv) : Calls Tryz.prog 96 #[.pointer (some ⟨q, 0, none⟩)] w fun e w' => e = .returned (.int .u8 (s[i].toNat : Int)) ∧ SpR w' q s (i + 1) wv ∧ Only w w' q := by
  obtain ⟨r0, r1, r2, rf⟩ := row3 h
  have HR : Hid (SpR w q s i wv) := h
  have hz0 : (0 : Int) ≤ (i : Int) := by omega
  have hz1 : (i : Int) < (s.size : Int) := by omega
  have hiw : IntKind.i64.wrap ((i : Int) + 1) = ((i + 1 : Nat) : Int) := by rw [IntKind.wrap_i64] <;> omega
  clear h
  go_enter Tryz.func96, Tryz.ntmps96
  go_wp2_with fail
  go_quiet (fail)
  have HS : Hid _ := set_at (w.drewN nq) q s i (i + 1) wv HR.out
  go_wp2
  go_returns
  exact ⟨rfl, HS.out.1, (only_dn (Only.refl w q) nq).trans HS.out.2⟩
end Go.Proofs.YtnfbaeajalnmmaaGreatDoor
namespace Go.Proofs.YtnfbaeajalnmmaaGreatDoor
open Go.RowKit
set_option linter.unusedVariables false
set_option linter.unusedSimpArgs false
def atOf (q : Nat) (wr : World) : Nat := (intOf ((wr.cell? ⟨q, 1, none⟩).getD undef)).toNat
theorem SpR.no {W : World} {q : Nat} {s : ByteArray} {i : Nat} {wv : Value} (h : SpR W q s i wv) : atOf q W = i := by
  unfold atOf; rw [(row3 h).2.1]; rfl
theorem skp_at (s : ByteArray) (i : Nat) (h : i < s.size) : SP.skp (s.data.toList.drop i) = if SP.bl s[i] then SP.skp (s.data.toList.drop (i + 1)) else s.data.toList.drop i := by
  conv => lhs; rw [drop_at s i h]
  simp only [SP.skp]
  split
  · rfl
  · rw [← drop_at s i h]
theorem skp_end (s : ByteArray) (i : Nat) (h : s.size ≤ i) : SP.skp (s.data.toList.drop i) = s.data.toList.drop i := by rw [List.drop_eq_nil_of_le (by rw [list_len]; exact h)]; rfl
/-- what skip leaves. -/
structure Skd (w w' : World) (q : Nat) (s : ByteArray) (i j : Nat) (wv : Value) : Prop where
  lo : i ≤ j
  hi : j ≤ s.size
  eq : SP.skp (s.data.toList.drop i) = s.data.toList.drop j
  no : j < s.size → SP.ended (s.data.toList.drop j) = false
  row : SpR w' q s j wv
  only : Only w w' q
set_option maxHeartbeats 2000000 in
theorem skip_any (q : Nat) (s : ByteArray) (i : Nat) (wv : Value) (hs : s.size ≤ 1073741824) (hi : i ≤ s.size) (w : World) (h : SpR w q s i wv) : Calls Tryz.prog 80 #[.pointer (some ⟨q, 0, none⟩)] w fun e w' => ∃ j, e = .returned (.bool (decide (j < s.size))) ∧ Skd w w' q s i j wv := by
  have HBL : Hid _ := blank_any
  have HR0 : Hid (SpR w q s i wv) := h
  clear h
  go_enter Tryz.func80, Tryz.ntmps80
  go_wp2
  go_loopw [] (fun wr => ∃ j, i ≤ j ∧ j ≤ s.size ∧ SP.skp (s.data.toList.drop i) = SP.skp (s.data.toList.drop j) ∧ SpR wr q s j wv ∧ Only w wr q) (fun wr => s.size - atOf q wr)
  case atStart => exact ⟨i, Nat.le_refl _, hi, rfl, HR0.out, Only.refl _ _⟩
  case round =>
    obtain ⟨j, hij, hj, he, hr, ho⟩ := hrel
    have HE : Hid _ := he
    have HR : Hid (SpR wr q s j wv) := hr
    have HO : Hid (Only w wr q) := ho
    obtain ⟨r0, r1, r2, rf⟩ := row3 hr
    clear he hr ho
    by_cases hlt : j < s.size
    · have hz0 : (0 : Int) ≤ (j : Int) := by omega
      have hz1 : (j : Int) < (s.size : Int) := by omega
      have HC : Hid (∀ W, Calls Tryz.prog 94 #[.int .u8 (s[j].toNat : Int)] W fun e w' => e = .returned (.bool (SP.bl s[j])) ∧ ∃ n, w' = W.drewN n) := fun W => HBL.out s[j] W
      have HSK : Hid _ := skp_at s j hlt
      have HEN : Hid _ := ended_at s j hlt
      have hjw : IntKind.i64.wrap ((j : Int) + 1) = ((j + 1 : Nat) : Int) := by rw [IntKind.wrap_i64] <;> omega
      obtain ⟨bb, hbb⟩ : ∃ bb, SP.bl s[j] = bb := ⟨_, rfl⟩
      rw [hbb] at HC HSK HEN
      cases bb with
      | true =>
        go_wp2_with fail
        go_quiet ((go_at_call 94; exact Calls.quiet_of (HC.out _)))
        have HS : Hid _ := set_at (wr.drewN nq) q s j (j + 1) wv HR.out
        go_wp2
        refine ⟨⟨j + 1, by omega, hlt, ?_, HS.out.1, HO.out.trans ((only_dn (Only.refl wr q) nq).trans HS.out.2)⟩, ?_⟩
        · rw [HE.out]; simpa using HSK.out
        · have e := SpR.no HS.out.1
          rw [show (((j + 1 : Nat) : Int)) = (j : Int) + 1 from by omega] at e
          rw [HR.out.no, e]; omega
      | false =>
        go_wp2_with fail
        go_quiet ((go_at_call 94; exact Calls.quiet_of (HC.out _)))
        go_wp2_with fail
        go_quiet (fail)
        go_wp2
        go_returns
        refine ⟨j, ?_, ⟨hij, hj, ?_, fun _ => HEN.out, HR.out, only_dn (only_dn HO.out _) _⟩⟩
        · rw [dec_t hlt]; first | rfl | (simp; done) | simp [hlt]
        · rw [HE.out]; simpa using HSK.out
    · have hz1 : ¬ (j : Int) < (s.size : Int) := by omega
      go_wp2_with fail
      go_quiet (fail)
      go_wp2_with fail
      go_quiet (fail)
      go_wp2
      go_returns
      refine ⟨j, ?_, ⟨hij, hj, ?_, fun h => absurd h hlt, HR.out, only_dn (only_dn HO.out _) _⟩⟩
      · rw [dec_f hlt]; first | rfl | (simp; done) | simp [hlt]
      · rw [HE.out, skp_end s j (by omega)]
end Go.Proofs.YtnfbaeajalnmmaaGreatDoor
