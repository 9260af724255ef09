import Derived.Test.YtnnpnccnpojfmaaTbD
import Derived.Test.YtnnpnccnpojfmaaTbL
namespace Go.Proofs.Ytnnpnccnpojfmaa
open Go.RowKit
set_option linter.unusedVariables false
set_option linter.unusedSimpArgs false
abbrev zspec : Obj := .cells #[.string ⟨#[]⟩, .int .i64 0, .int .i64 0, .bool false, .bool false, .bool false, .int .i64 0, .int .i64 0, .int .i64 0, .int .i64 0] 28
set_option maxHeartbeats 2000000 in
set_option maxRecDepth 20000 in
theorem spec_any (r : Rw) (h : TB.wfB r = true) (w : World) : Calls Try.prog 26 #[.string (strB (TB.txt r))] w fun e w' => e = .returned (TB.spec (some r)) ∧ Below w.heap.size w w' := by
  have HE : Hid (∀ w, Calls Try.prog 34 #[.int .i64 2] w fun e w' => e = .returned (.int .i64 24) ∧ w' = w) := fun w => endOf_any 2 (by omega) w
  have HN : Hid _ := name_any r h
  have HC : Hid (∀ (c : Nat) w, c ≤ 6 → c ≠ 2 → Calls Try.prog 35 #[.string (strB (TB.txt r)), .int .i64 (c : Int)] w fun e w' => e = .returned (.int .i64 (TB.num r c)) ∧ w' = w) := fun c w hc h2 => number_any r h c hc h2 w
  have hl : (strB (TB.txt r)).size = 37 := by rw [strB_size, TB.txt_len h]
  have hk := TB.strB_get (TB.txt r) 24 (by omega) r.wh (by rw [← TB.rest_wh r, ← TB.txt_rest r h])
  obtain ⟨S, hS⟩ : ∃ S, strB (TB.txt r) = S := ⟨_, rfl⟩
  simp only [hS] at HN HC hl hk ⊢
  obtain ⟨n, hn⟩ : ∃ n, r.wh.toNat = n := ⟨_, rfl⟩
  have hlt : 24 < S.size := by omega
  have hk2 : (S[24]'hlt).toNat = n := by rw [hk]; exact hn
  obtain ⟨b1, hb1⟩ : ∃ b, ((n : Int) == 119) = b := ⟨_, rfl⟩
  obtain ⟨b2, hb2⟩ : ∃ b, ((n : Int) == 97) = b := ⟨_, rfl⟩
  obtain ⟨b3, hb3⟩ : ∃ b, ((n : Int) == 83) = b := ⟨_, rfl⟩
  have HV : Hid (TB.spec (some r) = .agg #[.string r.nm, .int .i64 (TB.num r 0), .int .i64 (TB.num r 1), .bool b1, .bool b2, .bool b3, .int .i64 (TB.num r 3), .int .i64 (TB.num r 4), .int .i64 (TB.num r 5), .int .i64 (TB.num r 6)]) := by
    show _ = _
    have e1 : b1 = TB.wO (some r) := by rw [← hb1]; show _ = (r.wh.toNat == 119); rw [hn, Bool.eq_iff_iff]; simp; omega
    have e2 : b2 = TB.aO (some r) := by rw [← hb2]; show _ = (r.wh.toNat == 97); rw [hn, Bool.eq_iff_iff]; simp; omega
    have e3 : b3 = TB.sO (some r) := by rw [← hb3]; show _ = (r.wh.toNat == 83); rw [hn, Bool.eq_iff_iff]; simp; omega
    rw [e1, e2, e3]; rfl
  have hz1 : (24 : Int) < (S.size : Int) := by omega
  clear hk hS hn h hl
  obtain ⟨n0, h0⟩ : ∃ x, TB.num r 0 = x := ⟨_, rfl⟩
  obtain ⟨n1, h1⟩ : ∃ x, TB.num r 1 = x := ⟨_, rfl⟩
  obtain ⟨n3, h3⟩ : ∃ x, TB.num r 3 = x := ⟨_, rfl⟩
  obtain ⟨n4, h4⟩ : ∃ x, TB.num r 4 = x := ⟨_, rfl⟩
  obtain ⟨n5, h5⟩ : ∃ x, TB.num r 5 = x := ⟨_, rfl⟩
  obtain ⟨n6, h6⟩ : ∃ x, TB.num r 6 = x := ⟨_, rfl⟩
  have C0 : Hid (∀ w, Calls Try.prog 35 #[.string S, .int .i64 0] w fun e w' => e = .returned (.int .i64 n0) ∧ w' = w) := fun w => by have := HC.out 0 w (by omega) (by omega); rw [h0] at this; exact this
  have C1 : Hid (∀ w, Calls Try.prog 35 #[.string S, .int .i64 1] w fun e w' => e = .returned (.int .i64 n1) ∧ w' = w) := fun w => by have := HC.out 1 w (by omega) (by omega); rw [h1] at this; exact this
  have C3 : Hid (∀ w, Calls Try.prog 35 #[.string S, .int .i64 3] w fun e w' => e = .returned (.int .i64 n3) ∧ w' = w) := fun w => by have := HC.out 3 w (by omega) (by omega); rw [h3] at this; exact this
  have C4 : Hid (∀ w, Calls Try.prog 35 #[.string S, .int .i64 4] w fun e w' => e = .returned (.int .i64 n4) ∧ w' = w) := fun w => by have := HC.out 4 w (by omega) (by omega); rw [h4] at this; exact this
  have C5 : Hid (∀ w, Calls Try.prog 35 #[.string S, .int .i64 5] w fun e w' => e = .returned (.int .i64 n5) ∧ w' = w) := fun w => by have := HC.out 5 w (by omega) (by omega); rw [h5] at this; exact this
  have C6 : Hid (∀ w, Calls Try.prog 35 #[.string S, .int .i64 6] w fun e w' => e = .returned (.int .i64 n6) ∧ w' = w) := fun w => by have := HC.out 6 w (by omega) (by omega); rw [h6] at this; exact this
  rw [h0, h1, h3, h4, h5, h6] at HV
  clear HC h0 h1 h3 h4 h5 h6
  rw [HV.out]
  clear HV
  go_enter Try.func26, Try.ntmps26
  go_wp2_with fail
  refine (show Calls _ _ _ _ _ from HE.out _).mono ?_
  rintro e w1 ⟨rfl, hw1⟩
  have HG1 : Hid (w1.heap[w.heap.size]? = some zspec) := by rw [hw1]; exact one_alloc w _
  have HB1 : Hid (Below w.heap.size w w1) := by rw [hw1]; exact (Below.refl _ w).alloc (Nat.le_refl _) _
  clear hw1
  go_wp2_with fail
  refine (show Calls _ _ _ _ _ from HN.out _).mono ?_
  rintro e w2 ⟨rfl, k, hw2⟩
  have HG2 : Hid (w2.heap[w.heap.size]? = some zspec) := by rw [hw2]; exact HG1.out
  have HB2 : Hid (Below w.heap.size w w2) := by rw [hw2]; exact below_dn HB1.out k
  clear hw2
  go_wp2_with fail
  refine (show Calls _ _ _ _ _ from C0.out _).mono ?_
  rintro e wx ⟨rfl, rfl⟩
  go_wp2_with fail
  refine (show Calls _ _ _ _ _ from C1.out _).mono ?_
  rintro e wy ⟨rfl, rfl⟩
  go_wp2_with fail
  refine (show Calls _ _ _ _ _ from C3.out _).mono ?_
  rintro e wx ⟨rfl, rfl⟩
  go_wp2_with fail
  refine (show Calls _ _ _ _ _ from C4.out _).mono ?_
  rintro e wy ⟨rfl, rfl⟩
  go_wp2_with fail
  refine (show Calls _ _ _ _ _ from C5.out _).mono ?_
  rintro e wx ⟨rfl, rfl⟩
  go_wp2_with fail
  refine (show Calls _ _ _ _ _ from C6.out _).mono ?_
  rintro e wy ⟨rfl, rfl⟩
  obtain ⟨d0, d1, d2, d3, d4, d5, d6, d7, d8, d9, df⟩ := row10 HG2.out
  go_wp2
  obtain ⟨hF3, hO3⟩ := heap_set10 _ w.heap.size 28 _ _ _ _ _ _ _ _ _ _ (.string r.nm) (.int .i64 n0) (.int .i64 n1) (.bool b1) (.bool b2) (.bool b3) (.int .i64 n3) (.int .i64 n4) (.int .i64 n5) (.int .i64 n6) HG2.out
  obtain ⟨k0, k1, k2, k3, k4, k5, k6, k7, k8, k9, kf⟩ := row10 hF3
  refine bodyPost_ret (v := .agg #[.string r.nm, .int .i64 n0, .int .i64 n1, .bool b1, .bool b2, .bool b3, .int .i64 n3, .int .i64 n4, .int .i64 n5, .int .i64 n6]) (by simp [results, Try.results26, go_sem, k0, k1, k2, k3, k4, k5, k6, k7, k8, k9]) rfl ⟨rfl, ?_⟩
  exact HB2.out.trans (hO3.below (Nat.le_refl _))
end Go.Proofs.Ytnnpnccnpojfmaa
