import Derived.Test.YtnnpnccnpojfmaaTbP
namespace Go.Proofs.Ytnnpnccnpojfmaa
open Go.RowKit
set_option linter.unusedVariables false
set_option linter.unusedSimpArgs false
def cntV : Option Nat → Value
  | some n => .tuple #[.int .i64 (n : Int), .bool true]
  | none => .tuple #[.int .i64 0, .bool false]
theorem u8_sub (c : Nat) (h : c < 256) : IntKind.u8.wrap ((c : Int) - 48) = (if 48 ≤ c then (c : Int) - 48 else (c : Int) + 208) := by
  unfold IntKind.wrap; simp [IntKind.bits, IntKind.signed]
  split <;> omega
set_option maxHeartbeats 4000000 in
set_option maxRecDepth 20000 in
theorem counted_any (s : ByteArray) (hs : s.size ≤ 140737488355328) (m : Nat) (hm : m ≤ 70368744177664) (w : World) : Calls Try.prog 38 #[.string s, .int .i64 (m : Int)] w fun e w' => e = .returned (cntV (TB.cnt s.data.toList m)) ∧ w' = w := by
  go_enter Try.func38, Try.ntmps38
  go_wp2
  go_loopw [6, 7, 8, 11] (fun vn _ _ ci wr => wr = w ∧ ∃ k n : Nat, ci = .int .i64 (k : Int) ∧ vn = .int .i64 (n : Int) ∧ k ≤ s.size ∧ TB.CntAt s.data.toList m k n) (fun _ _ _ ci _ => s.size - (intOf ci).toNat)
  case atStart => exact ⟨rfl, 0, 0, rfl, rfl, by omega, TB.CntAt.start _ _⟩
  case round =>
    obtain ⟨rfl, k, n, rfl, rfl, hk, hc⟩ := hrel
    have HC : Hid _ := hc
    have hnm : n ≤ m := hc.le
    clear hc
    by_cases hlt : k < s.size
    · have hz0 : (0 : Int) ≤ (k : Int) := by omega
      have hz1 : (k : Int) < (s.size : Int) := by omega
      obtain ⟨b, eb⟩ : ∃ b, s[k] = b := ⟨_, rfl⟩
      obtain ⟨c, ec⟩ : ∃ c, b.toNat = c := ⟨_, rfl⟩
      have hc8 : c < 256 := by rw [← ec]; exact b.toNat_lt
      have ebc : s[k].toNat = c := by rw [eb]; exact ec
      have HAT : Hid (s.data.toList[k]? = some b) := by show _ = _; rw [at_list s k hlt, eb]
      have HEC : Hid (b.toNat = c) := ec
      clear eb ec
      have hw8 := u8_sub c hc8
      by_cases hd : 48 ≤ c ∧ c ≤ 57
      · obtain ⟨g1, g2⟩ := hd
        rw [if_pos g1] at hw8
        obtain ⟨d, hdd⟩ : ∃ d : Nat, c - 48 = d := ⟨_, rfl⟩
        have hcd : (c : Int) - 48 = (d : Int) := by omega
        rw [hcd] at hw8
        have hd9 : ¬ (9 : Int) < (d : Int) := by omega
        obtain ⟨x, hx⟩ : ∃ x, n * 10 + d = x := ⟨_, rfl⟩
        have hx1 : (n : Int) * 10 + (d : Int) = (x : Int) := by omega
        have hw1 : IntKind.i64.wrap ((n : Int) * 10) = (n : Int) * 10 := by rw [IntKind.wrap_i64] <;> omega
        have hw2 : IntKind.i64.wrap ((n : Int) * 10 + (d : Int)) = (x : Int) := by rw [IntKind.wrap_i64] <;> omega
        have HX : Hid (n * 10 + (b.toNat - 48) = x) := by show _ = _; rw [HEC.out]; omega
        by_cases hx0 : x = 0
        · have HR : Hid (TB.cnt s.data.toList m = none) := by
            have := HC.out.next b HAT.out (by rw [HEC.out]; exact g1) (by rw [HEC.out]; exact g2)
            rw [HX.out, hx0] at this
            exact TB.cnt_zero this (by rw [list_len]; exact hlt)
          have hx00 : ((x : Int) == 0) = true := by simp; omega
          clear hdd hx
          go_wp2
          go_returns
          exact ⟨by rw [HR.out]; rfl, rfl⟩
        · have hx00 : ((x : Int) == 0) = false := by simp; omega
          by_cases hxm : m < x
          · have HR : Hid (TB.cnt s.data.toList m = none) := by
              have := HC.out.next b HAT.out (by rw [HEC.out]; exact g1) (by rw [HEC.out]; exact g2)
              rw [HX.out] at this
              exact TB.cnt_big this hxm
            have hxm2 : (m : Int) < (x : Int) := by omega
            clear hdd hx
            go_wp2
            go_returns
            exact ⟨by rw [HR.out]; rfl, rfl⟩
          · have HN : Hid _ := HC.out.step b HAT.out (by rw [HEC.out]; exact g1) (by rw [HEC.out]; exact g2) x HX.out hx0 (by omega)
            have hxm2 : ¬ (m : Int) < (x : Int) := by omega
            clear hdd hx
            go_wp2
            go_roundw
            case rel => exact ⟨by first | rfl | trivial, k + 1, x, by go_num, rfl, hlt, HN.out⟩
            case measure => simp [intOf]; omega
      · have HR : Hid (TB.cnt s.data.toList m = none) := HC.out.bad b HAT.out (by rw [HEC.out]; exact hd)
        obtain ⟨y, hy⟩ : ∃ y : Int, (if 48 ≤ c then (c : Int) - 48 else (c : Int) + 208) = y := ⟨_, rfl⟩
        rw [hy] at hw8
        have hy9 : (9 : Int) < y := by rw [← hy]; split <;> omega
        clear hy hd
        go_wp2
        go_returns
        exact ⟨by rw [HR.out]; rfl, rfl⟩
    · have hke : k = s.size := by omega
      by_cases hn0 : n = 0
      · have HR : Hid (TB.cnt s.data.toList m = none) := by
          show _ = _
          have hk0 : k = 0 := by
            rcases Nat.eq_zero_or_pos k with h | h
            · exact h
            · have := HC.out.pos h; omega
          have : s.data.toList = [] := List.eq_nil_of_length_eq_zero (by rw [list_len]; omega)
          rw [this]; exact TB.cnt_nil m
        subst hn0
        subst hke
        go_wp2
        go_returns
        exact ⟨by rw [HR.out]; first | rfl | simp [cntV], rfl⟩
      · have HR : Hid (TB.cnt s.data.toList m = some n ∧ 1 ≤ n) := by
          have h := HC.out
          rw [hke, ← list_len] at h
          refine h.end (fun e => ?_) (by omega)
          rw [e] at h
          have := h.dec
          simp [Go.Lib.decFrom] at this
          omega
        have hn1 : (0 : Int) < (n : Int) := by omega
        subst hke
        go_wp2
        go_returns
        exact ⟨by rw [HR.out.1]; first | rfl | (simp [cntV]; done) | (simp [cntV]; omega), rfl⟩
end Go.Proofs.Ytnnpnccnpojfmaa
