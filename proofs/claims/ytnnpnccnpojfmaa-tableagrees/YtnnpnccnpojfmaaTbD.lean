import Derived.Test.YtnnpnccnpojfmaaTbC
import Derived.Test.YtnnpnccnpojfmaaTbX
import Derived.Test.YtnnpnccnpojfmaaShelf
import Derived.Deep.Cut
namespace Go.Proofs.Ytnnpnccnpojfmaa
open Go.RowKit
set_option linter.unusedVariables false
set_option linter.unusedSimpArgs false
theorem idx_at (c : UInt8) : ∀ (a b : List UInt8), (∀ x ∈ a, x ≠ c) → Lib.indexByte (a ++ c :: b) c = (a.length : Int)
  | [], b, h => by simp [Lib.indexByte]
  | x :: a, b, h => by
    have ih := idx_at c a b (fun y hy => h y (by simp [hy]))
    have hx : (x == c) = false := by simpa using h x (by simp)
    simp only [List.cons_append, Lib.indexByte, hx, ih, List.length_cons]
    rw [if_neg (by simp), if_neg (by first | (simp; done) | (simp; omega))]
    omega
namespace TB
theorem txt_cut (r : Rw) : ∃ t, txt r = r.nm.data.toList ++ 32 :: t := by
  unfold txt
  rcases Nat.eq_zero_or_pos (16 - r.nm.size) with h | h
  · rw [h]; exact ⟨_, rfl⟩
  · obtain ⟨m, hm⟩ : ∃ m, 16 - r.nm.size = m + 1 := ⟨16 - r.nm.size - 1, by omega⟩
    rw [hm]; exact ⟨_, rfl⟩
theorem txt_idx (r : Rw) (h : wfB r = true) : Lib.indexByte (strB (txt r)).data.toList 32 = (r.nm.size : Int) := by
  obtain ⟨t, ht⟩ := txt_cut r
  rw [strB_list, ht, idx_at 32 _ _ (wf_parts h).2.2.1, list_len]
theorem txt_name (r : Rw) : (strB (txt r)).extract 0 r.nm.size = r.nm := by
  obtain ⟨t, ht⟩ := txt_cut r
  refine bytes_ext ?_
  rw [ext_any, strB_list, ht]
  simp [list_len]
end TB
set_option maxHeartbeats 1000000 in
theorem lcut_any (s : ByteArray) (n : Nat) (hn : n < s.size) (hs : s.size ≤ 4294967280) (hx : Lib.indexByte s.data.toList 32 = (n : Int)) (w : World) : Calls Try.prog 42 #[.string s, .string ⟨#[32]⟩] w fun e w' => e = .returned (.tuple #[.string (s.extract 0 n), .string (s.extract (n + 1) s.size), .bool true]) ∧ ∃ k, w' = w.drewN k := by
  have HI : Hid _ := Try.stringslite_Index_one s 32 w
  rw [hx] at HI
  have h1 : IntKind.i64.wrap ((n : Int) + 1) = ((n + 1 : Nat) : Int) := by rw [IntKind.wrap_i64] <;> omega
  have h2 : n + 1 ≤ s.size := hn
  have h3 : n ≤ s.size := by omega
  go_enter Try.func42, Try.ntmps42
  go_wp2_with fail
  refine (show Calls _ _ _ _ _ from HI.out).mono ?_
  rintro e w1 ⟨rfl, rfl⟩
  go_wp2_with fail
  go_quiet (fail)
  go_wp2
  go_returns
  exact ⟨by first | rfl | simp, nq, rfl⟩
set_option maxHeartbeats 1000000 in
theorem cut_any (s : ByteArray) (n : Nat) (hn : n < s.size) (hs : s.size ≤ 4294967280) (hx : Lib.indexByte s.data.toList 32 = (n : Int)) (w : World) : Calls Try.prog 36 #[.string s, .string ⟨#[32]⟩] w fun e w' => e = .returned (.tuple #[.string (s.extract 0 n), .string (s.extract (n + 1) s.size), .bool true]) ∧ ∃ k, w' = w.drewN k := by
  have HI : Hid _ := lcut_any s n hn hs hx w
  clear hx
  go_enter Try.func36, Try.ntmps36
  go_wp2_with fail
  refine (show Calls _ _ _ _ _ from HI.out).mono ?_
  rintro e w1 ⟨rfl, k, rfl⟩
  go_wp2
  go_returns
  exact ⟨by first | rfl | simp, k, rfl⟩
set_option maxHeartbeats 1000000 in
theorem name_any (r : Rw) (h : TB.wfB r = true) (w : World) : Calls Try.prog 27 #[.string (strB (TB.txt r))] w fun e w' => e = .returned (.string r.nm) ∧ ∃ k, w' = w.drewN k := by
  have hp := TB.wf_parts h
  have hl : (strB (TB.txt r)).size = 37 := by rw [strB_size, TB.txt_len h]
  have HI : Hid _ := cut_any (strB (TB.txt r)) r.nm.size (by omega) (by omega) (TB.txt_idx r h) w
  rw [TB.txt_name] at HI
  clear hp
  go_enter Try.func27, Try.ntmps27
  go_wp2_with fail
  refine (show Calls _ _ _ _ _ from HI.out).mono ?_
  rintro e w1 ⟨rfl, k, rfl⟩
  go_wp2
  go_returns
  exact ⟨by first | rfl | simp, k, rfl⟩
set_option maxHeartbeats 1000000 in
theorem named_any (r : Rw) (h : TB.wfB r = true) (s : ByteArray) (w : World) : Calls Try.prog 25 #[.string (strB (TB.txt r)), .string s] w fun e w' => (∃ b, e = .returned (.bool b) ∧ (b = true ↔ r.nm.data.toList = s.data.toList)) ∧ ∃ k, w' = w.drewN k := by
  have HP : Hid _ := Try.strings_HasPrefix (strB (TB.txt r)) s
  have HN : Hid _ := name_any r h
  obtain ⟨b, hb⟩ : ∃ b, Lib.hasPrefix (strB (TB.txt r)).data.toList s.data.toList = b := ⟨_, rfl⟩
  rw [hb] at HP
  cases b with
  | true =>
    by_cases he : r.nm.data.toList = s.data.toList
    · have ht := str_same he
      have HE : Hid _ := he
      clear he hb
      go_enter Try.func25, Try.ntmps25
      go_wp2_with fail
      refine (show Calls _ _ _ _ _ from HP.out _).mono ?_
      rintro e w1 ⟨rfl, rfl⟩
      go_wp2_with fail
      refine (show Calls _ _ _ _ _ from HN.out _).mono ?_
      rintro e w2 ⟨rfl, k, rfl⟩
      go_wp2
      go_returns
      exact ⟨⟨true, by first | rfl | simp, by simpa using HE.out⟩, k, rfl⟩
    · have ht := str_other he
      have HE : Hid _ := he
      clear he hb
      go_enter Try.func25, Try.ntmps25
      go_wp2_with fail
      refine (show Calls _ _ _ _ _ from HP.out _).mono ?_
      rintro e w1 ⟨rfl, rfl⟩
      go_wp2_with fail
      refine (show Calls _ _ _ _ _ from HN.out _).mono ?_
      rintro e w2 ⟨rfl, k, rfl⟩
      go_wp2
      go_returns
      exact ⟨⟨false, by first | rfl | simp, by simpa using HE.out⟩, k, rfl⟩
  | false =>
    have HE : Hid (¬ r.nm.data.toList = s.data.toList) := fun he => by
      obtain ⟨t, ht⟩ := TB.txt_cut r
      rw [strB_list, ht, ← he] at hb
      unfold Lib.hasPrefix at hb
      rw [List.isPrefixOf_iff_prefix.2 (List.prefix_append _ _)] at hb
      cases hb
    clear hb
    go_enter Try.func25, Try.ntmps25
    go_wp2_with fail
    refine (show Calls _ _ _ _ _ from HP.out _).mono ?_
    rintro e w1 ⟨rfl, rfl⟩
    go_wp2
    go_returns
    exact ⟨⟨false, by first | rfl | simp, by simpa using HE.out⟩, 0, rfl⟩
end Go.Proofs.Ytnnpnccnpojfmaa
