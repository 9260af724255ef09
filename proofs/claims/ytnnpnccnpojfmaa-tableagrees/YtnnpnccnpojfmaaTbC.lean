import Derived.Test.YtnnpnccnpojfmaaTbB
namespace Go.Proofs.Ytnnpnccnpojfmaa
open Go.RowKit
set_option linter.unusedVariables false
set_option linter.unusedSimpArgs false
namespace TB
theorem strB_get (l : List UInt8) (k : Nat) (h : k < (strB l).size) (b : UInt8) (hb : l[k]? = some b) : (strB l)[k] = b := by
  have := at_list (strB l) k h
  rw [strB_list, hb] at this
  injection this.symm
def rest (r : Rw) : List UInt8 := col r.le ++ (col r.mo ++ ([32, 32, r.wh] ++ (col r.fi ++ (col r.la ++ (col r.st ++ col r.co)))))
theorem txt_rest (r : Rw) (h : wfB r = true) (j : Nat) : (txt r)[16 + j]? = (rest r)[j]? := by
  have h2 := (wf_parts h).2.1
  have e : txt r = (r.nm.data.toList ++ List.replicate (16 - r.nm.size) 32) ++ rest r := by unfold txt rest; rw [List.append_assoc]
  have hl : (r.nm.data.toList ++ List.replicate (16 - r.nm.size) (32 : UInt8)).length = 16 := by
    rw [List.length_append, List.length_replicate, list_len]; omega
  rw [e, List.getElem?_append_right (by omega), hl]
  congr 1
  omega
/-- the number of a column. -/
def num (r : Rw) : Nat → Int
  | 0 => r.le
  | 1 => r.mo
  | 3 => r.fi
  | 4 => r.la
  | 5 => r.st
  | _ => r.co
theorem num_small (r : Rw) (h : wfB r = true) (c : Nat) : -9 ≤ num r c ∧ num r c ≤ 9 := by
  have h4 := (wf_parts h).2.2.2
  unfold num
  split <;> exact h4 _ (by simp)
theorem rest_dig (r : Rw) (c : Nat) (hc : c ≤ 6) (h2 : c ≠ 2) : (rest r)[3 * c + 2]? = some (UInt8.ofNat (48 + (num r c).natAbs)) ∧ (rest r)[3 * c + 1]? = some (if num r c < 0 then 45 else 32) := by
  match c, hc, h2 with
  | 0, _, _ => exact ⟨rfl, rfl⟩
  | 1, _, _ => exact ⟨rfl, rfl⟩
  | 3, _, _ => exact ⟨rfl, rfl⟩
  | 4, _, _ => exact ⟨rfl, rfl⟩
  | 5, _, _ => exact ⟨rfl, rfl⟩
  | 6, _, _ => exact ⟨rfl, rfl⟩
theorem rest_wh (r : Rw) : (rest r)[8]? = some r.wh := rfl
end TB
set_option maxHeartbeats 1000000 in
theorem endOf_any (c : Nat) (hc : c ≤ 6) (w : World) : Calls Try.prog 34 #[.int .i64 (c : Int)] w fun e w' => e = .returned (.int .i64 ((18 + 3 * c : Nat) : Int)) ∧ w' = w := by
  go_enter Try.func34, Try.ntmps34
  go_wp2
  go_returns
  exact ⟨ret_int (by omega), rfl⟩
set_option maxHeartbeats 1000000 in
theorem number_of (s : ByteArray) (c e e' : Nat) (hc : c ≤ 6) (he : 18 + 3 * c = e) (he' : 17 + 3 * c = e') (hs : e < s.size) (hs' : e' < s.size) (k : Nat) (hk : k ≤ 9) (D G : Nat) (hD : s[e].toNat = D) (hG : s[e'].toNat = G) (hDk : D = 48 + k) (m : Bool) (hm : ((G : Int) == 45) = m) (w : World) : Calls Try.prog 35 #[.string s, .int .i64 (c : Int)] w fun e w' => e = .returned (.int .i64 (if m then - (k : Int) else (k : Int))) ∧ w' = w := by
  have HE : Hid _ := endOf_any c hc
  rw [he] at HE
  have hz0 : (0 : Int) ≤ (e : Int) := by omega
  have hz1 : (e : Int) < (s.size : Int) := by omega
  have hz2 : (0 : Int) ≤ (e' : Int) := by omega
  have hz3 : (e' : Int) < (s.size : Int) := by omega
  have e1 : IntKind.i64.wrap ((e : Int) - 1) = (e' : Int) := by rw [IntKind.wrap_i64] <;> omega
  have e2 : IntKind.u8.wrap ((D : Int) - 48) = (k : Int) := by
    rw [show ((D : Int) - 48) = (k : Int) from by omega]
    unfold IntKind.wrap; simp [IntKind.bits, IntKind.signed]; omega
  clear he he' hDk
  go_enter Try.func35, Try.ntmps35
  go_wp2_with fail
  refine (show Calls _ _ _ _ _ from HE.out w).mono ?_
  rintro e w1 ⟨rfl, rfl⟩
  cases m with
  | true =>
    go_wp2
    go_returns
    exact ⟨ret_int (by omega), rfl⟩
  | false =>
    go_wp2
    go_returns
    exact ⟨by first | rfl | simp, rfl⟩
theorem number_any (r : Rw) (h : TB.wfB r = true) (c : Nat) (hc : c ≤ 6) (h2 : c ≠ 2) (w : World) : Calls Try.prog 35 #[.string (strB (TB.txt r)), .int .i64 (c : Int)] w fun e w' => e = .returned (.int .i64 (TB.num r c)) ∧ w' = w := by
  have hl : (strB (TB.txt r)).size = 37 := by rw [strB_size, TB.txt_len h]
  obtain ⟨hd, hg⟩ := TB.rest_dig r c hc h2
  rw [← TB.txt_rest r h] at hd hg
  obtain ⟨n1, n2⟩ := TB.num_small r h c
  have ed := TB.strB_get (TB.txt r) (18 + 3 * c) (by omega) _ (by rw [← hd]; congr 1; omega)
  have eg := TB.strB_get (TB.txt r) (17 + 3 * c) (by omega) _ (by rw [← hg]; congr 1; omega)
  have := number_of (strB (TB.txt r)) c (18 + 3 * c) (17 + 3 * c) hc rfl rfl (by omega) (by omega) (TB.num r c).natAbs (by omega) (48 + (TB.num r c).natAbs) (if TB.num r c < 0 then 45 else 32) (by rw [ed]; simp; omega) (by rw [eg]; split <;> rfl) rfl (decide (TB.num r c < 0)) (by split <;> simp_all) w
  refine this.mono ?_
  rintro e w' ⟨rfl, rfl⟩
  refine ⟨?_, rfl⟩
  congr 2
  split <;> rename_i hq <;> simp at hq <;> omega
end Go.Proofs.Ytnnpnccnpojfmaa
