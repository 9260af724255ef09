import Derived.Test.YtnfbaeajalnmmaaGreatDoorHD
import Derived.Test.YtnfbaeajalnmmaaGreatDoorHE
import Derived.Test.YtnfbaeajalnmmaaGreatDoorHF
import Derived.Test.YtnfbaeajalnmmaaGreatDoorHG
import Derived.Test.YtnfbaeajalnmmaaGreatDoorHH
import Derived.Test.YtnfbaeajalnmmaaGreatDoorHI
import Derived.Test.YtnfbaeajalnmmaaGreatDoorHM
import Derived.Test.YtnfbaeajalnmmaaGreatDoorHT
import Derived.Test.YtnfbaeajalnmmaaGreatDoorHJ
namespace Go.Proofs.YtnfbaeajalnmmaaGreatDoor
open Go.RowKit Vi
set_option linter.unusedVariables false
set_option linter.unusedSimpArgs false
theorem de_err {k x : Nat} {h : HdR} {S : By} {w w' : World} {e : Ending} (hl : LdIs { e := x } w w' e) (hx : x ≠ 0) (he : h.e = x) : DeIs k (oH k h S) w w' e := by
  have ho : oH k h S = .error x := by
    cases k with
    | zero => show (if h.e = 0 then _ else _) = _; rw [if_neg (by rw [he]; exact hx), he]
    | succ k => show decH k h S = _; unfold decH; rw [if_neg (by rw [he]; exact hx), he]
  rw [ho]
  obtain ⟨k0, t0, n0, z0, rfl, hb, _, hno⟩ := hl
  obtain ⟨rfl, rfl, rfl, rfl⟩ := hno hx
  exact ⟨hx, hb, rfl⟩
theorem oH_list (k c z : Nat) (kd : Int) (S : By) : oH (k + 1) { e := 0, kind := kd, size := z + 1, many := some c } S = lsO k (decMany (dec k) c (S.drop (z + 1))) kd z := by
  show decH k _ S = _
  unfold decH lsO
  rw [if_pos rfl]
  try rfl
/-- the document's decode, where a whole line is there. -/
theorem rd_full (k : Nat) (s : ByteArray) (D : Int) (hs : s.size ≤ 281474976710656) (hDk : D = 33 - (k : Int)) (hk : k ≤ 32) (a : Nat) (ha : a + 1 < s.size) (h13 : s[a] = 13) (h10 : s[a + 1] = 10) (hno : ∀ i, i < a → ∀ h : i < s.size, s[i] ≠ 13 ∧ s[i] ≠ 10) (ha1 : 1 ≤ a) (m : UInt8) (hm : s[0] = m) (w : World)
    (IH : ∀ j, k = j + 1 → ∀ (W : World) (T : ByteArray), T.size ≤ 281474976710656 → Calls Tryz.prog 18 #[.string T, .int .i64 (D + 1)] W fun e w' => DeIs j (dec j T.data.toList) W w' e) :
    Calls Tryz.prog 18 #[.string s, .int .i64 D] w fun e w' => DeIs k (oH k (fullR m ((s.data.toList.drop 1).take (a - 1)) (s.data.toList.drop (a + 2)) (k == 0)) s.data.toList) w w' e := by
  obtain ⟨T, hT⟩ : ∃ T, s.extract 1 a = T := ⟨_, rfl⟩
  have hTl : T.data.toList = (s.data.toList.drop 1).take (a - 1) := by rw [← hT, ext_any]
  have hTn : T.data.toList.length = a - 1 := by rw [hTl, List.length_take, List.length_drop, list_len]; omega
  rw [← hTl]
  have hsz : a + 2 = T.data.toList.length + 3 := by omega
  by_cases h43 : m = 43
  · subst h43
    refine (rd_stat s D hs a ha h13 h10 hno ha1 hm T hT w).mono (fun e w' hl => ?_)
    rw [hsz] at hl
    exact de_ld hl rfl
  by_cases h45 : m = 45
  · subst h45
    refine (rd_erro s D hs a ha h13 h10 hno ha1 hm T hT w).mono (fun e w' hl => ?_)
    rw [hsz] at hl
    exact de_ld hl rfl
  by_cases h58 : m = 58
  · subst h58
    cases hn : numberOf T.data.toList with
    | none =>
      have hf : fullR 58 T.data.toList (s.data.toList.drop (a + 2)) (k == 0) = { e := 120 } := by
        show (match numberOf T.data.toList with | some n => _ | none => _) = _
        rw [hn]
      rw [hf]
      exact (rd_numno s D hs a ha h13 h10 hno ha1 hm T hT hn w).mono (fun e w' hl => de_ld hl rfl)
    | some n =>
      have hf : fullR 58 T.data.toList (s.data.toList.drop (a + 2)) (k == 0) = { e := 0, kind := 3, n := n, size := T.data.toList.length + 3 } := by
        show (match numberOf T.data.toList with | some n => _ | none => _) = _
        rw [hn]
      rw [hf, ← hsz]
      exact (rd_num s D hs a ha h13 h10 hno ha1 hm T hT n hn w).mono (fun e w' hl => de_ld hl rfl)
  by_cases h95 : m = 95
  · subst h95
    by_cases h0 : T.size = 0
    · have hl0 : T.data.toList = [] := by rw [empty_str T h0]
      have hf : fullR 95 T.data.toList (s.data.toList.drop (a + 2)) (k == 0) = { e := 0, size := 3 } := by
        show (if T.data.toList = [] then _ else _) = _
        rw [if_pos hl0]
      rw [hf]
      have h3 : a + 2 = 3 := by rw [hsz, hl0]; rfl
      refine (rd_null s D hs a ha h13 h10 hno ha1 hm T hT h0 w).mono (fun e w' hl => ?_)
      rw [h3] at hl
      exact de_ld hl rfl
    · have hl0 : T.data.toList ≠ [] := fun e => h0 (by rw [← list_len, e]; rfl)
      have hf : fullR 95 T.data.toList (s.data.toList.drop (a + 2)) (k == 0) = { e := 120 } := by
        show (if T.data.toList = [] then _ else _) = _
        rw [if_neg hl0]
      rw [hf]
      cases hn : numberOf T.data.toList with
      | none => exact (rd_nullno_a s D hs a ha h13 h10 hno ha1 hm T hT hn h0 w).mono (fun e w' hl => de_ld hl rfl)
      | some n =>
        by_cases hneg : n < 0
        · exact (rd_nullno_b s D hs a ha h13 h10 hno ha1 hm T hT n hn hneg h0 w).mono (fun e w' hl => de_ld hl rfl)
        · exact (rd_nullno_c s D hs a ha h13 h10 hno ha1 hm T hT n hn (by omega) h0 w).mono (fun e w' hl => de_ld hl rfl)
  by_cases h35 : m = 35
  · subst h35
    by_cases ht : T.data.toList = [116]
    · have hf : fullR 35 T.data.toList (s.data.toList.drop (a + 2)) (k == 0) = { e := 0, kind := 11, n := 1, size := 4 } := by
        show (if T.data.toList = [116] then _ else _) = _
        rw [if_pos ht]
      rw [hf]
      have h3 : a + 2 = 4 := by rw [hsz, ht]; rfl
      refine (rd_boolt s D hs a ha h13 h10 hno ha1 hm T hT ht w).mono (fun e w' hl => ?_)
      rw [h3] at hl
      exact de_ld hl rfl
    by_cases hff : T.data.toList = [102]
    · have hf : fullR 35 T.data.toList (s.data.toList.drop (a + 2)) (k == 0) = { e := 0, kind := 11, n := 0, size := 4 } := by
        show (if T.data.toList = [116] then _ else if T.data.toList = [102] then _ else _) = _
        rw [if_neg ht, if_pos hff]
      rw [hf]
      have h3 : a + 2 = 4 := by rw [hsz, hff]; rfl
      refine (rd_boolf s D hs a ha h13 h10 hno ha1 hm T hT hff w).mono (fun e w' hl => ?_)
      rw [h3] at hl
      exact de_ld hl rfl
    have hf : fullR 35 T.data.toList (s.data.toList.drop (a + 2)) (k == 0) = { e := 120 } := by
      show (if T.data.toList = [116] then _ else if T.data.toList = [102] then _ else _) = _
      rw [if_neg ht, if_neg hff]
    rw [hf]
    cases hn : numberOf T.data.toList with
    | none => exact (rd_boolno_a s D hs a ha h13 h10 hno ha1 hm T hT hn ht hff w).mono (fun e w' hl => de_ld hl rfl)
    | some n =>
      by_cases hneg : n < 0
      · exact (rd_boolno_b s D hs a ha h13 h10 hno ha1 hm T hT n hn hneg ht hff w).mono (fun e w' hl => de_ld hl rfl)
      · exact (rd_boolno_c s D hs a ha h13 h10 hno ha1 hm T hT n hn (by omega) ht hff w).mono (fun e w' hl => de_ld hl rfl)
  by_cases h36 : m = 36
  · subst h36
    have hf0 : fullR 36 T.data.toList (s.data.toList.drop (a + 2)) (k == 0) = (match numberOf T.data.toList with | some n => if n = -1 then { e := 0, size := T.data.toList.length + 3 } else if 0 ≤ n ∧ n ≤ 524288 then bulkT (s.data.toList.drop (a + 2)) n.toNat (T.data.toList.length + 2) else { e := 120 } | none => { e := 120 }) := rfl
    by_cases hm1 : T.data.toList = [45, 49]
    · have hf : fullR 36 T.data.toList (s.data.toList.drop (a + 2)) (k == 0) = { e := 0, size := T.data.toList.length + 3 } := by
        rw [hf0, hm1, num_minus1]; rfl
      rw [hf, ← hsz]
      exact (rd_bulkm s D hs a ha h13 h10 hno ha1 hm T hT hm1 w).mono (fun e w' hl => de_ld hl rfl)
    cases hn : numberOf T.data.toList with
    | none =>
      have hf : fullR 36 T.data.toList (s.data.toList.drop (a + 2)) (k == 0) = { e := 120 } := by rw [hf0, hn]
      rw [hf]
      exact (rd_bulk_a s D hs a ha h13 h10 hno ha1 hm T hT hn hm1 w).mono (fun e w' hl => de_ld hl rfl)
    | some n =>
      have hn1 : n ≠ -1 := fun e => hm1 (num_is1 (by rw [hn, e]))
      by_cases hneg : n < 0
      · have hf : fullR 36 T.data.toList (s.data.toList.drop (a + 2)) (k == 0) = { e := 120 } := by rw [hf0, hn]; simp only; rw [if_neg hn1, if_neg (by omega)]
        rw [hf]
        exact (rd_bulk_b s D hs a ha h13 h10 hno ha1 hm T hT n hn hneg hm1 w).mono (fun e w' hl => de_ld hl rfl)
      by_cases hbig : 524288 < n
      · have hf : fullR 36 T.data.toList (s.data.toList.drop (a + 2)) (k == 0) = { e := 120 } := by rw [hf0, hn]; simp only; rw [if_neg hn1, if_neg (by omega)]
        rw [hf]
        exact (rd_bulk_c s D hs a ha h13 h10 hno ha1 hm T hT n hn (by omega) hbig hm1 w).mono (fun e w' hl => de_ld hl rfl)
      obtain ⟨N, rfl⟩ : ∃ N : Nat, n = (N : Int) := ⟨n.toNat, by omega⟩
      obtain ⟨R, hR⟩ : ∃ R, s.extract (a + 2) s.size = R := ⟨_, rfl⟩
      have hRl : R.data.toList = s.data.toList.drop (a + 2) := by rw [← hR]; exact rest_list s (a + 2) (by omega)
      have hf : fullR 36 T.data.toList (s.data.toList.drop (a + 2)) (k == 0) = bulkT R.data.toList N (a + 1) := by
        rw [hf0, hn]; simp only
        rw [if_neg hn1, if_pos (by omega), hRl, show a + 1 = T.data.toList.length + 2 by omega]
        rfl
      rw [hf]
      refine (rd_bulk s D hs a ha h13 h10 hno ha1 hm T hT N hn (by omega) R hR hm1 w).mono (fun e w' hl => de_ld hl ?_)
      unfold bulkT
      split
      · rfl
      · split <;> rfl
  by_cases h42 : m = 42
  · subst h42
    have hf0 : fullR 42 T.data.toList (s.data.toList.drop (a + 2)) (k == 0) = (match numberOf T.data.toList with
      | some n => if (42 : UInt8) = 42 ∧ n = -1 then { e := 0, kind := 9, size := T.data.toList.length + 3 } else if 0 ≤ n ∧ n ≤ mostK 42 ∧ (k == 0) = false then { e := 0, kind := kindK 42, size := T.data.toList.length + 3, many := some (if (42 : UInt8) = 37 then n.toNat * 2 else n.toNat) } else { e := 120 }
      | none => { e := 120 }) := rfl
    by_cases hm1 : T.data.toList = [45, 49]
    · have hf : fullR 42 T.data.toList (s.data.toList.drop (a + 2)) (k == 0) = { e := 0, kind := 9, size := T.data.toList.length + 3 } := by
        rw [hf0, hm1, num_minus1]; rfl
      rw [hf, ← hsz]
      exact (rd_nulls s D hs a ha h13 h10 hno ha1 hm T hT hm1 w).mono (fun e w' hl => de_ld hl rfl)
    cases hn : numberOf T.data.toList with
    | none =>
      have hf : fullR 42 T.data.toList (s.data.toList.drop (a + 2)) (k == 0) = { e := 120 } := by rw [hf0, hn]
      rw [hf]
      exact (rd_l42_a s D hs a ha h13 h10 hno ha1 hm T hT hn hm1 w).mono (fun e w' hl => de_ld hl rfl)
    | some n =>
      have hn1 : ¬ ((42 : UInt8) = 42 ∧ n = -1) := fun e => hm1 (num_is1 (by rw [hn, e.2]))
      by_cases hneg : n < 0
      · have hf : fullR 42 T.data.toList (s.data.toList.drop (a + 2)) (k == 0) = { e := 120 } := by rw [hf0, hn]; show (if (42 : UInt8) = 42 ∧ n = -1 then _ else if 0 ≤ n ∧ n ≤ mostK 42 ∧ (k == 0) = false then _ else _) = _; rw [if_neg hn1, if_neg (by omega)]
        rw [hf]
        exact (rd_l42_b s D hs a ha h13 h10 hno ha1 hm T hT n hn hneg hm1 w).mono (fun e w' hl => de_ld hl rfl)
      obtain ⟨N, rfl⟩ : ∃ N : Nat, n = (N : Int) := ⟨n.toNat, by omega⟩
      have hmk : mostK 42 = 1048576 := rfl
      by_cases hbad : 1048576 < (N : Int) ∨ k = 0
      · have hf : fullR 42 T.data.toList (s.data.toList.drop (a + 2)) (k == 0) = { e := 120 } := by
          rw [hf0, hn]; show (if (42 : UInt8) = 42 ∧ (N : Int) = -1 then _ else if 0 ≤ (N : Int) ∧ (N : Int) ≤ mostK 42 ∧ (k == 0) = false then _ else _) = _; rw [if_neg hn1, if_neg]
          rw [hmk]
          rintro ⟨g1, g2, g3⟩
          rcases hbad with h | h
          · omega
          · subst h; cases g3
        rw [hf]
        exact (rd_l42_c s D hs a ha h13 h10 hno ha1 hm T hT N hn (by rcases hbad with h | h; exact Or.inl h; right; omega) hm1 w).mono (fun e w' hl => de_ld hl rfl)
      · obtain ⟨j, rfl⟩ : ∃ j, k = j + 1 := ⟨k - 1, by omega⟩
        obtain ⟨c, hc⟩ : ∃ c, c = if (42 : UInt8) = 37 then N * 2 else N := ⟨_, rfl⟩
        have hf : fullR 42 T.data.toList (s.data.toList.drop (a + 2)) (j + 1 == 0) = { e := 0, kind := kindK 42, size := a + 1 + 1, many := some c } := by
          rw [hf0, hn]; show (if (42 : UInt8) = 42 ∧ (N : Int) = -1 then _ else if 0 ≤ (N : Int) ∧ (N : Int) ≤ mostK 42 ∧ (j + 1 == 0) = false then _ else _) = _
          rw [if_neg hn1, if_pos ⟨by omega, by rw [hmk]; omega, rfl⟩, hc, Int.toNat_natCast, show a + 1 + 1 = T.data.toList.length + 3 by omega]
        rw [hf, oH_list]
        exact rd_l42 s D hs a ha h13 h10 hno ha1 hm T hT j N c hn (by omega) (by omega) (by omega) hc (IH j rfl) hm1 w
  by_cases h37 : m = 37
  · subst h37
    have hf0 : fullR 37 T.data.toList (s.data.toList.drop (a + 2)) (k == 0) = (match numberOf T.data.toList with
      | some n => if (37 : UInt8) = 42 ∧ n = -1 then { e := 0, kind := 9, size := T.data.toList.length + 3 } else if 0 ≤ n ∧ n ≤ mostK 37 ∧ (k == 0) = false then { e := 0, kind := kindK 37, size := T.data.toList.length + 3, many := some (if (37 : UInt8) = 37 then n.toNat * 2 else n.toNat) } else { e := 120 }
      | none => { e := 120 }) := rfl
    cases hn : numberOf T.data.toList with
    | none =>
      have hf : fullR 37 T.data.toList (s.data.toList.drop (a + 2)) (k == 0) = { e := 120 } := by rw [hf0, hn]
      rw [hf]
      exact (rd_l37_a s D hs a ha h13 h10 hno ha1 hm T hT hn w).mono (fun e w' hl => de_ld hl rfl)
    | some n =>
      have hn1 : ¬ ((37 : UInt8) = 42 ∧ n = -1) := fun e => absurd e.1 (by decide)
      by_cases hneg : n < 0
      · have hf : fullR 37 T.data.toList (s.data.toList.drop (a + 2)) (k == 0) = { e := 120 } := by rw [hf0, hn]; show (if (37 : UInt8) = 42 ∧ n = -1 then _ else if 0 ≤ n ∧ n ≤ mostK 37 ∧ (k == 0) = false then _ else _) = _; rw [if_neg hn1, if_neg (by omega)]
        rw [hf]
        exact (rd_l37_b s D hs a ha h13 h10 hno ha1 hm T hT n hn hneg w).mono (fun e w' hl => de_ld hl rfl)
      obtain ⟨N, rfl⟩ : ∃ N : Nat, n = (N : Int) := ⟨n.toNat, by omega⟩
      have hmk : mostK 37 = 524288 := rfl
      by_cases hbad : 524288 < (N : Int) ∨ k = 0
      · have hf : fullR 37 T.data.toList (s.data.toList.drop (a + 2)) (k == 0) = { e := 120 } := by
          rw [hf0, hn]; show (if (37 : UInt8) = 42 ∧ (N : Int) = -1 then _ else if 0 ≤ (N : Int) ∧ (N : Int) ≤ mostK 37 ∧ (k == 0) = false then _ else _) = _; rw [if_neg hn1, if_neg]
          rw [hmk]
          rintro ⟨g1, g2, g3⟩
          rcases hbad with h | h
          · omega
          · subst h; cases g3
        rw [hf]
        exact (rd_l37_c s D hs a ha h13 h10 hno ha1 hm T hT N hn (by rcases hbad with h | h; exact Or.inl h; right; omega) w).mono (fun e w' hl => de_ld hl rfl)
      · obtain ⟨j, rfl⟩ : ∃ j, k = j + 1 := ⟨k - 1, by omega⟩
        obtain ⟨c, hc⟩ : ∃ c, c = if (37 : UInt8) = 37 then N * 2 else N := ⟨_, rfl⟩
        have hf : fullR 37 T.data.toList (s.data.toList.drop (a + 2)) (j + 1 == 0) = { e := 0, kind := kindK 37, size := a + 1 + 1, many := some c } := by
          rw [hf0, hn]; show (if (37 : UInt8) = 42 ∧ (N : Int) = -1 then _ else if 0 ≤ (N : Int) ∧ (N : Int) ≤ mostK 37 ∧ (j + 1 == 0) = false then _ else _) = _
          rw [if_neg hn1, if_pos ⟨by omega, by rw [hmk]; omega, rfl⟩, hc, Int.toNat_natCast, show a + 1 + 1 = T.data.toList.length + 3 by omega]
        rw [hf, oH_list]
        exact rd_l37 s D hs a ha h13 h10 hno ha1 hm T hT j N c hn (by omega) (by omega) (by omega) hc (IH j rfl) w
  by_cases h126 : m = 126
  · subst h126
    have hf0 : fullR 126 T.data.toList (s.data.toList.drop (a + 2)) (k == 0) = (match numberOf T.data.toList with
      | some n => if (126 : UInt8) = 42 ∧ n = -1 then { e := 0, kind := 9, size := T.data.toList.length + 3 } else if 0 ≤ n ∧ n ≤ mostK 126 ∧ (k == 0) = false then { e := 0, kind := kindK 126, size := T.data.toList.length + 3, many := some (if (126 : UInt8) = 37 then n.toNat * 2 else n.toNat) } else { e := 120 }
      | none => { e := 120 }) := rfl
    cases hn : numberOf T.data.toList with
    | none =>
      have hf : fullR 126 T.data.toList (s.data.toList.drop (a + 2)) (k == 0) = { e := 120 } := by rw [hf0, hn]
      rw [hf]
      exact (rd_l126_a s D hs a ha h13 h10 hno ha1 hm T hT hn w).mono (fun e w' hl => de_ld hl rfl)
    | some n =>
      have hn1 : ¬ ((126 : UInt8) = 42 ∧ n = -1) := fun e => absurd e.1 (by decide)
      by_cases hneg : n < 0
      · have hf : fullR 126 T.data.toList (s.data.toList.drop (a + 2)) (k == 0) = { e := 120 } := by rw [hf0, hn]; show (if (126 : UInt8) = 42 ∧ n = -1 then _ else if 0 ≤ n ∧ n ≤ mostK 126 ∧ (k == 0) = false then _ else _) = _; rw [if_neg hn1, if_neg (by omega)]
        rw [hf]
        exact (rd_l126_b s D hs a ha h13 h10 hno ha1 hm T hT n hn hneg w).mono (fun e w' hl => de_ld hl rfl)
      obtain ⟨N, rfl⟩ : ∃ N : Nat, n = (N : Int) := ⟨n.toNat, by omega⟩
      have hmk : mostK 126 = 1048576 := rfl
      by_cases hbad : 1048576 < (N : Int) ∨ k = 0
      · have hf : fullR 126 T.data.toList (s.data.toList.drop (a + 2)) (k == 0) = { e := 120 } := by
          rw [hf0, hn]; show (if (126 : UInt8) = 42 ∧ (N : Int) = -1 then _ else if 0 ≤ (N : Int) ∧ (N : Int) ≤ mostK 126 ∧ (k == 0) = false then _ else _) = _; rw [if_neg hn1, if_neg]
          rw [hmk]
          rintro ⟨g1, g2, g3⟩
          rcases hbad with h | h
          · omega
          · subst h; cases g3
        rw [hf]
        exact (rd_l126_c s D hs a ha h13 h10 hno ha1 hm T hT N hn (by rcases hbad with h | h; exact Or.inl h; right; omega) w).mono (fun e w' hl => de_ld hl rfl)
      · obtain ⟨j, rfl⟩ : ∃ j, k = j + 1 := ⟨k - 1, by omega⟩
        obtain ⟨c, hc⟩ : ∃ c, c = if (126 : UInt8) = 37 then N * 2 else N := ⟨_, rfl⟩
        have hf : fullR 126 T.data.toList (s.data.toList.drop (a + 2)) (j + 1 == 0) = { e := 0, kind := kindK 126, size := a + 1 + 1, many := some c } := by
          rw [hf0, hn]; show (if (126 : UInt8) = 42 ∧ (N : Int) = -1 then _ else if 0 ≤ (N : Int) ∧ (N : Int) ≤ mostK 126 ∧ (j + 1 == 0) = false then _ else _) = _
          rw [if_neg hn1, if_pos ⟨by omega, by rw [hmk]; omega, rfl⟩, hc, Int.toNat_natCast, show a + 1 + 1 = T.data.toList.length + 3 by omega]
        rw [hf, oH_list]
        exact rd_l126 s D hs a ha h13 h10 hno ha1 hm T hT j N c hn (by omega) (by omega) (by omega) hc (IH j rfl) w
  by_cases h62 : m = 62
  · subst h62
    have hf0 : fullR 62 T.data.toList (s.data.toList.drop (a + 2)) (k == 0) = (match numberOf T.data.toList with
      | some n => if (62 : UInt8) = 42 ∧ n = -1 then { e := 0, kind := 9, size := T.data.toList.length + 3 } else if 0 ≤ n ∧ n ≤ mostK 62 ∧ (k == 0) = false then { e := 0, kind := kindK 62, size := T.data.toList.length + 3, many := some (if (62 : UInt8) = 37 then n.toNat * 2 else n.toNat) } else { e := 120 }
      | none => { e := 120 }) := rfl
    cases hn : numberOf T.data.toList with
    | none =>
      have hf : fullR 62 T.data.toList (s.data.toList.drop (a + 2)) (k == 0) = { e := 120 } := by rw [hf0, hn]
      rw [hf]
      exact (rd_l62_a s D hs a ha h13 h10 hno ha1 hm T hT hn w).mono (fun e w' hl => de_ld hl rfl)
    | some n =>
      have hn1 : ¬ ((62 : UInt8) = 42 ∧ n = -1) := fun e => absurd e.1 (by decide)
      by_cases hneg : n < 0
      · have hf : fullR 62 T.data.toList (s.data.toList.drop (a + 2)) (k == 0) = { e := 120 } := by rw [hf0, hn]; show (if (62 : UInt8) = 42 ∧ n = -1 then _ else if 0 ≤ n ∧ n ≤ mostK 62 ∧ (k == 0) = false then _ else _) = _; rw [if_neg hn1, if_neg (by omega)]
        rw [hf]
        exact (rd_l62_b s D hs a ha h13 h10 hno ha1 hm T hT n hn hneg w).mono (fun e w' hl => de_ld hl rfl)
      obtain ⟨N, rfl⟩ : ∃ N : Nat, n = (N : Int) := ⟨n.toNat, by omega⟩
      have hmk : mostK 62 = 1048576 := rfl
      by_cases hbad : 1048576 < (N : Int) ∨ k = 0
      · have hf : fullR 62 T.data.toList (s.data.toList.drop (a + 2)) (k == 0) = { e := 120 } := by
          rw [hf0, hn]; show (if (62 : UInt8) = 42 ∧ (N : Int) = -1 then _ else if 0 ≤ (N : Int) ∧ (N : Int) ≤ mostK 62 ∧ (k == 0) = false then _ else _) = _; rw [if_neg hn1, if_neg]
          rw [hmk]
          rintro ⟨g1, g2, g3⟩
          rcases hbad with h | h
          · omega
          · subst h; cases g3
        rw [hf]
        exact (rd_l62_c s D hs a ha h13 h10 hno ha1 hm T hT N hn (by rcases hbad with h | h; exact Or.inl h; right; omega) w).mono (fun e w' hl => de_ld hl rfl)
      · obtain ⟨j, rfl⟩ : ∃ j, k = j + 1 := ⟨k - 1, by omega⟩
        obtain ⟨c, hc⟩ : ∃ c, c = if (62 : UInt8) = 37 then N * 2 else N := ⟨_, rfl⟩
        have hf : fullR 62 T.data.toList (s.data.toList.drop (a + 2)) (j + 1 == 0) = { e := 0, kind := kindK 62, size := a + 1 + 1, many := some c } := by
          rw [hf0, hn]; show (if (62 : UInt8) = 42 ∧ (N : Int) = -1 then _ else if 0 ≤ (N : Int) ∧ (N : Int) ≤ mostK 62 ∧ (j + 1 == 0) = false then _ else _) = _
          rw [if_neg hn1, if_pos ⟨by omega, by rw [hmk]; omega, rfl⟩, hc, Int.toNat_natCast, show a + 1 + 1 = T.data.toList.length + 3 by omega]
        rw [hf, oH_list]
        exact rd_l62 s D hs a ha h13 h10 hno ha1 hm T hT j N c hn (by omega) (by omega) (by omega) hc (IH j rfl) w
  have hf : fullR m T.data.toList (s.data.toList.drop (a + 2)) (k == 0) = { e := 120 } := by
    unfold fullR
    rw [if_neg h43, if_neg h45, if_neg h58, if_neg h95, if_neg h35, if_neg h36, if_neg (by rintro (h | h | h | h); exact h42 h; exact h37 h; exact h126 h; exact h62 h)]
  rw [hf]
  cases hn : numberOf T.data.toList with
  | none => exact (rd_un_a s D hs a ha h13 h10 hno ha1 m hm T hT hn h43 h45 h58 h36 h95 h35 h42 h37 h126 h62 w).mono (fun e w' hl => de_ld hl rfl)
  | some n =>
    by_cases hneg : n < 0
    · exact (rd_un_b s D hs a ha h13 h10 hno ha1 m hm T hT n hn hneg h43 h45 h58 h36 h95 h35 h42 h37 h126 h62 w).mono (fun e w' hl => de_ld hl rfl)
    · exact (rd_un_c s D hs a ha h13 h10 hno ha1 m hm T hT n hn (by omega) h43 h45 h58 h36 h95 h35 h42 h37 h126 h62 w).mono (fun e w' hl => de_ld hl rfl)
theorem get_drop1 (s : ByteArray) (i : Nat) (h : i + 1 < s.size) : (s.data.toList.drop 1)[i]? = some s[i + 1] := by
  rw [List.getElem?_drop, Nat.add_comm 1 i]; exact at_list s (i + 1) h
/-- the document's decode, one level. -/
theorem rd_one (k : Nat) (s : ByteArray) (D : Int) (hs : s.size ≤ 281474976710656) (hDk : D = 33 - (k : Int)) (hk : k ≤ 32) (w : World)
    (IH : ∀ j, k = j + 1 → ∀ (W : World) (T : ByteArray), T.size ≤ 281474976710656 → Calls Tryz.prog 18 #[.string T, .int .i64 (D + 1)] W fun e w' => DeIs j (dec j T.data.toList) W w' e) :
    Calls Tryz.prog 18 #[.string s, .int .i64 D] w fun e w' => DeIs k (dec k s.data.toList) w w' e := by
  rw [dec_oH]
  by_cases h0 : s.size = 0
  · have : hd (k == 0) s.data.toList = { e := 20 } := by rw [empty_str s h0]; rfl
    rw [this]
    exact (rd_E s D hs h0 w).mono (fun e w' hl => de_ld hl rfl)
  have hp : 0 < s.size := by omega
  have hD : decide (D ≤ 32) = !(k == 0) := by
    by_cases hk0 : k = 0
    · subst hk0
      have : ¬ D ≤ 32 := by omega
      simp [this]
    · have : D ≤ 32 := by omega
      simp [this, hk0]
  obtain ⟨m, hm⟩ : ∃ m, s[0] = m := ⟨_, rfl⟩
  obtain ⟨r, hr⟩ : ∃ r, s.data.toList.drop 1 = r := ⟨_, rfl⟩
  have hS : s.data.toList = m :: r := by
    have := drop_at s 0 hp
    rw [List.drop_zero, hm, hr] at this
    exact this
  have hrl : r.length + 1 = s.size := by rw [← list_len, hS]; rfl
  have hhd : hd (k == 0) s.data.toList = hdM (k == 0) m r := by rw [hS]; rfl
  have hget : ∀ i (h : i + 1 < s.size), r[i]? = some s[i + 1] := fun i h => by rw [← hr]; exact get_drop1 s i h
  rw [hhd]
  by_cases hmk : m = 13 ∨ m = 10
  · have h120 : hdM (k == 0) m r = { e := 120 } := by rcases hmk with rfl | rfl <;> rfl
    rw [h120]
    rcases hmk with rfl | rfl
    · by_cases h1 : s.size = 1
      · refine (rd_H s D hs 0 hp hm (by omega) (fun i hi => by omega) ⟨#[]⟩ (empty_str _ (by rw [ext_size _ _ _ (by omega)])) 120 (by decide) (fun W => rpart_nil true D W) w).mono (fun e w' hl => de_err hl (by decide) rfl)
      · by_cases h10 : s[1] = 10
        · exact (rd_F0 s D hs 0 (by omega) hm h10 (fun i hi => by omega) rfl w).mono (fun e w' hl => de_ld hl rfl)
        · exact (rd_B13 s D hs 0 (by omega) hm h10 (fun i hi => by omega) w).mono (fun e w' hl => de_ld hl rfl)
    · exact (rd_B10 s D hs 0 hp hm (fun i hi => by omega) w).mono (fun e w' hl => de_ld hl rfl)
  cases hel : elAt r with
  | none =>
    have hne := el_none hel
    have hno : ∀ i, i < s.size → ∀ h : i < s.size, s[i] ≠ 13 ∧ s[i] ≠ 10 := fun i _ h => by
      cases i with
      | zero => rw [hm]; exact ⟨fun e => hmk (Or.inl e), fun e => hmk (Or.inr e)⟩
      | succ i => exact hne _ (List.mem_of_getElem? (hget i h))
    have hx := hd_none m r (k == 0) hel
    refine (rd_N s D hs s.size rfl hp hno s (by rw [ByteArray.extract_zero_size]) (partE m r false (k == 0)) (part_cases _ _ _ _) (fun W => ?_) w).mono (fun e w' hl => de_err hl (part_cases _ _ _ _) hx)
    have := rpart_any s hs hp false (k == 0) D hD W
    rw [hm, hr] at this
    exact this
  | some i =>
    obtain ⟨hil, hor, hne⟩ := el_some hel
    have hno : ∀ j, j < i + 1 → ∀ h : j < s.size, s[j] ≠ 13 ∧ s[j] ≠ 10 := fun j hj h => by
      cases j with
      | zero => rw [hm]; exact ⟨fun e => hmk (Or.inl e), fun e => hmk (Or.inr e)⟩
      | succ j =>
        refine hne _ ?_
        have h9 := hget j h
        refine List.mem_of_getElem? (i := j) ?_
        rw [List.getElem?_take_of_lt (by omega)]; exact h9
    have hia : i + 1 < s.size := by omega
    have hri := hget i hia
    by_cases h10 : s[i + 1] = 10
    · rw [h10] at hri
      have he := hd_bad m r (k == 0) i hel (end_lf hri)
      exact (rd_B10 s D hs (i + 1) hia h10 hno w).mono (fun e w' hl => de_err hl (by decide) he)
    have h13 : s[i + 1] = 13 := by
      rw [hri] at hor
      rcases hor with h | h
      · injection h
      · injection h with h; exact absurd h h10
    rw [h13] at hri
    by_cases hle : i + 1 = r.length
    · have hx := hd_half m r (k == 0) i hel hri hle
      obtain ⟨T, hT⟩ : ∃ T, s.extract 0 (i + 1) = T := ⟨_, rfl⟩
      have hTs : T.size = i + 1 := by rw [← hT, ext_size _ _ _ (by omega)]; rfl
      have hTl : T.data.toList = m :: r.take i := by rw [← hT, ext_any, List.drop_zero, Nat.sub_zero, hS]; rfl
      have hT0 : T[0]'(by omega) = m := by
        have := at_list T 0 (by omega)
        rw [hTl] at this
        injection this with this
        exact this.symm
      refine (rd_H s D hs (i + 1) hia h13 (by omega) hno T hT (partE m (r.take i) true (k == 0)) (part_cases _ _ _ _) (fun W => ?_) w).mono (fun e w' hl => de_err hl (part_cases _ _ _ _) hx)
      have := rpart_any T (by omega) (by omega) true (k == 0) D hD W
      rw [hT0, hTl] at this
      exact this
    have hi2 : i + 1 + 1 < s.size := by omega
    have hri2 := hget (i + 1) hi2
    have hdrop : r.drop i = 13 :: s[i + 1 + 1] :: r.drop (i + 2) := by
      rw [drop_more r i 13 hri, drop_more r (i + 1) _ hri2]
    by_cases h102 : s[i + 1 + 1] = 10
    · rw [h102] at hdrop
      have hx := hd_full m r (r.drop (i + 2)) (k == 0) i hel hdrop
      rw [hx]
      have := rd_full k s D hs hDk hk (i + 1) hi2 h13 h102 hno (by omega) m hm w IH
      rw [hr] at this
      have e2 : s.data.toList.drop (i + 1 + 2) = r.drop (i + 2) := by rw [hS]; rfl
      rw [e2] at this
      exact this
    · have he : endE (r.drop i) = 120 := by rw [hdrop]; simp [endE, h102]
      exact (rd_B13 s D hs (i + 1) hi2 h13 h102 hno w).mono (fun e w' hl => de_err hl (by decide) (hd_bad m r (k == 0) i hel he))
/-- the document's decode. -/
theorem rdecode_any : ∀ (k : Nat) (hk : k ≤ 32) (s : ByteArray) (hs : s.size ≤ 281474976710656) (w : World), Calls Tryz.prog 18 #[.string s, .int .i64 (33 - (k : Int))] w fun e w' => DeIs k (dec k s.data.toList) w w' e
  | 0, hk, s, hs, w => rd_one 0 s _ hs rfl hk w (fun j hj => by omega)
  | k + 1, hk, s, hs, w => rd_one (k + 1) s _ hs rfl hk w (fun j hj W T hT => by
    have hj : k = j := by omega
    subst hj
    rw [show (33 : Int) - ((k + 1 : Nat) : Int) + 1 = 33 - (k : Int) by omega]
    exact rdecode_any k (by omega) T hT W)
set_option maxHeartbeats 4000000 in
set_option maxRecDepth 20000 in
/-- the document's Decode. -/
theorem rDecode_any (s : ByteArray) (hs : s.size ≤ 281474976710656) (w : World) :
    Calls Tryz.prog 10 #[.string s] w fun e w' => DeIs 32 (dec 32 s.data.toList) w w' e := by
  obtain ⟨rb, hrb⟩ : ∃ rb, w.heap.size = rb := ⟨_, rfl⟩
  obtain ⟨W0, hW0⟩ : ∃ W, W = w.alloc (.cells #[.int .i64 0, .string ⟨#[]⟩, .int .i64 0, .slice none 0 0] 24) := ⟨_, rfl⟩
  have hb0 : Below w.heap.size w W0 := by rw [hW0]; exact (Below.refl _ _).alloc (Nat.le_refl _) _
  have hr0 : W0.heap[rb]? = some (.cells #[.int .i64 0, .string ⟨#[]⟩, .int .i64 0, .slice none 0 0] 24) := by rw [hW0, ← hrb]; exact one_alloc _ _
  have HB0 : Hid (Below w.heap.size w W0) := hb0
  have HR0 : Hid _ := hr0
  have HRW : Hid (w.heap.size ≤ rb) := Nat.le_of_eq hrb
  have HCC : Hid (Calls Tryz.prog 18 #[.string s, .int .i64 1] W0 fun e w' => DeIs 32 (dec 32 s.data.toList) W0 w' e) := rdecode_any 32 (by omega) s hs W0
  generalize dec 32 s.data.toList = o at *
  clear hb0 hr0
  go_enter Tryz.func10, Tryz.ntmps10
  go_wp2_with fail
  rw [← hW0]
  clear hW0 hrb
  refine (show Calls _ _ _ _ _ from HCC.out).mono ?_
  rintro e w2 hde
  obtain ⟨k0, t0, n0, P, l, c, zz, x, rfl⟩ := de_form hde
  have HDE : Hid (DeIs 32 o W0 w2 (.returned (.tuple #[.agg #[.int .i64 k0, .string t0, .int .i64 n0, .slice P l c], .int .i64 zz, .int .i64 x]))) := hde
  have HR2 : Hid (w2.heap[rb]? = some (.cells #[.int .i64 0, .string ⟨#[]⟩, .int .i64 0, .slice none 0 0] 24)) := keep_row HR0.out (de_bel hde)
  have HLT : Hid (rb < W0.heap.size) := row_lt HR0.out
  clear hde
  obtain ⟨z0, z1, z2, z3, zf⟩ := prow4 HR2.out
  go_wp2
  exact rp3_fin _ 2 3 4 Tryz.results10 HR2.out _ _ _ _ _ _ _ (fun w' ho => de_fin HDE.out HB0.out ho HRW.out HLT.out) _ rfl rfl rfl rfl
end Go.Proofs.YtnfbaeajalnmmaaGreatDoor
namespace Go.Proofs.YtnfbaeajalnmmaaGreatDoor
open Go.RowKit Vi
set_option linter.unusedVariables false
set_option linter.unusedSimpArgs false
theorem str_self (s : ByteArray) : (s.toList == s.toList) = true := by simp
theorem RpB.cell {Q : Nat → Prop} {k : Nat} {R : Value → List (Rp k) → Prop} {w : World} {P : Option Addr} {n c : Nat} {ts : List (Rn (Rp k))} (h : RpB Q k R w (.slice P n c) ts) (i : Nat) (hi : i < ts.length) : ∃ g o l2, P = some ⟨g, o, none⟩ ∧
      w.cell? ⟨g, o + i * 4, none⟩ = some (.int .i64 ts[i].kind) ∧ w.cell? ⟨g, o + i * 4 + 1, none⟩ = some (.string (strB ts[i].text)) ∧
      w.cell? ⟨g, o + i * 4 + 2, none⟩ = some (.int .i64 ts[i].n) ∧ w.cell? ⟨g, o + i * 4 + 3, none⟩ = some l2 ∧ R l2 ts[i].list := by
  obtain ⟨P', c', e, h2⟩ := h
  obtain ⟨g, o, l2, e1, _, e3, e4, e5, e6, e7⟩ := h2 i hi
  injection e with a1 a2 a3
  exact ⟨g, o, l2, by rw [a1, e1], e3, e4, e5, e6, e7⟩
set_option maxRecDepth 20000 in
set_option maxHeartbeats 8000000 in
/-- two replies that are one. -/
theorem sR_one (k : Nat) (kd n : Int) (tx : By) (Q1 Q2 : Nat → Prop) (va vb : Value) (l : List (Rn (Rp k))) (w : World) (hx : l.length ≤ 1073741824) (hA : RpB Q1 k (RpL Q1 k w) w va l) (hB : RpB Q2 k (RpL Q2 k w) w vb l)
    (IH : ∀ X ∈ l, ∀ (va vb : Value) (W : World), RpL Q1 k W va X.list → RpL Q2 k W vb X.list → Calls Tryz.prog 7 #[.agg #[.int .i64 X.kind, .string (strB X.text), .int .i64 X.n, va], .agg #[.int .i64 X.kind, .string (strB X.text), .int .i64 X.n, vb]] W fun e w' => e = .returned (.bool true) ∧ Below W.heap.size W w') :
    Calls Tryz.prog 7 #[.agg #[.int .i64 kd, .string (strB tx), .int .i64 n, va], .agg #[.int .i64 kd, .string (strB tx), .int .i64 n, vb]] w fun e w' => e = .returned (.bool true) ∧ Below w.heap.size w w' := by
  obtain ⟨P1, c1, rfl⟩ : ∃ P c, va = .slice P l.length c := by obtain ⟨P, c, e, _⟩ := hA; exact ⟨P, c, e⟩
  obtain ⟨P2, c2, rfl⟩ : ∃ P c, vb = .slice P l.length c := by obtain ⟨P, c, e, _⟩ := hB; exact ⟨P, c, e⟩
  obtain ⟨m, hm⟩ : ∃ m, l.length = m := ⟨_, rfl⟩
  obtain ⟨s, hs0⟩ : ∃ s, strB tx = s := ⟨_, rfl⟩
  have HM : Hid (l.length = m) := hm
  have HA : Hid (RpB Q1 k (RpL Q1 k w) w (.slice P1 m c1) l) := hm ▸ hA
  have HBV : Hid (RpB Q2 k (RpL Q2 k w) w (.slice P2 m c2) l) := hm ▸ hB
  rw [hm] at hx ⊢
  rw [hs0]
  have HIH : Hid _ := IH
  obtain ⟨W0, hW0⟩ : ∃ W, W = (w.alloc (.cells #[.int .i64 kd, .string s, .int .i64 n, .slice P1 m c1] 24)).alloc (.cells #[.int .i64 kd, .string s, .int .i64 n, .slice P2 m c2] 24) := ⟨_, rfl⟩
  obtain ⟨b, hb⟩ : ∃ b, w.heap.size = b := ⟨_, rfl⟩
  have HBB : Hid (w.heap.size = b) := hb
  have hb0 : Below b w W0 := by rw [hW0, ← hb]; exact ((Below.refl _ _).alloc (Nat.le_refl _) _).alloc (by simp) _
  have hr1 : W0.heap[b]? = some (.cells #[.int .i64 kd, .string s, .int .i64 n, .slice P1 m c1] 24) := by
    rw [hW0, ← hb]; exact keep_row (one_alloc _ _) ((Below.refl _ _).alloc (Nat.le_refl _) _)
  have hr2 : W0.heap[b + 1]? = some (.cells #[.int .i64 kd, .string s, .int .i64 n, .slice P2 m c2] 24) := by
    have h9 := one_alloc (w.alloc (.cells #[.int .i64 kd, .string s, .int .i64 n, .slice P1 m c1] 24)) (.cells #[.int .i64 kd, .string s, .int .i64 n, .slice P2 m c2] 24)
    rw [hW0, ← hb]; simpa using h9
  have HB0 : Hid (Below b w W0) := hb0
  have HR1 : Hid _ := hr1
  have HR2 : Hid _ := hr2
  obtain ⟨z0, z1, z2, z3, zf⟩ := prow4 hr1
  obtain ⟨y0, y1, y2, y3, yf⟩ := prow4 hr2
  have hs := str_self s
  rw [hb]
  clear hb0 hr1 hr2 hA hB hm IH
  go_enter Tryz.func7, Tryz.ntmps7
  go_upto_region 1 with fail
  rw [← hW0]
  clear hW0 hb
  go_wp2
  clear z0 z1 z2 z3 zf y0 y1 y2 y3 yf hs
  go_loopw [5] (fun ci wr => ∃ i : Nat, (i ≤ m ∧ Below W0.heap.size W0 wr) ∧ ci = .int .i64 (i : Int)) (fun ci _ => m - (intOf ci).toNat)
  case atStart => exact ⟨0, ⟨Nat.zero_le _, Below.refl _ _⟩, rfl⟩
  case round =>
    obtain ⟨i, ⟨hi, hbw⟩, rfl⟩ := hrel
    have HBW : Hid (Below W0.heap.size W0 wr) := hbw
    obtain ⟨z0, z1, z2, z3, zf⟩ := prow4 (keep_row HR1.out hbw)
    obtain ⟨y0, y1, y2, y3, yf⟩ := prow4 (keep_row HR2.out hbw)
    have HBX : Hid (Below b w wr) := HB0.out.trans (hbw.mono (Nat.le_of_lt (row_lt HR1.out)))
    clear hbw
    by_cases hlt : i < m
    · have hix : i < l.length := by rw [HM.out]; exact hlt
      have hbx : Below w.heap.size w wr := HBB.out ▸ HBX.out
      have hA2 : RpB Q1 k (RpL Q1 k wr) wr (.slice P1 m c1) l := HA.out.keep (fun g hg hl => ⟨hg, hbx.block g hl⟩) (fun v t h => h.on hbx)
      have hB2 : RpB Q2 k (RpL Q2 k wr) wr (.slice P2 m c2) l := HBV.out.keep (fun g hg hl => ⟨hg, hbx.block g hl⟩) (fun v t h => h.on hbx)
      obtain ⟨g1, o1, l1, hP1, d0, d1, d2, d3, d4⟩ := hA2.cell i hix
      obtain ⟨g2, o2, l2, hP2, e0, e1, e2, e3, e4⟩ := hB2.cell i hix
      obtain ⟨X, hX⟩ : ∃ X, l[i] = X := ⟨_, rfl⟩
      have hxm : X ∈ l := by rw [← hX]; exact List.getElem_mem hix
      rw [hX] at d0 d1 d2 d4 e0 e1 e2 e4
      obtain ⟨LP1, lc1, hl1⟩ := d4.form
      obtain ⟨LP2, lc2, hl2⟩ := e4.form
      subst hl1
      subst hl2
      subst hP1
      subst hP2
      have HCC : Hid (∀ W, Below wr.heap.size wr W → Calls Tryz.prog 7 #[.agg #[.int .i64 X.kind, .string (strB X.text), .int .i64 X.n, .slice LP1 X.list.length lc1], .agg #[.int .i64 X.kind, .string (strB X.text), .int .i64 X.n, .slice LP2 X.list.length lc2]] W fun e w' => e = .returned (.bool true) ∧ Below W.heap.size W w') := fun W hW =>
        HIH.out X hxm _ _ W (d4.on hW) (e4.on hW)
      have hz0 : (0 : Int) ≤ (i : Int) := by omega
      have hz1 : (i : Int) < (m : Int) := by omega
      obtain ⟨XL, hXL⟩ : ∃ XL, X.list.length = XL := ⟨_, rfl⟩
      obtain ⟨XT, hXT⟩ : ∃ XT, strB X.text = XT := ⟨_, rfl⟩
      rw [hXL, hXT] at HCC
      rw [hXL] at d3 e3
      rw [hXT] at d1 e1
      clear hX hix hxm hA2 hB2 d4 e4 hbx hXL hXT
      have HBD : Hid (Below wr.heap.size wr wr.drew) := below_dn (Below.refl _ _) 1
      have HCD : Hid _ := HCC.out wr.drew HBD.out
      have HWD : Hid (Below W0.heap.size W0 wr.drew) := below_dn HBW.out 1
      go_upto_region 6 with fail
      go_region_with (go_at_call 7; refine (show Calls _ _ _ _ _ from HCD.out).mono ?_; rintro e w2 ⟨rfl, hbx⟩; have HB2 : Hid (Below W0.heap.size W0 w2) := HWD.out.trans (hbx.mono HWD.out.size); clear hbx)
      all_goals
        clear z0 z1 z2 z3 zf y0 y1 y2 y3 yf d0 d1 d2 d3 e0 e1 e2 e3
        go_wp2
        go_roundw
        case rel => exact ⟨i + 1, ⟨hlt, HB2.out⟩, rfl⟩
        case measure => simp [intOf]; omega
    · have hin : i = m := by omega
      subst hin
      go_wp2
      go_returns
      exact ⟨rfl, HBX.out⟩
/-- no list in it is too long. -/
def Lim : (k : Nat) → List (Rp k) → Prop
  | 0, _ => True
  | k + 1, ts => List.length (α := Rn (Rp k)) ts ≤ 1073741824 ∧ ∀ t : Rn (Rp k), List.Mem t (show List (Rn (Rp k)) from ts) → Lim k t.list
theorem sR_any : ∀ (k : Nat) (kd n : Int) (tx : By) (Q1 Q2 : Nat → Prop) (va vb : Value) (l : List (Rp k)) (w : World), Lim k l → RpL Q1 k w va l → RpL Q2 k w vb l →
    Calls Tryz.prog 7 #[.agg #[.int .i64 kd, .string (strB tx), .int .i64 n, va], .agg #[.int .i64 kd, .string (strB tx), .int .i64 n, vb]] w fun e w' => e = .returned (.bool true) ∧ Below w.heap.size w w'
  | 0, kd, n, tx, Q1, Q2, va, vb, l, w, hl, hA, hB => by
    obtain ⟨P1, c1, rfl⟩ := hA
    obtain ⟨P2, c2, rfl⟩ := hB
    exact sR_one 0 kd n tx Q1 Q2 _ _ [] w (by simp) ⟨P1, c1, rfl, fun i h => absurd h (Nat.not_lt_zero i)⟩ ⟨P2, c2, rfl, fun i h => absurd h (Nat.not_lt_zero i)⟩ (fun X hX => by cases hX)
  | k + 1, kd, n, tx, Q1, Q2, va, vb, l, w, hl, hA, hB =>
    sR_one k kd n tx Q1 Q2 va vb l w hl.1 hA hB (fun X hX va vb W h1 h2 => sR_any k X.kind X.n X.text Q1 Q2 va vb X.list W (hl.2 X hX) h1 h2)
theorem list_many_le {a b c : Int} {deep : Bool} {r : By} {m : Nat} (hb : c ≤ 1048576) (h : (listH a b c deep r).many = some m) : m ≤ 2097152 := by
  unfold listH at h
  split at h
  · rename_i n z hz
    have h9 := nu_len hz
    have h8 : n ≤ 1048576 := by
      have := h9.2.2.2
      split at this <;> omega
    split at h
    · cases h
    · injection h with h
      split at h <;> omega
  · cases h
theorem hd_many_le (deep : Bool) (s : By) (m : Nat) (h : (hd deep s).many = some m) : m ≤ 2097152 := by
  match s, h with
  | [], h => cases h
  | c :: r, h =>
    have h0 : (hdM deep c r).many = some m := h
    by_cases hl : c = 42 ∨ c = 37 ∨ c = 126 ∨ c = 62
    · rw [hdM_list deep r hl] at h0
      exact list_many_le (by unfold mostK; split; omega; split <;> omega) h0
    · exfalso
      have : (hdM deep c r).many = none := by
        unfold hdM
        rw [if_neg (fun e => hl (Or.inl e)), if_neg (fun e => hl (Or.inr (Or.inl e))), if_neg (fun e => hl (Or.inr (Or.inr (Or.inl e)))), if_neg (fun e => hl (Or.inr (Or.inr (Or.inr e))))]
        split
        · unfold lineH; split; rfl; split <;> rfl
        split
        · unfold lineH; split; rfl; split <;> rfl
        split
        · unfold numH; split <;> rfl
        split
        · unfold bulkH bulkT; repeat' split
          all_goals rfl
        split
        · unfold nullH; split <;> rfl
        split
        · cases r with
          | nil => rfl
          | cons c r => rw [boolH]; split; split <;> rfl; rfl
        · rfl
      rw [this] at h0; cases h0
theorem many_mem {α : Type} {f : By → Except Nat (α × Nat)} : ∀ (n : Nat) (s : By) (ts : List α) (y : Nat), decMany f n s = .ok (ts, y) → ∀ t ∈ ts, ∃ s' z, f s' = .ok (t, z)
  | 0, s, ts, y, h, t, ht => by
    injection h with h
    injection h with h1 h2
    subst h1
    cases ht
  | n + 1, s, ts, y, h, t, ht => by
    rw [decMany] at h
    cases h1 : decMany f n s with
    | error e => rw [h1] at h; cases h
    | ok p =>
      obtain ⟨ts1, y1⟩ := p
      rw [h1] at h
      simp only at h
      cases h2 : f (s.drop y1) with
      | error e => rw [h2] at h; cases h
      | ok p =>
        obtain ⟨t2, z⟩ := p
        rw [h2] at h
        injection h with h
        injection h with h3 h4
        subst h3
        rcases List.mem_append.1 ht with h5 | h5
        · exact many_mem n s ts1 y1 h1 t h5
        · have : t = t2 := by simpa using h5
          subst this
          exact ⟨_, _, h2⟩
theorem dec_lim : ∀ (k : Nat) (s : By) (t : Rn (Rp k)) (z : Nat), dec k s = .ok (t, z) → Lim k t.list
  | 0, s, t, z, h => trivial
  | k + 1, s, t, z, h => by
    rw [dec] at h
    split at h
    · cases hm : (hd false s).many with
      | none =>
        rw [hm] at h
        injection h with h
        injection h with h1 h2
        subst h1
        exact ⟨Nat.zero_le _, fun t ht => by cases ht⟩
      | some c =>
        rw [hm] at h
        simp only at h
        cases h1 : decMany (dec k) c (s.drop (hd false s).size) with
        | error e => rw [h1] at h; cases h
        | ok p =>
          obtain ⟨ts, y⟩ := p
          rw [h1] at h
          injection h with h
          injection h with h2 h3
          subst h2
          have hc := hd_many_le false s c hm
          have hl := (decMany_len (fun s t z h => (dec_len k s t z h).2) c _ ts y h1).2
          refine ⟨by show ts.length ≤ _; omega, fun t ht => ?_⟩
          obtain ⟨s', z', h4⟩ := many_mem c _ ts y h1 t ht
          exact dec_lim k s' t z' h4
    · cases h
end Go.Proofs.YtnfbaeajalnmmaaGreatDoor
namespace Go.Proofs.YtnfbaeajalnmmaaGreatDoor
open Go.RowKit Vi
set_option linter.unusedVariables false
set_option linter.unusedSimpArgs false
theorem strB_nil : strB [] = ⟨#[]⟩ := rfl
set_option maxHeartbeats 4000000 in
set_option maxRecDepth 20000 in
theorem decodes_walk (s : ByteArray) (hs : s.size ≤ 281474976710656) (w : World) (hL : Laid w) :
    Calls Tryz.prog 4 #[.string s] w fun e w' => e = .returned (.bool true) ∧ Below w.heap.size w w' := by
  have HD1 : Hid (Calls Tryz.prog 5 #[.string s] w fun e w' => DeIs 32 (dec 32 s.data.toList) w w' e) := decode_any s hs w hL
  have HD2 : Hid (∀ W, Calls Tryz.prog 10 #[.string s] W fun e w' => DeIs 32 (dec 32 s.data.toList) W w' e) := fun W => rDecode_any s hs W
  have HL : Hid (Laid w) := hL
  have HLM : Hid (∀ t z, dec 32 s.data.toList = .ok (t, z) → Lim 32 t.list) := fun t z h => dec_lim 32 _ t z h
  clear hL
  rcases ho : dec 32 s.data.toList with x | ⟨t, z⟩
  · rw [ho] at HD1 HD2
    clear HLM ho
    go_enter Tryz.func4, Tryz.ntmps4
    go_wp2_with fail
    refine (show Calls _ _ _ _ _ from HD1.out).mono ?_
    rintro e w1 ⟨hx0, hb1, rfl⟩
    obtain ⟨W1, hW1⟩ : ∃ W, W = w1.alloc (.cells #[.int .i64 0, .string ⟨#[]⟩, .int .i64 0, .slice none 0 0] 24) := ⟨_, rfl⟩
    have hc1 : Below w1.heap.size w1 W1 := by rw [hW1]; exact (Below.refl _ _).alloc (Nat.le_refl _) _
    obtain ⟨r3, hr3⟩ : ∃ r, w1.heap.size = r := ⟨_, rfl⟩
    have HA1 : Hid (W1.heap[r3]? = some (.cells #[.int .i64 0, .string ⟨#[]⟩, .int .i64 0, .slice none 0 0] 24)) := by rw [hW1, ← hr3]; exact one_alloc _ _
    have HB1 : Hid (Below w.heap.size w W1) := hb1.trans (hc1.mono hb1.size)
    have HR3 : Hid (w1.heap.size = r3) := hr3
    clear hc1 hb1 hr3
    go_wp2_with fail
    rw [← hW1, HR3.out]
    clear hW1 HR3
    refine (show Calls _ _ _ _ _ from HD2.out _).mono ?_
    rintro e w2 ⟨_, hb2, rfl⟩
    obtain ⟨W2, hW2⟩ : ∃ W, W = w2.alloc (.cells #[.int .i64 0, .string ⟨#[]⟩, .int .i64 0, .slice none 0 0] 24) := ⟨_, rfl⟩
    have hc2 : Below w2.heap.size w2 W2 := by rw [hW2]; exact (Below.refl _ _).alloc (Nat.le_refl _) _
    obtain ⟨r6, hr6⟩ : ∃ r, w2.heap.size = r := ⟨_, rfl⟩
    have HA2 : Hid (W2.heap[r6]? = some (.cells #[.int .i64 0, .string ⟨#[]⟩, .int .i64 0, .slice none 0 0] 24)) := by rw [hW2, ← hr6]; exact one_alloc _ _
    have HA1' : Hid (W2.heap[r3]? = some (.cells #[.int .i64 0, .string ⟨#[]⟩, .int .i64 0, .slice none 0 0] 24)) := keep_row (keep_row HA1.out hb2) hc2
    have HB2 : Hid (Below w.heap.size w W2) := (HB1.out.trans (hb2.mono HB1.out.size)).trans (hc2.mono (Nat.le_trans HB1.out.size hb2.size))
    have HR6 : Hid (w2.heap.size = r6) := hr6
    have HW : Hid _ := works_any W2 (HL.out.on HB2.out)
    clear hb2 hc2 hr6
    go_wp2_with fail
    rw [← hW2, HR6.out]
    clear hW2 HR6
    refine (show Calls _ _ _ _ _ from HW.out).mono ?_
    rintro e w3 ⟨rfl, hb3⟩
    obtain ⟨z0, z1, z2, z3, zf⟩ := prow4 (keep_row HA1'.out hb3)
    obtain ⟨y0, y1, y2, y3, yf⟩ := prow4 (keep_row HA2.out hb3)
    have HB3 : Hid (Below w.heap.size w w3) := HB2.out.trans (hb3.mono HB2.out.size)
    have HSR : Hid (Calls Tryz.prog 7 #[.agg #[.int .i64 0, .string ⟨#[]⟩, .int .i64 0, .slice none 0 0], .agg #[.int .i64 0, .string ⟨#[]⟩, .int .i64 0, .slice none 0 0]] w3 fun e w' => e = .returned (.bool true) ∧ Below w3.heap.size w3 w') := sR_any 0 0 0 [] (fun _ => True) (fun _ => True) _ _ [] w3 trivial (RpL.nil _ _ 0) (RpL.nil _ _ 0)
    clear hb3
    go_wp2_with fail
    refine (show Calls _ _ _ _ _ from HSR.out).mono ?_
    rintro e w4 ⟨rfl, hb4⟩
    have HB4 : Hid (Below w.heap.size w w4) := HB3.out.trans (hb4.mono HB3.out.size)
    clear hb4
    go_wp2
    go_returns
    exact ⟨rfl, HB4.out⟩
  · rw [ho] at HD1 HD2
    have HLT : Hid (Lim 32 t.list) := HLM.out t z ho
    clear HLM ho
    go_enter Tryz.func4, Tryz.ntmps4
    go_wp2_with fail
    refine (show Calls _ _ _ _ _ from HD1.out).mono ?_
    rintro e w1 ⟨P1, l1, c1, rfl, hb1, hp1⟩
    obtain ⟨W1, hW1⟩ : ∃ W, W = w1.alloc (.cells #[.int .i64 t.kind, .string (strB t.text), .int .i64 t.n, .slice P1 l1 c1] 24) := ⟨_, rfl⟩
    have hc1 : Below w1.heap.size w1 W1 := by rw [hW1]; exact (Below.refl _ _).alloc (Nat.le_refl _) _
    obtain ⟨r3, hr3⟩ : ∃ r, w1.heap.size = r := ⟨_, rfl⟩
    have HA1 : Hid (W1.heap[r3]? = some (.cells #[.int .i64 t.kind, .string (strB t.text), .int .i64 t.n, .slice P1 l1 c1] 24)) := by rw [hW1, ← hr3]; exact one_alloc _ _
    have HB1 : Hid (Below w.heap.size w W1) := hb1.trans (hc1.mono hb1.size)
    have HP1 : Hid (RpL (fun g => w.heap.size ≤ g) 32 W1 (.slice P1 l1 c1) t.list) := hp1.on hc1
    have HR3 : Hid (w1.heap.size = r3) := hr3
    clear hc1 hb1 hr3 hp1
    go_wp2_with fail
    rw [← hW1, HR3.out]
    clear hW1 HR3
    refine (show Calls _ _ _ _ _ from HD2.out _).mono ?_
    rintro e w2 ⟨P2, l2, c2, rfl, hb2, hp2⟩
    obtain ⟨W2, hW2⟩ : ∃ W, W = w2.alloc (.cells #[.int .i64 t.kind, .string (strB t.text), .int .i64 t.n, .slice P2 l2 c2] 24) := ⟨_, rfl⟩
    have hc2 : Below w2.heap.size w2 W2 := by rw [hW2]; exact (Below.refl _ _).alloc (Nat.le_refl _) _
    obtain ⟨r6, hr6⟩ : ∃ r, w2.heap.size = r := ⟨_, rfl⟩
    have HA2 : Hid (W2.heap[r6]? = some (.cells #[.int .i64 t.kind, .string (strB t.text), .int .i64 t.n, .slice P2 l2 c2] 24)) := by rw [hW2, ← hr6]; exact one_alloc _ _
    have HA1' : Hid (W2.heap[r3]? = some (.cells #[.int .i64 t.kind, .string (strB t.text), .int .i64 t.n, .slice P1 l1 c1] 24)) := keep_row (keep_row HA1.out hb2) hc2
    have HB2 : Hid (Below w.heap.size w W2) := (HB1.out.trans (hb2.mono HB1.out.size)).trans (hc2.mono (Nat.le_trans HB1.out.size hb2.size))
    have HP1' : Hid (RpL (fun g => w.heap.size ≤ g) 32 W2 (.slice P1 l1 c1) t.list) := (HP1.out.on hb2).on hc2
    have HP2 : Hid (RpL (fun g => W1.heap.size ≤ g) 32 W2 (.slice P2 l2 c2) t.list) := hp2.on hc2
    have HR6 : Hid (w2.heap.size = r6) := hr6
    have HW : Hid _ := works_any W2 (HL.out.on HB2.out)
    clear hb2 hc2 hr6 hp2
    go_wp2_with fail
    rw [← hW2, HR6.out]
    clear hW2 HR6
    refine (show Calls _ _ _ _ _ from HW.out).mono ?_
    rintro e w3 ⟨rfl, hb3⟩
    obtain ⟨z0, z1, z2, z3, zf⟩ := prow4 (keep_row HA1'.out hb3)
    obtain ⟨y0, y1, y2, y3, yf⟩ := prow4 (keep_row HA2.out hb3)
    have HB3 : Hid (Below w.heap.size w w3) := HB2.out.trans (hb3.mono HB2.out.size)
    have HSR : Hid (Calls Tryz.prog 7 #[.agg #[.int .i64 t.kind, .string (strB t.text), .int .i64 t.n, .slice P1 l1 c1], .agg #[.int .i64 t.kind, .string (strB t.text), .int .i64 t.n, .slice P2 l2 c2]] w3 fun e w' => e = .returned (.bool true) ∧ Below w3.heap.size w3 w') := sR_any 32 t.kind t.n t.text _ _ _ _ t.list w3 HLT.out (HP1'.out.on hb3) (HP2.out.on hb3)
    clear hb3
    go_wp2_with fail
    refine (show Calls _ _ _ _ _ from HSR.out).mono ?_
    rintro e w4 ⟨rfl, hb4⟩
    have HB4 : Hid (Below w.heap.size w w4) := HB3.out.trans (hb4.mono HB3.out.size)
    clear hb4
    go_wp2
    go_returns
    exact ⟨rfl, HB4.out⟩
theorem RespDecodes_walk (a0 : ByteArray) (z0 : a0.size ≤ 140737488351232) (w : World) (hL : Laid w) : Calls Tryz.prog 4 #[.string a0] w fun e w' => e = .returned (.bool true) ∧ Below w.heap.size w w' :=
  decodes_walk a0 (by omega) w hL
end Go.Proofs.YtnfbaeajalnmmaaGreatDoor
