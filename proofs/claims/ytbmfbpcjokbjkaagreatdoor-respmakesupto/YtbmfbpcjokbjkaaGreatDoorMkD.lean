import Derived.Test.YtbmfbpcjokbjkaaGreatDoorMkB
import Derived.Deep.RegionWith
namespace Go.Proofs.YtbmfbpcjokbjkaaGreatDoor
open Go.RowKit Vi
set_option linter.unusedVariables false
set_option linter.unusedSimpArgs false
theorem strB_join (l : List UInt8) (x : ByteArray) : strB l ++ x = strB (l ++ x.data.toList) := by
  have e : (strB l ++ x).data.toList = (strB (l ++ x.data.toList)).data.toList := by rw [strB_list]; simp [ByteArray.data_append, strB_list]
  have e2 : (strB l ++ x).data = (strB (l ++ x.data.toList)).data := Array.toList_inj.1 e
  cases hx : strB l ++ x
  cases hy : strB (l ++ x.data.toList)
  rw [hx, hy] at e2
  exact congrArg ByteArray.mk e2
theorem itoaB_size (n : Int) (h0 : -9223372036854775808 ≤ n) (h1 : n ≤ 9223372036854775807) : (itoaB n).size ≤ 32 := by
  have := Lib.itoa_length_le n h0 h1
  rw [← list_len, itoaB_list]; omega
set_option maxRecDepth 20000 in
set_option maxHeartbeats 4000000 in
/-- the document's Command. -/
theorem rCommand_any (v : Value) (xs : List ByteArray) (hx : xs.length ≤ 1073741824) (hlen : (xs.flatMap wdL).length ≤ 1099511627776) (w : World) (hS : SRow w v xs) :
    Calls Tryz.prog 26 #[v] w fun e w' => e = .returned (.string (strB (cmdL xs))) ∧ Below w.heap.size w w' := by
  obtain ⟨P, c, rfl⟩ := hS.form
  have HS : Hid (SRow w (.slice P xs.length c) xs) := hS
  obtain ⟨n, hn⟩ : ∃ n, xs.length = n := ⟨_, rfl⟩
  have HN : Hid (xs.length = n) := hn
  rw [hn] at hx HS ⊢
  clear hS
  by_cases h0 : n = 0
  · have HE : Hid (strB (cmdL xs) = ⟨#[]⟩) := by
      show _ = _
      have : xs = [] := List.eq_nil_of_length_eq_zero (by rw [hn]; exact h0)
      rw [this]; rfl
    subst h0
    rw [HE.out]
    clear hn
    go_enter Tryz.func26, Tryz.ntmps26
    go_wp2
    go_returns
    exact ⟨rfl, Below.refl _ _⟩
  · have hn0 : ((n : Int) == 0) = false := by simpa using h0
    have HNE : Hid (xs ≠ []) := fun e => h0 (by rw [← hn, e]; rfl)
    obtain ⟨hd, hhd⟩ : ∃ l, [42] ++ Lib.itoa (n : Int) ++ [13, 10] = l := ⟨_, rfl⟩
    have hhl : hd.length ≤ 32 := by
      have := Lib.itoa_length_le (n : Int) (by omega) (by omega)
      rw [← hhd]; simp only [List.length_append, List.length_cons, List.length_nil]; omega
    have HCM : Hid (strB (cmdL xs) = strB (hd ++ xs.flatMap wdL)) := by show _ = _; rw [cmdL_full HNE.out, hn, ← hhd]
    rw [HCM.out]
    have HHD : Hid ((⟨#[42]⟩ ++ itoaB (n : Int)) ++ ⟨#[13, 10]⟩ = strB hd) := by
      show _ = _
      have e1 : (⟨#[42]⟩ : ByteArray) = strB [42] := rfl
      rw [e1, strB_join, strB_join, itoaB_list, ← hhd]
    have hds := itoaB_size (n : Int) (by omega) (by omega)
    obtain ⟨B, hB⟩ : ∃ B, w.heap.size = B := ⟨_, rfl⟩
    have HB : Hid (w.heap.size = B) := hB
    have HDG : Hid _ := refDigits_any (n : Int) (by omega) (by omega) w
    obtain ⟨D, hD⟩ : ∃ D, itoaB (n : Int) = D := ⟨_, rfl⟩
    rw [hD] at HHD hds HDG
    rw [hB] at HDG ⊢
    have j1 : (⟨#[42]⟩ : ByteArray).size + D.size ≤ 9223372036854775807 := by have : (⟨#[42]⟩ : ByteArray).size = 1 := rfl; omega
    have j2 : ((⟨#[42]⟩ : ByteArray) ++ D).size + (⟨#[13, 10]⟩ : ByteArray).size ≤ 9223372036854775807 := by
      rw [ByteArray.size_append]; have h1 : (⟨#[42]⟩ : ByteArray).size = 1 := rfl; have h2 : (⟨#[13, 10]⟩ : ByteArray).size = 2 := rfl; omega
    have HLN : Hid _ := hlen
    clear hhd hn hD hB hlen
    go_enter Tryz.func26, Tryz.ntmps26
    go_wp2_with fail
    refine (show Calls _ _ _ _ _ from HDG.out).mono ?_
    rintro e w1 ⟨rfl, hb1⟩
    have HB1 : Hid (Below B w w1) := hb1
    clear hb1
    go_wp2
    rw [HHD.out]
    clear j1 j2 hds
    go_loopw [3, 4] (fun cs ci wr => ∃ i : Nat, (i ≤ n ∧ Below B w wr) ∧ cs = .string (strB (hd ++ (xs.take i).flatMap wdL)) ∧ ci = .int .i64 (i : Int)) (fun _ ci _ => n - (intOf ci).toNat)
    case atStart => exact ⟨0, ⟨Nat.zero_le _, HB1.out⟩, by simp, rfl⟩
    case round =>
      obtain ⟨i, ⟨hi, hbw⟩, rfl, rfl⟩ := hrel
      have HBW : Hid (Below B w wr) := hbw
      clear hbw
      by_cases hlt : i < n
      · have hix : i < xs.length := by rw [HN.out]; exact hlt
        obtain ⟨g, o, hP, hcx⟩ := (HS.out.on (HB.out ▸ HBW.out)).cell i hix
        have HSN : Hid _ := flat_snoc xs i hix
        have hfl := flat_len xs i
        have hfl2 := flat_len xs (i + 1)
        rw [HSN.out, List.length_append] at hfl2
        obtain ⟨X, hX⟩ : ∃ X, xs[i] = X := ⟨_, rfl⟩
        rw [hX] at hcx HSN hfl2
        subst hP
        have hXs : X.size ≤ 1099511627776 := by
          have h1 : X.size ≤ (wdL X).length := by unfold wdL; simp only [List.length_append, list_len, List.length_cons, List.length_nil]; omega
          have := HLN.out
          omega
        have HDI : Hid (∀ W, Calls Tryz.prog 38 #[.int .i64 (X.size : Int)] W fun e w' => e = .returned (.string (itoaB (X.size : Int))) ∧ Below W.heap.size W w') := fun W => refDigits_any (X.size : Int) (by omega) (by omega) W
        have hds := itoaB_size (X.size : Int) (by omega) (by omega)
        obtain ⟨S, hSS⟩ : ∃ S, strB (hd ++ (xs.take i).flatMap wdL) = S := ⟨_, rfl⟩
        have hSz : S.size ≤ 1099511627776 + 32 := by rw [← hSS, strB_size, List.length_append]; have := HLN.out; omega
        have HJN : Hid (((((S ++ ⟨#[36]⟩) ++ itoaB (X.size : Int)) ++ ⟨#[13, 10]⟩) ++ X) ++ ⟨#[13, 10]⟩ = strB (hd ++ (xs.take (i + 1)).flatMap wdL)) := by
          show _ = _
          rw [← hSS, strB_join, strB_join, strB_join, strB_join, strB_join, itoaB_list, HSN.out]
          unfold wdL
          simp
        obtain ⟨D2, hD2⟩ : ∃ D, itoaB (X.size : Int) = D := ⟨_, rfl⟩
        rw [hD2] at HDI hds HJN
        rw [hSS]
        have k1 : (⟨#[36]⟩ : ByteArray).size = 1 := rfl
        have k2 : (⟨#[13, 10]⟩ : ByteArray).size = 2 := rfl
        have q1 : S.size + (⟨#[36]⟩ : ByteArray).size ≤ 9223372036854775807 := by omega
        have q2 : (S ++ ⟨#[36]⟩).size + D2.size ≤ 9223372036854775807 := by rw [ByteArray.size_append]; omega
        have q3 : ((S ++ ⟨#[36]⟩) ++ D2).size + (⟨#[13, 10]⟩ : ByteArray).size ≤ 9223372036854775807 := by rw [ByteArray.size_append, ByteArray.size_append]; omega
        have q4 : (((S ++ ⟨#[36]⟩) ++ D2) ++ ⟨#[13, 10]⟩).size + X.size ≤ 9223372036854775807 := by rw [ByteArray.size_append, ByteArray.size_append, ByteArray.size_append]; omega
        have q5 : ((((S ++ ⟨#[36]⟩) ++ D2) ++ ⟨#[13, 10]⟩) ++ X).size + (⟨#[13, 10]⟩ : ByteArray).size ≤ 9223372036854775807 := by rw [ByteArray.size_append, ByteArray.size_append, ByteArray.size_append, ByteArray.size_append]; omega
        have hz0 : (0 : Int) ≤ (i : Int) := by omega
        have hz1 : (i : Int) < (n : Int) := by omega
        clear hX hix hfl hfl2 hD2 hSS k1 k2
        go_wp2_with fail
        have hcur : Below B w wr.drew := below_dn HBW.out 1
        have hcc : wr.drew.cell? ⟨g, o + i, none⟩ = some (.string X) := hcx
        have hBw : B ≤ wr.drew.heap.size := by have := hcur.size; rw [HB.out] at this; exact this
        go_region_with (go_at_call 38; refine (show Calls _ _ _ _ _ from HDI.out _).mono ?_; rintro e w2 ⟨rfl, hbx⟩; have hcc := cell_on hcc hbx; have hcur := hcur.trans (hbx.mono hBw); clear hbx)
        all_goals
          have HCUR : Hid (Below B w _) := hcur
          clear hcur hcc hcx
          go_wp2
          go_roundw
          case rel => exact ⟨i + 1, ⟨hlt, HCUR.out⟩, by rw [HJN.out], rfl⟩
          case measure => simp [intOf]; omega
      · have hin : i = n := by omega
        subst hin
        have etk : xs.take i = xs := List.take_of_length_le (by rw [HN.out]; exact Nat.le_refl _)
        rw [etk]
        clear etk
        go_wp2
        go_returns
        exact ⟨rfl, HBW.out⟩
end Go.Proofs.YtbmfbpcjokbjkaaGreatDoor
