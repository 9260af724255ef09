import Derived.Test.YtbmfbpcjokbjkaaGreatDoorGJ
namespace Go.Proofs.YtbmfbpcjokbjkaaGreatDoor
open Go.RowKit
set_option linter.unusedVariables false
set_option linter.unusedSimpArgs false
/-- a word's bytes in a request. -/
def wdL (x : ByteArray) : List UInt8 := [36] ++ Lib.itoa (x.size : Int) ++ [13, 10] ++ (x.data.toList ++ [13, 10])
/-- a request's bytes. -/
def cmdL (xs : List ByteArray) : List UInt8 := if xs = [] then [] else [42] ++ Lib.itoa (xs.length : Int) ++ [13, 10] ++ xs.flatMap wdL
theorem cmdL_full {xs : List ByteArray} (h : xs ≠ []) : cmdL xs = [42] ++ Lib.itoa (xs.length : Int) ++ [13, 10] ++ xs.flatMap wdL := if_neg h
theorem wdL_len (x : ByteArray) (h : x.size ≤ 1099511627776) : (wdL x).length ≤ x.size + 32 := by
  have := Lib.itoa_length_le (x.size : Int) (by omega) (by omega)
  unfold wdL
  simp only [List.length_append, list_len, List.length_cons, List.length_nil]; omega
theorem flat_snoc (xs : List ByteArray) (i : Nat) (h : i < xs.length) : (xs.take (i + 1)).flatMap wdL = (xs.take i).flatMap wdL ++ wdL xs[i] := by
  rw [List.take_add_one, List.getElem?_eq_getElem h, List.flatMap_append]; simp
theorem flat_len (xs : List ByteArray) (i : Nat) : ((xs.take i).flatMap wdL).length ≤ (xs.flatMap wdL).length := by
  have : xs.flatMap wdL = (xs.take i).flatMap wdL ++ (xs.drop i).flatMap wdL := by rw [← List.flatMap_append, List.take_append_drop]
  rw [this, List.length_append]; omega
set_option maxRecDepth 20000 in
set_option maxHeartbeats 4000000 in
theorem Command_any (v : Value) (xs : List ByteArray) (hx : xs.length ≤ 1073741824) (hlen : (xs.flatMap wdL).length ≤ 1099511627776) (w : World) (hS : SRow w v xs) (hL : Laid w) :
    Calls Tryz.prog 25 #[v] w fun e w' => e = .returned (.string (strB (cmdL xs))) ∧ Below w.heap.size w w' := by
  obtain ⟨P, c, rfl⟩ := hS.form
  have HS : Hid (SRow w (.slice P xs.length c) xs) := hS
  have HL : Hid (Laid w) := hL
  clear hS hL
  obtain ⟨n, hn⟩ : ∃ n, xs.length = n := ⟨_, rfl⟩
  have HN : Hid (xs.length = n) := hn
  rw [hn] at hx ⊢
  by_cases h0 : n = 0
  · have HE : Hid (strB (cmdL xs) = ⟨#[]⟩) := by
      show _ = _
      have : xs = [] := List.eq_nil_of_length_eq_zero (by rw [hn]; exact h0)
      rw [this]; rfl
    subst h0
    rw [HE.out]
    clear hn
    go_enter Tryz.func25, Tryz.ntmps25
    go_wp2
    go_returns
    exact ⟨rfl, Below.refl _ _⟩
  · have hn0 : ((n : Int) == 0) = false := by simpa using h0
    have HNE : Hid (xs ≠ []) := fun e => h0 (by rw [← hn, e]; rfl)
    obtain ⟨hd, hhd⟩ : ∃ l, [42] ++ Lib.itoa (n : Int) ++ [13, 10] = l := ⟨_, rfl⟩
    have hhl : hd.length ≤ 32 := by
      have := Lib.itoa_length_le (n : Int) (by omega) (by omega)
      rw [← hhd]; simp only [List.length_append, List.length_cons, List.length_nil]; omega
    have HHD : Hid ([42] ++ Lib.itoa (n : Int) ++ [13, 10] = hd) := hhd
    have HCM : Hid (strB (cmdL xs) = strB (hd ++ xs.flatMap wdL)) := by show _ = _; rw [cmdL_full HNE.out, hn, ← hhd]
    rw [HCM.out]
    obtain ⟨X, hX⟩ : ∃ X, strB (hd ++ xs.flatMap wdL) = X := ⟨_, rfl⟩
    have HX : Hid (strB (hd ++ xs.flatMap wdL) = X) := hX
    rw [hX]
    obtain ⟨B, hB⟩ : ∃ B, w.heap.size = B := ⟨_, rfl⟩
    have HB : Hid (w.heap.size = B) := hB
    obtain ⟨W0, hW0⟩ : ∃ W, W = w.alloc (.cells #[.pointer none, .slice none 0 0, .int .i64 0] 62) := ⟨_, rfl⟩
    have hb0 : Below B w W0 := by rw [hW0, ← hB]; exact (Below.refl _ _).alloc (Nat.le_refl _) _
    have hen : EnAt B B 0 [] W0 := ⟨Nat.le_refl _, _, _, Or.inl rfl, by rw [hW0, ← hB]; exact one_alloc _ _, ⟨rfl, Or.inl ⟨rfl, rfl⟩⟩⟩
    have HE0 : Hid (EnAt B B 0 [] W0) := hen
    have HB0 : Hid (Below B w W0) := hb0
    have HDG : Hid _ := digits_any (n : Int) (by omega) (by omega) W0 (HL.out.on (HB.out ▸ hb0))
    rw [hB]
    clear hn hhd hX hb0 hen
    go_enter Tryz.func25, Tryz.ntmps25
    go_wp2_with fail
    rw [← hW0]
    clear hW0 hB
    refine (show Calls _ _ _ _ _ from HDG.out).mono ?_
    rintro e w1 ⟨rfl, hb1⟩
    obtain ⟨W1, hW1⟩ : ∃ W, W = w1.alloc (.cells #[.string ⟨#[42]⟩, .string (itoaB (n : Int))] 9) := ⟨_, rfl⟩
    have hb1' : Below W0.heap.size W0 W1 := by rw [hW1]; exact hb1.alloc hb1.size _
    have hBW0 : B ≤ W0.heap.size := by have := HB0.out.size; rw [HB.out] at this; exact this
    have HB1 : Hid (Below B w W1) := HB0.out.trans (hb1'.mono hBW0)
    have hr1 : W1.heap[w1.heap.size]? = some (.cells (strA [⟨#[42]⟩, itoaB (n : Int)]) 9) := by rw [hW1]; exact one_alloc _ _
    have hBW1 : B ≤ W1.heap.size := Nat.le_trans hBW0 hb1'.size
    have hcat : [] ++ catL [⟨#[42]⟩, itoaB (n : Int)] ++ [13, 10] = hd := by rw [← HHD.out]; simp [catL, itoaB_list]
    have HLN : Hid _ := line_out B B w1.heap.size 2 0 [] [⟨#[42]⟩, itoaB (n : Int)] (by simp) W1 (HE0.out.on hb1') (by
      have := congrArg List.length hcat
      simp only [List.length_append, List.length_cons, List.length_nil] at this ⊢
      omega) hBW1 hr1
    rw [hcat] at HLN
    clear hb1 hb1' hr1 hcat hBW0
    go_wp2_with fail
    rw [← hW1]
    clear hW1
    refine (show Calls _ _ _ _ _ from HLN.out).mono ?_
    rintro e w2 ⟨rfl, he2, hbk2⟩
    have HE2 : Hid (EnAt B B 0 hd w2) := he2
    have HB2 : Hid (Below B w w2) := HB1.out.trans hbk2.bel
    clear he2 hbk2 hBW1
    go_wp2
    go_loopw [16] (fun ci wr => ∃ i : Nat, (i ≤ n ∧ EnAt B B 0 (hd ++ (xs.take i).flatMap wdL) wr ∧ Below B w wr) ∧ ci = .int .i64 (i : Int)) (fun ci _ => n - (intOf ci).toNat)
    case atStart => exact ⟨0, ⟨Nat.zero_le _, by rw [List.take_zero, List.flatMap_nil, List.append_nil]; exact HE2.out, HB2.out⟩, rfl⟩
    case round =>
      obtain ⟨i, ⟨hi, hen, hbl⟩, rfl⟩ := hrel
      have HEN : Hid (EnAt B B 0 (hd ++ (xs.take i).flatMap wdL) wr) := hen
      have HBL : Hid (Below B w wr) := hbl
      have hBr : B ≤ wr.heap.size := by have := hbl.size; rw [HB.out] at this; exact this
      have HBr : Hid (B ≤ wr.heap.size) := hBr
      clear hen hbl hBr
      by_cases hlt : i < n
      · have hix : i < xs.length := by rw [HN.out]; exact hlt
        obtain ⟨g, o, hP, hcl⟩ := (HS.out.on (HB.out ▸ HBL.out)).cell i hix
        subst hP
        have HSN : Hid _ := flat_snoc xs i hix
        have hfl := flat_len xs (i + 1)
        rw [HSN.out, List.length_append] at hfl
        obtain ⟨Y, hY⟩ : ∃ Y, xs[i] = Y := ⟨_, rfl⟩
        rw [hY] at hcl HSN hfl
        have hYl : Y.size ≤ 1099511627776 := by
          have : Y.size ≤ (wdL Y).length := by unfold wdL; simp only [List.length_append, list_len]; omega
          omega
        have hil := Lib.itoa_length_le (Y.size : Int) (by omega) (by omega)
        have hz0 : (0 : Int) ≤ (i : Int) := by omega
        have hz1 : (i : Int) < (n : Int) := by omega
        have HDI : Hid _ := digits_any (Y.size : Int) (by omega) (by omega) wr (HL.out.on (HB.out ▸ HBL.out))
        obtain ⟨l0, hl0⟩ : ∃ l, hd ++ (xs.take i).flatMap wdL = l := ⟨_, rfl⟩
        have hl0l : l0.length + (wdL Y).length ≤ 1099511627808 := by rw [← hl0, List.length_append]; omega
        have hwd : (wdL Y).length = Y.size + (Lib.itoa (Y.size : Int)).length + 5 := by unfold wdL; simp only [List.length_append, list_len, List.length_cons, List.length_nil]; omega
        have HL0 : Hid (hd ++ (xs.take i).flatMap wdL = l0) := hl0
        rw [hl0] at HEN
        clear hY hix hfl hl0
        go_wp2_with fail
        refine (show Calls _ _ _ _ _ from HDI.out).mono ?_
        rintro e w3 ⟨rfl, hb3⟩
        obtain ⟨W3, hW3⟩ : ∃ W, W = w3.alloc (.cells #[.string ⟨#[36]⟩, .string (itoaB (Y.size : Int))] 9) := ⟨_, rfl⟩
        have hb3' : Below wr.heap.size wr W3 := by rw [hW3]; exact hb3.alloc hb3.size _
        have hr3 : W3.heap[w3.heap.size]? = some (.cells (strA [⟨#[36]⟩, itoaB (Y.size : Int)]) 9) := by rw [hW3]; exact one_alloc _ _
        have HB3 : Hid (Below B w W3) := HBL.out.trans (hb3'.mono HBr.out)
        have hcat : catL [⟨#[36]⟩, itoaB (Y.size : Int)] = [36] ++ Lib.itoa (Y.size : Int) := by simp [catL, itoaB_list]
        have HLA : Hid _ := line_out B B w3.heap.size 2 0 l0 [⟨#[36]⟩, itoaB (Y.size : Int)] (by simp) W3 (HEN.out.on hb3') (by rw [hcat]; simp only [List.length_append, List.length_cons, List.length_nil]; omega) (Nat.le_trans HBr.out hb3'.size) hr3
        rw [hcat] at HLA
        clear hb3 hb3' hr3 hcat
        go_wp2_with fail
        rw [← hW3]
        clear hW3
        refine (show Calls _ _ _ _ _ from HLA.out).mono ?_
        rintro e w4 ⟨rfl, he4, hbk4⟩
        obtain ⟨W5, hW5⟩ : ∃ W, W = w4.alloc (.cells #[.string Y] 9) := ⟨_, rfl⟩
        have hb5 : Below w4.heap.size w4 W5 := by rw [hW5]; exact (Below.refl _ _).alloc (Nat.le_refl _) _
        have hB4 : Below B w w4 := HB3.out.trans hbk4.bel
        have hBw4 : B ≤ w4.heap.size := by have := hB4.size; rw [HB.out] at this; exact this
        have HB5 : Hid (Below B w W5) := hB4.trans (hb5.mono hBw4)
        have hr5 : W5.heap[w4.heap.size]? = some (.cells (strA [Y]) 9) := by rw [hW5]; exact one_alloc _ _
        have HLB : Hid _ := line_out B B w4.heap.size 1 0 _ [Y] (by simp) W5 (he4.on hb5) (by
          simp only [catL, List.flatMap_cons, List.flatMap_nil, List.length_append, List.length_cons, List.length_nil, list_len]; omega) (Nat.le_trans hBw4 hb5.size) hr5
        have e5 : l0 ++ ([36] ++ Lib.itoa (Y.size : Int)) ++ [13, 10] ++ catL [Y] ++ [13, 10] = hd ++ (xs.take (i + 1)).flatMap wdL := by
          rw [HSN.out, ← List.append_assoc hd _ (wdL Y), HL0.out]
          unfold wdL
          simp [catL]
        rw [e5] at HLB
        clear he4 hbk4 hb5 hr5 e5 hB4 hBw4 hcl
        go_wp2_with fail
        rw [← hW5]
        clear hW5
        refine (show Calls _ _ _ _ _ from HLB.out).mono ?_
        rintro e w6 ⟨rfl, he6, hbk6⟩
        have HE6 : Hid _ := he6
        have HB6 : Hid (Below B w w6) := HB5.out.trans hbk6.bel
        clear he6 hbk6
        go_wp2
        go_roundw
        case rel => exact ⟨i + 1, ⟨hlt, HE6.out, HB6.out⟩, rfl⟩
        case measure => simp [intOf]; omega
      · have hin : i = n := by omega
        subst hin
        have e1 : xs.take i = xs := List.take_of_length_le (by rw [HN.out]; exact Nat.le_refl _)
        rw [e1] at HEN
        have HST : Hid _ := str_any B B 0 _ wr HEN.out (by rw [← HHD.out]; simp)
        clear e1
        go_wp2_with fail
        refine (show Calls _ _ _ _ _ from HST.out).mono ?_
        rintro e w3 ⟨rfl, hb3⟩
        have HB3 : Hid (Below B w w3) := HBL.out.trans hb3
        clear hb3
        go_wp2
        go_returns
        exact ⟨by rw [HX.out]; rfl, HB3.out⟩
end Go.Proofs.YtbmfbpcjokbjkaaGreatDoor
