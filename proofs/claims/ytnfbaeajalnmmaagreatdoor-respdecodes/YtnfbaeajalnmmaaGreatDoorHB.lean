import Derived.Test.YtnfbaeajalnmmaaGreatDoorRNm
import Derived.Test.YtnfbaeajalnmmaaGreatDoorHK
import Derived.Test.YtnfbaeajalnmmaaGreatDoorHP
namespace Go.Proofs.YtnfbaeajalnmmaaGreatDoor
open Go.RowKit Vi
set_option linter.unusedVariables false
set_option linter.unusedSimpArgs false
set_option maxHeartbeats 8000000 in
set_option maxRecDepth 20000 in
theorem rcount_36 (t : ByteArray) (hs : t.size ≤ 281474976710656) (half deep : Bool) (D : Int) (hD : decide (D ≤ 32) = !deep) (w : World) :
    Calls Tryz.prog 55 #[.int .u8 36, .string t, .bool half, .int .i64 D] w fun e w' => e = .returned (.int .i64 (cntE 36 t.data.toList half deep : Int)) ∧ Below w.heap.size w w' := by
  have HN : Hid (∀ W, Calls Tryz.prog 34 #[.string t] W fun e w' => e = .returned (numT t.data.toList) ∧ Below W.heap.size W w') := fun W => refNumber_any t (by unfold maxLen; omega) W
  by_cases h0 : t.size = 0
  · have te := str_empty h0
    have t1 : (t.toList == [45, 49]) = false := by rw [empty_str t h0]; decide +kernel
    have t2 : (t.toList == [45]) = false := by rw [empty_str t h0]; decide +kernel
    have htl : t.data.toList = [] := by rw [empty_str t h0]
    rw [htl] at HN ⊢
    rw [numT_none num_nil] at HN
    clear htl h0
    cases half with
    | false =>
      cases deep with
      | false =>
        have hD := hD
        simp only [Bool.not_true, Bool.not_false] at hD
        have HE : Hid (cntE 36 [] false false = 20) := by show _ = _; unfold cntE; rw [num_nil]; decide
        rw [HE.out]
        go_enter Tryz.func55, Tryz.ntmps55
        go_wp2
        go_returns
        exact ⟨rfl, Below.refl _ _⟩
      | true =>
        have hD := hD
        simp only [Bool.not_true, Bool.not_false] at hD
        have HE : Hid (cntE 36 [] false true = 20) := by show _ = _; unfold cntE; rw [num_nil]; decide
        rw [HE.out]
        go_enter Tryz.func55, Tryz.ntmps55
        go_wp2
        go_returns
        exact ⟨rfl, Below.refl _ _⟩
    | true =>
      cases deep with
      | false =>
        have hD := hD
        simp only [Bool.not_true, Bool.not_false] at hD
        have HE : Hid (cntE 36 [] true false = 120) := by show _ = _; unfold cntE; rw [num_nil]; decide
        rw [HE.out]
        go_enter Tryz.func55, Tryz.ntmps55
        go_wp2_with fail
        refine (HN.out _).mono ?_
        rintro e w1 ⟨rfl, hb1⟩
        have HB1 : Hid _ := hb1
        clear hb1
        go_wp2
        go_returns
        exact ⟨rfl, HB1.out⟩
      | true =>
        have hD := hD
        simp only [Bool.not_true, Bool.not_false] at hD
        have HE : Hid (cntE 36 [] true true = 120) := by show _ = _; unfold cntE; rw [num_nil]; decide
        rw [HE.out]
        go_enter Tryz.func55, Tryz.ntmps55
        go_wp2_with fail
        refine (HN.out _).mono ?_
        rintro e w1 ⟨rfl, hb1⟩
        have HB1 : Hid _ := hb1
        clear hb1
        go_wp2
        go_returns
        exact ⟨rfl, HB1.out⟩
  have te := str_full h0
  by_cases h1 : t.data.toList = [45, 49]
  · have t1 : (t.toList == [45, 49]) = true := by rw [ByteArray.toList_eq, h1]; rfl
    have t2 : (t.toList == [45]) = false := by rw [ByteArray.toList_eq, h1]; rfl
    rw [h1] at HN ⊢
    rw [numT_some num_minus1] at HN
    clear h0 h1
    cases half with
    | false =>
      cases deep with
      | false =>
        have hD := hD
        simp only [Bool.not_true, Bool.not_false] at hD
        have HE : Hid (cntE 36 [45, 49] false false = 20) := by show _ = _; unfold cntE; rw [num_minus1]; decide
        rw [HE.out]
        go_enter Tryz.func55, Tryz.ntmps55
        go_wp2
        go_returns
        exact ⟨rfl, Below.refl _ _⟩
      | true =>
        have hD := hD
        simp only [Bool.not_true, Bool.not_false] at hD
        have HE : Hid (cntE 36 [45, 49] false true = 20) := by show _ = _; unfold cntE; rw [num_minus1]; decide
        rw [HE.out]
        go_enter Tryz.func55, Tryz.ntmps55
        go_wp2
        go_returns
        exact ⟨rfl, Below.refl _ _⟩
    | true =>
      cases deep with
      | false =>
        have hD := hD
        simp only [Bool.not_true, Bool.not_false] at hD
        have HE : Hid (cntE 36 [45, 49] true false = 20) := by show _ = _; unfold cntE; rw [num_minus1]; decide
        rw [HE.out]
        go_enter Tryz.func55, Tryz.ntmps55
        go_wp2
        go_returns
        exact ⟨rfl, Below.refl _ _⟩
      | true =>
        have hD := hD
        simp only [Bool.not_true, Bool.not_false] at hD
        have HE : Hid (cntE 36 [45, 49] true true = 20) := by show _ = _; unfold cntE; rw [num_minus1]; decide
        rw [HE.out]
        go_enter Tryz.func55, Tryz.ntmps55
        go_wp2
        go_returns
        exact ⟨rfl, Below.refl _ _⟩
  by_cases h2 : t.data.toList = [45]
  · have t1 : (t.toList == [45, 49]) = false := by rw [ByteArray.toList_eq, h2]; rfl
    have t2 : (t.toList == [45]) = true := by rw [ByteArray.toList_eq, h2]; rfl
    rw [h2] at HN ⊢
    rw [numT_none num_minus] at HN
    clear h0 h1 h2
    cases half with
    | false =>
      cases deep with
      | false =>
        have hD := hD
        simp only [Bool.not_true, Bool.not_false] at hD
        have HE : Hid (cntE 36 [45] false false = 20) := by show _ = _; unfold cntE; rw [num_minus]; decide
        rw [HE.out]
        go_enter Tryz.func55, Tryz.ntmps55
        go_wp2
        go_returns
        exact ⟨rfl, Below.refl _ _⟩
      | true =>
        have hD := hD
        simp only [Bool.not_true, Bool.not_false] at hD
        have HE : Hid (cntE 36 [45] false true = 20) := by show _ = _; unfold cntE; rw [num_minus]; decide
        rw [HE.out]
        go_enter Tryz.func55, Tryz.ntmps55
        go_wp2
        go_returns
        exact ⟨rfl, Below.refl _ _⟩
    | true =>
      cases deep with
      | false =>
        have hD := hD
        simp only [Bool.not_true, Bool.not_false] at hD
        have HE : Hid (cntE 36 [45] true false = 120) := by show _ = _; unfold cntE; rw [num_minus]; decide
        rw [HE.out]
        go_enter Tryz.func55, Tryz.ntmps55
        go_wp2_with fail
        refine (HN.out _).mono ?_
        rintro e w1 ⟨rfl, hb1⟩
        have HB1 : Hid _ := hb1
        clear hb1
        go_wp2
        go_returns
        exact ⟨rfl, HB1.out⟩
      | true =>
        have hD := hD
        simp only [Bool.not_true, Bool.not_false] at hD
        have HE : Hid (cntE 36 [45] true true = 120) := by show _ = _; unfold cntE; rw [num_minus]; decide
        rw [HE.out]
        go_enter Tryz.func55, Tryz.ntmps55
        go_wp2_with fail
        refine (HN.out _).mono ?_
        rintro e w1 ⟨rfl, hb1⟩
        have HB1 : Hid _ := hb1
        clear hb1
        go_wp2
        go_returns
        exact ⟨rfl, HB1.out⟩
  have t1 : (t.toList == [45, 49]) = false := by rw [ByteArray.toList_eq]; simpa using h1
  have t2 : (t.toList == [45]) = false := by rw [ByteArray.toList_eq]; simpa using h2
  have h3 : t.data.toList ≠ [] := fun e => by rw [ByteArray.toList_eq, e] at te; cases te
  have HC : Hid (∀ half deep, cntE 36 t.data.toList half deep = (match numberOf t.data.toList with | some n => if n < 0 ∨ mostK 36 < n ∨ fitsK 36 deep = false then 120 else 20 | none => 120)) := fun half deep => by
    unfold cntE
    rw [if_neg (by rintro (h | h); exact h3 h.2.1; rcases h.2 with h | h; exact h1 h; exact h2 h.1)]
    rfl
  generalize t.data.toList = tl at *
  cases hn : numberOf tl with
  | none =>
    rw [numT_none hn] at HN
    have HC2 : Hid (∀ half deep, cntE 36 tl half deep = 120) := fun half deep => by have := HC.out half deep; rw [hn] at this; exact this
    clear h0 h1 h2 h3 hn HC
    cases half with
    | false =>
      cases deep with
      | false =>
        have hD := hD
        simp only [Bool.not_true, Bool.not_false] at hD
        have HE : Hid (cntE 36 tl false false = 120) := HC2.out _ _
        rw [HE.out]
        go_enter Tryz.func55, Tryz.ntmps55
        go_wp2_with fail
        refine (HN.out _).mono ?_
        rintro e w1 ⟨rfl, hb1⟩
        have HB1 : Hid _ := hb1
        clear hb1
        go_wp2
        go_returns
        exact ⟨rfl, HB1.out⟩
      | true =>
        have hD := hD
        simp only [Bool.not_true, Bool.not_false] at hD
        have HE : Hid (cntE 36 tl false true = 120) := HC2.out _ _
        rw [HE.out]
        go_enter Tryz.func55, Tryz.ntmps55
        go_wp2_with fail
        refine (HN.out _).mono ?_
        rintro e w1 ⟨rfl, hb1⟩
        have HB1 : Hid _ := hb1
        clear hb1
        go_wp2
        go_returns
        exact ⟨rfl, HB1.out⟩
    | true =>
      cases deep with
      | false =>
        have hD := hD
        simp only [Bool.not_true, Bool.not_false] at hD
        have HE : Hid (cntE 36 tl true false = 120) := HC2.out _ _
        rw [HE.out]
        go_enter Tryz.func55, Tryz.ntmps55
        go_wp2_with fail
        refine (HN.out _).mono ?_
        rintro e w1 ⟨rfl, hb1⟩
        have HB1 : Hid _ := hb1
        clear hb1
        go_wp2
        go_returns
        exact ⟨rfl, HB1.out⟩
      | true =>
        have hD := hD
        simp only [Bool.not_true, Bool.not_false] at hD
        have HE : Hid (cntE 36 tl true true = 120) := HC2.out _ _
        rw [HE.out]
        go_enter Tryz.func55, Tryz.ntmps55
        go_wp2_with fail
        refine (HN.out _).mono ?_
        rintro e w1 ⟨rfl, hb1⟩
        have HB1 : Hid _ := hb1
        clear hb1
        go_wp2
        go_returns
        exact ⟨rfl, HB1.out⟩
  | some n =>
    rw [numT_some hn] at HN
    have HC2 : Hid (∀ half deep, cntE 36 tl half deep = if n < 0 ∨ mostK 36 < n ∨ fitsK 36 deep = false then 120 else 20) := fun half deep => by have := HC.out half deep; rw [hn] at this; exact this
    have hmk : mostK 36 = 524288 := rfl
    rw [hmk] at HC2
    clear h0 h1 h2 h3 hn HC
    by_cases hneg : n < 0
    · have hd1 : decide (n < 0) = true := dec_t hneg
      have HC3 : Hid (∀ half deep, cntE 36 tl half deep = 120) := fun half deep => by rw [HC2.out, if_pos (Or.inl hneg)]
      clear hneg
      cases half with
      | false =>
        cases deep with
        | false =>
          have hD := hD
          simp only [Bool.not_true, Bool.not_false] at hD
          have HE : Hid (cntE 36 tl false false = 120) := HC3.out _ _
          rw [HE.out]
          go_enter Tryz.func55, Tryz.ntmps55
          go_wp2_with fail
          refine (HN.out _).mono ?_
          rintro e w1 ⟨rfl, hb1⟩
          have HB1 : Hid _ := hb1
          clear hb1
          go_wp2
          go_returns
          exact ⟨rfl, HB1.out⟩
        | true =>
          have hD := hD
          simp only [Bool.not_true, Bool.not_false] at hD
          have HE : Hid (cntE 36 tl false true = 120) := HC3.out _ _
          rw [HE.out]
          go_enter Tryz.func55, Tryz.ntmps55
          go_wp2_with fail
          refine (HN.out _).mono ?_
          rintro e w1 ⟨rfl, hb1⟩
          have HB1 : Hid _ := hb1
          clear hb1
          go_wp2
          go_returns
          exact ⟨rfl, HB1.out⟩
      | true =>
        cases deep with
        | false =>
          have hD := hD
          simp only [Bool.not_true, Bool.not_false] at hD
          have HE : Hid (cntE 36 tl true false = 120) := HC3.out _ _
          rw [HE.out]
          go_enter Tryz.func55, Tryz.ntmps55
          go_wp2_with fail
          refine (HN.out _).mono ?_
          rintro e w1 ⟨rfl, hb1⟩
          have HB1 : Hid _ := hb1
          clear hb1
          go_wp2
          go_returns
          exact ⟨rfl, HB1.out⟩
        | true =>
          have hD := hD
          simp only [Bool.not_true, Bool.not_false] at hD
          have HE : Hid (cntE 36 tl true true = 120) := HC3.out _ _
          rw [HE.out]
          go_enter Tryz.func55, Tryz.ntmps55
          go_wp2_with fail
          refine (HN.out _).mono ?_
          rintro e w1 ⟨rfl, hb1⟩
          have HB1 : Hid _ := hb1
          clear hb1
          go_wp2
          go_returns
          exact ⟨rfl, HB1.out⟩
    have hd1 : decide (n < 0) = false := dec_f hneg
    by_cases hbig : 524288 < n
    · have hd2 : decide (524288 < n) = true := dec_t hbig
      have HC3 : Hid (∀ half deep, cntE 36 tl half deep = 120) := fun half deep => by rw [HC2.out, if_pos (Or.inr (Or.inl hbig))]
      clear hneg hbig
      cases half with
      | false =>
        cases deep with
        | false =>
          have hD := hD
          simp only [Bool.not_true, Bool.not_false] at hD
          have HE : Hid (cntE 36 tl false false = 120) := HC3.out _ _
          rw [HE.out]
          go_enter Tryz.func55, Tryz.ntmps55
          go_wp2_with fail
          refine (HN.out _).mono ?_
          rintro e w1 ⟨rfl, hb1⟩
          have HB1 : Hid _ := hb1
          clear hb1
          go_wp2
          go_returns
          exact ⟨rfl, HB1.out⟩
        | true =>
          have hD := hD
          simp only [Bool.not_true, Bool.not_false] at hD
          have HE : Hid (cntE 36 tl false true = 120) := HC3.out _ _
          rw [HE.out]
          go_enter Tryz.func55, Tryz.ntmps55
          go_wp2_with fail
          refine (HN.out _).mono ?_
          rintro e w1 ⟨rfl, hb1⟩
          have HB1 : Hid _ := hb1
          clear hb1
          go_wp2
          go_returns
          exact ⟨rfl, HB1.out⟩
      | true =>
        cases deep with
        | false =>
          have hD := hD
          simp only [Bool.not_true, Bool.not_false] at hD
          have HE : Hid (cntE 36 tl true false = 120) := HC3.out _ _
          rw [HE.out]
          go_enter Tryz.func55, Tryz.ntmps55
          go_wp2_with fail
          refine (HN.out _).mono ?_
          rintro e w1 ⟨rfl, hb1⟩
          have HB1 : Hid _ := hb1
          clear hb1
          go_wp2
          go_returns
          exact ⟨rfl, HB1.out⟩
        | true =>
          have hD := hD
          simp only [Bool.not_true, Bool.not_false] at hD
          have HE : Hid (cntE 36 tl true true = 120) := HC3.out _ _
          rw [HE.out]
          go_enter Tryz.func55, Tryz.ntmps55
          go_wp2_with fail
          refine (HN.out _).mono ?_
          rintro e w1 ⟨rfl, hb1⟩
          have HB1 : Hid _ := hb1
          clear hb1
          go_wp2
          go_returns
          exact ⟨rfl, HB1.out⟩
    have hd2 : decide (524288 < n) = false := dec_f hbig
    cases half with
    | false =>
      cases deep with
      | false =>
        have hD := hD
        simp only [Bool.not_true, Bool.not_false] at hD
        have HE : Hid (cntE 36 tl false false = 20) := by show _ = _; rw [HC2.out]; simp [hneg, hbig, fitsK]
        clear hneg hbig
        rw [HE.out]
        go_enter Tryz.func55, Tryz.ntmps55
        go_wp2_with fail
        refine (HN.out _).mono ?_
        rintro e w1 ⟨rfl, hb1⟩
        have HB1 : Hid _ := hb1
        clear hb1
        go_wp2
        go_returns
        exact ⟨rfl, HB1.out⟩
      | true =>
        have hD := hD
        simp only [Bool.not_true, Bool.not_false] at hD
        have HE : Hid (cntE 36 tl false true = 20) := by show _ = _; rw [HC2.out]; simp [hneg, hbig, fitsK]
        clear hneg hbig
        rw [HE.out]
        go_enter Tryz.func55, Tryz.ntmps55
        go_wp2_with fail
        refine (HN.out _).mono ?_
        rintro e w1 ⟨rfl, hb1⟩
        have HB1 : Hid _ := hb1
        clear hb1
        go_wp2
        go_returns
        exact ⟨rfl, HB1.out⟩
    | true =>
      cases deep with
      | false =>
        have hD := hD
        simp only [Bool.not_true, Bool.not_false] at hD
        have HE : Hid (cntE 36 tl true false = 20) := by show _ = _; rw [HC2.out]; simp [hneg, hbig, fitsK]
        clear hneg hbig
        rw [HE.out]
        go_enter Tryz.func55, Tryz.ntmps55
        go_wp2_with fail
        refine (HN.out _).mono ?_
        rintro e w1 ⟨rfl, hb1⟩
        have HB1 : Hid _ := hb1
        clear hb1
        go_wp2
        go_returns
        exact ⟨rfl, HB1.out⟩
      | true =>
        have hD := hD
        simp only [Bool.not_true, Bool.not_false] at hD
        have HE : Hid (cntE 36 tl true true = 20) := by show _ = _; rw [HC2.out]; simp [hneg, hbig, fitsK]
        clear hneg hbig
        rw [HE.out]
        go_enter Tryz.func55, Tryz.ntmps55
        go_wp2_with fail
        refine (HN.out _).mono ?_
        rintro e w1 ⟨rfl, hb1⟩
        have HB1 : Hid _ := hb1
        clear hb1
        go_wp2
        go_returns
        exact ⟨rfl, HB1.out⟩
end Go.Proofs.YtnfbaeajalnmmaaGreatDoor
namespace Go.Proofs.YtnfbaeajalnmmaaGreatDoor
open Go.RowKit Vi
set_option linter.unusedVariables false
set_option linter.unusedSimpArgs false
set_option maxHeartbeats 8000000 in
set_option maxRecDepth 20000 in
theorem rpart_36 (l : ByteArray) (hs : l.size ≤ 281474976710656) (h0 : 0 < l.size) (hm : l[0] = 36) (half deep : Bool) (D : Int) (hD : decide (D ≤ 32) = !deep) (w : World) :
    Calls Tryz.prog 33 #[.string l, .bool half, .int .i64 D] w fun e w' => e = .returned (.int .i64 (partE 36 (l.data.toList.drop 1) half deep : Int)) ∧ Below w.heap.size w w' := by
  have hle : l.toList.isEmpty = false := str_full (by omega)
  have hm0 : (l[0].toNat : Int) = 36 := by rw [hm]; rfl
  have hz : (0 : Int) < (l.size : Int) := by omega
  have h1s : (1 : Int) ≤ (l.size : Int) := by omega
  obtain ⟨T, hT⟩ : ∃ T, l.extract 1 l.size = T := ⟨_, rfl⟩
  have hTl : l.data.toList.drop 1 = T.data.toList := by rw [← hT]; exact (rest_list l 1 (by omega)).symm
  have hTs : T.size ≤ 281474976710656 := by rw [← hT, ext_size _ _ _ (Nat.le_refl _)]; omega
  have KIN : Hid (∀ i (hi : i < 10), i < 4 → ((((⟨#[43, 45, 58, 95, 36, 42, 35, 37, 126, 62]⟩ : ByteArray)[i]'hi).toNat : Int) != 36) = true) := by
    show ∀ i (hi : i < 10), i < 4 → _
    intro i hi hk
    have : ∀ j : Fin 10, j.val < 4 → ((((⟨#[43, 45, 58, 95, 36, 42, 35, 37, 126, 62]⟩ : ByteArray)[j.val]'j.isLt).toNat : Int) != 36) = true := by decide +kernel
    exact this ⟨i, hi⟩ hk
  have KAT : Hid (((((⟨#[43, 45, 58, 95, 36, 42, 35, 37, 126, 62]⟩ : ByteArray)[4]'(by decide)).toNat : Int) != 36) = false) := rfl
  have HN : Hid (∀ W, Calls Tryz.prog 34 #[.string T] W fun e w' => e = .returned (numT T.data.toList) ∧ Below W.heap.size W w') := fun W => refNumber_any T (by unfold maxLen; omega) W
  have HT : Hid (∀ W, Calls Tryz.prog 55 #[.int .u8 36, .string T, .bool half, .int .i64 D] W fun e w' => e = .returned (.int .i64 (cntE 36 T.data.toList half deep : Int)) ∧ Below W.heap.size W w') := fun W => rcount_36 T hTs half deep D hD W
  have HPE : Hid (partE 36 T.data.toList half deep = cntE 36 T.data.toList half deep) := rfl
  rw [hTl]
  clear hTl hm
  by_cases hT0 : T.size = 0
  · have te := str_empty hT0
    have htl : T.data.toList = [] := by rw [empty_str T hT0]
    have t2 : (T.toList == [45]) = false := by rw [ByteArray.toList_eq, htl]; rfl
    rw [htl] at HN HT ⊢
    rw [numT_none num_nil] at HN
    clear htl hT0
    cases half with
    | false =>
      have HE : Hid (partE 36 [] false deep = cntE 36 [] false deep) := rfl
      rw [HE.out]
      go_enter Tryz.func33, Tryz.ntmps33
      go_wp2
      go_loopw [8] (fun ci wr => ∃ i : Nat, (i ≤ 4 ∧ Below w.heap.size w wr) ∧ ci = .int .i64 (i : Int)) (fun ci _ => 4 - (intOf ci).toNat)
      case atStart => exact ⟨0, ⟨Nat.zero_le _, Below.refl _ _⟩, rfl⟩
      case round =>
        obtain ⟨i, ⟨hi, hbw⟩, rfl⟩ := hrel
        have HBW : Hid (Below w.heap.size w wr) := hbw
        clear hbw
        have hz0 : (0 : Int) ≤ (i : Int) := by omega
        have hz1 : (i : Int) < 10 := by omega
        have hi10 : i < 10 := by omega
        by_cases hlt : i < 4
        · have hq := KIN.out i (by omega) hlt
          have hz9 : (i : Int) < 10 := by omega
          go_wp2_with fail
          go_quiet (fail)
          go_wp2
          go_roundw
          case rel => exact ⟨i + 1, ⟨by omega, below_dn HBW.out nq⟩, rfl⟩
          case measure => simp [intOf]; omega
        · have hik : i = 4 := by omega
          subst hik
          have hq := KAT.out
          go_wp2_with fail
          go_quiet (fail)
          obtain ⟨W1, hW1⟩ : ∃ W1, wr.drewN nq = W1 := ⟨_, rfl⟩
          have HB1 : Hid (Below w.heap.size w W1) := by rw [← hW1]; exact below_dn HBW.out nq
          have HSZ : Hid (w.heap.size ≤ W1.heap.size) := HB1.out.size
          rw [hW1]
          clear hW1
          go_wp2_with fail
          refine (HN.out _).mono ?_
          rintro e w2 ⟨rfl, hb2⟩
          have HB2 : Hid (Below w.heap.size w w2) := HB1.out.trans (hb2.mono HSZ.out)
          clear hb2
          have HS2 : Hid (w.heap.size ≤ w2.heap.size) := HB2.out.size
          go_wp2_with fail
          refine (HT.out _).mono ?_
          rintro e w3 ⟨rfl, hb3⟩
          have HB3 : Hid (Below w.heap.size w w3) := HB2.out.trans (hb3.mono HS2.out)
          clear hb3
          go_wp2
          go_returns
          exact ⟨rfl, HB3.out⟩
    | true =>
      have HE : Hid (partE 36 [] true deep = cntE 36 [] true deep) := rfl
      rw [HE.out]
      go_enter Tryz.func33, Tryz.ntmps33
      go_wp2
      go_loopw [8] (fun ci wr => ∃ i : Nat, (i ≤ 4 ∧ Below w.heap.size w wr) ∧ ci = .int .i64 (i : Int)) (fun ci _ => 4 - (intOf ci).toNat)
      case atStart => exact ⟨0, ⟨Nat.zero_le _, Below.refl _ _⟩, rfl⟩
      case round =>
        obtain ⟨i, ⟨hi, hbw⟩, rfl⟩ := hrel
        have HBW : Hid (Below w.heap.size w wr) := hbw
        clear hbw
        have hz0 : (0 : Int) ≤ (i : Int) := by omega
        have hz1 : (i : Int) < 10 := by omega
        have hi10 : i < 10 := by omega
        by_cases hlt : i < 4
        · have hq := KIN.out i (by omega) hlt
          have hz9 : (i : Int) < 10 := by omega
          go_wp2_with fail
          go_quiet (fail)
          go_wp2
          go_roundw
          case rel => exact ⟨i + 1, ⟨by omega, below_dn HBW.out nq⟩, rfl⟩
          case measure => simp [intOf]; omega
        · have hik : i = 4 := by omega
          subst hik
          have hq := KAT.out
          go_wp2_with fail
          go_quiet (fail)
          obtain ⟨W1, hW1⟩ : ∃ W1, wr.drewN nq = W1 := ⟨_, rfl⟩
          have HB1 : Hid (Below w.heap.size w W1) := by rw [← hW1]; exact below_dn HBW.out nq
          have HSZ : Hid (w.heap.size ≤ W1.heap.size) := HB1.out.size
          rw [hW1]
          clear hW1
          go_wp2_with fail
          refine (HN.out _).mono ?_
          rintro e w2 ⟨rfl, hb2⟩
          have HB2 : Hid (Below w.heap.size w w2) := HB1.out.trans (hb2.mono HSZ.out)
          clear hb2
          have HS2 : Hid (w.heap.size ≤ w2.heap.size) := HB2.out.size
          go_wp2_with fail
          refine (HT.out _).mono ?_
          rintro e w3 ⟨rfl, hb3⟩
          have HB3 : Hid (Below w.heap.size w w3) := HB2.out.trans (hb3.mono HS2.out)
          clear hb3
          go_wp2
          go_returns
          exact ⟨rfl, HB3.out⟩
  have te := str_full hT0
  by_cases h2 : T.data.toList = [45]
  · have t2 : (T.toList == [45]) = true := by rw [ByteArray.toList_eq, h2]; rfl
    rw [h2] at HN HT ⊢
    rw [numT_none num_minus] at HN
    clear h2 hT0
    cases half with
    | false =>
      have HE : Hid (partE 36 [45] false deep = cntE 36 [45] false deep) := rfl
      rw [HE.out]
      go_enter Tryz.func33, Tryz.ntmps33
      go_wp2
      go_loopw [8] (fun ci wr => ∃ i : Nat, (i ≤ 4 ∧ Below w.heap.size w wr) ∧ ci = .int .i64 (i : Int)) (fun ci _ => 4 - (intOf ci).toNat)
      case atStart => exact ⟨0, ⟨Nat.zero_le _, Below.refl _ _⟩, rfl⟩
      case round =>
        obtain ⟨i, ⟨hi, hbw⟩, rfl⟩ := hrel
        have HBW : Hid (Below w.heap.size w wr) := hbw
        clear hbw
        have hz0 : (0 : Int) ≤ (i : Int) := by omega
        have hz1 : (i : Int) < 10 := by omega
        have hi10 : i < 10 := by omega
        by_cases hlt : i < 4
        · have hq := KIN.out i (by omega) hlt
          have hz9 : (i : Int) < 10 := by omega
          go_wp2_with fail
          go_quiet (fail)
          go_wp2
          go_roundw
          case rel => exact ⟨i + 1, ⟨by omega, below_dn HBW.out nq⟩, rfl⟩
          case measure => simp [intOf]; omega
        · have hik : i = 4 := by omega
          subst hik
          have hq := KAT.out
          go_wp2_with fail
          go_quiet (fail)
          obtain ⟨W1, hW1⟩ : ∃ W1, wr.drewN nq = W1 := ⟨_, rfl⟩
          have HB1 : Hid (Below w.heap.size w W1) := by rw [← hW1]; exact below_dn HBW.out nq
          have HSZ : Hid (w.heap.size ≤ W1.heap.size) := HB1.out.size
          rw [hW1]
          clear hW1
          go_wp2_with fail
          refine (HN.out _).mono ?_
          rintro e w2 ⟨rfl, hb2⟩
          have HB2 : Hid (Below w.heap.size w w2) := HB1.out.trans (hb2.mono HSZ.out)
          clear hb2
          have HS2 : Hid (w.heap.size ≤ w2.heap.size) := HB2.out.size
          go_wp2_with fail
          refine (HT.out _).mono ?_
          rintro e w3 ⟨rfl, hb3⟩
          have HB3 : Hid (Below w.heap.size w w3) := HB2.out.trans (hb3.mono HS2.out)
          clear hb3
          go_wp2
          go_returns
          exact ⟨rfl, HB3.out⟩
    | true =>
      have HE : Hid (partE 36 [45] true deep = cntE 36 [45] true deep) := rfl
      rw [HE.out]
      go_enter Tryz.func33, Tryz.ntmps33
      go_wp2
      go_loopw [8] (fun ci wr => ∃ i : Nat, (i ≤ 4 ∧ Below w.heap.size w wr) ∧ ci = .int .i64 (i : Int)) (fun ci _ => 4 - (intOf ci).toNat)
      case atStart => exact ⟨0, ⟨Nat.zero_le _, Below.refl _ _⟩, rfl⟩
      case round =>
        obtain ⟨i, ⟨hi, hbw⟩, rfl⟩ := hrel
        have HBW : Hid (Below w.heap.size w wr) := hbw
        clear hbw
        have hz0 : (0 : Int) ≤ (i : Int) := by omega
        have hz1 : (i : Int) < 10 := by omega
        have hi10 : i < 10 := by omega
        by_cases hlt : i < 4
        · have hq := KIN.out i (by omega) hlt
          have hz9 : (i : Int) < 10 := by omega
          go_wp2_with fail
          go_quiet (fail)
          go_wp2
          go_roundw
          case rel => exact ⟨i + 1, ⟨by omega, below_dn HBW.out nq⟩, rfl⟩
          case measure => simp [intOf]; omega
        · have hik : i = 4 := by omega
          subst hik
          have hq := KAT.out
          go_wp2_with fail
          go_quiet (fail)
          obtain ⟨W1, hW1⟩ : ∃ W1, wr.drewN nq = W1 := ⟨_, rfl⟩
          have HB1 : Hid (Below w.heap.size w W1) := by rw [← hW1]; exact below_dn HBW.out nq
          have HSZ : Hid (w.heap.size ≤ W1.heap.size) := HB1.out.size
          rw [hW1]
          clear hW1
          go_wp2_with fail
          refine (HN.out _).mono ?_
          rintro e w2 ⟨rfl, hb2⟩
          have HB2 : Hid (Below w.heap.size w w2) := HB1.out.trans (hb2.mono HSZ.out)
          clear hb2
          have HS2 : Hid (w.heap.size ≤ w2.heap.size) := HB2.out.size
          go_wp2_with fail
          refine (HT.out _).mono ?_
          rintro e w3 ⟨rfl, hb3⟩
          have HB3 : Hid (Below w.heap.size w w3) := HB2.out.trans (hb3.mono HS2.out)
          clear hb3
          go_wp2
          go_returns
          exact ⟨rfl, HB3.out⟩
  have t2 : (T.toList == [45]) = false := by rw [ByteArray.toList_eq]; simpa using h2
  have h3 : T.data.toList ≠ [] := fun e => by rw [ByteArray.toList_eq, e] at te; cases te
  generalize T.data.toList = tl at *
  cases hn : numberOf tl with
  | none =>
    rw [numT_none hn] at HN
    cases half with
    | false =>
      have HE : Hid (partE 36 tl false deep = cntE 36 tl false deep) := rfl
      clear h2 h3 hn
      rw [HE.out]
      go_enter Tryz.func33, Tryz.ntmps33
      go_wp2
      go_loopw [8] (fun ci wr => ∃ i : Nat, (i ≤ 4 ∧ Below w.heap.size w wr) ∧ ci = .int .i64 (i : Int)) (fun ci _ => 4 - (intOf ci).toNat)
      case atStart => exact ⟨0, ⟨Nat.zero_le _, Below.refl _ _⟩, rfl⟩
      case round =>
        obtain ⟨i, ⟨hi, hbw⟩, rfl⟩ := hrel
        have HBW : Hid (Below w.heap.size w wr) := hbw
        clear hbw
        have hz0 : (0 : Int) ≤ (i : Int) := by omega
        have hz1 : (i : Int) < 10 := by omega
        have hi10 : i < 10 := by omega
        by_cases hlt : i < 4
        · have hq := KIN.out i (by omega) hlt
          have hz9 : (i : Int) < 10 := by omega
          go_wp2_with fail
          go_quiet (fail)
          go_wp2
          go_roundw
          case rel => exact ⟨i + 1, ⟨by omega, below_dn HBW.out nq⟩, rfl⟩
          case measure => simp [intOf]; omega
        · have hik : i = 4 := by omega
          subst hik
          have hq := KAT.out
          go_wp2_with fail
          go_quiet (fail)
          obtain ⟨W1, hW1⟩ : ∃ W1, wr.drewN nq = W1 := ⟨_, rfl⟩
          have HB1 : Hid (Below w.heap.size w W1) := by rw [← hW1]; exact below_dn HBW.out nq
          have HSZ : Hid (w.heap.size ≤ W1.heap.size) := HB1.out.size
          rw [hW1]
          clear hW1
          go_wp2_with fail
          refine (HN.out _).mono ?_
          rintro e w2 ⟨rfl, hb2⟩
          have HB2 : Hid (Below w.heap.size w w2) := HB1.out.trans (hb2.mono HSZ.out)
          clear hb2
          have HS2 : Hid (w.heap.size ≤ w2.heap.size) := HB2.out.size
          go_wp2_with fail
          refine (HT.out _).mono ?_
          rintro e w3 ⟨rfl, hb3⟩
          have HB3 : Hid (Below w.heap.size w w3) := HB2.out.trans (hb3.mono HS2.out)
          clear hb3
          go_wp2
          go_returns
          exact ⟨rfl, HB3.out⟩
    | true =>
      have HE : Hid (partE 36 tl true deep = cntE 36 tl true deep) := rfl
      clear h2 h3 hn
      rw [HE.out]
      go_enter Tryz.func33, Tryz.ntmps33
      go_wp2
      go_loopw [8] (fun ci wr => ∃ i : Nat, (i ≤ 4 ∧ Below w.heap.size w wr) ∧ ci = .int .i64 (i : Int)) (fun ci _ => 4 - (intOf ci).toNat)
      case atStart => exact ⟨0, ⟨Nat.zero_le _, Below.refl _ _⟩, rfl⟩
      case round =>
        obtain ⟨i, ⟨hi, hbw⟩, rfl⟩ := hrel
        have HBW : Hid (Below w.heap.size w wr) := hbw
        clear hbw
        have hz0 : (0 : Int) ≤ (i : Int) := by omega
        have hz1 : (i : Int) < 10 := by omega
        have hi10 : i < 10 := by omega
        by_cases hlt : i < 4
        · have hq := KIN.out i (by omega) hlt
          have hz9 : (i : Int) < 10 := by omega
          go_wp2_with fail
          go_quiet (fail)
          go_wp2
          go_roundw
          case rel => exact ⟨i + 1, ⟨by omega, below_dn HBW.out nq⟩, rfl⟩
          case measure => simp [intOf]; omega
        · have hik : i = 4 := by omega
          subst hik
          have hq := KAT.out
          go_wp2_with fail
          go_quiet (fail)
          obtain ⟨W1, hW1⟩ : ∃ W1, wr.drewN nq = W1 := ⟨_, rfl⟩
          have HB1 : Hid (Below w.heap.size w W1) := by rw [← hW1]; exact below_dn HBW.out nq
          have HSZ : Hid (w.heap.size ≤ W1.heap.size) := HB1.out.size
          rw [hW1]
          clear hW1
          go_wp2_with fail
          refine (HN.out _).mono ?_
          rintro e w2 ⟨rfl, hb2⟩
          have HB2 : Hid (Below w.heap.size w w2) := HB1.out.trans (hb2.mono HSZ.out)
          clear hb2
          have HS2 : Hid (w.heap.size ≤ w2.heap.size) := HB2.out.size
          go_wp2_with fail
          refine (HT.out _).mono ?_
          rintro e w3 ⟨rfl, hb3⟩
          have HB3 : Hid (Below w.heap.size w w3) := HB2.out.trans (hb3.mono HS2.out)
          clear hb3
          go_wp2
          go_returns
          exact ⟨rfl, HB3.out⟩
  | some n =>
    rw [numT_some hn] at HN
    cases half with
    | false =>
      have HE : Hid (partE 36 tl false deep = cntE 36 tl false deep) := rfl
      clear h2 h3 hn
      rw [HE.out]
      go_enter Tryz.func33, Tryz.ntmps33
      go_wp2
      go_loopw [8] (fun ci wr => ∃ i : Nat, (i ≤ 4 ∧ Below w.heap.size w wr) ∧ ci = .int .i64 (i : Int)) (fun ci _ => 4 - (intOf ci).toNat)
      case atStart => exact ⟨0, ⟨Nat.zero_le _, Below.refl _ _⟩, rfl⟩
      case round =>
        obtain ⟨i, ⟨hi, hbw⟩, rfl⟩ := hrel
        have HBW : Hid (Below w.heap.size w wr) := hbw
        clear hbw
        have hz0 : (0 : Int) ≤ (i : Int) := by omega
        have hz1 : (i : Int) < 10 := by omega
        have hi10 : i < 10 := by omega
        by_cases hlt : i < 4
        · have hq := KIN.out i (by omega) hlt
          have hz9 : (i : Int) < 10 := by omega
          go_wp2_with fail
          go_quiet (fail)
          go_wp2
          go_roundw
          case rel => exact ⟨i + 1, ⟨by omega, below_dn HBW.out nq⟩, rfl⟩
          case measure => simp [intOf]; omega
        · have hik : i = 4 := by omega
          subst hik
          have hq := KAT.out
          go_wp2_with fail
          go_quiet (fail)
          obtain ⟨W1, hW1⟩ : ∃ W1, wr.drewN nq = W1 := ⟨_, rfl⟩
          have HB1 : Hid (Below w.heap.size w W1) := by rw [← hW1]; exact below_dn HBW.out nq
          have HSZ : Hid (w.heap.size ≤ W1.heap.size) := HB1.out.size
          rw [hW1]
          clear hW1
          go_wp2_with fail
          refine (HN.out _).mono ?_
          rintro e w2 ⟨rfl, hb2⟩
          have HB2 : Hid (Below w.heap.size w w2) := HB1.out.trans (hb2.mono HSZ.out)
          clear hb2
          have HS2 : Hid (w.heap.size ≤ w2.heap.size) := HB2.out.size
          go_wp2_with fail
          refine (HT.out _).mono ?_
          rintro e w3 ⟨rfl, hb3⟩
          have HB3 : Hid (Below w.heap.size w w3) := HB2.out.trans (hb3.mono HS2.out)
          clear hb3
          go_wp2
          go_returns
          exact ⟨rfl, HB3.out⟩
    | true =>
      have HE : Hid (partE 36 tl true deep = cntE 36 tl true deep) := rfl
      clear h2 h3 hn
      rw [HE.out]
      go_enter Tryz.func33, Tryz.ntmps33
      go_wp2
      go_loopw [8] (fun ci wr => ∃ i : Nat, (i ≤ 4 ∧ Below w.heap.size w wr) ∧ ci = .int .i64 (i : Int)) (fun ci _ => 4 - (intOf ci).toNat)
      case atStart => exact ⟨0, ⟨Nat.zero_le _, Below.refl _ _⟩, rfl⟩
      case round =>
        obtain ⟨i, ⟨hi, hbw⟩, rfl⟩ := hrel
        have HBW : Hid (Below w.heap.size w wr) := hbw
        clear hbw
        have hz0 : (0 : Int) ≤ (i : Int) := by omega
        have hz1 : (i : Int) < 10 := by omega
        have hi10 : i < 10 := by omega
        by_cases hlt : i < 4
        · have hq := KIN.out i (by omega) hlt
          have hz9 : (i : Int) < 10 := by omega
          go_wp2_with fail
          go_quiet (fail)
          go_wp2
          go_roundw
          case rel => exact ⟨i + 1, ⟨by omega, below_dn HBW.out nq⟩, rfl⟩
          case measure => simp [intOf]; omega
        · have hik : i = 4 := by omega
          subst hik
          have hq := KAT.out
          go_wp2_with fail
          go_quiet (fail)
          obtain ⟨W1, hW1⟩ : ∃ W1, wr.drewN nq = W1 := ⟨_, rfl⟩
          have HB1 : Hid (Below w.heap.size w W1) := by rw [← hW1]; exact below_dn HBW.out nq
          have HSZ : Hid (w.heap.size ≤ W1.heap.size) := HB1.out.size
          rw [hW1]
          clear hW1
          go_wp2_with fail
          refine (HN.out _).mono ?_
          rintro e w2 ⟨rfl, hb2⟩
          have HB2 : Hid (Below w.heap.size w w2) := HB1.out.trans (hb2.mono HSZ.out)
          clear hb2
          have HS2 : Hid (w.heap.size ≤ w2.heap.size) := HB2.out.size
          go_wp2_with fail
          refine (HT.out _).mono ?_
          rintro e w3 ⟨rfl, hb3⟩
          have HB3 : Hid (Below w.heap.size w w3) := HB2.out.trans (hb3.mono HS2.out)
          clear hb3
          go_wp2
          go_returns
          exact ⟨rfl, HB3.out⟩
end Go.Proofs.YtnfbaeajalnmmaaGreatDoor
namespace Go.Proofs.YtnfbaeajalnmmaaGreatDoor
open Go.RowKit Vi
set_option linter.unusedVariables false
set_option linter.unusedSimpArgs false
set_option maxHeartbeats 8000000 in
set_option maxRecDepth 20000 in
theorem rcount_42 (t : ByteArray) (hs : t.size ≤ 281474976710656) (half deep : Bool) (D : Int) (hD : decide (D ≤ 32) = !deep) (w : World) :
    Calls Tryz.prog 55 #[.int .u8 42, .string t, .bool half, .int .i64 D] w fun e w' => e = .returned (.int .i64 (cntE 42 t.data.toList half deep : Int)) ∧ Below w.heap.size w w' := by
  have HN : Hid (∀ W, Calls Tryz.prog 34 #[.string t] W fun e w' => e = .returned (numT t.data.toList) ∧ Below W.heap.size W w') := fun W => refNumber_any t (by unfold maxLen; omega) W
  by_cases h0 : t.size = 0
  · have te := str_empty h0
    have t1 : (t.toList == [45, 49]) = false := by rw [empty_str t h0]; decide +kernel
    have t2 : (t.toList == [45]) = false := by rw [empty_str t h0]; decide +kernel
    have htl : t.data.toList = [] := by rw [empty_str t h0]
    rw [htl] at HN ⊢
    rw [numT_none num_nil] at HN
    clear htl h0
    cases half with
    | false =>
      cases deep with
      | false =>
        have hD := hD
        simp only [Bool.not_true, Bool.not_false] at hD
        have HE : Hid (cntE 42 [] false false = 20) := by show _ = _; unfold cntE; rw [num_nil]; decide
        rw [HE.out]
        go_enter Tryz.func55, Tryz.ntmps55
        go_wp2
        go_returns
        exact ⟨rfl, Below.refl _ _⟩
      | true =>
        have hD := hD
        simp only [Bool.not_true, Bool.not_false] at hD
        have HE : Hid (cntE 42 [] false true = 20) := by show _ = _; unfold cntE; rw [num_nil]; decide
        rw [HE.out]
        go_enter Tryz.func55, Tryz.ntmps55
        go_wp2
        go_returns
        exact ⟨rfl, Below.refl _ _⟩
    | true =>
      cases deep with
      | false =>
        have hD := hD
        simp only [Bool.not_true, Bool.not_false] at hD
        have HE : Hid (cntE 42 [] true false = 120) := by show _ = _; unfold cntE; rw [num_nil]; decide
        rw [HE.out]
        go_enter Tryz.func55, Tryz.ntmps55
        go_wp2_with fail
        refine (HN.out _).mono ?_
        rintro e w1 ⟨rfl, hb1⟩
        have HB1 : Hid _ := hb1
        clear hb1
        go_wp2
        go_returns
        exact ⟨rfl, HB1.out⟩
      | true =>
        have hD := hD
        simp only [Bool.not_true, Bool.not_false] at hD
        have HE : Hid (cntE 42 [] true true = 120) := by show _ = _; unfold cntE; rw [num_nil]; decide
        rw [HE.out]
        go_enter Tryz.func55, Tryz.ntmps55
        go_wp2_with fail
        refine (HN.out _).mono ?_
        rintro e w1 ⟨rfl, hb1⟩
        have HB1 : Hid _ := hb1
        clear hb1
        go_wp2
        go_returns
        exact ⟨rfl, HB1.out⟩
  have te := str_full h0
  by_cases h1 : t.data.toList = [45, 49]
  · have t1 : (t.toList == [45, 49]) = true := by rw [ByteArray.toList_eq, h1]; rfl
    have t2 : (t.toList == [45]) = false := by rw [ByteArray.toList_eq, h1]; rfl
    rw [h1] at HN ⊢
    rw [numT_some num_minus1] at HN
    clear h0 h1
    cases half with
    | false =>
      cases deep with
      | false =>
        have hD := hD
        simp only [Bool.not_true, Bool.not_false] at hD
        have HE : Hid (cntE 42 [45, 49] false false = 20) := by show _ = _; unfold cntE; rw [num_minus1]; decide
        rw [HE.out]
        go_enter Tryz.func55, Tryz.ntmps55
        go_wp2
        go_returns
        exact ⟨rfl, Below.refl _ _⟩
      | true =>
        have hD := hD
        simp only [Bool.not_true, Bool.not_false] at hD
        have HE : Hid (cntE 42 [45, 49] false true = 20) := by show _ = _; unfold cntE; rw [num_minus1]; decide
        rw [HE.out]
        go_enter Tryz.func55, Tryz.ntmps55
        go_wp2
        go_returns
        exact ⟨rfl, Below.refl _ _⟩
    | true =>
      cases deep with
      | false =>
        have hD := hD
        simp only [Bool.not_true, Bool.not_false] at hD
        have HE : Hid (cntE 42 [45, 49] true false = 20) := by show _ = _; unfold cntE; rw [num_minus1]; decide
        rw [HE.out]
        go_enter Tryz.func55, Tryz.ntmps55
        go_wp2
        go_returns
        exact ⟨rfl, Below.refl _ _⟩
      | true =>
        have hD := hD
        simp only [Bool.not_true, Bool.not_false] at hD
        have HE : Hid (cntE 42 [45, 49] true true = 20) := by show _ = _; unfold cntE; rw [num_minus1]; decide
        rw [HE.out]
        go_enter Tryz.func55, Tryz.ntmps55
        go_wp2
        go_returns
        exact ⟨rfl, Below.refl _ _⟩
  by_cases h2 : t.data.toList = [45]
  · have t1 : (t.toList == [45, 49]) = false := by rw [ByteArray.toList_eq, h2]; rfl
    have t2 : (t.toList == [45]) = true := by rw [ByteArray.toList_eq, h2]; rfl
    rw [h2] at HN ⊢
    rw [numT_none num_minus] at HN
    clear h0 h1 h2
    cases half with
    | false =>
      cases deep with
      | false =>
        have hD := hD
        simp only [Bool.not_true, Bool.not_false] at hD
        have HE : Hid (cntE 42 [45] false false = 20) := by show _ = _; unfold cntE; rw [num_minus]; decide
        rw [HE.out]
        go_enter Tryz.func55, Tryz.ntmps55
        go_wp2
        go_returns
        exact ⟨rfl, Below.refl _ _⟩
      | true =>
        have hD := hD
        simp only [Bool.not_true, Bool.not_false] at hD
        have HE : Hid (cntE 42 [45] false true = 20) := by show _ = _; unfold cntE; rw [num_minus]; decide
        rw [HE.out]
        go_enter Tryz.func55, Tryz.ntmps55
        go_wp2
        go_returns
        exact ⟨rfl, Below.refl _ _⟩
    | true =>
      cases deep with
      | false =>
        have hD := hD
        simp only [Bool.not_true, Bool.not_false] at hD
        have HE : Hid (cntE 42 [45] true false = 120) := by show _ = _; unfold cntE; rw [num_minus]; decide
        rw [HE.out]
        go_enter Tryz.func55, Tryz.ntmps55
        go_wp2_with fail
        refine (HN.out _).mono ?_
        rintro e w1 ⟨rfl, hb1⟩
        have HB1 : Hid _ := hb1
        clear hb1
        go_wp2
        go_returns
        exact ⟨rfl, HB1.out⟩
      | true =>
        have hD := hD
        simp only [Bool.not_true, Bool.not_false] at hD
        have HE : Hid (cntE 42 [45] true true = 120) := by show _ = _; unfold cntE; rw [num_minus]; decide
        rw [HE.out]
        go_enter Tryz.func55, Tryz.ntmps55
        go_wp2_with fail
        refine (HN.out _).mono ?_
        rintro e w1 ⟨rfl, hb1⟩
        have HB1 : Hid _ := hb1
        clear hb1
        go_wp2
        go_returns
        exact ⟨rfl, HB1.out⟩
  have t1 : (t.toList == [45, 49]) = false := by rw [ByteArray.toList_eq]; simpa using h1
  have t2 : (t.toList == [45]) = false := by rw [ByteArray.toList_eq]; simpa using h2
  have h3 : t.data.toList ≠ [] := fun e => by rw [ByteArray.toList_eq, e] at te; cases te
  have HC : Hid (∀ half deep, cntE 42 t.data.toList half deep = (match numberOf t.data.toList with | some n => if n < 0 ∨ mostK 42 < n ∨ fitsK 42 deep = false then 120 else 20 | none => 120)) := fun half deep => by
    unfold cntE
    rw [if_neg (by rintro (h | h); exact h3 h.2.1; rcases h.2 with h | h; exact h1 h; exact h2 h.1)]
    rfl
  generalize t.data.toList = tl at *
  cases hn : numberOf tl with
  | none =>
    rw [numT_none hn] at HN
    have HC2 : Hid (∀ half deep, cntE 42 tl half deep = 120) := fun half deep => by have := HC.out half deep; rw [hn] at this; exact this
    clear h0 h1 h2 h3 hn HC
    cases half with
    | false =>
      cases deep with
      | false =>
        have hD := hD
        simp only [Bool.not_true, Bool.not_false] at hD
        have HE : Hid (cntE 42 tl false false = 120) := HC2.out _ _
        rw [HE.out]
        go_enter Tryz.func55, Tryz.ntmps55
        go_wp2_with fail
        refine (HN.out _).mono ?_
        rintro e w1 ⟨rfl, hb1⟩
        have HB1 : Hid _ := hb1
        clear hb1
        go_wp2
        go_returns
        exact ⟨rfl, HB1.out⟩
      | true =>
        have hD := hD
        simp only [Bool.not_true, Bool.not_false] at hD
        have HE : Hid (cntE 42 tl false true = 120) := HC2.out _ _
        rw [HE.out]
        go_enter Tryz.func55, Tryz.ntmps55
        go_wp2_with fail
        refine (HN.out _).mono ?_
        rintro e w1 ⟨rfl, hb1⟩
        have HB1 : Hid _ := hb1
        clear hb1
        go_wp2
        go_returns
        exact ⟨rfl, HB1.out⟩
    | true =>
      cases deep with
      | false =>
        have hD := hD
        simp only [Bool.not_true, Bool.not_false] at hD
        have HE : Hid (cntE 42 tl true false = 120) := HC2.out _ _
        rw [HE.out]
        go_enter Tryz.func55, Tryz.ntmps55
        go_wp2_with fail
        refine (HN.out _).mono ?_
        rintro e w1 ⟨rfl, hb1⟩
        have HB1 : Hid _ := hb1
        clear hb1
        go_wp2
        go_returns
        exact ⟨rfl, HB1.out⟩
      | true =>
        have hD := hD
        simp only [Bool.not_true, Bool.not_false] at hD
        have HE : Hid (cntE 42 tl true true = 120) := HC2.out _ _
        rw [HE.out]
        go_enter Tryz.func55, Tryz.ntmps55
        go_wp2_with fail
        refine (HN.out _).mono ?_
        rintro e w1 ⟨rfl, hb1⟩
        have HB1 : Hid _ := hb1
        clear hb1
        go_wp2
        go_returns
        exact ⟨rfl, HB1.out⟩
  | some n =>
    rw [numT_some hn] at HN
    have HC2 : Hid (∀ half deep, cntE 42 tl half deep = if n < 0 ∨ mostK 42 < n ∨ fitsK 42 deep = false then 120 else 20) := fun half deep => by have := HC.out half deep; rw [hn] at this; exact this
    have hmk : mostK 42 = 1048576 := rfl
    rw [hmk] at HC2
    clear h0 h1 h2 h3 hn HC
    by_cases hneg : n < 0
    · have hd1 : decide (n < 0) = true := dec_t hneg
      have HC3 : Hid (∀ half deep, cntE 42 tl half deep = 120) := fun half deep => by rw [HC2.out, if_pos (Or.inl hneg)]
      clear hneg
      cases half with
      | false =>
        cases deep with
        | false =>
          have hD := hD
          simp only [Bool.not_true, Bool.not_false] at hD
          have HE : Hid (cntE 42 tl false false = 120) := HC3.out _ _
          rw [HE.out]
          go_enter Tryz.func55, Tryz.ntmps55
          go_wp2_with fail
          refine (HN.out _).mono ?_
          rintro e w1 ⟨rfl, hb1⟩
          have HB1 : Hid _ := hb1
          clear hb1
          go_wp2
          go_returns
          exact ⟨rfl, HB1.out⟩
        | true =>
          have hD := hD
          simp only [Bool.not_true, Bool.not_false] at hD
          have HE : Hid (cntE 42 tl false true = 120) := HC3.out _ _
          rw [HE.out]
          go_enter Tryz.func55, Tryz.ntmps55
          go_wp2_with fail
          refine (HN.out _).mono ?_
          rintro e w1 ⟨rfl, hb1⟩
          have HB1 : Hid _ := hb1
          clear hb1
          go_wp2
          go_returns
          exact ⟨rfl, HB1.out⟩
      | true =>
        cases deep with
        | false =>
          have hD := hD
          simp only [Bool.not_true, Bool.not_false] at hD
          have HE : Hid (cntE 42 tl true false = 120) := HC3.out _ _
          rw [HE.out]
          go_enter Tryz.func55, Tryz.ntmps55
          go_wp2_with fail
          refine (HN.out _).mono ?_
          rintro e w1 ⟨rfl, hb1⟩
          have HB1 : Hid _ := hb1
          clear hb1
          go_wp2
          go_returns
          exact ⟨rfl, HB1.out⟩
        | true =>
          have hD := hD
          simp only [Bool.not_true, Bool.not_false] at hD
          have HE : Hid (cntE 42 tl true true = 120) := HC3.out _ _
          rw [HE.out]
          go_enter Tryz.func55, Tryz.ntmps55
          go_wp2_with fail
          refine (HN.out _).mono ?_
          rintro e w1 ⟨rfl, hb1⟩
          have HB1 : Hid _ := hb1
          clear hb1
          go_wp2
          go_returns
          exact ⟨rfl, HB1.out⟩
    have hd1 : decide (n < 0) = false := dec_f hneg
    by_cases hbig : 1048576 < n
    · have hd2 : decide (1048576 < n) = true := dec_t hbig
      have HC3 : Hid (∀ half deep, cntE 42 tl half deep = 120) := fun half deep => by rw [HC2.out, if_pos (Or.inr (Or.inl hbig))]
      clear hneg hbig
      cases half with
      | false =>
        cases deep with
        | false =>
          have hD := hD
          simp only [Bool.not_true, Bool.not_false] at hD
          have HE : Hid (cntE 42 tl false false = 120) := HC3.out _ _
          rw [HE.out]
          go_enter Tryz.func55, Tryz.ntmps55
          go_wp2_with fail
          refine (HN.out _).mono ?_
          rintro e w1 ⟨rfl, hb1⟩
          have HB1 : Hid _ := hb1
          clear hb1
          go_wp2
          go_returns
          exact ⟨rfl, HB1.out⟩
        | true =>
          have hD := hD
          simp only [Bool.not_true, Bool.not_false] at hD
          have HE : Hid (cntE 42 tl false true = 120) := HC3.out _ _
          rw [HE.out]
          go_enter Tryz.func55, Tryz.ntmps55
          go_wp2_with fail
          refine (HN.out _).mono ?_
          rintro e w1 ⟨rfl, hb1⟩
          have HB1 : Hid _ := hb1
          clear hb1
          go_wp2
          go_returns
          exact ⟨rfl, HB1.out⟩
      | true =>
        cases deep with
        | false =>
          have hD := hD
          simp only [Bool.not_true, Bool.not_false] at hD
          have HE : Hid (cntE 42 tl true false = 120) := HC3.out _ _
          rw [HE.out]
          go_enter Tryz.func55, Tryz.ntmps55
          go_wp2_with fail
          refine (HN.out _).mono ?_
          rintro e w1 ⟨rfl, hb1⟩
          have HB1 : Hid _ := hb1
          clear hb1
          go_wp2
          go_returns
          exact ⟨rfl, HB1.out⟩
        | true =>
          have hD := hD
          simp only [Bool.not_true, Bool.not_false] at hD
          have HE : Hid (cntE 42 tl true true = 120) := HC3.out _ _
          rw [HE.out]
          go_enter Tryz.func55, Tryz.ntmps55
          go_wp2_with fail
          refine (HN.out _).mono ?_
          rintro e w1 ⟨rfl, hb1⟩
          have HB1 : Hid _ := hb1
          clear hb1
          go_wp2
          go_returns
          exact ⟨rfl, HB1.out⟩
    have hd2 : decide (1048576 < n) = false := dec_f hbig
    cases half with
    | false =>
      cases deep with
      | false =>
        have hD := hD
        simp only [Bool.not_true, Bool.not_false] at hD
        have HE : Hid (cntE 42 tl false false = 20) := by show _ = _; rw [HC2.out]; simp [hneg, hbig, fitsK]
        clear hneg hbig
        rw [HE.out]
        go_enter Tryz.func55, Tryz.ntmps55
        go_wp2_with fail
        refine (HN.out _).mono ?_
        rintro e w1 ⟨rfl, hb1⟩
        have HB1 : Hid _ := hb1
        clear hb1
        go_wp2
        go_returns
        exact ⟨rfl, HB1.out⟩
      | true =>
        have hD := hD
        simp only [Bool.not_true, Bool.not_false] at hD
        have HE : Hid (cntE 42 tl false true = 120) := by show _ = _; rw [HC2.out]; simp [hneg, hbig, fitsK]
        clear hneg hbig
        rw [HE.out]
        go_enter Tryz.func55, Tryz.ntmps55
        go_wp2_with fail
        refine (HN.out _).mono ?_
        rintro e w1 ⟨rfl, hb1⟩
        have HB1 : Hid _ := hb1
        clear hb1
        go_wp2
        go_returns
        exact ⟨rfl, HB1.out⟩
    | true =>
      cases deep with
      | false =>
        have hD := hD
        simp only [Bool.not_true, Bool.not_false] at hD
        have HE : Hid (cntE 42 tl true false = 20) := by show _ = _; rw [HC2.out]; simp [hneg, hbig, fitsK]
        clear hneg hbig
        rw [HE.out]
        go_enter Tryz.func55, Tryz.ntmps55
        go_wp2_with fail
        refine (HN.out _).mono ?_
        rintro e w1 ⟨rfl, hb1⟩
        have HB1 : Hid _ := hb1
        clear hb1
        go_wp2
        go_returns
        exact ⟨rfl, HB1.out⟩
      | true =>
        have hD := hD
        simp only [Bool.not_true, Bool.not_false] at hD
        have HE : Hid (cntE 42 tl true true = 120) := by show _ = _; rw [HC2.out]; simp [hneg, hbig, fitsK]
        clear hneg hbig
        rw [HE.out]
        go_enter Tryz.func55, Tryz.ntmps55
        go_wp2_with fail
        refine (HN.out _).mono ?_
        rintro e w1 ⟨rfl, hb1⟩
        have HB1 : Hid _ := hb1
        clear hb1
        go_wp2
        go_returns
        exact ⟨rfl, HB1.out⟩
end Go.Proofs.YtnfbaeajalnmmaaGreatDoor
namespace Go.Proofs.YtnfbaeajalnmmaaGreatDoor
open Go.RowKit Vi
set_option linter.unusedVariables false
set_option linter.unusedSimpArgs false
set_option maxHeartbeats 8000000 in
set_option maxRecDepth 20000 in
theorem rpart_42 (l : ByteArray) (hs : l.size ≤ 281474976710656) (h0 : 0 < l.size) (hm : l[0] = 42) (half deep : Bool) (D : Int) (hD : decide (D ≤ 32) = !deep) (w : World) :
    Calls Tryz.prog 33 #[.string l, .bool half, .int .i64 D] w fun e w' => e = .returned (.int .i64 (partE 42 (l.data.toList.drop 1) half deep : Int)) ∧ Below w.heap.size w w' := by
  have hle : l.toList.isEmpty = false := str_full (by omega)
  have hm0 : (l[0].toNat : Int) = 42 := by rw [hm]; rfl
  have hz : (0 : Int) < (l.size : Int) := by omega
  have h1s : (1 : Int) ≤ (l.size : Int) := by omega
  obtain ⟨T, hT⟩ : ∃ T, l.extract 1 l.size = T := ⟨_, rfl⟩
  have hTl : l.data.toList.drop 1 = T.data.toList := by rw [← hT]; exact (rest_list l 1 (by omega)).symm
  have hTs : T.size ≤ 281474976710656 := by rw [← hT, ext_size _ _ _ (Nat.le_refl _)]; omega
  have KIN : Hid (∀ i (hi : i < 10), i < 5 → ((((⟨#[43, 45, 58, 95, 36, 42, 35, 37, 126, 62]⟩ : ByteArray)[i]'hi).toNat : Int) != 42) = true) := by
    show ∀ i (hi : i < 10), i < 5 → _
    intro i hi hk
    have : ∀ j : Fin 10, j.val < 5 → ((((⟨#[43, 45, 58, 95, 36, 42, 35, 37, 126, 62]⟩ : ByteArray)[j.val]'j.isLt).toNat : Int) != 42) = true := by decide +kernel
    exact this ⟨i, hi⟩ hk
  have KAT : Hid (((((⟨#[43, 45, 58, 95, 36, 42, 35, 37, 126, 62]⟩ : ByteArray)[5]'(by decide)).toNat : Int) != 42) = false) := rfl
  have HN : Hid (∀ W, Calls Tryz.prog 34 #[.string T] W fun e w' => e = .returned (numT T.data.toList) ∧ Below W.heap.size W w') := fun W => refNumber_any T (by unfold maxLen; omega) W
  have HT : Hid (∀ W, Calls Tryz.prog 55 #[.int .u8 42, .string T, .bool half, .int .i64 D] W fun e w' => e = .returned (.int .i64 (cntE 42 T.data.toList half deep : Int)) ∧ Below W.heap.size W w') := fun W => rcount_42 T hTs half deep D hD W
  have HPE : Hid (partE 42 T.data.toList half deep = cntE 42 T.data.toList half deep) := rfl
  rw [hTl]
  clear hTl hm
  by_cases hT0 : T.size = 0
  · have te := str_empty hT0
    have htl : T.data.toList = [] := by rw [empty_str T hT0]
    have t2 : (T.toList == [45]) = false := by rw [ByteArray.toList_eq, htl]; rfl
    rw [htl] at HN HT ⊢
    rw [numT_none num_nil] at HN
    clear htl hT0
    cases half with
    | false =>
      have HE : Hid (partE 42 [] false deep = cntE 42 [] false deep) := rfl
      rw [HE.out]
      go_enter Tryz.func33, Tryz.ntmps33
      go_wp2
      go_loopw [8] (fun ci wr => ∃ i : Nat, (i ≤ 5 ∧ Below w.heap.size w wr) ∧ ci = .int .i64 (i : Int)) (fun ci _ => 5 - (intOf ci).toNat)
      case atStart => exact ⟨0, ⟨Nat.zero_le _, Below.refl _ _⟩, rfl⟩
      case round =>
        obtain ⟨i, ⟨hi, hbw⟩, rfl⟩ := hrel
        have HBW : Hid (Below w.heap.size w wr) := hbw
        clear hbw
        have hz0 : (0 : Int) ≤ (i : Int) := by omega
        have hz1 : (i : Int) < 10 := by omega
        have hi10 : i < 10 := by omega
        by_cases hlt : i < 5
        · have hq := KIN.out i (by omega) hlt
          have hz9 : (i : Int) < 10 := by omega
          go_wp2_with fail
          go_quiet (fail)
          go_wp2
          go_roundw
          case rel => exact ⟨i + 1, ⟨by omega, below_dn HBW.out nq⟩, rfl⟩
          case measure => simp [intOf]; omega
        · have hik : i = 5 := by omega
          subst hik
          have hq := KAT.out
          go_wp2_with fail
          go_quiet (fail)
          obtain ⟨W1, hW1⟩ : ∃ W1, wr.drewN nq = W1 := ⟨_, rfl⟩
          have HB1 : Hid (Below w.heap.size w W1) := by rw [← hW1]; exact below_dn HBW.out nq
          have HSZ : Hid (w.heap.size ≤ W1.heap.size) := HB1.out.size
          rw [hW1]
          clear hW1
          go_wp2_with fail
          refine (HN.out _).mono ?_
          rintro e w2 ⟨rfl, hb2⟩
          have HB2 : Hid (Below w.heap.size w w2) := HB1.out.trans (hb2.mono HSZ.out)
          clear hb2
          have HS2 : Hid (w.heap.size ≤ w2.heap.size) := HB2.out.size
          go_wp2_with fail
          refine (HT.out _).mono ?_
          rintro e w3 ⟨rfl, hb3⟩
          have HB3 : Hid (Below w.heap.size w w3) := HB2.out.trans (hb3.mono HS2.out)
          clear hb3
          go_wp2
          go_returns
          exact ⟨rfl, HB3.out⟩
    | true =>
      have HE : Hid (partE 42 [] true deep = cntE 42 [] true deep) := rfl
      rw [HE.out]
      go_enter Tryz.func33, Tryz.ntmps33
      go_wp2
      go_loopw [8] (fun ci wr => ∃ i : Nat, (i ≤ 5 ∧ Below w.heap.size w wr) ∧ ci = .int .i64 (i : Int)) (fun ci _ => 5 - (intOf ci).toNat)
      case atStart => exact ⟨0, ⟨Nat.zero_le _, Below.refl _ _⟩, rfl⟩
      case round =>
        obtain ⟨i, ⟨hi, hbw⟩, rfl⟩ := hrel
        have HBW : Hid (Below w.heap.size w wr) := hbw
        clear hbw
        have hz0 : (0 : Int) ≤ (i : Int) := by omega
        have hz1 : (i : Int) < 10 := by omega
        have hi10 : i < 10 := by omega
        by_cases hlt : i < 5
        · have hq := KIN.out i (by omega) hlt
          have hz9 : (i : Int) < 10 := by omega
          go_wp2_with fail
          go_quiet (fail)
          go_wp2
          go_roundw
          case rel => exact ⟨i + 1, ⟨by omega, below_dn HBW.out nq⟩, rfl⟩
          case measure => simp [intOf]; omega
        · have hik : i = 5 := by omega
          subst hik
          have hq := KAT.out
          go_wp2_with fail
          go_quiet (fail)
          obtain ⟨W1, hW1⟩ : ∃ W1, wr.drewN nq = W1 := ⟨_, rfl⟩
          have HB1 : Hid (Below w.heap.size w W1) := by rw [← hW1]; exact below_dn HBW.out nq
          have HSZ : Hid (w.heap.size ≤ W1.heap.size) := HB1.out.size
          rw [hW1]
          clear hW1
          go_wp2_with fail
          refine (HN.out _).mono ?_
          rintro e w2 ⟨rfl, hb2⟩
          have HB2 : Hid (Below w.heap.size w w2) := HB1.out.trans (hb2.mono HSZ.out)
          clear hb2
          have HS2 : Hid (w.heap.size ≤ w2.heap.size) := HB2.out.size
          go_wp2_with fail
          refine (HT.out _).mono ?_
          rintro e w3 ⟨rfl, hb3⟩
          have HB3 : Hid (Below w.heap.size w w3) := HB2.out.trans (hb3.mono HS2.out)
          clear hb3
          go_wp2
          go_returns
          exact ⟨rfl, HB3.out⟩
  have te := str_full hT0
  by_cases h2 : T.data.toList = [45]
  · have t2 : (T.toList == [45]) = true := by rw [ByteArray.toList_eq, h2]; rfl
    rw [h2] at HN HT ⊢
    rw [numT_none num_minus] at HN
    clear h2 hT0
    cases half with
    | false =>
      have HE : Hid (partE 42 [45] false deep = cntE 42 [45] false deep) := rfl
      rw [HE.out]
      go_enter Tryz.func33, Tryz.ntmps33
      go_wp2
      go_loopw [8] (fun ci wr => ∃ i : Nat, (i ≤ 5 ∧ Below w.heap.size w wr) ∧ ci = .int .i64 (i : Int)) (fun ci _ => 5 - (intOf ci).toNat)
      case atStart => exact ⟨0, ⟨Nat.zero_le _, Below.refl _ _⟩, rfl⟩
      case round =>
        obtain ⟨i, ⟨hi, hbw⟩, rfl⟩ := hrel
        have HBW : Hid (Below w.heap.size w wr) := hbw
        clear hbw
        have hz0 : (0 : Int) ≤ (i : Int) := by omega
        have hz1 : (i : Int) < 10 := by omega
        have hi10 : i < 10 := by omega
        by_cases hlt : i < 5
        · have hq := KIN.out i (by omega) hlt
          have hz9 : (i : Int) < 10 := by omega
          go_wp2_with fail
          go_quiet (fail)
          go_wp2
          go_roundw
          case rel => exact ⟨i + 1, ⟨by omega, below_dn HBW.out nq⟩, rfl⟩
          case measure => simp [intOf]; omega
        · have hik : i = 5 := by omega
          subst hik
          have hq := KAT.out
          go_wp2_with fail
          go_quiet (fail)
          obtain ⟨W1, hW1⟩ : ∃ W1, wr.drewN nq = W1 := ⟨_, rfl⟩
          have HB1 : Hid (Below w.heap.size w W1) := by rw [← hW1]; exact below_dn HBW.out nq
          have HSZ : Hid (w.heap.size ≤ W1.heap.size) := HB1.out.size
          rw [hW1]
          clear hW1
          go_wp2_with fail
          refine (HN.out _).mono ?_
          rintro e w2 ⟨rfl, hb2⟩
          have HB2 : Hid (Below w.heap.size w w2) := HB1.out.trans (hb2.mono HSZ.out)
          clear hb2
          have HS2 : Hid (w.heap.size ≤ w2.heap.size) := HB2.out.size
          go_wp2_with fail
          refine (HT.out _).mono ?_
          rintro e w3 ⟨rfl, hb3⟩
          have HB3 : Hid (Below w.heap.size w w3) := HB2.out.trans (hb3.mono HS2.out)
          clear hb3
          go_wp2
          go_returns
          exact ⟨rfl, HB3.out⟩
    | true =>
      have HE : Hid (partE 42 [45] true deep = cntE 42 [45] true deep) := rfl
      rw [HE.out]
      go_enter Tryz.func33, Tryz.ntmps33
      go_wp2
      go_loopw [8] (fun ci wr => ∃ i : Nat, (i ≤ 5 ∧ Below w.heap.size w wr) ∧ ci = .int .i64 (i : Int)) (fun ci _ => 5 - (intOf ci).toNat)
      case atStart => exact ⟨0, ⟨Nat.zero_le _, Below.refl _ _⟩, rfl⟩
      case round =>
        obtain ⟨i, ⟨hi, hbw⟩, rfl⟩ := hrel
        have HBW : Hid (Below w.heap.size w wr) := hbw
        clear hbw
        have hz0 : (0 : Int) ≤ (i : Int) := by omega
        have hz1 : (i : Int) < 10 := by omega
        have hi10 : i < 10 := by omega
        by_cases hlt : i < 5
        · have hq := KIN.out i (by omega) hlt
          have hz9 : (i : Int) < 10 := by omega
          go_wp2_with fail
          go_quiet (fail)
          go_wp2
          go_roundw
          case rel => exact ⟨i + 1, ⟨by omega, below_dn HBW.out nq⟩, rfl⟩
          case measure => simp [intOf]; omega
        · have hik : i = 5 := by omega
          subst hik
          have hq := KAT.out
          go_wp2_with fail
          go_quiet (fail)
          obtain ⟨W1, hW1⟩ : ∃ W1, wr.drewN nq = W1 := ⟨_, rfl⟩
          have HB1 : Hid (Below w.heap.size w W1) := by rw [← hW1]; exact below_dn HBW.out nq
          have HSZ : Hid (w.heap.size ≤ W1.heap.size) := HB1.out.size
          rw [hW1]
          clear hW1
          go_wp2_with fail
          refine (HN.out _).mono ?_
          rintro e w2 ⟨rfl, hb2⟩
          have HB2 : Hid (Below w.heap.size w w2) := HB1.out.trans (hb2.mono HSZ.out)
          clear hb2
          have HS2 : Hid (w.heap.size ≤ w2.heap.size) := HB2.out.size
          go_wp2_with fail
          refine (HT.out _).mono ?_
          rintro e w3 ⟨rfl, hb3⟩
          have HB3 : Hid (Below w.heap.size w w3) := HB2.out.trans (hb3.mono HS2.out)
          clear hb3
          go_wp2
          go_returns
          exact ⟨rfl, HB3.out⟩
  have t2 : (T.toList == [45]) = false := by rw [ByteArray.toList_eq]; simpa using h2
  have h3 : T.data.toList ≠ [] := fun e => by rw [ByteArray.toList_eq, e] at te; cases te
  generalize T.data.toList = tl at *
  cases hn : numberOf tl with
  | none =>
    rw [numT_none hn] at HN
    cases half with
    | false =>
      have HE : Hid (partE 42 tl false deep = cntE 42 tl false deep) := rfl
      clear h2 h3 hn
      rw [HE.out]
      go_enter Tryz.func33, Tryz.ntmps33
      go_wp2
      go_loopw [8] (fun ci wr => ∃ i : Nat, (i ≤ 5 ∧ Below w.heap.size w wr) ∧ ci = .int .i64 (i : Int)) (fun ci _ => 5 - (intOf ci).toNat)
      case atStart => exact ⟨0, ⟨Nat.zero_le _, Below.refl _ _⟩, rfl⟩
      case round =>
        obtain ⟨i, ⟨hi, hbw⟩, rfl⟩ := hrel
        have HBW : Hid (Below w.heap.size w wr) := hbw
        clear hbw
        have hz0 : (0 : Int) ≤ (i : Int) := by omega
        have hz1 : (i : Int) < 10 := by omega
        have hi10 : i < 10 := by omega
        by_cases hlt : i < 5
        · have hq := KIN.out i (by omega) hlt
          have hz9 : (i : Int) < 10 := by omega
          go_wp2_with fail
          go_quiet (fail)
          go_wp2
          go_roundw
          case rel => exact ⟨i + 1, ⟨by omega, below_dn HBW.out nq⟩, rfl⟩
          case measure => simp [intOf]; omega
        · have hik : i = 5 := by omega
          subst hik
          have hq := KAT.out
          go_wp2_with fail
          go_quiet (fail)
          obtain ⟨W1, hW1⟩ : ∃ W1, wr.drewN nq = W1 := ⟨_, rfl⟩
          have HB1 : Hid (Below w.heap.size w W1) := by rw [← hW1]; exact below_dn HBW.out nq
          have HSZ : Hid (w.heap.size ≤ W1.heap.size) := HB1.out.size
          rw [hW1]
          clear hW1
          go_wp2_with fail
          refine (HN.out _).mono ?_
          rintro e w2 ⟨rfl, hb2⟩
          have HB2 : Hid (Below w.heap.size w w2) := HB1.out.trans (hb2.mono HSZ.out)
          clear hb2
          have HS2 : Hid (w.heap.size ≤ w2.heap.size) := HB2.out.size
          go_wp2_with fail
          refine (HT.out _).mono ?_
          rintro e w3 ⟨rfl, hb3⟩
          have HB3 : Hid (Below w.heap.size w w3) := HB2.out.trans (hb3.mono HS2.out)
          clear hb3
          go_wp2
          go_returns
          exact ⟨rfl, HB3.out⟩
    | true =>
      have HE : Hid (partE 42 tl true deep = cntE 42 tl true deep) := rfl
      clear h2 h3 hn
      rw [HE.out]
      go_enter Tryz.func33, Tryz.ntmps33
      go_wp2
      go_loopw [8] (fun ci wr => ∃ i : Nat, (i ≤ 5 ∧ Below w.heap.size w wr) ∧ ci = .int .i64 (i : Int)) (fun ci _ => 5 - (intOf ci).toNat)
      case atStart => exact ⟨0, ⟨Nat.zero_le _, Below.refl _ _⟩, rfl⟩
      case round =>
        obtain ⟨i, ⟨hi, hbw⟩, rfl⟩ := hrel
        have HBW : Hid (Below w.heap.size w wr) := hbw
        clear hbw
        have hz0 : (0 : Int) ≤ (i : Int) := by omega
        have hz1 : (i : Int) < 10 := by omega
        have hi10 : i < 10 := by omega
        by_cases hlt : i < 5
        · have hq := KIN.out i (by omega) hlt
          have hz9 : (i : Int) < 10 := by omega
          go_wp2_with fail
          go_quiet (fail)
          go_wp2
          go_roundw
          case rel => exact ⟨i + 1, ⟨by omega, below_dn HBW.out nq⟩, rfl⟩
          case measure => simp [intOf]; omega
        · have hik : i = 5 := by omega
          subst hik
          have hq := KAT.out
          go_wp2_with fail
          go_quiet (fail)
          obtain ⟨W1, hW1⟩ : ∃ W1, wr.drewN nq = W1 := ⟨_, rfl⟩
          have HB1 : Hid (Below w.heap.size w W1) := by rw [← hW1]; exact below_dn HBW.out nq
          have HSZ : Hid (w.heap.size ≤ W1.heap.size) := HB1.out.size
          rw [hW1]
          clear hW1
          go_wp2_with fail
          refine (HN.out _).mono ?_
          rintro e w2 ⟨rfl, hb2⟩
          have HB2 : Hid (Below w.heap.size w w2) := HB1.out.trans (hb2.mono HSZ.out)
          clear hb2
          have HS2 : Hid (w.heap.size ≤ w2.heap.size) := HB2.out.size
          go_wp2_with fail
          refine (HT.out _).mono ?_
          rintro e w3 ⟨rfl, hb3⟩
          have HB3 : Hid (Below w.heap.size w w3) := HB2.out.trans (hb3.mono HS2.out)
          clear hb3
          go_wp2
          go_returns
          exact ⟨rfl, HB3.out⟩
  | some n =>
    rw [numT_some hn] at HN
    cases half with
    | false =>
      have HE : Hid (partE 42 tl false deep = cntE 42 tl false deep) := rfl
      clear h2 h3 hn
      rw [HE.out]
      go_enter Tryz.func33, Tryz.ntmps33
      go_wp2
      go_loopw [8] (fun ci wr => ∃ i : Nat, (i ≤ 5 ∧ Below w.heap.size w wr) ∧ ci = .int .i64 (i : Int)) (fun ci _ => 5 - (intOf ci).toNat)
      case atStart => exact ⟨0, ⟨Nat.zero_le _, Below.refl _ _⟩, rfl⟩
      case round =>
        obtain ⟨i, ⟨hi, hbw⟩, rfl⟩ := hrel
        have HBW : Hid (Below w.heap.size w wr) := hbw
        clear hbw
        have hz0 : (0 : Int) ≤ (i : Int) := by omega
        have hz1 : (i : Int) < 10 := by omega
        have hi10 : i < 10 := by omega
        by_cases hlt : i < 5
        · have hq := KIN.out i (by omega) hlt
          have hz9 : (i : Int) < 10 := by omega
          go_wp2_with fail
          go_quiet (fail)
          go_wp2
          go_roundw
          case rel => exact ⟨i + 1, ⟨by omega, below_dn HBW.out nq⟩, rfl⟩
          case measure => simp [intOf]; omega
        · have hik : i = 5 := by omega
          subst hik
          have hq := KAT.out
          go_wp2_with fail
          go_quiet (fail)
          obtain ⟨W1, hW1⟩ : ∃ W1, wr.drewN nq = W1 := ⟨_, rfl⟩
          have HB1 : Hid (Below w.heap.size w W1) := by rw [← hW1]; exact below_dn HBW.out nq
          have HSZ : Hid (w.heap.size ≤ W1.heap.size) := HB1.out.size
          rw [hW1]
          clear hW1
          go_wp2_with fail
          refine (HN.out _).mono ?_
          rintro e w2 ⟨rfl, hb2⟩
          have HB2 : Hid (Below w.heap.size w w2) := HB1.out.trans (hb2.mono HSZ.out)
          clear hb2
          have HS2 : Hid (w.heap.size ≤ w2.heap.size) := HB2.out.size
          go_wp2_with fail
          refine (HT.out _).mono ?_
          rintro e w3 ⟨rfl, hb3⟩
          have HB3 : Hid (Below w.heap.size w w3) := HB2.out.trans (hb3.mono HS2.out)
          clear hb3
          go_wp2
          go_returns
          exact ⟨rfl, HB3.out⟩
    | true =>
      have HE : Hid (partE 42 tl true deep = cntE 42 tl true deep) := rfl
      clear h2 h3 hn
      rw [HE.out]
      go_enter Tryz.func33, Tryz.ntmps33
      go_wp2
      go_loopw [8] (fun ci wr => ∃ i : Nat, (i ≤ 5 ∧ Below w.heap.size w wr) ∧ ci = .int .i64 (i : Int)) (fun ci _ => 5 - (intOf ci).toNat)
      case atStart => exact ⟨0, ⟨Nat.zero_le _, Below.refl _ _⟩, rfl⟩
      case round =>
        obtain ⟨i, ⟨hi, hbw⟩, rfl⟩ := hrel
        have HBW : Hid (Below w.heap.size w wr) := hbw
        clear hbw
        have hz0 : (0 : Int) ≤ (i : Int) := by omega
        have hz1 : (i : Int) < 10 := by omega
        have hi10 : i < 10 := by omega
        by_cases hlt : i < 5
        · have hq := KIN.out i (by omega) hlt
          have hz9 : (i : Int) < 10 := by omega
          go_wp2_with fail
          go_quiet (fail)
          go_wp2
          go_roundw
          case rel => exact ⟨i + 1, ⟨by omega, below_dn HBW.out nq⟩, rfl⟩
          case measure => simp [intOf]; omega
        · have hik : i = 5 := by omega
          subst hik
          have hq := KAT.out
          go_wp2_with fail
          go_quiet (fail)
          obtain ⟨W1, hW1⟩ : ∃ W1, wr.drewN nq = W1 := ⟨_, rfl⟩
          have HB1 : Hid (Below w.heap.size w W1) := by rw [← hW1]; exact below_dn HBW.out nq
          have HSZ : Hid (w.heap.size ≤ W1.heap.size) := HB1.out.size
          rw [hW1]
          clear hW1
          go_wp2_with fail
          refine (HN.out _).mono ?_
          rintro e w2 ⟨rfl, hb2⟩
          have HB2 : Hid (Below w.heap.size w w2) := HB1.out.trans (hb2.mono HSZ.out)
          clear hb2
          have HS2 : Hid (w.heap.size ≤ w2.heap.size) := HB2.out.size
          go_wp2_with fail
          refine (HT.out _).mono ?_
          rintro e w3 ⟨rfl, hb3⟩
          have HB3 : Hid (Below w.heap.size w w3) := HB2.out.trans (hb3.mono HS2.out)
          clear hb3
          go_wp2
          go_returns
          exact ⟨rfl, HB3.out⟩
end Go.Proofs.YtnfbaeajalnmmaaGreatDoor
