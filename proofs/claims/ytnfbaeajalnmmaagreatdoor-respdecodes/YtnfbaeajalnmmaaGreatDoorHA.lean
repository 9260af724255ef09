import Derived.Test.YtnfbaeajalnmmaaGreatDoorHP
namespace Go.Proofs.YtnfbaeajalnmmaaGreatDoor
open Go.RowKit Vi
set_option linter.unusedVariables false
set_option linter.unusedSimpArgs false
set_option maxHeartbeats 8000000 in
set_option maxRecDepth 20000 in
/-- a line of no kind. -/
theorem rpart_no (l : ByteArray) (hs : l.size ≤ 281474976710656) (h0 : 0 < l.size) (c : UInt8) (hm : l[0] = c) (hno : ∀ m ∈ ([43, 45, 58, 95, 36, 42, 35, 37, 126, 62] : List UInt8), c ≠ m) (half : Bool) (D : Int) (w : World) :
    Calls Tryz.prog 33 #[.string l, .bool half, .int .i64 D] w fun e w' => e = .returned (.int .i64 120) ∧ Below w.heap.size w w' := by
  have hle : l.toList.isEmpty = false := str_full (by omega)
  have hm0 : (l[0].toNat : Int) = (c.toNat : Int) := by rw [hm]
  have hz : (0 : Int) < (l.size : Int) := by omega
  have KIN : Hid (∀ i (hi : i < 10), i < 10 → ((((⟨#[43, 45, 58, 95, 36, 42, 35, 37, 126, 62]⟩ : ByteArray)[i]'hi).toNat : Int) != (c.toNat : Int)) = true) := by
    show ∀ i (hi : i < 10), i < 10 → _
    intro i hi hk
    have hmem : (⟨#[43, 45, 58, 95, 36, 42, 35, 37, 126, 62]⟩ : ByteArray)[i]'hi ∈ ([43, 45, 58, 95, 36, 42, 35, 37, 126, 62] : List UInt8) := by
      have : ∀ j : Fin 10, (⟨#[43, 45, 58, 95, 36, 42, 35, 37, 126, 62]⟩ : ByteArray)[j.val]'j.isLt ∈ ([43, 45, 58, 95, 36, 42, 35, 37, 126, 62] : List UInt8) := by decide +kernel
      exact this ⟨i, hi⟩
    have := hno _ hmem
    simp only [bne_iff_ne, ne_eq]
    intro e
    exact this (UInt8.toNat_inj.1 (by omega))
  clear hm hno
  have HE : Hid (True) := trivial
  go_enter Tryz.func33, Tryz.ntmps33
  go_wp2
  go_loopw [8] (fun ci wr => ∃ i : Nat, (i ≤ 10 ∧ Below w.heap.size w wr) ∧ ci = .int .i64 (i : Int)) (fun ci _ => 10 - (intOf ci).toNat)
  case atStart => exact ⟨0, ⟨Nat.zero_le _, Below.refl _ _⟩, rfl⟩
  case round =>
    obtain ⟨i, ⟨hi, hbw⟩, rfl⟩ := hrel
    have HBW : Hid (Below w.heap.size w wr) := hbw
    clear hbw
    have hz0 : (0 : Int) ≤ (i : Int) := by omega
    by_cases hlt : i < 10
    · have hq := KIN.out i (by omega) hlt
      have hz9 : (i : Int) < 10 := by omega
      go_wp2_with fail
      go_quiet (fail)
      go_wp2
      go_roundw
      case rel => exact ⟨i + 1, ⟨by omega, below_dn HBW.out nq⟩, rfl⟩
      case measure => simp [intOf]; omega
    · have hik : i = 10 := by omega
      subst hik
      go_wp2_with fail
      go_quiet (fail)
      obtain ⟨W1, hW1⟩ : ∃ W1, wr.drewN nq = W1 := ⟨_, rfl⟩
      have HB1 : Hid (Below w.heap.size w W1) := by rw [← hW1]; exact below_dn HBW.out nq
      have HSZ : Hid (w.heap.size ≤ W1.heap.size) := HB1.out.size
      rw [hW1]
      clear hW1
      go_wp2
      go_returns
      exact ⟨rfl, HB1.out⟩
set_option maxHeartbeats 8000000 in
set_option maxRecDepth 20000 in
theorem rpart_nil (half : Bool) (D : Int) (w : World) :
    Calls Tryz.prog 33 #[.string ⟨#[]⟩, .bool half, .int .i64 D] w fun e w' => e = .returned (.int .i64 120) ∧ Below w.heap.size w w' := by
  go_enter Tryz.func33, Tryz.ntmps33
  go_wp2
  go_loopw [8] (fun ci wr => ∃ i : Nat, (i ≤ 10 ∧ Below w.heap.size w wr) ∧ ci = .int .i64 (i : Int)) (fun ci _ => 10 - (intOf ci).toNat)
  case atStart => exact ⟨0, ⟨Nat.zero_le _, Below.refl _ _⟩, rfl⟩
  case round =>
    obtain ⟨i, ⟨hi, hbw⟩, rfl⟩ := hrel
    have HBW : Hid (Below w.heap.size w wr) := hbw
    clear hbw
    have hz0 : (0 : Int) ≤ (i : Int) := by omega
    by_cases hlt : i < 10
    · have hz9 : (i : Int) < 10 := by omega
      go_wp2_with fail
      go_quiet (fail)
      go_wp2
      go_roundw
      case rel => exact ⟨i + 1, ⟨by omega, below_dn HBW.out nq⟩, rfl⟩
      case measure => simp [intOf]; omega
    · have hik : i = 10 := by omega
      subst hik
      go_wp2_with fail
      go_quiet (fail)
      obtain ⟨W1, hW1⟩ : ∃ W1, wr.drewN nq = W1 := ⟨_, rfl⟩
      have HB1 : Hid (Below w.heap.size w W1) := by rw [← hW1]; exact below_dn HBW.out nq
      have HSZ : Hid (w.heap.size ≤ W1.heap.size) := HB1.out.size
      rw [hW1]
      clear hW1
      go_wp2
      go_returns
      exact ⟨rfl, HB1.out⟩
end Go.Proofs.YtnfbaeajalnmmaaGreatDoor
namespace Go.Proofs.YtnfbaeajalnmmaaGreatDoor
open Go.RowKit Vi
set_option linter.unusedVariables false
set_option linter.unusedSimpArgs false
set_option maxHeartbeats 8000000 in
set_option maxRecDepth 20000 in
theorem rpart_43 (l : ByteArray) (hs : l.size ≤ 281474976710656) (h0 : 0 < l.size) (hm : l[0] = 43) (half deep : Bool) (D : Int) (hD : decide (D ≤ 32) = !deep) (w : World) :
    Calls Tryz.prog 33 #[.string l, .bool half, .int .i64 D] w fun e w' => e = .returned (.int .i64 (partE 43 (l.data.toList.drop 1) half deep : Int)) ∧ Below w.heap.size w w' := by
  have hle : l.toList.isEmpty = false := str_full (by omega)
  have hm0 : (l[0].toNat : Int) = 43 := by rw [hm]; rfl
  have hz : (0 : Int) < (l.size : Int) := by omega
  have h1s : (1 : Int) ≤ (l.size : Int) := by omega
  obtain ⟨T, hT⟩ : ∃ T, l.extract 1 l.size = T := ⟨_, rfl⟩
  have hTl : l.data.toList.drop 1 = T.data.toList := by rw [← hT]; exact (rest_list l 1 (by omega)).symm
  have hTs : T.size ≤ 281474976710656 := by rw [← hT, ext_size _ _ _ (Nat.le_refl _)]; omega
  have KIN : Hid (∀ i (hi : i < 10), i < 0 → ((((⟨#[43, 45, 58, 95, 36, 42, 35, 37, 126, 62]⟩ : ByteArray)[i]'hi).toNat : Int) != 43) = true) := by
    show ∀ i (hi : i < 10), i < 0 → _
    intro i hi hk
    have : ∀ j : Fin 10, j.val < 0 → ((((⟨#[43, 45, 58, 95, 36, 42, 35, 37, 126, 62]⟩ : ByteArray)[j.val]'j.isLt).toNat : Int) != 43) = true := by decide +kernel
    exact this ⟨i, hi⟩ hk
  have KAT : Hid (((((⟨#[43, 45, 58, 95, 36, 42, 35, 37, 126, 62]⟩ : ByteArray)[0]'(by decide)).toNat : Int) != 43) = false) := rfl
  have HN : Hid (∀ W, Calls Tryz.prog 34 #[.string T] W fun e w' => e = .returned (numT T.data.toList) ∧ Below W.heap.size W w') := fun W => refNumber_any T (by unfold maxLen; omega) W
  rw [hTl]
  clear hTl hm
  by_cases hT0 : T.size = 0
  · have te := str_empty hT0
    have htl : T.data.toList = [] := by rw [empty_str T hT0]
    have t2 : (T.toList == [45]) = false := by rw [ByteArray.toList_eq, htl]; rfl
    rw [htl] at HN  ⊢
    rw [numT_none num_nil] at HN
    clear htl hT0
    cases half with
    | false =>
      have HE : Hid (partE 43 [] false deep = 20) := by
        show _ = _
        unfold partE; simp [num_nil]
      rw [HE.out]
      go_enter Tryz.func33, Tryz.ntmps33
      go_wp2
      go_loopw [8] (fun ci wr => ∃ i : Nat, (i ≤ 0 ∧ Below w.heap.size w wr) ∧ ci = .int .i64 (i : Int)) (fun ci _ => 0 - (intOf ci).toNat)
      case atStart => exact ⟨0, ⟨Nat.zero_le _, Below.refl _ _⟩, rfl⟩
      case round =>
        obtain ⟨i, ⟨hi, hbw⟩, rfl⟩ := hrel
        have HBW : Hid (Below w.heap.size w wr) := hbw
        clear hbw
        have hz0 : (0 : Int) ≤ (i : Int) := by omega
        have hz1 : (i : Int) < 10 := by omega
        have hi10 : i < 10 := by omega
        by_cases hlt : i < 0
        · have hq := KIN.out i (by omega) hlt
          have hz9 : (i : Int) < 10 := by omega
          go_wp2_with fail
          go_quiet (fail)
          go_wp2
          go_roundw
          case rel => exact ⟨i + 1, ⟨by omega, below_dn HBW.out nq⟩, rfl⟩
          case measure => simp [intOf]; omega
        · have hik : i = 0 := by omega
          subst hik
          have hq := KAT.out
          go_wp2_with fail
          go_quiet (fail)
          obtain ⟨W1, hW1⟩ : ∃ W1, wr.drewN nq = W1 := ⟨_, rfl⟩
          have HB1 : Hid (Below w.heap.size w W1) := by rw [← hW1]; exact below_dn HBW.out nq
          have HSZ : Hid (w.heap.size ≤ W1.heap.size) := HB1.out.size
          rw [hW1]
          clear hW1
          go_wp2_with fail
          refine (HN.out _).mono ?_
          rintro e w2 ⟨rfl, hb2⟩
          have HB2 : Hid (Below w.heap.size w w2) := HB1.out.trans (hb2.mono HSZ.out)
          clear hb2
          go_wp2
          go_returns
          exact ⟨rfl, HB2.out⟩
    | true =>
      have HE : Hid (partE 43 [] true deep = 20) := by
        show _ = _
        unfold partE; simp [num_nil]
      rw [HE.out]
      go_enter Tryz.func33, Tryz.ntmps33
      go_wp2
      go_loopw [8] (fun ci wr => ∃ i : Nat, (i ≤ 0 ∧ Below w.heap.size w wr) ∧ ci = .int .i64 (i : Int)) (fun ci _ => 0 - (intOf ci).toNat)
      case atStart => exact ⟨0, ⟨Nat.zero_le _, Below.refl _ _⟩, rfl⟩
      case round =>
        obtain ⟨i, ⟨hi, hbw⟩, rfl⟩ := hrel
        have HBW : Hid (Below w.heap.size w wr) := hbw
        clear hbw
        have hz0 : (0 : Int) ≤ (i : Int) := by omega
        have hz1 : (i : Int) < 10 := by omega
        have hi10 : i < 10 := by omega
        by_cases hlt : i < 0
        · have hq := KIN.out i (by omega) hlt
          have hz9 : (i : Int) < 10 := by omega
          go_wp2_with fail
          go_quiet (fail)
          go_wp2
          go_roundw
          case rel => exact ⟨i + 1, ⟨by omega, below_dn HBW.out nq⟩, rfl⟩
          case measure => simp [intOf]; omega
        · have hik : i = 0 := by omega
          subst hik
          have hq := KAT.out
          go_wp2_with fail
          go_quiet (fail)
          obtain ⟨W1, hW1⟩ : ∃ W1, wr.drewN nq = W1 := ⟨_, rfl⟩
          have HB1 : Hid (Below w.heap.size w W1) := by rw [← hW1]; exact below_dn HBW.out nq
          have HSZ : Hid (w.heap.size ≤ W1.heap.size) := HB1.out.size
          rw [hW1]
          clear hW1
          go_wp2_with fail
          refine (HN.out _).mono ?_
          rintro e w2 ⟨rfl, hb2⟩
          have HB2 : Hid (Below w.heap.size w w2) := HB1.out.trans (hb2.mono HSZ.out)
          clear hb2
          go_wp2
          go_returns
          exact ⟨rfl, HB2.out⟩
  have te := str_full hT0
  by_cases h2 : T.data.toList = [45]
  · have t2 : (T.toList == [45]) = true := by rw [ByteArray.toList_eq, h2]; rfl
    rw [h2] at HN  ⊢
    rw [numT_none num_minus] at HN
    clear h2 hT0
    cases half with
    | false =>
      have HE : Hid (partE 43 [45] false deep = 20) := by
        show _ = _
        unfold partE; simp [num_minus]
      rw [HE.out]
      go_enter Tryz.func33, Tryz.ntmps33
      go_wp2
      go_loopw [8] (fun ci wr => ∃ i : Nat, (i ≤ 0 ∧ Below w.heap.size w wr) ∧ ci = .int .i64 (i : Int)) (fun ci _ => 0 - (intOf ci).toNat)
      case atStart => exact ⟨0, ⟨Nat.zero_le _, Below.refl _ _⟩, rfl⟩
      case round =>
        obtain ⟨i, ⟨hi, hbw⟩, rfl⟩ := hrel
        have HBW : Hid (Below w.heap.size w wr) := hbw
        clear hbw
        have hz0 : (0 : Int) ≤ (i : Int) := by omega
        have hz1 : (i : Int) < 10 := by omega
        have hi10 : i < 10 := by omega
        by_cases hlt : i < 0
        · have hq := KIN.out i (by omega) hlt
          have hz9 : (i : Int) < 10 := by omega
          go_wp2_with fail
          go_quiet (fail)
          go_wp2
          go_roundw
          case rel => exact ⟨i + 1, ⟨by omega, below_dn HBW.out nq⟩, rfl⟩
          case measure => simp [intOf]; omega
        · have hik : i = 0 := by omega
          subst hik
          have hq := KAT.out
          go_wp2_with fail
          go_quiet (fail)
          obtain ⟨W1, hW1⟩ : ∃ W1, wr.drewN nq = W1 := ⟨_, rfl⟩
          have HB1 : Hid (Below w.heap.size w W1) := by rw [← hW1]; exact below_dn HBW.out nq
          have HSZ : Hid (w.heap.size ≤ W1.heap.size) := HB1.out.size
          rw [hW1]
          clear hW1
          go_wp2_with fail
          refine (HN.out _).mono ?_
          rintro e w2 ⟨rfl, hb2⟩
          have HB2 : Hid (Below w.heap.size w w2) := HB1.out.trans (hb2.mono HSZ.out)
          clear hb2
          go_wp2
          go_returns
          exact ⟨rfl, HB2.out⟩
    | true =>
      have HE : Hid (partE 43 [45] true deep = 20) := by
        show _ = _
        unfold partE; simp [num_minus]
      rw [HE.out]
      go_enter Tryz.func33, Tryz.ntmps33
      go_wp2
      go_loopw [8] (fun ci wr => ∃ i : Nat, (i ≤ 0 ∧ Below w.heap.size w wr) ∧ ci = .int .i64 (i : Int)) (fun ci _ => 0 - (intOf ci).toNat)
      case atStart => exact ⟨0, ⟨Nat.zero_le _, Below.refl _ _⟩, rfl⟩
      case round =>
        obtain ⟨i, ⟨hi, hbw⟩, rfl⟩ := hrel
        have HBW : Hid (Below w.heap.size w wr) := hbw
        clear hbw
        have hz0 : (0 : Int) ≤ (i : Int) := by omega
        have hz1 : (i : Int) < 10 := by omega
        have hi10 : i < 10 := by omega
        by_cases hlt : i < 0
        · have hq := KIN.out i (by omega) hlt
          have hz9 : (i : Int) < 10 := by omega
          go_wp2_with fail
          go_quiet (fail)
          go_wp2
          go_roundw
          case rel => exact ⟨i + 1, ⟨by omega, below_dn HBW.out nq⟩, rfl⟩
          case measure => simp [intOf]; omega
        · have hik : i = 0 := by omega
          subst hik
          have hq := KAT.out
          go_wp2_with fail
          go_quiet (fail)
          obtain ⟨W1, hW1⟩ : ∃ W1, wr.drewN nq = W1 := ⟨_, rfl⟩
          have HB1 : Hid (Below w.heap.size w W1) := by rw [← hW1]; exact below_dn HBW.out nq
          have HSZ : Hid (w.heap.size ≤ W1.heap.size) := HB1.out.size
          rw [hW1]
          clear hW1
          go_wp2_with fail
          refine (HN.out _).mono ?_
          rintro e w2 ⟨rfl, hb2⟩
          have HB2 : Hid (Below w.heap.size w w2) := HB1.out.trans (hb2.mono HSZ.out)
          clear hb2
          go_wp2
          go_returns
          exact ⟨rfl, HB2.out⟩
  have t2 : (T.toList == [45]) = false := by rw [ByteArray.toList_eq]; simpa using h2
  have h3 : T.data.toList ≠ [] := fun e => by rw [ByteArray.toList_eq, e] at te; cases te
  generalize T.data.toList = tl at *
  cases hn : numberOf tl with
  | none =>
    rw [numT_none hn] at HN
    cases half with
    | false =>
      have HE : Hid (partE 43 tl false deep = 20) := by show _ = _; unfold partE; simp []
      clear h2 h3 hn
      rw [HE.out]
      go_enter Tryz.func33, Tryz.ntmps33
      go_wp2
      go_loopw [8] (fun ci wr => ∃ i : Nat, (i ≤ 0 ∧ Below w.heap.size w wr) ∧ ci = .int .i64 (i : Int)) (fun ci _ => 0 - (intOf ci).toNat)
      case atStart => exact ⟨0, ⟨Nat.zero_le _, Below.refl _ _⟩, rfl⟩
      case round =>
        obtain ⟨i, ⟨hi, hbw⟩, rfl⟩ := hrel
        have HBW : Hid (Below w.heap.size w wr) := hbw
        clear hbw
        have hz0 : (0 : Int) ≤ (i : Int) := by omega
        have hz1 : (i : Int) < 10 := by omega
        have hi10 : i < 10 := by omega
        by_cases hlt : i < 0
        · have hq := KIN.out i (by omega) hlt
          have hz9 : (i : Int) < 10 := by omega
          go_wp2_with fail
          go_quiet (fail)
          go_wp2
          go_roundw
          case rel => exact ⟨i + 1, ⟨by omega, below_dn HBW.out nq⟩, rfl⟩
          case measure => simp [intOf]; omega
        · have hik : i = 0 := by omega
          subst hik
          have hq := KAT.out
          go_wp2_with fail
          go_quiet (fail)
          obtain ⟨W1, hW1⟩ : ∃ W1, wr.drewN nq = W1 := ⟨_, rfl⟩
          have HB1 : Hid (Below w.heap.size w W1) := by rw [← hW1]; exact below_dn HBW.out nq
          have HSZ : Hid (w.heap.size ≤ W1.heap.size) := HB1.out.size
          rw [hW1]
          clear hW1
          go_wp2_with fail
          refine (HN.out _).mono ?_
          rintro e w2 ⟨rfl, hb2⟩
          have HB2 : Hid (Below w.heap.size w w2) := HB1.out.trans (hb2.mono HSZ.out)
          clear hb2
          go_wp2
          go_returns
          exact ⟨rfl, HB2.out⟩
    | true =>
      have HE : Hid (partE 43 tl true deep = 20) := by show _ = _; unfold partE; simp []
      clear h2 h3 hn
      rw [HE.out]
      go_enter Tryz.func33, Tryz.ntmps33
      go_wp2
      go_loopw [8] (fun ci wr => ∃ i : Nat, (i ≤ 0 ∧ Below w.heap.size w wr) ∧ ci = .int .i64 (i : Int)) (fun ci _ => 0 - (intOf ci).toNat)
      case atStart => exact ⟨0, ⟨Nat.zero_le _, Below.refl _ _⟩, rfl⟩
      case round =>
        obtain ⟨i, ⟨hi, hbw⟩, rfl⟩ := hrel
        have HBW : Hid (Below w.heap.size w wr) := hbw
        clear hbw
        have hz0 : (0 : Int) ≤ (i : Int) := by omega
        have hz1 : (i : Int) < 10 := by omega
        have hi10 : i < 10 := by omega
        by_cases hlt : i < 0
        · have hq := KIN.out i (by omega) hlt
          have hz9 : (i : Int) < 10 := by omega
          go_wp2_with fail
          go_quiet (fail)
          go_wp2
          go_roundw
          case rel => exact ⟨i + 1, ⟨by omega, below_dn HBW.out nq⟩, rfl⟩
          case measure => simp [intOf]; omega
        · have hik : i = 0 := by omega
          subst hik
          have hq := KAT.out
          go_wp2_with fail
          go_quiet (fail)
          obtain ⟨W1, hW1⟩ : ∃ W1, wr.drewN nq = W1 := ⟨_, rfl⟩
          have HB1 : Hid (Below w.heap.size w W1) := by rw [← hW1]; exact below_dn HBW.out nq
          have HSZ : Hid (w.heap.size ≤ W1.heap.size) := HB1.out.size
          rw [hW1]
          clear hW1
          go_wp2_with fail
          refine (HN.out _).mono ?_
          rintro e w2 ⟨rfl, hb2⟩
          have HB2 : Hid (Below w.heap.size w w2) := HB1.out.trans (hb2.mono HSZ.out)
          clear hb2
          go_wp2
          go_returns
          exact ⟨rfl, HB2.out⟩
  | some n =>
    rw [numT_some hn] at HN
    cases half with
    | false =>
      have HE : Hid (partE 43 tl false deep = 20) := by show _ = _; unfold partE; simp []
      clear h2 h3 hn
      rw [HE.out]
      go_enter Tryz.func33, Tryz.ntmps33
      go_wp2
      go_loopw [8] (fun ci wr => ∃ i : Nat, (i ≤ 0 ∧ Below w.heap.size w wr) ∧ ci = .int .i64 (i : Int)) (fun ci _ => 0 - (intOf ci).toNat)
      case atStart => exact ⟨0, ⟨Nat.zero_le _, Below.refl _ _⟩, rfl⟩
      case round =>
        obtain ⟨i, ⟨hi, hbw⟩, rfl⟩ := hrel
        have HBW : Hid (Below w.heap.size w wr) := hbw
        clear hbw
        have hz0 : (0 : Int) ≤ (i : Int) := by omega
        have hz1 : (i : Int) < 10 := by omega
        have hi10 : i < 10 := by omega
        by_cases hlt : i < 0
        · have hq := KIN.out i (by omega) hlt
          have hz9 : (i : Int) < 10 := by omega
          go_wp2_with fail
          go_quiet (fail)
          go_wp2
          go_roundw
          case rel => exact ⟨i + 1, ⟨by omega, below_dn HBW.out nq⟩, rfl⟩
          case measure => simp [intOf]; omega
        · have hik : i = 0 := by omega
          subst hik
          have hq := KAT.out
          go_wp2_with fail
          go_quiet (fail)
          obtain ⟨W1, hW1⟩ : ∃ W1, wr.drewN nq = W1 := ⟨_, rfl⟩
          have HB1 : Hid (Below w.heap.size w W1) := by rw [← hW1]; exact below_dn HBW.out nq
          have HSZ : Hid (w.heap.size ≤ W1.heap.size) := HB1.out.size
          rw [hW1]
          clear hW1
          go_wp2_with fail
          refine (HN.out _).mono ?_
          rintro e w2 ⟨rfl, hb2⟩
          have HB2 : Hid (Below w.heap.size w w2) := HB1.out.trans (hb2.mono HSZ.out)
          clear hb2
          go_wp2
          go_returns
          exact ⟨rfl, HB2.out⟩
    | true =>
      have HE : Hid (partE 43 tl true deep = 20) := by show _ = _; unfold partE; simp []
      clear h2 h3 hn
      rw [HE.out]
      go_enter Tryz.func33, Tryz.ntmps33
      go_wp2
      go_loopw [8] (fun ci wr => ∃ i : Nat, (i ≤ 0 ∧ Below w.heap.size w wr) ∧ ci = .int .i64 (i : Int)) (fun ci _ => 0 - (intOf ci).toNat)
      case atStart => exact ⟨0, ⟨Nat.zero_le _, Below.refl _ _⟩, rfl⟩
      case round =>
        obtain ⟨i, ⟨hi, hbw⟩, rfl⟩ := hrel
        have HBW : Hid (Below w.heap.size w wr) := hbw
        clear hbw
        have hz0 : (0 : Int) ≤ (i : Int) := by omega
        have hz1 : (i : Int) < 10 := by omega
        have hi10 : i < 10 := by omega
        by_cases hlt : i < 0
        · have hq := KIN.out i (by omega) hlt
          have hz9 : (i : Int) < 10 := by omega
          go_wp2_with fail
          go_quiet (fail)
          go_wp2
          go_roundw
          case rel => exact ⟨i + 1, ⟨by omega, below_dn HBW.out nq⟩, rfl⟩
          case measure => simp [intOf]; omega
        · have hik : i = 0 := by omega
          subst hik
          have hq := KAT.out
          go_wp2_with fail
          go_quiet (fail)
          obtain ⟨W1, hW1⟩ : ∃ W1, wr.drewN nq = W1 := ⟨_, rfl⟩
          have HB1 : Hid (Below w.heap.size w W1) := by rw [← hW1]; exact below_dn HBW.out nq
          have HSZ : Hid (w.heap.size ≤ W1.heap.size) := HB1.out.size
          rw [hW1]
          clear hW1
          go_wp2_with fail
          refine (HN.out _).mono ?_
          rintro e w2 ⟨rfl, hb2⟩
          have HB2 : Hid (Below w.heap.size w w2) := HB1.out.trans (hb2.mono HSZ.out)
          clear hb2
          go_wp2
          go_returns
          exact ⟨rfl, HB2.out⟩
end Go.Proofs.YtnfbaeajalnmmaaGreatDoor
namespace Go.Proofs.YtnfbaeajalnmmaaGreatDoor
open Go.RowKit Vi
set_option linter.unusedVariables false
set_option linter.unusedSimpArgs false
set_option maxHeartbeats 8000000 in
set_option maxRecDepth 20000 in
theorem rpart_45 (l : ByteArray) (hs : l.size ≤ 281474976710656) (h0 : 0 < l.size) (hm : l[0] = 45) (half deep : Bool) (D : Int) (hD : decide (D ≤ 32) = !deep) (w : World) :
    Calls Tryz.prog 33 #[.string l, .bool half, .int .i64 D] w fun e w' => e = .returned (.int .i64 (partE 45 (l.data.toList.drop 1) half deep : Int)) ∧ Below w.heap.size w w' := by
  have hle : l.toList.isEmpty = false := str_full (by omega)
  have hm0 : (l[0].toNat : Int) = 45 := by rw [hm]; rfl
  have hz : (0 : Int) < (l.size : Int) := by omega
  have h1s : (1 : Int) ≤ (l.size : Int) := by omega
  obtain ⟨T, hT⟩ : ∃ T, l.extract 1 l.size = T := ⟨_, rfl⟩
  have hTl : l.data.toList.drop 1 = T.data.toList := by rw [← hT]; exact (rest_list l 1 (by omega)).symm
  have hTs : T.size ≤ 281474976710656 := by rw [← hT, ext_size _ _ _ (Nat.le_refl _)]; omega
  have KIN : Hid (∀ i (hi : i < 10), i < 1 → ((((⟨#[43, 45, 58, 95, 36, 42, 35, 37, 126, 62]⟩ : ByteArray)[i]'hi).toNat : Int) != 45) = true) := by
    show ∀ i (hi : i < 10), i < 1 → _
    intro i hi hk
    have : ∀ j : Fin 10, j.val < 1 → ((((⟨#[43, 45, 58, 95, 36, 42, 35, 37, 126, 62]⟩ : ByteArray)[j.val]'j.isLt).toNat : Int) != 45) = true := by decide +kernel
    exact this ⟨i, hi⟩ hk
  have KAT : Hid (((((⟨#[43, 45, 58, 95, 36, 42, 35, 37, 126, 62]⟩ : ByteArray)[1]'(by decide)).toNat : Int) != 45) = false) := rfl
  have HN : Hid (∀ W, Calls Tryz.prog 34 #[.string T] W fun e w' => e = .returned (numT T.data.toList) ∧ Below W.heap.size W w') := fun W => refNumber_any T (by unfold maxLen; omega) W
  rw [hTl]
  clear hTl hm
  by_cases hT0 : T.size = 0
  · have te := str_empty hT0
    have htl : T.data.toList = [] := by rw [empty_str T hT0]
    have t2 : (T.toList == [45]) = false := by rw [ByteArray.toList_eq, htl]; rfl
    rw [htl] at HN  ⊢
    rw [numT_none num_nil] at HN
    clear htl hT0
    cases half with
    | false =>
      have HE : Hid (partE 45 [] false deep = 20) := by
        show _ = _
        unfold partE; simp [num_nil]
      rw [HE.out]
      go_enter Tryz.func33, Tryz.ntmps33
      go_wp2
      go_loopw [8] (fun ci wr => ∃ i : Nat, (i ≤ 1 ∧ Below w.heap.size w wr) ∧ ci = .int .i64 (i : Int)) (fun ci _ => 1 - (intOf ci).toNat)
      case atStart => exact ⟨0, ⟨Nat.zero_le _, Below.refl _ _⟩, rfl⟩
      case round =>
        obtain ⟨i, ⟨hi, hbw⟩, rfl⟩ := hrel
        have HBW : Hid (Below w.heap.size w wr) := hbw
        clear hbw
        have hz0 : (0 : Int) ≤ (i : Int) := by omega
        have hz1 : (i : Int) < 10 := by omega
        have hi10 : i < 10 := by omega
        by_cases hlt : i < 1
        · have hq := KIN.out i (by omega) hlt
          have hz9 : (i : Int) < 10 := by omega
          go_wp2_with fail
          go_quiet (fail)
          go_wp2
          go_roundw
          case rel => exact ⟨i + 1, ⟨by omega, below_dn HBW.out nq⟩, rfl⟩
          case measure => simp [intOf]; omega
        · have hik : i = 1 := by omega
          subst hik
          have hq := KAT.out
          go_wp2_with fail
          go_quiet (fail)
          obtain ⟨W1, hW1⟩ : ∃ W1, wr.drewN nq = W1 := ⟨_, rfl⟩
          have HB1 : Hid (Below w.heap.size w W1) := by rw [← hW1]; exact below_dn HBW.out nq
          have HSZ : Hid (w.heap.size ≤ W1.heap.size) := HB1.out.size
          rw [hW1]
          clear hW1
          go_wp2_with fail
          refine (HN.out _).mono ?_
          rintro e w2 ⟨rfl, hb2⟩
          have HB2 : Hid (Below w.heap.size w w2) := HB1.out.trans (hb2.mono HSZ.out)
          clear hb2
          go_wp2
          go_returns
          exact ⟨rfl, HB2.out⟩
    | true =>
      have HE : Hid (partE 45 [] true deep = 20) := by
        show _ = _
        unfold partE; simp [num_nil]
      rw [HE.out]
      go_enter Tryz.func33, Tryz.ntmps33
      go_wp2
      go_loopw [8] (fun ci wr => ∃ i : Nat, (i ≤ 1 ∧ Below w.heap.size w wr) ∧ ci = .int .i64 (i : Int)) (fun ci _ => 1 - (intOf ci).toNat)
      case atStart => exact ⟨0, ⟨Nat.zero_le _, Below.refl _ _⟩, rfl⟩
      case round =>
        obtain ⟨i, ⟨hi, hbw⟩, rfl⟩ := hrel
        have HBW : Hid (Below w.heap.size w wr) := hbw
        clear hbw
        have hz0 : (0 : Int) ≤ (i : Int) := by omega
        have hz1 : (i : Int) < 10 := by omega
        have hi10 : i < 10 := by omega
        by_cases hlt : i < 1
        · have hq := KIN.out i (by omega) hlt
          have hz9 : (i : Int) < 10 := by omega
          go_wp2_with fail
          go_quiet (fail)
          go_wp2
          go_roundw
          case rel => exact ⟨i + 1, ⟨by omega, below_dn HBW.out nq⟩, rfl⟩
          case measure => simp [intOf]; omega
        · have hik : i = 1 := by omega
          subst hik
          have hq := KAT.out
          go_wp2_with fail
          go_quiet (fail)
          obtain ⟨W1, hW1⟩ : ∃ W1, wr.drewN nq = W1 := ⟨_, rfl⟩
          have HB1 : Hid (Below w.heap.size w W1) := by rw [← hW1]; exact below_dn HBW.out nq
          have HSZ : Hid (w.heap.size ≤ W1.heap.size) := HB1.out.size
          rw [hW1]
          clear hW1
          go_wp2_with fail
          refine (HN.out _).mono ?_
          rintro e w2 ⟨rfl, hb2⟩
          have HB2 : Hid (Below w.heap.size w w2) := HB1.out.trans (hb2.mono HSZ.out)
          clear hb2
          go_wp2
          go_returns
          exact ⟨rfl, HB2.out⟩
  have te := str_full hT0
  by_cases h2 : T.data.toList = [45]
  · have t2 : (T.toList == [45]) = true := by rw [ByteArray.toList_eq, h2]; rfl
    rw [h2] at HN  ⊢
    rw [numT_none num_minus] at HN
    clear h2 hT0
    cases half with
    | false =>
      have HE : Hid (partE 45 [45] false deep = 20) := by
        show _ = _
        unfold partE; simp [num_minus]
      rw [HE.out]
      go_enter Tryz.func33, Tryz.ntmps33
      go_wp2
      go_loopw [8] (fun ci wr => ∃ i : Nat, (i ≤ 1 ∧ Below w.heap.size w wr) ∧ ci = .int .i64 (i : Int)) (fun ci _ => 1 - (intOf ci).toNat)
      case atStart => exact ⟨0, ⟨Nat.zero_le _, Below.refl _ _⟩, rfl⟩
      case round =>
        obtain ⟨i, ⟨hi, hbw⟩, rfl⟩ := hrel
        have HBW : Hid (Below w.heap.size w wr) := hbw
        clear hbw
        have hz0 : (0 : Int) ≤ (i : Int) := by omega
        have hz1 : (i : Int) < 10 := by omega
        have hi10 : i < 10 := by omega
        by_cases hlt : i < 1
        · have hq := KIN.out i (by omega) hlt
          have hz9 : (i : Int) < 10 := by omega
          go_wp2_with fail
          go_quiet (fail)
          go_wp2
          go_roundw
          case rel => exact ⟨i + 1, ⟨by omega, below_dn HBW.out nq⟩, rfl⟩
          case measure => simp [intOf]; omega
        · have hik : i = 1 := by omega
          subst hik
          have hq := KAT.out
          go_wp2_with fail
          go_quiet (fail)
          obtain ⟨W1, hW1⟩ : ∃ W1, wr.drewN nq = W1 := ⟨_, rfl⟩
          have HB1 : Hid (Below w.heap.size w W1) := by rw [← hW1]; exact below_dn HBW.out nq
          have HSZ : Hid (w.heap.size ≤ W1.heap.size) := HB1.out.size
          rw [hW1]
          clear hW1
          go_wp2_with fail
          refine (HN.out _).mono ?_
          rintro e w2 ⟨rfl, hb2⟩
          have HB2 : Hid (Below w.heap.size w w2) := HB1.out.trans (hb2.mono HSZ.out)
          clear hb2
          go_wp2
          go_returns
          exact ⟨rfl, HB2.out⟩
    | true =>
      have HE : Hid (partE 45 [45] true deep = 20) := by
        show _ = _
        unfold partE; simp [num_minus]
      rw [HE.out]
      go_enter Tryz.func33, Tryz.ntmps33
      go_wp2
      go_loopw [8] (fun ci wr => ∃ i : Nat, (i ≤ 1 ∧ Below w.heap.size w wr) ∧ ci = .int .i64 (i : Int)) (fun ci _ => 1 - (intOf ci).toNat)
      case atStart => exact ⟨0, ⟨Nat.zero_le _, Below.refl _ _⟩, rfl⟩
      case round =>
        obtain ⟨i, ⟨hi, hbw⟩, rfl⟩ := hrel
        have HBW : Hid (Below w.heap.size w wr) := hbw
        clear hbw
        have hz0 : (0 : Int) ≤ (i : Int) := by omega
        have hz1 : (i : Int) < 10 := by omega
        have hi10 : i < 10 := by omega
        by_cases hlt : i < 1
        · have hq := KIN.out i (by omega) hlt
          have hz9 : (i : Int) < 10 := by omega
          go_wp2_with fail
          go_quiet (fail)
          go_wp2
          go_roundw
          case rel => exact ⟨i + 1, ⟨by omega, below_dn HBW.out nq⟩, rfl⟩
          case measure => simp [intOf]; omega
        · have hik : i = 1 := by omega
          subst hik
          have hq := KAT.out
          go_wp2_with fail
          go_quiet (fail)
          obtain ⟨W1, hW1⟩ : ∃ W1, wr.drewN nq = W1 := ⟨_, rfl⟩
          have HB1 : Hid (Below w.heap.size w W1) := by rw [← hW1]; exact below_dn HBW.out nq
          have HSZ : Hid (w.heap.size ≤ W1.heap.size) := HB1.out.size
          rw [hW1]
          clear hW1
          go_wp2_with fail
          refine (HN.out _).mono ?_
          rintro e w2 ⟨rfl, hb2⟩
          have HB2 : Hid (Below w.heap.size w w2) := HB1.out.trans (hb2.mono HSZ.out)
          clear hb2
          go_wp2
          go_returns
          exact ⟨rfl, HB2.out⟩
  have t2 : (T.toList == [45]) = false := by rw [ByteArray.toList_eq]; simpa using h2
  have h3 : T.data.toList ≠ [] := fun e => by rw [ByteArray.toList_eq, e] at te; cases te
  generalize T.data.toList = tl at *
  cases hn : numberOf tl with
  | none =>
    rw [numT_none hn] at HN
    cases half with
    | false =>
      have HE : Hid (partE 45 tl false deep = 20) := by show _ = _; unfold partE; simp []
      clear h2 h3 hn
      rw [HE.out]
      go_enter Tryz.func33, Tryz.ntmps33
      go_wp2
      go_loopw [8] (fun ci wr => ∃ i : Nat, (i ≤ 1 ∧ Below w.heap.size w wr) ∧ ci = .int .i64 (i : Int)) (fun ci _ => 1 - (intOf ci).toNat)
      case atStart => exact ⟨0, ⟨Nat.zero_le _, Below.refl _ _⟩, rfl⟩
      case round =>
        obtain ⟨i, ⟨hi, hbw⟩, rfl⟩ := hrel
        have HBW : Hid (Below w.heap.size w wr) := hbw
        clear hbw
        have hz0 : (0 : Int) ≤ (i : Int) := by omega
        have hz1 : (i : Int) < 10 := by omega
        have hi10 : i < 10 := by omega
        by_cases hlt : i < 1
        · have hq := KIN.out i (by omega) hlt
          have hz9 : (i : Int) < 10 := by omega
          go_wp2_with fail
          go_quiet (fail)
          go_wp2
          go_roundw
          case rel => exact ⟨i + 1, ⟨by omega, below_dn HBW.out nq⟩, rfl⟩
          case measure => simp [intOf]; omega
        · have hik : i = 1 := by omega
          subst hik
          have hq := KAT.out
          go_wp2_with fail
          go_quiet (fail)
          obtain ⟨W1, hW1⟩ : ∃ W1, wr.drewN nq = W1 := ⟨_, rfl⟩
          have HB1 : Hid (Below w.heap.size w W1) := by rw [← hW1]; exact below_dn HBW.out nq
          have HSZ : Hid (w.heap.size ≤ W1.heap.size) := HB1.out.size
          rw [hW1]
          clear hW1
          go_wp2_with fail
          refine (HN.out _).mono ?_
          rintro e w2 ⟨rfl, hb2⟩
          have HB2 : Hid (Below w.heap.size w w2) := HB1.out.trans (hb2.mono HSZ.out)
          clear hb2
          go_wp2
          go_returns
          exact ⟨rfl, HB2.out⟩
    | true =>
      have HE : Hid (partE 45 tl true deep = 20) := by show _ = _; unfold partE; simp []
      clear h2 h3 hn
      rw [HE.out]
      go_enter Tryz.func33, Tryz.ntmps33
      go_wp2
      go_loopw [8] (fun ci wr => ∃ i : Nat, (i ≤ 1 ∧ Below w.heap.size w wr) ∧ ci = .int .i64 (i : Int)) (fun ci _ => 1 - (intOf ci).toNat)
      case atStart => exact ⟨0, ⟨Nat.zero_le _, Below.refl _ _⟩, rfl⟩
      case round =>
        obtain ⟨i, ⟨hi, hbw⟩, rfl⟩ := hrel
        have HBW : Hid (Below w.heap.size w wr) := hbw
        clear hbw
        have hz0 : (0 : Int) ≤ (i : Int) := by omega
        have hz1 : (i : Int) < 10 := by omega
        have hi10 : i < 10 := by omega
        by_cases hlt : i < 1
        · have hq := KIN.out i (by omega) hlt
          have hz9 : (i : Int) < 10 := by omega
          go_wp2_with fail
          go_quiet (fail)
          go_wp2
          go_roundw
          case rel => exact ⟨i + 1, ⟨by omega, below_dn HBW.out nq⟩, rfl⟩
          case measure => simp [intOf]; omega
        · have hik : i = 1 := by omega
          subst hik
          have hq := KAT.out
          go_wp2_with fail
          go_quiet (fail)
          obtain ⟨W1, hW1⟩ : ∃ W1, wr.drewN nq = W1 := ⟨_, rfl⟩
          have HB1 : Hid (Below w.heap.size w W1) := by rw [← hW1]; exact below_dn HBW.out nq
          have HSZ : Hid (w.heap.size ≤ W1.heap.size) := HB1.out.size
          rw [hW1]
          clear hW1
          go_wp2_with fail
          refine (HN.out _).mono ?_
          rintro e w2 ⟨rfl, hb2⟩
          have HB2 : Hid (Below w.heap.size w w2) := HB1.out.trans (hb2.mono HSZ.out)
          clear hb2
          go_wp2
          go_returns
          exact ⟨rfl, HB2.out⟩
  | some n =>
    rw [numT_some hn] at HN
    cases half with
    | false =>
      have HE : Hid (partE 45 tl false deep = 20) := by show _ = _; unfold partE; simp []
      clear h2 h3 hn
      rw [HE.out]
      go_enter Tryz.func33, Tryz.ntmps33
      go_wp2
      go_loopw [8] (fun ci wr => ∃ i : Nat, (i ≤ 1 ∧ Below w.heap.size w wr) ∧ ci = .int .i64 (i : Int)) (fun ci _ => 1 - (intOf ci).toNat)
      case atStart => exact ⟨0, ⟨Nat.zero_le _, Below.refl _ _⟩, rfl⟩
      case round =>
        obtain ⟨i, ⟨hi, hbw⟩, rfl⟩ := hrel
        have HBW : Hid (Below w.heap.size w wr) := hbw
        clear hbw
        have hz0 : (0 : Int) ≤ (i : Int) := by omega
        have hz1 : (i : Int) < 10 := by omega
        have hi10 : i < 10 := by omega
        by_cases hlt : i < 1
        · have hq := KIN.out i (by omega) hlt
          have hz9 : (i : Int) < 10 := by omega
          go_wp2_with fail
          go_quiet (fail)
          go_wp2
          go_roundw
          case rel => exact ⟨i + 1, ⟨by omega, below_dn HBW.out nq⟩, rfl⟩
          case measure => simp [intOf]; omega
        · have hik : i = 1 := by omega
          subst hik
          have hq := KAT.out
          go_wp2_with fail
          go_quiet (fail)
          obtain ⟨W1, hW1⟩ : ∃ W1, wr.drewN nq = W1 := ⟨_, rfl⟩
          have HB1 : Hid (Below w.heap.size w W1) := by rw [← hW1]; exact below_dn HBW.out nq
          have HSZ : Hid (w.heap.size ≤ W1.heap.size) := HB1.out.size
          rw [hW1]
          clear hW1
          go_wp2_with fail
          refine (HN.out _).mono ?_
          rintro e w2 ⟨rfl, hb2⟩
          have HB2 : Hid (Below w.heap.size w w2) := HB1.out.trans (hb2.mono HSZ.out)
          clear hb2
          go_wp2
          go_returns
          exact ⟨rfl, HB2.out⟩
    | true =>
      have HE : Hid (partE 45 tl true deep = 20) := by show _ = _; unfold partE; simp []
      clear h2 h3 hn
      rw [HE.out]
      go_enter Tryz.func33, Tryz.ntmps33
      go_wp2
      go_loopw [8] (fun ci wr => ∃ i : Nat, (i ≤ 1 ∧ Below w.heap.size w wr) ∧ ci = .int .i64 (i : Int)) (fun ci _ => 1 - (intOf ci).toNat)
      case atStart => exact ⟨0, ⟨Nat.zero_le _, Below.refl _ _⟩, rfl⟩
      case round =>
        obtain ⟨i, ⟨hi, hbw⟩, rfl⟩ := hrel
        have HBW : Hid (Below w.heap.size w wr) := hbw
        clear hbw
        have hz0 : (0 : Int) ≤ (i : Int) := by omega
        have hz1 : (i : Int) < 10 := by omega
        have hi10 : i < 10 := by omega
        by_cases hlt : i < 1
        · have hq := KIN.out i (by omega) hlt
          have hz9 : (i : Int) < 10 := by omega
          go_wp2_with fail
          go_quiet (fail)
          go_wp2
          go_roundw
          case rel => exact ⟨i + 1, ⟨by omega, below_dn HBW.out nq⟩, rfl⟩
          case measure => simp [intOf]; omega
        · have hik : i = 1 := by omega
          subst hik
          have hq := KAT.out
          go_wp2_with fail
          go_quiet (fail)
          obtain ⟨W1, hW1⟩ : ∃ W1, wr.drewN nq = W1 := ⟨_, rfl⟩
          have HB1 : Hid (Below w.heap.size w W1) := by rw [← hW1]; exact below_dn HBW.out nq
          have HSZ : Hid (w.heap.size ≤ W1.heap.size) := HB1.out.size
          rw [hW1]
          clear hW1
          go_wp2_with fail
          refine (HN.out _).mono ?_
          rintro e w2 ⟨rfl, hb2⟩
          have HB2 : Hid (Below w.heap.size w w2) := HB1.out.trans (hb2.mono HSZ.out)
          clear hb2
          go_wp2
          go_returns
          exact ⟨rfl, HB2.out⟩
end Go.Proofs.YtnfbaeajalnmmaaGreatDoor
namespace Go.Proofs.YtnfbaeajalnmmaaGreatDoor
open Go.RowKit Vi
set_option linter.unusedVariables false
set_option linter.unusedSimpArgs false
set_option maxHeartbeats 8000000 in
set_option maxRecDepth 20000 in
theorem rpart_58 (l : ByteArray) (hs : l.size ≤ 281474976710656) (h0 : 0 < l.size) (hm : l[0] = 58) (half deep : Bool) (D : Int) (hD : decide (D ≤ 32) = !deep) (w : World) :
    Calls Tryz.prog 33 #[.string l, .bool half, .int .i64 D] w fun e w' => e = .returned (.int .i64 (partE 58 (l.data.toList.drop 1) half deep : Int)) ∧ Below w.heap.size w w' := by
  have hle : l.toList.isEmpty = false := str_full (by omega)
  have hm0 : (l[0].toNat : Int) = 58 := by rw [hm]; rfl
  have hz : (0 : Int) < (l.size : Int) := by omega
  have h1s : (1 : Int) ≤ (l.size : Int) := by omega
  obtain ⟨T, hT⟩ : ∃ T, l.extract 1 l.size = T := ⟨_, rfl⟩
  have hTl : l.data.toList.drop 1 = T.data.toList := by rw [← hT]; exact (rest_list l 1 (by omega)).symm
  have hTs : T.size ≤ 281474976710656 := by rw [← hT, ext_size _ _ _ (Nat.le_refl _)]; omega
  have KIN : Hid (∀ i (hi : i < 10), i < 2 → ((((⟨#[43, 45, 58, 95, 36, 42, 35, 37, 126, 62]⟩ : ByteArray)[i]'hi).toNat : Int) != 58) = true) := by
    show ∀ i (hi : i < 10), i < 2 → _
    intro i hi hk
    have : ∀ j : Fin 10, j.val < 2 → ((((⟨#[43, 45, 58, 95, 36, 42, 35, 37, 126, 62]⟩ : ByteArray)[j.val]'j.isLt).toNat : Int) != 58) = true := by decide +kernel
    exact this ⟨i, hi⟩ hk
  have KAT : Hid (((((⟨#[43, 45, 58, 95, 36, 42, 35, 37, 126, 62]⟩ : ByteArray)[2]'(by decide)).toNat : Int) != 58) = false) := rfl
  have HN : Hid (∀ W, Calls Tryz.prog 34 #[.string T] W fun e w' => e = .returned (numT T.data.toList) ∧ Below W.heap.size W w') := fun W => refNumber_any T (by unfold maxLen; omega) W
  have HT : Hid (∀ W, Calls Tryz.prog 54 #[.string T] W fun e w' => e = .returned (.bool (decide (T.data.toList = [] ∨ T.data.toList = [45] ∨ (numberOf T.data.toList).isSome = true))) ∧ Below W.heap.size W w') := fun W => rbegins_any T hTs W
  rw [hTl]
  clear hTl hm
  by_cases hT0 : T.size = 0
  · have te := str_empty hT0
    have htl : T.data.toList = [] := by rw [empty_str T hT0]
    have t2 : (T.toList == [45]) = false := by rw [ByteArray.toList_eq, htl]; rfl
    rw [htl] at HN HT ⊢
    rw [numT_none num_nil] at HN
    clear htl hT0
    cases half with
    | false =>
      have HE : Hid (partE 58 [] false deep = 20) := by
        show _ = _
        unfold partE; simp [num_nil]
      rw [HE.out]
      go_enter Tryz.func33, Tryz.ntmps33
      go_wp2
      go_loopw [8] (fun ci wr => ∃ i : Nat, (i ≤ 2 ∧ Below w.heap.size w wr) ∧ ci = .int .i64 (i : Int)) (fun ci _ => 2 - (intOf ci).toNat)
      case atStart => exact ⟨0, ⟨Nat.zero_le _, Below.refl _ _⟩, rfl⟩
      case round =>
        obtain ⟨i, ⟨hi, hbw⟩, rfl⟩ := hrel
        have HBW : Hid (Below w.heap.size w wr) := hbw
        clear hbw
        have hz0 : (0 : Int) ≤ (i : Int) := by omega
        have hz1 : (i : Int) < 10 := by omega
        have hi10 : i < 10 := by omega
        by_cases hlt : i < 2
        · have hq := KIN.out i (by omega) hlt
          have hz9 : (i : Int) < 10 := by omega
          go_wp2_with fail
          go_quiet (fail)
          go_wp2
          go_roundw
          case rel => exact ⟨i + 1, ⟨by omega, below_dn HBW.out nq⟩, rfl⟩
          case measure => simp [intOf]; omega
        · have hik : i = 2 := by omega
          subst hik
          have hq := KAT.out
          go_wp2_with fail
          go_quiet (fail)
          obtain ⟨W1, hW1⟩ : ∃ W1, wr.drewN nq = W1 := ⟨_, rfl⟩
          have HB1 : Hid (Below w.heap.size w W1) := by rw [← hW1]; exact below_dn HBW.out nq
          have HSZ : Hid (w.heap.size ≤ W1.heap.size) := HB1.out.size
          rw [hW1]
          clear hW1
          go_wp2_with fail
          refine (HN.out _).mono ?_
          rintro e w2 ⟨rfl, hb2⟩
          have HB2 : Hid (Below w.heap.size w w2) := HB1.out.trans (hb2.mono HSZ.out)
          clear hb2
          go_wp2
          go_returns
          exact ⟨rfl, HB2.out⟩
    | true =>
      have HE : Hid (partE 58 [] true deep = 120) := by
        show _ = _
        unfold partE; simp [num_nil]
      rw [HE.out]
      go_enter Tryz.func33, Tryz.ntmps33
      go_wp2
      go_loopw [8] (fun ci wr => ∃ i : Nat, (i ≤ 2 ∧ Below w.heap.size w wr) ∧ ci = .int .i64 (i : Int)) (fun ci _ => 2 - (intOf ci).toNat)
      case atStart => exact ⟨0, ⟨Nat.zero_le _, Below.refl _ _⟩, rfl⟩
      case round =>
        obtain ⟨i, ⟨hi, hbw⟩, rfl⟩ := hrel
        have HBW : Hid (Below w.heap.size w wr) := hbw
        clear hbw
        have hz0 : (0 : Int) ≤ (i : Int) := by omega
        have hz1 : (i : Int) < 10 := by omega
        have hi10 : i < 10 := by omega
        by_cases hlt : i < 2
        · have hq := KIN.out i (by omega) hlt
          have hz9 : (i : Int) < 10 := by omega
          go_wp2_with fail
          go_quiet (fail)
          go_wp2
          go_roundw
          case rel => exact ⟨i + 1, ⟨by omega, below_dn HBW.out nq⟩, rfl⟩
          case measure => simp [intOf]; omega
        · have hik : i = 2 := by omega
          subst hik
          have hq := KAT.out
          go_wp2_with fail
          go_quiet (fail)
          obtain ⟨W1, hW1⟩ : ∃ W1, wr.drewN nq = W1 := ⟨_, rfl⟩
          have HB1 : Hid (Below w.heap.size w W1) := by rw [← hW1]; exact below_dn HBW.out nq
          have HSZ : Hid (w.heap.size ≤ W1.heap.size) := HB1.out.size
          rw [hW1]
          clear hW1
          go_wp2_with fail
          refine (HN.out _).mono ?_
          rintro e w2 ⟨rfl, hb2⟩
          have HB2 : Hid (Below w.heap.size w w2) := HB1.out.trans (hb2.mono HSZ.out)
          clear hb2
          go_wp2
          go_returns
          exact ⟨rfl, HB2.out⟩
  have te := str_full hT0
  by_cases h2 : T.data.toList = [45]
  · have t2 : (T.toList == [45]) = true := by rw [ByteArray.toList_eq, h2]; rfl
    rw [h2] at HN HT ⊢
    rw [numT_none num_minus] at HN
    clear h2 hT0
    cases half with
    | false =>
      have HE : Hid (partE 58 [45] false deep = 20) := by
        show _ = _
        unfold partE; simp [num_minus]
      rw [HE.out]
      go_enter Tryz.func33, Tryz.ntmps33
      go_wp2
      go_loopw [8] (fun ci wr => ∃ i : Nat, (i ≤ 2 ∧ Below w.heap.size w wr) ∧ ci = .int .i64 (i : Int)) (fun ci _ => 2 - (intOf ci).toNat)
      case atStart => exact ⟨0, ⟨Nat.zero_le _, Below.refl _ _⟩, rfl⟩
      case round =>
        obtain ⟨i, ⟨hi, hbw⟩, rfl⟩ := hrel
        have HBW : Hid (Below w.heap.size w wr) := hbw
        clear hbw
        have hz0 : (0 : Int) ≤ (i : Int) := by omega
        have hz1 : (i : Int) < 10 := by omega
        have hi10 : i < 10 := by omega
        by_cases hlt : i < 2
        · have hq := KIN.out i (by omega) hlt
          have hz9 : (i : Int) < 10 := by omega
          go_wp2_with fail
          go_quiet (fail)
          go_wp2
          go_roundw
          case rel => exact ⟨i + 1, ⟨by omega, below_dn HBW.out nq⟩, rfl⟩
          case measure => simp [intOf]; omega
        · have hik : i = 2 := by omega
          subst hik
          have hq := KAT.out
          go_wp2_with fail
          go_quiet (fail)
          obtain ⟨W1, hW1⟩ : ∃ W1, wr.drewN nq = W1 := ⟨_, rfl⟩
          have HB1 : Hid (Below w.heap.size w W1) := by rw [← hW1]; exact below_dn HBW.out nq
          have HSZ : Hid (w.heap.size ≤ W1.heap.size) := HB1.out.size
          rw [hW1]
          clear hW1
          go_wp2_with fail
          refine (HN.out _).mono ?_
          rintro e w2 ⟨rfl, hb2⟩
          have HB2 : Hid (Below w.heap.size w w2) := HB1.out.trans (hb2.mono HSZ.out)
          clear hb2
          go_wp2
          go_returns
          exact ⟨rfl, HB2.out⟩
    | true =>
      have HE : Hid (partE 58 [45] true deep = 120) := by
        show _ = _
        unfold partE; simp [num_minus]
      rw [HE.out]
      go_enter Tryz.func33, Tryz.ntmps33
      go_wp2
      go_loopw [8] (fun ci wr => ∃ i : Nat, (i ≤ 2 ∧ Below w.heap.size w wr) ∧ ci = .int .i64 (i : Int)) (fun ci _ => 2 - (intOf ci).toNat)
      case atStart => exact ⟨0, ⟨Nat.zero_le _, Below.refl _ _⟩, rfl⟩
      case round =>
        obtain ⟨i, ⟨hi, hbw⟩, rfl⟩ := hrel
        have HBW : Hid (Below w.heap.size w wr) := hbw
        clear hbw
        have hz0 : (0 : Int) ≤ (i : Int) := by omega
        have hz1 : (i : Int) < 10 := by omega
        have hi10 : i < 10 := by omega
        by_cases hlt : i < 2
        · have hq := KIN.out i (by omega) hlt
          have hz9 : (i : Int) < 10 := by omega
          go_wp2_with fail
          go_quiet (fail)
          go_wp2
          go_roundw
          case rel => exact ⟨i + 1, ⟨by omega, below_dn HBW.out nq⟩, rfl⟩
          case measure => simp [intOf]; omega
        · have hik : i = 2 := by omega
          subst hik
          have hq := KAT.out
          go_wp2_with fail
          go_quiet (fail)
          obtain ⟨W1, hW1⟩ : ∃ W1, wr.drewN nq = W1 := ⟨_, rfl⟩
          have HB1 : Hid (Below w.heap.size w W1) := by rw [← hW1]; exact below_dn HBW.out nq
          have HSZ : Hid (w.heap.size ≤ W1.heap.size) := HB1.out.size
          rw [hW1]
          clear hW1
          go_wp2_with fail
          refine (HN.out _).mono ?_
          rintro e w2 ⟨rfl, hb2⟩
          have HB2 : Hid (Below w.heap.size w w2) := HB1.out.trans (hb2.mono HSZ.out)
          clear hb2
          go_wp2
          go_returns
          exact ⟨rfl, HB2.out⟩
  have t2 : (T.toList == [45]) = false := by rw [ByteArray.toList_eq]; simpa using h2
  have h3 : T.data.toList ≠ [] := fun e => by rw [ByteArray.toList_eq, e] at te; cases te
  generalize T.data.toList = tl at *
  cases hn : numberOf tl with
  | none =>
    rw [numT_none hn] at HN
    have HT2 : Hid (∀ W, Calls Tryz.prog 54 #[.string T] W fun e w' => e = .returned (.bool false) ∧ Below W.heap.size W w') := fun W => by
      have h9 := HT.out W
      rw [show decide (tl = [] ∨ tl = [45] ∨ (numberOf tl).isSome = true) = false from dec_f (by rw [hn]; rintro (h | h | h); exact h3 h; exact h2 h; cases h)] at h9
      exact h9
    clear HT
    have HT := HT2
    cases half with
    | false =>
      have HE : Hid (partE 58 tl false deep = 120) := by show _ = _; unfold partE; simp [hn, h3, h2]
      clear h2 h3 hn
      rw [HE.out]
      go_enter Tryz.func33, Tryz.ntmps33
      go_wp2
      go_loopw [8] (fun ci wr => ∃ i : Nat, (i ≤ 2 ∧ Below w.heap.size w wr) ∧ ci = .int .i64 (i : Int)) (fun ci _ => 2 - (intOf ci).toNat)
      case atStart => exact ⟨0, ⟨Nat.zero_le _, Below.refl _ _⟩, rfl⟩
      case round =>
        obtain ⟨i, ⟨hi, hbw⟩, rfl⟩ := hrel
        have HBW : Hid (Below w.heap.size w wr) := hbw
        clear hbw
        have hz0 : (0 : Int) ≤ (i : Int) := by omega
        have hz1 : (i : Int) < 10 := by omega
        have hi10 : i < 10 := by omega
        by_cases hlt : i < 2
        · have hq := KIN.out i (by omega) hlt
          have hz9 : (i : Int) < 10 := by omega
          go_wp2_with fail
          go_quiet (fail)
          go_wp2
          go_roundw
          case rel => exact ⟨i + 1, ⟨by omega, below_dn HBW.out nq⟩, rfl⟩
          case measure => simp [intOf]; omega
        · have hik : i = 2 := by omega
          subst hik
          have hq := KAT.out
          go_wp2_with fail
          go_quiet (fail)
          obtain ⟨W1, hW1⟩ : ∃ W1, wr.drewN nq = W1 := ⟨_, rfl⟩
          have HB1 : Hid (Below w.heap.size w W1) := by rw [← hW1]; exact below_dn HBW.out nq
          have HSZ : Hid (w.heap.size ≤ W1.heap.size) := HB1.out.size
          rw [hW1]
          clear hW1
          go_wp2_with fail
          refine (HN.out _).mono ?_
          rintro e w2 ⟨rfl, hb2⟩
          have HB2 : Hid (Below w.heap.size w w2) := HB1.out.trans (hb2.mono HSZ.out)
          clear hb2
          have HS2 : Hid (w.heap.size ≤ w2.heap.size) := HB2.out.size
          go_wp2_with fail
          refine (HT.out _).mono ?_
          rintro e w3 ⟨rfl, hb3⟩
          have HB3 : Hid (Below w.heap.size w w3) := HB2.out.trans (hb3.mono HS2.out)
          clear hb3
          go_wp2
          go_returns
          exact ⟨rfl, HB3.out⟩
    | true =>
      have HE : Hid (partE 58 tl true deep = 120) := by show _ = _; unfold partE; simp [hn, h3, h2]
      clear h2 h3 hn
      rw [HE.out]
      go_enter Tryz.func33, Tryz.ntmps33
      go_wp2
      go_loopw [8] (fun ci wr => ∃ i : Nat, (i ≤ 2 ∧ Below w.heap.size w wr) ∧ ci = .int .i64 (i : Int)) (fun ci _ => 2 - (intOf ci).toNat)
      case atStart => exact ⟨0, ⟨Nat.zero_le _, Below.refl _ _⟩, rfl⟩
      case round =>
        obtain ⟨i, ⟨hi, hbw⟩, rfl⟩ := hrel
        have HBW : Hid (Below w.heap.size w wr) := hbw
        clear hbw
        have hz0 : (0 : Int) ≤ (i : Int) := by omega
        have hz1 : (i : Int) < 10 := by omega
        have hi10 : i < 10 := by omega
        by_cases hlt : i < 2
        · have hq := KIN.out i (by omega) hlt
          have hz9 : (i : Int) < 10 := by omega
          go_wp2_with fail
          go_quiet (fail)
          go_wp2
          go_roundw
          case rel => exact ⟨i + 1, ⟨by omega, below_dn HBW.out nq⟩, rfl⟩
          case measure => simp [intOf]; omega
        · have hik : i = 2 := by omega
          subst hik
          have hq := KAT.out
          go_wp2_with fail
          go_quiet (fail)
          obtain ⟨W1, hW1⟩ : ∃ W1, wr.drewN nq = W1 := ⟨_, rfl⟩
          have HB1 : Hid (Below w.heap.size w W1) := by rw [← hW1]; exact below_dn HBW.out nq
          have HSZ : Hid (w.heap.size ≤ W1.heap.size) := HB1.out.size
          rw [hW1]
          clear hW1
          go_wp2_with fail
          refine (HN.out _).mono ?_
          rintro e w2 ⟨rfl, hb2⟩
          have HB2 : Hid (Below w.heap.size w w2) := HB1.out.trans (hb2.mono HSZ.out)
          clear hb2
          go_wp2
          go_returns
          exact ⟨rfl, HB2.out⟩
  | some n =>
    rw [numT_some hn] at HN
    cases half with
    | false =>
      have HE : Hid (partE 58 tl false deep = 20) := by show _ = _; unfold partE; simp [hn, h3, h2]
      clear h2 h3 hn
      rw [HE.out]
      go_enter Tryz.func33, Tryz.ntmps33
      go_wp2
      go_loopw [8] (fun ci wr => ∃ i : Nat, (i ≤ 2 ∧ Below w.heap.size w wr) ∧ ci = .int .i64 (i : Int)) (fun ci _ => 2 - (intOf ci).toNat)
      case atStart => exact ⟨0, ⟨Nat.zero_le _, Below.refl _ _⟩, rfl⟩
      case round =>
        obtain ⟨i, ⟨hi, hbw⟩, rfl⟩ := hrel
        have HBW : Hid (Below w.heap.size w wr) := hbw
        clear hbw
        have hz0 : (0 : Int) ≤ (i : Int) := by omega
        have hz1 : (i : Int) < 10 := by omega
        have hi10 : i < 10 := by omega
        by_cases hlt : i < 2
        · have hq := KIN.out i (by omega) hlt
          have hz9 : (i : Int) < 10 := by omega
          go_wp2_with fail
          go_quiet (fail)
          go_wp2
          go_roundw
          case rel => exact ⟨i + 1, ⟨by omega, below_dn HBW.out nq⟩, rfl⟩
          case measure => simp [intOf]; omega
        · have hik : i = 2 := by omega
          subst hik
          have hq := KAT.out
          go_wp2_with fail
          go_quiet (fail)
          obtain ⟨W1, hW1⟩ : ∃ W1, wr.drewN nq = W1 := ⟨_, rfl⟩
          have HB1 : Hid (Below w.heap.size w W1) := by rw [← hW1]; exact below_dn HBW.out nq
          have HSZ : Hid (w.heap.size ≤ W1.heap.size) := HB1.out.size
          rw [hW1]
          clear hW1
          go_wp2_with fail
          refine (HN.out _).mono ?_
          rintro e w2 ⟨rfl, hb2⟩
          have HB2 : Hid (Below w.heap.size w w2) := HB1.out.trans (hb2.mono HSZ.out)
          clear hb2
          go_wp2
          go_returns
          exact ⟨rfl, HB2.out⟩
    | true =>
      have HE : Hid (partE 58 tl true deep = 20) := by show _ = _; unfold partE; simp [hn, h3, h2]
      clear h2 h3 hn
      rw [HE.out]
      go_enter Tryz.func33, Tryz.ntmps33
      go_wp2
      go_loopw [8] (fun ci wr => ∃ i : Nat, (i ≤ 2 ∧ Below w.heap.size w wr) ∧ ci = .int .i64 (i : Int)) (fun ci _ => 2 - (intOf ci).toNat)
      case atStart => exact ⟨0, ⟨Nat.zero_le _, Below.refl _ _⟩, rfl⟩
      case round =>
        obtain ⟨i, ⟨hi, hbw⟩, rfl⟩ := hrel
        have HBW : Hid (Below w.heap.size w wr) := hbw
        clear hbw
        have hz0 : (0 : Int) ≤ (i : Int) := by omega
        have hz1 : (i : Int) < 10 := by omega
        have hi10 : i < 10 := by omega
        by_cases hlt : i < 2
        · have hq := KIN.out i (by omega) hlt
          have hz9 : (i : Int) < 10 := by omega
          go_wp2_with fail
          go_quiet (fail)
          go_wp2
          go_roundw
          case rel => exact ⟨i + 1, ⟨by omega, below_dn HBW.out nq⟩, rfl⟩
          case measure => simp [intOf]; omega
        · have hik : i = 2 := by omega
          subst hik
          have hq := KAT.out
          go_wp2_with fail
          go_quiet (fail)
          obtain ⟨W1, hW1⟩ : ∃ W1, wr.drewN nq = W1 := ⟨_, rfl⟩
          have HB1 : Hid (Below w.heap.size w W1) := by rw [← hW1]; exact below_dn HBW.out nq
          have HSZ : Hid (w.heap.size ≤ W1.heap.size) := HB1.out.size
          rw [hW1]
          clear hW1
          go_wp2_with fail
          refine (HN.out _).mono ?_
          rintro e w2 ⟨rfl, hb2⟩
          have HB2 : Hid (Below w.heap.size w w2) := HB1.out.trans (hb2.mono HSZ.out)
          clear hb2
          go_wp2
          go_returns
          exact ⟨rfl, HB2.out⟩
end Go.Proofs.YtnfbaeajalnmmaaGreatDoor
namespace Go.Proofs.YtnfbaeajalnmmaaGreatDoor
open Go.RowKit Vi
set_option linter.unusedVariables false
set_option linter.unusedSimpArgs false
set_option maxHeartbeats 8000000 in
set_option maxRecDepth 20000 in
theorem rpart_95 (l : ByteArray) (hs : l.size ≤ 281474976710656) (h0 : 0 < l.size) (hm : l[0] = 95) (half deep : Bool) (D : Int) (hD : decide (D ≤ 32) = !deep) (w : World) :
    Calls Tryz.prog 33 #[.string l, .bool half, .int .i64 D] w fun e w' => e = .returned (.int .i64 (partE 95 (l.data.toList.drop 1) half deep : Int)) ∧ Below w.heap.size w w' := by
  have hle : l.toList.isEmpty = false := str_full (by omega)
  have hm0 : (l[0].toNat : Int) = 95 := by rw [hm]; rfl
  have hz : (0 : Int) < (l.size : Int) := by omega
  have h1s : (1 : Int) ≤ (l.size : Int) := by omega
  obtain ⟨T, hT⟩ : ∃ T, l.extract 1 l.size = T := ⟨_, rfl⟩
  have hTl : l.data.toList.drop 1 = T.data.toList := by rw [← hT]; exact (rest_list l 1 (by omega)).symm
  have hTs : T.size ≤ 281474976710656 := by rw [← hT, ext_size _ _ _ (Nat.le_refl _)]; omega
  have KIN : Hid (∀ i (hi : i < 10), i < 3 → ((((⟨#[43, 45, 58, 95, 36, 42, 35, 37, 126, 62]⟩ : ByteArray)[i]'hi).toNat : Int) != 95) = true) := by
    show ∀ i (hi : i < 10), i < 3 → _
    intro i hi hk
    have : ∀ j : Fin 10, j.val < 3 → ((((⟨#[43, 45, 58, 95, 36, 42, 35, 37, 126, 62]⟩ : ByteArray)[j.val]'j.isLt).toNat : Int) != 95) = true := by decide +kernel
    exact this ⟨i, hi⟩ hk
  have KAT : Hid (((((⟨#[43, 45, 58, 95, 36, 42, 35, 37, 126, 62]⟩ : ByteArray)[3]'(by decide)).toNat : Int) != 95) = false) := rfl
  have HN : Hid (∀ W, Calls Tryz.prog 34 #[.string T] W fun e w' => e = .returned (numT T.data.toList) ∧ Below W.heap.size W w') := fun W => refNumber_any T (by unfold maxLen; omega) W
  rw [hTl]
  clear hTl hm
  by_cases hT0 : T.size = 0
  · have te := str_empty hT0
    have htl : T.data.toList = [] := by rw [empty_str T hT0]
    have t2 : (T.toList == [45]) = false := by rw [ByteArray.toList_eq, htl]; rfl
    rw [htl] at HN  ⊢
    rw [numT_none num_nil] at HN
    clear htl hT0
    cases half with
    | false =>
      have HE : Hid (partE 95 [] false deep = 20) := by
        show _ = _
        unfold partE; simp [num_nil]
      rw [HE.out]
      go_enter Tryz.func33, Tryz.ntmps33
      go_wp2
      go_loopw [8] (fun ci wr => ∃ i : Nat, (i ≤ 3 ∧ Below w.heap.size w wr) ∧ ci = .int .i64 (i : Int)) (fun ci _ => 3 - (intOf ci).toNat)
      case atStart => exact ⟨0, ⟨Nat.zero_le _, Below.refl _ _⟩, rfl⟩
      case round =>
        obtain ⟨i, ⟨hi, hbw⟩, rfl⟩ := hrel
        have HBW : Hid (Below w.heap.size w wr) := hbw
        clear hbw
        have hz0 : (0 : Int) ≤ (i : Int) := by omega
        have hz1 : (i : Int) < 10 := by omega
        have hi10 : i < 10 := by omega
        by_cases hlt : i < 3
        · have hq := KIN.out i (by omega) hlt
          have hz9 : (i : Int) < 10 := by omega
          go_wp2_with fail
          go_quiet (fail)
          go_wp2
          go_roundw
          case rel => exact ⟨i + 1, ⟨by omega, below_dn HBW.out nq⟩, rfl⟩
          case measure => simp [intOf]; omega
        · have hik : i = 3 := by omega
          subst hik
          have hq := KAT.out
          go_wp2_with fail
          go_quiet (fail)
          obtain ⟨W1, hW1⟩ : ∃ W1, wr.drewN nq = W1 := ⟨_, rfl⟩
          have HB1 : Hid (Below w.heap.size w W1) := by rw [← hW1]; exact below_dn HBW.out nq
          have HSZ : Hid (w.heap.size ≤ W1.heap.size) := HB1.out.size
          rw [hW1]
          clear hW1
          go_wp2_with fail
          refine (HN.out _).mono ?_
          rintro e w2 ⟨rfl, hb2⟩
          have HB2 : Hid (Below w.heap.size w w2) := HB1.out.trans (hb2.mono HSZ.out)
          clear hb2
          go_wp2
          go_returns
          exact ⟨rfl, HB2.out⟩
    | true =>
      have HE : Hid (partE 95 [] true deep = 20) := by
        show _ = _
        unfold partE; simp [num_nil]
      rw [HE.out]
      go_enter Tryz.func33, Tryz.ntmps33
      go_wp2
      go_loopw [8] (fun ci wr => ∃ i : Nat, (i ≤ 3 ∧ Below w.heap.size w wr) ∧ ci = .int .i64 (i : Int)) (fun ci _ => 3 - (intOf ci).toNat)
      case atStart => exact ⟨0, ⟨Nat.zero_le _, Below.refl _ _⟩, rfl⟩
      case round =>
        obtain ⟨i, ⟨hi, hbw⟩, rfl⟩ := hrel
        have HBW : Hid (Below w.heap.size w wr) := hbw
        clear hbw
        have hz0 : (0 : Int) ≤ (i : Int) := by omega
        have hz1 : (i : Int) < 10 := by omega
        have hi10 : i < 10 := by omega
        by_cases hlt : i < 3
        · have hq := KIN.out i (by omega) hlt
          have hz9 : (i : Int) < 10 := by omega
          go_wp2_with fail
          go_quiet (fail)
          go_wp2
          go_roundw
          case rel => exact ⟨i + 1, ⟨by omega, below_dn HBW.out nq⟩, rfl⟩
          case measure => simp [intOf]; omega
        · have hik : i = 3 := by omega
          subst hik
          have hq := KAT.out
          go_wp2_with fail
          go_quiet (fail)
          obtain ⟨W1, hW1⟩ : ∃ W1, wr.drewN nq = W1 := ⟨_, rfl⟩
          have HB1 : Hid (Below w.heap.size w W1) := by rw [← hW1]; exact below_dn HBW.out nq
          have HSZ : Hid (w.heap.size ≤ W1.heap.size) := HB1.out.size
          rw [hW1]
          clear hW1
          go_wp2_with fail
          refine (HN.out _).mono ?_
          rintro e w2 ⟨rfl, hb2⟩
          have HB2 : Hid (Below w.heap.size w w2) := HB1.out.trans (hb2.mono HSZ.out)
          clear hb2
          go_wp2
          go_returns
          exact ⟨rfl, HB2.out⟩
  have te := str_full hT0
  by_cases h2 : T.data.toList = [45]
  · have t2 : (T.toList == [45]) = true := by rw [ByteArray.toList_eq, h2]; rfl
    rw [h2] at HN  ⊢
    rw [numT_none num_minus] at HN
    clear h2 hT0
    cases half with
    | false =>
      have HE : Hid (partE 95 [45] false deep = 120) := by
        show _ = _
        unfold partE; simp [num_minus]
      rw [HE.out]
      go_enter Tryz.func33, Tryz.ntmps33
      go_wp2
      go_loopw [8] (fun ci wr => ∃ i : Nat, (i ≤ 3 ∧ Below w.heap.size w wr) ∧ ci = .int .i64 (i : Int)) (fun ci _ => 3 - (intOf ci).toNat)
      case atStart => exact ⟨0, ⟨Nat.zero_le _, Below.refl _ _⟩, rfl⟩
      case round =>
        obtain ⟨i, ⟨hi, hbw⟩, rfl⟩ := hrel
        have HBW : Hid (Below w.heap.size w wr) := hbw
        clear hbw
        have hz0 : (0 : Int) ≤ (i : Int) := by omega
        have hz1 : (i : Int) < 10 := by omega
        have hi10 : i < 10 := by omega
        by_cases hlt : i < 3
        · have hq := KIN.out i (by omega) hlt
          have hz9 : (i : Int) < 10 := by omega
          go_wp2_with fail
          go_quiet (fail)
          go_wp2
          go_roundw
          case rel => exact ⟨i + 1, ⟨by omega, below_dn HBW.out nq⟩, rfl⟩
          case measure => simp [intOf]; omega
        · have hik : i = 3 := by omega
          subst hik
          have hq := KAT.out
          go_wp2_with fail
          go_quiet (fail)
          obtain ⟨W1, hW1⟩ : ∃ W1, wr.drewN nq = W1 := ⟨_, rfl⟩
          have HB1 : Hid (Below w.heap.size w W1) := by rw [← hW1]; exact below_dn HBW.out nq
          have HSZ : Hid (w.heap.size ≤ W1.heap.size) := HB1.out.size
          rw [hW1]
          clear hW1
          go_wp2_with fail
          refine (HN.out _).mono ?_
          rintro e w2 ⟨rfl, hb2⟩
          have HB2 : Hid (Below w.heap.size w w2) := HB1.out.trans (hb2.mono HSZ.out)
          clear hb2
          go_wp2
          go_returns
          exact ⟨rfl, HB2.out⟩
    | true =>
      have HE : Hid (partE 95 [45] true deep = 120) := by
        show _ = _
        unfold partE; simp [num_minus]
      rw [HE.out]
      go_enter Tryz.func33, Tryz.ntmps33
      go_wp2
      go_loopw [8] (fun ci wr => ∃ i : Nat, (i ≤ 3 ∧ Below w.heap.size w wr) ∧ ci = .int .i64 (i : Int)) (fun ci _ => 3 - (intOf ci).toNat)
      case atStart => exact ⟨0, ⟨Nat.zero_le _, Below.refl _ _⟩, rfl⟩
      case round =>
        obtain ⟨i, ⟨hi, hbw⟩, rfl⟩ := hrel
        have HBW : Hid (Below w.heap.size w wr) := hbw
        clear hbw
        have hz0 : (0 : Int) ≤ (i : Int) := by omega
        have hz1 : (i : Int) < 10 := by omega
        have hi10 : i < 10 := by omega
        by_cases hlt : i < 3
        · have hq := KIN.out i (by omega) hlt
          have hz9 : (i : Int) < 10 := by omega
          go_wp2_with fail
          go_quiet (fail)
          go_wp2
          go_roundw
          case rel => exact ⟨i + 1, ⟨by omega, below_dn HBW.out nq⟩, rfl⟩
          case measure => simp [intOf]; omega
        · have hik : i = 3 := by omega
          subst hik
          have hq := KAT.out
          go_wp2_with fail
          go_quiet (fail)
          obtain ⟨W1, hW1⟩ : ∃ W1, wr.drewN nq = W1 := ⟨_, rfl⟩
          have HB1 : Hid (Below w.heap.size w W1) := by rw [← hW1]; exact below_dn HBW.out nq
          have HSZ : Hid (w.heap.size ≤ W1.heap.size) := HB1.out.size
          rw [hW1]
          clear hW1
          go_wp2_with fail
          refine (HN.out _).mono ?_
          rintro e w2 ⟨rfl, hb2⟩
          have HB2 : Hid (Below w.heap.size w w2) := HB1.out.trans (hb2.mono HSZ.out)
          clear hb2
          go_wp2
          go_returns
          exact ⟨rfl, HB2.out⟩
  have t2 : (T.toList == [45]) = false := by rw [ByteArray.toList_eq]; simpa using h2
  have h3 : T.data.toList ≠ [] := fun e => by rw [ByteArray.toList_eq, e] at te; cases te
  generalize T.data.toList = tl at *
  cases hn : numberOf tl with
  | none =>
    rw [numT_none hn] at HN
    cases half with
    | false =>
      have HE : Hid (partE 95 tl false deep = 120) := by show _ = _; unfold partE; simp [h3]
      clear h2 h3 hn
      rw [HE.out]
      go_enter Tryz.func33, Tryz.ntmps33
      go_wp2
      go_loopw [8] (fun ci wr => ∃ i : Nat, (i ≤ 3 ∧ Below w.heap.size w wr) ∧ ci = .int .i64 (i : Int)) (fun ci _ => 3 - (intOf ci).toNat)
      case atStart => exact ⟨0, ⟨Nat.zero_le _, Below.refl _ _⟩, rfl⟩
      case round =>
        obtain ⟨i, ⟨hi, hbw⟩, rfl⟩ := hrel
        have HBW : Hid (Below w.heap.size w wr) := hbw
        clear hbw
        have hz0 : (0 : Int) ≤ (i : Int) := by omega
        have hz1 : (i : Int) < 10 := by omega
        have hi10 : i < 10 := by omega
        by_cases hlt : i < 3
        · have hq := KIN.out i (by omega) hlt
          have hz9 : (i : Int) < 10 := by omega
          go_wp2_with fail
          go_quiet (fail)
          go_wp2
          go_roundw
          case rel => exact ⟨i + 1, ⟨by omega, below_dn HBW.out nq⟩, rfl⟩
          case measure => simp [intOf]; omega
        · have hik : i = 3 := by omega
          subst hik
          have hq := KAT.out
          go_wp2_with fail
          go_quiet (fail)
          obtain ⟨W1, hW1⟩ : ∃ W1, wr.drewN nq = W1 := ⟨_, rfl⟩
          have HB1 : Hid (Below w.heap.size w W1) := by rw [← hW1]; exact below_dn HBW.out nq
          have HSZ : Hid (w.heap.size ≤ W1.heap.size) := HB1.out.size
          rw [hW1]
          clear hW1
          go_wp2_with fail
          refine (HN.out _).mono ?_
          rintro e w2 ⟨rfl, hb2⟩
          have HB2 : Hid (Below w.heap.size w w2) := HB1.out.trans (hb2.mono HSZ.out)
          clear hb2
          go_wp2
          go_returns
          exact ⟨rfl, HB2.out⟩
    | true =>
      have HE : Hid (partE 95 tl true deep = 120) := by show _ = _; unfold partE; simp [h3]
      clear h2 h3 hn
      rw [HE.out]
      go_enter Tryz.func33, Tryz.ntmps33
      go_wp2
      go_loopw [8] (fun ci wr => ∃ i : Nat, (i ≤ 3 ∧ Below w.heap.size w wr) ∧ ci = .int .i64 (i : Int)) (fun ci _ => 3 - (intOf ci).toNat)
      case atStart => exact ⟨0, ⟨Nat.zero_le _, Below.refl _ _⟩, rfl⟩
      case round =>
        obtain ⟨i, ⟨hi, hbw⟩, rfl⟩ := hrel
        have HBW : Hid (Below w.heap.size w wr) := hbw
        clear hbw
        have hz0 : (0 : Int) ≤ (i : Int) := by omega
        have hz1 : (i : Int) < 10 := by omega
        have hi10 : i < 10 := by omega
        by_cases hlt : i < 3
        · have hq := KIN.out i (by omega) hlt
          have hz9 : (i : Int) < 10 := by omega
          go_wp2_with fail
          go_quiet (fail)
          go_wp2
          go_roundw
          case rel => exact ⟨i + 1, ⟨by omega, below_dn HBW.out nq⟩, rfl⟩
          case measure => simp [intOf]; omega
        · have hik : i = 3 := by omega
          subst hik
          have hq := KAT.out
          go_wp2_with fail
          go_quiet (fail)
          obtain ⟨W1, hW1⟩ : ∃ W1, wr.drewN nq = W1 := ⟨_, rfl⟩
          have HB1 : Hid (Below w.heap.size w W1) := by rw [← hW1]; exact below_dn HBW.out nq
          have HSZ : Hid (w.heap.size ≤ W1.heap.size) := HB1.out.size
          rw [hW1]
          clear hW1
          go_wp2_with fail
          refine (HN.out _).mono ?_
          rintro e w2 ⟨rfl, hb2⟩
          have HB2 : Hid (Below w.heap.size w w2) := HB1.out.trans (hb2.mono HSZ.out)
          clear hb2
          go_wp2
          go_returns
          exact ⟨rfl, HB2.out⟩
  | some n =>
    rw [numT_some hn] at HN
    cases half with
    | false =>
      have HE : Hid (partE 95 tl false deep = 120) := by show _ = _; unfold partE; simp [h3]
      clear h2 h3 hn
      rw [HE.out]
      go_enter Tryz.func33, Tryz.ntmps33
      go_wp2
      go_loopw [8] (fun ci wr => ∃ i : Nat, (i ≤ 3 ∧ Below w.heap.size w wr) ∧ ci = .int .i64 (i : Int)) (fun ci _ => 3 - (intOf ci).toNat)
      case atStart => exact ⟨0, ⟨Nat.zero_le _, Below.refl _ _⟩, rfl⟩
      case round =>
        obtain ⟨i, ⟨hi, hbw⟩, rfl⟩ := hrel
        have HBW : Hid (Below w.heap.size w wr) := hbw
        clear hbw
        have hz0 : (0 : Int) ≤ (i : Int) := by omega
        have hz1 : (i : Int) < 10 := by omega
        have hi10 : i < 10 := by omega
        by_cases hlt : i < 3
        · have hq := KIN.out i (by omega) hlt
          have hz9 : (i : Int) < 10 := by omega
          go_wp2_with fail
          go_quiet (fail)
          go_wp2
          go_roundw
          case rel => exact ⟨i + 1, ⟨by omega, below_dn HBW.out nq⟩, rfl⟩
          case measure => simp [intOf]; omega
        · have hik : i = 3 := by omega
          subst hik
          have hq := KAT.out
          go_wp2_with fail
          go_quiet (fail)
          obtain ⟨W1, hW1⟩ : ∃ W1, wr.drewN nq = W1 := ⟨_, rfl⟩
          have HB1 : Hid (Below w.heap.size w W1) := by rw [← hW1]; exact below_dn HBW.out nq
          have HSZ : Hid (w.heap.size ≤ W1.heap.size) := HB1.out.size
          rw [hW1]
          clear hW1
          go_wp2_with fail
          refine (HN.out _).mono ?_
          rintro e w2 ⟨rfl, hb2⟩
          have HB2 : Hid (Below w.heap.size w w2) := HB1.out.trans (hb2.mono HSZ.out)
          clear hb2
          go_wp2
          go_returns
          exact ⟨rfl, HB2.out⟩
    | true =>
      have HE : Hid (partE 95 tl true deep = 120) := by show _ = _; unfold partE; simp [h3]
      clear h2 h3 hn
      rw [HE.out]
      go_enter Tryz.func33, Tryz.ntmps33
      go_wp2
      go_loopw [8] (fun ci wr => ∃ i : Nat, (i ≤ 3 ∧ Below w.heap.size w wr) ∧ ci = .int .i64 (i : Int)) (fun ci _ => 3 - (intOf ci).toNat)
      case atStart => exact ⟨0, ⟨Nat.zero_le _, Below.refl _ _⟩, rfl⟩
      case round =>
        obtain ⟨i, ⟨hi, hbw⟩, rfl⟩ := hrel
        have HBW : Hid (Below w.heap.size w wr) := hbw
        clear hbw
        have hz0 : (0 : Int) ≤ (i : Int) := by omega
        have hz1 : (i : Int) < 10 := by omega
        have hi10 : i < 10 := by omega
        by_cases hlt : i < 3
        · have hq := KIN.out i (by omega) hlt
          have hz9 : (i : Int) < 10 := by omega
          go_wp2_with fail
          go_quiet (fail)
          go_wp2
          go_roundw
          case rel => exact ⟨i + 1, ⟨by omega, below_dn HBW.out nq⟩, rfl⟩
          case measure => simp [intOf]; omega
        · have hik : i = 3 := by omega
          subst hik
          have hq := KAT.out
          go_wp2_with fail
          go_quiet (fail)
          obtain ⟨W1, hW1⟩ : ∃ W1, wr.drewN nq = W1 := ⟨_, rfl⟩
          have HB1 : Hid (Below w.heap.size w W1) := by rw [← hW1]; exact below_dn HBW.out nq
          have HSZ : Hid (w.heap.size ≤ W1.heap.size) := HB1.out.size
          rw [hW1]
          clear hW1
          go_wp2_with fail
          refine (HN.out _).mono ?_
          rintro e w2 ⟨rfl, hb2⟩
          have HB2 : Hid (Below w.heap.size w w2) := HB1.out.trans (hb2.mono HSZ.out)
          clear hb2
          go_wp2
          go_returns
          exact ⟨rfl, HB2.out⟩
end Go.Proofs.YtnfbaeajalnmmaaGreatDoor
namespace Go.Proofs.YtnfbaeajalnmmaaGreatDoor
open Go.RowKit Vi
set_option linter.unusedVariables false
set_option linter.unusedSimpArgs false
set_option maxHeartbeats 8000000 in
set_option maxRecDepth 20000 in
theorem rpart_35 (l : ByteArray) (hs : l.size ≤ 281474976710656) (h0 : 0 < l.size) (hm : l[0] = 35) (half deep : Bool) (D : Int) (hD : decide (D ≤ 32) = !deep) (w : World) :
    Calls Tryz.prog 33 #[.string l, .bool half, .int .i64 D] w fun e w' => e = .returned (.int .i64 (partE 35 (l.data.toList.drop 1) half deep : Int)) ∧ Below w.heap.size w w' := by
  have hle : l.toList.isEmpty = false := str_full (by omega)
  have hm0 : (l[0].toNat : Int) = 35 := by rw [hm]; rfl
  have hz : (0 : Int) < (l.size : Int) := by omega
  have h1s : (1 : Int) ≤ (l.size : Int) := by omega
  obtain ⟨T, hT⟩ : ∃ T, l.extract 1 l.size = T := ⟨_, rfl⟩
  have hTl : l.data.toList.drop 1 = T.data.toList := by rw [← hT]; exact (rest_list l 1 (by omega)).symm
  have hTs : T.size ≤ 281474976710656 := by rw [← hT, ext_size _ _ _ (Nat.le_refl _)]; omega
  have KIN : Hid (∀ i (hi : i < 10), i < 6 → ((((⟨#[43, 45, 58, 95, 36, 42, 35, 37, 126, 62]⟩ : ByteArray)[i]'hi).toNat : Int) != 35) = true) := by
    show ∀ i (hi : i < 10), i < 6 → _
    intro i hi hk
    have : ∀ j : Fin 10, j.val < 6 → ((((⟨#[43, 45, 58, 95, 36, 42, 35, 37, 126, 62]⟩ : ByteArray)[j.val]'j.isLt).toNat : Int) != 35) = true := by decide +kernel
    exact this ⟨i, hi⟩ hk
  have KAT : Hid (((((⟨#[43, 45, 58, 95, 36, 42, 35, 37, 126, 62]⟩ : ByteArray)[6]'(by decide)).toNat : Int) != 35) = false) := rfl
  have HN : Hid (∀ W, Calls Tryz.prog 34 #[.string T] W fun e w' => e = .returned (numT T.data.toList) ∧ Below W.heap.size W w') := fun W => refNumber_any T (by unfold maxLen; omega) W
  rw [hTl]
  clear hTl hm
  by_cases hT0 : T.size = 0
  · have te := str_empty hT0
    have htl : T.data.toList = [] := by rw [empty_str T hT0]
    have t2 : (T.toList == [45]) = false := by rw [ByteArray.toList_eq, htl]; rfl
    have tt : (T.toList == [116]) = false := by rw [ByteArray.toList_eq, htl]; rfl
    have tf : (T.toList == [102]) = false := by rw [ByteArray.toList_eq, htl]; rfl
    rw [htl] at HN  ⊢
    rw [numT_none num_nil] at HN
    clear htl hT0
    cases half with
    | false =>
      have HE : Hid (partE 35 [] false deep = 20) := by
        show _ = _
        unfold partE; simp [num_nil]
      rw [HE.out]
      go_enter Tryz.func33, Tryz.ntmps33
      go_wp2
      go_loopw [8] (fun ci wr => ∃ i : Nat, (i ≤ 6 ∧ Below w.heap.size w wr) ∧ ci = .int .i64 (i : Int)) (fun ci _ => 6 - (intOf ci).toNat)
      case atStart => exact ⟨0, ⟨Nat.zero_le _, Below.refl _ _⟩, rfl⟩
      case round =>
        obtain ⟨i, ⟨hi, hbw⟩, rfl⟩ := hrel
        have HBW : Hid (Below w.heap.size w wr) := hbw
        clear hbw
        have hz0 : (0 : Int) ≤ (i : Int) := by omega
        have hz1 : (i : Int) < 10 := by omega
        have hi10 : i < 10 := by omega
        by_cases hlt : i < 6
        · have hq := KIN.out i (by omega) hlt
          have hz9 : (i : Int) < 10 := by omega
          go_wp2_with fail
          go_quiet (fail)
          go_wp2
          go_roundw
          case rel => exact ⟨i + 1, ⟨by omega, below_dn HBW.out nq⟩, rfl⟩
          case measure => simp [intOf]; omega
        · have hik : i = 6 := by omega
          subst hik
          have hq := KAT.out
          go_wp2_with fail
          go_quiet (fail)
          obtain ⟨W1, hW1⟩ : ∃ W1, wr.drewN nq = W1 := ⟨_, rfl⟩
          have HB1 : Hid (Below w.heap.size w W1) := by rw [← hW1]; exact below_dn HBW.out nq
          have HSZ : Hid (w.heap.size ≤ W1.heap.size) := HB1.out.size
          rw [hW1]
          clear hW1
          go_wp2_with fail
          refine (HN.out _).mono ?_
          rintro e w2 ⟨rfl, hb2⟩
          have HB2 : Hid (Below w.heap.size w w2) := HB1.out.trans (hb2.mono HSZ.out)
          clear hb2
          go_wp2
          go_returns
          exact ⟨rfl, HB2.out⟩
    | true =>
      have HE : Hid (partE 35 [] true deep = 120) := by
        show _ = _
        unfold partE; simp [num_nil]
      rw [HE.out]
      go_enter Tryz.func33, Tryz.ntmps33
      go_wp2
      go_loopw [8] (fun ci wr => ∃ i : Nat, (i ≤ 6 ∧ Below w.heap.size w wr) ∧ ci = .int .i64 (i : Int)) (fun ci _ => 6 - (intOf ci).toNat)
      case atStart => exact ⟨0, ⟨Nat.zero_le _, Below.refl _ _⟩, rfl⟩
      case round =>
        obtain ⟨i, ⟨hi, hbw⟩, rfl⟩ := hrel
        have HBW : Hid (Below w.heap.size w wr) := hbw
        clear hbw
        have hz0 : (0 : Int) ≤ (i : Int) := by omega
        have hz1 : (i : Int) < 10 := by omega
        have hi10 : i < 10 := by omega
        by_cases hlt : i < 6
        · have hq := KIN.out i (by omega) hlt
          have hz9 : (i : Int) < 10 := by omega
          go_wp2_with fail
          go_quiet (fail)
          go_wp2
          go_roundw
          case rel => exact ⟨i + 1, ⟨by omega, below_dn HBW.out nq⟩, rfl⟩
          case measure => simp [intOf]; omega
        · have hik : i = 6 := by omega
          subst hik
          have hq := KAT.out
          go_wp2_with fail
          go_quiet (fail)
          obtain ⟨W1, hW1⟩ : ∃ W1, wr.drewN nq = W1 := ⟨_, rfl⟩
          have HB1 : Hid (Below w.heap.size w W1) := by rw [← hW1]; exact below_dn HBW.out nq
          have HSZ : Hid (w.heap.size ≤ W1.heap.size) := HB1.out.size
          rw [hW1]
          clear hW1
          go_wp2_with fail
          refine (HN.out _).mono ?_
          rintro e w2 ⟨rfl, hb2⟩
          have HB2 : Hid (Below w.heap.size w w2) := HB1.out.trans (hb2.mono HSZ.out)
          clear hb2
          go_wp2
          go_returns
          exact ⟨rfl, HB2.out⟩
  have te := str_full hT0
  by_cases h2 : T.data.toList = [45]
  · have t2 : (T.toList == [45]) = true := by rw [ByteArray.toList_eq, h2]; rfl
    have tt : (T.toList == [116]) = false := by rw [ByteArray.toList_eq, h2]; rfl
    have tf : (T.toList == [102]) = false := by rw [ByteArray.toList_eq, h2]; rfl
    rw [h2] at HN  ⊢
    rw [numT_none num_minus] at HN
    clear h2 hT0
    cases half with
    | false =>
      have HE : Hid (partE 35 [45] false deep = 120) := by
        show _ = _
        unfold partE; simp [num_minus]
      rw [HE.out]
      go_enter Tryz.func33, Tryz.ntmps33
      go_wp2
      go_loopw [8] (fun ci wr => ∃ i : Nat, (i ≤ 6 ∧ Below w.heap.size w wr) ∧ ci = .int .i64 (i : Int)) (fun ci _ => 6 - (intOf ci).toNat)
      case atStart => exact ⟨0, ⟨Nat.zero_le _, Below.refl _ _⟩, rfl⟩
      case round =>
        obtain ⟨i, ⟨hi, hbw⟩, rfl⟩ := hrel
        have HBW : Hid (Below w.heap.size w wr) := hbw
        clear hbw
        have hz0 : (0 : Int) ≤ (i : Int) := by omega
        have hz1 : (i : Int) < 10 := by omega
        have hi10 : i < 10 := by omega
        by_cases hlt : i < 6
        · have hq := KIN.out i (by omega) hlt
          have hz9 : (i : Int) < 10 := by omega
          go_wp2_with fail
          go_quiet (fail)
          go_wp2
          go_roundw
          case rel => exact ⟨i + 1, ⟨by omega, below_dn HBW.out nq⟩, rfl⟩
          case measure => simp [intOf]; omega
        · have hik : i = 6 := by omega
          subst hik
          have hq := KAT.out
          go_wp2_with fail
          go_quiet (fail)
          obtain ⟨W1, hW1⟩ : ∃ W1, wr.drewN nq = W1 := ⟨_, rfl⟩
          have HB1 : Hid (Below w.heap.size w W1) := by rw [← hW1]; exact below_dn HBW.out nq
          have HSZ : Hid (w.heap.size ≤ W1.heap.size) := HB1.out.size
          rw [hW1]
          clear hW1
          go_wp2_with fail
          refine (HN.out _).mono ?_
          rintro e w2 ⟨rfl, hb2⟩
          have HB2 : Hid (Below w.heap.size w w2) := HB1.out.trans (hb2.mono HSZ.out)
          clear hb2
          go_wp2
          go_returns
          exact ⟨rfl, HB2.out⟩
    | true =>
      have HE : Hid (partE 35 [45] true deep = 120) := by
        show _ = _
        unfold partE; simp [num_minus]
      rw [HE.out]
      go_enter Tryz.func33, Tryz.ntmps33
      go_wp2
      go_loopw [8] (fun ci wr => ∃ i : Nat, (i ≤ 6 ∧ Below w.heap.size w wr) ∧ ci = .int .i64 (i : Int)) (fun ci _ => 6 - (intOf ci).toNat)
      case atStart => exact ⟨0, ⟨Nat.zero_le _, Below.refl _ _⟩, rfl⟩
      case round =>
        obtain ⟨i, ⟨hi, hbw⟩, rfl⟩ := hrel
        have HBW : Hid (Below w.heap.size w wr) := hbw
        clear hbw
        have hz0 : (0 : Int) ≤ (i : Int) := by omega
        have hz1 : (i : Int) < 10 := by omega
        have hi10 : i < 10 := by omega
        by_cases hlt : i < 6
        · have hq := KIN.out i (by omega) hlt
          have hz9 : (i : Int) < 10 := by omega
          go_wp2_with fail
          go_quiet (fail)
          go_wp2
          go_roundw
          case rel => exact ⟨i + 1, ⟨by omega, below_dn HBW.out nq⟩, rfl⟩
          case measure => simp [intOf]; omega
        · have hik : i = 6 := by omega
          subst hik
          have hq := KAT.out
          go_wp2_with fail
          go_quiet (fail)
          obtain ⟨W1, hW1⟩ : ∃ W1, wr.drewN nq = W1 := ⟨_, rfl⟩
          have HB1 : Hid (Below w.heap.size w W1) := by rw [← hW1]; exact below_dn HBW.out nq
          have HSZ : Hid (w.heap.size ≤ W1.heap.size) := HB1.out.size
          rw [hW1]
          clear hW1
          go_wp2_with fail
          refine (HN.out _).mono ?_
          rintro e w2 ⟨rfl, hb2⟩
          have HB2 : Hid (Below w.heap.size w w2) := HB1.out.trans (hb2.mono HSZ.out)
          clear hb2
          go_wp2
          go_returns
          exact ⟨rfl, HB2.out⟩
  have t2 : (T.toList == [45]) = false := by rw [ByteArray.toList_eq]; simpa using h2
  by_cases htt : T.data.toList = [116]
  · have tt : (T.toList == [116]) = true := by rw [ByteArray.toList_eq, htt]; rfl
    have tf : (T.toList == [102]) = false := by rw [ByteArray.toList_eq, htt]; rfl
    have hnn : numberOf [116] = none := by decide +kernel
    rw [htt] at HN ⊢
    rw [numT_none hnn] at HN
    clear htt hT0 h2
    cases half with
    | false =>
      have HE : Hid (partE 35 [116] false deep = 20) := by
        show _ = _
        unfold partE; simp
      rw [HE.out]
      go_enter Tryz.func33, Tryz.ntmps33
      go_wp2
      go_loopw [8] (fun ci wr => ∃ i : Nat, (i ≤ 6 ∧ Below w.heap.size w wr) ∧ ci = .int .i64 (i : Int)) (fun ci _ => 6 - (intOf ci).toNat)
      case atStart => exact ⟨0, ⟨Nat.zero_le _, Below.refl _ _⟩, rfl⟩
      case round =>
        obtain ⟨i, ⟨hi, hbw⟩, rfl⟩ := hrel
        have HBW : Hid (Below w.heap.size w wr) := hbw
        clear hbw
        have hz0 : (0 : Int) ≤ (i : Int) := by omega
        have hz1 : (i : Int) < 10 := by omega
        have hi10 : i < 10 := by omega
        by_cases hlt : i < 6
        · have hq := KIN.out i (by omega) hlt
          have hz9 : (i : Int) < 10 := by omega
          go_wp2_with fail
          go_quiet (fail)
          go_wp2
          go_roundw
          case rel => exact ⟨i + 1, ⟨by omega, below_dn HBW.out nq⟩, rfl⟩
          case measure => simp [intOf]; omega
        · have hik : i = 6 := by omega
          subst hik
          have hq := KAT.out
          go_wp2_with fail
          go_quiet (fail)
          obtain ⟨W1, hW1⟩ : ∃ W1, wr.drewN nq = W1 := ⟨_, rfl⟩
          have HB1 : Hid (Below w.heap.size w W1) := by rw [← hW1]; exact below_dn HBW.out nq
          have HSZ : Hid (w.heap.size ≤ W1.heap.size) := HB1.out.size
          rw [hW1]
          clear hW1
          go_wp2_with fail
          refine (HN.out _).mono ?_
          rintro e w2 ⟨rfl, hb2⟩
          have HB2 : Hid (Below w.heap.size w w2) := HB1.out.trans (hb2.mono HSZ.out)
          clear hb2
          go_wp2
          go_returns
          exact ⟨rfl, HB2.out⟩
    | true =>
      have HE : Hid (partE 35 [116] true deep = 20) := by
        show _ = _
        unfold partE; simp
      rw [HE.out]
      go_enter Tryz.func33, Tryz.ntmps33
      go_wp2
      go_loopw [8] (fun ci wr => ∃ i : Nat, (i ≤ 6 ∧ Below w.heap.size w wr) ∧ ci = .int .i64 (i : Int)) (fun ci _ => 6 - (intOf ci).toNat)
      case atStart => exact ⟨0, ⟨Nat.zero_le _, Below.refl _ _⟩, rfl⟩
      case round =>
        obtain ⟨i, ⟨hi, hbw⟩, rfl⟩ := hrel
        have HBW : Hid (Below w.heap.size w wr) := hbw
        clear hbw
        have hz0 : (0 : Int) ≤ (i : Int) := by omega
        have hz1 : (i : Int) < 10 := by omega
        have hi10 : i < 10 := by omega
        by_cases hlt : i < 6
        · have hq := KIN.out i (by omega) hlt
          have hz9 : (i : Int) < 10 := by omega
          go_wp2_with fail
          go_quiet (fail)
          go_wp2
          go_roundw
          case rel => exact ⟨i + 1, ⟨by omega, below_dn HBW.out nq⟩, rfl⟩
          case measure => simp [intOf]; omega
        · have hik : i = 6 := by omega
          subst hik
          have hq := KAT.out
          go_wp2_with fail
          go_quiet (fail)
          obtain ⟨W1, hW1⟩ : ∃ W1, wr.drewN nq = W1 := ⟨_, rfl⟩
          have HB1 : Hid (Below w.heap.size w W1) := by rw [← hW1]; exact below_dn HBW.out nq
          have HSZ : Hid (w.heap.size ≤ W1.heap.size) := HB1.out.size
          rw [hW1]
          clear hW1
          go_wp2_with fail
          refine (HN.out _).mono ?_
          rintro e w2 ⟨rfl, hb2⟩
          have HB2 : Hid (Below w.heap.size w w2) := HB1.out.trans (hb2.mono HSZ.out)
          clear hb2
          go_wp2
          go_returns
          exact ⟨rfl, HB2.out⟩
  have tt : (T.toList == [116]) = false := by rw [ByteArray.toList_eq]; simpa using htt
  by_cases htf : T.data.toList = [102]
  · have tf : (T.toList == [102]) = true := by rw [ByteArray.toList_eq, htf]; rfl
    have tt : (T.toList == [116]) = false := by rw [ByteArray.toList_eq, htf]; rfl
    have hnn : numberOf [102] = none := by decide +kernel
    rw [htf] at HN ⊢
    rw [numT_none hnn] at HN
    clear htf hT0 h2
    cases half with
    | false =>
      have HE : Hid (partE 35 [102] false deep = 20) := by
        show _ = _
        unfold partE; simp
      rw [HE.out]
      go_enter Tryz.func33, Tryz.ntmps33
      go_wp2
      go_loopw [8] (fun ci wr => ∃ i : Nat, (i ≤ 6 ∧ Below w.heap.size w wr) ∧ ci = .int .i64 (i : Int)) (fun ci _ => 6 - (intOf ci).toNat)
      case atStart => exact ⟨0, ⟨Nat.zero_le _, Below.refl _ _⟩, rfl⟩
      case round =>
        obtain ⟨i, ⟨hi, hbw⟩, rfl⟩ := hrel
        have HBW : Hid (Below w.heap.size w wr) := hbw
        clear hbw
        have hz0 : (0 : Int) ≤ (i : Int) := by omega
        have hz1 : (i : Int) < 10 := by omega
        have hi10 : i < 10 := by omega
        by_cases hlt : i < 6
        · have hq := KIN.out i (by omega) hlt
          have hz9 : (i : Int) < 10 := by omega
          go_wp2_with fail
          go_quiet (fail)
          go_wp2
          go_roundw
          case rel => exact ⟨i + 1, ⟨by omega, below_dn HBW.out nq⟩, rfl⟩
          case measure => simp [intOf]; omega
        · have hik : i = 6 := by omega
          subst hik
          have hq := KAT.out
          go_wp2_with fail
          go_quiet (fail)
          obtain ⟨W1, hW1⟩ : ∃ W1, wr.drewN nq = W1 := ⟨_, rfl⟩
          have HB1 : Hid (Below w.heap.size w W1) := by rw [← hW1]; exact below_dn HBW.out nq
          have HSZ : Hid (w.heap.size ≤ W1.heap.size) := HB1.out.size
          rw [hW1]
          clear hW1
          go_wp2_with fail
          refine (HN.out _).mono ?_
          rintro e w2 ⟨rfl, hb2⟩
          have HB2 : Hid (Below w.heap.size w w2) := HB1.out.trans (hb2.mono HSZ.out)
          clear hb2
          go_wp2
          go_returns
          exact ⟨rfl, HB2.out⟩
    | true =>
      have HE : Hid (partE 35 [102] true deep = 20) := by
        show _ = _
        unfold partE; simp
      rw [HE.out]
      go_enter Tryz.func33, Tryz.ntmps33
      go_wp2
      go_loopw [8] (fun ci wr => ∃ i : Nat, (i ≤ 6 ∧ Below w.heap.size w wr) ∧ ci = .int .i64 (i : Int)) (fun ci _ => 6 - (intOf ci).toNat)
      case atStart => exact ⟨0, ⟨Nat.zero_le _, Below.refl _ _⟩, rfl⟩
      case round =>
        obtain ⟨i, ⟨hi, hbw⟩, rfl⟩ := hrel
        have HBW : Hid (Below w.heap.size w wr) := hbw
        clear hbw
        have hz0 : (0 : Int) ≤ (i : Int) := by omega
        have hz1 : (i : Int) < 10 := by omega
        have hi10 : i < 10 := by omega
        by_cases hlt : i < 6
        · have hq := KIN.out i (by omega) hlt
          have hz9 : (i : Int) < 10 := by omega
          go_wp2_with fail
          go_quiet (fail)
          go_wp2
          go_roundw
          case rel => exact ⟨i + 1, ⟨by omega, below_dn HBW.out nq⟩, rfl⟩
          case measure => simp [intOf]; omega
        · have hik : i = 6 := by omega
          subst hik
          have hq := KAT.out
          go_wp2_with fail
          go_quiet (fail)
          obtain ⟨W1, hW1⟩ : ∃ W1, wr.drewN nq = W1 := ⟨_, rfl⟩
          have HB1 : Hid (Below w.heap.size w W1) := by rw [← hW1]; exact below_dn HBW.out nq
          have HSZ : Hid (w.heap.size ≤ W1.heap.size) := HB1.out.size
          rw [hW1]
          clear hW1
          go_wp2_with fail
          refine (HN.out _).mono ?_
          rintro e w2 ⟨rfl, hb2⟩
          have HB2 : Hid (Below w.heap.size w w2) := HB1.out.trans (hb2.mono HSZ.out)
          clear hb2
          go_wp2
          go_returns
          exact ⟨rfl, HB2.out⟩
  have tf : (T.toList == [102]) = false := by rw [ByteArray.toList_eq]; simpa using htf
  have h3 : T.data.toList ≠ [] := fun e => by rw [ByteArray.toList_eq, e] at te; cases te
  generalize T.data.toList = tl at *
  cases hn : numberOf tl with
  | none =>
    rw [numT_none hn] at HN
    cases half with
    | false =>
      have HE : Hid (partE 35 tl false deep = 120) := by show _ = _; unfold partE; simp [htt, htf, h3]
      clear h2 h3 hn htt htf
      rw [HE.out]
      go_enter Tryz.func33, Tryz.ntmps33
      go_wp2
      go_loopw [8] (fun ci wr => ∃ i : Nat, (i ≤ 6 ∧ Below w.heap.size w wr) ∧ ci = .int .i64 (i : Int)) (fun ci _ => 6 - (intOf ci).toNat)
      case atStart => exact ⟨0, ⟨Nat.zero_le _, Below.refl _ _⟩, rfl⟩
      case round =>
        obtain ⟨i, ⟨hi, hbw⟩, rfl⟩ := hrel
        have HBW : Hid (Below w.heap.size w wr) := hbw
        clear hbw
        have hz0 : (0 : Int) ≤ (i : Int) := by omega
        have hz1 : (i : Int) < 10 := by omega
        have hi10 : i < 10 := by omega
        by_cases hlt : i < 6
        · have hq := KIN.out i (by omega) hlt
          have hz9 : (i : Int) < 10 := by omega
          go_wp2_with fail
          go_quiet (fail)
          go_wp2
          go_roundw
          case rel => exact ⟨i + 1, ⟨by omega, below_dn HBW.out nq⟩, rfl⟩
          case measure => simp [intOf]; omega
        · have hik : i = 6 := by omega
          subst hik
          have hq := KAT.out
          go_wp2_with fail
          go_quiet (fail)
          obtain ⟨W1, hW1⟩ : ∃ W1, wr.drewN nq = W1 := ⟨_, rfl⟩
          have HB1 : Hid (Below w.heap.size w W1) := by rw [← hW1]; exact below_dn HBW.out nq
          have HSZ : Hid (w.heap.size ≤ W1.heap.size) := HB1.out.size
          rw [hW1]
          clear hW1
          go_wp2_with fail
          refine (HN.out _).mono ?_
          rintro e w2 ⟨rfl, hb2⟩
          have HB2 : Hid (Below w.heap.size w w2) := HB1.out.trans (hb2.mono HSZ.out)
          clear hb2
          go_wp2
          go_returns
          exact ⟨rfl, HB2.out⟩
    | true =>
      have HE : Hid (partE 35 tl true deep = 120) := by show _ = _; unfold partE; simp [htt, htf, h3]
      clear h2 h3 hn htt htf
      rw [HE.out]
      go_enter Tryz.func33, Tryz.ntmps33
      go_wp2
      go_loopw [8] (fun ci wr => ∃ i : Nat, (i ≤ 6 ∧ Below w.heap.size w wr) ∧ ci = .int .i64 (i : Int)) (fun ci _ => 6 - (intOf ci).toNat)
      case atStart => exact ⟨0, ⟨Nat.zero_le _, Below.refl _ _⟩, rfl⟩
      case round =>
        obtain ⟨i, ⟨hi, hbw⟩, rfl⟩ := hrel
        have HBW : Hid (Below w.heap.size w wr) := hbw
        clear hbw
        have hz0 : (0 : Int) ≤ (i : Int) := by omega
        have hz1 : (i : Int) < 10 := by omega
        have hi10 : i < 10 := by omega
        by_cases hlt : i < 6
        · have hq := KIN.out i (by omega) hlt
          have hz9 : (i : Int) < 10 := by omega
          go_wp2_with fail
          go_quiet (fail)
          go_wp2
          go_roundw
          case rel => exact ⟨i + 1, ⟨by omega, below_dn HBW.out nq⟩, rfl⟩
          case measure => simp [intOf]; omega
        · have hik : i = 6 := by omega
          subst hik
          have hq := KAT.out
          go_wp2_with fail
          go_quiet (fail)
          obtain ⟨W1, hW1⟩ : ∃ W1, wr.drewN nq = W1 := ⟨_, rfl⟩
          have HB1 : Hid (Below w.heap.size w W1) := by rw [← hW1]; exact below_dn HBW.out nq
          have HSZ : Hid (w.heap.size ≤ W1.heap.size) := HB1.out.size
          rw [hW1]
          clear hW1
          go_wp2_with fail
          refine (HN.out _).mono ?_
          rintro e w2 ⟨rfl, hb2⟩
          have HB2 : Hid (Below w.heap.size w w2) := HB1.out.trans (hb2.mono HSZ.out)
          clear hb2
          go_wp2
          go_returns
          exact ⟨rfl, HB2.out⟩
  | some n =>
    rw [numT_some hn] at HN
    cases half with
    | false =>
      have HE : Hid (partE 35 tl false deep = 120) := by show _ = _; unfold partE; simp [htt, htf, h3]
      clear h2 h3 hn htt htf
      rw [HE.out]
      go_enter Tryz.func33, Tryz.ntmps33
      go_wp2
      go_loopw [8] (fun ci wr => ∃ i : Nat, (i ≤ 6 ∧ Below w.heap.size w wr) ∧ ci = .int .i64 (i : Int)) (fun ci _ => 6 - (intOf ci).toNat)
      case atStart => exact ⟨0, ⟨Nat.zero_le _, Below.refl _ _⟩, rfl⟩
      case round =>
        obtain ⟨i, ⟨hi, hbw⟩, rfl⟩ := hrel
        have HBW : Hid (Below w.heap.size w wr) := hbw
        clear hbw
        have hz0 : (0 : Int) ≤ (i : Int) := by omega
        have hz1 : (i : Int) < 10 := by omega
        have hi10 : i < 10 := by omega
        by_cases hlt : i < 6
        · have hq := KIN.out i (by omega) hlt
          have hz9 : (i : Int) < 10 := by omega
          go_wp2_with fail
          go_quiet (fail)
          go_wp2
          go_roundw
          case rel => exact ⟨i + 1, ⟨by omega, below_dn HBW.out nq⟩, rfl⟩
          case measure => simp [intOf]; omega
        · have hik : i = 6 := by omega
          subst hik
          have hq := KAT.out
          go_wp2_with fail
          go_quiet (fail)
          obtain ⟨W1, hW1⟩ : ∃ W1, wr.drewN nq = W1 := ⟨_, rfl⟩
          have HB1 : Hid (Below w.heap.size w W1) := by rw [← hW1]; exact below_dn HBW.out nq
          have HSZ : Hid (w.heap.size ≤ W1.heap.size) := HB1.out.size
          rw [hW1]
          clear hW1
          go_wp2_with fail
          refine (HN.out _).mono ?_
          rintro e w2 ⟨rfl, hb2⟩
          have HB2 : Hid (Below w.heap.size w w2) := HB1.out.trans (hb2.mono HSZ.out)
          clear hb2
          go_wp2
          go_returns
          exact ⟨rfl, HB2.out⟩
    | true =>
      have HE : Hid (partE 35 tl true deep = 120) := by show _ = _; unfold partE; simp [htt, htf, h3]
      clear h2 h3 hn htt htf
      rw [HE.out]
      go_enter Tryz.func33, Tryz.ntmps33
      go_wp2
      go_loopw [8] (fun ci wr => ∃ i : Nat, (i ≤ 6 ∧ Below w.heap.size w wr) ∧ ci = .int .i64 (i : Int)) (fun ci _ => 6 - (intOf ci).toNat)
      case atStart => exact ⟨0, ⟨Nat.zero_le _, Below.refl _ _⟩, rfl⟩
      case round =>
        obtain ⟨i, ⟨hi, hbw⟩, rfl⟩ := hrel
        have HBW : Hid (Below w.heap.size w wr) := hbw
        clear hbw
        have hz0 : (0 : Int) ≤ (i : Int) := by omega
        have hz1 : (i : Int) < 10 := by omega
        have hi10 : i < 10 := by omega
        by_cases hlt : i < 6
        · have hq := KIN.out i (by omega) hlt
          have hz9 : (i : Int) < 10 := by omega
          go_wp2_with fail
          go_quiet (fail)
          go_wp2
          go_roundw
          case rel => exact ⟨i + 1, ⟨by omega, below_dn HBW.out nq⟩, rfl⟩
          case measure => simp [intOf]; omega
        · have hik : i = 6 := by omega
          subst hik
          have hq := KAT.out
          go_wp2_with fail
          go_quiet (fail)
          obtain ⟨W1, hW1⟩ : ∃ W1, wr.drewN nq = W1 := ⟨_, rfl⟩
          have HB1 : Hid (Below w.heap.size w W1) := by rw [← hW1]; exact below_dn HBW.out nq
          have HSZ : Hid (w.heap.size ≤ W1.heap.size) := HB1.out.size
          rw [hW1]
          clear hW1
          go_wp2_with fail
          refine (HN.out _).mono ?_
          rintro e w2 ⟨rfl, hb2⟩
          have HB2 : Hid (Below w.heap.size w w2) := HB1.out.trans (hb2.mono HSZ.out)
          clear hb2
          go_wp2
          go_returns
          exact ⟨rfl, HB2.out⟩
end Go.Proofs.YtnfbaeajalnmmaaGreatDoor
