import Derived.Test.YtnfbaeajalnmmaaGreatDoorHJ
import Derived.Test.YtnfbaeajalnmmaaGreatDoorNum4
import Derived.Test.YtnfbaeajalnmmaaGreatDoorRB
import Derived.Test.YtnfbaeajalnmmaaGreatDoorShelf2
import Derived.Test.YtnfbaeajalnmmaaGreatDoorShelf4
namespace Go.Proofs.YtnfbaeajalnmmaaGreatDoor
open Go.RowKit Vi
set_option linter.unusedVariables false
set_option linter.unusedSimpArgs false
/-- what is old stands as it stood, but for one block. -/
structure Dx (q : Nat) (w w' : World) : Prop where
  os : w'.os = w.os
  tape : w'.tape = w.tape
  output : w'.output = w.output
  size : w.heap.size ≤ w'.heap.size
  other : ∀ k, k < w.heap.size → k ≠ q → w'.heap[k]? = w.heap[k]?
theorem Dx.refl (q : Nat) (w : World) : Dx q w w := ⟨rfl, rfl, rfl, Nat.le_refl _, fun _ _ _ => rfl⟩
theorem Dx.trans {q : Nat} {a b c : World} (h : Dx q a b) (h' : Dx q b c) : Dx q a c :=
  ⟨h'.os.trans h.os, h'.tape.trans h.tape, h'.output.trans h.output, Nat.le_trans h.size h'.size, fun k hk hq => (h'.other k (Nat.lt_of_lt_of_le hk h.size) hq).trans (h.other k hk hq)⟩
theorem Dx.of {q : Nat} {a b : World} (h : Below a.heap.size a b) : Dx q a b := ⟨h.os, h.tape, h.output, h.size, fun k hk _ => h.block k hk⟩
theorem Dx.only {q : Nat} {a b : World} (h : Only a b q) : Dx q a b := ⟨h.os, h.tape, h.output, Nat.le_of_eq h.size.symm, fun k _ hq => h.other k hq⟩
theorem Dx.dn {q : Nat} {a b : World} (h : Dx q a b) (n : Nat) : Dx q a (b.drewN n) := ⟨h.os, h.tape, h.output, h.size, h.other⟩
theorem Dx.below {q B : Nat} {a b : World} (h : Dx q a b) (hB : B ≤ q) (hs : B ≤ a.heap.size) : Below B a b := ⟨h.os, h.tape, h.output, h.size, fun k hk => h.other k (by omega) (by omega)⟩
theorem Dx.row {q g : Nat} {a b : World} {o : Obj} (h : Dx q a b) (hr : a.heap[g]? = some o) (hq : g ≠ q) : b.heap[g]? = some o := by rw [h.other g (row_lt hr) hq]; exact hr
/-- a block that was made since may change too. -/
theorem Dx.set {q g : Nat} {a b c : World} (h : Dx q a b) (ho : Only b c g) (hg : a.heap.size ≤ g) : Dx q a c :=
  ⟨ho.os.trans h.os, ho.tape.trans h.tape, ho.output.trans h.output, by rw [ho.size]; exact h.size, fun k hk hq => (ho.other k (by omega)).trans (h.other k hk hq)⟩
/-- a decoder in memory. -/
def DkR (w : World) (q : Nat) (s : ByteArray) (i : Nat) : Prop := w.heap[q]? = some (.cells #[.string s, .int .i64 (i : Int)] 37)
theorem DkR.cells {w : World} {q : Nat} {s : ByteArray} {i : Nat} (h : DkR w q s i) : w.cell? ⟨q, 0, none⟩ = some (.string s) ∧ w.cell? ⟨q, 1, none⟩ = some (.int .i64 (i : Int)) ∧ ∀ j, w.frozen? ⟨q, j, none⟩ = false := by
  unfold DkR at h
  refine ⟨?_, ?_, fun j => frozen_of_row _ _ _ _ _ h⟩ <;> rw [cell_of_row _ _ _ _ _ _ h] <;> rfl
theorem DkR.on {w w' : World} {q : Nat} {s : ByteArray} {i : Nat} (h : DkR w q s i) (hb : Below w.heap.size w w') : DkR w' q s i := keep_row h hb
theorem DkR.dn {w : World} {q : Nat} {s : ByteArray} {i : Nat} (h : DkR w q s i) (n : Nat) : DkR (w.drewN n) q s i := h
theorem DkR.lt {w : World} {q : Nat} {s : ByteArray} {i : Nat} (h : DkR w q s i) : q < w.heap.size := row_lt h
theorem DkR.set {w : World} {q : Nat} {s : ByteArray} {i : Nat} (h : DkR w q s i) (j : Nat) : DkR (w.setCell ⟨q, 1, none⟩ (.int .i64 (j : Int))) q s j ∧ Only w (w.setCell ⟨q, 1, none⟩ (.int .i64 (j : Int))) q := by
  refine ⟨?_, (Only.refl w q).set _ _⟩
  unfold DkR at *
  rw [heap_setCell_same _ _ _ _ _ _ h]; rfl
theorem rest_list (s : ByteArray) (i : Nat) (hi : i ≤ s.size) : (s.extract i s.size).data.toList = s.data.toList.drop i := by
  rw [ext_any, List.take_of_length_le]; rw [List.length_drop, list_len]; exact Nat.le_refl _
theorem hp_zero (l : By) : Lib.hasPrefix l [13, 10] = decide (endE l = 0) := by
  unfold Lib.hasPrefix endE
  match l with
  | [] => rfl
  | [c] => by_cases h : c = 13 <;> simp [h, List.isPrefixOf]
  | c :: d :: t => by_cases h : c = 13 <;> by_cases h2 : d = 10 <;> simp [h, h2, List.isPrefixOf] <;> (first | (intro e; exact h e.symm) | (intro _ e; exact h2 e.symm) | (intro e; exact h2 e.symm) | (rw [eq_comm]; assumption) | skip)
theorem hp_short (l : By) (h0 : endE l ≠ 0) : Lib.hasPrefix [13, 10] l = decide (endE l = 20) := by
  unfold Lib.hasPrefix
  match l, h0 with
  | [], _ => rfl
  | [c], _ => by_cases h : c = 13 <;> simp [h, endE, List.isPrefixOf]
  | [c, d], h0 =>
    by_cases h : c = 13 ∧ d = 10
    · exact absurd (by simp [endE, h]) h0
    · simp [endE, h, List.isPrefixOf]
      exact fun h1 h2 => h ⟨h1, h2⟩
  | c :: d :: x :: t, h0 =>
    by_cases h : c = 13 ∧ d = 10
    · exact absurd (by simp [endE, h]) h0
    · simp [endE, h, List.isPrefixOf]
set_option maxHeartbeats 1000000 in
/-- a line's end is taken. -/
theorem end_any (q : Nat) (s : ByteArray) (i : Nat) (hs : s.size ≤ 281474976710656) (hi : i ≤ s.size) (w : World) (h : DkR w q s i) :
    Calls Tryz.prog 22 #[.pointer (some ⟨q, 0, none⟩)] w fun e w' => e = .returned (.int .i64 (endE (s.data.toList.drop i) : Int)) ∧ Dx q w w' ∧ (endE (s.data.toList.drop i) = 0 → DkR w' q s (i + 2)) := by
  obtain ⟨c0, c1, cf⟩ := h.cells
  have HR : Hid (DkR w q s i) := h
  have hl := rest_list s i hi
  have hz0 : (0 : Int) ≤ (i : Int) := by omega
  have hz1 : (i : Int) ≤ (s.size : Int) := by omega
  obtain ⟨T, hT⟩ : ∃ T, s.extract i s.size = T := ⟨_, rfl⟩
  rw [hT] at hl
  have HP1 : Hid (∀ W, Calls Tryz.prog 43 #[.string T, .string ⟨#[13, 10]⟩] W fun e w' => e = .returned (.bool (decide (endE (s.data.toList.drop i) = 0))) ∧ w' = W) := fun W => by
    have h0 := Tryz.strings_HasPrefix T ⟨#[13, 10]⟩ W
    rw [hl, show (⟨#[13, 10]⟩ : ByteArray).data.toList = [13, 10] from rfl, hp_zero] at h0
    exact h0
  obtain ⟨x, hx⟩ : ∃ x, endE (s.data.toList.drop i) = x := ⟨_, rfl⟩
  have HP2 : Hid (x ≠ 0 → ∀ W, Calls Tryz.prog 43 #[.string ⟨#[13, 10]⟩, .string T] W fun e w' => e = .returned (.bool (decide (x = 20))) ∧ w' = W) := fun hx0 W => by
    have h0 := Tryz.strings_HasPrefix ⟨#[13, 10]⟩ T W
    rw [hl, show (⟨#[13, 10]⟩ : ByteArray).data.toList = [13, 10] from rfl, hp_short _ (by rw [hx]; exact hx0), hx] at h0
    exact h0
  have hxc := endE_cases (s.data.toList.drop i)
  rw [hx] at HP1 hxc ⊢
  have hiw : IntKind.i64.wrap ((i : Int) + 2) = ((i + 2 : Nat) : Int) := by rw [IntKind.wrap_i64] <;> omega
  clear h hl hx
  rcases hxc with rfl | rfl | rfl
  · go_enter Tryz.func22, Tryz.ntmps22
    go_wp2_with fail
    go_quiet (fail)
    go_wp2_with fail
    refine (HP1.out _).mono ?_
    rintro e w1 ⟨rfl, rfl⟩
    have HS : Hid _ := (HR.out.dn nq).set (i + 2)
    have d1 : (w.drewN nq).cell? ⟨q, 1, none⟩ = some (.int .i64 (i : Int)) := c1
    have df : ∀ j, (w.drewN nq).frozen? ⟨q, j, none⟩ = false := cf
    go_wp2
    go_returns
    exact ⟨rfl, ((Dx.refl q w).dn nq).trans (Dx.only HS.out.2), fun _ => HS.out.1⟩
  · go_enter Tryz.func22, Tryz.ntmps22
    go_wp2_with fail
    go_quiet (fail)
    go_wp2_with fail
    refine (HP1.out _).mono ?_
    rintro e w1 ⟨rfl, rfl⟩
    go_wp2_with fail
    refine (HP2.out (by decide) _).mono ?_
    rintro e w1 ⟨rfl, rfl⟩
    go_wp2
    go_returns
    exact ⟨rfl, (Dx.refl q w).dn nq, fun e => by cases e⟩
  · go_enter Tryz.func22, Tryz.ntmps22
    go_wp2_with fail
    go_quiet (fail)
    go_wp2_with fail
    refine (HP1.out _).mono ?_
    rintro e w1 ⟨rfl, rfl⟩
    go_wp2_with fail
    refine (HP2.out (by decide) _).mono ?_
    rintro e w1 ⟨rfl, rfl⟩
    go_wp2
    go_returns
    exact ⟨rfl, (Dx.refl q w).dn nq, fun e => by cases e⟩
end Go.Proofs.YtnfbaeajalnmmaaGreatDoor
namespace Go.Proofs.YtnfbaeajalnmmaaGreatDoor
open Go.RowKit Vi
set_option linter.unusedVariables false
set_option linter.unusedSimpArgs false
theorem min_same {t : ByteArray} (h : t.data.toList = [45]) : (t.toList == [45]) = true := by rw [ByteArray.toList_eq, h]; rfl
theorem min_other {t : ByteArray} (h : t.data.toList ≠ [45]) : (t.toList == [45]) = false := by rw [ByteArray.toList_eq]; simpa using h
set_option maxHeartbeats 1000000 in
set_option maxRecDepth 20000 in
theorem cut_num (t : ByteArray) (a b : Int) (hs : t.size ≤ 281474976710656) (h0 : t.toList.isEmpty = false) (h1 : ¬ (t.data.toList = [45] ∧ a < 0)) (w : World) (hL : Laid w) :
    Calls Tryz.prog 41 #[.string t, .int .i64 a, .int .i64 b] w fun e w' => e = .returned (.int .i64 (cutE t.data.toList a b : Int)) ∧ Below w.heap.size w w' := by
  have hne : t.data.toList ≠ [] := by
    intro e
    rw [ByteArray.toList_eq, e] at h0; cases h0
  have HC : Hid (cutE t.data.toList a b = (match numberOf t.data.toList with | some n => if a ≤ n ∧ n ≤ b then 20 else 120 | none => 120)) := by
    show _ = _
    unfold cutE
    rw [if_neg (by rintro (h | h); exact hne h; exact h1 h)]
    rfl
  have HN : Hid _ := number_any t hs w hL
  obtain ⟨m1, hm1⟩ : ∃ m : Bool, (t.toList == [45]) = m := ⟨_, rfl⟩
  have h9 : m1 = true → decide (a < 0) = false := fun e => by
    rw [e] at hm1
    simp only [decide_eq_false_iff_not]
    intro ha
    exact h1 ⟨by rw [ByteArray.toList_eq] at hm1; simpa using hm1, ha⟩
  clear hL hne h1
  cases hnn : numberOf t.data.toList with
  | none =>
    rw [numT_none hnn] at HN
    have HE : Hid (cutE t.data.toList a b = 120) := by rw [hnn] at HC; exact HC.out
    rw [HE.out]
    clear hnn HC
    cases m1 with
    | true =>
      have ha := h9 rfl
      clear h9
      go_enter Tryz.func41, Tryz.ntmps41
      go_wp2_with fail
      refine (show Calls _ _ _ _ _ from HN.out).mono ?_
      rintro e w1 ⟨rfl, hb1⟩
      have HB1 : Hid _ := hb1
      clear hb1
      go_wp2
      go_returns
      exact ⟨rfl, HB1.out⟩
    | false =>
      clear h9
      go_enter Tryz.func41, Tryz.ntmps41
      go_wp2_with fail
      refine (show Calls _ _ _ _ _ from HN.out).mono ?_
      rintro e w1 ⟨rfl, hb1⟩
      have HB1 : Hid _ := hb1
      clear hb1
      go_wp2
      go_returns
      exact ⟨rfl, HB1.out⟩
  | some n =>
    rw [numT_some hnn] at HN
    obtain ⟨d1, hd1⟩ : ∃ d, decide (a ≤ n) = d := ⟨_, rfl⟩
    obtain ⟨d2, hd2⟩ : ∃ d, decide (n ≤ b) = d := ⟨_, rfl⟩
    have HE : Hid (cutE t.data.toList a b = if (d1 && d2) = true then 20 else 120) := by
      rw [hnn] at HC
      show _ = _
      rw [HC.out, ← hd1, ← hd2]
      simp
    rw [HE.out]
    clear hnn HC HE
    cases m1 <;> cases d1 <;> cases d2
    all_goals
      have h8 := h9
      clear h9
      simp only [forall_const, reduceCtorEq, false_implies] at h8
      go_enter Tryz.func41, Tryz.ntmps41
      go_wp2_with fail
      refine (show Calls _ _ _ _ _ from HN.out).mono ?_
      rintro e w1 ⟨rfl, hb1⟩
      have HB1 : Hid _ := hb1
      clear hb1
      go_wp2
      go_returns
      exact ⟨rfl, HB1.out⟩
set_option maxHeartbeats 1000000 in
theorem cut_any (t : ByteArray) (a b : Int) (hs : t.size ≤ 281474976710656) (w : World) (hL : Laid w) :
    Calls Tryz.prog 41 #[.string t, .int .i64 a, .int .i64 b] w fun e w' => e = .returned (.int .i64 (cutE t.data.toList a b : Int)) ∧ Below w.heap.size w w' := by
  by_cases h0 : t.size = 0
  · have ht := str_empty h0
    have HE : Hid (cutE t.data.toList a b = 20) := by
      show _ = _
      have : t.data.toList = [] := by rw [empty_str t h0]
      rw [this]; unfold cutE; rw [if_pos (Or.inl rfl)]
    rw [HE.out]
    clear hL
    go_enter Tryz.func41, Tryz.ntmps41
    go_wp2
    go_returns
    exact ⟨rfl, Below.refl _ _⟩
  by_cases h1 : t.data.toList = [45] ∧ a < 0
  · have ht := str_full h0
    have hm := min_same h1.1
    have ha : decide (a < 0) = true := by simpa using h1.2
    have HE : Hid (cutE t.data.toList a b = 20) := by
      show _ = _
      unfold cutE; rw [if_pos (Or.inr h1)]
    rw [HE.out]
    clear hL h1
    go_enter Tryz.func41, Tryz.ntmps41
    go_wp2
    go_returns
    exact ⟨rfl, Below.refl _ _⟩
  · exact cut_num t a b hs (str_full h0) h1 w hL
theorem ix_none (l : By) (h : crAt l = none) : Lib.indexByte l 13 = -1 := by
  induction l with
  | nil => rfl
  | cons c t ih =>
    unfold crAt at h ih
    rw [List.findIdx?_cons] at h
    unfold Lib.indexByte
    by_cases hc : c = 13
    · subst hc; simp at h
    · have e : (c == 13) = false := by simpa using hc
      rw [e] at h
      simp at h
      have := ih (by rw [List.findIdx?_eq_none_iff]; simpa using h)
      simp [hc, this]
theorem ix_some (l : By) (i : Nat) (h : crAt l = some i) : Lib.indexByte l 13 = (i : Int) := by
  induction l generalizing i with
  | nil => cases h
  | cons c t ih =>
    unfold crAt at h ih
    rw [List.findIdx?_cons] at h
    unfold Lib.indexByte
    by_cases hc : c = 13
    · subst hc; simp at h; subst h; simp
    · have e : (c == 13) = false := by simpa using hc
      rw [e] at h
      simp at h
      obtain ⟨j, hj, rfl⟩ := h
      have := ih j (by rw [hj])
      simp [hc, this]
end Go.Proofs.YtnfbaeajalnmmaaGreatDoor
namespace Go.Proofs.YtnfbaeajalnmmaaGreatDoor
open Go.RowKit Vi
set_option linter.unusedVariables false
set_option linter.unusedSimpArgs false
theorem nu_range {r : By} {a b n : Int} {z i L : Nat} (hab : a ≤ b) (h : nuE r a b = (0, n, z)) (hL : r.length + i ≤ L) : a ≤ n ∧ n ≤ b ∧ i + z ≤ L := by
  unfold nuE at h
  rw [if_neg (by omega)] at h
  split at h
  · injection h with h1 h2
    rcases cutE_cases (r.take 21) a b with h9 | h9 <;> rw [h9] at h1 <;> cases h1
  · rename_i j hj
    split at h
    · cases h
    · rename_i m hm
      split at h
      · cases h
      · rename_i hr
        split at h
        · rename_i he
          injection h with h1 h2
          injection h2 with h2 h3
          obtain ⟨t, ht⟩ := endE_zero he
          have := congrArg List.length ht
          rw [List.length_drop] at this
          simp only [List.length_cons] at this
          refine ⟨by omega, by omega, by omega⟩
        · rename_i he
          injection h with h1 h2
          exact absurd h1 he
/-- what number answers. -/
def NuIs (r : By) (a b : Int) (q : Nat) (s : ByteArray) (i : Nat) (w w' : World) (e : Ending) : Prop :=
  ∃ n, e = .returned (.tuple #[.int .i64 n, .int .i64 ((nuE r a b).1 : Int)]) ∧ Dx q w w' ∧ ((nuE r a b).1 = 0 → n = (nuE r a b).2.1 ∧ DkR w' q s (i + (nuE r a b).2.2))
set_option maxHeartbeats 2000000 in
set_option maxRecDepth 20000 in
theorem dnum_any (q : Nat) (s : ByteArray) (i : Nat) (a b : Int) (hs : s.size ≤ 281474976710656) (hi : i ≤ s.size) (w : World) (h : DkR w q s i) (hL : Laid w) :
    Calls Tryz.prog 20 #[.pointer (some ⟨q, 0, none⟩), .int .i64 a, .int .i64 b] w fun e w' => NuIs (s.data.toList.drop i) a b q s i w w' e := by
  obtain ⟨c0, c1, cf⟩ := h.cells
  have HR : Hid (DkR w q s i) := h
  have HL : Hid (Laid w) := hL
  have hl := rest_list s i hi
  have hz0 : (0 : Int) ≤ (i : Int) := by omega
  have hz1 : (i : Int) ≤ (s.size : Int) := by omega
  obtain ⟨r, hr⟩ : ∃ r, s.data.toList.drop i = r := ⟨_, rfl⟩
  obtain ⟨T, hT⟩ : ∃ T, s.extract i s.size = T := ⟨_, rfl⟩
  rw [hr] at hl ⊢
  rw [hT] at hl
  have hTs : T.size ≤ 281474976710656 := by rw [← hT, ext_size _ _ _ (Nat.le_refl _)]; omega
  by_cases hab : b < a
  · have hd : decide (b < a) = true := dec_t hab
    have HN : Hid ((nuE r a b) = (120, 0, 0)) := by show _ = _; unfold nuE; rw [if_pos hab]
    unfold NuIs
    rw [HN.out]
    clear hab h hl hr
    go_enter Tryz.func20, Tryz.ntmps20
    go_wp2
    go_returns
    exact ⟨_, rfl, Dx.refl q w, fun e => by cases e⟩
  have hd : decide (b < a) = false := dec_f hab
  obtain ⟨m, hm⟩ : ∃ m : Nat, m = min T.size 21 := ⟨_, rfl⟩
  have hmin : min (T.size : Int) 21 = (m : Int) := by omega
  have hm0 : (0 : Int) ≤ (m : Int) := by omega
  have hmT : (m : Int) ≤ (T.size : Int) := by omega
  obtain ⟨U, hU⟩ : ∃ U, T.extract 0 m = U := ⟨_, rfl⟩
  have hUl : U.data.toList = r.take 21 := by
    rw [← hU, ext_any, List.drop_zero, Nat.sub_zero, hl, hm]
    rcases Nat.le_total T.size 21 with e | e
    · rw [Nat.min_eq_left e, List.take_of_length_le (by rw [← hl, list_len]; exact Nat.le_refl _), List.take_of_length_le (by rw [← hl, list_len]; exact e)]
    · rw [Nat.min_eq_right e]
  have hUs : U.size ≤ 21 := by rw [← list_len, hUl, List.length_take]; omega
  have HIB : Hid (∀ W, Calls Tryz.prog 40 #[.string U, .int .u8 13] W fun e w' => e = .returned (.int .i64 (Lib.indexByte (r.take 21) 13)) ∧ w' = W) := fun W => by
    have h0 := Tryz.strings_IndexByte U 13 W
    rw [show (Int.toNat 13).toUInt8 = (13 : UInt8) from rfl, hUl] at h0
    exact h0
  clear h hL
  cases hc : crAt (r.take 21) with
  | none =>
    rw [ix_none _ hc] at HIB
    have HN : Hid (nuE r a b = (cutE (r.take 21) a b, 0, 0)) := by show _ = _; unfold nuE; rw [if_neg hab, hc]
    have hcc := cutE_cases (r.take 21) a b
    have HCU : Hid (∀ W, Laid W → Calls Tryz.prog 41 #[.string U, .int .i64 a, .int .i64 b] W fun e w' => e = .returned (.int .i64 (cutE (r.take 21) a b : Int)) ∧ Below W.heap.size W w') := fun W hW => by
      have := cut_any U a b (by omega) W hW
      rw [hUl] at this
      exact this
    unfold NuIs
    rw [HN.out]
    clear hab hl hr hc HN hm hUl
    generalize cutE (r.take 21) a b = x at *
    go_enter Tryz.func20, Tryz.ntmps20
    go_wp2_with fail
    go_quiet (fail)
    go_wp2_with fail
    refine (HIB.out _).mono ?_
    rintro e w1 ⟨rfl, rfl⟩
    go_wp2_with fail
    refine (HCU.out _ (HL.out.on (below_dn (Below.refl _ _) nq))).mono ?_
    rintro e w1 ⟨rfl, hb1⟩
    have HB1 : Hid (Dx q w w1) := ((Dx.refl q w).dn nq).trans (Dx.of hb1)
    clear hb1
    go_wp2
    go_returns
    exact ⟨_, rfl, HB1.out, fun e => by have e : x = 0 := e; rcases hcc with h | h <;> omega⟩
  | some j =>
    rw [ix_some _ _ hc] at HIB
    obtain ⟨hjl, hj13, hjn⟩ := cr_some hc
    have hjU : (j : Int) ≤ (U.size : Int) := by rw [← list_len U, hUl]; omega
    have hj0 : (0 : Int) ≤ (j : Int) := by omega
    have hjs : i + j + 2 ≤ s.size + 2 := by
      have : j < r.length := by rw [List.length_take] at hjl; omega
      rw [← hr, List.length_drop, list_len] at this; omega
    obtain ⟨V, hV⟩ : ∃ V, U.extract 0 j = V := ⟨_, rfl⟩
    have hVl : V.data.toList = r.take j := by
      rw [← hV, ext_any, List.drop_zero, Nat.sub_zero, hUl, List.take_take]
      congr 1
      rw [List.length_take] at hjl; omega
    have hVs : V.size ≤ 281474976710656 := by rw [← list_len, hVl, List.length_take]; rw [List.length_take] at hjl; omega
    have HNM : Hid (∀ W, Laid W → Calls Tryz.prog 42 #[.string V] W fun e w' => e = .returned (numT (r.take j)) ∧ Below W.heap.size W w') := fun W hW => by
      have := number_any V hVs W hW
      rw [hVl] at this
      exact this
    have hdr : r.drop j = s.data.toList.drop (i + j) := by rw [← hr, List.drop_drop]
    have hjw : IntKind.i64.wrap ((i : Int) + (j : Int)) = ((i + j : Nat) : Int) := by rw [IntKind.wrap_i64] <;> omega
    cases hnn : numberOf (r.take j) with
    | none =>
      rw [numT_none hnn] at HNM
      have HN : Hid (nuE r a b = (120, 0, 0)) := by show _ = _; unfold nuE; rw [if_neg hab, hc]; simp only; rw [hnn]
      unfold NuIs
      rw [HN.out]
      clear hab hl hr hc HN hnn hVl hUl hdr hm hjn hj13 hjl
      go_enter Tryz.func20, Tryz.ntmps20
      go_wp2_with fail
      go_quiet (fail)
      go_wp2_with fail
      refine (HIB.out _).mono ?_
      rintro e w1 ⟨rfl, rfl⟩
      go_wp2_with fail
      refine (HNM.out _ (HL.out.on (below_dn (Below.refl _ _) nq))).mono ?_
      rintro e w1 ⟨rfl, hb1⟩
      have HB1 : Hid (Dx q w w1) := ((Dx.refl q w).dn nq).trans (Dx.of hb1)
      clear hb1
      go_wp2
      go_returns
      exact ⟨_, rfl, HB1.out, fun e => by cases e⟩
    | some n =>
      rw [numT_some hnn] at HNM
      by_cases hrg : n < a ∨ b < n
      · have HN : Hid (nuE r a b = (120, 0, 0)) := by show _ = _; unfold nuE; rw [if_neg hab, hc]; simp only; rw [hnn]; simp only; rw [if_pos hrg]
        unfold NuIs
        rw [HN.out]
        clear hab hl hr hc HN hnn hVl hUl hdr hm hjn hj13 hjl
        obtain ⟨d1, hd1⟩ : ∃ d, decide (n < a) = d := ⟨_, rfl⟩
        obtain ⟨d2, hd2⟩ : ∃ d, decide (b < n) = d := ⟨_, rfl⟩
        have hdd : d1 = true ∨ d2 = true := by
          rcases hrg with h | h
          · left; rw [← hd1]; simpa using h
          · right; rw [← hd2]; simpa using h
        clear hrg
        cases d1 <;> cases d2 <;> first | (exact absurd hdd (by decide)) | skip
        all_goals
          clear hdd
          go_enter Tryz.func20, Tryz.ntmps20
          go_wp2_with fail
          go_quiet (fail)
          go_wp2_with fail
          refine (HIB.out _).mono ?_
          rintro e w1 ⟨rfl, rfl⟩
          go_wp2_with fail
          refine (HNM.out _ (HL.out.on (below_dn (Below.refl _ _) nq))).mono ?_
          rintro e w1 ⟨rfl, hb1⟩
          have HB1 : Hid (Dx q w w1) := ((Dx.refl q w).dn nq).trans (Dx.of hb1)
          clear hb1
          go_wp2
          go_returns
          exact ⟨_, rfl, HB1.out, fun e => by cases e⟩
      · have hd1 : decide (n < a) = false := dec_f (fun h => hrg (Or.inl h))
        have hd2 : decide (b < n) = false := dec_f (fun h => hrg (Or.inr h))
        obtain ⟨x, hx⟩ : ∃ x, endE (r.drop j) = x := ⟨_, rfl⟩
        have HN : Hid ((nuE r a b).1 = x ∧ (x = 0 → nuE r a b = (0, n, j + 2))) := by
          show _ ∧ _
          unfold nuE
          rw [if_neg hab, hc]; simp only; rw [hnn]; simp only; rw [if_neg hrg, hx]
          constructor
          · split
            · rename_i h0; rw [h0]
            · rfl
          · intro h0; rw [if_pos h0]
        have HEN : Hid (∀ W, DkR W q s (i + j) → Calls Tryz.prog 22 #[.pointer (some ⟨q, 0, none⟩)] W fun e w' => e = .returned (.int .i64 (x : Int)) ∧ Dx q W w' ∧ (x = 0 → DkR w' q s (i + j + 2))) := fun W hW => by
          have := end_any q s (i + j) hs (by omega) W hW
          rw [← hdr, hx] at this
          exact this
        unfold NuIs
        rw [HN.out.1]
        clear hab hl hr hc hnn hVl hUl hdr hm hjn hj13 hjl hrg hx
        go_enter Tryz.func20, Tryz.ntmps20
        go_wp2_with fail
        go_quiet (fail)
        go_wp2_with fail
        refine (HIB.out _).mono ?_
        rintro e w1 ⟨rfl, rfl⟩
        go_wp2_with fail
        refine (HNM.out _ (HL.out.on (below_dn (Below.refl _ _) nq))).mono ?_
        rintro e w1 ⟨rfl, hb1⟩
        have HB1 : Hid (Dx q w w1) := ((Dx.refl q w).dn nq).trans (Dx.of hb1)
        have HR1 : Hid (DkR w1 q s i) := (HR.out.dn nq).on hb1
        obtain ⟨d0, d1, df⟩ := HR1.out.cells
        have HS1 : Hid _ := HR1.out.set (i + j)
        clear hb1
        go_wp2_with fail
        refine (HEN.out _ HS1.out.1).mono ?_
        rintro e w2 ⟨rfl, hx2, hk2⟩
        have HX2 : Hid (Dx q w w2) := (HB1.out.trans (Dx.only HS1.out.2)).trans hx2
        have HK2 : Hid _ := hk2
        clear hx2 hk2
        go_wp2
        go_returns
        refine ⟨_, rfl, HX2.out, fun e => ?_⟩
        have e : x = 0 := e
        rw [HN.out.2 e]
        exact ⟨rfl, HK2.out e⟩
theorem dnum_ok (q : Nat) (s : ByteArray) (i : Nat) (a b n : Int) (z : Nat) (hs : s.size ≤ 281474976710656) (hi : i ≤ s.size) (w : World) (h : DkR w q s i) (hL : Laid w) (hn : nuE (s.data.toList.drop i) a b = (0, n, z)) :
    Calls Tryz.prog 20 #[.pointer (some ⟨q, 0, none⟩), .int .i64 a, .int .i64 b] w fun e w' => e = .returned (.tuple #[.int .i64 n, .int .i64 0]) ∧ Dx q w w' ∧ DkR w' q s (i + z) := by
  refine (dnum_any q s i a b hs hi w h hL).mono ?_
  rintro e w' ⟨n', rfl, hd, hk⟩
  rw [hn] at hk ⊢
  obtain ⟨rfl, hk⟩ := hk rfl
  exact ⟨rfl, hd, hk⟩
theorem dnum_err (q : Nat) (s : ByteArray) (i : Nat) (a b : Int) (x : Nat) (hs : s.size ≤ 281474976710656) (hi : i ≤ s.size) (w : World) (h : DkR w q s i) (hL : Laid w) (hn : (nuE (s.data.toList.drop i) a b).1 = x) :
    Calls Tryz.prog 20 #[.pointer (some ⟨q, 0, none⟩), .int .i64 a, .int .i64 b] w fun e w' => (∃ n, e = .returned (.tuple #[.int .i64 n, .int .i64 (x : Int)])) ∧ Dx q w w' := by
  refine (dnum_any q s i a b hs hi w h hL).mono ?_
  rintro e w' ⟨n', rfl, hd, hk⟩
  rw [hn]
  exact ⟨⟨n', rfl⟩, hd⟩
end Go.Proofs.YtnfbaeajalnmmaaGreatDoor
