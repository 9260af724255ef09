import Derived.Test.YtgiicfgekicfcaaGreatDoorDtN
namespace Go.Proofs.Vi
open Go.Lib
set_option linter.unusedVariables false
set_option linter.unusedSimpArgs false
theorem dig_pre : ∀ (u : Nat) (x y : By), decDigits u = x ++ y → x = [] ∨ ∃ m, m ≤ u ∧ (1 ≤ u → 1 ≤ m) ∧ x = decDigits m := by
  intro u
  induction u using Nat.strongRecOn with
  | ind u ih =>
    intro x y h
    rcases List.eq_nil_or_concat y with rfl | ⟨y', c, rfl⟩
    · exact Or.inr ⟨u, Nat.le_refl _, id, by simpa using h.symm⟩
    · rw [List.concat_eq_append] at h
      have hs := digits_step u []
      rw [List.append_nil, h] at hs
      rw [← List.append_assoc] at hs
      obtain ⟨h1, -⟩ := List.append_inj' hs rfl
      split at h1
      · have := congrArg List.length h1
        simp at this
        exact Or.inl (List.eq_nil_of_length_eq_zero (by omega))
      · rename_i hne
        rcases ih (u / 10) (by omega) x y' h1 with e | ⟨m, e1, e2, e3⟩
        · exact Or.inl e
        · exact Or.inr ⟨m, by omega, fun _ => e2 (by omega), e3⟩
/-- a beginning of a number. -/
theorem itoa_pre (n : Int) (x y : By) (h : itoa n = x ++ y) : x = [] ∨ (x = [45] ∧ n < 0) ∨ ∃ m : Int, x = itoa m ∧ ((0 ≤ n ∧ 0 ≤ m ∧ m ≤ n) ∨ (n < 0 ∧ n ≤ m ∧ m ≤ -1)) := by
  by_cases hn : n < 0
  · obtain ⟨u, hu⟩ : ∃ u : Nat, n = -(u : Int) := ⟨n.natAbs, by omega⟩
    subst hu
    rw [itoa_neg u (by omega)] at h
    cases x with
    | nil => exact Or.inl rfl
    | cons c x =>
      have h' : 45 :: decDigits u = c :: (x ++ y) := h
      injection h' with hc h'
      subst hc
      rcases dig_pre u x y h' with e | ⟨m, e1, e2, e3⟩
      · subst e; exact Or.inr (Or.inl ⟨rfl, hn⟩)
      · have := e2 (by omega)
        exact Or.inr (Or.inr ⟨-(m : Int), by rw [itoa_neg m this, e3], Or.inr ⟨hn, by omega, by omega⟩⟩)
  · obtain ⟨u, hu⟩ : ∃ u : Nat, n = (u : Int) := ⟨n.toNat, by omega⟩
    subst hu
    rw [itoa_nonneg] at h
    rcases dig_pre u x y h with e | ⟨m, e1, e2, e3⟩
    · exact Or.inl e
    · exact Or.inr (Or.inr ⟨(m : Int), by rw [itoa_nonneg, e3], Or.inl ⟨by omega, by omega, by omega⟩⟩)
theorem pre2 {x a c : By} (h : x ++ [13, 10] = a ++ c) (hc : c ≠ []) : (∃ z, x = a ++ z) ∨ a = x ++ [13] := by
  rcases List.append_eq_append_iff.1 h with ⟨z, e1, e2⟩ | ⟨z, e1, e2⟩
  · cases z with
    | nil => exact Or.inl ⟨[], by simpa using e1.symm⟩
    | cons b z =>
      have e3 : [13, 10] = b :: (z ++ c) := e2
      injection e3 with e3 e4
      subst e3
      cases z with
      | nil => exact Or.inr e1
      | cons b2 z =>
        have e5 : [10] = b2 :: (z ++ c) := e4
        injection e5 with _ e6
        have e7 : z ++ c = [] := e6.symm
        exact absurd (List.append_eq_nil_iff.1 e7).2 hc
  · exact Or.inl ⟨z, e1⟩
theorem plain_cr {x : By} (h : Plain x) : crAt x = none := List.findIdx?_eq_none_iff.2 (fun c hc => by have := (h c hc).1; simpa using this)
theorem plain_el {x : By} (h : Plain x) : elAt x = none := List.findIdx?_eq_none_iff.2 (fun c hc => by have := h c hc; simpa using this)
theorem plain_pre {x z : By} (h : Plain (x ++ z)) : Plain x := fun c hc => h c (List.mem_append_left _ hc)
theorem cr_plain {x : By} (hx : Plain x) : crAt (x ++ [13]) = some x.length := by
  refine List.findIdx?_eq_some_iff_getElem.2 ⟨by simp, ?_, fun j hj => ?_⟩
  · rw [List.getElem_append_right (Nat.le_refl _)]; simp
  · rw [List.getElem_append_left hj]
    have := (hx x[j] (List.getElem_mem hj)).1
    simpa using this
theorem num_fst {e : Nat} {n : Int} {z : Nat} {p : Nat × Int × Nat} (h : p.1 = 20) : p = (20, p.2.1, p.2.2) := by obtain ⟨a, b, c⟩ := p; simp at h; rw [h]
theorem nu_pre (n a c : Int) (x y : By) (h0 : -9223372036854775808 ≤ n) (h1 : n ≤ 9223372036854775807) (ha : a ≤ n) (hc : n ≤ c) (ha0 : a ≤ 0) (hc0 : 0 ≤ c) (h : itoa n ++ [13, 10] = x ++ y) (hy : y ≠ []) : (nuE x a c).1 = 20 := by
  have hp := itoa_plain n h0 h1
  have hl := itoa_len20 n h0 h1
  unfold nuE
  rw [if_neg (by omega)]
  rcases pre2 h hy with ⟨z, e⟩ | e
  · have hx : x.length ≤ 20 := by rw [e, List.length_append] at hl; omega
    rw [List.take_of_length_le (by omega), plain_cr (plain_pre (e ▸ hp))]
    show cutE x a c = 20
    unfold cutE
    rcases itoa_pre n x z e with e | ⟨e, hn⟩ | ⟨m, e, hm⟩
    · rw [if_pos (Or.inl e)]
    · rw [if_pos (Or.inr ⟨e, by omega⟩)]
    · split
      · rfl
      · rw [e, numberOf_itoa m (by omega) (by omega)]
        simp only
        rw [if_pos (by omega)]
  · subst e
    rw [List.take_of_length_le (by simp; omega), cr_plain hp]
    simp only [List.take_left, List.drop_left, numberOf_itoa n h0 h1]
    rw [if_neg (by omega), if_neg (by decide)]
    rfl
theorem line_pre (kd : Int) (t x y : By) (ht : Plain t) (h : t ++ [13, 10] = x ++ y) (hy : y ≠ []) : (lineH kd x).e = 20 := by
  unfold lineH
  rcases pre2 h hy with ⟨z, e⟩ | e
  · rw [plain_el (plain_pre (e ▸ ht))]
  · subst e
    rw [el_plain ht []]
    simp only [List.drop_left]
    rw [if_neg (by decide)]
    rfl
theorem num_pre (n : Int) (x y : By) (h0 : -9223372036854775808 ≤ n) (h1 : n ≤ 9223372036854775807) (h : itoa n ++ [13, 10] = x ++ y) (hy : y ≠ []) : (numH x).e = 20 := by
  have h2 := nu_pre n (-9223372036854775808) 9223372036854775807 x y h0 h1 h0 h1 (by omega) (by omega) h hy
  unfold numH
  revert h2
  generalize nuE x (-9223372036854775808) 9223372036854775807 = p
  obtain ⟨a, b, c⟩ := p
  intro h2
  have h2 : a = 20 := h2
  subst h2
  rfl
theorem list_pre (kd a c : Int) (m : Nat) (x y : By) (hlen : (m : Int) ≤ c) (hc : c ≤ 1048576) (ha : a ≤ 0) (h : itoa (m : Int) ++ [13, 10] = x ++ y) (hy : y ≠ []) : (listH kd a c false x).e = 20 := by
  have h2 := nu_pre (m : Int) a c x y (by omega) (by omega) (by omega) hlen ha (by omega) h hy
  unfold listH
  simp only [Bool.false_eq_true, if_false]
  revert h2
  generalize nuE x a c = p
  obtain ⟨a, b, c⟩ := p
  intro h2
  have h2 : a = 20 := h2
  subst h2
  rfl
theorem end_pre {x y : By} (h : [13, 10] = x ++ y) (hy : y ≠ []) : endE x = 20 := by
  rcases pre2 (x := []) h hy with ⟨z, e⟩ | e
  · have : x = [] := (List.append_eq_nil_iff.1 e.symm).1
    subst this; rfl
  · subst e; rfl
theorem bulk_pre (t x y : By) (ht : t.length ≤ 524288) (h : itoa (t.length : Int) ++ [13, 10] ++ (t ++ [13, 10]) = x ++ y) (hy : y ≠ []) : (bulkH x).e = 20 := by
  rcases List.append_eq_append_iff.1 h with ⟨z, e1, e2⟩ | ⟨z, e1, e2⟩
  · subst e1
    rw [show itoa (t.length : Int) ++ [13, 10] ++ z = itoa (t.length : Int) ++ 13 :: 10 :: z by simp]
    unfold bulkH
    rw [nu_itoa (t.length : Int) (-1) 524288 _ (by omega) (by omega) (by omega) (by omega)]
    simp only
    rw [if_neg (by omega), Int.toNat_natCast]
    have hd : (itoa (t.length : Int) ++ 13 :: 10 :: z).drop ((itoa (t.length : Int)).length + 2) = z := by
      rw [← List.drop_drop, List.drop_left]; rfl
    rw [hd]
    unfold bulkT
    rcases pre2 e2 hy with ⟨z2, e⟩ | e
    · by_cases hz : z.length < t.length
      · rw [if_pos hz]
      · rw [if_neg hz, List.drop_of_length_le (by rw [e, List.length_append]; have := congrArg List.length e; rw [List.length_append] at this; omega), if_neg (by decide)]
        rfl
    · subst e
      rw [if_neg (by simp), List.drop_left, if_neg (by decide)]
      rfl
  · cases z with
    | nil =>
      rw [List.append_nil] at e1
      rw [← e1]
      have h9 : (bulkH (itoa (t.length : Int) ++ 13 :: 10 :: [])).e = 20 := by
        unfold bulkH
        rw [nu_itoa (t.length : Int) (-1) 524288 _ (by omega) (by omega) (by omega) (by omega)]
        simp only
        rw [if_neg (by omega), Int.toNat_natCast]
        have hd : (itoa (t.length : Int) ++ 13 :: 10 :: []).drop ((itoa (t.length : Int)).length + 2) = [] := by
          rw [← List.drop_drop, List.drop_left]; rfl
        rw [hd]
        unfold bulkT
        by_cases hz : ([] : By).length < t.length
        · rw [if_pos hz]
        · rw [if_neg hz, List.drop_nil, if_neg (by decide)]; rfl
      exact h9
    | cons b z =>
      have h2 := nu_pre (t.length : Int) (-1) 524288 x (b :: z) (by omega) (by omega) (by omega) (by omega) (by omega) (by omega) e1 (by simp)
      unfold bulkH
      revert h2
      generalize nuE x (-1) 524288 = p
      obtain ⟨a, b, c⟩ := p
      intro h2
      have h2 : a = 20 := h2
      subst h2
      rfl
/-- a beginning of a reply's first bytes. -/
theorem hd_pre (deep : Bool) (kind : Int) (text : By) (n : Int) (len : Nat) (x y : By) (h : WfH kind text n len) (hdp : lk kind = true → deep = false) (he : headB kind text n len = x ++ y) (hy : y ≠ []) : (hd deep x).e = 20 := by
  cases x with
  | nil => rfl
  | cons m x =>
    rcases h with ⟨hk | hk, h1, rfl, rfl⟩ | ⟨rfl, rfl, h1, rfl⟩ | ⟨rfl, h1, rfl, rfl⟩ | ⟨hk | hk, rfl, rfl, rfl⟩ | ⟨rfl, rfl, h1, rfl⟩ | ⟨hk | hk | hk, rfl, rfl, h1⟩ | ⟨rfl, rfl, rfl, h1, h2⟩
    · subst hk
      have he : 43 :: (text ++ [13, 10]) = m :: (x ++ y) := he
      injection he with e1 e2
      subst e1
      exact line_pre 1 text x y h1 e2 hy
    · subst hk
      have he : 45 :: (text ++ [13, 10]) = m :: (x ++ y) := he
      injection he with e1 e2
      subst e1
      exact line_pre 2 text x y h1 e2 hy
    · have he : 58 :: (itoa n ++ [13, 10]) = m :: (x ++ y) := he
      injection he with e1 e2
      subst e1
      exact num_pre n x y h1.1 h1.2 e2 hy
    · have he : 36 :: (itoa text.length ++ [13, 10] ++ (text ++ [13, 10])) = m :: (x ++ y) := he
      injection he with e1 e2
      subst e1
      exact bulk_pre text x y h1 e2 hy
    · subst hk
      have he : 95 :: [13, 10] = m :: (x ++ y) := he
      injection he with e1 e2
      subst e1
      have h9 := end_pre e2 hy
      show (nullH x).e = 20
      unfold nullH
      rw [h9, if_neg (by decide)]
    · subst hk
      have he : 95 :: [13, 10] = m :: (x ++ y) := he
      injection he with e1 e2
      subst e1
      have h9 := end_pre e2 hy
      show (nullH x).e = 20
      unfold nullH
      rw [h9, if_neg (by decide)]
    · have he : 35 :: [if n ≠ 0 then 116 else 102, 13, 10] = m :: (x ++ y) := he
      injection he with e1 e2
      subst e1
      show (boolH x).e = 20
      cases x with
      | nil => rfl
      | cons c x =>
        have e2 : (if n ≠ 0 then (116 : UInt8) else 102) :: [13, 10] = c :: (x ++ y) := e2
        injection e2 with e3 e4
        have h9 := end_pre e4 hy
        have hcc : c = 116 ∨ c = 102 := by rw [← e3]; split <;> simp
        unfold boolH
        simp only
        rw [if_pos hcc, h9, if_neg (by decide)]
    · subst hk
      have hdf := hdp rfl
      subst hdf
      have he : 42 :: (itoa len ++ [13, 10]) = m :: (x ++ y) := he
      injection he with e1 e2
      subst e1
      exact list_pre 5 (-1) 1048576 len x y (by omega) (by omega) (by omega) e2 hy
    · subst hk
      have hdf := hdp rfl
      subst hdf
      have he : 126 :: (itoa len ++ [13, 10]) = m :: (x ++ y) := he
      injection he with e1 e2
      subst e1
      exact list_pre 7 0 1048576 len x y (by omega) (by omega) (by omega) e2 hy
    · subst hk
      have hdf := hdp rfl
      subst hdf
      have he : 62 :: (itoa len ++ [13, 10]) = m :: (x ++ y) := he
      injection he with e1 e2
      subst e1
      exact list_pre 8 0 1048576 len x y (by omega) (by omega) (by omega) e2 hy
    · have hdf := hdp rfl
      subst hdf
      have he : 37 :: (itoa (len / 2 : Nat) ++ [13, 10]) = m :: (x ++ y) := he
      injection he with e1 e2
      subst e1
      exact list_pre 6 0 524288 (len / 2) x y (by omega) (by omega) (by omega) e2 hy
theorem many_pre {α β : Type} {f : By → Except Nat (β × Nat)} {g : α → By} {h : α → β} : ∀ (n : Nat) (l : List α) (x y : By), l.length = n → (∀ t ∈ l, ∀ b, f (g t ++ b) = .ok (h t, (g t).length)) → (∀ t ∈ l, ∀ x y, g t = x ++ y → y ≠ [] → f x = .error 20) → l.flatMap g = x ++ y → y ≠ [] → decMany f n x = .error 20
  | 0, l, x, y, hn, _, _, he, hy => by
    have : l = [] := List.eq_nil_of_length_eq_zero hn
    subst this
    have he : [] = x ++ y := he
    exact absurd (List.append_eq_nil_iff.1 he.symm).2 hy
  | n + 1, l, x, y, hn, hf, hp, he, hy => by
    obtain ⟨l', t, rfl⟩ : ∃ l' t, l = l' ++ [t] := ⟨l.dropLast, l.getLast (by intro e; subst e; simp at hn), (List.dropLast_concat_getLast _).symm⟩
    have hn' : l'.length = n := by simpa using hn
    have e : (l' ++ [t]).flatMap g = l'.flatMap g ++ g t := by simp [List.flatMap_append]
    rw [e] at he
    rw [decMany]
    rcases List.append_eq_append_iff.1 he with ⟨z, e1, e2⟩ | ⟨z, e1, e2⟩
    · subst e1
      rw [many_back n l' z hn' (fun y hy => hf y (List.mem_append_left _ hy))]
      simp only
      rw [List.drop_left, hp t (by simp) z y e2 hy]
    · cases z with
      | nil =>
        rw [List.append_nil] at e1
        subst e1
        have h9 := many_back n l' [] hn' (fun y hy => hf y (List.mem_append_left _ hy))
        rw [List.append_nil] at h9
        rw [h9]
        simp only
        rw [List.drop_of_length_le (Nat.le_refl _), hp t (by simp) [] y e2.symm hy]
      | cons b z =>
        rw [many_pre n l' x (b :: z) hn' (fun y hy => hf y (List.mem_append_left _ hy)) (fun y hy => hp y (List.mem_append_left _ hy)) e1 (by simp)]
theorem wf_leaf {kind n : Int} {text : By} {len : Nat} (h : WfH kind text n len) (hk : lk kind = false) : len = 0 := by
  rcases h with ⟨_, _, _, e⟩ | ⟨_, _, _, e⟩ | ⟨_, _, _, e⟩ | ⟨_, _, _, e⟩ | ⟨_, _, _, e⟩ | ⟨hk2, _⟩ | ⟨hk2, _⟩
  · exact e
  · exact e
  · exact e
  · exact e
  · exact e
  · exfalso; rcases hk2 with e | e | e <;> (rw [e] at hk; cases hk)
  · exfalso; rw [hk2] at hk; cases hk
/-- a beginning of what is written is never whole. -/
theorem dec_pre : ∀ (k : Nat) (t : Rn (Rp k)) (x y : By), Wf k t → enc k t = x ++ y → y ≠ [] → dec k x = .error 20
  | 0, t, x, y, h, he, hy => by
    have h1 := hd_pre true t.kind t.text t.n 0 x y h.1 (fun e => by rw [h.2] at e; cases e) he hy
    rw [dec, h1, if_neg (by decide)]
  | k + 1, t, x, y, h, he, hy => by
    rw [enc] at he
    rw [dec]
    rcases List.append_eq_append_iff.1 he with ⟨z, e1, e2⟩ | ⟨z, e1, e2⟩
    · subst e1
      have h1 := hd_back false t.kind t.text t.n (List.length t.list) z h.1 (fun _ => rfl)
      rw [h1, if_pos rfl]
      by_cases hk : lk t.kind = true
      · simp only [hk, if_true]
        rw [List.drop_left, many_pre (f := dec k) (g := enc k) (h := nn k) (List.length t.list) t.list z y rfl (fun x hx b => dec_back k x b (h.2 x hx)) (fun x hx a b => dec_pre k x a b (h.2 x hx)) e2 hy]
      · have hkf : lk t.kind = false := by simpa using hk
        have hl : t.list = [] := List.eq_nil_of_length_eq_zero (wf_leaf h.1 hkf)
        rw [hl] at e2
        have e2 : [] = z ++ y := e2
        exact absurd (List.append_eq_nil_iff.1 e2.symm).2 hy
    · cases z with
      | nil =>
        rw [List.append_nil] at e1
        have h1 := hd_back false t.kind t.text t.n (List.length t.list) [] h.1 (fun _ => rfl)
        rw [List.append_nil, e1] at h1
        rw [h1, if_pos rfl]
        by_cases hk : lk t.kind = true
        · simp only [hk, if_true]
          rw [List.drop_of_length_le (Nat.le_refl _), many_pre (f := dec k) (g := enc k) (h := nn k) (List.length t.list) t.list [] y rfl (fun x hx b => dec_back k x b (h.2 x hx)) (fun x hx a b => dec_pre k x a b (h.2 x hx)) e2.symm hy]
        · have hkf : lk t.kind = false := by simpa using hk
          have hl : t.list = [] := List.eq_nil_of_length_eq_zero (wf_leaf h.1 hkf)
          rw [hl] at e2
          have e2 : y = [] := e2
          exact absurd e2 hy
      | cons b z =>
        have h1 := hd_pre false t.kind t.text t.n (List.length t.list) x (b :: z) h.1 (fun _ => rfl) e1 (by simp)
        rw [h1, if_neg (by decide)]
end Go.Proofs.Vi
