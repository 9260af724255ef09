import Derived.Test.YtkhimjdipggmjaaGreatDoorDtM
namespace Go.Proofs.Vi
open Go.Lib
set_option linter.unusedVariables false
set_option linter.unusedSimpArgs false
theorem nu_form {r : By} {a b n : Int} {z : Nat} (h : nuE r a b = (0, n, z)) : z = (itoa n).length + 2 ∧ a ≤ n ∧ n ≤ b ∧ -9223372036854775808 ≤ n ∧ n ≤ 9223372036854775807 := by
  unfold nuE at h
  split at h
  · cases h
  · split at h
    · injection h with h1 h2
      rcases cutE_cases (r.take 21) a b with h9 | h9 <;> rw [h9] at h1 <;> cases h1
    · rename_i j hj
      split at h
      · cases h
      · rename_i m hm
        split at h
        · cases h
        · rename_i hr
          split at h
          · rename_i he
            injection h with h1 h2
            injection h2 with h2 h3
            subst h2
            obtain ⟨g1, g2, g3, _⟩ := numberOf_some hm
            have hl := end_len he
            have : (itoa m).length = j := by rw [g1, List.length_take]; omega
            refine ⟨by omega, by omega, by omega, g2, g3⟩
          · rename_i he
            injection h with h1 h2
            exact absurd h1 he
theorem line_wf {kd : Int} {r : By} (h : (lineH kd r).e = 0) : ∃ t, Plain t ∧ lineH kd r = { e := 0, kind := kd, text := t, size := t.length + 3 } := by
  unfold lineH at h ⊢
  cases hel : elAt r with
  | none => rw [hel] at h; cases h
  | some i =>
    rw [hel] at h
    simp only at h ⊢
    obtain ⟨hl, _, hno⟩ := el_some hel
    by_cases he : endE (r.drop i) = 0
    · rw [if_pos he]
      refine ⟨r.take i, hno, ?_⟩
      rw [List.length_take, Nat.min_eq_left (by omega)]
    · rw [if_neg he] at h; exact absurd h he
/-- what stands at the beginning is as it is written. -/
theorem hd_wf (deep : Bool) (S : By) (h : (hd deep S).e = 0) (len : Nat) (hm : (hd deep S).many = some len ∨ ((hd deep S).many = none ∧ len = 0)) :
    WfH (hd deep S).kind (hd deep S).text (hd deep S).n len ∧ (headB (hd deep S).kind (hd deep S).text (hd deep S).n len).length ≤ (hd deep S).size ∧ headB (hd deep S).kind (hd deep S).text (hd deep S).n len ≠ [] ∧ (lk (hd deep S).kind = true ↔ (hd deep S).many = some len) ∧ (deep = true → lk (hd deep S).kind = false) := by
  match S, h, hm with
  | [], h, _ => cases h
  | m :: r, h, hm =>
    have hS : hd deep (m :: r) = hdM deep m r := rfl
    rw [hS] at h hm ⊢
    by_cases h43 : m = 43
    · subst h43
      obtain ⟨t, ht, e⟩ := line_wf (kd := 1) h
      have e2 : hdM deep 43 r = { e := 0, kind := 1, text := t, size := t.length + 3 } := e
      rw [e2] at hm ⊢
      rcases hm with hm | ⟨_, rfl⟩
      · cases hm
      exact ⟨Or.inl ⟨Or.inl rfl, ht, rfl, rfl⟩, by show (43 :: (t ++ [13, 10])).length ≤ t.length + 3; simp, by show 43 :: _ ≠ []; simp, by simp [lk], fun _ => rfl⟩
    by_cases h45 : m = 45
    · subst h45
      obtain ⟨t, ht, e⟩ := line_wf (kd := 2) h
      have e2 : hdM deep 45 r = { e := 0, kind := 2, text := t, size := t.length + 3 } := e
      rw [e2] at hm ⊢
      rcases hm with hm | ⟨_, rfl⟩
      · cases hm
      exact ⟨Or.inl ⟨Or.inr rfl, ht, rfl, rfl⟩, by show (45 :: (t ++ [13, 10])).length ≤ t.length + 3; simp, by show 45 :: _ ≠ []; simp, by simp [lk], fun _ => rfl⟩
    by_cases h58 : m = 58
    · subst h58
      rcases hz : nuE r (-9223372036854775808) 9223372036854775807 with ⟨x, n, z⟩
      have hx : x = 0 := by
        have : (hdM deep 58 r).e = x := by show (numH r).e = x; rw [numH_e, hz]
        rw [this] at h; exact h
      subst hx
      obtain ⟨g1, g2, g3, g4, g5⟩ := nu_form hz
      have e2 : hdM deep 58 r = { e := 0, kind := 3, n := n, size := z + 1 } := by show numH r = _; unfold numH; rw [hz]; try rfl
      rw [e2] at hm ⊢
      rcases hm with hm | ⟨_, rfl⟩
      · cases hm
      exact ⟨Or.inr (Or.inl ⟨rfl, rfl, ⟨g4, g5⟩, rfl⟩), by show (58 :: (itoa n ++ [13, 10])).length ≤ z + 1; simp; omega, by show 58 :: _ ≠ []; simp, by simp [lk], fun _ => rfl⟩
    by_cases h36 : m = 36
    · subst h36
      rcases hz : nuE r (-1) 524288 with ⟨x, n, z⟩
      have hx : x = 0 := by
        rcases Nat.eq_zero_or_pos x with e | e
        · exact e
        · exfalso
          have : (hdM deep 36 r).e = x := by show (bulkH r).e = x; rw [bulkH_e (by rw [hz]; show x ≠ 0; omega), hz]
          omega
      subst hx
      obtain ⟨g1, g2, g3, g4, g5⟩ := nu_form hz
      by_cases hneg : n < 0
      · have e2 : hdM deep 36 r = { e := 0, size := z + 1 } := by show bulkH r = _; unfold bulkH; rw [hz]; simp only; rw [if_pos hneg]
        rw [e2] at hm ⊢
        rcases hm with hm | ⟨_, rfl⟩
        · cases hm
        exact ⟨Or.inr (Or.inr (Or.inr (Or.inl ⟨Or.inl rfl, rfl, rfl, rfl⟩))), by show 3 ≤ z + 1; omega, by show [95, 13, 10] ≠ []; simp, by simp [lk], fun _ => rfl⟩
      · have e1 : hdM deep 36 r = bulkT (r.drop z) n.toNat z := by show bulkH r = _; unfold bulkH; rw [hz]; simp only; rw [if_neg hneg]
        rw [e1] at h
        unfold bulkT at h
        split at h
        · cases h
        · rename_i hl
          split at h
          · rename_i he
            have e2 : hdM deep 36 r = { e := 0, kind := 4, text := (r.drop z).take n.toNat, size := z + 1 + n.toNat + 2 } := by rw [e1]; unfold bulkT; rw [if_neg hl, if_pos he]
            rw [e2] at hm ⊢
            have htl : ((r.drop z).take n.toNat).length = n.toNat := by rw [List.length_take]; omega
            rcases hm with hm | ⟨_, rfl⟩
            · cases hm
            refine ⟨Or.inr (Or.inr (Or.inl ⟨rfl, by show ((r.drop z).take n.toNat).length ≤ _; omega, rfl, rfl⟩)), ?_, by show 36 :: _ ≠ []; simp, by simp [lk], fun _ => rfl⟩
            show (36 :: (itoa (((r.drop z).take n.toNat).length : Int) ++ [13, 10] ++ ((r.drop z).take n.toNat ++ [13, 10]))).length ≤ z + 1 + n.toNat + 2
            rw [htl, show ((n.toNat : Nat) : Int) = n by omega]
            simp only [List.length_cons, List.length_append, htl, List.length_nil]
            omega
          · rename_i he; exact absurd h he
    by_cases h95 : m = 95
    · subst h95
      have e1 : (hdM deep 95 r) = nullH r := rfl
      have he : endE r = 0 := by
        rw [e1] at h
        unfold nullH at h
        split at h
        · assumption
        · rename_i h9; exact absurd h h9
      have e2 : hdM deep 95 r = { e := 0, size := 3 } := by rw [e1]; unfold nullH; rw [if_pos he]
      rw [e2] at hm ⊢
      rcases hm with hm | ⟨_, rfl⟩
      · cases hm
      exact ⟨Or.inr (Or.inr (Or.inr (Or.inl ⟨Or.inl rfl, rfl, rfl, rfl⟩))), Nat.le_refl 3, by show [95, 13, 10] ≠ []; simp, by simp [lk], fun _ => rfl⟩
    by_cases h35 : m = 35
    · subst h35
      match r, h, hm with
      | [], h, _ => cases h
      | c :: u, h, hm =>
        have e1 : hdM deep 35 (c :: u) = boolH (c :: u) := rfl
        rw [e1] at h hm ⊢
        rw [boolH] at h hm ⊢
        by_cases hc : c = 116 ∨ c = 102
        · rw [if_pos hc] at h hm ⊢
          by_cases he : endE u = 0
          · rw [if_pos he] at hm ⊢
            rcases hm with hm | ⟨_, rfl⟩
            · cases hm
            refine ⟨Or.inr (Or.inr (Or.inr (Or.inr (Or.inl ⟨rfl, rfl, ?_, rfl⟩)))), Nat.le_refl 4, by show _ :: _ ≠ []; simp, by simp [lk], fun _ => rfl⟩
            by_cases h9 : c = 116
            · rw [if_pos h9]; exact Or.inr rfl
            · rw [if_neg h9]; exact Or.inl rfl
          · rw [if_neg he] at h; exact absurd h he
        · rw [if_neg hc] at h; cases h
    by_cases hl : m = 42 ∨ m = 37 ∨ m = 126 ∨ m = 62
    · have e1 := hdM_list deep r hl
      rw [e1] at h hm ⊢
      rcases hz : nuE r (if m = 42 then -1 else 0) (if deep then -1 else mostK m) with ⟨x, n, z⟩
      have hx : x = 0 := by
        rcases Nat.eq_zero_or_pos x with e | e
        · exact e
        · exfalso
          rw [listH_e (by rw [hz]; show x ≠ 0; omega), hz] at h
          have : x = 0 := h
          omega
      subst hx
      obtain ⟨g1, g2, g3, g4, g5⟩ := nu_form hz
      by_cases hneg : n < 0
      · have e2 : listH (kindK m) (if m = 42 then -1 else 0) (mostK m) deep r = { e := 0, kind := 9, size := z + 1 } := by unfold listH; rw [hz]; simp only; rw [if_pos hneg]
        rw [e2] at hm ⊢
        rcases hm with hm | ⟨_, rfl⟩
        · cases hm
        exact ⟨Or.inr (Or.inr (Or.inr (Or.inl ⟨Or.inr rfl, rfl, rfl, rfl⟩))), by show 3 ≤ z + 1; omega, by show [95, 13, 10] ≠ []; simp, by simp [lk], fun _ => rfl⟩
      · have hdf : deep = false := by
          cases deep with
          | false => rfl
          | true => simp only [if_true] at g3; omega
        subst hdf
        simp only [Bool.false_eq_true, if_false] at g3
        have e2 : listH (kindK m) (if m = 42 then -1 else 0) (mostK m) false r = { e := 0, kind := kindK m, size := z + 1, many := some (if kindK m = 6 then n.toNat * 2 else n.toNat) } := by unfold listH; rw [hz]; simp only; rw [if_neg hneg]
        rw [e2] at hm ⊢
        have hlen : (if kindK m = 6 then n.toNat * 2 else n.toNat) = len := by
          rcases hm with hm | ⟨hm, _⟩
          · injection hm
          · cases hm
        obtain ⟨N, rfl⟩ : ∃ N : Nat, n = (N : Int) := ⟨n.toNat, by omega⟩
        rw [Int.toNat_natCast] at hlen ⊢
        rcases hl with rfl | rfl | rfl | rfl
        · have hN : N = len := hlen
          subst hN
          have hmo : (N : Int) ≤ 1048576 := g3
          exact ⟨Or.inr (Or.inr (Or.inr (Or.inr (Or.inr (Or.inl ⟨Or.inl rfl, rfl, rfl, by omega⟩))))), by show (42 :: (itoa (N : Int) ++ [13, 10])).length ≤ z + 1; simp; omega, by show 42 :: _ ≠ []; simp, by constructor <;> intro _ <;> rfl, fun e => by cases e⟩
        · have hN : N * 2 = len := hlen
          subst hN
          have hmo : (N : Int) ≤ 524288 := g3
          refine ⟨Or.inr (Or.inr (Or.inr (Or.inr (Or.inr (Or.inr ⟨rfl, rfl, rfl, by omega, by omega⟩))))), ?_, by show 37 :: _ ≠ []; simp, by constructor <;> intro _ <;> rfl, fun e => by cases e⟩
          show (37 :: (itoa ((N * 2 / 2 : Nat) : Int) ++ [13, 10])).length ≤ z + 1
          rw [show N * 2 / 2 = N by omega]
          simp; omega
        · have hN : N = len := hlen
          subst hN
          have hmo : (N : Int) ≤ 1048576 := g3
          exact ⟨Or.inr (Or.inr (Or.inr (Or.inr (Or.inr (Or.inl ⟨Or.inr (Or.inl rfl), rfl, rfl, by omega⟩))))), by show (126 :: (itoa (N : Int) ++ [13, 10])).length ≤ z + 1; simp; omega, by show 126 :: _ ≠ []; simp, by constructor <;> intro _ <;> rfl, fun e => by cases e⟩
        · have hN : N = len := hlen
          subst hN
          have hmo : (N : Int) ≤ 1048576 := g3
          exact ⟨Or.inr (Or.inr (Or.inr (Or.inr (Or.inr (Or.inl ⟨Or.inr (Or.inr rfl), rfl, rfl, by omega⟩))))), by show (62 :: (itoa (N : Int) ++ [13, 10])).length ≤ z + 1; simp; omega, by show 62 :: _ ≠ []; simp, by constructor <;> intro _ <;> rfl, fun e => by cases e⟩
    · exfalso
      have e2 : hdM deep m r = { e := 120 } := by
        unfold hdM
        rw [if_neg h43, if_neg h45, if_neg h58, if_neg h36, if_neg h95, if_neg h35, if_neg (fun e => hl (Or.inl e)), if_neg (fun e => hl (Or.inr (Or.inl e))), if_neg (fun e => hl (Or.inr (Or.inr (Or.inl e)))), if_neg (fun e => hl (Or.inr (Or.inr (Or.inr e))))]
      rw [e2] at h; cases h
theorem many_wf {α : Type} {f : By → Except Nat (α × Nat)} {g : α → By} {Pr : α → Prop} (hf : ∀ s t z, f s = .ok (t, z) → Pr t ∧ (g t).length ≤ z) : ∀ (n : Nat) (s : By) (ts : List α) (y : Nat), decMany f n s = .ok (ts, y) → ts.length = n ∧ (∀ t ∈ ts, Pr t) ∧ (ts.flatMap g).length ≤ y
  | 0, s, ts, y, h => by
    injection h with h
    injection h with h1 h2
    subst h1; subst h2
    exact ⟨rfl, (fun t ht => by cases ht), Nat.le_refl _⟩
  | n + 1, s, ts, y, h => by
    rw [decMany] at h
    cases h1 : decMany f n s with
    | error e => rw [h1] at h; cases h
    | ok p =>
      obtain ⟨ts1, y1⟩ := p
      rw [h1] at h
      simp only at h
      obtain ⟨i1, i2, i3⟩ := many_wf hf n s ts1 y1 h1
      cases h2 : f (s.drop y1) with
      | error e => rw [h2] at h; cases h
      | ok p =>
        obtain ⟨t2, z⟩ := p
        rw [h2] at h
        injection h with h
        injection h with h3 h4
        subst h3; subst h4
        have := hf _ _ _ h2
        refine ⟨by simp [i1], fun t ht => ?_, ?_⟩
        · rcases List.mem_append.1 ht with h5 | h5
          · exact i2 t h5
          · have : t = t2 := by simpa using h5
            subst this
            exact (hf _ _ _ h2).1
        · have e : [t2].flatMap g = g t2 := by simp
          rw [List.flatMap_append, List.length_append, e]; omega
/-- what Decode gives is as it is written. -/
theorem dec_wf : ∀ (k : Nat) (S : By) (t : Rn (Rp k)) (z : Nat), dec k S = .ok (t, z) → (Wf k t ∧ enc k t ≠ []) ∧ (enc k t).length ≤ z
  | 0, S, t, z, h => by
    rw [dec] at h
    split at h
    · rename_i he
      injection h with h
      injection h with h1 h2
      subst h1; subst h2
      have hm : (hd true S).many = none := by
        cases hh : (hd true S).many with
        | none => rfl
        | some c =>
          have := hd_wf true S he c (Or.inl hh)
          have h1 := this.2.2.2.1.2 hh
          rw [this.2.2.2.2 rfl] at h1; cases h1
      obtain ⟨a1, a2, a3, a4, a5⟩ := hd_wf true S he 0 (Or.inr ⟨hm, rfl⟩)
      exact ⟨⟨⟨a1, a5 rfl⟩, a3⟩, a2⟩
    · cases h
  | k + 1, S, t, z, h => by
    rw [dec] at h
    split at h
    · rename_i he
      cases hm : (hd false S).many with
      | none =>
        rw [hm] at h
        injection h with h
        injection h with h1 h2
        subst h1; subst h2
        obtain ⟨a1, a2, a3, a4, a5⟩ := hd_wf false S he 0 (Or.inr ⟨hm, rfl⟩)
        have e : enc (k + 1) (⟨(hd false S).kind, (hd false S).text, (hd false S).n, []⟩ : Rn (Rp (k + 1))) = headB (hd false S).kind (hd false S).text (hd false S).n 0 := List.append_nil _
        rw [e]
        exact ⟨⟨⟨a1, fun x hx => by cases hx⟩, a3⟩, a2⟩
      | some c =>
        rw [hm] at h
        simp only at h
        cases h1 : decMany (dec k) c (S.drop (hd false S).size) with
        | error e => rw [h1] at h; cases h
        | ok p =>
          obtain ⟨ts, y⟩ := p
          rw [h1] at h
          injection h with h
          injection h with h2 h3
          subst h2; subst h3
          obtain ⟨a1, a2, a3, a4, a5⟩ := hd_wf false S he c (Or.inl hm)
          obtain ⟨i1, i2, i3⟩ := many_wf (f := dec k) (g := enc k) (Pr := Wf k) (fun s t z h => ⟨(dec_wf k s t z h).1.1, (dec_wf k s t z h).2⟩) c _ ts y h1
          have e : enc (k + 1) (⟨(hd false S).kind, (hd false S).text, (hd false S).n, ts⟩ : Rn (Rp (k + 1))) = headB (hd false S).kind (hd false S).text (hd false S).n ts.length ++ List.flatMap (enc k) ts := rfl
          rw [e, i1]
          refine ⟨⟨⟨by show WfH _ _ _ (List.length ts) ; rw [i1]; exact a1, fun x hx => i2 x hx⟩, fun e => a3 (List.append_eq_nil_iff.1 e).1⟩, by rw [List.length_append]; omega⟩
    · cases h
theorem wf_kind {kind n : Int} {text : By} {len : Nat} (h : WfH kind text n len) : kind ≠ 10 := by
  rcases h with ⟨hk | hk, _⟩ | ⟨hk, _⟩ | ⟨hk, _⟩ | ⟨hk | hk, _⟩ | ⟨hk, _⟩ | ⟨hk | hk | hk, _⟩ | ⟨hk, _⟩ <;> omega
theorem wf_kind32 {t : Rn (Rp 32)} (h : Wf 32 t) : t.kind ≠ 10 := wf_kind h.1
/-- is an array that is null in it? -/
def nulT : (k : Nat) → Rn (Rp k) → Bool
  | 0, t => t.kind == 9
  | k + 1, t => (t.kind == 9) || List.any (α := Rn (Rp k)) t.list (nulT k)
theorem nn_same : ∀ (k : Nat) (t : Rn (Rp k)), nulT k t = false → nn k t = t
  | 0, t, h => by
    have h9 : t.kind ≠ 9 := by
      have : (t.kind == 9) = false := h
      simpa using this
    rw [nn, nk, if_neg h9]
  | k + 1, t, h => by
    have h0 : ((t.kind == 9) || List.any (α := Rn (Rp k)) t.list (nulT k)) = false := h
    rw [Bool.or_eq_false_iff] at h0
    have h9 : t.kind ≠ 9 := by simpa using h0.1
    have hl : List.map (α := Rn (Rp k)) (nn k) t.list = t.list := by
      have h1 := List.any_eq_false.1 h0.2
      have : ∀ l : List (Rn (Rp k)), (∀ x ∈ l, ¬ nulT k x = true) → l.map (nn k) = l := by
        intro l
        induction l with
        | nil => intro _; rfl
        | cons x l ih =>
          intro hx
          rw [List.map_cons, ih (fun y hy => hx y (List.mem_cons_of_mem _ hy)), nn_same k x (by simpa using hx x (by simp))]
      exact this _ h1
    rw [nn, nk, if_neg h9]
    exact congrArg (fun l => (⟨t.kind, t.text, t.n, l⟩ : Rn (Rp (k + 1)))) hl
end Go.Proofs.Vi
