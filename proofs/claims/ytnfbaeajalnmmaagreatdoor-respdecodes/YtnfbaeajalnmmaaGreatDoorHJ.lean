import Derived.Test.YtnfbaeajalnmmaaGreatDoorNumMath
namespace Go.Proofs.Vi
open Go.Lib
set_option linter.unusedVariables false
set_option linter.unusedSimpArgs false
abbrev By := List UInt8
/-- where the first byte 13 stands. -/
def crAt (l : By) : Option Nat := l.findIdx? (fun b => b == 13)
/-- where the first byte of a line's end stands. -/
def elAt (l : By) : Option Nat := l.findIdx? (fun b => b == 13 || b == 10)
/-- what an end of a line is: 0, or the error. -/
def endE : By → Nat
  | [] => 20
  | [c] => if c = 13 then 20 else 120
  | c :: d :: _ => if c = 13 ∧ d = 10 then 0 else 120
theorem endE_cases (r : By) : endE r = 0 ∨ endE r = 20 ∨ endE r = 120 := by
  unfold endE
  split
  · exact Or.inr (Or.inl rfl)
  · split <;> simp
  · split <;> simp
theorem endE_zero {r : By} (h : endE r = 0) : ∃ t, r = 13 :: 10 :: t := by
  unfold endE at h
  split at h
  · cases h
  · split at h <;> cases h
  · rename_i c d t
    by_cases hc : c = 13 ∧ d = 10
    · exact ⟨t, by rw [hc.1, hc.2]⟩
    · rw [if_neg hc] at h; cases h
/-- a number's text that has not ended. -/
def cutE (t : By) (least most : Int) : Nat :=
  if t = [] ∨ (t = [45] ∧ least < 0) then 20 else
  match numberOf t with
  | some n => if least ≤ n ∧ n ≤ most then 20 else 120
  | none => 120
theorem cutE_cases (t : By) (a b : Int) : cutE t a b = 20 ∨ cutE t a b = 120 := by
  unfold cutE
  split
  · exact Or.inl rfl
  · split
    · split <;> simp
    · simp
/-- a number and its line's end: the error, the number, the bytes. -/
def nuE (r : By) (least most : Int) : Nat × Int × Nat :=
  if most < least then (120, 0, 0) else
  match crAt (r.take 21) with
  | none => (cutE (r.take 21) least most, 0, 0)
  | some i => match numberOf (r.take i) with
    | none => (120, 0, 0)
    | some n => if n < least ∨ most < n then (120, 0, 0) else if endE (r.drop i) = 0 then (0, n, i + 2) else (endE (r.drop i), n, 0)
/-- what stands at the beginning: the error, or a reply without its list; of a list how many replies follow. -/
structure HdR where
  e : Nat
  kind : Int := 0
  text : By := []
  n : Int := 0
  size : Nat := 0
  many : Option Nat := none
def lineH (k : Int) (r : By) : HdR := match elAt r with
  | none => { e := 20 }
  | some i => if endE (r.drop i) = 0 then { e := 0, kind := k, text := r.take i, size := i + 3 } else { e := endE (r.drop i) }
def numH (r : By) : HdR := match nuE r (-9223372036854775808) 9223372036854775807 with
  | (0, n, z) => { e := 0, kind := 3, n := n, size := z + 1 }
  | (e, _, _) => { e := e }
def bulkT (rest : By) (n z : Nat) : HdR :=
  if rest.length < n then { e := 20 } else if endE (rest.drop n) = 0 then { e := 0, kind := 4, text := rest.take n, size := z + 1 + n + 2 } else { e := endE (rest.drop n) }
def bulkH (r : By) : HdR := match nuE r (-1) 524288 with
  | (0, n, z) => if n < 0 then { e := 0, size := z + 1 } else bulkT (r.drop z) n.toNat z
  | (e, _, _) => { e := e }
def nullH (r : By) : HdR := if endE r = 0 then { e := 0, size := 3 } else { e := endE r }
def boolH : By → HdR
  | [] => { e := 20 }
  | c :: r => if c = 116 ∨ c = 102 then (if endE r = 0 then { e := 0, kind := 11, n := if c = 116 then 1 else 0, size := 4 } else { e := endE r }) else { e := 120 }
def listH (kind least most : Int) (deep : Bool) (r : By) : HdR := match nuE r least (if deep then -1 else most) with
  | (0, n, z) => if n < 0 then { e := 0, kind := 9, size := z + 1 } else { e := 0, kind := kind, size := z + 1, many := some (if kind = 6 then n.toNat * 2 else n.toNat) }
  | (e, _, _) => { e := e }
def hdM (deep : Bool) (m : UInt8) (r : By) : HdR :=
  if m = 43 then lineH 1 r else if m = 45 then lineH 2 r else if m = 58 then numH r else if m = 36 then bulkH r else if m = 95 then nullH r else if m = 35 then boolH r
  else if m = 42 then listH 5 (-1) 1048576 deep r else if m = 37 then listH 6 0 524288 deep r else if m = 126 then listH 7 0 1048576 deep r else if m = 62 then listH 8 0 1048576 deep r else { e := 120 }
def hd (deep : Bool) : By → HdR
  | [] => { e := 20 }
  | m :: r => hdM deep m r
/-- a reply with replies of α in it. -/
structure Rn (α : Type) where
  kind : Int
  text : By
  n : Int
  list : List α
/-- replies that stand in one another at most so deep. -/
def Rp : Nat → Type
  | 0 => Empty
  | k + 1 => Rn (Rp k)
/-- so many, one behind the other. -/
def decMany {α : Type} (f : By → Except Nat (α × Nat)) : Nat → By → Except Nat (List α × Nat)
  | 0, _ => .ok ([], 0)
  | n + 1, s => match decMany f n s with
    | .error e => .error e
    | .ok (ts, y) => match f (s.drop y) with
      | .error e => .error e
      | .ok (t, z) => .ok (ts ++ [t], y + z)
theorem decMany_err {α : Type} (f : By → Except Nat (α × Nat)) (s : By) (e : Nat) (i : Nat) (h : decMany f i s = .error e) : ∀ n, i ≤ n → decMany f n s = .error e := by
  intro n hn
  induction n with
  | zero => have : i = 0 := by omega
            subst this; exact h
  | succ n ih =>
    by_cases hi : i = n + 1
    · subst hi; exact h
    · rw [decMany, ih (by omega)]
/-- what a reply is, at most so deep: the error, or it and its bytes. -/
def dec : (k : Nat) → By → Except Nat (Rn (Rp k) × Nat)
  | 0, s => if (hd true s).e = 0 then .ok (⟨(hd true s).kind, (hd true s).text, (hd true s).n, []⟩, (hd true s).size) else .error (hd true s).e
  | k + 1, s => if (hd false s).e = 0 then
      match (hd false s).many with
      | none => .ok (⟨(hd false s).kind, (hd false s).text, (hd false s).n, []⟩, (hd false s).size)
      | some c => match decMany (dec k) c (s.drop (hd false s).size) with
        | .error e => .error e
        | .ok (ts, y) => .ok (⟨(hd false s).kind, (hd false s).text, (hd false s).n, ts⟩, (hd false s).size + y)
    else .error (hd false s).e
theorem num_nil : numberOf [] = none := by decide +kernel
theorem nDigits_lt : ∀ (k u : Nat), u < 10 ^ (k + 1) → nDigits u ≤ k + 1
  | 0, u, h => by rw [nDigits_small (by simpa using h)]; exact Nat.le_refl _
  | k + 1, u, h => by
    by_cases hu : u < 10
    · rw [nDigits_small hu]; omega
    · rw [nDigits_big hu]
      have := nDigits_lt k (u / 10) (by rw [Nat.div_lt_iff_lt_mul (by omega)]; rw [Nat.pow_succ] at h; exact h)
      omega
theorem itoa_len20 (n : Int) (h0 : -9223372036854775808 ≤ n) (h1 : n ≤ 9223372036854775807) : (itoa n).length ≤ 20 := by
  by_cases hneg : n < 0
  · obtain ⟨u, rfl⟩ : ∃ u : Nat, n = -(u : Int) := ⟨n.natAbs, by omega⟩
    rw [itoa_neg u (by omega), List.length_cons, decDigits_length]
    have := nDigits_lt 18 u (by have : (10 : Nat) ^ (18 + 1) = 10000000000000000000 := by decide
                                omega)
    omega
  · obtain ⟨u, rfl⟩ : ∃ u : Nat, n = u := ⟨n.toNat, by omega⟩
    rw [itoa_nonneg, decDigits_length]
    have := nDigits_lt 18 u (by have : (10 : Nat) ^ (18 + 1) = 10000000000000000000 := by decide
                                omega)
    omega
theorem num_len {l : By} {v : Int} (h : numberOf l = some v) : l.length ≤ 20 ∧ l ≠ [] := by
  obtain ⟨h1, h2, h3, _⟩ := numberOf_some h
  have h9 := itoa_len20 v h2 h3
  rw [h1] at h9
  refine ⟨h9, ?_⟩
  intro e
  subst e
  rw [num_nil] at h
  cases h
theorem digits_mem (u : Nat) : ∀ c ∈ decDigits u, 48 ≤ c.toNat ∧ c.toNat ≤ 57 := by
  induction u using Nat.strongRecOn with
  | ind u ih =>
    intro c hc
    by_cases h : u < 10
    · rw [decDigits_one h] at hc
      simp only [List.mem_singleton] at hc
      subst hc
      rw [UInt8.toNat_ofNat']; omega
    · rw [decDigits, dif_neg h] at hc
      rcases List.mem_append.1 hc with h1 | h1
      · exact ih (u / 10) (by omega) c h1
      · simp only [List.mem_singleton] at h1
        subst h1
        rw [UInt8.toNat_ofNat']; omega
theorem num_mem {l : By} {v : Int} (h : numberOf l = some v) : ∀ c ∈ l, c ≠ 13 ∧ c ≠ 10 := by
  obtain ⟨h1, h2, h3, _⟩ := numberOf_some h
  intro c hc
  rw [← h1] at hc
  have hk : c = 45 ∨ (48 ≤ c.toNat ∧ c.toNat ≤ 57) := by
    by_cases hv : v < 0
    · obtain ⟨N, hN⟩ : ∃ N : Nat, v = -(N : Int) := ⟨v.natAbs, by omega⟩
      subst hN
      rw [itoa_neg N (by omega)] at hc
      rcases List.mem_cons.1 hc with h | h
      · exact Or.inl h
      · exact Or.inr (digits_mem N c h)
    · obtain ⟨N, hN⟩ : ∃ N : Nat, v = (N : Int) := ⟨v.toNat, by omega⟩
      subst hN
      rw [itoa_nonneg] at hc
      exact Or.inr (digits_mem N c hc)
  rcases hk with rfl | hk
  · exact ⟨by decide, by decide⟩
  · constructor <;> (rintro rfl; simp at hk)
theorem num_minus : numberOf [45] = none := by decide +kernel
theorem num_minus1 : numberOf [45, 49] = some (-1) := by decide +kernel
theorem num_is1 {l : By} (h : numberOf l = some (-1)) : l = [45, 49] := by
  have := (numberOf_some h).1
  rw [← this]; decide +kernel
theorem el_none {r : By} (h : elAt r = none) : ∀ c ∈ r, c ≠ 13 ∧ c ≠ 10 := by
  intro c hc
  have := (List.findIdx?_eq_none_iff.1 h) c hc
  simp at this
  exact this
theorem el_some {r : By} {i : Nat} (h : elAt r = some i) : i < r.length ∧ (r[i]? = some 13 ∨ r[i]? = some 10) ∧ ∀ c ∈ r.take i, c ≠ 13 ∧ c ≠ 10 := by
  obtain ⟨h1, h2, h3⟩ := List.findIdx?_eq_some_iff_getElem.1 h
  refine ⟨h1, ?_, ?_⟩
  · rw [List.getElem?_eq_getElem h1]
    simp at h2
    rcases h2 with h2 | h2
    · left; rw [h2]
    · right; rw [h2]
  · intro c hc
    obtain ⟨j, hj, rfl⟩ := List.getElem_of_mem hc
    rw [List.length_take] at hj
    have := h3 j (by omega)
    rw [List.getElem_take]
    simpa using this
theorem cr_none_of {t : By} (h : ∀ c ∈ t, c ≠ 13) : crAt t = none := by
  refine List.findIdx?_eq_none_iff.2 fun c hc => ?_
  simpa using h c hc
theorem cr_some {t : By} {j : Nat} (h : crAt t = some j) : j < t.length ∧ t[j]? = some 13 ∧ ∀ c ∈ t.take j, c ≠ 13 := by
  obtain ⟨h1, h2, h3⟩ := List.findIdx?_eq_some_iff_getElem.1 h
  refine ⟨h1, ?_, ?_⟩
  · rw [List.getElem?_eq_getElem h1]
    simp at h2
    rw [h2]
  · intro c hc
    obtain ⟨k, hk, rfl⟩ := List.getElem_of_mem hc
    rw [List.length_take] at hk
    have := h3 k (by omega)
    rw [List.getElem_take]
    simpa using this
theorem cr_at {r : By} {i m : Nat} (hi : r[i]? = some 13) (hno : ∀ c ∈ r.take i, c ≠ 13) (hm : i < m) : crAt (r.take m) = some i := by
  have hlt : i < r.length := by
    rcases Nat.lt_or_ge i r.length with h | h
    · exact h
    · rw [List.getElem?_eq_none h] at hi; cases hi
  refine List.findIdx?_eq_some_iff_getElem.2 ⟨by rw [List.length_take]; omega, ?_, ?_⟩
  · rw [List.getElem_take]
    rw [List.getElem?_eq_getElem hlt] at hi
    injection hi with hi
    rw [hi]; rfl
  · intro j hj
    rw [List.getElem_take]
    have := hno r[j] (by
      rw [List.mem_take_iff_getElem]
      exact ⟨j, by omega, rfl⟩)
    simpa using this
theorem num_bad {t : By} {c : UInt8} (hc : c ∈ t) (h : c = 13 ∨ c = 10) : numberOf t = none := by
  cases hn : numberOf t with
  | none => rfl
  | some v =>
    have := num_mem hn c hc
    rcases h with rfl | rfl
    · exact absurd rfl this.1
    · exact absurd rfl this.2
theorem num_long {t : By} (h : 20 < t.length) : numberOf t = none := by
  cases hn : numberOf t with
  | none => rfl
  | some v => have := (num_len hn).1; omega
theorem cut_none {t : By} (a b : Int) (h0 : t ≠ []) (h1 : t ≠ [45]) (h : numberOf t = none) : cutE t a b = 120 := by
  unfold cutE
  rw [if_neg (by rintro (h | h); exact h0 h; exact h1 h.1), h]
theorem cut_long {t : By} (a b : Int) (h : 20 < t.length) : cutE t a b = 120 := by
  refine cut_none a b ?_ ?_ (num_long h) <;> (rintro rfl; simp at h)
theorem cut_bad {t : By} (a b : Int) {c : UInt8} (hc : c ∈ t) (h : c = 13 ∨ c = 10) : cutE t a b = 120 := by
  refine cut_none a b ?_ ?_ (num_bad hc h)
  · rintro rfl; simp at hc
  · rintro rfl
    simp at hc
    subst hc
    rcases h with h | h <;> exact absurd h (by decide)
/-- a number's text that nothing has ended. -/
theorem nu_none {r : By} {a b : Int} (hab : a ≤ b) (h : elAt r = none) : (nuE r a b).1 = cutE r a b := by
  have hn := el_none h
  unfold nuE
  rw [if_neg (by omega), cr_none_of (fun c hc => (hn c (List.mem_of_mem_take hc)).1)]
  by_cases hl : r.length ≤ 21
  · rw [List.take_of_length_le hl]
  · rw [cut_long a b (by rw [List.length_take]; omega), cut_long a b (by omega)]
theorem end_lf {r : By} {i : Nat} (h : r[i]? = some 10) : endE (r.drop i) = 120 := by
  have hlt : i < r.length := by
    rcases Nat.lt_or_ge i r.length with h9 | h9
    · exact h9
    · rw [List.getElem?_eq_none h9] at h; cases h
  rw [List.drop_eq_getElem_cons hlt]
  rw [List.getElem?_eq_getElem hlt] at h
  injection h with h
  rw [h]
  unfold endE
  split
  · rename_i heq; cases heq
  · rename_i heq; injection heq with h1 h2; subst h1; rfl
  · rename_i heq; injection heq with h1 h2; subst h1; rfl
/-- a number's text that a line's end has ended. -/
theorem nu_some {r : By} {a b : Int} {i : Nat} (hab : a ≤ b) (h : elAt r = some i) :
    (nuE r a b).1 = (match numberOf (r.take i) with | some n => if a ≤ n ∧ n ≤ b then endE (r.drop i) else 120 | none => 120) ∧
    ∀ n, numberOf (r.take i) = some n → a ≤ n → n ≤ b → endE (r.drop i) = 0 → nuE r a b = (0, n, i + 2) := by
  obtain ⟨hlt, hor, hno⟩ := el_some h
  have hno13 : ∀ c ∈ r.take i, c ≠ 13 := fun c hc => (hno c hc).1
  by_cases h13 : r[i]? = some 13
  · by_cases h21 : i < 21
    · have hc := cr_at h13 hno13 h21
      unfold nuE
      rw [if_neg (by omega), hc]
      simp only
      cases hn : numberOf (r.take i) with
      | none => exact ⟨rfl, fun n e => by cases e⟩
      | some n =>
        simp only
        by_cases hr : a ≤ n ∧ n ≤ b
        · rw [if_neg (by omega), if_pos hr]
          refine ⟨?_, ?_⟩
          · split
            · rename_i h0; rw [h0]
            · rfl
          · intro m hm _ _ h0
            injection hm with hm
            subst hm
            rw [if_pos h0]
        · rw [if_pos (by omega), if_neg hr]
          exact ⟨rfl, fun m hm h1 h2 => by injection hm with hm; subst hm; exact absurd ⟨h1, h2⟩ hr⟩
    · have hnn : numberOf (r.take i) = none := num_long (by rw [List.length_take]; omega)
      have hcr : crAt (r.take 21) = none := cr_none_of (fun c hc => hno13 c (by
        have e : r.take 21 = (r.take i).take 21 := by rw [List.take_take]; congr 1; omega
        rw [e] at hc; exact List.mem_of_mem_take hc))
      rw [hnn]
      refine ⟨?_, fun n e => by cases e⟩
      unfold nuE
      rw [if_neg (by omega), hcr]
      exact cut_long a b (by rw [List.length_take]; omega)
  · have h10 : r[i]? = some 10 := by rcases hor with h9 | h9; exact absurd h9 h13; exact h9
    have he := end_lf h10
    have hmem : ∀ j, i < j → (10 : UInt8) ∈ r.take j := fun j hj => by
      rw [List.mem_take_iff_getElem]
      refine ⟨i, by omega, ?_⟩
      rw [List.getElem?_eq_getElem hlt] at h10
      injection h10
    refine ⟨?_, fun n _ _ _ h0 => by rw [he] at h0; cases h0⟩
    have hgoal : (match numberOf (r.take i) with | some n => if a ≤ n ∧ n ≤ b then endE (r.drop i) else 120 | none => 120) = 120 := by
      split
      · rw [he]; split <;> rfl
      · rfl
    rw [hgoal]
    unfold nuE
    rw [if_neg (by omega)]
    cases hc : crAt (r.take 21) with
    | none =>
      simp only
      by_cases h21 : i < 21
      · exact cut_bad a b (hmem 21 h21) (Or.inr rfl)
      · exact cut_long a b (by rw [List.length_take]; omega)
    | some j =>
      obtain ⟨hj1, hj2, hj3⟩ := cr_some hc
      simp only
      have hij : i < j := by
        rw [List.length_take] at hj1
        rcases Nat.lt_trichotomy i j with h9 | h9 | h9
        · exact h9
        · subst h9
          rw [List.getElem?_take_of_lt (by omega)] at hj2
          exact absurd hj2 h13
        · exfalso
          rw [List.getElem?_take_of_lt (by omega)] at hj2
          have hjl : j < r.length := by omega
          rw [List.getElem?_eq_getElem hjl] at hj2
          injection hj2 with hj2
          exact hno13 r[j] (by rw [List.mem_take_iff_getElem]; exact ⟨j, by omega, rfl⟩) hj2
      rw [num_bad (hmem j hij) (Or.inr rfl)]
theorem numH_e (r : By) : (numH r).e = (nuE r (-9223372036854775808) 9223372036854775807).1 := by
  unfold numH
  split
  · rename_i h; rw [h]
  · rename_i h; rw [h]
theorem bulkH_e {r : By} (h0 : (nuE r (-1) 524288).1 ≠ 0) : (bulkH r).e = (nuE r (-1) 524288).1 := by
  unfold bulkH
  split
  · rename_i h; rw [h] at h0; exact absurd rfl h0
  · rename_i h; rw [h]
theorem listH_e {k a b : Int} {deep : Bool} {r : By} (h0 : (nuE r a (if deep then -1 else b)).1 ≠ 0) : (listH k a b deep r).e = (nuE r a (if deep then -1 else b)).1 := by
  unfold listH
  split
  · rename_i h; rw [h] at h0; exact absurd rfl h0
  · rename_i h; rw [h]
end Go.Proofs.Vi
namespace Go.Proofs.Vi
open Go.Lib
set_option linter.unusedVariables false
set_option linter.unusedSimpArgs false
def minusK (m : UInt8) : Bool := m == 36 || m == 42
def fitsK (m : UInt8) (deep : Bool) : Bool := m == 36 || !deep
def mostK (m : UInt8) : Int := if m = 36 then 524288 else if m = 37 then 524288 else 1048576
/-- a count that has not ended. -/
def cntE (m : UInt8) (t : By) (half deep : Bool) : Nat :=
  if ((fitsK m deep || minusK m) = true ∧ t = [] ∧ half = false) ∨ (minusK m = true ∧ (t = [45, 49] ∨ (t = [45] ∧ half = false))) then 20 else
  match numberOf t with
  | some n => if n < 0 ∨ mostK m < n ∨ fitsK m deep = false then 120 else 20
  | none => 120
/-- a line that has not ended. -/
def partE (m : UInt8) (t : By) (half deep : Bool) : Nat :=
  if m = 43 ∨ m = 45 then 20
  else if m = 58 then (if (numberOf t).isSome = true ∨ (half = false ∧ (t = [] ∨ t = [45])) then 20 else 120)
  else if m = 95 then (if t = [] then 20 else 120)
  else if m = 35 then (if t = [116] ∨ t = [102] ∨ (t = [] ∧ half = false) then 20 else 120)
  else if m = 36 ∨ m = 42 ∨ m = 37 ∨ m = 126 ∨ m = 62 then cntE m t half deep
  else 120
theorem range_all {t : By} {n : Int} (h : numberOf t = some n) : -9223372036854775808 ≤ n ∧ n ≤ 9223372036854775807 := ⟨(numberOf_some h).2.1, (numberOf_some h).2.2.1⟩
theorem end_nil : endE [] = 20 := rfl
theorem cnt_minus (m : UInt8) (t : By) (deep : Bool) (hm : m = 36 ∨ m = 42) (b : Int) (hb : b = if m = 42 ∧ deep = true then -1 else mostK m) : cntE m t false deep = cutE t (-1) b := by
  have hmin : minusK m = true := by rcases hm with rfl | rfl <;> rfl
  have hb0 : -1 ≤ b := by
    rw [hb]; split
    · omega
    · unfold mostK; split; omega; split <;> omega
  unfold cntE cutE
  rw [hmin]
  by_cases h0 : t = []
  · rw [if_pos (Or.inl ⟨by simp, h0, rfl⟩), if_pos (Or.inl h0)]
  by_cases h1 : t = [45]
  · rw [if_pos (Or.inr ⟨rfl, Or.inr ⟨h1, rfl⟩⟩), if_pos (Or.inr ⟨h1, by omega⟩)]
  rw [if_neg (show ¬ (t = [] ∨ t = [45] ∧ (-1 : Int) < 0) by rintro (h | h); exact h0 h; exact h1 h.1)]
  by_cases h2 : t = [45, 49]
  · rw [if_pos (Or.inr ⟨rfl, Or.inl h2⟩), h2, num_minus1]
    simp only
    rw [if_pos ⟨by omega, hb0⟩]
  · rw [if_neg (by rintro (h | h); exact h0 h.2.1; rcases h.2 with h | h; exact h2 h; exact h1 h.1)]
    cases hn : numberOf t with
    | none => rfl
    | some n =>
      simp only
      have hn1 : n ≠ -1 := fun e => h2 (num_is1 (by rw [hn, e]))
      by_cases hf : fitsK m deep = true
      · have hbb : b = mostK m := by
          rw [hb, if_neg]
          rintro ⟨rfl, rfl⟩
          exact absurd hf (by decide)
        by_cases hr : n < 0 ∨ mostK m < n
        · rw [if_pos (by rcases hr with h | h; exact Or.inl h; exact Or.inr (Or.inl h)), if_neg (by rw [hbb]; omega)]
        · rw [if_neg (by rintro (h | h | h); omega; omega; rw [hf] at h; cases h), if_pos (by rw [hbb]; omega)]
      · have hf : fitsK m deep = false := by simpa using hf
        have hbb : b = -1 := by
          rw [hb, if_pos]
          unfold fitsK at hf
          rcases hm with rfl | rfl
          · simp at hf
          · simp at hf; exact ⟨rfl, hf⟩
        rw [if_pos (Or.inr (Or.inr hf)), if_neg (by rw [hbb]; omega)]
theorem cnt_plus (m : UInt8) (t : By) (hm : m = 37 ∨ m = 126 ∨ m = 62) : cntE m t false false = cutE t 0 (mostK m) := by
  have hmin : minusK m = false := by rcases hm with rfl | rfl | rfl <;> rfl
  have hf : fitsK m false = true := by rcases hm with rfl | rfl | rfl <;> rfl
  unfold cntE cutE
  rw [hmin, hf]
  by_cases h0 : t = []
  · rw [if_pos (Or.inl ⟨rfl, h0, rfl⟩), if_pos (Or.inl h0)]
  rw [if_neg (by rintro (h | h); exact h0 h.2.1; cases h.1), if_neg (show ¬ (t = [] ∨ t = [45] ∧ (0 : Int) < 0) by rintro (h | h); exact h0 h; omega)]
  cases hn : numberOf t with
  | none => rfl
  | some n =>
    simp only
    by_cases hr : n < 0 ∨ mostK m < n
    · rw [if_pos (by rcases hr with h | h; exact Or.inl h; exact Or.inr (Or.inl h)), if_neg (by omega)]
    · rw [if_neg (by rintro (h | h | h); omega; omega; cases h), if_pos (by omega)]
theorem cnt_deep (m : UInt8) (t : By) (half : Bool) (hm : m = 37 ∨ m = 126 ∨ m = 62) : cntE m t half true = 120 := by
  have hmin : minusK m = false := by rcases hm with rfl | rfl | rfl <;> rfl
  have hf : fitsK m true = false := by rcases hm with rfl | rfl | rfl <;> rfl
  unfold cntE
  rw [hmin, hf, if_neg (by rintro (h | h); cases h.1; cases h.1)]
  cases numberOf t with
  | none => rfl
  | some n => simp
theorem nu_deep (r : By) : nuE r 0 (-1) = (120, 0, 0) := by unfold nuE; rw [if_pos (by omega)]
/-- half a line's end behind a count. -/
theorem cnt_half (m : UInt8) (t : By) (deep : Bool) (a b : Int) (hm : (m = 36 ∨ m = 42) ∧ a = -1 ∧ b = (if m = 42 ∧ deep = true then -1 else mostK m) ∨ (m = 37 ∨ m = 126 ∨ m = 62) ∧ deep = false ∧ a = 0 ∧ b = mostK m) :
    cntE m t true deep = (match numberOf t with | some n => if a ≤ n ∧ n ≤ b then 20 else 120 | none => 120) := by
  rcases hm with ⟨hm, rfl, hb⟩ | ⟨hm, rfl, rfl, rfl⟩
  · have hmin : minusK m = true := by rcases hm with rfl | rfl <;> rfl
    have hb0 : -1 ≤ b := by
      rw [hb]; split
      · omega
      · unfold mostK; split; omega; split <;> omega
    unfold cntE
    rw [hmin]
    by_cases h2 : t = [45, 49]
    · rw [if_pos (Or.inr ⟨rfl, Or.inl h2⟩), h2, num_minus1]
      simp only
      rw [if_pos ⟨by omega, hb0⟩]
    · rw [if_neg (by rintro (h | h); cases h.2.2; rcases h.2 with h | h; exact h2 h; cases h.2)]
      cases hn : numberOf t with
      | none => rfl
      | some n =>
        simp only
        have hn1 : n ≠ -1 := fun e => h2 (num_is1 (by rw [hn, e]))
        by_cases hf : fitsK m deep = true
        · have hbb : b = mostK m := by
            rw [hb, if_neg]
            rintro ⟨rfl, rfl⟩
            exact absurd hf (by decide)
          by_cases hr : n < 0 ∨ mostK m < n
          · rw [if_pos (by rcases hr with h | h; exact Or.inl h; exact Or.inr (Or.inl h)), if_neg (by rw [hbb]; omega)]
          · rw [if_neg (by rintro (h | h | h); omega; omega; rw [hf] at h; cases h), if_pos (by rw [hbb]; omega)]
        · have hf : fitsK m deep = false := by simpa using hf
          have hbb : b = -1 := by
            rw [hb, if_pos]
            unfold fitsK at hf
            rcases hm with rfl | rfl
            · simp at hf
            · simp at hf; exact ⟨rfl, hf⟩
          rw [if_pos (Or.inr (Or.inr hf)), if_neg (by rw [hbb]; omega)]
  · have hmin : minusK m = false := by rcases hm with rfl | rfl | rfl <;> rfl
    have hf : fitsK m false = true := by rcases hm with rfl | rfl | rfl <;> rfl
    unfold cntE
    rw [hmin, hf, if_neg (by rintro (h | h); cases h.2.2; cases h.1)]
    cases hn : numberOf t with
    | none => rfl
    | some n =>
      simp only
      by_cases hr : n < 0 ∨ mostK m < n
      · rw [if_pos (by rcases hr with h | h; exact Or.inl h; exact Or.inr (Or.inl h)), if_neg (by omega)]
      · rw [if_neg (by rintro (h | h | h); omega; omega; cases h), if_pos (by omega)]
/-- the bounds of a count. -/
theorem count_ok (m : UInt8) (deep : Bool) (hm : m = 42 ∨ m = 36) : (-1 : Int) ≤ (if m = 42 ∧ deep = true then -1 else mostK m) := by
  split
  · omega
  · unfold mostK; split; omega; split <;> omega
def kindK (m : UInt8) : Int := if m = 42 then 5 else if m = 37 then 6 else if m = 126 then 7 else if m = 62 then 8 else 0
theorem hdM_list {m : UInt8} (deep : Bool) (r : By) (hm : m = 42 ∨ m = 37 ∨ m = 126 ∨ m = 62) : hdM deep m r = listH (kindK m) (if m = 42 then -1 else 0) (mostK m) deep r := by
  rcases hm with rfl | rfl | rfl | rfl <;> rfl
theorem part_cases (m : UInt8) (t : By) (half deep : Bool) : partE m t half deep ≠ 0 := by
  unfold partE cntE
  repeat' split
  all_goals simp
/-- a line of which no end is there. -/
theorem hd_none (m : UInt8) (r : By) (deep : Bool) (h : elAt r = none) : (hdM deep m r).e = partE m r false deep := by
  by_cases h43 : m = 43
  · subst h43; unfold hdM partE lineH; rw [if_pos rfl, h, if_pos (Or.inl rfl)]
  by_cases h45 : m = 45
  · subst h45; unfold hdM partE lineH; rw [if_neg (by decide), if_pos rfl, h, if_pos (Or.inr rfl)]
  by_cases h58 : m = 58
  · subst h58
    have e : hdM deep 58 r = numH r := rfl
    rw [e, numH_e, nu_none (by omega) h]
    have e2 : partE 58 r false deep = (if (numberOf r).isSome = true ∨ (false = false ∧ (r = [] ∨ r = [45])) then 20 else 120) := rfl
    rw [e2]
    unfold cutE
    by_cases h0 : r = [] ∨ r = [45]
    · rw [if_pos (by rcases h0 with h0 | h0; exact Or.inl h0; exact Or.inr ⟨h0, by omega⟩), if_pos (Or.inr ⟨rfl, h0⟩)]
    · rw [if_neg (by rintro (h9 | h9); exact h0 (Or.inl h9); exact h0 (Or.inr h9.1))]
      cases hn : numberOf r with
      | none => rw [if_neg (by simp [h0])]
      | some n => have := range_all hn; simp [this.1, this.2]
  by_cases h95 : m = 95
  · subst h95
    have e : hdM deep 95 r = nullH r := rfl
    have e2 : partE 95 r false deep = (if r = [] then 20 else 120) := rfl
    rw [e, e2]; unfold nullH
    have hno := el_none h
    match r, hno with
    | [], _ => rfl
    | [c], hno => have := (hno c (by simp)).1; simp [endE, this]
    | c :: d :: t, hno => have := (hno c (by simp)).1; simp [endE, this]
  by_cases h35 : m = 35
  · subst h35
    have e : hdM deep 35 r = boolH r := rfl
    have e2 : partE 35 r false deep = (if r = [116] ∨ r = [102] ∨ (r = [] ∧ false = false) then 20 else 120) := rfl
    rw [e, e2]
    have hno := el_none h
    match r, hno with
    | [], _ => rfl
    | [c], hno =>
      simp only [boolH]
      by_cases hc : c = 116 ∨ c = 102
      · rw [if_pos hc, end_nil, if_neg (by decide), if_pos (by rcases hc with rfl | rfl <;> simp)]
      · rw [if_neg hc, if_neg (by simp at hc ⊢; exact hc)]
    | c :: d :: t, hno =>
      simp only [boolH]
      have h13 := (hno d (by simp)).1
      have he : endE (d :: t) = 120 := by
        cases t with
        | nil => simp [endE, h13]
        | cons x y => simp [endE, h13]
      rw [if_neg (show ¬ (c :: d :: t = [116] ∨ c :: d :: t = [102] ∨ c :: d :: t = [] ∧ True) by simp)]
      by_cases hc : c = 116 ∨ c = 102
      · rw [if_pos hc, he, if_neg (by decide)]
      · rw [if_neg hc]
  by_cases h36 : m = 36
  · subst h36
    have e : hdM deep 36 r = bulkH r := rfl
    have hn := nu_none (a := -1) (b := 524288) (by omega) h
    have hc := cnt_minus 36 r deep (Or.inl rfl) 524288 (by simp [mostK])
    rw [e, bulkH_e (by rw [hn]; rcases cutE_cases r (-1) 524288 with h9 | h9 <;> rw [h9] <;> decide), hn, ← hc]
    rfl
  by_cases h42 : m = 42
  · subst h42
    have hn := nu_none (a := -1) (b := if deep then -1 else 1048576) (by split <;> omega) h
    have hc := cnt_minus 42 r deep (Or.inr rfl) (if deep then -1 else 1048576) (by cases deep <;> rfl)
    rw [hdM_list deep r (Or.inl rfl)]
    show (listH 5 (-1) 1048576 deep r).e = _
    rw [listH_e (by rw [hn]; rcases cutE_cases r (-1) (if deep then -1 else 1048576) with h9 | h9 <;> rw [h9] <;> decide), hn, ← hc]
    rfl
  by_cases hl : m = 37 ∨ m = 126 ∨ m = 62
  · rw [hdM_list deep r (Or.inr hl)]
    have h42' : ¬ m = 42 := h42
    rw [if_neg h42']
    have hp : partE m r false deep = cntE m r false deep := by
      rcases hl with rfl | rfl | rfl <;> rfl
    rw [hp]
    cases deep with
    | true =>
      rw [cnt_deep m r false hl, listH_e (by simp only [if_true]; rw [nu_deep]; decide)]
      simp only [if_true]
      rw [nu_deep]
    | false =>
      have hmk : (0 : Int) ≤ mostK m := by unfold mostK; split; omega; split <;> omega
      have hn := nu_none (a := 0) (b := mostK m) hmk h
      have hn' : (nuE r 0 (if false = true then -1 else mostK m)).1 = cutE r 0 (mostK m) := hn
      rw [cnt_plus m r hl, listH_e (by rw [hn']; rcases cutE_cases r 0 (mostK m) with h9 | h9 <;> rw [h9] <;> decide), hn']
  · have e : hdM deep m r = { e := 120 } := by
      unfold hdM
      rw [if_neg h43, if_neg h45, if_neg h58, if_neg h36, if_neg h95, if_neg h35, if_neg h42, if_neg (fun h => hl (Or.inl h)), if_neg (fun h => hl (Or.inr (Or.inl h))), if_neg (fun h => hl (Or.inr (Or.inr h)))]
    rw [e]
    unfold partE
    rw [if_neg (by rintro (h | h); exact h43 h; exact h45 h), if_neg h58, if_neg h95, if_neg h35, if_neg (by rintro (h | h | h); exact h36 h; exact h42 h; exact hl h)]
theorem end_half {r : By} {i : Nat} (h13 : r[i]? = some 13) (hl : i + 1 = r.length) : r.drop i = [13] := by
  have hlt : i < r.length := by omega
  rw [List.drop_eq_getElem_cons hlt, List.drop_eq_nil_of_le (by omega)]
  rw [List.getElem?_eq_getElem hlt] at h13
  injection h13 with h13
  rw [h13]
theorem e13 : endE [13] = 20 := rfl
theorem take_nil_iff {r : By} {i : Nat} (hlt : i < r.length) : r.take i = [] ↔ i = 0 := by
  constructor
  · intro h
    have := congrArg List.length h
    rw [List.length_take] at this
    rw [List.length_nil] at this; omega
  · rintro rfl; rfl
/-- a line whose end is not what it must be, but for half of it. -/
theorem hd_bad (m : UInt8) (r : By) (deep : Bool) (i : Nat) (h : elAt r = some i) (hb : endE (r.drop i) = 120) : (hdM deep m r).e = 120 := by
  obtain ⟨hlt, hor, hno⟩ := el_some h
  have hnu : ∀ a b : Int, a ≤ b → (nuE r a b).1 = 120 := fun a b hab => by
    rw [(nu_some hab h).1]
    split
    · rw [hb]; split <;> rfl
    · rfl
  by_cases h43 : m = 43
  · subst h43
    show (lineH 1 r).e = 120
    unfold lineH; rw [h]; simp only; rw [hb, if_neg (by decide)]
  by_cases h45 : m = 45
  · subst h45
    show (lineH 2 r).e = 120
    unfold lineH; rw [h]; simp only; rw [hb, if_neg (by decide)]
  by_cases h58 : m = 58
  · subst h58
    show (numH r).e = 120
    rw [numH_e, hnu _ _ (by omega)]
  by_cases h95 : m = 95
  · subst h95
    show (nullH r).e = 120
    have he : endE r = 120 := by
      by_cases hi : i = 0
      · subst hi; rw [List.drop_zero] at hb; exact hb
      · match r, hlt, hno with
        | c :: t, _, hno =>
          have hc := (hno c (by rw [List.take_cons (by omega)]; simp)).1
          cases t with
          | nil => simp [endE, hc]
          | cons x y => simp [endE, hc]
    unfold nullH; rw [he, if_neg (by decide)]
  by_cases h35 : m = 35
  · subst h35
    show (boolH r).e = 120
    match r, hlt, hno, hb, hor with
    | c :: t, hlt, hno, hb, hor =>
      simp only [boolH]
      by_cases hc : c = 116 ∨ c = 102
      · rw [if_pos hc]
        have he : endE t = 120 := by
          by_cases hi : i = 0
          · subst hi
            exfalso
            simp at hor
            rcases hc with rfl | rfl <;> revert hor <;> decide
          · by_cases h1 : i = 1
            · subst h1; exact hb
            · obtain ⟨k, rfl⟩ : ∃ k, i = k + 2 := ⟨i - 2, by omega⟩
              match t, hlt, hno with
              | [], hlt, _ => simp at hlt
              | d :: u, _, hno =>
                have hd := (hno d (by simp)).1
                cases u with
                | nil => simp [endE, hd]
                | cons x y => simp [endE, hd]
        rw [he, if_neg (by decide)]
      · rw [if_neg hc]
  by_cases h36 : m = 36
  · subst h36
    show (bulkH r).e = 120
    have := hnu (-1) 524288 (by omega)
    rw [bulkH_e (by rw [this]; decide), this]
  by_cases hl : m = 42 ∨ m = 37 ∨ m = 126 ∨ m = 62
  · rw [hdM_list deep r hl]
    have hmk : (0 : Int) ≤ mostK m := by unfold mostK; split; omega; split <;> omega
    have hx : (nuE r (if m = 42 then -1 else 0) (if deep then -1 else mostK m)).1 = 120 := by
      by_cases h42 : m = 42
      · rw [if_pos h42]; refine hnu _ _ ?_; split <;> omega
      · rw [if_neg h42]
        cases deep with
        | true => simp only [if_true]; rw [nu_deep]
        | false => exact hnu _ _ hmk
    rw [listH_e (by rw [hx]; decide), hx]
  · have h42 : ¬ m = 42 := fun h => hl (Or.inl h)
    unfold hdM
    rw [if_neg h43, if_neg h45, if_neg h58, if_neg h36, if_neg h95, if_neg h35, if_neg h42, if_neg (fun h => hl (Or.inr (Or.inl h))), if_neg (fun h => hl (Or.inr (Or.inr (Or.inl h)))), if_neg (fun h => hl (Or.inr (Or.inr (Or.inr h))))]
/-- half a line's end. -/
theorem hd_half (m : UInt8) (r : By) (deep : Bool) (i : Nat) (h : elAt r = some i) (h13 : r[i]? = some 13) (hle : i + 1 = r.length) : (hdM deep m r).e = partE m (r.take i) true deep := by
  obtain ⟨hlt, hor, hno⟩ := el_some h
  have hd := end_half h13 hle
  have hnu : ∀ a b : Int, a ≤ b → (nuE r a b).1 = (match numberOf (r.take i) with | some n => if a ≤ n ∧ n ≤ b then 20 else 120 | none => 120) := fun a b hab => by
    rw [(nu_some hab h).1, hd]; rfl
  have hnz : ∀ a b : Int, a ≤ b → (nuE r a b).1 ≠ 0 := fun a b hab => by
    rw [hnu a b hab]
    split
    · split <;> decide
    · decide
  by_cases h43 : m = 43
  · subst h43
    show (lineH 1 r).e = 20
    unfold lineH; rw [h]; simp only; rw [hd, e13, if_neg (by decide)]
  by_cases h45 : m = 45
  · subst h45
    show (lineH 2 r).e = 20
    unfold lineH; rw [h]; simp only; rw [hd, e13, if_neg (by decide)]
  by_cases h58 : m = 58
  · subst h58
    show (numH r).e = (if (numberOf (r.take i)).isSome = true ∨ (true = false ∧ (r.take i = [] ∨ r.take i = [45])) then 20 else 120)
    rw [numH_e, hnu _ _ (by omega)]
    cases hn : numberOf (r.take i) with
    | none => simp
    | some n => have := range_all hn; simp [this.1, this.2]
  by_cases h95 : m = 95
  · subst h95
    show (nullH r).e = (if r.take i = [] then 20 else 120)
    unfold nullH
    by_cases hi : i = 0
    · subst hi
      rw [List.drop_zero] at hd
      rw [hd, e13]; rfl
    · rw [if_neg (show ¬ (r.take i = []) by rw [take_nil_iff hlt]; exact hi)]
      match r, hlt, hno with
      | c :: t, _, hno =>
        have hc := (hno c (by rw [List.take_cons (by omega)]; simp)).1
        have he : endE (c :: t) = 120 := by
          cases t with
          | nil => simp [endE, hc]
          | cons x y => simp [endE, hc]
        rw [he, if_neg (by decide)]
  by_cases h35 : m = 35
  · subst h35
    show (boolH r).e = (if r.take i = [116] ∨ r.take i = [102] ∨ (r.take i = [] ∧ true = false) then 20 else 120)
    match r, hlt, hno, hor, hd, h13 with
    | c :: t, hlt, hno, hor, hd, h13 =>
      simp only [boolH]
      by_cases hi : i = 0
      · subst hi
        have hc13 : c = 13 := by simpa using h13
        subst hc13
        simp
      · obtain ⟨k, rfl⟩ : ∃ k, i = k + 1 := ⟨i - 1, by omega⟩
        rw [List.take_succ_cons]
        by_cases hk : k = 0
        · subst hk
          have ht : t = [13] := by simpa using hd
          subst ht
          by_cases hc : c = 116 ∨ c = 102
          · rw [if_pos hc, e13, if_neg (by decide), if_pos (by rcases hc with rfl | rfl <;> simp)]
          · rw [if_neg hc, if_neg (by simp; simpa using hc)]
        · match t, hlt, hno with
          | [], hlt, _ => simp at hlt
          | d :: u, hlt, hno =>
            obtain ⟨j, rfl⟩ : ∃ j, k = j + 1 := ⟨k - 1, by omega⟩
            have hd13 := (hno d (by simp)).1
            have he : endE (d :: u) = 120 := by
              cases u with
              | nil => simp [endE, hd13]
              | cons x y => simp [endE, hd13]
            rw [he, if_neg (show ¬ ((120 : Nat) = 0) by decide), if_neg (show ¬ (c :: (d :: u).take (j + 1) = [116] ∨ c :: (d :: u).take (j + 1) = [102] ∨ (c :: (d :: u).take (j + 1) = [] ∧ true = false)) by simp)]
            split <;> rfl
  by_cases h36 : m = 36
  · subst h36
    show (bulkH r).e = cntE 36 (r.take i) true deep
    rw [bulkH_e (hnz _ _ (by omega)), hnu _ _ (by omega)]
    exact (cnt_half 36 (r.take i) deep (-1) 524288 (Or.inl ⟨Or.inl rfl, rfl, by simp [mostK]⟩)).symm
  by_cases h42 : m = 42
  · subst h42
    show (listH 5 (-1) 1048576 deep r).e = cntE 42 (r.take i) true deep
    have hab : (-1 : Int) ≤ if deep then -1 else 1048576 := by split <;> omega
    rw [listH_e (hnz _ _ hab), hnu _ _ hab]
    exact (cnt_half 42 (r.take i) deep (-1) _ (Or.inl ⟨Or.inr rfl, rfl, by cases deep <;> rfl⟩)).symm
  by_cases hl : m = 37 ∨ m = 126 ∨ m = 62
  · rw [hdM_list deep r (Or.inr hl), if_neg h42]
    have hp : partE m (r.take i) true deep = cntE m (r.take i) true deep := by
      rcases hl with rfl | rfl | rfl <;> rfl
    rw [hp]
    cases deep with
    | true =>
      rw [cnt_deep m _ true hl, listH_e (by simp only [if_true]; rw [nu_deep]; decide)]
      simp only [if_true]
      rw [nu_deep]
    | false =>
      have hmk : (0 : Int) ≤ mostK m := by unfold mostK; split; omega; split <;> omega
      have h1 : (nuE r 0 (if false = true then -1 else mostK m)).1 ≠ 0 := hnz 0 (mostK m) hmk
      have h2 : (nuE r 0 (if false = true then -1 else mostK m)).1 = _ := hnu 0 (mostK m) hmk
      rw [listH_e h1, h2]
      exact (cnt_half m (r.take i) false 0 (mostK m) (Or.inr ⟨hl, rfl, rfl, rfl⟩)).symm
  · unfold hdM partE
    rw [if_neg h43, if_neg h45, if_neg h58, if_neg h36, if_neg h95, if_neg h35, if_neg h42, if_neg (fun h => hl (Or.inl h)), if_neg (fun h => hl (Or.inr (Or.inl h))), if_neg (fun h => hl (Or.inr (Or.inr h)))]
    rw [if_neg (by rintro (h | h); exact h43 h; exact h45 h), if_neg h58, if_neg h95, if_neg h35, if_neg (by rintro (h | h | h); exact h36 h; exact h42 h; exact hl h)]
theorem numH_err {r : By} (h0 : (nuE r (-9223372036854775808) 9223372036854775807).1 ≠ 0) : numH r = { e := (nuE r (-9223372036854775808) 9223372036854775807).1 } := by
  unfold numH
  split
  · rename_i h; rw [h] at h0; exact absurd rfl h0
  · rename_i h; rw [h]
theorem bulkH_err {r : By} (h0 : (nuE r (-1) 524288).1 ≠ 0) : bulkH r = { e := (nuE r (-1) 524288).1 } := by
  unfold bulkH
  split
  · rename_i h; rw [h] at h0; exact absurd rfl h0
  · rename_i h; rw [h]
theorem listH_err {k a b : Int} {deep : Bool} {r : By} (h0 : (nuE r a (if deep then -1 else b)).1 ≠ 0) : listH k a b deep r = { e := (nuE r a (if deep then -1 else b)).1 } := by
  unfold listH
  split
  · rename_i h; rw [h] at h0; exact absurd rfl h0
  · rename_i h; rw [h]
/-- a whole line, and what stands behind it. -/
def fullR (m : UInt8) (l rest : By) (deep : Bool) : HdR :=
  if m = 43 then { e := 0, kind := 1, text := l, size := l.length + 3 }
  else if m = 45 then { e := 0, kind := 2, text := l, size := l.length + 3 }
  else if m = 58 then (match numberOf l with | some n => { e := 0, kind := 3, n := n, size := l.length + 3 } | none => { e := 120 })
  else if m = 95 then (if l = [] then { e := 0, size := 3 } else { e := 120 })
  else if m = 35 then (if l = [116] then { e := 0, kind := 11, n := 1, size := 4 } else if l = [102] then { e := 0, kind := 11, n := 0, size := 4 } else { e := 120 })
  else if m = 36 then (match numberOf l with | some n => if n = -1 then { e := 0, size := l.length + 3 } else if 0 ≤ n ∧ n ≤ 524288 then bulkT rest n.toNat (l.length + 2) else { e := 120 } | none => { e := 120 })
  else if m = 42 ∨ m = 37 ∨ m = 126 ∨ m = 62 then (match numberOf l with
    | some n => if m = 42 ∧ n = -1 then { e := 0, kind := 9, size := l.length + 3 } else if 0 ≤ n ∧ n ≤ mostK m ∧ deep = false then { e := 0, kind := kindK m, size := l.length + 3, many := some (if m = 37 then n.toNat * 2 else n.toNat) } else { e := 120 }
    | none => { e := 120 })
  else { e := 120 }
theorem hd_full (m : UInt8) (r t : By) (deep : Bool) (i : Nat) (h : elAt r = some i) (hd : r.drop i = 13 :: 10 :: t) : hdM deep m r = fullR m (r.take i) t deep := by
  obtain ⟨hlt, hor, hno⟩ := el_some h
  have he0 : endE (r.drop i) = 0 := by rw [hd]; rfl
  have hll : (r.take i).length = i := by rw [List.length_take]; omega
  have hdr : r.drop (i + 2) = t := by
    have : r.drop (i + 2) = (r.drop i).drop 2 := by rw [List.drop_drop]
    rw [this, hd]; rfl
  have hnu : ∀ a b : Int, a ≤ b → (nuE r a b).1 = (match numberOf (r.take i) with | some n => if a ≤ n ∧ n ≤ b then 0 else 120 | none => 120) := fun a b hab => by
    rw [(nu_some hab h).1, he0]
    try rfl
  have hok : ∀ a b : Int, a ≤ b → ∀ n, numberOf (r.take i) = some n → a ≤ n → n ≤ b → nuE r a b = (0, n, i + 2) := fun a b hab n hn h1 h2 => (nu_some hab h).2 n hn h1 h2 he0
  by_cases h43 : m = 43
  · subst h43
    show lineH 1 r = { e := 0, kind := 1, text := r.take i, size := (r.take i).length + 3 }
    unfold lineH; rw [h]; simp only; rw [if_pos he0, hll]
  by_cases h45 : m = 45
  · subst h45
    show lineH 2 r = { e := 0, kind := 2, text := r.take i, size := (r.take i).length + 3 }
    unfold lineH; rw [h]; simp only; rw [if_pos he0, hll]
  by_cases h58 : m = 58
  · subst h58
    show numH r = (match numberOf (r.take i) with | some n => { e := 0, kind := 3, n := n, size := (r.take i).length + 3 } | none => { e := 120 })
    rw [hll]
    have h1 := hnu (-9223372036854775808) 9223372036854775807 (by omega)
    cases hn : numberOf (r.take i) with
    | none =>
      rw [hn] at h1
      simp only at h1
      rw [numH_err (by rw [h1]; decide), h1]
    | some n =>
      have hr := range_all hn
      unfold numH
      rw [hok _ _ (by omega) n hn hr.1 hr.2]
      try rfl
  by_cases h95 : m = 95
  · subst h95
    show nullH r = (if r.take i = [] then { e := 0, size := 3 } else { e := 120 })
    unfold nullH
    by_cases hi : i = 0
    · subst hi
      rw [List.drop_zero] at he0
      rw [if_pos he0]; rfl
    · rw [if_neg (show ¬ (r.take i = []) by rw [take_nil_iff hlt]; exact hi)]
      match r, hlt, hno with
      | c :: t, _, hno =>
        have hc := (hno c (by rw [List.take_cons (by omega)]; simp)).1
        have he : endE (c :: t) = 120 := by
          cases t with
          | nil => simp [endE, hc]
          | cons x y => simp [endE, hc]
        rw [he, if_neg (by decide)]
  by_cases h35 : m = 35
  · subst h35
    show boolH r = (if r.take i = [116] then { e := 0, kind := 11, n := 1, size := 4 } else if r.take i = [102] then { e := 0, kind := 11, n := 0, size := 4 } else { e := 120 })
    match r, hlt, hno, hor, hd with
    | c :: u, hlt, hno, hor, hd =>
      rw [boolH]
      by_cases hi : i = 0
      · subst hi
        injection hd with h1 h2
        subst h1
        rfl
      · obtain ⟨k, rfl⟩ : ∃ k, i = k + 1 := ⟨i - 1, by omega⟩
        rw [List.take_succ_cons]
        by_cases hk : k = 0
        · subst hk
          have hu : u = 13 :: 10 :: t := by simpa using hd
          subst hu
          by_cases h116 : c = 116
          · subst h116; rfl
          · by_cases h102 : c = 102
            · subst h102; rfl
            · rw [if_neg (by rintro (h | h); exact h116 h; exact h102 h), if_neg (by simp; exact h116), if_neg (by simp; exact h102)]
        · match u, hlt, hno with
          | [], hlt, _ => simp at hlt
          | d :: v, hlt, hno =>
            obtain ⟨j, rfl⟩ : ∃ j, k = j + 1 := ⟨k - 1, by omega⟩
            have hd13 := (hno d (by simp)).1
            have he : endE (d :: v) = 120 := by
              cases v with
              | nil => simp [endE, hd13]
              | cons x y => simp [endE, hd13]
            rw [he, if_neg (show ¬ ((120 : Nat) = 0) by decide), if_neg (show ¬ (c :: (d :: v).take (j + 1) = [116]) by simp), if_neg (show ¬ (c :: (d :: v).take (j + 1) = [102]) by simp)]
            split <;> rfl
  by_cases h36 : m = 36
  · subst h36
    show bulkH r = (match numberOf (r.take i) with | some n => if n = -1 then { e := 0, size := (r.take i).length + 3 } else if 0 ≤ n ∧ n ≤ 524288 then bulkT t n.toNat ((r.take i).length + 2) else { e := 120 } | none => { e := 120 })
    rw [hll]
    have h1 := hnu (-1) 524288 (by omega)
    cases hn : numberOf (r.take i) with
    | none =>
      rw [hn] at h1
      simp only at h1
      rw [bulkH_err (by rw [h1]; decide), h1]
    | some n =>
      rw [hn] at h1
      simp only at h1 ⊢
      by_cases hr : -1 ≤ n ∧ n ≤ 524288
      · unfold bulkH
        rw [hok _ _ (by omega) n hn hr.1 hr.2]
        simp only
        by_cases hm1 : n = -1
        · rw [if_pos hm1, if_pos (by omega)]
        · rw [if_neg hm1, if_neg (by omega), if_pos (by omega), hdr]
      · rw [if_neg hr] at h1
        rw [bulkH_err (by rw [h1]; decide), h1, if_neg (by omega), if_neg (by omega)]
  by_cases hl : m = 42 ∨ m = 37 ∨ m = 126 ∨ m = 62
  · rw [hdM_list deep r hl]
    have hmk : (524288 : Int) ≤ mostK m := by unfold mostK; split; omega; split <;> omega
    have hful : fullR m (r.take i) t deep = (match numberOf (r.take i) with
    | some n => if m = 42 ∧ n = -1 then { e := 0, kind := 9, size := (r.take i).length + 3 } else if 0 ≤ n ∧ n ≤ mostK m ∧ deep = false then { e := 0, kind := kindK m, size := (r.take i).length + 3, many := some (if m = 37 then n.toNat * 2 else n.toNat) } else { e := 120 }
    | none => { e := 120 }) := by
      unfold fullR
      rw [if_neg h43, if_neg h45, if_neg h58, if_neg h95, if_neg h35, if_neg h36, if_pos hl]
    rw [hful, hll]
    have hk6 : (kindK m = 6) = (m = 37) := by
      rcases hl with rfl | rfl | rfl | rfl <;> simp [kindK]
    by_cases hnd : m ≠ 42 ∧ deep = true
    · have h42 := hnd.1
      rw [if_neg h42, hnd.2]
      rw [listH_err (by simp only [if_true]; rw [nu_deep]; decide)]
      simp only [if_true]
      rw [nu_deep]
      split
      · rw [if_neg (fun h => h42 h.1), if_neg (by rintro ⟨_, _, h⟩; cases h)]
      · rfl
    · have hab : (if m = 42 then (-1 : Int) else 0) ≤ (if deep then -1 else mostK m) := by
        by_cases h42 : m = 42
        · rw [if_pos h42]; split <;> omega
        · rw [if_neg h42]
          have : deep = false := by cases deep; rfl; exact absurd ⟨h42, rfl⟩ hnd
          rw [this]; simp; omega
      have h1 := hnu _ _ hab
      cases hn : numberOf (r.take i) with
      | none =>
        rw [hn] at h1
        simp only at h1
        rw [listH_err (by rw [h1]; decide), h1]
      | some n =>
        rw [hn] at h1
        simp only at h1 ⊢
        by_cases hr : (if m = 42 then (-1 : Int) else 0) ≤ n ∧ n ≤ (if deep then -1 else mostK m)
        · unfold listH
          rw [hok _ _ hab n hn hr.1 hr.2]
          simp only
          by_cases hneg : n < 0
          · have h42 : m = 42 := by
              rcases Classical.em (m = 42) with h9 | h9
              · exact h9
              · rw [if_neg h9] at hr; omega
            rw [if_pos hneg, if_pos ⟨h42, by rw [if_pos h42] at hr; omega⟩]
          · have hdf : deep = false := by
              cases deep with
              | false => rfl
              | true => simp only [if_true] at hr; omega
            rw [if_neg hneg, if_neg (show ¬ (m = 42 ∧ n = -1) by omega), if_pos (show 0 ≤ n ∧ n ≤ mostK m ∧ deep = false from ⟨by omega, by rw [hdf] at hr; simpa using hr.2, hdf⟩)]
            simp only [hk6]
        · rw [if_neg hr] at h1
          rw [listH_err (by rw [h1]; decide), h1, if_neg, if_neg]
          · rintro ⟨a1, a2, rfl⟩
            apply hr
            refine ⟨by split <;> omega, by simpa using a2⟩
          · rintro ⟨h42, rfl⟩
            apply hr
            rw [if_pos h42]
            refine ⟨by omega, ?_⟩
            split <;> omega
  · have h42 : ¬ m = 42 := fun h => hl (Or.inl h)
    unfold hdM fullR
    rw [if_neg h43, if_neg h45, if_neg h58, if_neg h36, if_neg h95, if_neg h35, if_neg h42, if_neg (fun h => hl (Or.inr (Or.inl h))), if_neg (fun h => hl (Or.inr (Or.inr (Or.inl h)))), if_neg (fun h => hl (Or.inr (Or.inr (Or.inr h))))]
    rw [if_neg h43, if_neg h45, if_neg h58, if_neg h95, if_neg h35, if_neg h36, if_neg hl]
end Go.Proofs.Vi
namespace Go.Proofs.Vi
open Go.Lib
set_option linter.unusedVariables false
set_option linter.unusedSimpArgs false
theorem end_len {r : By} {i : Nat} (h : endE (r.drop i) = 0) : i + 2 ≤ r.length := by
  obtain ⟨t, ht⟩ := endE_zero h
  have := congrArg List.length ht
  rw [List.length_drop] at this
  simp only [List.length_cons] at this
  omega
theorem nu_len {r : By} {a b n : Int} {z : Nat} (h : nuE r a b = (0, n, z)) : z ≤ r.length ∧ 2 ≤ z ∧ a ≤ n ∧ n ≤ b := by
  unfold nuE at h
  split at h
  · cases h
  · split at h
    · injection h with h1 h2
      rcases cutE_cases (r.take 21) a b with h9 | h9 <;> rw [h9] at h1 <;> cases h1
    · rename_i j hj
      split at h
      · cases h
      · split at h
        · cases h
        · rename_i hr
          split at h
          · rename_i he
            injection h with h1 h2
            injection h2 with h2 h3
            have := end_len he
            refine ⟨by omega, by omega, by omega, by omega⟩
          · rename_i he
            injection h with h1 h2
            exact absurd h1 he
theorem hd_len (deep : Bool) (s : By) (h : (hd deep s).e = 0) : 1 ≤ (hd deep s).size ∧ (hd deep s).size ≤ s.length := by
  match s, h with
  | [], h => cases h
  | m :: r, h =>
    have key : ∀ k : HdR, k.e = 0 → (k = lineH 1 r ∨ k = lineH 2 r ∨ k = numH r ∨ k = bulkH r ∨ k = nullH r ∨ k = boolH r ∨ (∃ a b c, k = listH a b c deep r) ∨ k = { e := 120 }) → 1 ≤ k.size ∧ k.size ≤ r.length + 1 := by
      intro k hk hc
      have line : ∀ q, (lineH q r).e = 0 → 1 ≤ (lineH q r).size ∧ (lineH q r).size ≤ r.length + 1 := by
        intro q hq
        unfold lineH at hq ⊢
        split at hq
        · cases hq
        · rename_i i hi
          split at hq
          · rename_i he
            have := end_len he
            simp only [hi, he, if_true]
            omega
          · rename_i he; exact absurd hq he
      rcases hc with rfl | rfl | rfl | rfl | rfl | rfl | ⟨a, b, c, rfl⟩ | rfl
      · exact line 1 hk
      · exact line 2 hk
      · rcases hz : nuE r (-9223372036854775808) 9223372036854775807 with ⟨e, n, z⟩
        by_cases he0 : e = 0
        · subst he0
          have h9 := nu_len hz
          have hq : numH r = { e := 0, kind := 3, n := n, size := z + 1 } := by unfold numH; rw [hz]; try rfl
          rw [hq]; simp only; omega
        · have : (numH r).e = e := by rw [numH_e, hz]
          omega
      · rcases hz : nuE r (-1) 524288 with ⟨e, n, z⟩
        by_cases he0 : e = 0
        · subst he0
          have h9 := nu_len hz
          by_cases hn : n < 0
          · have hq : bulkH r = { e := 0, size := z + 1 } := by unfold bulkH; rw [hz]; simp only; rw [if_pos hn]
            rw [hq]; simp only; omega
          · have hq : bulkH r = bulkT (r.drop z) n.toNat z := by unfold bulkH; rw [hz]; simp only; rw [if_neg hn]
            rw [hq] at hk ⊢
            by_cases hl : (r.drop z).length < n.toNat
            · have : bulkT (r.drop z) n.toNat z = { e := 20 } := by unfold bulkT; rw [if_pos hl]
              rw [this] at hk; cases hk
            · by_cases he : endE ((r.drop z).drop n.toNat) = 0
              · have : bulkT (r.drop z) n.toNat z = { e := 0, kind := 4, text := (r.drop z).take n.toNat, size := z + 1 + n.toNat + 2 } := by unfold bulkT; rw [if_neg hl, if_pos he]
                have h8 := end_len he
                rw [List.length_drop] at h8
                rw [this]; simp only; omega
              · have : bulkT (r.drop z) n.toNat z = { e := endE ((r.drop z).drop n.toNat) } := by unfold bulkT; rw [if_neg hl, if_neg he]
                rw [this] at hk; exact absurd hk he
        · have : (bulkH r).e = e := by rw [bulkH_e (by rw [hz]; exact he0), hz]
          omega
      · unfold nullH at hk ⊢
        split at hk
        · rename_i he
          obtain ⟨t, ht⟩ := endE_zero he
          have := congrArg List.length ht
          simp only [List.length_cons] at this
          simp only [he, if_true]; omega
        · rename_i he; exact absurd hk he
      · match r, hk with
        | [], hk => cases hk
        | c :: r2, hk =>
          simp only [boolH] at hk ⊢
          split at hk
          · rename_i hc
            split at hk
            · rename_i he
              obtain ⟨t, ht⟩ := endE_zero he
              have := congrArg List.length ht
              simp only [List.length_cons] at this
              simp only [hc, he, if_true, List.length_cons]; omega
            · rename_i he; exact absurd hk he
          · cases hk
      · rcases hz : nuE r b (if deep then -1 else c) with ⟨e, n, z⟩
        by_cases he0 : e = 0
        · subst he0
          have h9 := nu_len hz
          by_cases hn : n < 0
          · have hq : listH a b c deep r = { e := 0, kind := 9, size := z + 1 } := by unfold listH; rw [hz]; simp only; rw [if_pos hn]
            rw [hq]; simp only; omega
          · have hq : listH a b c deep r = { e := 0, kind := a, size := z + 1, many := some (if a = 6 then n.toNat * 2 else n.toNat) } := by unfold listH; rw [hz]; simp only; rw [if_neg hn]
            rw [hq]; simp only; omega
        · have : (listH a b c deep r).e = e := by rw [listH_e (by rw [hz]; exact he0), hz]
          omega
      · cases hk
    have hcase : hdM deep m r = lineH 1 r ∨ hdM deep m r = lineH 2 r ∨ hdM deep m r = numH r ∨ hdM deep m r = bulkH r ∨ hdM deep m r = nullH r ∨ hdM deep m r = boolH r ∨ (∃ a b c, hdM deep m r = listH a b c deep r) ∨ hdM deep m r = { e := 120 } := by
      by_cases h1 : m = 43
      · subst h1; exact Or.inl rfl
      by_cases h2 : m = 45
      · subst h2; exact Or.inr (Or.inl rfl)
      by_cases h3 : m = 58
      · subst h3; exact Or.inr (Or.inr (Or.inl rfl))
      by_cases h4 : m = 36
      · subst h4; exact Or.inr (Or.inr (Or.inr (Or.inl rfl)))
      by_cases h5 : m = 95
      · subst h5; exact Or.inr (Or.inr (Or.inr (Or.inr (Or.inl rfl))))
      by_cases h6 : m = 35
      · subst h6; exact Or.inr (Or.inr (Or.inr (Or.inr (Or.inr (Or.inl rfl)))))
      by_cases h7 : m = 42 ∨ m = 37 ∨ m = 126 ∨ m = 62
      · exact Or.inr (Or.inr (Or.inr (Or.inr (Or.inr (Or.inr (Or.inl ⟨_, _, _, hdM_list deep r h7⟩))))))
      · refine Or.inr (Or.inr (Or.inr (Or.inr (Or.inr (Or.inr (Or.inr ?_))))))
        unfold hdM
        rw [if_neg h1, if_neg h2, if_neg h3, if_neg h4, if_neg h5, if_neg h6, if_neg (fun e => h7 (Or.inl e)), if_neg (fun e => h7 (Or.inr (Or.inl e))), if_neg (fun e => h7 (Or.inr (Or.inr (Or.inl e)))), if_neg (fun e => h7 (Or.inr (Or.inr (Or.inr e))))]
    have := key (hdM deep m r) h hcase
    simpa [hd] using this
theorem decMany_len {α : Type} {f : By → Except Nat (α × Nat)} (hf : ∀ s t z, f s = .ok (t, z) → z ≤ s.length) : ∀ (n : Nat) (s : By) (ts : List α) (y : Nat), decMany f n s = .ok (ts, y) → y ≤ s.length ∧ ts.length = n
  | 0, s, ts, y, h => by
    injection h with h
    injection h with h1 h2
    subst h1; subst h2
    exact ⟨Nat.zero_le _, rfl⟩
  | n + 1, s, ts, y, h => by
    rw [decMany] at h
    cases h1 : decMany f n s with
    | error e => rw [h1] at h; cases h
    | ok p =>
      obtain ⟨ts1, y1⟩ := p
      rw [h1] at h
      simp only at h
      have ih := decMany_len hf n s ts1 y1 h1
      cases h2 : f (s.drop y1) with
      | error e => rw [h2] at h; cases h
      | ok p =>
        obtain ⟨t, z⟩ := p
        rw [h2] at h
        injection h with h
        injection h with h3 h4
        have := hf _ _ _ h2
        rw [List.length_drop] at this
        subst h3; subst h4
        refine ⟨by omega, by rw [List.length_append, ih.2]; rfl⟩
theorem dec_len : ∀ (k : Nat) (s : By) (t : Rn (Rp k)) (z : Nat), dec k s = .ok (t, z) → 1 ≤ z ∧ z ≤ s.length
  | 0, s, t, z, h => by
    rw [dec] at h
    split at h
    · rename_i he
      injection h with h
      injection h with h1 h2
      subst h2
      exact hd_len true s he
    · cases h
  | k + 1, s, t, z, h => by
    rw [dec] at h
    split at h
    · rename_i he
      have hl := hd_len false s he
      cases hm : (hd false s).many with
      | none =>
        rw [hm] at h
        injection h with h
        injection h with h1 h2
        subst h2
        exact hl
      | some c =>
        rw [hm] at h
        simp only at h
        cases h1 : decMany (dec k) c (s.drop (hd false s).size) with
        | error e => rw [h1] at h; cases h
        | ok p =>
          obtain ⟨ts, y⟩ := p
          rw [h1] at h
          injection h with h
          injection h with h2 h3
          subst h3
          have := (decMany_len (fun s t z h => (dec_len k s t z h).2) c _ ts y h1).1
          rw [List.length_drop] at this
          omega
    · cases h
end Go.Proofs.Vi
