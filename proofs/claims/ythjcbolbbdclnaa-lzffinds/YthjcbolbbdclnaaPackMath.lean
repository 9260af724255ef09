import Derived.Test.YthjcbolbbdclnaaUnpMath
namespace Go.Proofs.Lz
set_option linter.unusedVariables false

/-- what bytes make of what was made, whatever stands behind them. -/
def Dec (size : Nat) (p o o' : List UInt8) : Prop := ∀ rest, unp size ((p ++ rest).length + 1) (p ++ rest) o = unp size (rest.length + 1) rest o'
theorem Dec.nil (size : Nat) (o : List UInt8) : Dec size [] o o := fun rest => rfl
theorem Dec.trans {size : Nat} {p q o o1 o2 : List UInt8} (h : Dec size p o o1) (k : Dec size q o1 o2) : Dec size (p ++ q) o o2 := by
  intro rest
  rw [List.append_assoc, h]
  exact k rest
theorem unp_cons (size f : Nat) (c : UInt8) (r o : List UInt8) : unp size (f + 1) (c :: r) o = if c.toNat < 32 then
        if size < o.length + c.toNat + 1 then ([], 31)
        else if r.length < c.toNat + 1 then ([], 20)
        else unp size f (r.drop (c.toNat + 1)) (o ++ r.take (c.toNat + 1))
      else
        match headC c.toNat r with
        | none => ([], 20)
        | some (n, b, r') => if size < o.length + n then ([], 31) else if o.length < b then ([], 30) else unp size f r' (copyN n b o) := rfl
theorem Dec.run (size : Nat) (l o : List UInt8) (h1 : l.length ≠ 0) (h2 : l.length ≤ 32) (h3 : o.length + l.length ≤ size) : Dec size (UInt8.ofNat (l.length - 1) :: l) o (o ++ l) := by
  intro rest
  have hn : (UInt8.ofNat (l.length - 1)).toNat = l.length - 1 := by rw [UInt8.toNat_ofNat']; omega
  have e : l.length - 1 + 1 = l.length := by omega
  show unp size ((l ++ rest).length + 1 + 1) (UInt8.ofNat (l.length - 1) :: (l ++ rest)) o = _
  rw [unp_cons, hn, if_pos (by omega), if_neg (by omega), if_neg (by simp; omega), e, List.drop_left, List.take_left]
  refine unp_fuel _ _ _ _ _ ?_ ?_
  · simp; omega
  · omega
/-- the bytes of a copy. -/
def copyP (back n : Nat) : List UInt8 :=
  if n - 2 < 7 then [UInt8.ofNat ((n - 2) * 32 + (back - 1) / 256), UInt8.ofNat ((back - 1) % 256)]
  else [UInt8.ofNat (224 + (back - 1) / 256), UInt8.ofNat (n - 9), UInt8.ofNat ((back - 1) % 256)]
theorem copyP_len (back n : Nat) (h : 3 ≤ n) : 3 * (copyP back n).length ≤ 2 * n ∧ (copyP back n).length + 1 ≤ n ∧ (copyP back n).length ≤ 3 := by
  unfold copyP
  split <;> simp <;> omega
theorem Dec.copy (size : Nat) (back n : Nat) (o : List UInt8) (hb : 1 ≤ back) (hb2 : back ≤ 8192) (hb3 : back ≤ o.length) (hn : 3 ≤ n) (hn2 : n ≤ 264) (hs : o.length + n ≤ size) : Dec size (copyP back n) o (copyN n back o) := by
  intro rest
  unfold copyP
  split
  · rename_i h
    have h1 : (UInt8.ofNat ((n - 2) * 32 + (back - 1) / 256)).toNat = (n - 2) * 32 + (back - 1) / 256 := by rw [UInt8.toNat_ofNat']; omega
    have h2 : (UInt8.ofNat ((back - 1) % 256)).toNat = (back - 1) % 256 := by rw [UInt8.toNat_ofNat']; omega
    have e1 : ((n - 2) * 32 + (back - 1) / 256) / 32 = n - 2 := by omega
    have e2 : ((n - 2) * 32 + (back - 1) / 256) % 32 * 256 + (back - 1) % 256 + 1 = back := by omega
    have e3 : n - 2 + 2 = n := by omega
    have hh : headC ((n - 2) * 32 + (back - 1) / 256) (UInt8.ofNat ((back - 1) % 256) :: rest) = some (n, back, rest) := by
      unfold headC
      rw [e1, if_neg (by omega)]
      simp only
      rw [h2, e2, e3]
    show unp size (rest.length + 1 + 1 + 1) (UInt8.ofNat ((n - 2) * 32 + (back - 1) / 256) :: (UInt8.ofNat ((back - 1) % 256) :: rest)) o = _
    rw [unp_cons, h1, if_neg (by omega), hh]
    simp only
    rw [if_neg (by omega), if_neg (by omega)]
    refine unp_fuel _ _ _ _ _ ?_ ?_
    · omega
    · omega
  · rename_i h
    have h1 : (UInt8.ofNat (224 + (back - 1) / 256)).toNat = 224 + (back - 1) / 256 := by rw [UInt8.toNat_ofNat']; omega
    have h2 : (UInt8.ofNat ((back - 1) % 256)).toNat = (back - 1) % 256 := by rw [UInt8.toNat_ofNat']; omega
    have h3 : (UInt8.ofNat (n - 9)).toNat = n - 9 := by rw [UInt8.toNat_ofNat']; omega
    have e1 : (224 + (back - 1) / 256) / 32 = 7 := by omega
    have e2 : (224 + (back - 1) / 256) % 32 * 256 + (back - 1) % 256 + 1 = back := by omega
    have e3 : 9 + (n - 9) = n := by omega
    have hh : headC (224 + (back - 1) / 256) (UInt8.ofNat (n - 9) :: UInt8.ofNat ((back - 1) % 256) :: rest) = some (n, back, rest) := by
      unfold headC
      rw [e1, if_pos rfl]
      simp only
      rw [h2, h3, e2, e3]
    show unp size (rest.length + 1 + 1 + 1 + 1) (UInt8.ofNat (224 + (back - 1) / 256) :: (UInt8.ofNat (n - 9) :: UInt8.ofNat ((back - 1) % 256) :: rest)) o = _
    rw [unp_cons, h1, if_neg (by omega), hh]
    simp only
    rw [if_neg (by omega), if_neg (by omega)]
    refine unp_fuel _ _ _ _ _ ?_ ?_
    · omega
    · omega
theorem take_snoc (l : List UInt8) (i : Nat) (h : i < l.length) : l.take (i + 1) = l.take i ++ [l.getD i 0] := by
  rw [List.take_add_one, List.getD_eq_getElem?_getD, List.getElem?_eq_getElem h]; rfl
theorem copyN_take (l : List UInt8) (i back : Nat) (hb : 1 ≤ back) (hi : back ≤ i) : ∀ n, i + n ≤ l.length → (∀ k, k < n → l.getD (i - back + k) 0 = l.getD (i + k) 0) → copyN n back (l.take i) = l.take (i + n) := by
  intro n
  induction n with
  | zero => intro _ _; rfl
  | succ n ih =>
    intro hn hk
    have h1 := ih (by omega) (fun k h => hk k (by omega))
    have hlen : (l.take (i + n)).length = i + n := by simp; omega
    rw [copyN_succ, h1, hlen, show i + (n + 1) = i + n + 1 by omega, take_snoc l (i + n) (by omega)]
    congr 2
    have h2 := hk n (by omega)
    rw [← h2, List.getD_eq_getElem?_getD, List.getD_eq_getElem?_getD, List.getElem?_take_of_lt (by omega), show i + n - back = i - back + n by omega]
/-- runs of bytes that stand for themselves. -/
def runsF : Nat → List UInt8 → List UInt8
  | 0, _ => []
  | f + 1, l => if l.length = 0 then [] else (UInt8.ofNat (min l.length 32 - 1) :: l.take 32) ++ runsF f (l.drop 32)
theorem runsF_fuel : ∀ (f g : Nat) (l : List UInt8), l.length ≤ f → l.length ≤ g → runsF f l = runsF g l := by
  intro f
  induction f with
  | zero =>
    intro g l h _
    cases g with
    | zero => rfl
    | succ g => simp only [runsF]; rw [if_pos (by omega)]
  | succ f ih =>
    intro g l hf hg
    cases g with
    | zero => simp only [runsF]; rw [if_pos (by omega)]
    | succ g =>
      simp only [runsF]
      by_cases h : l.length = 0
      · rw [if_pos h, if_pos h]
      · rw [if_neg h, if_neg h, ih g (l.drop 32) (by simp; omega) (by simp; omega)]
def runs (l : List UInt8) : List UInt8 := runsF l.length l
theorem runs_nil : runs [] = [] := rfl
theorem runs_step (l : List UInt8) (h : l.length ≠ 0) : runs l = (UInt8.ofNat (min l.length 32 - 1) :: l.take 32) ++ runs (l.drop 32) := by
  unfold runs
  rw [runsF_fuel l.length (l.length + 1) l (Nat.le_refl _) (by omega)]
  simp only [runsF]
  rw [if_neg h, runsF_fuel l.length (l.drop 32).length (l.drop 32) (by simp) (Nat.le_refl _)]
theorem runs_len (l : List UInt8) : (runs l).length = l.length + (l.length + 31) / 32 := by
  induction h : l.length using Nat.strongRecOn generalizing l with
  | _ n ih =>
    by_cases h0 : l.length = 0
    · rw [List.length_eq_zero_iff.1 h0, runs_nil]; simp; omega
    · rw [runs_step l h0, List.length_append, ih (l.drop 32).length (by simp; omega) _ rfl]
      simp; omega
theorem Dec.runs (size : Nat) (l : List UInt8) : ∀ o : List UInt8, o.length + l.length ≤ size → Dec size (runs l) o (o ++ l) := by
  induction h : l.length using Nat.strongRecOn generalizing l with
  | _ n ih =>
    intro o hs
    by_cases h0 : l.length = 0
    · rw [List.length_eq_zero_iff.1 h0, runs_nil, List.append_nil]; exact Dec.nil _ _
    · rw [runs_step l h0]
      have e : (l.take 32).length = min l.length 32 := by simp; omega
      have h1 := Dec.run size (l.take 32) o (by rw [e]; omega) (by rw [e]; omega) (by rw [e]; omega)
      rw [e] at h1
      have h2 := ih (l.drop 32).length (by simp; omega) (l.drop 32) rfl (o ++ l.take 32) (by simp; omega)
      rw [List.append_assoc, List.take_append_drop] at h2
      exact h1.trans h2
/-- the least number from k on, among so many, that does not hold. -/
def firstBad (P : Nat → Bool) : Nat → Nat → Nat
  | 0, k => k
  | f + 1, k => if P k = true then firstBad P f (k + 1) else k
theorem firstBad_props (P : Nat → Bool) : ∀ f k, k ≤ firstBad P f k ∧ firstBad P f k ≤ k + f ∧ (∀ j, k ≤ j → j < firstBad P f k → P j = true) ∧ (firstBad P f k < k + f → P (firstBad P f k) = false) := by
  intro f
  induction f with
  | zero => intro k; exact ⟨Nat.le_refl _, Nat.le_refl _, fun j h1 h2 => absurd h2 (by simp only [firstBad]; omega), fun h => absurd h (by simp only [firstBad]; omega)⟩
  | succ f ih =>
    intro k
    simp only [firstBad]
    by_cases h : P k = true
    · rw [if_pos h]
      obtain ⟨a, b, c, d⟩ := ih (k + 1)
      refine ⟨by omega, by omega, fun j h1 h2 => ?_, fun h1 => d (by omega)⟩
      by_cases hj : j = k
      · rw [hj]; exact h
      · exact c j (by omega) h2
    · rw [if_neg h]
      exact ⟨Nat.le_refl _, by omega, fun j h1 h2 => absurd h2 (by omega), fun _ => by simpa using h⟩
/-- one more than the last number below m that holds, or 0. -/
def lastP (P : Nat → Bool) : Nat → Nat
  | 0 => 0
  | m + 1 => if P m = true then m + 1 else lastP P m
theorem lastP_le (P : Nat → Bool) (m : Nat) : lastP P m ≤ m := by
  induction m with
  | zero => exact Nat.le_refl _
  | succ m ih => simp only [lastP]; split <;> omega
theorem lastP_holds (P : Nat → Bool) (m : Nat) (h : lastP P m ≠ 0) : P (lastP P m - 1) = true := by
  induction m with
  | zero => exact absurd rfl h
  | succ m ih =>
    simp only [lastP] at h ⊢
    by_cases hp : P m = true
    · rw [if_pos hp]; exact hp
    · rw [if_neg hp] at h ⊢; exact ih h
theorem lastP_none (P : Nat → Bool) (m j : Nat) (h1 : lastP P m ≤ j) (h2 : j < m) : P j = false := by
  induction m with
  | zero => omega
  | succ m ih =>
    simp only [lastP] at h1
    by_cases hp : P m = true
    · rw [if_pos hp] at h1; omega
    · rw [if_neg hp] at h1
      by_cases hj : j = m
      · rw [hj]; simpa using hp
      · exact ih h1 (by omega)
/-- no number from n on below m holds: the last below m is that below n. -/
theorem lastP_skip (P : Nat → Bool) (n m : Nat) (h : n ≤ m) (hn : ∀ j, n ≤ j → j < m → P j = false) : lastP P m = lastP P n := by
  induction m with
  | zero => have : n = 0 := by omega
            rw [this]
  | succ m ih =>
    by_cases e : n = m + 1
    · rw [e]
    · simp only [lastP]
      rw [if_neg (by rw [hn m (by omega) (by omega)]; simp)]
      exact ih (by omega) (fun j h1 h2 => hn j h1 (by omega))
def three (l : List UInt8) (i : Nat) : List UInt8 := (l.drop i).take 3
theorem three_at {l : List UInt8} {a b : Nat} (h : three l a = three l b) (k : Nat) (hk : k < 3) : l.getD (a + k) 0 = l.getD (b + k) 0 := by
  have h2 := congrArg (fun x => x[k]?) h
  simp only [three] at h2
  rw [List.getElem?_take_of_lt hk, List.getElem?_take_of_lt hk, List.getElem?_drop, List.getElem?_drop] at h2
  rw [List.getD_eq_getElem?_getD, List.getD_eq_getElem?_getD, h2]
def last3 (l : List UInt8) (i m : Nat) : Nat := lastP (fun j => three l j == three l i) m
/-- how far ahead of a place the last one with the same three bytes is, within reach; 0: none. -/
def findF (l : List UInt8) (i : Nat) : Nat := if last3 l i i = 0 ∨ 8192 < i + 1 - last3 l i i then 0 else i + 1 - last3 l i i
theorem findF_props {l : List UInt8} {i : Nat} (h : findF l i ≠ 0) : findF l i ≤ i ∧ findF l i ≤ 8192 ∧ three l (i - findF l i) = three l i := by
  unfold findF at h ⊢
  split at h
  · exact absurd rfl h
  · rename_i hc
    rw [if_neg hc]
    have h1 := lastP_le (fun j => three l j == three l i) i
    have h2 := lastP_holds (fun j => three l j == three l i) i (by have : last3 l i i ≠ 0 := by omega
                                                                   exact this)
    have e : i - (i + 1 - last3 l i i) = last3 l i i - 1 := by
      have h3 : last3 l i i ≤ i := h1
      omega
    refine ⟨by omega, by omega, ?_⟩
    rw [e]
    exact eq_of_beq h2
theorem findF_some {l : List UInt8} {i j : Nat} (hj : j < i) (h8 : i - j ≤ 8192) (h3 : three l j = three l i) : findF l i ≠ 0 := by
  have h1 : ¬ last3 l i i ≤ j := by
    intro hle
    have this : (three l j == three l i) = false := lastP_none (fun j => three l j == three l i) i j hle hj
    rw [h3] at this
    simp at this
  have h2 : last3 l i i ≤ i := lastP_le _ _
  unfold findF
  rw [if_neg (by omega)]
  omega
def alikeF (l : List UInt8) (a b : Nat) : Nat := firstBad (fun k => l.getD (a + k) 0 == l.getD (b + k) 0) (min (l.length - b) 264) 0
theorem alikeF_props {l : List UInt8} {a b : Nat} (hb : b + 3 ≤ l.length) (h3 : three l a = three l b) : 3 ≤ alikeF l a b ∧ alikeF l a b ≤ 264 ∧ b + alikeF l a b ≤ l.length ∧ ∀ k, k < alikeF l a b → l.getD (a + k) 0 = l.getD (b + k) 0 := by
  obtain ⟨_, h1, h2, h4⟩ := firstBad_props (fun k => l.getD (a + k) 0 == l.getD (b + k) 0) (min (l.length - b) 264) 0
  have e : firstBad (fun k => l.getD (a + k) 0 == l.getD (b + k) 0) (min (l.length - b) 264) 0 = alikeF l a b := rfl
  rw [e] at h1 h2 h4
  refine ⟨?_, by omega, by omega, fun k hk => eq_of_beq (h2 k (by omega) hk)⟩
  rcases Nat.lt_or_ge (alikeF l a b) 3 with hlt | hge
  · have this : (l.getD (a + alikeF l a b) 0 == l.getD (b + alikeF l a b) 0) = false := h4 (by omega)
    rw [three_at h3 _ hlt] at this
    simp at this
  · exact hge
/-- one place. -/
def step (l : List UInt8) (i : Nat) (st : List UInt8 × Nat) : List UInt8 × Nat :=
  if st.2 ≤ i then
    if findF l i = 0 then st
    else ((st.1 ++ runs ((l.drop st.2).take (i - st.2))) ++ copyP (findF l i) (alikeF l (i - findF l i) i), i + alikeF l (i - findF l i) i)
  else st
def stepsTo (l : List UInt8) : Nat → List UInt8 × Nat
  | 0 => ([], 0)
  | k + 1 => step l k (stepsTo l k)
def piecesF (l : List UInt8) : List UInt8 := (stepsTo l (l.length - 2)).1 ++ runs (l.drop (stepsTo l (l.length - 2)).2)
def packF (l : List UInt8) : Option (List UInt8) := if 524288 < l.length then none else if l.length < (piecesF l).length + 4 then none else some (piecesF l)
theorem steps_inv (l : List UInt8) : ∀ k, k + 2 ≤ l.length ∨ k = 0 → (stepsTo l k).2 ≤ l.length ∧ 32 * (stepsTo l k).1.length ≤ 33 * (stepsTo l k).2 ∧ Dec l.length (stepsTo l k).1 [] (l.take (stepsTo l k).2) := by
  intro k
  induction k with
  | zero => intro _; exact ⟨Nat.zero_le _, Nat.le_refl _, by simp only [stepsTo, List.take_zero]; exact Dec.nil _ _⟩
  | succ k ih =>
    intro hk
    obtain ⟨h1, h2, h3⟩ := ih (by omega)
    simp only [stepsTo, step]
    generalize hst : stepsTo l k = st at h1 h2 h3 ⊢
    by_cases hw : st.2 ≤ k
    · rw [if_pos hw]
      by_cases hf : findF l k = 0
      · rw [if_pos hf]; exact ⟨h1, h2, h3⟩
      · rw [if_neg hf]
        obtain ⟨f1, f2, f3⟩ := findF_props hf
        obtain ⟨a1, a2, a3, a4⟩ := alikeF_props (by omega : k + 3 ≤ l.length) f3
        obtain ⟨c1, c2, c3⟩ := copyP_len (findF l k) _ a1
        have hlen : ((l.drop st.2).take (k - st.2)).length = k - st.2 := by simp; omega
        have hr := runs_len ((l.drop st.2).take (k - st.2))
        rw [hlen] at hr
        have htl : (l.take st.2).length = st.2 := by simp; omega
        have htk : (l.take k).length = k := by simp; omega
        refine ⟨a3, by simp only [List.length_append]; omega, ?_⟩
        have d1 := Dec.runs l.length ((l.drop st.2).take (k - st.2)) (l.take st.2) (by omega)
        have ej : l.take st.2 ++ (l.drop st.2).take (k - st.2) = l.take k := by
          have := List.take_add (l := l) (i := st.2) (j := k - st.2)
          rw [← this]; congr 1; omega
        rw [ej] at d1
        have d2 := Dec.copy l.length (findF l k) (alikeF l (k - findF l k) k) (l.take k) (by omega) f2 (by omega) a1 a2 (by omega)
        rw [copyN_take l k (findF l k) (by omega) f1 _ a3 a4] at d2
        exact (h3.trans d1).trans d2
    · rw [if_neg hw]; exact ⟨h1, h2, h3⟩
theorem steps_bound (l : List UInt8) (k : Nat) (hk : k + 2 ≤ l.length ∨ k = 0) : (stepsTo l k).2 ≤ l.length ∧ 32 * (stepsTo l k).1.length ≤ 33 * l.length := by
  obtain ⟨h1, h2, _⟩ := steps_inv l k hk
  exact ⟨h1, by omega⟩
theorem pieces_dec (l : List UInt8) : Dec l.length (piecesF l) [] l ∧ 32 * (piecesF l).length ≤ 33 * l.length + 31 := by
  obtain ⟨h1, h2, h3⟩ := steps_inv l (l.length - 2) (by omega)
  have d := Dec.runs l.length (l.drop (stepsTo l (l.length - 2)).2) (l.take (stepsTo l (l.length - 2)).2) (by simp; omega)
  rw [List.take_append_drop] at d
  refine ⟨h3.trans d, ?_⟩
  unfold piecesF
  rw [List.length_append, runs_len, List.length_drop]
  omega
theorem packF_back {l p : List UInt8} (h : packF l = some p) : unpack p l.length = (l, 0) ∧ p.length + 4 ≤ l.length ∧ l.length ≤ 524288 := by
  unfold packF at h
  split at h
  · cases h
  · split at h
    · cases h
    · injection h with h
      subst h
      obtain ⟨h1, _⟩ := pieces_dec l
      refine ⟨?_, by omega, by omega⟩
      unfold unpack
      rw [if_neg (by omega)]
      have := h1 []
      rw [List.append_nil] at this
      rw [Int.toNat_natCast, this]
      simp only [unp]
      rw [if_neg (by omega)]
/-- two sizes that both go to the end make the same. -/
theorem unp_same (s1 s2 : Nat) : ∀ (f : Nat) (l o a b : List UInt8), unp s1 f l o = (a, 0) → unp s2 f l o = (b, 0) → a = b := by
  intro f
  induction f with
  | zero => intro l o a b h1 h2; simp only [unp] at h1 h2; cases h1; cases h2; rfl
  | succ f ih =>
    intro l o a b h1 h2
    match l with
    | [] =>
      simp only [unp] at h1 h2
      split at h1
      · cases h1
      · split at h2
        · cases h2
        · cases h1; cases h2; rfl
    | c :: r =>
      simp only [unp] at h1 h2
      by_cases hc : c.toNat < 32
      · rw [if_pos hc] at h1 h2
        split at h1
        · cases h1
        · split at h2
          · cases h2
          · split at h1
            · cases h1
            · rename_i hr
              rw [if_neg hr] at h2
              exact ih _ _ _ _ h1 h2
      · rw [if_neg hc] at h1 h2
        cases hh : headC c.toNat r with
        | none => rw [hh] at h1; cases h1
        | some q =>
          obtain ⟨n, bk, r'⟩ := q
          rw [hh] at h1 h2
          simp only at h1 h2
          split at h1
          · cases h1
          · split at h2
            · cases h2
            · split at h1
              · cases h1
              · rename_i hr
                rw [if_neg hr] at h2
                exact ih _ _ _ _ h1 h2
theorem unpack_bound (p : List UInt8) (size : Int) : ((unpack p size).2 ≠ 0 ∧ (unpack p size).1 = []) ∨ ((unpack p size).2 = 0 ∧ ((unpack p size).1.length : Int) = size ∧ 1 ≤ size ∧ size ≤ 524288) := by
  unfold unpack
  by_cases h : size < 1 ∨ 524288 < size
  · rw [if_pos h]; left; exact ⟨by decide, rfl⟩
  · rw [if_neg h]
    rcases unp_bound size.toNat (p.length + 1) p [] (Nat.zero_le _) (by omega) with h1 | h1
    · left; exact h1
    · right; exact ⟨h1.1, by rw [h1.2]; omega, by omega, by omega⟩
theorem packF_other {l p : List UInt8} (h : packF l = some p) (size : Int) (hs : size ≠ l.length) : (unpack p size).2 ≠ 0 ∧ (unpack p size).1 = [] := by
  rcases unpack_bound p size with h1 | ⟨h1, h2, h3, h4⟩
  · exact h1
  · exfalso
    obtain ⟨h5, h6, h7⟩ := packF_back h
    unfold unpack at h1 h2 h5
    rw [if_neg (by omega)] at h1 h2 h5
    have e : unp size.toNat (p.length + 1) p [] = ((unp size.toNat (p.length + 1) p []).1, 0) := Prod.ext rfl h1
    have := unp_same _ _ _ _ _ _ _ e h5
    rw [this] at h2
    omega
/-- where every place from k on stands as k ahead, the pieces are short. -/
theorem period_inv (l : List UInt8) (k : Nat) (hk : 1 ≤ k) (hk8 : k ≤ 8192) (hp : ∀ i, k ≤ i → i + 3 ≤ l.length → three l (i - k) = three l i) : ∀ j, j + 2 ≤ l.length ∨ j = 0 →
    ((stepsTo l j).2 ≤ k ∧ j ≤ k ∧ 32 * (stepsTo l j).1.length ≤ 33 * (stepsTo l j).2) ∨ (k < (stepsTo l j).2 ∧ j ≤ (stepsTo l j).2 ∧ 96 * (stepsTo l j).1.length ≤ 99 * k + 93 + 64 * ((stepsTo l j).2 - k)) := by
  intro j
  induction j with
  | zero => intro _; left; exact ⟨Nat.zero_le _, Nat.zero_le _, Nat.le_refl _⟩
  | succ j ih =>
    intro hj
    have h0 := ih (by omega)
    simp only [stepsTo, step]
    generalize hst : stepsTo l j = st at h0 ⊢
    by_cases hw : st.2 ≤ j
    · rw [if_pos hw]
      by_cases hf : findF l j = 0
      · rw [if_pos hf]
        have hjk : j < k := by
          rcases Nat.lt_or_ge j k with h | h
          · exact h
          · exact absurd hf (findF_some (j := j - k) (by omega) (by omega) (hp j h (by omega)))
        rcases h0 with ⟨a, b, c⟩ | ⟨a, b, c⟩
        · left; exact ⟨a, by omega, c⟩
        · omega
      · rw [if_neg hf]
        obtain ⟨f1, f2, f3⟩ := findF_props hf
        obtain ⟨a1, a2, a3, a4⟩ := alikeF_props (by omega : j + 3 ≤ l.length) f3
        obtain ⟨c1, c2, c3⟩ := copyP_len (findF l j) _ a1
        have hle : st.2 ≤ l.length := by omega
        have hlen : ((l.drop st.2).take (j - st.2)).length = j - st.2 := by simp; omega
        have hr := runs_len ((l.drop st.2).take (j - st.2))
        rw [hlen] at hr
        simp only [List.length_append]
        rcases h0 with ⟨a, b, c⟩ | ⟨a, b, c⟩
        · by_cases hjn : j + alikeF l (j - findF l j) j ≤ k
          · left; exact ⟨hjn, by omega, by omega⟩
          · right; exact ⟨by omega, by omega, by omega⟩
        · right; exact ⟨by omega, by omega, by omega⟩
    · rw [if_neg hw]
      rcases h0 with ⟨a, b, c⟩ | ⟨a, b, c⟩
      · left; exact ⟨a, by omega, c⟩
      · right; exact ⟨a, by omega, c⟩
theorem packF_period (l : List UInt8) (k : Nat) (hk : 1 ≤ k) (hk8 : k ≤ 8192) (hp : ∀ i, k ≤ i → i + 3 ≤ l.length → three l (i - k) = three l i) (hN : 35 * k + 542 ≤ 32 * l.length) (hm : l.length ≤ 524288) : packF l = some (piecesF l) := by
  have h2 : (piecesF l).length + 4 ≤ l.length := by
    obtain ⟨h1, _⟩ := steps_bound l (l.length - 2) (by omega)
    have h0 := period_inv l k hk hk8 hp (l.length - 2) (by omega)
    unfold piecesF
    rw [List.length_append, runs_len, List.length_drop]
    rcases h0 with ⟨a, b, c⟩ | ⟨a, b, c⟩
    · omega
    · have hr : l.length - (stepsTo l (l.length - 2)).2 = 0 ∨ l.length - (stepsTo l (l.length - 2)).2 = 1 ∨ l.length - (stepsTo l (l.length - 2)).2 = 2 := by omega
      rcases hr with hr | hr | hr <;> rw [hr] <;> omega
  unfold packF
  rw [if_neg (by omega), if_neg (by omega)]
theorem three_rep (n i : Nat) (x : UInt8) (h : i + 3 ≤ n) : three (List.replicate n x) i = [x, x, x] := by
  unfold three
  rw [List.drop_replicate, List.take_replicate]
  have : min 3 (n - i) = 3 := by omega
  rw [this]; rfl
theorem packF_same (n : Nat) (x : UInt8) (h : 20 ≤ n) (h2 : n ≤ 524288) : packF (List.replicate n x) = some (piecesF (List.replicate n x)) := by
  refine packF_period _ 1 (Nat.le_refl _) (by omega) (fun i h1 h3 => ?_) (by simp; omega) (by simpa using h2)
  rw [List.length_replicate] at h3
  rw [three_rep _ _ _ (by omega), three_rep _ _ _ h3]
theorem packF_twice (s : List UInt8) (h : 32 ≤ s.length) (h2 : s.length ≤ 4000) : packF (s ++ s) = some (piecesF (s ++ s)) := by
  refine packF_period _ s.length (by omega) (by omega) (fun i h1 h3 => ?_) (by simp; omega) (by simp; omega)
  rw [List.length_append] at h3
  unfold three
  rw [List.drop_append_of_le_length (by omega), List.take_append_of_le_length (by simp; omega)]
  rw [List.drop_append, List.drop_eq_nil_of_le h1, List.nil_append]
theorem packF_long (l : List UInt8) (h : 524288 < l.length) : packF l = none := by
  unfold packF
  rw [if_pos h]
end Go.Proofs.Lz
