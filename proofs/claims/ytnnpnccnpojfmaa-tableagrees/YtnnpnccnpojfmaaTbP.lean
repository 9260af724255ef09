import Derived.Test.YtnnpnccnpojfmaaTbN
import Derived.Test.YtnnpnccnpojfmaaNum4
namespace Go.Proofs.Ytnnpnccnpojfmaa
open Go.RowKit
set_option linter.unusedVariables false
namespace TB
/-- the words at k, k + st, .. up to last. -/
def plc (args : List ByteArray) (st : Nat) (last : Int) : Nat → Nat → List ByteArray
  | 0, _ => []
  | f + 1, k => match args[k]? with
    | some x => if (k : Int) ≤ last then x :: plc args st last f (k + st) else []
    | none => []
def lastOf (r : Rw) (n : Nat) : Int := if r.la < 0 then r.la + n else r.la
def placed (r : Rw) (args : List ByteArray) : List ByteArray := if r.fi = 0 then [] else plc args r.st.toNat (lastOf r args.length) (args.length + 1) r.fi.toNat
def cnt (l : List UInt8) (m : Nat) : Option Nat := match Vi.numberOf l with
  | some v => if 1 ≤ v ∧ v ≤ (m : Int) then some v.toNat else none
  | none => none
def behind (args : List ByteArray) (c : Nat) : List ByteArray := args.drop (c + 1)
def word (args : List ByteArray) (c : Nat) : ByteArray := args.getD c ⟨#[]⟩
/-- what is told of the words of a row. -/
def keyR (r : Rw) (args : List ByteArray) : List ByteArray × Int := if r.co = 0 then (placed r args, 0) else match cnt (word args r.co.toNat).data.toList (args.length - r.co.toNat - 1) with
  | some n => (placed r args ++ (behind args r.co.toNat).take n, 0)
  | none => ([], 5)
/-- what Keys tells. -/
def keys (args : List ByteArray) : List ByteArray × Int := match row args with
  | some r => if err args = 0 then keyR r args else ([], err args)
  | none => ([], 130)
theorem keys_none {args : List ByteArray} (h : row args = none) : keys args = ([], 130) := by unfold keys; rw [h]
theorem keys_err {args : List ByteArray} (h : err args ≠ 0) : keys args = ([], err args) := by
  unfold keys
  cases hr : row args with
  | none => rw [err_none hr]
  | some r => exact if_neg h
theorem keys_ok {args : List ByteArray} {r : Rw} (hr : row args = some r) (h : err args = 0) : keys args = keyR r args := by unfold keys; rw [hr]; exact if_pos h
theorem keyR_zero {r : Rw} (h : r.co = 0) (args : List ByteArray) : keyR r args = (placed r args, 0) := if_pos h
theorem keyR_no {r : Rw} (h : r.co ≠ 0) {args : List ByteArray} (hc : cnt (word args r.co.toNat).data.toList (args.length - r.co.toNat - 1) = none) : keyR r args = ([], 5) := by unfold keyR; rw [if_neg h, hc]
theorem keyR_yes {r : Rw} (h : r.co ≠ 0) {args : List ByteArray} {n : Nat} (hc : cnt (word args r.co.toNat).data.toList (args.length - r.co.toNat - 1) = some n) : keyR r args = (placed r args ++ (behind args r.co.toNat).take n, 0) := by unfold keyR; rw [if_neg h, hc]
def kfB (r : Rw) : Bool := (decide (0 ≤ r.fi) && decide (0 ≤ r.co)) && ((decide (r.fi = 0) || decide (1 ≤ r.st)) && ((decide (r.co = 0) || decide (r.co + 2 ≤ r.le)) && ((decide (r.co = 0) || (decide (r.fi = 0) || (decide (0 ≤ r.la) && decide (r.la ≤ r.fi)))) && decide (r.fi = 0 || r.fi ≤ 9))))
set_option maxRecDepth 100000 in
theorem tab_kf : tab.all kfB = true := by decide +kernel
theorem kf_parts {r : Rw} (h : r ∈ tab) : 0 ≤ r.fi ∧ 0 ≤ r.co ∧ (r.fi = 0 ∨ 1 ≤ r.st) ∧ (r.co = 0 ∨ r.co + 2 ≤ r.le) ∧ (r.co = 0 ∨ r.fi = 0 ∨ (0 ≤ r.la ∧ r.la ≤ r.fi)) := by
  have := List.all_eq_true.1 tab_kf r h
  unfold kfB at this
  simp only [Bool.and_eq_true, Bool.or_eq_true, decide_eq_true_eq] at this
  obtain ⟨⟨h1, h2⟩, h3, h4, h5, _⟩ := this
  exact ⟨h1, h2, h3, h4, h5⟩
theorem plc_len (args : List ByteArray) (st : Nat) (hst : 1 ≤ st) (last : Int) : ∀ f k, (plc args st last f k).length ≤ args.length - k
  | 0, k => by simp [plc]
  | f + 1, k => by
    unfold plc
    split
    · rename_i x hx
      have hk := (List.getElem?_eq_some_iff.1 hx).1
      split
      · have := plc_len args st hst last f (k + st)
        simp only [List.length_cons]; omega
      · simp
    · simp
theorem plc_one (args : List ByteArray) (st : Nat) (hst : 1 ≤ st) (last : Int) (f k : Nat) (h : last ≤ (k : Int)) : (plc args st last f k).length ≤ 1 := by
  cases f with
  | zero => simp [plc]
  | succ f =>
    unfold plc
    split
    · split
      · cases f with
        | zero => simp [plc]
        | succ f =>
          unfold plc
          split
          · rw [if_neg (by omega)]; simp
          · simp
      · simp
    · simp
theorem placed_len {r : Rw} (h : r ∈ tab) (args : List ByteArray) : (placed r args).length ≤ args.length := by
  obtain ⟨h1, h2, h3, h4, h5⟩ := kf_parts h
  unfold placed
  split
  · simp
  · rename_i hf
    have := plc_len args r.st.toNat (by omega) (lastOf r args.length) (args.length + 1) r.fi.toNat
    omega
theorem placed_one {r : Rw} (h : r ∈ tab) (hc : r.co ≠ 0) (args : List ByteArray) : (placed r args).length ≤ 1 := by
  obtain ⟨h1, h2, h3, h4, h5⟩ := kf_parts h
  unfold placed
  split
  · simp
  · rename_i hf
    refine plc_one _ _ (by omega) _ _ _ ?_
    unfold lastOf
    rw [if_neg (by omega)]; omega
theorem plc_hit (args : List ByteArray) (st : Nat) (last : Int) (f k : Nat) (x : ByteArray) (hx : args[k]? = some x) (hk : (k : Int) ≤ last) : plc args st last (f + 1) k = x :: plc args st last f (k + st) := by
  conv => lhs; unfold plc
  rw [hx]; exact if_pos hk
theorem plc_far (args : List ByteArray) (st : Nat) (last : Int) (f k : Nat) (hk : ¬ (k : Int) ≤ last) : plc args st last f k = [] := by
  cases f with
  | zero => rfl
  | succ f =>
    unfold plc
    split
    · exact if_neg hk
    · rfl
theorem plc_out (args : List ByteArray) (st : Nat) (last : Int) (f k : Nat) (hk : args.length ≤ k) : plc args st last f k = [] := by
  cases f with
  | zero => rfl
  | succ f => unfold plc; rw [List.getElem?_eq_none hk]
open Vi Go.Lib in
theorem num_digits {l : List UInt8} {v : Int} (h : numberOf l = some v) (hv : 0 ≤ v) : l = decDigits v.toNat ∧ v ≤ 9223372036854775807 := by
  obtain ⟨h1, h2, h3, _⟩ := numberOf_some h
  refine ⟨?_, h3⟩
  rw [← h1]
  obtain ⟨u, rfl⟩ : ∃ u : Nat, v = (u : Int) := ⟨v.toNat, by omega⟩
  rw [itoa_nonneg]; rfl
open Vi Go.Lib in
theorem digits_all (u : Nat) (k : Nat) (c : UInt8) (h : (decDigits u)[k]? = some c) : 48 ≤ c.toNat ∧ c.toNat ≤ 57 := by
  obtain ⟨d, hd⟩ := digit_of_decFrom _ _ _ (decFrom_digits u) k c h
  obtain ⟨h1, h2, h3⟩ := digitVal_eq hd
  omega
/-- what counted holds behind k digits. -/
structure CntAt (l : List UInt8) (m k n : Nat) : Prop where
  dec : Go.Lib.decFrom 0 (l.take k) = some n
  pos : 0 < k → 1 ≤ n
  le : n ≤ m
  head : 0 < k → ∀ c r, l = c :: r → 49 ≤ c.toNat
open Vi Go.Lib in
theorem CntAt.bad {l : List UInt8} {m k n : Nat} (h : CntAt l m k n) (c : UInt8) (hc : l[k]? = some c) (hd : ¬ (48 ≤ c.toNat ∧ c.toNat ≤ 57)) : cnt l m = none := by
  unfold cnt
  cases hn : numberOf l with
  | none => rfl
  | some v =>
    refine if_neg fun hv => hd ?_
    obtain ⟨e, _⟩ := num_digits hn (by omega)
    rw [e] at hc
    exact digits_all _ k c hc
open Vi Go.Lib in
theorem CntAt.next {l : List UInt8} {m k n : Nat} (h : CntAt l m k n) (c : UInt8) (hc : l[k]? = some c) (h0 : 48 ≤ c.toNat) (h1 : c.toNat ≤ 57) : decFrom 0 (l.take (k + 1)) = some (n * 10 + (c.toNat - 48)) := by
  rw [List.take_add_one, hc]
  exact decFrom_snoc _ _ _ _ _ h.dec (by unfold digitVal; rw [if_pos ⟨h0, h1⟩])
open Vi Go.Lib in
theorem cnt_zero {l : List UInt8} {m k : Nat} (h : decFrom 0 (l.take (k + 1)) = some 0) (hk : k < l.length) : cnt l m = none := by
  unfold cnt
  cases hn : numberOf l with
  | none => rfl
  | some v =>
    refine if_neg fun hv => ?_
    obtain ⟨e, _⟩ := num_digits hn (by omega)
    obtain ⟨c, r, e2, h48, h57, h49⟩ := digits_head v.toNat
    have h49 := h49 (by omega)
    rw [e, e2, List.take_succ_cons] at h
    simp only [decFrom, digitVal, if_pos (show 48 ≤ c.toNat ∧ c.toNat ≤ 57 from ⟨h48, h57⟩)] at h
    have := decFrom_le _ _ _ h
    omega
open Vi Go.Lib in
theorem cnt_big {l : List UInt8} {m k n : Nat} (h : decFrom 0 (l.take k) = some n) (hn : m < n) : cnt l m = none := by
  unfold cnt
  cases hq : numberOf l with
  | none => rfl
  | some v =>
    refine if_neg fun hv => ?_
    obtain ⟨e, _⟩ := num_digits hq (by omega)
    have hd := decFrom_digits v.toNat
    rw [← e] at hd
    have key : ∀ (a b : List UInt8) (acc n v : Nat), decFrom acc a = some n → decFrom acc (a ++ b) = some v → n ≤ v := by
      intro a
      induction a with
      | nil => intro b acc n v h1 h2; simp only [decFrom, Option.some.injEq] at h1; subst h1; exact decFrom_le _ _ _ h2
      | cons x a ih =>
        intro b acc n v h1 h2
        simp only [List.cons_append, decFrom] at h1 h2
        cases hx : digitVal x with
        | none => rw [hx] at h1; cases h1
        | some d => rw [hx] at h1 h2; exact ih b _ n v h1 h2
    have := key (l.take k) (l.drop k) 0 n v.toNat h (by rw [List.take_append_drop]; exact hd)
    omega
open Vi Go.Lib in
theorem CntAt.end {l : List UInt8} {m n : Nat} (h : CntAt l m l.length n) (hl : l ≠ []) (hm : m ≤ 9223372036854775807) : cnt l m = some n ∧ 1 ≤ n := by
  have hhead := h.head (by cases l with | nil => exact absurd rfl hl | cons a b => simp)
  have h1 := h.pos (by cases l with | nil => exact absurd rfl hl | cons a b => simp)
  have hd := h.dec
  rw [List.take_length] at hd
  obtain ⟨k, hk⟩ : ∃ k, l.length = k + 1 := ⟨l.length - 1, by cases l with | nil => exact absurd rfl hl | cons a b => simp⟩
  have e := digits_of_dec k l n hk hd hhead
  have hq := numberOf_itoa (n : Int) (by omega) (by have := h.le; omega)
  rw [itoa_nonneg, e] at hq
  refine ⟨?_, h1⟩
  unfold cnt
  rw [hq]
  have := h.le
  dsimp only
  rw [if_pos (by omega)]
  rfl
theorem CntAt.step {l : List UInt8} {m k n : Nat} (h : CntAt l m k n) (c : UInt8) (hc : l[k]? = some c) (h0 : 48 ≤ c.toNat) (h1 : c.toNat ≤ 57) (x : Nat) (hx : n * 10 + (c.toNat - 48) = x) (hx0 : x ≠ 0) (hxm : x ≤ m) : CntAt l m (k + 1) x := by
  refine ⟨by rw [← hx]; exact h.next c hc h0 h1, fun _ => by omega, hxm, fun _ a r he => ?_⟩
  rcases Nat.eq_zero_or_pos k with hk | hk
  · subst hk
    rw [he] at hc
    simp at hc
    subst hc
    have := h.dec
    simp [Go.Lib.decFrom] at this
    omega
  · exact h.head hk a r he
theorem CntAt.start (l : List UInt8) (m : Nat) : CntAt l m 0 0 := ⟨by simp [Go.Lib.decFrom], fun h => absurd h (by omega), by omega, fun h => absurd h (by omega)⟩
theorem row_mem {args : List ByteArray} {r : Rw} (h : row args = some r) : r ∈ tab := (find_mem h).1
theorem row_ok {args : List ByteArray} {r : Rw} (hr : row args = some r) (h : err args = 0) : r.le ≤ (args.length : Int) := by
  rcases Int.lt_or_le (args.length : Int) r.le with h1 | h1
  · have := err_few hr (Or.inl h1); omega
  · exact h1
theorem behind_len (args : List ByteArray) (c : Nat) : (behind args c).length = args.length - (c + 1) := by unfold behind; simp
theorem behind_next (args : List ByteArray) (c j : Nat) (x : ByteArray) (h : args[c + 1 + j]? = some x) : (behind args c).take (j + 1) = (behind args c).take j ++ [x] := by
  rw [List.take_add_one]
  unfold behind
  rw [List.getElem?_drop, h]; rfl
theorem cnt_nil (m : Nat) : cnt [] m = none := by
  unfold cnt
  cases hq : Vi.numberOf [] with
  | none => rfl
  | some v =>
    have := (Vi.numberOf_some hq).1
    exact if_neg fun hv => by
      obtain ⟨u, rfl⟩ : ∃ u : Nat, v = (u : Int) := ⟨v.toNat, by omega⟩
      rw [Go.Lib.itoa_nonneg] at this
      exact Vi.decDigits_ne u this
theorem cnt_le {l : List UInt8} {m n : Nat} (h : cnt l m = some n) : 1 ≤ n ∧ n ≤ m := by
  unfold cnt at h
  split at h
  · split at h
    · simp only [Option.some.injEq] at h; omega
    · cases h
  · cases h
end TB
end Go.Proofs.Ytnnpnccnpojfmaa
