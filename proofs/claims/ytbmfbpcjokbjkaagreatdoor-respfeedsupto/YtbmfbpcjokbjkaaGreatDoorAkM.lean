import Derived.Test.YtbmfbpcjokbjkaaGreatDoorCmA
import Derived.Test.YtbmfbpcjokbjkaaGreatDoorPcB
namespace Go.Proofs.YtbmfbpcjokbjkaaGreatDoor
open Go.RowKit Vi
set_option linter.unusedVariables false
set_option linter.unusedSimpArgs false
/-! what is read of a request's bytes. -/
theorem dec_no10 (u : Nat) : ∀ c ∈ Lib.decDigits u, c ≠ 10 := by
  induction u using Nat.strongRecOn with
  | _ u ih =>
    rw [Lib.decDigits]
    have hd : ∀ d, d < 10 → UInt8.ofNat (48 + d) ≠ 10 := by
      intro d hd
      match d, hd with
      | 0, _ => decide
      | 1, _ => decide
      | 2, _ => decide
      | 3, _ => decide
      | 4, _ => decide
      | 5, _ => decide
      | 6, _ => decide
      | 7, _ => decide
      | 8, _ => decide
      | 9, _ => decide
    split
    · rename_i h
      intro c hc
      rw [List.mem_singleton] at hc
      rw [hc]; exact hd u h
    · rename_i h
      intro c hc
      rcases List.mem_append.1 hc with hc | hc
      · exact ih (u / 10) (by omega) c hc
      · rw [List.mem_singleton] at hc
        rw [hc]; exact hd (u % 10) (by omega)
theorem itoa_no10 (n : Nat) : ∀ c ∈ Lib.itoa (n : Int), c ≠ 10 := by rw [Lib.itoa_nonneg]; exact dec_no10 n
theorem lf_at (x t : SP.Bs) (h : ∀ c ∈ x, c ≠ 10) : lfAt (x ++ 10 :: t) = some x.length := by
  have h0 : lfAt x = none := by
    unfold lfAt
    rw [List.findIdx?_eq_none_iff]
    intro c hc
    simpa using h c hc
  rw [lf_app_none h0]
  unfold lfAt
  rw [List.findIdx?_cons]
  simp
theorem eol_cr (x : SP.Bs) : eol (x ++ [13]) = x := by
  unfold eol Lib.trimSuffix
  have : Lib.hasSuffix (x ++ [13]) [13] = true := by simp [Lib.hasSuffix]
  rw [if_pos this]
  simp
/-- a line with a number. -/
theorem ln_is (b : UInt8) (d t : SP.Bs) (hb : b ≠ 10) (hd : ∀ c ∈ d, c ≠ 10) (hl : d.length ≤ 21) :
    lfAt ((b :: d ++ [13, 10] ++ t).take (65 - ([] : SP.Bs).length)) = some (d.length + 2) ∧ (b :: d ++ [13, 10] ++ t).take (d.length + 2) = b :: d ++ [13] ∧ (b :: d ++ [13, 10] ++ t).drop (d.length + 2 + 1) = t := by
  have e : b :: d ++ [13, 10] ++ t = (b :: d ++ [13]) ++ 10 :: t := by simp
  have hx : ∀ c ∈ b :: d ++ [13], c ≠ 10 := by
    intro c hc
    rcases List.mem_append.1 hc with hc | hc
    · rcases List.mem_cons.1 hc with rfl | hc
      · exact hb
      · exact hd c hc
    · rw [List.mem_singleton] at hc; rw [hc]; decide
  have hlen : (b :: d ++ [13]).length = d.length + 2 := by simp
  rw [e]
  refine ⟨?_, ?_, ?_⟩
  · rw [List.length_nil, take_two _ _ _ (by rw [hlen]; omega), hlen]
    obtain ⟨m, hm⟩ : ∃ m, 65 - 0 - (d.length + 2) = m + 1 := ⟨65 - 0 - (d.length + 2) - 1, by omega⟩
    rw [hm, List.take_succ_cons, lf_at _ _ hx, hlen]
  · rw [take_one _ _ _ (by rw [hlen]; exact Nat.le_refl _), List.take_of_length_le (by rw [hlen]; exact Nat.le_refl _)]
  · rw [drop_two _ _ _ (by rw [hlen]; omega), hlen, show d.length + 2 + 1 - (d.length + 2) = 1 by omega]; rfl
def sumL (xs : List ByteArray) : Nat := (xs.map (·.size)).sum
def argL (xs : List ByteArray) : List SP.Bs := xs.map (·.data.toList)
theorem word_36 (S : PS) (u : SP.Bs) : rdWord rdN S (36 :: u) = rdLen rdN { S with st := 2 } (36 :: u) := by
  show (if (36 : UInt8) = 36 then rdLen rdN { S with st := 2 } (36 :: u) else ⟨{ S with st := 2 }, [], [], expB 36, 2⟩) = _
  exact if_pos rfl
theorem rdG_42 (u : SP.Bs) : rdG (PS0 0) (42 :: u) = rdCount rdN (PS0 0) (42 :: u) := by
  show (if (42 :: u).head? = some (42 : UInt8) then rdCount rdN (PS0 0) (42 :: u) else rdLine (PS0 0) (42 :: u)) = _
  exact if_pos rfl
/-- a word is read. -/
theorem word_rd (S : PS) (x : ByteArray) (t : SP.Bs) (hp : S.part = []) (hx : x.size ≤ 524288) (h0 : 0 ≤ S.total) (ht : S.total + (x.size : Int) ≤ 33554432) :
    ∃ S', S'.part = [] ∧ S'.words = S.words ++ [x.data.toList] ∧ S'.more = S.more - 1 ∧ S'.total = S.total + (x.size : Int) ∧ rdN S (wdL x ++ t) = if 0 < S.more - 1 then rdN S' t else ⟨S', t, S'.words, [], 2⟩ := by
  have hil := Lib.itoa_length_le (x.size : Int) (by omega) (by omega)
  obtain ⟨g1, g2, g3⟩ := ln_is 36 (Lib.itoa (x.size : Int)) (x.data.toList ++ [13, 10] ++ t) (by decide) (itoa_no10 x.size) hil
  have es : wdL x ++ t = 36 :: Lib.itoa (x.size : Int) ++ [13, 10] ++ (x.data.toList ++ [13, 10] ++ t) := by unfold wdL; simp
  have hno := numberOf_itoa (x.size : Int) (by omega) (by omega)
  have hlv : lenV (Lib.itoa (x.size : Int)) = some (x.size : Int) := by
    unfold lenV
    rw [hno]
    exact if_pos ⟨by omega, by omega⟩
  refine ⟨{ S with st := 4, part := [], words := S.words ++ [x.data.toList], more := S.more - 1, size := (x.size : Int), total := S.total + (x.size : Int) }, rfl, rfl, rfl, rfl, ?_⟩
  rw [rdN_eq, es]
  refine (word_36 S (Lib.itoa (x.size : Int) ++ [13, 10] ++ (x.data.toList ++ [13, 10] ++ t))).trans ?_
  show rdLen rdN { S with st := 2 } (36 :: Lib.itoa (x.size : Int) ++ [13, 10] ++ (x.data.toList ++ [13, 10] ++ t)) = _
  unfold rdLen
  rw [show ({ S with st := 2 } : PS).part = [] from hp, g1]
  dsimp only
  rw [g2, g3, List.nil_append, eol_cr, List.drop_one, List.tail_cons, hlv]
  unfold lenO
  dsimp only
  rw [if_pos ht]
  unfold rdBody
  dsimp only
  have hln : (x.data.toList ++ [13, 10] ++ t).length + ([] : SP.Bs).length = x.size + 2 + t.length := by simp [list_len]; omega
  rw [hln, Int.toNat_natCast, if_neg (by omega)]
  have ht1 : (x.data.toList ++ [13, 10] ++ t).take (x.size + 2 - ([] : SP.Bs).length) = x.data.toList ++ [13, 10] := by
    rw [List.length_nil, Nat.sub_zero]
    exact List.take_left' (by simp [list_len])
  have ht2 : (x.data.toList ++ [13, 10] ++ t).drop (x.size + 2 - ([] : SP.Bs).length) = t := by
    rw [List.length_nil, Nat.sub_zero]
    exact List.drop_left' (by simp [list_len])
  have ht3 : (x.data.toList ++ [13, 10]).take x.size = x.data.toList := List.take_left' (list_len x)
  rw [ht1, ht2, List.nil_append, ht3]
theorem words_rd : ∀ (xs : List ByteArray) (S : PS) (t : SP.Bs), xs ≠ [] → S.part = [] → S.more = (xs.length : Int) → (∀ x ∈ xs, x.size ≤ 524288) → 0 ≤ S.total → S.total + (sumL xs : Int) ≤ 33554432 → ∃ S', rdN S (xs.flatMap wdL ++ t) = ⟨S', t, S.words ++ argL xs, [], 2⟩
  | [], _, _, h, _, _, _, _, _ => absurd rfl h
  | x :: ys, S, t, _, hp, hm, hx, h0, hs => by
    have hsx : (sumL (x :: ys) : Int) = (x.size : Int) + (sumL ys : Int) := by unfold sumL; simp
    obtain ⟨S1, p1, w1, m1, t1, e1⟩ := word_rd S x (ys.flatMap wdL ++ t) hp (hx x List.mem_cons_self) h0 (by omega)
    rw [List.flatMap_cons, List.append_assoc, e1]
    cases ys with
    | nil =>
      rw [if_neg (by rw [hm]; simp)]
      exact ⟨S1, by rw [w1]; rfl⟩
    | cons y zs =>
      rw [if_pos (by rw [hm]; simp)]
      obtain ⟨S2, e2⟩ := words_rd (y :: zs) S1 t (by simp) p1 (by rw [m1, hm]; simp) (fun z hz => hx z (List.mem_cons_of_mem _ hz)) (by rw [t1]; omega) (by rw [t1]; omega)
      refine ⟨S2, ?_⟩
      rw [e2, w1, List.append_assoc]; rfl
/-- a request that may be. -/
structure CmOk (xs : List ByteArray) : Prop where
  ne : xs ≠ []
  len : xs.length ≤ 1048576
  each : ∀ x ∈ xs, x.size ≤ 524288
  sum : sumL xs ≤ 33554432
theorem cmd_rd (xs : List ByteArray) (t : SP.Bs) (h : CmOk xs) : ∃ S', rdG (PS0 0) (cmdL xs ++ t) = ⟨S', t, argL xs, [], 2⟩ := by
  have hln := h.len
  have hil := Lib.itoa_length_le (xs.length : Int) (by omega) (by omega)
  have hpos : 0 < xs.length := by cases hx : xs with | nil => exact absurd hx h.ne | cons a l => simp
  obtain ⟨g1, g2, g3⟩ := ln_is 42 (Lib.itoa (xs.length : Int)) (xs.flatMap wdL ++ t) (by decide) (itoa_no10 xs.length) hil
  have es : cmdL xs ++ t = 42 :: Lib.itoa (xs.length : Int) ++ [13, 10] ++ (xs.flatMap wdL ++ t) := by rw [cmdL_full h.ne]; simp
  have hno := numberOf_itoa (xs.length : Int) (by omega) (by omega)
  have hok : cntOk (Lib.itoa (xs.length : Int)) = true := by
    unfold cntOk
    rw [hno]
    exact decide_eq_true (by omega)
  have hcn : cntN (Lib.itoa (xs.length : Int)) = (xs.length : Int) := by unfold cntN; rw [hno]; rfl
  rw [es]
  have e0 : rdG (PS0 0) (42 :: Lib.itoa (xs.length : Int) ++ [13, 10] ++ (xs.flatMap wdL ++ t)) = rdCount rdN (PS0 0) (42 :: Lib.itoa (xs.length : Int) ++ [13, 10] ++ (xs.flatMap wdL ++ t)) := rdG_42 _
  rw [e0]
  unfold rdCount
  rw [show (PS0 0).part = [] from rfl, g1]
  dsimp only
  rw [g2, g3, List.nil_append, eol_cr, List.drop_one, List.tail_cons]
  unfold cntO
  rw [if_pos hok, hcn, if_neg (by omega), ← rdN_eq]
  obtain ⟨S', e⟩ := words_rd xs { PS0 0 with st := 1, part := [], more := (xs.length : Int) } t h.ne rfl rfl h.each (Int.le_refl _) (by show (0 : Int) + _ ≤ _; have := h.sum; omega)
  exact ⟨S', by rw [e]; rfl⟩
theorem cmd_ne (xs : List ByteArray) (h : xs ≠ []) : ∃ a b t, cmdL xs = a :: b :: t := by
  rw [cmdL_full h]
  cases hi : Lib.itoa (xs.length : Int) with
  | nil => exact ⟨42, 13, 10 :: xs.flatMap wdL, by simp⟩
  | cons c r => exact ⟨42, c, r ++ [13, 10] ++ xs.flatMap wdL, by simp⟩
theorem cmd_tx (xs : List ByteArray) (h : CmOk xs) : TX (cmdL xs) = ([⟨argL xs, []⟩], some []) := by
  obtain ⟨S', e⟩ := cmd_rd xs [] h
  rw [List.append_nil] at e
  obtain ⟨a, b, t, e2⟩ := cmd_ne xs h.ne
  rw [TX_ok _ (by rw [e2]; simp) (by rw [e]; show (2 : Int) ≠ 0; decide) (by rw [e]), e]
  rfl
/-- behind all but the last byte it is held. -/
theorem cmd_cut (xs : List ByteArray) (h : CmOk xs) : TX (cmdL xs).dropLast = ([], some (cmdL xs).dropLast) := by
  obtain ⟨S', e⟩ := cmd_rd xs [] h
  rw [List.append_nil] at e
  obtain ⟨a, b, t, e2⟩ := cmd_ne xs h.ne
  have hne : (cmdL xs).dropLast ≠ [] := by rw [e2]; simp
  have hne2 : cmdL xs ≠ [] := by rw [e2]; simp
  refine TX_wait _ hne ?_
  have hlast : (cmdL xs).dropLast ++ [(cmdL xs).getLast hne2] = cmdL xs := List.dropLast_concat_getLast hne2
  by_cases hk : (rdG (PS0 0) (cmdL xs).dropLast).k = 0
  · exact hk
  · exfalso
    have he := rd0_ext (cmdL xs).dropLast [(cmdL xs).getLast hne2] hne hk
    rw [hlast, e] at he
    unfold exR at he
    split at he
    · have := congrArg RO.rest he
      simp at this
    · rename_i hr
      have := congrArg RO.err he
      exact hr this.symm
end Go.Proofs.YtbmfbpcjokbjkaaGreatDoor
