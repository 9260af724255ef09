import Derived.Test.YtkhimjdipggmjaaGreatDoorHJ
namespace Go.Proofs.Vi
open Go.Lib
set_option linter.unusedVariables false
set_option linter.unusedSimpArgs false
/-- a reply's bytes in the third form, without those of its list. -/
def headB (kind : Int) (text : By) (n : Int) (len : Nat) : By :=
  if kind = 1 then 43 :: (text ++ [13, 10]) else if kind = 2 then 45 :: (text ++ [13, 10]) else if kind = 3 then 58 :: (itoa n ++ [13, 10])
  else if kind = 4 then 36 :: (itoa text.length ++ [13, 10] ++ (text ++ [13, 10])) else if kind = 0 ∨ kind = 9 then [95, 13, 10] else if kind = 11 then [35, if n ≠ 0 then 116 else 102, 13, 10]
  else if kind = 5 then 42 :: (itoa len ++ [13, 10]) else if kind = 6 then 37 :: (itoa (len / 2 : Nat) ++ [13, 10]) else if kind = 7 then 126 :: (itoa len ++ [13, 10]) else if kind = 8 then 62 :: (itoa len ++ [13, 10]) else []
def enc : (k : Nat) → Rn (Rp k) → By
  | 0, t => headB t.kind t.text t.n 0
  | k + 1, t => headB t.kind t.text t.n (List.length t.list) ++ List.flatMap (enc k) t.list
def Plain (t : By) : Prop := ∀ c ∈ t, c ≠ 13 ∧ c ≠ 10
/-- replies as Decode gives them. -/
def WfH (kind : Int) (text : By) (n : Int) (len : Nat) : Prop :=
  ((kind = 1 ∨ kind = 2) ∧ Plain text ∧ n = 0 ∧ len = 0) ∨ (kind = 3 ∧ text = [] ∧ (-9223372036854775808 ≤ n ∧ n ≤ 9223372036854775807) ∧ len = 0) ∨ (kind = 4 ∧ text.length ≤ 524288 ∧ n = 0 ∧ len = 0) ∨
  ((kind = 0 ∨ kind = 9) ∧ text = [] ∧ n = 0 ∧ len = 0) ∨ (kind = 11 ∧ text = [] ∧ (n = 0 ∨ n = 1) ∧ len = 0) ∨ ((kind = 5 ∨ kind = 7 ∨ kind = 8) ∧ text = [] ∧ n = 0 ∧ len ≤ 1048576) ∨ (kind = 6 ∧ text = [] ∧ n = 0 ∧ len ≤ 1048576 ∧ len % 2 = 0)
def lk (kind : Int) : Bool := decide (5 ≤ kind) && decide (kind ≤ 8)
def Wf : (k : Nat) → Rn (Rp k) → Prop
  | 0, t => WfH t.kind t.text t.n 0 ∧ lk t.kind = false
  | k + 1, t => WfH t.kind t.text t.n (List.length t.list) ∧ ∀ x : Rn (Rp k), List.Mem x (show List (Rn (Rp k)) from t.list) → Wf k x
/-- nulls as the null. -/
def nk (kind : Int) : Int := if kind = 9 then 0 else kind
def nn : (k : Nat) → Rn (Rp k) → Rn (Rp k)
  | 0, t => ⟨nk t.kind, t.text, t.n, t.list⟩
  | k + 1, t => ⟨nk t.kind, t.text, t.n, List.map (α := Rn (Rp k)) (nn k) t.list⟩
theorem el_plain {x : By} (hx : Plain x) (y : By) : elAt (x ++ 13 :: y) = some x.length := by
  refine List.findIdx?_eq_some_iff_getElem.2 ⟨by simp, ?_, fun j hj => ?_⟩
  · rw [List.getElem_append_right (Nat.le_refl _)]; simp
  · rw [List.getElem_append_left hj]
    have := hx x[j] (List.getElem_mem hj)
    simpa using this
theorem itoa_plain (n : Int) (h0 : -9223372036854775808 ≤ n) (h1 : n ≤ 9223372036854775807) : Plain (itoa n) := fun c hc => num_mem (numberOf_itoa n h0 h1) c hc
theorem end_ok (b : By) : endE (13 :: 10 :: b) = 0 := rfl
theorem nu_itoa (n a c : Int) (b : By) (h0 : -9223372036854775808 ≤ n) (h1 : n ≤ 9223372036854775807) (ha : a ≤ n) (hc : n ≤ c) : nuE (itoa n ++ 13 :: 10 :: b) a c = (0, n, (itoa n).length + 2) := by
  have he := el_plain (itoa_plain n h0 h1) (10 :: b)
  refine (nu_some (by omega) he).2 n ?_ ha hc ?_
  · rw [List.take_left]; exact numberOf_itoa n h0 h1
  · rw [List.drop_left]; rfl
theorem line_back (kd : Int) (t b : By) (ht : Plain t) : lineH kd (t ++ 13 :: 10 :: b) = { e := 0, kind := kd, text := t, size := t.length + 3 } := by
  unfold lineH
  rw [el_plain ht (10 :: b)]
  simp only
  rw [List.drop_left, end_ok, if_pos rfl, List.take_left]
theorem bulk_back (t b : By) (ht : t.length ≤ 524288) : bulkH (itoa t.length ++ 13 :: 10 :: (t ++ 13 :: 10 :: b)) = { e := 0, kind := 4, text := t, size := (itoa (t.length : Int)).length + 2 + 1 + t.length + 2 } := by
  unfold bulkH
  rw [nu_itoa (t.length : Int) (-1) 524288 _ (by omega) (by omega) (by omega) (by omega)]
  simp only
  rw [if_neg (by omega), Int.toNat_natCast]
  have hd : (itoa (t.length : Int) ++ 13 :: 10 :: (t ++ 13 :: 10 :: b)).drop ((itoa (t.length : Int)).length + 2) = t ++ 13 :: 10 :: b := by
    rw [← List.drop_drop, List.drop_left]; rfl
  rw [hd]
  unfold bulkT
  rw [if_neg (by simp), List.drop_left, end_ok, if_pos rfl, List.take_left]
theorem list_back (kd a c : Int) (len m : Nat) (b : By) (hlen : (m : Int) ≤ c) (hc : c ≤ 1048576) (ha : a ≤ 0) (hm : len = if kd = 6 then m * 2 else m) : listH kd a c false (itoa (m : Int) ++ 13 :: 10 :: b) = { e := 0, kind := kd, size := (itoa (m : Int)).length + 2 + 1, many := some len } := by
  unfold listH
  simp only [Bool.false_eq_true, if_false]
  rw [nu_itoa (m : Int) a c b (by omega) (by omega) (by omega) hlen]
  simp only
  rw [if_neg (by omega), Int.toNat_natCast, hm]
/-- what stands at the beginning of a reply's bytes. -/
theorem hd_back (deep : Bool) (kind : Int) (text : By) (n : Int) (len : Nat) (b : By) (h : WfH kind text n len) (hdp : lk kind = true → deep = false) :
    hd deep (headB kind text n len ++ b) = { e := 0, kind := nk kind, text := text, n := n, size := (headB kind text n len).length, many := if lk kind = true then some len else none } := by
  rcases h with ⟨hk | hk, h1, rfl, rfl⟩ | ⟨rfl, rfl, h1, rfl⟩ | ⟨rfl, h1, rfl, rfl⟩ | ⟨hk | hk, rfl, rfl, rfl⟩ | ⟨rfl, rfl, h1, rfl⟩ | ⟨hk | hk | hk, rfl, rfl, h1⟩ | ⟨rfl, rfl, rfl, h1, h2⟩
  · subst hk
    show lineH 1 ((text ++ [13, 10]) ++ b) = _
    rw [List.append_assoc]
    show lineH 1 (text ++ 13 :: 10 :: b) = _
    rw [line_back 1 text b h1]
    show _ = ({ e := 0, kind := 1, text := text, n := 0, size := (43 :: (text ++ [13, 10])).length, many := none } : HdR)
    simp
  · subst hk
    show lineH 2 ((text ++ [13, 10]) ++ b) = _
    rw [List.append_assoc]
    show lineH 2 (text ++ 13 :: 10 :: b) = _
    rw [line_back 2 text b h1]
    show _ = ({ e := 0, kind := 2, text := text, n := 0, size := (45 :: (text ++ [13, 10])).length, many := none } : HdR)
    simp
  · show numH ((itoa n ++ [13, 10]) ++ b) = _
    rw [List.append_assoc]
    unfold numH
    rw [show itoa n ++ ([13, 10] ++ b) = itoa n ++ 13 :: 10 :: b from rfl, nu_itoa n _ _ b h1.1 h1.2 h1.1 h1.2]
    show ({ e := 0, kind := 3, n := n, size := (itoa n).length + 2 + 1 } : HdR) = { e := 0, kind := 3, text := [], n := n, size := (58 :: (itoa n ++ [13, 10])).length, many := none }
    simp
  · show bulkH ((itoa text.length ++ [13, 10] ++ (text ++ [13, 10])) ++ b) = _
    have e : (itoa (text.length : Int) ++ [13, 10] ++ (text ++ [13, 10])) ++ b = itoa (text.length : Int) ++ 13 :: 10 :: (text ++ 13 :: 10 :: b) := by simp
    rw [e, bulk_back text b h1]
    show _ = ({ e := 0, kind := 4, text := text, n := 0, size := (36 :: (itoa (text.length : Int) ++ [13, 10] ++ (text ++ [13, 10]))).length, many := none } : HdR)
    simp; omega
  · subst hk; rfl
  · subst hk; rfl
  · rcases h1 with rfl | rfl <;> rfl
  · subst hk
    have hdf := hdp rfl
    subst hdf
    show listH 5 (-1) 1048576 false ((itoa len ++ [13, 10]) ++ b) = _
    rw [List.append_assoc, show itoa (len : Int) ++ ([13, 10] ++ b) = itoa (len : Int) ++ 13 :: 10 :: b from rfl, list_back 5 (-1) 1048576 len len b (by omega) (by omega) (by omega) rfl]
    show _ = ({ e := 0, kind := 5, text := [], n := 0, size := (42 :: (itoa (len : Int) ++ [13, 10])).length, many := some len } : HdR)
    simp
  · subst hk
    have hdf := hdp rfl
    subst hdf
    show listH 7 0 1048576 false ((itoa len ++ [13, 10]) ++ b) = _
    rw [List.append_assoc, show itoa (len : Int) ++ ([13, 10] ++ b) = itoa (len : Int) ++ 13 :: 10 :: b from rfl, list_back 7 0 1048576 len len b (by omega) (by omega) (by omega) rfl]
    show _ = ({ e := 0, kind := 7, text := [], n := 0, size := (126 :: (itoa (len : Int) ++ [13, 10])).length, many := some len } : HdR)
    simp
  · subst hk
    have hdf := hdp rfl
    subst hdf
    show listH 8 0 1048576 false ((itoa len ++ [13, 10]) ++ b) = _
    rw [List.append_assoc, show itoa (len : Int) ++ ([13, 10] ++ b) = itoa (len : Int) ++ 13 :: 10 :: b from rfl, list_back 8 0 1048576 len len b (by omega) (by omega) (by omega) rfl]
    show _ = ({ e := 0, kind := 8, text := [], n := 0, size := (62 :: (itoa (len : Int) ++ [13, 10])).length, many := some len } : HdR)
    simp
  · have hdf := hdp rfl
    subst hdf
    show listH 6 0 524288 false ((itoa (len / 2 : Nat) ++ [13, 10]) ++ b) = _
    rw [List.append_assoc, show itoa ((len / 2 : Nat) : Int) ++ ([13, 10] ++ b) = itoa ((len / 2 : Nat) : Int) ++ 13 :: 10 :: b from rfl, list_back 6 0 524288 len (len / 2) b (by omega) (by omega) (by omega) (by rw [if_pos rfl]; omega)]
    show _ = ({ e := 0, kind := 6, text := [], n := 0, size := (37 :: (itoa ((len / 2 : Nat) : Int) ++ [13, 10])).length, many := some len } : HdR)
    simp
theorem many_back {α β : Type} {f : By → Except Nat (β × Nat)} {g : α → By} {h : α → β} : ∀ (n : Nat) (l : List α) (b : By), l.length = n → (∀ x ∈ l, ∀ b, f (g x ++ b) = .ok (h x, (g x).length)) → decMany f n (l.flatMap g ++ b) = .ok (l.map h, (l.flatMap g).length)
  | 0, l, b, hn, _ => by
    have : l = [] := List.eq_nil_of_length_eq_zero hn
    subst this; rfl
  | n + 1, l, b, hn, hf => by
    obtain ⟨l', x, rfl⟩ : ∃ l' x, l = l' ++ [x] := ⟨l.dropLast, l.getLast (by intro e; subst e; simp at hn), (List.dropLast_concat_getLast _).symm⟩
    have hn' : l'.length = n := by simpa using hn
    have e : (l' ++ [x]).flatMap g ++ b = l'.flatMap g ++ (g x ++ b) := by simp [List.flatMap_append]
    rw [e, decMany, many_back n l' (g x ++ b) hn' (fun y hy => hf y (List.mem_append_left _ hy))]
    simp only
    rw [List.drop_left, hf x (by simp) b]
    simp [List.flatMap_append]
/-- what is written is read. -/
theorem dec_back : ∀ (k : Nat) (t : Rn (Rp k)) (b : By), Wf k t → dec k (enc k t ++ b) = .ok (nn k t, (enc k t).length)
  | 0, t, b, h => by
    have h1 := hd_back true t.kind t.text t.n 0 b h.1 (fun e => by rw [h.2] at e; cases e)
    rw [h.2] at h1
    rw [dec]
    show (if (hd true (headB t.kind t.text t.n 0 ++ b)).e = 0 then _ else _) = _
    rw [enc, h1, if_pos rfl]
    have hl : t.list = [] := by
      cases hh : t.list with
      | nil => rfl
      | cons x l => exact nomatch (show Empty from x)
    rw [nn, hl]
  | k + 1, t, b, h => by
    have h1 := hd_back false t.kind t.text t.n (List.length t.list) (List.flatMap (enc k) t.list ++ b) h.1 (fun _ => rfl)
    rw [dec, enc, List.append_assoc, h1, if_pos rfl]
    by_cases hk : lk t.kind = true
    · simp only [hk, if_true]
      rw [List.drop_left]
      have := many_back (f := dec k) (g := enc k) (h := nn k) (List.length t.list) t.list b rfl (fun x hx b => dec_back k x b (h.2 x hx))
      rw [this]
      simp only [nn, List.length_append]
      rfl
    · have hl : t.list = [] := by
        have hlen : List.length t.list = 0 := by
          rcases h.1 with ⟨_, _, _, e⟩ | ⟨_, _, _, e⟩ | ⟨_, _, _, e⟩ | ⟨_, _, _, e⟩ | ⟨_, _, _, e⟩ | ⟨hk2, _⟩ | ⟨hk2, _⟩
          · exact e
          · exact e
          · exact e
          · exact e
          · exact e
          · exfalso; apply hk; rcases hk2 with e | e | e <;> rw [e] <;> rfl
          · exfalso; apply hk; rw [hk2]; rfl
        exact List.eq_nil_of_length_eq_zero hlen
      have hkf : lk t.kind = false := by simpa using hk
      simp only [hkf, Bool.false_eq_true, if_false]
      rw [nn, hl]
      simp
      exact ⟨rfl, rfl⟩
end Go.Proofs.Vi
