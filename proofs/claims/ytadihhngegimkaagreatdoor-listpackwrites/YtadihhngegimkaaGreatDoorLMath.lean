import Derived.Test.YtadihhngegimkaaGreatDoorNumMath
set_option linter.unusedVariables false
namespace Go.Proofs.YtadihhngegimkaaGreatDoor.LM
open Go.Proofs.Vi
/-- bytes, the lowest first, as a number. -/
def leN : List UInt8 → Nat
  | [] => 0
  | b :: t => b.toNat + 256 * leN t
theorem leN_lt : ∀ l : List UInt8, leN l < 256 ^ l.length
  | [] => by simp [leN]
  | b :: t => by
    have h1 := leN_lt t; have h2 := b.toNat_lt
    simp only [leN, List.length_cons, Nat.pow_succ]
    omega
theorem leN_app : ∀ a b : List UInt8, leN (a ++ b) = leN a + 256 ^ a.length * leN b
  | [], b => by simp [leN]
  | x :: t, b => by
    have h := leN_app t b
    simp only [List.cons_append, leN, h, List.length_cons, Nat.pow_succ]
    rw [Nat.mul_add, Nat.mul_comm (256 ^ t.length) 256, Nat.mul_assoc]
    omega
theorem leN_inj : ∀ a b : List UInt8, a.length = b.length → leN a = leN b → a = b
  | [], [], _, _ => rfl
  | x :: s, y :: t, hl, h => by
    have hx := x.toNat_lt; have hy := y.toNat_lt
    simp only [leN] at h
    have h1 : x.toNat = y.toNat := by omega
    have h2 : leN s = leN t := by omega
    rw [leN_inj s t (by simpa using hl) h2, UInt8.toNat_inj.1 h1]
/-- a number's bytes. -/
def leB : Nat → Int → List UInt8
  | 0, _ => []
  | w + 1, n => UInt8.ofNat (n % 256).toNat :: leB w (n / 256)
theorem leB_len : ∀ w n, (leB w n).length = w
  | 0, _ => rfl
  | w + 1, n => by simp [leB, leB_len w]
theorem ofNat_toNat (k : Nat) (h : k < 256) : (UInt8.ofNat k).toNat = k := by
  rw [UInt8.toNat_ofNat']; omega
theorem emod_mul2 (n a b : Int) (ha : 0 < a) (hb : 0 < b) : n % (a * b) = n % a + a * ((n / a) % b) := by
  have h1 := Int.emod_add_mul_ediv n a
  have h2 := Int.emod_add_mul_ediv (n / a) b
  have h3 := Int.emod_nonneg n (Int.ne_of_gt ha); have h4 := Int.emod_lt_of_pos n ha
  have h5 := Int.emod_nonneg (n / a) (Int.ne_of_gt hb); have h6 := Int.emod_lt_of_pos (n / a) hb
  have e : n = (n % a + a * ((n / a) % b)) + (a * b) * (n / a / b) := by
    rw [Int.mul_assoc, Int.add_assoc, ← Int.mul_add, h2, h1]
  have hlt : n % a + a * ((n / a) % b) < a * b := by
    have : a * ((n / a) % b) ≤ a * (b - 1) := Int.mul_le_mul_of_nonneg_left (by omega) (by omega)
    rw [Int.mul_sub, Int.mul_one] at this
    omega
  have hnn : 0 ≤ n % a + a * ((n / a) % b) := Int.add_nonneg h3 (Int.mul_nonneg (by omega) h5)
  conv => lhs; rw [e, Int.add_mul_emod_self_left]
  exact Int.emod_eq_of_lt hnn hlt
theorem leN_leB : ∀ w n, (leN (leB w n) : Int) = n % (256 ^ w : Nat)
  | 0, n => by simp [leB, leN]
  | w + 1, n => by
    have h := leN_leB w (n / 256)
    have h0 : (n % 256).toNat < 256 := by omega
    simp only [leB, leN, ofNat_toNat _ h0]
    generalize leN (leB w (n / 256)) = a at h ⊢
    rw [Nat.pow_succ]
    generalize hM : 256 ^ w = M at h ⊢
    have hp : 0 < M := by rw [← hM]; exact Nat.pow_pos (by omega)
    have e : n % ((M * 256 : Nat) : Int) = n % 256 + 256 * ((n / 256) % (M : Int)) := by
      rw [show ((M * 256 : Nat) : Int) = 256 * (M : Int) by rw [Int.natCast_mul]; exact Int.mul_comm _ _]
      exact emod_mul2 n 256 M (by omega) (by omega)
    rw [e]
    omega
/-- what so many bytes mean, in two's complement. -/
def sg (w u : Nat) : Int := if 2 * u < 256 ^ w then (u : Int) else (u : Int) - (256 ^ w : Nat)
def fits (w : Nat) (n : Int) : Prop := -((256 ^ w : Nat) : Int) ≤ 2 * n ∧ 2 * n < ((256 ^ w : Nat) : Int)
theorem sg_fits (w u : Nat) (h : u < 256 ^ w) : fits w (sg w u) := by
  unfold sg fits
  generalize 256 ^ w = M at *
  split <;> omega
theorem sg_le (w : Nat) (n : Int) (h : fits w n) : sg w (leN (leB w n)) = n := by
  have h1 := leN_leB w n
  unfold sg; unfold fits at h
  generalize 256 ^ w = M at *
  generalize leN (leB w n) = a at *
  have h2 : (a : Int) < M := by rw [h1]; exact Int.emod_lt_of_pos _ (by omega)
  by_cases hn : 0 ≤ n
  · have : n % (M : Int) = n := Int.emod_eq_of_lt hn (by omega)
    split <;> omega
  · have : n % (M : Int) = n + M := by
      have h3 : (n + M) % (M : Int) = n + M := Int.emod_eq_of_lt (by omega) (by omega)
      rw [← h3]; simp
    split <;> omega
theorem le_sg (w : Nat) (l : List UInt8) (h : l.length = w) : leB w (sg w (leN l)) = l := by
  have hl := leN_lt l
  rw [h] at hl
  refine leN_inj _ _ (by rw [leB_len, h]) ?_
  have h1 := leN_leB w (sg w (leN l))
  unfold sg at h1 ⊢
  generalize hM : 256 ^ w = M at *
  generalize hA : leN l = a at *
  by_cases hc : 2 * a < M
  · simp only [hc, if_true] at h1 ⊢
    rw [Int.emod_eq_of_lt (by omega) (by omega)] at h1
    omega
  · simp only [hc, if_false] at h1 ⊢
    have : ((a : Int) - M) % (M : Int) = a := by
      rw [Int.sub_emod_right]
      exact Int.emod_eq_of_lt (by omega) (by omega)
    omega
theorem leB_inj (w : Nat) (a b : Int) (ha : fits w a) (hb : fits w b) (h : leB w a = leB w b) : a = b := by
  rw [← sg_le w a ha, ← sg_le w b hb, h]
theorem leB_nat (w n : Nat) (h : n < 256 ^ w) : leN (leB w n) = n := by
  have := leN_leB w n
  rw [Int.emod_eq_of_lt (by omega) (by omega)] at this
  omega

/-- a value as its entry tells it: a number, or a text that is no number's. -/
structure Item where
  txt : List UInt8
  num : Int
  isN : Bool
def numI (n : Int) : Item := ⟨[], n, true⟩
def txtI (s : List UInt8) : Item := ⟨s, 0, false⟩
def itemOf (v : List UInt8) : Item := match numberOf v with
  | some n => numI n
  | none => txtI v
def val (it : Item) : List UInt8 := if it.isN then Go.Lib.itoa it.num else it.txt
def I64 (n : Int) : Prop := -9223372036854775808 ≤ n ∧ n ≤ 9223372036854775807
/-- an item that an entry may tell. -/
def Wf (it : Item) : Prop := (it.isN = true ∧ it.txt = [] ∧ I64 it.num) ∨ (it.isN = false ∧ it.num = 0 ∧ numberOf it.txt = none ∧ it.txt.length ≤ 524288)
theorem dig19 : ∀ (k u : Nat), u < 10 ^ k → Go.Lib.nDigits u ≤ max 1 k
  | 0, u, h => by rw [Go.Lib.nDigits_small (by omega)]; omega
  | k + 1, u, h => by
    by_cases hu : u < 10
    · rw [Go.Lib.nDigits_small hu]; omega
    · rw [Go.Lib.nDigits_big hu]
      have := dig19 k (u / 10) (by rw [Nat.pow_succ] at h; omega)
      rcases k with _ | k
      · simp at h; omega
      · omega
theorem itoa_short (n : Int) (h : I64 n) : (Go.Lib.itoa n).length ≤ 20 := by
  obtain ⟨h0, h1⟩ := h
  by_cases hn : n < 0
  · obtain ⟨u, hu⟩ : ∃ u : Nat, n = -(u : Int) := ⟨n.natAbs, by omega⟩
    subst hu
    rw [Go.Lib.itoa_neg u (by omega), List.length_cons, Go.Lib.decDigits_length]
    have := dig19 19 u (by omega)
    omega
  · obtain ⟨u, hu⟩ : ∃ u : Nat, n = (u : Int) := ⟨n.toNat, by omega⟩
    subst hu
    rw [Go.Lib.itoa_nonneg, Go.Lib.decDigits_length]
    have := Go.Lib.nDigits_le20 u (by omega)
    omega
theorem itemOf_wf (v : List UInt8) (h : v.length ≤ 524288) : Wf (itemOf v) := by
  unfold itemOf
  cases hn : numberOf v with
  | some n => exact Or.inl ⟨rfl, rfl, (numberOf_some hn).2.1, (numberOf_some hn).2.2.1⟩
  | none => exact Or.inr ⟨rfl, rfl, hn, h⟩
theorem val_itemOf (v : List UInt8) : val (itemOf v) = v := by
  unfold itemOf
  cases hn : numberOf v with
  | some n => exact (numberOf_some hn).1
  | none => rfl
theorem itemOf_val (it : Item) (h : Wf it) : itemOf (val it) = it := by
  obtain ⟨t, n, b⟩ := it
  rcases h with ⟨rfl, rfl, h1⟩ | ⟨rfl, rfl, h1, _⟩
  · simp only [val, if_true]
    unfold itemOf; rw [numberOf_itoa n h1.1 h1.2]; rfl
  · simp only [val]
    unfold itemOf; simp only [Bool.false_eq_true, if_false]
    rw [show numberOf t = none from h1]; rfl
theorem val_len (it : Item) (h : Wf it) : (val it).length ≤ 524288 := by
  rcases h with ⟨h1, h2, h3⟩ | ⟨h1, h2, h3, h4⟩
  · unfold val; rw [h1]; have := itoa_short _ h3; simp; omega
  · unfold val; rw [h1]; simpa using h4
theorem val_inj (a b : Item) (ha : Wf a) (hb : Wf b) (h : val a = val b) : a = b := by
  rw [← itemOf_val a ha, ← itemOf_val b hb, h]

/-- how many bytes head and data have. -/
def nsize (n : Int) : Nat :=
  if 0 ≤ n ∧ n ≤ 127 then 1 else if -4096 ≤ n ∧ n ≤ 4095 then 2 else if -32768 ≤ n ∧ n ≤ 32767 then 3
  else if -8388608 ≤ n ∧ n ≤ 8388607 then 4 else if -2147483648 ≤ n ∧ n ≤ 2147483647 then 5 else 9
def thead (l : Nat) : Nat := if l ≤ 63 then 1 else if l ≤ 4095 then 2 else 5
def dsize (it : Item) : Nat := if it.isN then nsize it.num else thead it.txt.length + it.txt.length
def ndata (n : Int) : List UInt8 :=
  if 0 ≤ n ∧ n ≤ 127 then [UInt8.ofNat n.toNat] else if -4096 ≤ n ∧ n ≤ 4095 then [UInt8.ofNat (192 + (n % 8192 / 256).toNat), UInt8.ofNat (n % 256).toNat]
  else if -32768 ≤ n ∧ n ≤ 32767 then 241 :: leB 2 n else if -8388608 ≤ n ∧ n ≤ 8388607 then 242 :: leB 3 n
  else if -2147483648 ≤ n ∧ n ≤ 2147483647 then 243 :: leB 4 n else 244 :: leB 8 n
def tdata (t : List UInt8) : List UInt8 :=
  if t.length ≤ 63 then UInt8.ofNat (128 + t.length) :: t else if t.length ≤ 4095 then UInt8.ofNat (224 + t.length / 256) :: UInt8.ofNat (t.length % 256) :: t
  else 240 :: (leB 4 (t.length : Nat) ++ t)
def data (it : Item) : List UInt8 := if it.isN then ndata it.num else tdata it.txt
theorem ndata_len (n : Int) : (ndata n).length = nsize n := by
  unfold ndata nsize; split <;> (try rfl); split <;> (try rfl); split <;> (try simp [leB_len]); split <;> (try simp [leB_len]); split <;> simp [leB_len]
theorem tdata_len (t : List UInt8) : (tdata t).length = thead t.length + t.length := by
  unfold tdata thead; split
  · simp; omega
  · split
    · simp; omega
    · simp [leB_len]; omega
theorem data_len (it : Item) : (data it).length = dsize it := by
  unfold data dsize; split
  · exact ndata_len _
  · exact tdata_len _
theorem dsize_pos (it : Item) : 1 ≤ dsize it := by
  unfold dsize nsize thead; (repeat' split) <;> omega
theorem dsize_le (it : Item) (h : Wf it) : dsize it ≤ 524293 := by
  rcases h with ⟨h1, h2, h3⟩ | ⟨h1, h2, h3, h4⟩
  · unfold dsize nsize; rw [h1]; simp only [if_true]; (repeat' split) <;> omega
  · unfold dsize thead; rw [h1]; simp only [Bool.false_eq_true, if_false]; (repeat' split) <;> omega

/-! reading. -/
def s13 (u : Nat) : Int := if u % 8192 < 4096 then ((u % 8192 : Nat) : Int) else ((u % 8192 : Nat) : Int) - 8192
def txtAt (s : List UInt8) (h L : Nat) : Option (Item × Nat) := if h + L ≤ s.length then some (txtI ((s.drop h).take L), h + L) else none
def numAt (s : List UInt8) (k : Nat) : Option (Item × Nat) := if 1 + k ≤ s.length then some (numI (sg k (leN ((s.drop 1).take k))), 1 + k) else none
def rdF (f : Nat) (s : List UInt8) : Option (Item × Nat) :=
  if f < 128 then some (numI f, 1)
  else if f < 192 then txtAt s 1 (f - 128)
  else if f < 224 then (if 2 ≤ s.length then some (numI (s13 (f * 256 + (s.getD 1 0).toNat)), 2) else none)
  else if f < 240 then (if 2 ≤ s.length then txtAt s 2 ((f * 256 + (s.getD 1 0).toNat) % 4096) else none)
  else if f = 240 then (if 5 ≤ s.length then txtAt s 5 (leN ((s.drop 1).take 4)) else none)
  else if f = 241 then numAt s 2 else if f = 242 then numAt s 3 else if f = 243 then numAt s 4 else if f = 244 then numAt s 8
  else none
/-- head and data at the beginning; none: there is none. -/
def rdItem (s : List UInt8) : Option (Item × Nat) := match s with
  | [] => none
  | b :: _ => rdF b.toNat s
theorem rdItem_cons (b : UInt8) (t : List UInt8) : rdItem (b :: t) = rdF b.toNat (b :: t) := rfl
theorem txtAt_app (h t r : List UInt8) : txtAt (h ++ (t ++ r)) h.length t.length = some (txtI t, h.length + t.length) := by
  unfold txtAt
  rw [if_pos (by simp only [List.length_append]; omega), List.drop_left, List.take_left]
theorem numAt_app (b : UInt8) (k : Nat) (n : Int) (r : List UInt8) (h : fits k n) : numAt (b :: (leB k n ++ r)) k = some (numI n, 1 + k) := by
  unfold numAt
  rw [if_pos (by simp only [List.length_cons, List.length_append, leB_len]; omega)]
  simp only [List.drop_succ_cons, List.drop_zero]
  rw [List.take_left' (leB_len k n), sg_le k n h]
theorem rd_num (n : Int) (h : I64 n) (r : List UInt8) : rdItem (ndata n ++ r) = some (numI n, nsize n) := by
  unfold ndata nsize
  obtain ⟨h0, h1⟩ := h
  split
  · rename_i hc
    show rdF (UInt8.ofNat n.toNat).toNat _ = _
    rw [ofNat_toNat _ (by omega)]
    unfold rdF
    rw [if_pos (by omega), show ((n.toNat : Nat) : Int) = n by omega]
  split
  · rename_i hc hd
    show rdF (UInt8.ofNat (192 + (n % 8192 / 256).toNat)).toNat _ = _
    rw [ofNat_toNat _ (by omega)]
    unfold rdF
    rw [if_neg (by omega), if_neg (by omega), if_pos (by omega), if_pos (by simp)]
    congr 2
    have e : (List.getD ([UInt8.ofNat (192 + (n % 8192 / 256).toNat), UInt8.ofNat (n % 256).toNat] ++ r) 1 0) = UInt8.ofNat (n % 256).toNat := rfl
    rw [e, ofNat_toNat _ (by omega)]
    unfold s13
    congr 1
    split <;> omega
  split
  · show rdF 241 _ = _
    unfold rdF
    rw [if_neg (by omega), if_neg (by omega), if_neg (by omega), if_neg (by omega), if_neg (by omega), if_pos rfl]
    exact numAt_app 241 2 n r (by unfold fits; omega)
  split
  · show rdF 242 _ = _
    unfold rdF
    rw [if_neg (by omega), if_neg (by omega), if_neg (by omega), if_neg (by omega), if_neg (by omega), if_neg (by omega), if_pos rfl]
    exact numAt_app 242 3 n r (by unfold fits; omega)
  split
  · show rdF 243 _ = _
    unfold rdF
    rw [if_neg (by omega), if_neg (by omega), if_neg (by omega), if_neg (by omega), if_neg (by omega), if_neg (by omega), if_neg (by omega), if_pos rfl]
    exact numAt_app 243 4 n r (by unfold fits; omega)
  · show rdF 244 _ = _
    unfold rdF
    rw [if_neg (by omega), if_neg (by omega), if_neg (by omega), if_neg (by omega), if_neg (by omega), if_neg (by omega), if_neg (by omega), if_neg (by omega), if_pos rfl]
    exact numAt_app 244 8 n r (by unfold fits; omega)
theorem rd_txt (t : List UInt8) (h : t.length ≤ 524288) (r : List UInt8) : rdItem (tdata t ++ r) = some (txtI t, thead t.length + t.length) := by
  unfold tdata thead
  split
  · rename_i hc
    show rdF (UInt8.ofNat (128 + t.length)).toNat _ = _
    rw [ofNat_toNat _ (by omega)]
    unfold rdF
    rw [if_neg (by omega), if_pos (by omega), show 128 + t.length - 128 = t.length by omega]
    exact txtAt_app [UInt8.ofNat (128 + t.length)] t r
  split
  · rename_i hc hd
    show rdF (UInt8.ofNat (224 + t.length / 256)).toNat _ = _
    rw [ofNat_toNat _ (by omega)]
    unfold rdF
    rw [if_neg (by omega), if_neg (by omega), if_neg (by omega), if_pos (by omega), if_pos (by simp)]
    have e : (List.getD (UInt8.ofNat (224 + t.length / 256) :: UInt8.ofNat (t.length % 256) :: t ++ r) 1 0) = UInt8.ofNat (t.length % 256) := rfl
    rw [e, ofNat_toNat _ (by omega), show ((224 + t.length / 256) * 256 + t.length % 256) % 4096 = t.length by omega]
    exact txtAt_app [UInt8.ofNat (224 + t.length / 256), UInt8.ofNat (t.length % 256)] t r
  · rename_i hc hd
    show rdF 240 _ = _
    unfold rdF
    rw [if_neg (by omega), if_neg (by omega), if_neg (by omega), if_neg (by omega), if_pos rfl, if_pos (by simp [leB_len])]
    have e : ((240 :: (leB 4 (t.length : Nat) ++ t) ++ r : List UInt8).drop 1).take 4 = leB 4 (t.length : Nat) := by
      simp only [List.cons_append, List.drop_succ_cons, List.drop_zero, List.append_assoc]
      rw [List.take_left' (leB_len _ _)]
    rw [e, leB_nat _ _ (by omega)]
    have := txtAt_app (240 :: leB 4 (t.length : Nat)) t r
    simpa [leB_len] using this
/-- what is written is read. -/
theorem rd_data (it : Item) (h : Wf it) (r : List UInt8) : rdItem (data it ++ r) = some (it, dsize it) := by
  obtain ⟨t, n, b⟩ := it
  rcases h with ⟨h1, h2, h3⟩ | ⟨h1, h2, h3, h4⟩
  · simp only at h1 h2 h3; subst h1; subst h2
    exact rd_num n h3 r
  · simp only at h1 h2 h3 h4; subst h1; subst h2
    exact rd_txt t h4 r
end Go.Proofs.YtadihhngegimkaaGreatDoor.LM
