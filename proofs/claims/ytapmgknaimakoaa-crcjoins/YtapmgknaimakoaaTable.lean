import Derived.Test.YtapmgknaimakoaaMath
namespace Go.Proofs.Ytapmgknaimakoaa.CrcM

/-! the table of all bytes' sums -/
def tb (x : Nat) : BitVec 64 := Hn 8 (BitVec.ofNat 64 x)
def tab (k a : Nat) : List (BitVec 64) := (List.range 256).map fun x => if x % 2 ^ (8 - k) = 0 ∨ (x % 2 ^ (7 - k) = 0 ∧ x < a) then tb x else 0#64
def full : List (BitVec 64) := (List.range 256).map tb
def zero256 : List (BitVec 64) := List.replicate 256 0#64
theorem tab_length (k a : Nat) : (tab k a).length = 256 := by simp [tab]
theorem tab_get (k a x : Nat) (h : x < 256) : (tab k a)[x]'(by rw [tab_length]; exact h) = if x % 2 ^ (8 - k) = 0 ∨ (x % 2 ^ (7 - k) = 0 ∧ x < a) then tb x else 0#64 := by
  simp [tab]
theorem zero_length : zero256.length = 256 := by unfold zero256; exact List.length_replicate
theorem zero_get (i : Nat) (h : i < zero256.length) : zero256[i] = 0#64 := by unfold zero256; exact List.getElem_replicate ..
theorem comm2 (b m : Nat) : b * (2 * m) = m * (2 * b) := by
  rw [Nat.mul_left_comm, Nat.mul_comm b m, Nat.mul_left_comm]
theorem tab_start : tab 0 0 = zero256 := by
  apply List.ext_getElem
  · rw [tab_length, zero_length]
  · intro x h1 h2
    have hx : x < 256 := Nat.lt_of_lt_of_eq h1 (tab_length 0 0)
    rw [tab_get _ _ _ hx]
    rw [zero_get]
    split
    · rename_i h
      have : x = 0 := by rcases h with h | h <;> simp at h; omega
      subst this
      exact Hn_zero 8
    · rfl
theorem tab_last : tab 8 0 = full := by
  apply List.map_congr_left
  intro x _
  simp [Nat.mod_one]
theorem tab_next (k : Nat) (hk : k < 8) : tab k 256 = tab (k + 1) 0 := by
  apply List.map_congr_left
  intro x hx
  have hx : x < 256 := by simpa using hx
  have e : 8 - (k + 1) = 7 - k := by omega
  rw [e]
  have e2 : (x % 2 ^ (8 - k) = 0 ∨ x % 2 ^ (7 - k) = 0 ∧ x < 256) ↔ (x % 2 ^ (7 - k) = 0 ∨ x % 2 ^ (7 - (k + 1)) = 0 ∧ x < 0) := by
    have h8 : 2 ^ (8 - k) = 2 * 2 ^ (7 - k) := by rw [show 8 - k = (7 - k) + 1 by omega, Nat.pow_succ]; omega
    rw [h8]
    generalize 2 ^ (7 - k) = b
    constructor
    · rintro (h | h)
      · left
        exact Nat.mod_eq_zero_of_dvd (Nat.dvd_trans ⟨2, by omega⟩ (Nat.dvd_of_mod_eq_zero h))
      · left; exact h.1
    · rintro (h | h)
      · right; exact ⟨h, hx⟩
      · omega
  simp only [e2]
theorem xor_pow : ∀ k, k < 8 → ∀ m, m < 2 ^ k → BitVec.ofNat 64 (m * (2 * 2 ^ (7 - k)) + 2 ^ (7 - k)) = BitVec.ofNat 64 (m * (2 * 2 ^ (7 - k))) ^^^ BitVec.ofNat 64 (2 ^ (7 - k)) := by
  decide +kernel
theorem tab_step (k m : Nat) (hk : k < 8) (hm : m < 2 ^ k) :
    (tab k (m * (2 * 2 ^ (7 - k)))).set (m * (2 * 2 ^ (7 - k)) + 2 ^ (7 - k)) (tb (m * (2 * 2 ^ (7 - k))) ^^^ tb (2 ^ (7 - k))) = tab k ((m + 1) * (2 * 2 ^ (7 - k))) := by
  have hx := xor_pow k hk m hm
  have ht : tb (m * (2 * 2 ^ (7 - k))) ^^^ tb (2 ^ (7 - k)) = tb (m * (2 * 2 ^ (7 - k)) + 2 ^ (7 - k)) := by
    unfold tb; rw [hx, Hn_xor]
  rw [ht]
  have h8 : 2 ^ (8 - k) = 2 * 2 ^ (7 - k) := by rw [show 8 - k = (7 - k) + 1 by omega, Nat.pow_succ]; omega
  have hb : 0 < 2 ^ (7 - k) := Nat.pow_pos (by omega)
  apply List.ext_getElem
  · simp [tab_length]
  · intro x h1 h2
    have hx : x < 256 := by rwa [tab_length] at h2
    rw [List.getElem_set, tab_get _ _ _ hx, tab_get _ _ _ hx, h8]
    generalize 2 ^ (7 - k) = b at *
    by_cases he : m * (2 * b) + b = x
    · rw [if_pos he, if_pos, he]
      right
      subst he
      refine ⟨?_, ?_⟩
      · exact Nat.mod_eq_zero_of_dvd ⟨2 * m + 1, by rw [Nat.mul_add, Nat.mul_one, comm2]⟩
      · rw [Nat.add_mul]; omega
    · rw [if_neg he]
      have e : (x % (2 * b) = 0 ∨ x % b = 0 ∧ x < m * (2 * b)) ↔ (x % (2 * b) = 0 ∨ x % b = 0 ∧ x < (m + 1) * (2 * b)) := by
        constructor
        · rintro (h | h)
          · exact Or.inl h
          · exact Or.inr ⟨h.1, by rw [Nat.add_mul]; omega⟩
        · rintro (h | h)
          · exact Or.inl h
          · obtain ⟨q, rfl⟩ := Nat.dvd_of_mod_eq_zero h.1
            rcases Nat.lt_or_ge (b * q) (m * (2 * b)) with hl | hl
            · exact Or.inr ⟨h.1, hl⟩
            · left
              have hq1 : 2 * m ≤ q := by
                have : b * (2 * m) ≤ b * q := by rw [show b * (2 * m) = m * (2 * b) from comm2 _ _]; exact hl
                exact Nat.le_of_mul_le_mul_left this hb
              have hq2 : q < 2 * (m + 1) := by
                have : b * q < b * (2 * (m + 1)) := by rw [show b * (2 * (m + 1)) = (m + 1) * (2 * b) from comm2 _ _]; exact h.2
                exact Nat.lt_of_mul_lt_mul_left this
              have hq : q = 2 * m := by
                rcases Nat.lt_or_ge q (2 * m + 1) with h3 | h3
                · omega
                · exfalso; apply he
                  have : q = 2 * m + 1 := by omega
                  subst this
                  rw [Nat.mul_add, Nat.mul_one, comm2]
              subst hq
              exact Nat.mod_eq_zero_of_dvd ⟨m, by rw [← Nat.mul_assoc, Nat.mul_comm b 2]⟩
      simp only [e]
theorem tab_at (k m : Nat) (h : m * (2 * 2 ^ (7 - k)) < 256) (hk : k < 8) : (tab k (m * (2 * 2 ^ (7 - k))))[m * (2 * 2 ^ (7 - k))]'(by rw [tab_length]; exact h) = tb (m * (2 * 2 ^ (7 - k))) := by
  rw [tab_get _ _ _ h, if_pos]
  left
  have h8 : 2 ^ (8 - k) = 2 * 2 ^ (7 - k) := by rw [show 8 - k = (7 - k) + 1 by omega, Nat.pow_succ]; omega
  rw [h8]
  simp
theorem tb_pow (k : Nat) (hk : k < 8) : tb (2 ^ (7 - k)) = Hn (k + 1) 1#64 := by
  revert k; decide +kernel
theorem full_get (x : Nat) (h : x < 256) : full[x]'(by simpa [full] using h) = tb x := by simp [full]
theorem full_length : full.length = 256 := by simp [full]

def arr (l : List (BitVec 64)) : Array Value := (l.map fun v => Value.int .u64 (uv v)).toArray
theorem arr_size (l : List (BitVec 64)) : (arr l).size = l.length := by simp [arr]
theorem arr_get (l : List (BitVec 64)) (i : Nat) (h : i < l.length) : (arr l)[i]? = some (Value.int .u64 (uv l[i])) := by
  simp [arr, h]
theorem arr_set (l : List (BitVec 64)) (i : Nat) (v : BitVec 64) : (arr l).setIfInBounds i (Value.int .u64 (uv v)) = arr (l.set i v) := by
  simp [arr, List.map_set]
theorem arr_one (l : List (BitVec 64)) : (arr l).all (·.oneCell') = true := by
  simp [arr, Value.oneCell']
end Go.Proofs.Ytapmgknaimakoaa.CrcM
