import Derived.Test.YtnnpnccnpojfmaaOpenT
import Derived.Test.YtnnpnccnpojfmaaTbH
import Derived.Test.YtnnpnccnpojfmaaTbS
import Derived.Test.YtnnpnccnpojfmaaLwK
namespace Go.Proofs.Ytnnpnccnpojfmaa
open Go.RowKit
set_option linter.unusedVariables false
set_option linter.unusedSimpArgs false
theorem find_names (L : List UInt8) : (TB.find L).isSome = true ↔ strB L ∈ TB.names := by
  unfold TB.find TB.names
  rw [List.find?_isSome]
  constructor
  · rintro ⟨r, hr, h⟩
    exact List.mem_map.2 ⟨r, hr, bytes_ext (by rw [strB_list]; simpa using h)⟩
  · intro h
    obtain ⟨r, hr, e⟩ := List.mem_map.1 h
    exact ⟨r, hr, by rw [e, strB_list]; simp⟩
theorem find_name {L : List UInt8} {r : Rw} (h : TB.find L = some r) : r.nm = strB L := bytes_ext (by rw [strB_list]; exact (TB.find_mem h).2)
theorem plc_mem (args : List ByteArray) (st : Nat) (last : Int) : ∀ f k x, x ∈ TB.plc args st last f k → ∃ j, k ≤ j ∧ args[j]? = some x
  | 0, k, x, h => by simp [TB.plc] at h
  | f + 1, k, x, h => by
    unfold TB.plc at h
    split at h
    · rename_i y hy
      split at h
      · rcases List.mem_cons.1 h with rfl | h
        · exact ⟨k, Nat.le_refl _, hy⟩
        · obtain ⟨j, h1, h2⟩ := plc_mem args st last f (k + st) x h
          exact ⟨j, by omega, h2⟩
      · cases h
    · cases h
theorem keys_mem (args : List ByteArray) (x : ByteArray) (h : x ∈ (TB.keys args).1) : ∃ j, 1 ≤ j ∧ args[j]? = some x := by
  unfold TB.keys at h
  split at h
  · rename_i r hr
    have hp : ∀ y, y ∈ TB.placed r args → ∃ j, 1 ≤ j ∧ args[j]? = some y := fun y hy => by
      unfold TB.placed at hy
      split at hy
      · cases hy
      · rename_i hfi
        obtain ⟨j, h1, h2⟩ := plc_mem _ _ _ _ _ _ hy
        obtain ⟨k1, _⟩ := TB.kf_parts (TB.row_mem hr)
        exact ⟨j, by omega, h2⟩
    split at h
    · unfold TB.keyR at h
      split at h
      · exact hp x h
      · split at h
        · rcases List.mem_append.1 h with h | h
          · exact hp x h
          · have h := List.mem_of_mem_take h
            obtain ⟨i, hi⟩ := List.getElem?_of_mem h
            unfold TB.behind at hi
            rw [List.getElem?_drop] at hi
            exact ⟨_, by omega, hi⟩
        · cases h
    · cases h
  · cases h
theorem keys_zero (args : List ByteArray) : (TB.keys args).2 = 0 ∨ (TB.keys args).1 = [] := by
  unfold TB.keys
  split
  · split
    · unfold TB.keyR
      split
      · exact Or.inl rfl
      · split
        · exact Or.inl rfl
        · exact Or.inr rfl
    · exact Or.inr rfl
  · exact Or.inr rfl
theorem err_three (args : List ByteArray) : TB.err args = 130 ∨ TB.err args = 131 ∨ TB.err args = 0 := by
  unfold TB.err
  split
  · exact Or.inl rfl
  · split
    · exact Or.inr (Or.inl rfl)
    · exact Or.inr (Or.inr rfl)
theorem trouble_empty (args : List ByteArray) : ((TB.trouble args).toList.isEmpty) = decide (TB.err args = 0) := by
  unfold TB.trouble
  split
  · rename_i h
    rw [str_full (by rw [ByteArray.size_append, ByteArray.size_append, show TB.t1.size = 21 from rfl]; omega)]
    simp [h]
  · split
    · rename_i h
      rw [str_full (by rw [ByteArray.size_append, ByteArray.size_append, show TB.t3.size = 35 from rfl]; omega)]
      simp [h]
    · rename_i h1 h2
      have : TB.err args = 0 := by rcases err_three args with h | h | h <;> first | exact absurd h h1 | exact absurd h h2 | exact h
      rw [this, str_empty rfl]
      rfl
/-- whether a name has been met. -/
def Seen (NM : List ByteArray) (lo : ByteArray) (i : Nat) (b : Bool) : Prop := b = true ↔ ∃ j, j < i ∧ NM[j]? = some lo
theorem Seen.start (NM : List ByteArray) (lo : ByteArray) : Seen NM lo 0 false := by
  constructor
  · intro h; cases h
  · rintro ⟨j, h, _⟩; omega
theorem Seen.stay {NM : List ByteArray} {lo : ByteArray} {i : Nat} (h : Seen NM lo i true) : Seen NM lo (i + 1) true := by
  obtain ⟨j, h1, h2⟩ := h.1 rfl
  exact Iff.intro (fun _ => ⟨j, by omega, h2⟩) (fun _ => rfl)
theorem Seen.hit {NM : List ByteArray} {lo y : ByteArray} {i : Nat} (h : NM[i]? = some y) (e : y = lo) : Seen NM lo (i + 1) true :=
  Iff.intro (fun _ => ⟨i, by omega, by rw [h, e]⟩) (fun _ => rfl)
theorem Seen.miss {NM : List ByteArray} {lo y : ByteArray} {i : Nat} (hs : Seen NM lo i false) (h : NM[i]? = some y) (e : ¬ y = lo) : Seen NM lo (i + 1) false := by
  constructor
  · intro h; cases h
  · rintro ⟨j, h1, h2⟩
    rcases Nat.lt_succ_iff_lt_or_eq.1 h1 with h3 | rfl
    · exact hs.2 ⟨j, h3, h2⟩
    · exact absurd (by have := h.symm.trans h2; simpa using this) e
theorem Seen.last {NM : List ByteArray} {lo : ByteArray} {i : Nat} {b : Bool} (hs : Seen NM lo i b) (h : NM.length ≤ i) : b = true ↔ lo ∈ NM := by
  unfold Seen at hs
  rw [hs, List.mem_iff_getElem?]
  constructor
  · rintro ⟨j, _, h⟩; exact ⟨j, h⟩
  · rintro ⟨j, h2⟩
    exact ⟨j, by have := (List.getElem?_eq_some_iff.1 h2).1; omega, h2⟩
/-- a word has not been met. -/
def NotYet (args : List ByteArray) (x : ByteArray) (j : Nat) (b : Bool) : Prop := b = false → ∀ j', 1 ≤ j' → j' < j → args[j']? ≠ some x
theorem NotYet.start (args : List ByteArray) (x : ByteArray) : NotYet args x 1 false := fun _ j' h1 h2 => by omega
theorem NotYet.yes (args : List ByteArray) (x : ByteArray) (j : Nat) : NotYet args x j true := fun h => by cases h
theorem NotYet.next {args : List ByteArray} {x y : ByteArray} {j : Nat} (hs : NotYet args x j false) (h : args[j]? = some y) (e : ¬ y = x) : NotYet args x (j + 1) false := fun _ j' h1 h2 h3 => by
  rcases Nat.lt_succ_iff_lt_or_eq.1 h2 with h4 | rfl
  · exact hs rfl j' h1 h4 h3
  · exact e (by have := h.symm.trans h3; simpa using this)
theorem NotYet.last {args : List ByteArray} {x : ByteArray} {j : Nat} {b : Bool} (hs : NotYet args x j b) (h : args.length ≤ j) (hx : ∃ j', 1 ≤ j' ∧ args[j']? = some x) : b = true := by
  cases b with
  | true => rfl
  | false =>
    obtain ⟨j', h1, h2⟩ := hx
    exact absurd h2 (hs rfl j' h1 (by have := (List.getElem?_eq_some_iff.1 h2).1; omega))
end Go.Proofs.Ytnnpnccnpojfmaa
