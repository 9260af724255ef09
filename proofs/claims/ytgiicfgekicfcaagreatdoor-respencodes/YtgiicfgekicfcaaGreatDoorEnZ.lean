import Derived.Test.YtgiicfgekicfcaaGreatDoorEnR
import Derived.Test.YtgiicfgekicfcaaGreatDoorShelf6
import Derived.Lib.IndexBytes
import Derived.Lib.SplitLaws
namespace Go.Proofs.Vi
open Go.Lib
set_option linter.unusedVariables false
theorem repK_same (c d : UInt8) (k : Nat) (t : By) : replaceK [c] [d] (k + 1) (c :: t) = d :: replaceK [c] [d] k t := by
  have h : index (c :: t) [c] = ((0 : Nat) : Int) := by rw [index_one]; simp [indexByte]
  rw [replaceK_hit [c] [d] k (c :: t) 0 h]
  rfl
theorem repK_other (c d x : UInt8) (hx : x ≠ c) (k : Nat) (t : By) : replaceK [c] [d] k (x :: t) = x :: replaceK [c] [d] k t := by
  cases k with
  | zero => rfl
  | succ k =>
    have hge := indexByte_ge t c
    have hi : indexByte (x :: t) c = if indexByte t c == -1 then -1 else indexByte t c + 1 := by
      rw [indexByte, if_neg (by simpa using hx)]
    by_cases hm : indexByte t c = -1
    · have h1 : (index (x :: t) [c] == -1) = true := by rw [index_one, hi, hm]; rfl
      have h2 : (index t [c] == -1) = true := by rw [index_one, hm]; rfl
      rw [replaceK, if_pos h1, replaceK, if_pos h2]
    · obtain ⟨j, hj⟩ : ∃ j : Nat, indexByte t c = (j : Int) := ⟨(indexByte t c).toNat, by omega⟩
      have h2 : index t [c] = (j : Int) := by rw [index_one, hj]
      have h1 : index (x :: t) [c] = ((j + 1 : Nat) : Int) := by
        rw [index_one, hi, hj, if_neg (by simp <;> omega)]; omega
      rw [replaceK_hit [c] [d] k (x :: t) (j + 1) h1, replaceK_hit [c] [d] k t j h2]
      simp
theorem rep_map (c d : UInt8) : ∀ t : By, replaceK [c] [d] (t.count c) t = t.map (fun x => if x = c then d else x)
  | [] => rfl
  | x :: t => by
    by_cases hx : x = c
    · subst hx
      rw [List.count_cons_self, repK_same, rep_map x d t]
      simp
    · rw [List.count_cons_of_ne hx, repK_other c d x hx, rep_map c d t]
      simp [hx]
theorem replaceAll_one (c d : UInt8) (hcd : c ≠ d) (t : By) : replaceAll t [c] [d] = t.map (fun x => if x = c then d else x) := by
  unfold replaceAll replace
  rw [if_neg (by simpa using hcd)]
  unfold replaceNum
  rw [if_pos (Or.inl (by decide)), count_one, rep_map]
theorem onel_two (t : By) : (t.map (fun x => if x = 13 then (32 : UInt8) else x)).map (fun x => if x = 10 then (32 : UInt8) else x) = onel t := by
  rw [List.map_map]
  refine List.map_congr_left fun x _ => ?_
  show (if (if x = 13 then (32 : UInt8) else x) = 10 then (32 : UInt8) else (if x = 13 then (32 : UInt8) else x)) = if x = 13 ∨ x = 10 then 32 else x
  by_cases h1 : x = 13
  · rw [if_pos h1, if_pos (Or.inl h1), if_neg (by decide)]
  · rw [if_neg h1]
    by_cases h2 : x = 10
    · rw [if_pos h2, if_pos (Or.inr h2)]
    · rw [if_neg h2, if_neg (by rintro (e | e); exact h1 e; exact h2 e)]
end Go.Proofs.Vi
namespace Go.Proofs.YtgiicfgekicfcaaGreatDoor
open Go.RowKit Vi
set_option linter.unusedVariables false
/-- the variable of Go's library that its search reads holds a number. -/
def Lm (w : World) : Prop := ∃ m, w.cell? ⟨0, 0, none⟩ = some (.int .i64 m)
theorem Lm.on {w w' : World} (h : Lm w) (hb : Below w.heap.size w w') : Lm w' := by
  obtain ⟨m, hm⟩ := h
  exact ⟨m, by rw [hb.cell (p := ⟨0, 0, none⟩) (lt_of_cell hm)]; exact hm⟩
theorem countB_le (s : ByteArray) (c : UInt8) : Lib.countB s ⟨#[c]⟩ ≤ s.size := by
  have e : Lib.countB s ⟨#[c]⟩ = Lib.count s.data.toList [c] := rfl
  rw [e, Lib.count_one, ← list_len]
  exact List.count_le_length
theorem repl_any (s : ByteArray) (c : UInt8) (hc : c ≠ 32) (hs : s.size ≤ 1073741824) (w : World) (hm : Lm w) :
    Calls Tryz.prog 47 #[.string s, .string ⟨#[c]⟩, .string ⟨#[32]⟩] w fun e w' => e = .returned (.string (strB (s.data.toList.map (fun x => if x = c then 32 else x)))) ∧ Below w.heap.size w w' := by
  obtain ⟨m, hm⟩ := hm
  have hl := countB_le s c
  have h1 : (⟨#[32]⟩ : ByteArray).size = 1 := rfl
  have h9 := Tryz.strings_ReplaceAll s ⟨#[c]⟩ ⟨#[32]⟩ m w (by omega) hm (by show 1 ≤ 1; omega) (by rw [h1]; omega)
  rw [show (⟨#[c]⟩ : ByteArray).data.toList = [c] from rfl, show (⟨#[32]⟩ : ByteArray).data.toList = [32] from rfl, replaceAll_one c 32 hc] at h9
  exact h9
set_option maxRecDepth 20000 in
/-- onOneLine of any text. -/
theorem one_any (s : ByteArray) (hs : s.size ≤ 1073741824) (w : World) (hm : Lm w) :
    Calls Tryz.prog 25 #[.string s] w fun e w' => e = .returned (.string (strB (onel s.data.toList))) ∧ Below w.heap.size w w' := by
  obtain ⟨S1, hS1⟩ : ∃ S, strB (s.data.toList.map (fun x => if x = 13 then (32 : UInt8) else x)) = S := ⟨_, rfl⟩
  have hl1 : S1.data.toList = s.data.toList.map (fun x => if x = 13 then (32 : UInt8) else x) := by rw [← hS1, strB_list]
  have hz1 : S1.size = s.size := by rw [← list_len, hl1, List.length_map, list_len]
  obtain ⟨S2, hS2⟩ : ∃ S, strB (onel s.data.toList) = S := ⟨_, rfl⟩
  have H1 : Hid (Calls Tryz.prog 47 #[.string s, .string ⟨#[13]⟩, .string ⟨#[32]⟩] w fun e w' => e = .returned (.string S1) ∧ Below w.heap.size w w') := by
    have := repl_any s 13 (by decide) hs w hm
    rw [hS1] at this
    exact this
  have H2 : Hid (∀ W, Lm W → Calls Tryz.prog 47 #[.string S1, .string ⟨#[10]⟩, .string ⟨#[32]⟩] W fun e w' => e = .returned (.string S2) ∧ Below W.heap.size W w') := fun W hW => by
    have := repl_any S1 10 (by decide) (by omega) W hW
    rw [hl1, onel_two, hS2] at this
    exact this
  have HM : Hid (Lm w) := hm
  rw [hS2]
  clear hS1 hS2 hl1 hz1 hm
  go_enter Tryz.func25, Tryz.ntmps25
  go_wp2_with fail
  refine (show Calls _ _ _ _ _ from H1.out).mono ?_
  rintro e w1 ⟨rfl, hb1⟩
  have HB1 : Hid (Below w.heap.size w w1) := hb1
  have HC : Hid _ := H2.out w1 (HM.out.on hb1)
  clear hb1
  go_wp2_with fail
  refine (show Calls _ _ _ _ _ from HC.out).mono ?_
  rintro e w2 ⟨rfl, hb2⟩
  have HB2 : Hid (Below w.heap.size w w2) := HB1.out.trans (hb2.mono HB1.out.size)
  clear hb2
  go_wp2
  go_returns
  exact ⟨rfl, HB2.out⟩
end Go.Proofs.YtgiicfgekicfcaaGreatDoor
