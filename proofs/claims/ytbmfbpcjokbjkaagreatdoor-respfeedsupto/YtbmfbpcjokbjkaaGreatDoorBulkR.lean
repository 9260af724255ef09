import Derived.Test.YtbmfbpcjokbjkaaGreatDoorRfL
import Derived.Test.YtbmfbpcjokbjkaaGreatDoorRfD
import Derived.Test.YtbmfbpcjokbjkaaGreatDoorBulk
import Derived.Deep.Slices
import Derived.OpenShut
import Derived.SliceStrings
namespace Go.Proofs.YtbmfbpcjokbjkaaGreatDoor
open Go.ChangeShapes Go.WideShapes Go.ChangeAt Go.RowKit Go.Deep
set_option linter.unusedVariables false
theorem laidOut : laidOutB Tryz.prog = true := by kernel_rfl
theorem bulk_one {H : Type} (d : DataW H) : 1 ≤ Rows.uptoBulk d := by
  cases d with
  | lit l => cases l <;> simp [Rows.uptoBulk]
  | _ => simp [Rows.uptoBulk]
theorem cells9g : Tryz.prog.cellsOf 9 = 1 := by kernel_rfl
theorem bulk_strs {H : Type} (ss : List ByteArray) : cb ss ≤ 1 + Rows.uptoBulkAll (strs (H := H) ss) := by
  induction ss with
  | nil => simp [cb]
  | cons x xs ih =>
    rw [cb_cons]
    have e : strs (H := H) (x :: xs) = .lit (.string x.data.toList) :: strs xs := rfl
    rw [e]
    simp only [Rows.uptoBulkAll, Rows.uptoBulk, list_len]
    omega
theorem openU_row {H : Type} {enc : TypeId × Value → H} {W : World} {fuel : Nat} {v : Value} {y : DataW H × List MemPlace}
    (h : DataW.trod enc Tryz.prog W 0 (fun _ => true) true fuel 33 [v] = some y) (hb : Rows.uptoBulk y.1 ≤ 1048576) :
    ∃ vs : List ByteArray, SRow W v vs ∧ True ∧ cb vs ≤ 1048576 ∧ True := by
  rcases open_strings Tryz.underlying33 Tryz.underlying9 cells9g h with ⟨hcs, hx⟩ | ⟨a, len, cap, ss, hcs, _, hl, hm, hz, hx, hcell, hws⟩
  · have e : v = .slice none 0 0 := by simpa using hcs
    subst e
    exact ⟨[], Or.inl ⟨rfl, none, 0, rfl⟩, trivial, by simp [cb], trivial⟩
  · have e : v = .slice (some a) len cap := by simpa using hcs
    subst e
    simp only [if_true] at hz
    have hlen : (ss.take len).length = len := by rw [List.length_take]; omega
    refine ⟨ss.take len, ?_, trivial, ?_, trivial⟩
    · by_cases h0 : len = 0
      · subst h0
        exact Or.inl ⟨by simp, some a, cap, rfl⟩
      · obtain ⟨b, off, spot⟩ := a
        have hspot : spot = none := by simpa [Addr.add] using World.cell?_spot (hcell 0 (by omega))
        subst hspot
        refine Or.inr ⟨b, off, cap, by rw [hlen], fun j hj => ?_⟩
        have := hcell j (by omega)
        rw [Lib.add_plain] at this
        rw [this, List.getElem_take, List.getD_eq_getElem?_getD, List.getElem?_eq_getElem (by omega)]
        rfl
    · rw [hx] at hb
      simp only [Rows.uptoBulk] at hb
      have := bulk_strs (H := H) (ss.take len)
      omega
theorem first_any : FstC := fun s h0 hs w => by
  by_cases hb : s[0] = 42
  · exact first_bulk s h0 hs hb w
  · exact first_line s h0 hs hb w
theorem feeds_frame (v0 : Value) (xs : List ByteArray) (hbl : cb xs ≤ 1048576) (_ : True) (w : World) (hS : SRow w v0 xs) (_ : True) (hL : Laid w) :
    Calls Tryz.prog 4 #[v0] w fun e w' => e = .returned (.bool true) ∧ Below w.heap.size w w' := RespFeeds_of first_any v0 xs hbl w hS hL
end Go.Proofs.YtbmfbpcjokbjkaaGreatDoor
