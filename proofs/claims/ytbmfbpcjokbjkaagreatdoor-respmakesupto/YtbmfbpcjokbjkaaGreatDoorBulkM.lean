import Derived.Test.YtbmfbpcjokbjkaaGreatDoorMkW
import Derived.Test.YtbmfbpcjokbjkaaGreatDoorBulk
import Derived.Deep.Slices
import Derived.OpenShut
import Derived.SliceStrings
namespace Go.Proofs.YtbmfbpcjokbjkaaGreatDoor
open Go.ChangeShapes Go.WideShapes Go.ChangeAt Go.RowKit Go.Deep
set_option linter.unusedVariables false
theorem laidOut : laidOutB Tryz.prog = true := by kernel_rfl
theorem cells9g : Tryz.prog.cellsOf 9 = 1 := by kernel_rfl
theorem wf_i64 {n : Int} (h : (Lit.int .i64 n).wf = true) : -9223372036854775808 ≤ n ∧ n ≤ 9223372036854775807 := by
  simp [Lit.wf, IntKind.min, IntKind.max, IntKind.signed, IntKind.bits] at h
  omega
theorem bulk_strs {H : Type} (ss : List ByteArray) : mb ss ≤ 1 + Rows.uptoBulkAll (strs (H := H) ss) := by
  induction ss with
  | nil => simp [mb]
  | cons x xs ih =>
    rw [mb_cons]
    have e : strs (H := H) (x :: xs) = .lit (.string x.data.toList) :: strs xs := rfl
    rw [e]
    simp only [Rows.uptoBulkAll, Rows.uptoBulk, list_len]
    omega
theorem openU_row {H : Type} {enc : TypeId × Value → H} {W : World} {fuel : Nat} {v : Value} {y : DataW H × List MemPlace}
    (h : DataW.trod enc Tryz.prog W 0 (fun _ => true) true fuel 33 [v] = some y) (hb : Rows.uptoBulk y.1 ≤ 1048576) :
    ∃ vs : List ByteArray, SRow W v vs ∧ True ∧ mb vs ≤ 1048576 ∧ NF v := by
  rcases open_strings Tryz.underlying33 Tryz.underlying9 cells9g h with ⟨hcs, hx⟩ | ⟨a, len, cap, ss, hcs, _, hl, hm, hz, hx, hcell, hws⟩
  · have e : v = .slice none 0 0 := by simpa using hcs
    subst e
    exact ⟨[], Or.inl ⟨rfl, none, 0, rfl⟩, trivial, by simp [mb], Or.inl rfl⟩
  · have e : v = .slice (some a) len cap := by simpa using hcs
    subst e
    simp only [if_true] at hz
    have hlen : (ss.take len).length = len := by rw [List.length_take]; omega
    refine ⟨ss.take len, ?_, trivial, ?_, Or.inr ⟨_, _, _, rfl⟩⟩
    · by_cases h0 : len = 0
      · subst h0
        exact Or.inl ⟨by simp, some a, cap, rfl⟩
      · obtain ⟨b, off, spot⟩ := a
        have hspot : spot = none := by simpa [Addr.add] using World.cell?_spot (hcell 0 (by omega))
        subst hspot
        refine Or.inr ⟨b, off, cap, by rw [hlen], fun j hj => ?_⟩
        have := hcell j (by omega)
        rw [Lib.add_plain] at this
        rw [this, List.getElem_take, List.getD_eq_getElem?_getD, List.getElem?_eq_getElem (by omega)]
        rfl
    · rw [hx] at hb
      simp only [Rows.uptoBulk] at hb
      have := bulk_strs (H := H) (ss.take len)
      omega
theorem makes_frame (s : ByteArray) (z : Int) (v2 : Value) (xs : List ByteArray) (z0 : s.size ≤ 1048576) (hw : (Lit.int .i64 z).wf = true) (hbl : mb xs ≤ 1048576) (hF : NF v2) (w : World) (hS : SRow w v2 xs) (_ : True) (hL : Laid w) :
    Calls Tryz.prog 5 #[.string s, .int .i64 z, v2] w fun e w' => e = .returned (.bool true) ∧ Below w.heap.size w w' := RespMakes_walk s z v2 xs z0 (wf_i64 hw) hbl hF w hS hL
end Go.Proofs.YtbmfbpcjokbjkaaGreatDoor
