import Derived.Test.YtbmfbpcjokbjkaaDoorAkW
import Derived.Test.YtbmfbpcjokbjkaaDoorBulkN
import Derived.SliceStrings
namespace Go.Proofs.YtbmfbpcjokbjkaaDoor
open Go.ChangeShapes Go.WideShapes Go.ChangeAt Go.RowKit Go.Deep
set_option linter.unusedVariables false
theorem cells9g : Tryd.prog.cellsOf 9 = 1 := by kernel_rfl
theorem cells33g : Tryd.prog.cellsOf 33 = 1 := by kernel_rfl
theorem bulk_strs {H : Type} (ss : List ByteArray) : bl1 ss ≤ 1 + Rows.uptoBulkAll (strs (H := H) ss) := by
  induction ss with
  | nil => simp [bl1]
  | cons x xs ih =>
    rw [bl1_cons]
    have e : strs (H := H) (x :: xs) = .lit (.string x.data.toList) :: strs xs := rfl
    rw [e]
    simp only [Rows.uptoBulkAll, Rows.uptoBulk, list_len]
    omega
theorem openU_one {H : Type} {enc : TypeId × Value → H} {W : World} {fuel : Nat} {v : Value} {y : DataW H × List MemPlace}
    (h : DataW.trod enc Tryd.prog W 0 (fun _ => true) true fuel 33 [v] = some y) :
    ∃ vs : List ByteArray, SRow W v vs ∧ bl1 vs ≤ Rows.uptoBulk y.1 := by
  rcases open_strings Tryd.underlying33 Tryd.underlying9 cells9g h with ⟨hcs, hx⟩ | ⟨a, len, cap, ss, hcs, _, hl, hm, hz, hx, hcell, hws⟩
  · have e : v = .slice none 0 0 := by simpa using hcs
    subst e
    refine ⟨[], Or.inl ⟨rfl, none, 0, rfl⟩, ?_⟩
    have := bulk_one y.1
    simpa [bl1] using this
  · have e : v = .slice (some a) len cap := by simpa using hcs
    subst e
    simp only [if_true] at hz
    have hlen : (ss.take len).length = len := by rw [List.length_take]; omega
    refine ⟨ss.take len, ?_, ?_⟩
    · by_cases h0 : len = 0
      · subst h0
        exact Or.inl ⟨by simp, some a, cap, rfl⟩
      · obtain ⟨b, off, spot⟩ := a
        have hspot : spot = none := by simpa [Addr.add] using World.cell?_spot (hcell 0 (by omega))
        subst hspot
        refine Or.inr ⟨b, off, cap, by rw [hlen], fun j hj => ?_⟩
        have := hcell j (by omega)
        rw [Lib.add_plain] at this
        rw [this, List.getElem_take, List.getD_eq_getElem?_getD, List.getElem?_eq_getElem (by omega)]
        rfl
    · rw [hx]
      simp only [Rows.uptoBulk]
      have := bulk_strs (H := H) (ss.take len)
      omega
theorem bulk_range {H : Type} (D : Nat → DataW H) (X : Nat → List ByteArray) (len : Nat) (h : ∀ i, i < len → bl1 (X i) ≤ Rows.uptoBulk (D i)) : bl2 ((List.range len).map X) ≤ Rows.uptoBulkAll ((List.range len).map D) := by
  have key : ∀ l : List Nat, (∀ i ∈ l, bl1 (X i) ≤ Rows.uptoBulk (D i)) → bl2 (l.map X) ≤ Rows.uptoBulkAll (l.map D) := by
    intro l
    induction l with
    | nil => intro _; simp [bl2]
    | cons a l ih =>
      intro hl
      have h1 := ih (fun i hi => hl i (List.mem_cons_of_mem _ hi))
      have h2 := hl a List.mem_cons_self
      have e : bl2 ((a :: l).map X) = bl1 (X a) + bl2 (l.map X) := by unfold bl2; simp
      rw [e]
      simp only [List.map_cons, Rows.uptoBulkAll]
      omega
  exact key _ (fun i hi => h i (List.mem_range.1 hi))
theorem openU_grid {H : Type} {enc : TypeId × Value → H} {W : World} {fuel : Nat} {v : Value} {y : DataW H × List MemPlace}
    (h : DataW.trod enc Tryd.prog W 0 (fun _ => true) true fuel 32 [v] = some y) (hb : Rows.uptoBulk y.1 ≤ 1048576) :
    ∃ xss : List (List ByteArray), GV W v xss ∧ True ∧ bl2 xss ≤ 1048576 ∧ True := by
  rcases open_slice1 Tryd.underlying32 cells33g h with ⟨hcs, hx⟩ | ⟨a, len, cap, m, n, V, D, Pl, hcs, _, hl, hm, hmm, hx, hel⟩
  · have e : v = .slice none 0 0 := by simpa using hcs
    exact ⟨[], Or.inl ⟨rfl, none, 0, e⟩, trivial, by simp [bl2], trivial⟩
  · have e : v = .slice (some a) len cap := by simpa using hcs
    subst e
    simp only [if_true] at hmm
    obtain ⟨X, hX⟩ := choose_lt (α := List ByteArray) (p := fun i xs => SRow W (V i) xs ∧ bl1 xs ≤ Rows.uptoBulk (D i)) (n := len) (fun i hi => openU_one (hel i (by omega)).2)
    refine ⟨(List.range len).map X, ?_, trivial, ?_, trivial⟩
    · by_cases h0 : len = 0
      · subst h0
        exact Or.inl ⟨rfl, some a, cap, rfl⟩
      · obtain ⟨b, off, spot⟩ := a
        have hspot : spot = none := by simpa [Addr.add] using World.cell?_spot (hel 0 (by omega)).1
        subst hspot
        refine Or.inr ⟨b, off, cap, by simp, fun j hj => ?_⟩
        have hj2 : j < len := by simpa using hj
        have hc := (hel j (by omega)).1
        rw [Lib.add_plain] at hc
        refine ⟨V j, hc, ?_⟩
        simp only [List.getElem_map, List.getElem_range]
        exact (hX j hj2).1
    · have h1 := bulk_range D X len (fun i hi => (hX i hi).2)
      rw [hx] at hb
      simp only [Rows.uptoBulk] at hb
      omega
theorem asks_frame (v0 : Value) (xss : List (List ByteArray)) (z : Int) (hbl : bl2 xss ≤ 1048576) (_ : True) (hw : (Lit.int .i64 z).wf = true) (w : World) (hG : GV w v0 xss) (_ : True) (hL : Laid w) :
    Calls Tryd.prog 4 #[v0, .int .i64 z] w fun e w' => e = .returned (.bool true) ∧ Below w.heap.size w w' := RespAsks_walk v0 xss z hbl (wf_i64 hw) w hG hL
end Go.Proofs.YtbmfbpcjokbjkaaDoor
