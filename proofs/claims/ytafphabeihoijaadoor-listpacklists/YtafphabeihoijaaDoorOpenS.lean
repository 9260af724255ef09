import Derived.Test.YtafphabeihoijaaDoorDoor
import Derived.Test.YtafphabeihoijaaDoorTwin
import Derived.SliceStrings
import Derived.Carry
namespace Go.Proofs.YtafphabeihoijaaDoor
open Go.ChangeShapes Go.WideShapes Go.RowKit
set_option linter.unusedVariables false
theorem bytes9 : Tryd.prog.bytesOf 9 = 16 := by kernel_rfl
theorem laidOut : laidOutB Tryd.prog = true := by kernel_rfl
theorem weights_strs {H : Type} (P : Program) (e : TypeId) (l : List ByteArray) (x : ByteArray) (hx : x ∈ l) : x.data.toList.length ∈ DataW.weightsAll P e (strs (H := H) l) := by
  induction l with
  | nil => cases hx
  | cons y l ih =>
    simp only [strs, List.map_cons, DataW.weightsAll, DataW.weights, List.mem_append, List.mem_singleton]
    rcases List.mem_cons.1 hx with rfl | hx
    · exact Or.inl rfl
    · exact Or.inr (ih hx)
/-- a row of texts, as it is read. -/
theorem open_row {H : Type} {enc : TypeId × Value → H} {W : World} {fuel : Nat} {v : Value} {y : DataW H × List MemPlace} {ts : List TypeId} {ds : List (DataW H)} {j : Nat}
    (h : DataW.trod enc Tryd.prog W 0 (fun _ => true) true fuel 22 [v] = some y)
    (hsz : (DataW.weightsEach Tryd.prog ts ds).all (· ≤ reachBytes) = true) (ht : ts[j]? = some 22) (hd : ds[j]? = some y.1) :
    ∃ vs : List ByteArray, SRow W v vs ∧ (∀ c, v = .slice none 0 c → c = 0) ∧ vs.length * 16 ≤ 140737488351232 ∧ ∀ x ∈ vs, x.size ≤ 281474976710656 := by
  rcases open_strings Tryd.underlying22 Tryd.underlying9 cells9 h with ⟨hcs, hx⟩ | ⟨a, len, cap, ss, hcs, _, hl, hm, hz, hx, hcell, hws⟩
  · have e : v = .slice none 0 0 := by simpa using hcs
    subst e
    exact ⟨[], Or.inl ⟨rfl, none, 0, rfl⟩, fun c h => nil_cap h, by simp, by simp⟩
  · have e : v = .slice (some a) len cap := by simpa using hcs
    subst e
    simp only [if_true] at hz
    rw [hx] at hd
    have hr : len * 16 ≤ 140737488351232 := by
      have := sized_slice hsz ht hd Tryd.underlying22
      rw [bytes9] at this
      simp only [strs, List.length_map, List.length_take, List.length_drop, reachBytes] at this
      omega
    have hstr : ∀ x ∈ ss.take len, x.size ≤ 281474976710656 := fun x hx' => by
      have hmem : x.data.toList.length ∈ DataW.weightsEach Tryd.prog ts ds := by
        refine DataW.weights_mem_each ht hd _ ?_
        simp only [DataW.weights, Tryd.underlying22, List.mem_cons, List.mem_append]
        exact Or.inr (Or.inl (weights_strs _ _ _ x hx'))
      have := List.all_eq_true.1 hsz _ hmem
      rw [list_len] at this
      have h9 : x.size ≤ reachBytes := of_decide_eq_true this
      have h10 : reachBytes = 140737488351232 := rfl
      omega
    refine ⟨ss.take len, ?_, (fun c h => by cases h), (by rw [List.length_take]; omega), hstr⟩
    have hlen : (ss.take len).length = len := by rw [List.length_take]; omega
    by_cases h0 : len = 0
    · subst h0
      exact Or.inl ⟨by simp, some a, cap, rfl⟩
    · obtain ⟨b, off, spot⟩ := a
      have hspot : spot = none := by simpa [Addr.add] using World.cell?_spot (hcell 0 (by omega))
      subst hspot
      refine Or.inr ⟨b, off, cap, by rw [hlen], fun j hj => ?_⟩
      have := hcell j (by omega)
      rw [Lib.add_plain] at this
      rw [this, List.getElem_take, List.getD_eq_getElem?_getD, List.getElem?_eq_getElem (by omega)]
      rfl
end Go.Proofs.YtafphabeihoijaaDoor
