import Derived.Test.YtbmfbpcjokbjkaaGreatDoorMkC
import Derived.Test.YtbmfbpcjokbjkaaGreatDoorMkD
import Derived.Test.YtbmfbpcjokbjkaaGreatDoorMkG
import Derived.Test.YtbmfbpcjokbjkaaGreatDoorGK
import Derived.Laws.AppendOwnNone
namespace Go.Proofs.YtbmfbpcjokbjkaaGreatDoor
open Go.RowKit Vi
set_option linter.unusedVariables false
set_option linter.unusedSimpArgs false
theorem strB_back (x : ByteArray) : strB x.data.toList = x := by
  cases x; simp [strB]
theorem own_sr {W : World} {b n : Nat} {v : Value} {xs : List ByteArray} (h : W.ownsRow b 9 1 v n (xs.map Value.string)) (hn : xs.length = n) : SRow W v xs := by
  have e : xs.map Value.string = strS (xs.map (·.data.toList)) := by
    unfold strS
    rw [List.map_map]
    refine List.map_congr_left (fun x _ => ?_)
    show _ = Value.string (strB x.data.toList)
    rw [strB_back]
  rw [e] at h
  have h9 := own_srow h (by rw [List.length_map]; exact hn)
  rw [List.map_map] at h9
  have e2 : xs.map (strB ∘ fun x => x.data.toList) = xs := by
    have : ∀ x ∈ xs, (strB ∘ fun x => x.data.toList) x = x := fun x _ => strB_back x
    exact (List.map_congr_left this).trans (List.map_id'' (fun _ => rfl) xs)
  rw [e2] at h9
  exact h9
/-- nil, or an address. -/
def NF (v : Value) : Prop := v = .slice none 0 0 ∨ ∃ a n c, v = .slice (some a) n c
set_option maxRecDepth 20000 in
theorem wpList_append_sr {w : World} {ops : Array Oper} {rest : List Oper} {o : Oper} {a : Act} {Q : Exit → Act → World → Prop} (hg : o.guard = none) (s x : Operand)
    (hop : o.op = Op.call { callee := Callee.builtin Builtin.append, args := #[s, x], argTypes := #[33, 33] })
    (b : Nat) (hb : b ≤ w.heap.size) (hs : a.eval s = .slice none 0 0) (v : Value) (xs : List ByteArray) (hx : a.eval x = v) (hS : SRow w v xs) (hF : NF v) (hl : xs.length ≤ 1099511627776)
    (h : ∀ v' w', w'.ownsRow b 9 1 v' xs.length (xs.map Value.string) → w.grownBy w' none → wpList Tryz.prog ops Q rest (a.put o.dst v') w') :
    wpList Tryz.prog ops Q (o :: rest) a w := by
  obtain ⟨i9, hi9, hy9, hy10, hy11⟩ := info_parts info9
  have key : ∀ (ad : Addr) (c : Nat), v = .slice (some ad) xs.length c → (∀ j (hj : j < xs.length), w.cell? (ad.add j) = some (.string xs[j])) → wpList Tryz.prog ops Q (o :: rest) a w := by
    intro ad c hv hc
    refine wpList_append_own_at w hg s x 33 hop b 9 i9 (.string ⟨#[]⟩) 1 16 Tryz.underlying33 hi9 hy9 hy10 hy11 rfl (by decide) (.slice none 0 0) 0 [] hs ⟨rfl, Or.inl ⟨rfl, rfl⟩⟩ ad xs.length c (xs.map Value.string) (hx.trans hv) (by simp) ?_ ?_ (by unfold maxLen; omega) (by omega) hb ?_
    · intro j u hj
      rw [List.getElem?_map] at hj
      by_cases hjl : j < xs.length
      · rw [List.getElem?_eq_getElem hjl] at hj
        injection hj with hj
        rw [← hj]
        exact hc j hjl
      · rw [List.getElem?_eq_none (by omega)] at hj; cases hj
    · intro u hu
      obtain ⟨y, _, rfl⟩ := List.mem_map.1 hu
      rfl
    · intro v' w' ho hgw _ _
      refine h v' w' ?_ hgw
      simpa using ho
  rcases hS with ⟨rfl, p, c, hv⟩ | ⟨g, og, c, hv, hc⟩
  · cases p with
    | none =>
      rcases hF with hF | ⟨a9, n9, c9, hF⟩
      · refine wpList_append_own_none hg s x 33 hop b 9 i9 1 Tryz.underlying33 hi9 (.slice none 0 0) 0 [] hs ⟨rfl, Or.inl ⟨rfl, rfl⟩⟩ (hx.trans hF) ?_
        exact h _ _ ⟨rfl, Or.inl ⟨rfl, rfl⟩⟩ ⟨rfl, rfl, rfl, Nat.le_refl _, fun _ _ _ => rfl⟩
      · rw [hv] at hF; injection hF with hF; cases hF
    | some ad => exact key ad c hv (fun j hj => absurd hj (by simp))
  · refine key ⟨g, og, none⟩ c hv (fun j hj => ?_)
    rw [Lib.add_plain]
    exact hc j hj
end Go.Proofs.YtbmfbpcjokbjkaaGreatDoor
