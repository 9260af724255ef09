import Derived.Test.YtnnpnccnpojfmaaTbY
import Derived.SliceStrings
import Derived.Carry
import Derived.Laws.AppendOwnNone
namespace Go.Proofs.Ytnnpnccnpojfmaa
open Go.ChangeShapes Go.WideShapes Go.RowKit
set_option linter.unusedVariables false
theorem bytes9 : Try.prog.bytesOf 9 = 16 := by kernel_rfl
theorem cells9 : Try.prog.cellsOf 9 = 1 := by kernel_rfl
theorem laidOut : laidOutB Try.prog = true := by kernel_rfl
theorem weights_strs {H : Type} (P : Program) (e : TypeId) (l : List ByteArray) (x : ByteArray) (hx : x ∈ l) : x.data.toList.length ∈ DataW.weightsAll P e (strs (H := H) l) := by
  induction l with
  | nil => cases hx
  | cons y l ih =>
    simp only [strs, List.map_cons, DataW.weightsAll, DataW.weights, List.mem_append, List.mem_singleton]
    rcases List.mem_cons.1 hx with rfl | hx
    · exact Or.inl rfl
    · exact Or.inr (ih hx)
theorem nil_cap {c : Nat} (h : (Value.slice none 0 0) = .slice none 0 c) : c = 0 := by injection h with _ _ h; exact h.symm
/-- a row of texts that was handed in. -/
structure ARow (W : World) (v : Value) (vs : List ByteArray) : Prop where
  row : SRow W v vs
  cap : CapOk v
  nil : ∀ c, v = .slice none 0 c → c = 0
  len : vs.length * 16 ≤ 140737488351232
  siz : ∀ x ∈ vs, x.size ≤ 140737488351232
/-- a row of texts, as it is read. -/
theorem open_row {H : Type} {enc : TypeId × Value → H} {W : World} {fuel : Nat} {v : Value} {y : DataW H × List MemPlace} {ts : List TypeId} {ds : List (DataW H)} {j : Nat}
    (h : DataW.trod enc Try.prog W 0 (fun _ => true) true fuel 22 [v] = some y)
    (hsz : (DataW.weightsEach Try.prog ts ds).all (· ≤ reachBytes) = true) (ht : ts[j]? = some 22) (hd : ds[j]? = some y.1) :
    ∃ vs : List ByteArray, ARow W v vs := by
  rcases open_strings Try.underlying22 Try.underlying9 cells9 h with ⟨hcs, hx⟩ | ⟨a, len, cap, ss, hcs, _, hl, hm, hz, hx, hcell, hws⟩
  · have e : v = .slice none 0 0 := by simpa using hcs
    subst e
    exact ⟨[], Or.inl ⟨rfl, none, 0, rfl⟩, cap_of (Nat.le_refl _), fun c h => nil_cap h, by simp, by simp⟩
  · have e : v = .slice (some a) len cap := by simpa using hcs
    subst e
    simp only [if_true] at hz
    rw [hx] at hd
    have hr : len * 16 ≤ 140737488351232 := by
      have := sized_slice hsz ht hd Try.underlying22
      rw [bytes9] at this
      simp only [strs, List.length_map, List.length_take, List.length_drop, reachBytes] at this
      omega
    have hstr : ∀ x ∈ ss.take len, x.size ≤ 140737488351232 := fun x hx' => by
      have hmem : x.data.toList.length ∈ DataW.weightsEach Try.prog ts ds := by
        refine DataW.weights_mem_each ht hd _ ?_
        simp only [DataW.weights, Try.underlying22, List.mem_cons, List.mem_append]
        exact Or.inr (Or.inl (weights_strs _ _ _ x hx'))
      have := List.all_eq_true.1 hsz _ hmem
      rw [list_len] at this
      have h9 : x.size ≤ reachBytes := of_decide_eq_true this
      have h10 : reachBytes = 140737488351232 := rfl
      omega
    refine ⟨ss.take len, ?_, cap_of hl, (fun c h => by cases h), (by rw [List.length_take]; omega), hstr⟩
    have hlen : (ss.take len).length = len := by rw [List.length_take]; omega
    by_cases h0 : len = 0
    · subst h0
      exact Or.inl ⟨by simp, some a, cap, rfl⟩
    · obtain ⟨b, off, spot⟩ := a
      have hspot : spot = none := by simpa [Addr.add] using World.cell?_spot (hcell 0 (by omega))
      subst hspot
      refine Or.inr ⟨b, off, cap, by rw [hlen], fun j hj => ?_⟩
      have := hcell j (by omega)
      rw [Lib.add_plain] at this
      rw [this, List.getElem_take, List.getD_eq_getElem?_getD, List.getElem?_eq_getElem (by omega)]
      rfl
theorem SRow.forms {w : World} {v : Value} {vs : List ByteArray} (h : SRow w v vs) (hnil : ∀ c, v = .slice none 0 c → c = 0) : (v = .slice none 0 0 ∧ vs = []) ∨ ∃ ad c, v = .slice (some ad) vs.length c ∧ ∀ j u, (sv vs)[j]? = some u → w.cell? (ad.add j) = some u := by
  rcases h with ⟨rfl, P, c, rfl⟩ | ⟨g, o, c, rfl, hc⟩
  · cases P with
    | none => left; exact ⟨by rw [hnil c rfl], rfl⟩
    | some ad => right; exact ⟨ad, c, rfl, fun j u hj => by simp [sv] at hj⟩
  · right
    refine ⟨⟨g, o, none⟩, c, rfl, fun j u hj => ?_⟩
    unfold sv at hj
    rw [List.getElem?_map, Option.map_eq_some_iff] at hj
    obtain ⟨y, hy, rfl⟩ := hj
    obtain ⟨hlt, e⟩ := List.getElem?_eq_some_iff.1 hy
    rw [Lib.add_plain, hc j hlt, e]
theorem wpList_append_srow {w : World} {ops : Array Oper} {rest : List Oper} {o : Oper} {a : Act} {Q : Exit → Act → World → Prop} (hg : o.guard = none) (s x : Operand)
    (hop : o.op = Op.call { callee := Callee.builtin Builtin.append, args := #[s, x], argTypes := #[22, 22] })
    (base : Nat) (v : Value) (n : Nat) (xs : List Value) (hs : a.eval s = v) (hown : w.ownsRow base 9 1 v n xs) (xv : Value) (ys : List ByteArray) (hx : a.eval x = xv) (hy : SRow w xv ys) (hnil : ∀ c, xv = .slice none 0 c → c = 0)
    (hl : (n + ys.length) * 16 ≤ 140737488355328) (hb : base ≤ w.heap.size)
    (h : ∀ v' w', w'.ownsRow base 9 1 v' (n + ys.length) (xs ++ sv ys) → w.grownBy w' v.ownBlock → wpList Try.prog ops Q rest (a.put o.dst v') w') :
    wpList Try.prog ops Q (o :: rest) a w := by
  obtain ⟨i0, hi, hz0, hz1, hz2⟩ := info_parts info9
  rcases hy.forms hnil with ⟨rfl, rfl⟩ | ⟨ad, c, rfl, hc⟩
  · refine wpList_append_own_none hg s x 22 hop base 9 i0 1 Try.underlying22 hi v n xs hs hown hx ?_
    exact h v w (by simpa [sv] using hown) (World.grownBy.refl w _)
  · refine wpList_append_own _ hg s x 22 hop base 9 i0 (.string ⟨#[]⟩) 1 16 Try.underlying22 hi hz0 hz1 hz2 rfl (by decide) v n xs hs hown ad ys.length c (sv ys) hx (by rw [sv_len, Nat.mul_one]) hc ?_ ?_ hl hb ?_
    · intro u hu; unfold sv at hu; obtain ⟨y, _, rfl⟩ := List.mem_map.1 hu; rfl
    · unfold maxLen; omega
    · intro v' w' h1 h2 h3; exact h v' w' h1 h2
theorem own_cap {w : World} {base e size n : Nat} {v : Value} {xs : List Value} (h : w.ownsRow base e size v n xs) : CapOk v := by
  rcases h.2 with ⟨rfl, _⟩ | ⟨g, cap, cur, rfl, _, _, hn, _⟩
  · exact cap_of (Nat.le_refl _)
  · exact cap_of hn
theorem own_empty (w : World) : (w.alloc (.cells #[] 9)).ownsRow w.heap.size 9 1 (.slice (some ⟨w.heap.size, 0, none⟩) 0 0) 0 [] :=
  ⟨rfl, Or.inr ⟨w.heap.size, 0, #[], rfl, Nat.le_refl _, one_alloc w _, Nat.le_refl _, Nat.zero_le _, rfl, rfl⟩⟩
end Go.Proofs.Ytnnpnccnpojfmaa
