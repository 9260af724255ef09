import Derived.Test.YtadihhngegimkaaGreatDoorSme
import Derived.Laws.AppendOwnNone
namespace Go.Proofs.YtadihhngegimkaaGreatDoor
open Go.RowKit
set_option linter.unusedVariables false
theorem info9 : (Tryz.prog.info? 9).map (fun i => (i.zero, i.size, i.bytes)) = some (some (.string ⟨#[]⟩), 1, 16) := by kernel_rfl
theorem nil_cap {c : Nat} (h : Value.slice none 0 0 = .slice none 0 c) : c = 0 := by injection h with _ _ h; exact h.symm
theorem srow_of_own {w : World} {base n : Nat} {v : Value} {vs : List ByteArray} (h : w.ownsRow base 9 1 v n (vs.map Value.string)) (hn : n = vs.length) : SRow w v vs := by
  obtain ⟨_, ⟨rfl, h0⟩ | ⟨g, cap, cur, rfl, hb, hg, h1, h2, h3, h4⟩⟩ := h
  · exact Or.inl ⟨List.eq_nil_of_length_eq_zero (by omega), none, 0, rfl⟩
  · subst hn
    refine Or.inr ⟨g, 0, cap, rfl, fun j hj => ?_⟩
    rw [cell_of_row _ _ _ _ _ _ hg, ← Array.getElem?_toList, Nat.zero_add]
    have h5 : (cur.toList.take (vs.length * 1))[j]? = (vs.map Value.string)[j]? := by rw [h4]
    rw [List.getElem?_take_of_lt (by omega), List.getElem?_map, List.getElem?_eq_getElem hj] at h5
    exact h5
theorem SRow.forms {w : World} {v : Value} {vs : List ByteArray} (h : SRow w v vs) (hnil : ∀ c, v = .slice none 0 c → c = 0) :
    (v = .slice none 0 0 ∧ vs = []) ∨ ∃ ad c, v = .slice (some ad) vs.length c ∧ ∀ j u, (vs.map Value.string)[j]? = some u → w.cell? (ad.add j) = some u := by
  rcases h with ⟨rfl, p, c, rfl⟩ | ⟨g, o, c, rfl, hc⟩
  · cases p with
    | none => left; rw [hnil c rfl]; exact ⟨rfl, rfl⟩
    | some ad => right; exact ⟨ad, c, rfl, fun j u hu => by simp at hu⟩
  · right
    refine ⟨⟨g, o, none⟩, c, rfl, fun j u hu => ?_⟩
    rw [List.getElem?_map] at hu
    by_cases hj : j < vs.length
    · rw [List.getElem?_eq_getElem hj] at hu
      have := hc j hj
      simp at hu
      subst hu
      rw [Lib.add_plain]; exact this
    · rw [List.getElem?_eq_none (by omega)] at hu
      cases hu
set_option maxHeartbeats 1000000 in
theorem twin_any (v : Value) (vs : List ByteArray) (hvl : vs.length * 16 ≤ 140737488351232) (w : World) (hv : SRow w v vs) (hnil : ∀ c, v = .slice none 0 c → c = 0) :
    Calls Tryz.prog 17 #[v] w fun e w' => ∃ v', e = .returned v' ∧ SRow w' v' vs ∧ (∀ c, v' = .slice none 0 c → c = 0) ∧ Below w.heap.size w w' := by
  obtain ⟨i0, hi, hz0, hz1, hz2⟩ := info_parts info9
  have HO : Hid (w.ownsRow w.heap.size 9 1 (.slice none 0 0) 0 []) := ⟨rfl, Or.inl ⟨rfl, rfl⟩⟩
  rcases hv.forms hnil with ⟨rfl, rfl⟩ | ⟨ad, c, rfl, hc⟩
  · clear hv hnil hvl
    go_enter Tryz.func17, Tryz.ntmps17
    go_wp2_with (at_builtin; go_must (refine wpList_append_own_none rfl _ _ 35 rfl w.heap.size 9 i0 1 Tryz.underlying35 hi _ _ _ rfl HO.out rfl ?_))
    go_wp2
    go_ret
    exact ⟨_, rfl, Or.inl ⟨rfl, none, 0, rfl⟩, fun c h => nil_cap h, Below.refl _ _⟩
  · have HC : Hid _ := hc
    have HL : Hid (vs.length * 16 ≤ 140737488351232) := hvl
    clear hv hnil hc hvl
    go_enter Tryz.func17, Tryz.ntmps17
    go_wp2_with (at_builtin; go_must (refine wpList_append_own _ rfl _ _ 35 rfl w.heap.size 9 i0 (.string ⟨#[]⟩) 1 16 Tryz.underlying35 hi hz0 hz1 hz2 rfl (by decide) _ _ _ rfl HO.out ad vs.length c (vs.map Value.string) rfl ?t0 HC.out ?t1 ?t2 ?t3 (Nat.le_refl _) ?_))
    case t0 => simp
    case t1 => intro u hu; obtain ⟨x, _, rfl⟩ := List.mem_map.1 hu; rfl
    case t2 => have := HL.out; unfold maxLen; omega
    case t3 => have := HL.out; omega
    intro v' w1 hown' hgrow hiff
    have HS : Hid (SRow w1 v' vs) := srow_of_own (n := vs.length) (by simpa using hown') rfl
    have HN : Hid (∀ c, v' = .slice none 0 c → c = 0) := fun c h => by
      obtain ⟨_, ⟨h1, _⟩ | ⟨g, cap, cur, h1, _⟩⟩ := hown'
      · exact nil_cap (h1.symm.trans h)
      · rw [h1] at h; cases h
    have HB : Hid (Below w.heap.size w w1) := (Below.refl _ w).grown hgrow (Nat.le_refl _) (fun k hk => by cases hk)
    clear hown' hgrow hiff
    go_wp2
    go_ret
    exact ⟨_, rfl, HS.out, HN.out, HB.out⟩
end Go.Proofs.YtadihhngegimkaaGreatDoor
