import Derived.Test.YtgbplghokciimaaDoorSkA
namespace Go.Proofs.YtgbplghokciimaaDoor
open Go.RowKit
set_option linter.unusedVariables false
theorem cut_step (l : List En) (s t : Nat) (h : s + t < l.length) : (l.drop s).take (t + 1) = (l.drop s).take t ++ [l[s + t]] := by
  rw [List.take_succ_eq_append_getElem (by rw [List.length_drop]; omega), List.getElem_drop]
theorem cut_len (l : List En) (s t : Nat) (h : s + t ≤ l.length) : ((l.drop s).take t).length = t := by
  rw [List.length_take, List.length_drop]; omega
set_option maxHeartbeats 2000000 in
set_option maxRecDepth 100000 in
theorem rcut_any (Q : Nat → Prop) (v : Value) (l : List En) (hl : l.length ≤ 1099511627776) (skip most : Int) (hsk : -9223372036854775808 ≤ skip ∧ skip ≤ 9223372036854775807) (w : World) (h : ERow Q w v l) : Calls Tryd.prog 76 #[v, .int .i64 skip, .int .i64 most] w fun e w' => ∃ r, e = .returned r ∧ w'.ownsRow w.heap.size 92 3 r (cutE l skip most).length (flat3 (cutE l skip most)) ∧ Below w.heap.size w w' := by
  obtain ⟨P, c, rfl⟩ := h.form
  have HI : Hid (ERow Q w _ l) := h
  have HO : Hid (w.ownsRow w.heap.size 92 3 (.slice none 0 0) 0 (flat3 [])) := ⟨rfl, Or.inl ⟨rfl, rfl⟩⟩
  obtain ⟨s, hs⟩ : ∃ s : Nat, max skip 0 = (s : Int) := ⟨(max skip 0).toNat, by omega⟩
  have hmx : (if skip < 0 then (0 : Int) else skip) = (s : Int) := by split <;> omega
  have hmx2 : (if (0 : Int) < skip then skip else 0) = (s : Int) := by split <;> omega
  have HCE : Hid (cutE l skip most = if most < 0 then l.drop s else (l.drop s).take most.toNat) := by
    show _ = _
    unfold cutE; rw [hs, Int.toNat_natCast]
  have hsb : s ≤ 9223372036854775807 := by omega
  have HS : Hid _ := hs
  clear h
  go_enter Tryd.func76, Tryd.ntmps76
  go_wp2
  go_loopw [8, 7] (fun ci co wr => ∃ t : Nat, (most < 0 ∨ (t : Int) ≤ most) ∧ (t = 0 ∨ s + t ≤ l.length) ∧ ci = .int .i64 ((s + t : Nat) : Int) ∧ wr.ownsRow w.heap.size 92 3 co t (flat3 ((l.drop s).take t)) ∧ Below w.heap.size w wr) (fun ci _ _ => l.length - (intOf ci).toNat)
  case atStart => exact ⟨0, by omega, Or.inl rfl, rfl, HO.out, Below.refl _ _⟩
  case round =>
    obtain ⟨t, hmo, htl, rfl, ho, hb⟩ := hrel
    have HO1 : Hid (wr.ownsRow w.heap.size 92 3 _ t (flat3 ((l.drop s).take t))) := ho
    have HB : Hid (Below w.heap.size w wr) := hb
    obtain ⟨P8, k8, hkf⟩ := own_form ho
    subst hkf
    have hIr := HI.out.on hb
    have HTL : Hid (t = ((l.drop s).take t).length) := by
      rcases htl with rfl | h
      · rfl
      · exact (cut_len l s t h).symm
    have HFIN : Hid (((s + t < l.length) → ¬ most < 0 ∧ most ≤ (t : Int)) → cutE l skip most = (l.drop s).take t) := fun hq => by
      rw [HCE.out]
      by_cases h1 : s + t < l.length
      · obtain ⟨h2, h3⟩ := hq h1
        rw [if_neg h2, show most.toNat = t by omega]
      · have e : (l.drop s).take t = l.drop s := List.take_of_length_le (by rw [List.length_drop]; omega)
        rw [e]
        split
        · rfl
        · next h2 => exact List.take_of_length_le (by rw [List.length_drop]; omega)
    clear ho hb
    by_cases hgo : s + t < l.length ∧ (most < 0 ∨ (t : Int) < most)
    · obtain ⟨hlt, hmm⟩ := hgo
      obtain ⟨kk, hkk⟩ : ∃ kk, s + t = kk := ⟨_, rfl⟩
      have hkl : kk < l.length := by omega
      obtain ⟨g, c', hf, q1, q2, q3⟩ := hIr.cells hkl
      obtain ⟨rfl, _, rfl⟩ : P = some ⟨g, 0, none⟩ ∧ True ∧ c = c' := by injection hf with h1 h2 h3; exact ⟨h1, trivial, h3⟩
      have HT : Hid ((l.drop s).take (t + 1) = (l.drop s).take t ++ [l[kk]]) := by
        show _ = _
        rw [cut_step l s t hlt]
        subst hkk; rfl
      have hk3 : (0 : Int) ≤ (kk : Int) := by omega
      have hk4 : (kk : Int) < (l.length : Int) := by omega
      have hiw : IntKind.i64.wrap ((kk : Int) + 1) = (kk : Int) + 1 := by rw [IntKind.wrap_i64] <;> omega
      clear hf hIr
      obtain ⟨X, hX⟩ : ∃ X, l[kk] = X := ⟨_, rfl⟩
      rw [hX] at q1 q2 q3 HT
      clear hX
      obtain ⟨W2, hW2⟩ : ∃ W2, W2 = wr.alloc (.cells #[.string X.1, .int .i64 X.2.1, .int .i64 X.2.2] 92) := ⟨_, rfl⟩
      have hb2 : Below wr.heap.size wr W2 := by rw [hW2]; exact (Below.refl _ _).alloc (Nat.le_refl _) _
      have HE1 : Hid (ERow (fun _ => True) W2 (.slice (some ⟨wr.heap.size, 0, none⟩) 1 1) [X]) := ERow.one (by rw [hW2]; exact one_alloc _ _)
      have HO2 : Hid (W2.ownsRow w.heap.size 92 3 (.slice P8 t k8) t (flat3 ((l.drop s).take t))) := own_keep HO1.out (fun q _ hq => hb2.block q hq)
      have HB2 : Hid (Below w.heap.size w W2) := HB.out.trans (hb2.mono HB.out.size)
      have HKK : Hid _ := hkk
      have HREL : Hid ((most < 0 ∨ ((t + 1 : Nat) : Int) ≤ most) ∧ (t + 1 = 0 ∨ s + (t + 1) ≤ l.length)) := ⟨by omega, by omega⟩
      have htb : t ≤ 1099511627776 := by omega
      rw [hkk]
      clear hb2 hkk htl hlt hmo
      have hsplit : most < 0 ∨ (¬ most < 0 ∧ (t : Int) < most) := by omega
      clear hmm
      rcases hsplit with hm1 | ⟨hm1, hm2⟩
      all_goals
        go_upto_region 5 with fail
        go_wp2_with (at_builtin; rw [← hW2]; go_must (refine wpList_append_ens rfl _ _ rfl w.heap.size _ _ t HTL.out rfl HO2.out (fun _ => True) _ [X] rfl HE1.out (t + 1) (by rw [← HTL.out]; rfl) (by rw [← HTL.out]; simp; omega) HB2.out.size ?_))
        intro v3 w3 ho3 hg3
        rw [← hW2] at hg3
        have HB3 : Hid (Below w.heap.size w w3) := HB2.out.grown hg3 HB2.out.size (fun q hq => (World.ownsRow.lt HO2.out q hq).1)
        obtain ⟨P9, k9, hkf⟩ := own_form ho3
        subst hkf
        have HO3 : Hid (w3.ownsRow w.heap.size 92 3 (.slice P9 (t + 1) k9) (t + 1) (flat3 ((l.drop s).take (t + 1)))) := by
          show World.ownsRow _ _ _ _ _ _ _
          rw [HT.out]; exact ho3
        clear ho3 hg3 hW2
        go_wp2
        go_roundw
        case rel => exact ⟨t + 1, HREL.out.1, HREL.out.2, by rw [← HKK.out]; simp; omega, HO3.out, HB3.out⟩
        case measure => simp [intOf]; omega
    · have HE : Hid (cutE l skip most = (l.drop s).take t) := HFIN.out (fun h1 => by
        have : ¬ (most < 0 ∨ (t : Int) < most) := fun q => hgo ⟨h1, q⟩
        omega)
      have HOF : Hid (wr.ownsRow w.heap.size 92 3 (.slice P8 t k8) (cutE l skip most).length (flat3 (cutE l skip most))) := by
        show World.ownsRow _ _ _ _ _ _ _
        rw [HE.out, ← HTL.out]; exact HO1.out
      clear hIr
      by_cases hlt : s + t < l.length
      · have hz1 : ((s + t : Nat) : Int) < (l.length : Int) := by omega
        have hm1 : ¬ most < 0 := fun q => hgo ⟨hlt, Or.inl q⟩
        have hm2 : ¬ (t : Int) < most := fun q => hgo ⟨hlt, Or.inr q⟩
        clear hgo hlt htl
        generalize s + t = kk at *
        go_wp2
        go_returns
        exact ⟨_, rfl, HOF.out, HB.out⟩
      · have hz1 : ¬ ((s + t : Nat) : Int) < (l.length : Int) := by omega
        clear hgo hlt htl
        generalize s + t = kk at *
        go_wp2
        go_returns
        exact ⟨_, rfl, HOF.out, HB.out⟩
end Go.Proofs.YtgbplghokciimaaDoor
namespace Go.Proofs.YtgbplghokciimaaDoor
open Go.RowKit
set_option linter.unusedVariables false
abbrev bval (seed : Int) (v : Value) : Value := .agg #[.int .i64 seed, v]
theorem cells2 {w : World} {g T : Nat} {v0 v1 : Value} (h : w.heap[g]? = some (.cells #[v0, v1] T)) :
    w.cell? ⟨g, 0, none⟩ = some v0 ∧ w.cell? ⟨g, 1, none⟩ = some v1 ∧ ∀ j, w.frozen? ⟨g, j, none⟩ = false := by
  refine ⟨?_, ?_, fun j => frozen_of_row _ _ _ _ _ h⟩ <;> rw [cell_of_row _ _ _ _ _ _ h] <;> rfl
/-- no such member. -/
def noM (l : List En) (m : ByteArray) : Prop := m ∉ l.map (·.1)
set_option maxHeartbeats 2000000 in
set_option maxRecDepth 100000 in
theorem rRank_any (Q : Nat → Prop) (seed : Int) (v : Value) (l : List En) (hl : l.length ≤ 1099511627776) (m : ByteArray) (back : Bool) (w : World) (h : ERow Q w v l) : Calls Tryd.prog 47 #[bval seed v, .string m, .bool back] w fun e w' => ((e = .returned (.tuple #[.int .i64 0, .bool false]) ∧ noM l m) ∨ ∃ j : Nat, ∃ hj : j < (turnE l back).length, e = .returned (.tuple #[.int .i64 (j : Int), .bool true]) ∧ (turnE l back)[j].1 = m) ∧ Below w.heap.size w w' := by
  obtain ⟨P, c, rfl⟩ := h.form
  obtain ⟨W0, hW0⟩ : ∃ W0, W0 = w.alloc (.cells #[.int .i64 seed, .slice P l.length c] 51) := ⟨_, rfl⟩
  have hb0 : Below w.heap.size w W0 := by rw [hW0]; exact (Below.refl _ _).alloc (Nat.le_refl _) _
  have HB0 : Hid _ := hb0
  have HTU : Hid _ := rturned_any Q _ l hl back W0 (h.on hb0)
  have HMM : Hid (m ∈ l.map (·.1) ↔ m ∈ (turnE l back).map (·.1)) := by
    show _ ↔ _
    unfold turnE
    cases back with
    | true => simp
    | false => simp
  have HLL : Hid _ := turnE_len l back
  clear h hb0
  go_enter Tryd.func47, Tryd.ntmps47
  go_wp2_with fail
  rw [← hW0]
  clear hW0
  refine (show Calls _ _ _ _ _ from HTU.out).mono ?_
  rintro e w1 ⟨r1, rfl, ho1, hb1⟩
  have HB1 : Hid (Below w.heap.size w w1) := HB0.out.trans (hb1.mono HB0.out.size)
  have HE1 : ERow (fun _ => True) w1 r1 (turnE l back) := ERow.own_of ho1 (turnE_len l back).symm (fun _ _ => trivial)
  obtain ⟨P1, c1, hf1⟩ := HE1.form
  subst hf1
  rw [turnE_len] at HE1
  have HE : Hid _ := HE1
  clear ho1 hb1 HE1
  rw [HLL.out]
  obtain ⟨L, hL⟩ : ∃ L, turnE l back = L := ⟨_, rfl⟩
  rw [hL] at HE HMM HLL
  have HLE : Hid _ := hL
  clear hL
  go_wp2
  go_loopw [9] (fun ci wr => wr = w1 ∧ ∃ j : Nat, j ≤ l.length ∧ ci = .int .i64 (j : Int) ∧ ∀ t (ht : t < L.length), t < j → L[t].1 ≠ m) (fun ci _ => l.length - (intOf ci).toNat)
  case atStart => exact ⟨rfl, 0, Nat.zero_le _, rfl, fun t _ h => by omega⟩
  case round =>
    obtain ⟨rfl, j, hj, rfl, hno⟩ := hrel
    have HNO : Hid _ := hno
    clear hno
    by_cases hlt : j < l.length
    · have hjL : j < L.length := by rw [HLL.out]; exact hlt
      obtain ⟨g, c', hf, q1, q2, q3⟩ := (show ERow (fun _ => True) wr _ L from HE.out).cells hjL
      obtain ⟨rfl, _, rfl⟩ : P1 = some ⟨g, 0, none⟩ ∧ True ∧ c1 = c' := by injection hf with h1 h2 h3; exact ⟨h1, trivial, h3⟩
      have hz3 : (0 : Int) ≤ (j : Int) := by omega
      have hz4 : (j : Int) < (l.length : Int) := by omega
      have hjw : IntKind.i64.wrap ((j : Int) + 1) = (j : Int) + 1 := by rw [IntKind.wrap_i64] <;> omega
      clear q2 q3 hf
      by_cases heq : L[j].1 = m
      · have hsame : (m.toList == m.toList) = true := by simp
        have HEQ : Hid ((L[j]'hjL).1 = m) := heq
        have HJL : Hid _ := hjL
        have q1' : wr.cell? ⟨g, j * 3, none⟩ = some (.string m) := by rw [q1, heq]
        clear heq q1
        go_wp2
        go_returns
        refine ⟨Or.inr ⟨j, by rw [HLE.out]; exact HJL.out, rfl, ?_⟩, HB1.out⟩
        have := HEQ.out
        simp only [HLE.out]; exact this
      · have hother : (L[j].1.toList == m.toList) = false := str_other (fun e => heq (ByteArray.ext (Array.toList_inj.1 e)))
        have HN2 : Hid (∀ t (ht : t < L.length), t < j + 1 → L[t].1 ≠ m) := fun t ht h1 => by
          rcases Nat.lt_or_ge t j with h2 | h2
          · exact HNO.out t ht h2
          · have : t = j := by omega
            subst this; exact heq
        clear heq
        generalize L[j].1 = X at *
        go_wp2
        go_roundw
        case rel => exact ⟨by trivial, j + 1, hlt, by simp, HN2.out⟩
        case measure => simp [intOf]; omega
    · have hz4 : ¬ (j : Int) < (l.length : Int) := by omega
      have HR : Hid (noM l m) := fun hm => by
        obtain ⟨x, hx, e⟩ := List.mem_map.1 (HMM.out.1 hm)
        obtain ⟨t, ht, rfl⟩ := List.mem_iff_getElem.1 hx
        exact HNO.out t ht (by rw [HLL.out] at ht; omega) e
      go_wp2
      go_returns
      exact ⟨Or.inl ⟨rfl, HR.out⟩, HB1.out⟩
set_option maxHeartbeats 2000000 in
set_option maxRecDepth 100000 in
theorem rSlice_any (Q : Nat → Prop) (seed : Int) (v : Value) (l : List En) (hl : l.length ≤ 1099511627776) (f tt : Int) (hsk : -9223372036854775808 ≤ f ∧ f ≤ 9223372036854775807) (back : Bool) (w : World) (h : ERow Q w v l) : Calls Tryd.prog 49 #[bval seed v, .int .i64 f, .int .i64 tt, .bool back] w fun e w' => ∃ r, e = .returned r ∧ w'.ownsRow w.heap.size 92 3 r (sliceE (turnE l back) f tt).length (flat3 (sliceE (turnE l back) f tt)) ∧ Below w.heap.size w w' := by
  obtain ⟨P, c, rfl⟩ := h.form
  obtain ⟨W0, hW0⟩ : ∃ W0, W0 = w.alloc (.cells #[.int .i64 seed, .slice P l.length c] 51) := ⟨_, rfl⟩
  have hb0 : Below w.heap.size w W0 := by rw [hW0]; exact (Below.refl _ _).alloc (Nat.le_refl _) _
  have HB0 : Hid _ := hb0
  have HTU : Hid _ := rturned_any Q _ l hl back W0 (h.on hb0)
  have HLL : Hid _ := turnE_len l back
  obtain ⟨s, hs⟩ : ∃ s : Nat, max f 0 = (s : Int) := ⟨(max f 0).toNat, by omega⟩
  have hmx : (if f < 0 then (0 : Int) else f) = (s : Int) := by split <;> omega
  have hmx2 : (if (0 : Int) < f then f else 0) = (s : Int) := by split <;> omega
  have HCE : Hid (sliceE (turnE l back) f tt = ((turnE l back).drop s).take (tt + 1 - (s : Int)).toNat) := by
    show _ = _
    unfold sliceE; rw [hs, Int.toNat_natCast]
  have HS : Hid _ := hs
  clear h hb0
  go_enter Tryd.func49, Tryd.ntmps49
  go_wp2_with fail
  rw [← hW0]
  clear hW0
  refine (show Calls _ _ _ _ _ from HTU.out).mono ?_
  rintro e w1 ⟨r1, rfl, ho1, hb1⟩
  have HB1 : Hid (Below w.heap.size w w1) := HB0.out.trans (hb1.mono HB0.out.size)
  have HE1 : ERow (fun _ => True) w1 r1 (turnE l back) := ERow.own_of ho1 (turnE_len l back).symm (fun _ _ => trivial)
  obtain ⟨P1, c1, hf1⟩ := HE1.form
  subst hf1
  rw [turnE_len] at HE1
  have HE : Hid _ := HE1
  clear ho1 hb1 HE1
  rw [HLL.out]
  obtain ⟨L, hL⟩ : ∃ L, turnE l back = L := ⟨_, rfl⟩
  rw [hL] at HE HLL HCE
  have HLE : Hid _ := hL
  clear hL
  have HO : Hid (w1.ownsRow w1.heap.size 92 3 (.slice none 0 0) 0 (flat3 [])) := ⟨rfl, Or.inl ⟨rfl, rfl⟩⟩
  go_wp2
  go_loopw [11, 10] (fun ci co wr => ∃ t : Nat, (t = 0 ∨ ((s + t : Nat) : Int) ≤ tt + 1) ∧ (t = 0 ∨ s + t ≤ l.length) ∧ ci = .int .i64 ((s + t : Nat) : Int) ∧ wr.ownsRow w1.heap.size 92 3 co t (flat3 ((L.drop s).take t)) ∧ Below w1.heap.size w1 wr) (fun ci _ _ => l.length - (intOf ci).toNat)
  case atStart => exact ⟨0, Or.inl rfl, Or.inl rfl, rfl, HO.out, Below.refl _ _⟩
  case round =>
    obtain ⟨t, hmo, htl, rfl, ho, hb⟩ := hrel
    have HO1 : Hid (wr.ownsRow w1.heap.size 92 3 _ t (flat3 ((L.drop s).take t))) := ho
    have HB : Hid (Below w1.heap.size w1 wr) := hb
    obtain ⟨P8, k8, hkf⟩ := own_form ho
    subst hkf
    have hIr : ERow (fun _ => True) wr (.slice P1 l.length c1) L := ERow.on HE.out hb
    have HTL : Hid (t = ((L.drop s).take t).length) := by
      rcases htl with rfl | h
      · rfl
      · exact (cut_len L s t (by rw [HLL.out]; exact h)).symm
    have HFIN : Hid (((s + t < l.length) → tt < ((s + t : Nat) : Int)) → sliceE L f tt = (L.drop s).take t) := fun hq => by
      have e0 : sliceE L f tt = (L.drop s).take (tt + 1 - (s : Int)).toNat := by rw [← HLE.out] at HCE ⊢; exact HCE.out
      rw [e0]
      by_cases h1 : s + t < l.length
      · have h2 := hq h1
        rcases hmo with h3 | h3
        · subst h3; rw [show (tt + 1 - (s : Int)).toNat = 0 by omega]
        · rw [show (tt + 1 - (s : Int)).toNat = t by omega]
      · have e1 : (L.drop s).take t = L.drop s := List.take_of_length_le (by rw [List.length_drop, HLL.out]; omega)
        rw [e1]
        exact List.take_of_length_le (by rw [List.length_drop, HLL.out]; omega)
    clear ho hb
    by_cases hgo : s + t < l.length ∧ ((s + t : Nat) : Int) ≤ tt
    · obtain ⟨hlt, hmm⟩ := hgo
      obtain ⟨kk, hkk⟩ : ∃ kk, s + t = kk := ⟨_, rfl⟩
      have hkl : kk < L.length := by rw [HLL.out]; omega
      obtain ⟨g, c', hf, q1, q2, q3⟩ := hIr.cells hkl
      obtain ⟨rfl, _, rfl⟩ : P1 = some ⟨g, 0, none⟩ ∧ True ∧ c1 = c' := by injection hf with h1 h2 h3; exact ⟨h1, trivial, h3⟩
      have HT : Hid ((L.drop s).take (t + 1) = (L.drop s).take t ++ [L[kk]]) := by
        show _ = _
        rw [cut_step L s t (by rw [HLL.out]; exact hlt)]
        subst hkk; rfl
      have hk3 : (0 : Int) ≤ (kk : Int) := by omega
      have hk4 : (kk : Int) < (l.length : Int) := by omega
      have hk5 : (kk : Int) ≤ tt := by omega
      have hiw : IntKind.i64.wrap ((kk : Int) + 1) = (kk : Int) + 1 := by rw [IntKind.wrap_i64] <;> omega
      clear hf hIr
      obtain ⟨X, hX⟩ : ∃ X, L[kk] = X := ⟨_, rfl⟩
      rw [hX] at q1 q2 q3 HT
      clear hX
      obtain ⟨W2, hW2⟩ : ∃ W2, W2 = wr.alloc (.cells #[.string X.1, .int .i64 X.2.1, .int .i64 X.2.2] 92) := ⟨_, rfl⟩
      have hb2 : Below wr.heap.size wr W2 := by rw [hW2]; exact (Below.refl _ _).alloc (Nat.le_refl _) _
      have HX1 : Hid (ERow (fun _ => True) W2 (.slice (some ⟨wr.heap.size, 0, none⟩) 1 1) [X]) := ERow.one (by rw [hW2]; exact one_alloc _ _)
      have HO2 : Hid (W2.ownsRow w1.heap.size 92 3 (.slice P8 t k8) t (flat3 ((L.drop s).take t))) := own_keep HO1.out (fun q _ hq => hb2.block q hq)
      have HB2 : Hid (Below w1.heap.size w1 W2) := HB.out.trans (hb2.mono HB.out.size)
      have HKK : Hid _ := hkk
      have HREL : Hid ((t + 1 = 0 ∨ ((s + (t + 1) : Nat) : Int) ≤ tt + 1) ∧ (t + 1 = 0 ∨ s + (t + 1) ≤ l.length)) := ⟨by omega, by omega⟩
      have htb : t ≤ 1099511627776 := by omega
      rw [hkk]
      clear hb2 hkk htl hlt hmo hmm
      go_upto_region 6 with fail
      go_wp2_with (at_builtin; rw [← hW2]; go_must (refine wpList_append_ens rfl _ _ rfl w1.heap.size _ _ t HTL.out rfl HO2.out (fun _ => True) _ [X] rfl HX1.out (t + 1) (by rw [← HTL.out]; rfl) (by rw [← HTL.out]; simp; omega) HB2.out.size ?_))
      intro v3 w3 ho3 hg3
      rw [← hW2] at hg3
      have HB3 : Hid (Below w1.heap.size w1 w3) := HB2.out.grown hg3 HB2.out.size (fun q hq => (World.ownsRow.lt HO2.out q hq).1)
      obtain ⟨P9, k9, hkf⟩ := own_form ho3
      subst hkf
      have HO3 : Hid (w3.ownsRow w1.heap.size 92 3 (.slice P9 (t + 1) k9) (t + 1) (flat3 ((L.drop s).take (t + 1)))) := by
        show World.ownsRow _ _ _ _ _ _ _
        rw [HT.out]; exact ho3
      clear ho3 hg3 hW2
      go_wp2
      go_roundw
      case rel => exact ⟨t + 1, HREL.out.1, HREL.out.2, by rw [← HKK.out]; simp; omega, HO3.out, HB3.out⟩
      case measure => simp [intOf]; omega
    · have HEE : Hid (sliceE L f tt = (L.drop s).take t) := HFIN.out (fun h1 => by
        have : ¬ ((s + t : Nat) : Int) ≤ tt := fun q => hgo ⟨h1, q⟩
        omega)
      have HOF : Hid (wr.ownsRow w.heap.size 92 3 (.slice P8 t k8) (sliceE (turnE l back) f tt).length (flat3 (sliceE (turnE l back) f tt))) := by
        show World.ownsRow _ _ _ _ _ _ _
        rw [HLE.out, HEE.out, ← HTL.out]
        refine ⟨HO1.out.1, ?_⟩
        rcases HO1.out.2 with q | ⟨a1, a2, a3, a4, a5, a6⟩
        · exact Or.inl q
        · exact Or.inr ⟨a1, a2, a3, a4, Nat.le_trans HB1.out.size a5, a6⟩
      have HBF : Hid (Below w.heap.size w wr) := HB1.out.trans (HB.out.mono HB1.out.size)
      clear hIr
      by_cases hlt : s + t < l.length
      · have hz1 : ((s + t : Nat) : Int) < (l.length : Int) := by omega
        have hm1 : ¬ ((s + t : Nat) : Int) ≤ tt := fun q => hgo ⟨hlt, q⟩
        clear hgo hlt htl hmo
        generalize s + t = kk at *
        go_wp2
        go_returns
        exact ⟨_, rfl, HOF.out, HBF.out⟩
      · have hz1 : ¬ ((s + t : Nat) : Int) < (l.length : Int) := by omega
        clear hgo hlt htl hmo
        generalize s + t = kk at *
        go_wp2
        go_returns
        exact ⟨_, rfl, HOF.out, HBF.out⟩
end Go.Proofs.YtgbplghokciimaaDoor
namespace Go.Proofs.YtgbplghokciimaaDoor
open Go.RowKit
set_option linter.unusedVariables false
set_option maxHeartbeats 2000000 in
set_option maxRecDepth 100000 in
/-- the document's Get. -/
theorem rGet_any (Q : Nat → Prop) (seed : Int) (v : Value) (l : List En) (hl : l.length ≤ 1099511627776) (m : ByteArray) (w : World) (h : ERow Q w v l) : Calls Tryd.prog 45 #[bval seed v, .string m] w fun e w' => ((e = .returned (.tuple #[.agg #[.string ⟨#[]⟩, .int .i64 0, .int .i64 0], .bool false]) ∧ noM l m) ∨ ∃ j : Nat, ∃ hj : j < l.length, e = .returned (.tuple #[.agg #[.string l[j].1, .int .i64 l[j].2.1, .int .i64 l[j].2.2], .bool true]) ∧ l[j].1 = m) ∧ Below w.heap.size w w' := by
  obtain ⟨P, c, rfl⟩ := h.form
  have HI : Hid (ERow Q w _ l) := h
  clear h
  go_enter Tryd.func45, Tryd.ntmps45
  go_wp2
  go_loopw [6] (fun ci wr => wr = (w.alloc (.cells #[.int .i64 seed, .slice P l.length c] 51)).alloc (.cells #[.string ⟨#[]⟩, .int .i64 0, .int .i64 0] 92) ∧ ∃ j : Nat, j ≤ l.length ∧ ci = .int .i64 (j : Int) ∧ ∀ t (ht : t < l.length), t < j → l[t].1 ≠ m) (fun ci _ => l.length - (intOf ci).toNat)
  case atStart => exact ⟨rfl, 0, Nat.zero_le _, rfl, fun t _ h => by omega⟩
  case round =>
    obtain ⟨rfl, j, hj, rfl, hno⟩ := hrel
    have hbw : Below w.heap.size w ((w.alloc (.cells #[.int .i64 seed, .slice P l.length c] 51)).alloc (.cells #[.string ⟨#[]⟩, .int .i64 0, .int .i64 0] 92)) := by
      repeat (refine Below.alloc ?_ (by simp <;> omega) _)
      exact Below.refl _ _
    have HNO : Hid _ := hno
    clear hno
    by_cases hlt : j < l.length
    · obtain ⟨g, c', hf, q1, q2, q3⟩ := (HI.out.on hbw).cells hlt
      obtain ⟨rfl, _, rfl⟩ : P = some ⟨g, 0, none⟩ ∧ True ∧ c = c' := by injection hf with h1 h2 h3; exact ⟨h1, trivial, h3⟩
      have HBW : Hid _ := hbw
      have hz3 : (0 : Int) ≤ (j : Int) := by omega
      have hz4 : (j : Int) < (l.length : Int) := by omega
      have hjw : IntKind.i64.wrap ((j : Int) + 1) = (j : Int) + 1 := by rw [IntKind.wrap_i64] <;> omega
      clear hf hbw
      by_cases heq : l[j].1 = m
      · have hsame : (m.toList == m.toList) = true := by simp
        have HEQ : Hid ((l[j]'hlt).1 = m) := heq
        have HX2 : Hid ((l[j]'hlt).2.1 = (l[j]'hlt).2.1 ∧ True) := ⟨rfl, trivial⟩
        rw [heq] at q1
        obtain ⟨xs, hxs⟩ : ∃ xs, (l[j]'hlt).2.1 = xs := ⟨_, rfl⟩
        obtain ⟨xv, hxv⟩ : ∃ xv, (l[j]'hlt).2.2 = xv := ⟨_, rfl⟩
        rw [hxs] at q2
        rw [hxv] at q3
        have HXS : Hid _ := hxs
        have HXV : Hid _ := hxv
        clear heq hxs hxv
        go_wp2
        go_returns
        refine ⟨Or.inr ⟨j, hlt, by rw [HEQ.out, HXS.out, HXV.out], HEQ.out⟩, ?_⟩
        repeat (refine Below.alloc ?_ (by simp <;> omega) _)
        exact Below.refl _ _
      · have hother : (l[j].1.toList == m.toList) = false := str_other (fun e => heq (ByteArray.ext (Array.toList_inj.1 e)))
        have HN2 : Hid (∀ t (ht : t < l.length), t < j + 1 → l[t].1 ≠ m) := fun t ht h1 => by
          rcases Nat.lt_or_ge t j with h2 | h2
          · exact HNO.out t ht h2
          · have : t = j := by omega
            subst this; exact heq
        clear heq q2 q3
        generalize l[j].1 = X at *
        go_wp2
        go_roundw
        case rel => exact ⟨by trivial, j + 1, hlt, by simp, HN2.out⟩
        case measure => simp [intOf]; omega
    · have hz4 : ¬ (j : Int) < (l.length : Int) := by omega
      have HR : Hid (noM l m) := fun hm => by
        obtain ⟨x, hx, e⟩ := List.mem_map.1 hm
        obtain ⟨t, ht, rfl⟩ := List.mem_iff_getElem.1 hx
        exact HNO.out t ht (by omega) e
      clear hbw
      go_wp2
      go_returns
      refine ⟨Or.inl ⟨rfl, HR.out⟩, ?_⟩
      repeat (refine Below.alloc ?_ (by simp <;> omega) _)
      exact Below.refl _ _
end Go.Proofs.YtgbplghokciimaaDoor
namespace Go.Proofs.YtgbplghokciimaaDoor
open Go.RowKit
set_option linter.unusedVariables false
set_option maxHeartbeats 800000 in
set_option maxRecDepth 100000 in
theorem rNew_any (seed : Int) (w : World) : Calls Tryd.prog 19 #[.int .i64 seed] w fun e w' => e = .returned (bval seed (.slice none 0 0)) ∧ Below w.heap.size w w' := by
  go_enter Tryd.func19, Tryd.ntmps19
  go_wp2
  go_returns
  refine ⟨rfl, ?_⟩
  repeat (refine Below.alloc ?_ (by simp <;> omega) _)
  exact Below.refl _ _
end Go.Proofs.YtgbplghokciimaaDoor
namespace Go.Proofs.YtgbplghokciimaaDoor
open Go.RowKit
set_option linter.unusedVariables false
set_option maxHeartbeats 2000000 in
set_option maxRecDepth 100000 in
theorem rAt_no (seed : Int) (P : Option Addr) (n c : Nat) (i : Int) (back : Bool) (hi : i < 0 ∨ (n : Int) ≤ i) (w : World) : Calls Tryd.prog 48 #[bval seed (.slice P n c), .int .i64 i, .bool back] w fun e w' => e = .returned (.tuple #[.agg #[.string ⟨#[]⟩, .int .i64 0, .int .i64 0], .bool false]) ∧ Below w.heap.size w w' := by
  by_cases h0 : i < 0
  · go_enter Tryd.func48, Tryd.ntmps48
    go_wp2
    go_returns
    refine ⟨rfl, ?_⟩
    repeat (refine Below.alloc ?_ (by simp <;> omega) _)
    exact Below.refl _ _
  · have h1 : (n : Int) ≤ i := by omega
    go_enter Tryd.func48, Tryd.ntmps48
    go_wp2
    go_returns
    refine ⟨rfl, ?_⟩
    repeat (refine Below.alloc ?_ (by simp <;> omega) _)
    exact Below.refl _ _
set_option maxHeartbeats 2000000 in
set_option maxRecDepth 100000 in
theorem rAt_yes (Q : Nat → Prop) (seed : Int) (v : Value) (l : List En) (hl : l.length ≤ 1000000) (i : Nat) (hi : i < l.length) (back : Bool) (w : World) (h : ERow Q w v l) : Calls Tryd.prog 48 #[bval seed v, .int .i64 (i : Int), .bool back] w fun e w' => e = .returned (.tuple #[.agg #[.string ((turnE l back)[i]'(by rw [turnE_len]; exact hi)).1, .int .i64 ((turnE l back)[i]'(by rw [turnE_len]; exact hi)).2.1, .int .i64 ((turnE l back)[i]'(by rw [turnE_len]; exact hi)).2.2], .bool true]) ∧ Below w.heap.size w w' := by
  obtain ⟨P, c, rfl⟩ := h.form
  have h0 : ¬ (i : Int) < 0 := by omega
  have h1 : ¬ (l.length : Int) ≤ (i : Int) := by omega
  have h2 : (i : Int) < (l.length : Int) := by omega
  have h3 : (0 : Int) ≤ (i : Int) := by omega
  obtain ⟨W0, hW0⟩ : ∃ W0, W0 = (w.alloc (.cells #[.int .i64 seed, .slice P l.length c] 51)).alloc (.cells #[.string ⟨#[]⟩, .int .i64 0, .int .i64 0] 92) := ⟨_, rfl⟩
  have hb0 : Below w.heap.size w W0 := by
    rw [hW0]
    repeat (refine Below.alloc ?_ (by simp <;> omega) _)
    exact Below.refl _ _
  have hr0 : W0.heap[w.heap.size + 1]? = some (.cells #[.string ⟨#[]⟩, .int .i64 0, .int .i64 0] 92) := by
    rw [hW0]
    have := heap_alloc_new (w.alloc (.cells #[.int .i64 seed, .slice P l.length c] 51)) (.cells #[.string ⟨#[]⟩, .int .i64 0, .int .i64 0] 92)
    simpa using this
  have HT : Hid _ := rturned_any Q (.slice P l.length c) l (by omega) back W0 (h.on hb0)
  have HB0 : Hid _ := And.intro hb0 hr0
  have HLT : Hid (i < (turnE l back).length) := by rw [turnE_len]; exact hi
  obtain ⟨X, hX⟩ : ∃ X, (turnE l back)[i]'(by rw [turnE_len]; exact hi) = X := ⟨_, rfl⟩
  have HX : Hid ((turnE l back)[i]'HLT.out = X) := hX
  rw [hX]
  clear h hb0 hr0 hX
  go_enter Tryd.func48, Tryd.ntmps48
  go_wp2_with fail
  rw [← hW0]
  clear hW0
  refine (show Calls _ _ _ _ _ from HT.out).mono ?_
  rintro e w1 ⟨r1, rfl, ho1, hb1⟩
  have he1 : ERow (fun _ => True) w1 r1 (turnE l back) := ERow.own_of ho1 (turnE_len l back).symm (fun _ _ => trivial)
  obtain ⟨g, c', hf, p1, p2, p3⟩ := he1.cells HLT.out
  rw [turnE_len] at hf
  subst hf
  rw [HX.out] at p1 p2 p3
  have HB1 : Hid (Below w.heap.size w w1) := bel_to HB0.out.1 hb1 (Nat.le_refl _)
  have hr1 := keep_row HB0.out.2 hb1
  have HR1 : Hid _ := hr1
  obtain ⟨rb, hrb⟩ : ∃ rb, w.heap.size + 1 = rb := ⟨_, rfl⟩
  rw [hrb] at hr1 HR1 ⊢
  have HRB : Hid (w.heap.size ≤ rb) := by show _ ≤ _; omega
  have e0 : w1.cell? ⟨rb, 0, none⟩ = some (.string ⟨#[]⟩) := by rw [cell_of_row _ _ _ _ _ _ hr1]; rfl
  have e1 : w1.cell? ⟨rb, 1, none⟩ = some (.int .i64 0) := by rw [cell_of_row _ _ _ _ _ _ hr1]; rfl
  have e2 : w1.cell? ⟨rb, 2, none⟩ = some (.int .i64 0) := by rw [cell_of_row _ _ _ _ _ _ hr1]; rfl
  have ef : ∀ j, w1.frozen? ⟨rb, j, none⟩ = false := fun j => frozen_of_row _ _ _ _ _ hr1
  clear ho1 hb1 he1 hr1 hrb
  go_wp2
  obtain ⟨W5, hW5⟩ : ∃ W5, W5 = ((w1.setCell ⟨rb, 0, none⟩ (.string X.1)).setCell ⟨rb, 1, none⟩ (.int .i64 X.2.1)).setCell ⟨rb, 2, none⟩ (.int .i64 X.2.2) := ⟨_, rfl⟩
  have hr5 : W5.heap[rb]? = some (.cells #[.string X.1, .int .i64 X.2.1, .int .i64 X.2.2] 92) := by
    rw [hW5, heap_setCell_same _ _ _ _ _ _ (heap_setCell_same _ _ _ _ _ _ (heap_setCell_same _ _ _ _ _ _ HR1.out))]
    rfl
  have hon : Only w1 W5 rb := by rw [hW5]; exact (((Only.refl w1 rb).set 0 _).set 1 _).set 2 _
  have hb5 : Below w.heap.size w W5 := HB1.out.trans (hon.below HRB.out)
  rw [← hW5]
  have g0 : W5.cell? ⟨rb, 0, none⟩ = some (.string X.1) := by rw [cell_of_row _ _ _ _ _ _ hr5]; rfl
  have g1 : W5.cell? ⟨rb, 1, none⟩ = some (.int .i64 X.2.1) := by rw [cell_of_row _ _ _ _ _ _ hr5]; rfl
  have g2 : W5.cell? ⟨rb, 2, none⟩ = some (.int .i64 X.2.2) := by rw [cell_of_row _ _ _ _ _ _ hr5]; rfl
  exact bodyPost_ret (v := .tuple #[.agg #[.string X.1, .int .i64 X.2.1, .int .i64 X.2.2], .bool true]) (by simp [results, Tryd.results48, go_sem, g0, g1, g2]) rfl ⟨rfl, hb5⟩
end Go.Proofs.YtgbplghokciimaaDoor
