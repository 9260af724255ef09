import Derived.Test.YtlheilkofibogaaGreatQAI
namespace Go.Proofs.YtlheilkofibogaaGreat
open Go.RowKit
set_option linter.unusedVariables false
set_option linter.unusedSimpArgs false
def nilV : FV := ⟨.slice none 0 0, .slice none 0 0, .slice none 0 0, .slice none 0 0, .slice none 0 0, .slice none 0 0⟩
theorem nilAt (w : World) : FsAt newM nilV w := ⟨KR.nil, KR.nil, KR.nil, KR.nil, KR.nil, KR.nil⟩
set_option maxHeartbeats 2000000 in
set_option maxRecDepth 20000 in
theorem new_any (w : World) : Calls Tryz.prog 6 #[] w fun e w' => e = .returned (.agg (fsC newM nilV)) ∧ Below w.heap.size w w' := by
  obtain ⟨Z, hZ⟩ : ∃ Z, Z = zF := ⟨_, rfl⟩
  have HZZ : Hid (Z = zF) := hZ
  have HZS : Hid (Z.size = 9) := by show _ = _; rw [hZ]; rfl
  clear hZ
  obtain ⟨W1, hW1⟩ : ∃ W1, W1 = w.alloc (.cells Z 31) := ⟨_, rfl⟩
  have HB1 : Hid (Below w.heap.size w W1) := by show Below _ _ _; rw [hW1]; exact (Below.refl _ _).alloc (Nat.le_refl _) _
  have HR1 : Hid (W1.heap[w.heap.size]? = some (.cells Z 31)) := by show _ = _; rw [hW1]; exact one_alloc _ _
  obtain ⟨r, hr⟩ : ∃ r, w.heap.size = r := ⟨_, rfl⟩
  have HRR : Hid (w.heap.size = r) := hr
  rw [hr] at HR1
  clear hr
  go_enter Tryz.func6, Tryz.ntmps6
  go_upto_region 1 with (refine alF rfl rfl Z HZZ.out ?_)
  rw [← hW1, HRR.out]
  clear hW1
  have H1 : Hid ((fsC newM nilV).all (·.oneCell') = true) := fsC_one (nilAt W1)
  go_wp2_with (refine stF rfl _ _ rfl r (fsC newM nilV) Z rfl rfl rfl H1.out HZS.out HR1.out ?_; intro W7 hr7 hm7)
  have hlv := run_loadVar_mid (P := Tryz.prog) W7 r 0 31 (fsC newM nilV).toList _ (fun j v hv => by rw [cell_of_row _ _ _ _ _ _ hr7]; simpa using hv) Tryz.underlying31 rfl (by rw [Array.length_toList, fsC_size]; exact i31)
  rw [Array.toArray_toList] at hlv
  refine bodyPost_ret (v := .agg (fsC newM nilV)) (by simp [results, Tryz.results6, asAddr, Act.put, hlv, Result.andThen]) rfl ?_
  exact ⟨rfl, HB1.out.trans (hm7.below (by have := HRR.out; omega) HB1.out.size)⟩
end Go.Proofs.YtlheilkofibogaaGreat
namespace Go.Proofs.YtlheilkofibogaaGreat
open Go.RowKit
set_option linter.unusedVariables false
set_option linter.unusedSimpArgs false
theorem r_take_next {α : Type} {l m : List α} {j : Nat} (h : l.take j = m.take j) (h1 : j < l.length) (h2 : j < m.length) (he : l[j] = m[j]) : l.take (j + 1) = m.take (j + 1) := by
  rw [← List.take_append_getElem h1, ← List.take_append_getElem h2, h, he]
set_option maxHeartbeats 2000000 in
set_option maxRecDepth 20000 in
theorem sameTexts_any (va vb : Value) (l m : List ByteArray) (hl : l.length ≤ 4611686018427387000) (w : World) (ha : KR stE w va l) (hb : KR stE w vb m) : Calls Tryz.prog 29 #[va, vb] w fun e w' => e = .returned (.bool (decide (l = m))) ∧ Below w.heap.size w w' := by
  obtain ⟨Pa, ka, hva⟩ := ha.form
  obtain ⟨Pb, kb, hvb⟩ := hb.form
  subst hva hvb
  have HA : Hid (KR stE w (.slice Pa l.length ka) l) := ha
  have HB : Hid (KR stE w (.slice Pb m.length kb) m) := hb
  have HL : Hid (l.length ≤ 4611686018427387000) := hl
  clear ha hb hl
  by_cases hlen : l.length = m.length
  · have HLE : Hid (l.length = m.length) := hlen
    have hli : (l.length : Int) = (m.length : Int) := by omega
    clear hlen
    go_enter Tryz.func29, Tryz.ntmps29
    go_wp2
    clear hli
    go_loopw [5] (fun ci wx => ∃ j : Nat, j ≤ l.length ∧ ci = .int .i64 (j : Int) ∧ l.take j = m.take j ∧ Below w.heap.size w wx) (fun ci _ => l.length - (intOf ci).toNat)
    case atStart => exact ⟨0, Nat.zero_le _, rfl, rfl, Below.refl _ _⟩
    case round =>
      obtain ⟨j, hj, rfl, hta, hbx⟩ := hrel
      have HBX : Hid (Below w.heap.size w wr) := hbx
      by_cases hlt : j < l.length
      · have hlm : j < m.length := by have := HLE.out; omega
        obtain ⟨ga, oa, ca, hea, hca⟩ := HA.out.cell stOk hlt
        injection hea with h1 _ h2
        subst h1
        obtain ⟨gb, ob, cb, heb, hcb⟩ := HB.out.cell stOk hlm
        injection heb with h3 _ h4
        subst h3
        have hnx := r_take_next hta hlt hlm
        have hto : l[j]'hlt ≠ m[j]'hlm → l ≠ m := fun h e => h (by subst e; rfl)
        obtain ⟨X, hX⟩ : ∃ X, l[j]'hlt = X := ⟨_, rfl⟩
        obtain ⟨Y, hY⟩ : ∃ Y, m[j]'hlm = Y := ⟨_, rfl⟩
        rw [hX] at hca
        rw [hY] at hcb
        rw [hX, hY] at hnx hto
        have HC0 : Hid (w.cell? ⟨ga, oa + j, none⟩ = some (.string X)) := by have := hca 0 (.string X) rfl; show _ = _; simpa [stE] using this
        have HC1 : Hid (w.cell? ⟨gb, ob + j, none⟩ = some (.string Y)) := by have := hcb 0 (.string Y) rfl; show _ = _; simpa [stE] using this
        have HNX : Hid (X = Y → l.take (j + 1) = m.take (j + 1)) := hnx
        have HTO : Hid (X ≠ Y → l ≠ m) := hto
        have hz0 : (0 : Int) ≤ (j : Int) := by omega
        have hz1 : (j : Int) < (l.length : Int) := by omega
        have hz2 : (j : Int) < (m.length : Int) := by omega
        have hll := HL.out
        have HIW : Hid (IntKind.i64.wrap ((j : Int) + 1) = (j : Int) + 1) := by show _ = _; rw [IntKind.wrap_i64] <;> omega
        have HI : Hid (j + 1 ≤ l.length) := hlt
        clear hta hbx hca hcb hnx hto hX hY h2 h4 hll hlm
        go_upto_region 6 with fail
        have hcur : Below w.heap.size w wr.drew := HBX.out.trans (Below.refl _ wr).drew
        have HKS : Hid (∀ W, Below w.heap.size w W → (W.cell? ⟨ga, oa + j, none⟩ = some (.string X) ∧ W.cell? ⟨gb, ob + j, none⟩ = some (.string Y))) := fun W hW => ⟨cell_on HC0.out hW, cell_on HC1.out hW⟩
        have HBD : Hid (Below w.heap.size w wr.drew) := hcur
        by_cases hxy : X = Y
        · have hxt : (X.toList == Y.toList) = true := str_same (by rw [hxy])
          go_region_held3 (fun W : World => W.cell? ⟨ga, oa + j, none⟩ = some (.string X) ∧ W.cell? ⟨gb, ob + j, none⟩ = some (.string Y)) (exact HKS.out _ hcur) (fail)
          have hiw := HIW.out
          have HTN : Hid (l.take (j + 1) = m.take (j + 1)) := HNX.out hxy
          clear hcur
          generalize wr.drew = WD at *
          go_wp2
          go_roundw
          case rel => exact ⟨j + 1, HI.out, rfl, HTN.out, HBD.out⟩
          case measure => have := HI.out; simp [intOf]; omega
        · have hxf : (X.toList == Y.toList) = false := str_other (r_ba_ne hxy)
          go_region_held3 (fun W : World => W.cell? ⟨ga, oa + j, none⟩ = some (.string X) ∧ W.cell? ⟨gb, ob + j, none⟩ = some (.string Y)) (exact HKS.out _ hcur) (fail)
          have HNE : Hid (decide (l = m) = false) := decide_eq_false (HTO.out hxy)
          clear hcur
          generalize wr.drew = WD at *
          go_wp2
          go_ret
          exact ⟨by rw [HNE.out]; rfl, HBD.out⟩
      · have he : j = l.length := by omega
        have HEQ : Hid (decide (l = m) = true) := decide_eq_true (by rw [he, List.take_length, HLE.out, List.take_length] at hta; exact hta)
        subst he
        clear hlt hta hbx
        go_wp2
        go_ret
        exact ⟨by rw [HEQ.out]; rfl, HBX.out⟩
  · have HNE : Hid (decide (l = m) = false) := decide_eq_false (fun e => hlen (by rw [e]))
    have hli : ¬ (l.length : Int) = (m.length : Int) := by omega
    go_enter Tryz.func29, Tryz.ntmps29
    go_wp2
    go_ret
    exact ⟨by rw [HNE.out]; rfl, Below.refl _ _⟩
end Go.Proofs.YtlheilkofibogaaGreat
