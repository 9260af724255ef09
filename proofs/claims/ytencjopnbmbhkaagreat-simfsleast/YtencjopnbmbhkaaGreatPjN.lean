import Derived.Test.YtencjopnbmbhkaaGreatPjM
namespace Go.Proofs.YtencjopnbmbhkaaGreat
open Go.RowKit Go.Maps
set_option linter.unusedVariables false
set_option linter.unusedSimpArgs false
def zeroQ (k : Nat) : List Value := (Builtin.zeroCells #[.int .i64 0, .bool false, .nilFunc] k).toList
theorem zeroQ_len (k : Nat) : (zeroQ k).length = k * 3 := by unfold zeroQ; simp [Builtin.zeroCells]
theorem zeroQ_one (k : Nat) : ∀ v ∈ zeroQ k, v.oneCell' = true := by
  intro v hv
  unfold zeroQ Builtin.zeroCells at hv
  simp at hv
  obtain ⟨i, _, rfl⟩ := hv
  have h3 : i % 3 = 0 ∨ i % 3 = 1 ∨ i % 3 = 2 := by omega
  rcases h3 with h | h | h <;> rw [h] <;> rfl
theorem run_clrQ (E o k c : Nat) (ty : TypeId) (W : World) (cur : Array Value) (hE : W.heap[E]? = some (.cells cur 81)) (ho : o + k * 3 ≤ cur.size) :
    Sem.run Tryz.prog (Builtin.clear_ #[58] ty #[.slice (some ⟨E, o, none⟩) k c]) W = .ok (.tuple #[]) (W.setCells E o (zeroQ k)) := by
  obtain ⟨i0, hi, hz0, hz1, hz2⟩ := info_parts infoP
  have hst := run_storeCells_cells (P := Tryz.prog) E o (zeroQ k) 0 W (fun j hj => by rw [zeroQ_len] at hj; rw [cell_of_row _ _ _ _ _ _ hE, Array.getElem?_eq_getElem (by omega)]; rfl) (fun j hj => frozen_of_row _ _ _ _ _ hE) (zeroQ_one _)
  simp only [Nat.add_zero] at hst
  cases k with
  | zero =>
    have hz : zeroQ 0 = [] := by unfold zeroQ Builtin.zeroCells; simp
    rw [hz]
    simp only [Builtin.clear_]
    simp [go_sem]
    rfl
  | succ k =>
    unfold zeroQ at hst ⊢
    simp only [Builtin.clear_]
    simp [go_sem]
    rw [hst]
    rfl
set_option maxHeartbeats 2000000 in
set_option maxRecDepth 100000 in
theorem deleteQ_any (E o c : Nat) (l : List Pq) (hl : l.length ≤ 2199023255552) (w : World) (hB : PX w E o c l) :
    Calls Tryz.prog 39 #[.slice (some ⟨E, o * 3, none⟩) l.length c, .func (.func 40) #[] #[]] w fun e w' => e = .returned (.slice (some ⟨E, o * 3, none⟩) (l.filter okQ).length c) ∧ ModP (fun k => k = E) w w' ∧ PX w' E o c (l.filter okQ) := by
  have HB : Hid (PX w E o c l) := hB
  have HI : Hid _ := indexQ_any _ l hl w hB.prow.kr
  have hle := hB.le
  have hmx := hB.max
  have HEC := eM_cr1
  clear hB
  go_enter Tryz.func39, Tryz.ntmps39
  go_wp2_with fail
  refine (show Calls _ _ _ _ _ from HI.out).mono ?_
  rintro e w1 ⟨hb1, ⟨i, hi, rfl, hlo, hat⟩ | ⟨rfl, hall⟩⟩
  · have HB1 : Hid (Below w.heap.size w w1) := hb1
    have HINI : Hid (DI w1 E o c l i (i + 1)) := DI.ini (HB.out.on hb1) hi hlo hat
    have hm1 : ¬ ((i : Int) = -1) := by omega
    clear hb1 hlo hat
    go_wp2
    go_loopw [5, 6, 7] (fun ci cj _ wr => ∃ i j : Nat, i < j ∧ j ≤ l.length ∧ ci = .int .i64 (i : Int) ∧ cj = .int .i64 (j : Int) ∧ DI wr E o c l i j ∧ ModP (fun k => k = E) w wr) (fun _ cj _ _ => l.length - (intOf cj).toNat)
    case atStart => exact ⟨i, i + 1, by omega, by omega, rfl, by first | rfl | congr 1, HINI.out, ModP.below HB1.out⟩
    case round =>
      clear HINI HB1 hm1 hi
      obtain ⟨i, j, hij, hj, rfl, rfl, hD, hG⟩ := hrel
      have HD : Hid (DI wr E o c l i j) := hD
      have HG : Hid (ModP (fun k => k = E) w wr) := hG
      obtain ⟨cur, r1, r2, r3, r5⟩ := hD.row
      have HN : Hid _ := hD.num
      by_cases hlt : j < l.length
      · have x0 : wr.cell? ⟨E, o * 3 + j * 3, none⟩ = some (.int .i64 (l[j].s : Int)) := by rw [cell_of_row _ _ _ _ _ _ r1]; exact r5 j hlt (Nat.le_refl _) 0 _ rfl
        have x1 : wr.cell? ⟨E, o * 3 + j * 3 + 1, none⟩ = some (.bool l[j].c) := by rw [cell_of_row _ _ _ _ _ _ r1, Nat.add_assoc]; exact r5 j hlt (Nat.le_refl _) 1 _ rfl
        have x2 : wr.cell? ⟨E, o * 3 + j * 3 + 2, none⟩ = some (meetV l[j]) := by rw [cell_of_row _ _ _ _ _ _ r1, Nat.add_assoc]; exact r5 j hlt (Nat.le_refl _) 2 _ rfl
        have hEl : E < wr.heap.size := row_lt r1
        have hz0 : (0 : Int) ≤ (j : Int) := by omega
        have hz1 : (j : Int) < (l.length : Int) := by omega
        have hzi : (0 : Int) ≤ (i : Int) := by omega
        have hzn : (i : Int) < (l.length : Int) := by omega
        have hjw : IntKind.i64.wrap ((j : Int) + 1) = (j : Int) + 1 := by rw [IntKind.wrap_i64] <;> omega
        have hiw : IntKind.i64.wrap ((i : Int) + 1) = (i : Int) + 1 := by rw [IntKind.wrap_i64] <;> omega
        have HEI : Hid (∀ W, Calls Tryz.prog 40 #[.agg #[.int .i64 (l[j].s : Int), .bool l[j].c, meetV l[j]]] W fun e w' => e = .returned (.bool l[j].c) ∧ Below W.heap.size W w') := fun W => Crash1_any l[j] W
        have HO : Hid (okQ l[j] = !l[j].c) := rfl
        have HM1 : Hid ((meetV l[j]).oneCell' = true) := rfl
        have HPUT : Hid (∀ W', W'.heap[E]? = some (.cells (spl cur (o * 3 + i * 3) [.int .i64 (l[j].s : Int), .bool l[j].c, meetV l[j]]) 81) → okQ l[j] = !false → DI W' E o c l (i + 1) (j + 1)) := fun W' hW ho => DI.put (W := wr) r2 hle r3 r5 HN.out hlt hij ho hW
        have HR1 : Hid (wr.heap[E]? = some (.cells cur 81)) := r1
        obtain ⟨b, hbb⟩ : ∃ b, l[j].c = b := ⟨_, rfl⟩
        obtain ⟨ys, hys⟩ : ∃ ys, l[j].s = ys := ⟨_, rfl⟩
        obtain ⟨mv, hmv⟩ : ∃ mv, meetV l[j] = mv := ⟨_, rfl⟩
        rw [hbb] at HO x1
        rw [hys] at x0
        rw [hmv] at x2 HM1
        rw [hbb, hys, hmv] at HEI HPUT
        clear hD hG hbb hys hmv r1 r3 r5
        go_upto_region 8 with (first
          | (refine ldP E (o * 3 + j * 3) (.int .i64 (ys : Int)) (.bool b) mv _ rfl rfl rfl x0 x1 x2 ?_)
          | (refine stP rfl _ _ rfl wr.heap.size 0 (.int .i64 (ys : Int)) (.bool b) mv #[.int .i64 0, .bool false, .nilFunc] rfl rfl ⟨rfl, rfl, HM1.out⟩ (one_alloc _ _) (by simp) ?_; intro W2 hr2 ho2))
        have hv2 : W2.heap[wr.heap.size]? = some (.cells #[.int .i64 (ys : Int), .bool b, mv] 81) := hr2
        have hb2 : Below wr.heap.size wr W2 := ((Below.refl _ wr).alloc (Nat.le_refl _) _).trans (ho2.below (Nat.le_refl _))
        have HV2 : Hid _ := hv2
        have HB2 : Hid (Below wr.heap.size wr W2) := hb2
        obtain ⟨y0, y1, y2, _⟩ := row3 hv2
        clear hr2 ho2 x0 x1 x2 hv2 hb2
        go_wp2_with fail
        refine (show Calls _ _ _ _ _ from HEI.out _).mono ?_
        rintro e w3 ⟨rfl, hb3⟩
        have hv3 := (hb3.block _ (row_lt HV2.out)).trans HV2.out
        have HB3 : Hid (Below wr.heap.size wr w3) := bel_to HB2.out hb3 (Nat.le_refl _)
        obtain ⟨v0, v1, v2, _⟩ := row3 hv3
        clear hb3 y0 y1 y2 hv3
        cases b with
        | true =>
          have HR : Hid (DI w3 E o c l i (j + 1)) := (HD.out.on HB3.out).skip hlt HO.out
          have HG2 : Hid (ModP (fun k => k = E) w w3) := HG.out.trans (ModP.below HB3.out)
          go_wp2
          go_roundw
          case rel => first | exact ⟨i, j + 1, by omega, by omega, rfl, by first | rfl | congr 1, HR.out, HG2.out⟩ | exact ⟨_, _, _, _, _, _, _, _, _, _, _, _, _, _, _, _, _, _, _, _, _, _, _, ⟨i, j + 1, by omega, by omega, rfl, by first | rfl | congr 1, HR.out, HG2.out⟩, rfl⟩
          case measure => simp [intOf]; omega
        | false =>
          have HR3 : Hid (w3.heap[E]? = some (.cells cur 81)) := (HB3.out.block E hEl).trans HR1.out
          go_wp2_with (refine stP rfl _ _ rfl E (o * 3 + i * 3) (.int .i64 (ys : Int)) (.bool false) mv cur rfl rfl ⟨rfl, rfl, HM1.out⟩ HR3.out (by omega) ?_; intro W4 hr4 ho4)
          have HR : Hid (DI W4 E o c l (i + 1) (j + 1)) := HPUT.out W4 hr4 HO.out
          have HG2 : Hid (ModP (fun k => k = E) w W4) := (HG.out.trans (ModP.below HB3.out)).trans (ModP.only ho4 rfl)
          go_roundw
          case rel => first | exact ⟨i + 1, j + 1, by omega, by omega, by first | rfl | congr 1, by first | rfl | congr 1, HR.out, HG2.out⟩ | exact ⟨_, _, _, _, _, _, _, _, _, _, _, _, _, _, _, _, _, _, _, _, _, _, _, ⟨i + 1, j + 1, by omega, by omega, by first | rfl | congr 1, by first | rfl | congr 1, HR.out, HG2.out⟩, rfl⟩
          case measure => simp [intOf]; omega
      · have he : j = l.length := by omega
        subst he
        rw [List.take_length] at r3
        have r4 : i = (l.filter okQ).length := by have := HN.out; rw [List.take_length] at this; exact this
        obtain ⟨k, hk⟩ : ∃ k, l.length - i = k := ⟨_, rfl⟩
        have hcl : ∀ ty cc, Sem.run Tryz.prog (Builtin.clear_ #[58] ty #[.slice (some ⟨E, o * 3 + i * 3, none⟩) k cc]) wr = .ok (.tuple #[]) (wr.setCells E (o * 3 + i * 3) (zeroQ k)) := fun ty cc => run_clrQ E (o * 3 + i * 3) k cc ty wr cur r1 (by omega)
        have hzl := zeroQ_len k
        have hzz : (o * 3 + i * 3) + (zeroQ k).length ≤ cur.size := by omega
        have HR : Hid (PX (wr.setCells E (o * 3 + i * 3) (zeroQ k)) E o c (l.filter okQ)) := by
          refine ⟨⟨_, heap_cells E _ (zeroQ k) (o * 3 + i * 3) wr cur r1 hzz, by rw [spl_size _ _ _ hzz]; exact r2, fun t u hu => ?_⟩, by omega, hmx⟩
          have hl' := (List.getElem?_eq_some_iff.1 hu).1
          rw [flq_len, ← r4] at hl'
          rw [spl_get _ _ _ _ hzz, if_pos (by omega)]
          exact r3 t u hu
        have HG2 : Hid (ModP (fun k => k = E) w (wr.setCells E (o * 3 + i * 3) (zeroQ k))) := HG.out.trans (ModP.only (grown_only E _ _ wr) rfl)
        have HI4 : Hid (i = (l.filter okQ).length) := r4
        have hci : ¬ (c = i) := by omega
        have hic : (i : Int) ≤ (c : Int) := by omega
        have hin : (i : Int) ≤ (l.length : Int) := by omega
        clear r1 r2 r3 r4 r5 hG hD hzl hzz
        go_wp2
        go_returns
        exact ⟨by rw [← HI4.out]; rfl, HG2.out, HR.out⟩
  · have hf : l.filter okQ = l := List.filter_eq_self.2 (fun x hx => by obtain ⟨t, ht, rfl⟩ := List.getElem_of_mem hx; exact hall t ht)
    have HF : Hid _ := hf
    have HG : Hid (ModP (fun k => k = E) w w1 ∧ PX w1 E o c l) := ⟨ModP.below hb1, HB.out.on hb1⟩
    clear hb1 hall hf
    go_wp2
    go_returns
    rw [HF.out]
    exact ⟨rfl, HG.out⟩
end Go.Proofs.YtencjopnbmbhkaaGreat
