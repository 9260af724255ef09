import Derived.Test.YtnfbaeajalnmmaaGreatDoorRB
import Derived.Test.YtnfbaeajalnmmaaGreatDoorGH
import Derived.Test.YtnfbaeajalnmmaaGreatDoorFdZ
import Derived.Test.YtnfbaeajalnmmaaGreatDoorGJ
import Derived.Test.YtnfbaeajalnmmaaGreatDoorRNm
namespace Go.Proofs.YtnfbaeajalnmmaaGreatDoor
open Go.RowKit
set_option linter.unusedVariables false
set_option maxHeartbeats 1000000 in
set_option maxRecDepth 100000 in
theorem same_any (va vb : Value) (xs ys : List ByteArray) (ha : xs.length ≤ 70368744177664) (hb : ys.length ≤ 70368744177664) (w : World) (hA : SRow w va xs) (hB : SRow w vb ys) :
    Calls Tryz.prog 14 #[va, vb] w fun e w' => (∃ b, e = .returned (.bool b) ∧ (b = true ↔ xs = ys)) ∧ ∃ k, w' = w.drewN k := by
  obtain ⟨P, c, rfl⟩ := hA.form
  obtain ⟨P', c', rfl⟩ := hB.form
  have HA : Hid (SRow w (.slice P xs.length c) xs) := hA
  have HB : Hid (SRow w (.slice P' ys.length c') ys) := hB
  clear hA hB
  by_cases hl : xs.length = ys.length
  · have HL : Hid (xs.length = ys.length) := hl
    have hll : ((xs.length : Int) == (ys.length : Int)) = true := by simp [hl]
    rw [← hl]
    rw [← hl] at HB
    clear hl hb hll
    go_enter Tryz.func14, Tryz.ntmps14
    go_wp2
    go_loopw [5] (fun ci wr => (∃ k, wr = w.drewN k) ∧ ∃ i : Nat, i ≤ xs.length ∧ ci = .int .i64 (i : Int) ∧ ∀ j (h : j < xs.length) (h' : j < ys.length), j < i → xs[j] = ys[j]) (fun ci _ => xs.length - (intOf ci).toNat)
    case atStart => exact ⟨⟨0, rfl⟩, 0, by omega, rfl, fun j _ _ h => absurd h (by omega)⟩
    case round =>
      obtain ⟨⟨kk, hwr⟩, i, hi, rfl, hall⟩ := hrel
      have HWR : Hid (wr = w.drewN kk) := hwr
      have HALL : Hid _ := hall
      clear hall
      by_cases hlt : i < xs.length
      · obtain ⟨g, o, hP, hc1⟩ := (show SRow wr _ _ by rw [hwr]; exact HA.out).cell i hlt
        obtain ⟨g', o', hP', hc2⟩ := (show SRow wr _ _ by rw [hwr]; exact HB.out).cell i (by rw [← HL.out]; exact hlt)
        have hz0 : (0 : Int) ≤ (i : Int) := by omega
        have hz1 : (i : Int) < (xs.length : Int) := by omega
        clear hwr
        subst hP; subst hP'
        obtain ⟨X, hX⟩ : ∃ X, xs[i] = X := ⟨_, rfl⟩
        obtain ⟨Y, hY⟩ : ∃ Y, ys[i]'(by rw [← HL.out]; exact hlt) = Y := ⟨_, rfl⟩
        rw [hX] at hc1
        rw [hY] at hc2
        have HX : Hid _ := hX
        have HY : Hid _ := hY
        clear hX hY
        by_cases hxy : X = Y
        · have hxt : (X.toList == Y.toList) = true := str_same (by rw [hxy])
          have HXY : Hid _ := hxy
          clear hxy
          go_wp2
          go_quiet (fail)
          go_wp2
          go_roundw
          case rel =>
            refine ⟨⟨kk + nq, by rw [HWR.out, World.drewN_drewN]⟩, i + 1, hlt, rfl, fun j h h' hji => ?_⟩
            rcases Nat.lt_succ_iff_lt_or_eq.1 hji with h2 | rfl
            · exact HALL.out j h h' h2
            · exact HX.out.trans (HXY.out.trans HY.out.symm)
          case measure => simp [intOf]; omega
        · have hxf : (X.toList == Y.toList) = false := str_other (fun h => hxy (bytes_ext h))
          have HNE : Hid (¬ xs = ys) := fun h => hxy (by rw [← HX.out, ← HY.out]; simp only [h])
          clear hxy
          go_wp2
          go_quiet (fail)
          go_wp2
          go_ret
          exact ⟨⟨false, rfl, by simpa using HNE.out⟩, kk + nq, by rw [HWR.out, World.drewN_drewN]⟩
      · have he : i = xs.length := by omega
        have HEQ : Hid (xs = ys) := List.ext_getElem HL.out (fun j h1 h2 => HALL.out j h1 h2 (by omega))
        subst he
        clear hwr
        go_wp2
        go_ret
        exact ⟨⟨true, rfl, by simpa using HEQ.out⟩, kk, HWR.out⟩
  · have hlf : ((xs.length : Int) == (ys.length : Int)) = false := by simp; omega
    have HNE : Hid (¬ xs = ys) := fun h => hl (by rw [h])
    have hne : ¬ (xs.length : Int) = (ys.length : Int) := by omega
    clear hl
    obtain ⟨na, hna⟩ : ∃ na : Int, (xs.length : Int) = na := ⟨_, rfl⟩
    go_enter Tryz.func14, Tryz.ntmps14
    go_wp2
    go_ret
    exact ⟨⟨false, rfl, by simpa using HNE.out⟩, 0, rfl⟩
end Go.Proofs.YtnfbaeajalnmmaaGreatDoor
namespace Go.Proofs.YtnfbaeajalnmmaaGreatDoor
open Go.RowKit
set_option linter.unusedVariables false
set_option linter.unusedSimpArgs false
theorem own_srow {W : World} {b n : Nat} {v : Value} {out : List SP.Bs} (h : W.ownsRow b 9 1 v n (strS out)) (hn : out.length = n) : SRow W v (out.map strB) := by
  obtain ⟨hl, ⟨rfl, h0⟩ | ⟨g, cap, cur, rfl, hb, hr, hc, hm, hs, ht⟩⟩ := h
  · left
    have : out = [] := List.eq_nil_of_length_eq_zero (by omega)
    subst this
    exact ⟨rfl, none, 0, rfl⟩
  · right
    refine ⟨g, 0, cap, by rw [List.length_map, hn], fun j hj => ?_⟩
    rw [List.length_map] at hj
    rw [Nat.zero_add, cell_of_row _ _ _ _ _ _ hr]
    have h1 : (cur.toList.take (n * 1))[j]? = cur.toList[j]? := by rw [List.getElem?_take]; rw [if_pos (by omega)]
    rw [ht] at h1
    rw [← Array.getElem?_toList, ← h1]
    unfold strS
    rw [List.getElem?_map, List.getElem?_eq_getElem hj]
    simp
end Go.Proofs.YtnfbaeajalnmmaaGreatDoor
namespace Go.Proofs.YtnfbaeajalnmmaaGreatDoor
open Go.RowKit Vi
set_option linter.unusedVariables false
set_option linter.unusedSimpArgs false
def wkS1 : SP.Bs := [42, 50, 13, 10, 36, 51, 13, 10, 71, 69]
def wkS2 : SP.Bs := [84, 13, 10, 36, 49, 13, 10, 97, 13, 10, 80, 73, 78, 71, 32, 120, 13, 10]
theorem wk1 : FX (some []) wkS1 = ([], some wkS1) := by kernel_rfl
theorem wk2 : FX (some wkS1) wkS2 = ([⟨[[71, 69, 84], [97]], []⟩, ⟨[[80, 73, 78, 71], [120]], []⟩], some []) := by kernel_rfl
theorem wk_pnd : Pnd (some wkS1) := by have := FX_pnd (some []) wkS1; rw [wk1] at this; exact this
theorem map_nil {E : List (Value × Rq)} (h : E.map (·.2) = []) : E = [] := List.map_eq_nil_iff.1 h
theorem map_two {E : List (Value × Rq)} {r1 r2 : Rq} (h : E.map (·.2) = [r1, r2]) : ∃ a1 a2, E = [(a1, r1), (a2, r2)] := by
  match E, h with
  | [x, y], h =>
    simp at h
    exact ⟨x.1, y.1, by rw [← h.1, ← h.2]⟩
theorem row_two {B b0 : Nat} {W : World} {P : Option Addr} {c : Nat} {a1 a2 : Value} {r1 r2 : Rq} (h : RLs B b0 W (.slice P 2 c) [(a1, r1), (a2, r2)]) : ∃ g, P = some ⟨g, 0, none⟩ ∧ W.cell? ⟨g, 0, none⟩ = some a1 ∧ W.cell? ⟨g, 2, none⟩ = some a2 := by
  have hr := h.row
  rcases hr.2 with ⟨_, h0⟩ | ⟨g, cap, cur, e, _⟩
  · exact absurd h0 (by simp)
  · injection e with e1 e2 e3
    subst e1
    refine ⟨g, rfl, ?_, ?_⟩
    · have := hr.cells (g := g) rfl 0 a1 rfl; simpa [Addr.add] using this
    · have := hr.cells (g := g) rfl 2 a2 rfl; simpa [Addr.add] using this
theorem srow_new (w : World) (x y : ByteArray) : SRow (w.alloc (.cells #[.string x, .string y] 9)) (.slice (some ⟨w.heap.size, 0, none⟩) 2 2) [x, y] := by
  refine Or.inr ⟨w.heap.size, 0, 2, rfl, fun j hj => ?_⟩
  have hr : (w.alloc (.cells #[.string x, .string y] 9)).heap[w.heap.size]? = some (.cells #[.string x, .string y] 9) := one_alloc _ _
  rw [cell_of_row _ _ _ _ _ _ hr]
  match j, hj with
  | 0, _ => rfl
  | 1, _ => rfl
set_option maxRecDepth 20000 in
set_option maxHeartbeats 4000000 in
theorem works_any (w : World) (hL : Laid w) : Calls Tryz.prog 6 #[] w fun e w' => e = .returned (.bool true) ∧ Below w.heap.size w w' := by
  have HL : Hid (Laid w) := hL
  have HNW : Hid _ := New_any w
  obtain ⟨q, hq⟩ : ∃ q, w.heap.size = q := ⟨_, rfl⟩
  have HQ : Hid (w.heap.size = q) := hq
  rw [hq] at HNW ⊢
  clear hL hq
  go_enter Tryz.func6, Tryz.ntmps6
  go_wp2_with fail
  refine (show Calls _ _ _ _ _ from HNW.out).mono ?_
  rintro e w1 ⟨rfl, hr1, hb1⟩
  have HB1 : Hid (Below q w w1) := hb1
  have HP1 : Hid (PA q w1 q (.slice none 0 0) (.slice none 0 0) (stP (some []))) := ⟨hr1, ⟨rfl, Or.inl ⟨rfl, rfl⟩⟩, ⟨rfl, Or.inl ⟨rfl, rfl⟩⟩, Nat.le_refl _⟩
  have HF1 : Hid _ := Feed_any q q _ _ (some []) ⟨#[42, 50, 13, 10, 36, 51, 13, 10, 71, 69]⟩ (by decide) pnd_nil (fun P hP => by injection hP with hP; subst hP; simp) w1 HP1.out (fun W hW => HL.out.on (HQ.out ▸ HB1.out.trans hW))
  clear hr1 hb1
  go_wp2_with fail
  refine (show Calls _ _ _ _ _ from HF1.out).mono ?_
  rintro e w2 ⟨pv2, wv2, P2, c2, E2, hfi2, hm2, rfl⟩
  rw [show FX (some []) (ByteArray.mk #[42, 50, 13, 10, 36, 51, 13, 10, 71, 69]).data.toList = ([], some wkS1) from wk1] at hfi2 hm2
  have hE2 := map_nil hm2
  subst hE2
  have HFI2 : Hid _ := hfi2
  have HB2 : Hid (Below q w w2) := HB1.out.trans (hfi2.mv.below HP1.out)
  have HF2 : Hid _ := Feed_any q q _ _ (some wkS1) ⟨#[84, 13, 10, 36, 49, 13, 10, 97, 13, 10, 80, 73, 78, 71, 32, 120, 13, 10]⟩ (by decide) wk_pnd (fun P hP => by injection hP with hP; subst hP; decide) w2 hfi2.pa (fun W hW => HL.out.on (HQ.out ▸ HB2.out.trans hW))
  clear hfi2 hm2
  go_wp2_with fail
  refine (show Calls _ _ _ _ _ from HF2.out).mono ?_
  rintro e w3 ⟨pv3, wv3, P3, c3, E3, hfi3, hm3, rfl⟩
  rw [show FX (some wkS1) (ByteArray.mk #[84, 13, 10, 36, 49, 13, 10, 97, 13, 10, 80, 73, 78, 71, 32, 120, 13, 10]).data.toList = ([⟨[[71, 69, 84], [97]], []⟩, ⟨[[80, 73, 78, 71], [120]], []⟩], some []) from wk2] at hfi3 hm3
  obtain ⟨a1, a2, hE3⟩ := map_two hm3
  subst hE3
  have HB3 : Hid (Below q w w3) := HB2.out.trans (hfi3.mv.below HFI2.out.pa)
  have HFI3 : Hid _ := hfi3
  obtain ⟨W3, hW3⟩ : ∃ W, W = w3.alloc (.cells wkC 24) := ⟨_, rfl⟩
  have hbA : Below w3.heap.size w3 W3 := by rw [hW3]; exact (Below.refl _ _).alloc (Nat.le_refl _) _
  have HBA : Hid (Below q w W3) := HB3.out.trans (hbA.mono (by have := HB3.out.size; rw [HQ.out] at this; exact this))
  have HFI4 : Hid _ := hfi3.on hbA
  have HEN : Hid _ := encode_wk w3.heap.size W3 (by rw [hW3]; exact one_alloc _ _) (fun W hW => HL.out.on (HQ.out ▸ HBA.out.trans (hW.mono (by have := HBA.out.size; rw [HQ.out] at this; exact this))))
  rw [hW3] at HEN
  clear hfi3 hm3 hbA
  go_wp2_with fail
  refine (show Calls _ _ _ _ _ from HEN.out).mono ?_
  rintro e w4 ⟨rfl, hb4⟩
  rw [← hW3] at hb4
  have hfi4 := HFI4.out.on hb4
  have HB4 : Hid (Below q w w4) := HBA.out.trans (hb4.mono (by have := HBA.out.size; rw [HQ.out] at this; exact this))
  have HFI5 : Hid _ := hfi4
  obtain ⟨g, hg, y0, y2⟩ := row_two hfi4.rl
  subst hg
  have hA1 := hfi4.rl.args _ List.mem_cons_self
  have hA2 := hfi4.rl.args _ (List.mem_cons_of_mem _ List.mem_cons_self)
  dsimp only at hA1 hA2
  obtain ⟨A1, k1, rfl⟩ := own_form hA1
  obtain ⟨A2, k2, rfl⟩ := own_form hA2
  have HS1 : Hid (SRow w4 (.slice A1 2 k1) [⟨#[71, 69, 84]⟩, ⟨#[97]⟩]) := own_srow hA1 rfl
  have HS2 : Hid (SRow w4 (.slice A2 2 k2) [⟨#[80, 73, 78, 71]⟩, ⟨#[120]⟩]) := own_srow hA2 rfl
  have y0' : w4.cell? ⟨g, 0, none⟩ = some (.slice A1 2 k1) := y0
  have y2' : w4.cell? ⟨g, 2, none⟩ = some (.slice A2 2 k2) := y2
  obtain ⟨W5, hW5⟩ : ∃ W, W = w4.alloc (.cells #[.string ⟨#[71, 69, 84]⟩, .string ⟨#[97]⟩] 9) := ⟨_, rfl⟩
  have hb5 : Below w4.heap.size w4 W5 := by rw [hW5]; exact (Below.refl _ _).alloc (Nat.le_refl _) _
  have HSM1 : Hid _ := same_any (.slice A1 2 k1) _ [⟨#[71, 69, 84]⟩, ⟨#[97]⟩] [⟨#[71, 69, 84]⟩, ⟨#[97]⟩] (by decide) (by decide) W5 (HS1.out.on hb5) (by rw [hW5]; exact srow_new w4 ⟨#[71, 69, 84]⟩ ⟨#[97]⟩)
  rw [hW5] at HSM1
  have hc5 : W5.cell? ⟨g, 2, none⟩ = some (.slice A2 2 k2) := cell_on y2' hb5
  clear hA1 hA2 hb4 hfi4 y0 y2 hW3
  go_wp2_with fail
  refine (show Calls _ _ _ _ _ from HSM1.out).mono ?_
  rintro e w6 ⟨⟨b6, rfl, hb6⟩, kk, hw6⟩
  have hb6t : b6 = true := by simpa using hb6
  subst hb6t
  rw [← hW5] at hw6
  have hb7 : Below w4.heap.size w4 w6 := by rw [hw6]; exact below_dn hb5 kk
  have y6 : w6.cell? ⟨g, 2, none⟩ = some (.slice A2 2 k2) := cell_on y2' hb7
  have HB7 : Hid (Below w4.heap.size w4 w6) := hb7
  obtain ⟨W7, hW7⟩ : ∃ W, W = w6.alloc (.cells #[.string ⟨#[80, 73, 78, 71]⟩, .string ⟨#[120]⟩] 9) := ⟨_, rfl⟩
  have hb8 : Below w4.heap.size w4 W7 := by rw [hW7]; exact hb7.alloc hb7.size _
  have HSM2 : Hid _ := same_any (.slice A2 2 k2) _ [⟨#[80, 73, 78, 71]⟩, ⟨#[120]⟩] [⟨#[80, 73, 78, 71]⟩, ⟨#[120]⟩] (by decide) (by decide) W7 (HS2.out.on hb8) (by rw [hW7]; exact srow_new w6 ⟨#[80, 73, 78, 71]⟩ ⟨#[120]⟩)
  rw [hW7] at HSM2
  clear hw6 hb7 hb6 hc5 hb5 hW5 y0' y2'
  go_wp2_with fail
  refine (show Calls _ _ _ _ _ from HSM2.out).mono ?_
  rintro e w9 ⟨⟨b9, rfl, hb9⟩, k9, hw9⟩
  have hb9t : b9 = true := by simpa using hb9
  subst hb9t
  rw [← hW7] at hw9
  have hb10 : Below w4.heap.size w4 w9 := by rw [hw9]; exact below_dn hb8 k9
  have HFI9 : Hid _ := HFI5.out.on hb10
  have HHD : Hid (Calls Tryz.prog 15 #[.pointer (some ⟨q, 0, none⟩)] w9 fun e w' => e = .returned (.int .i64 0) ∧ w' = w9) := Held_any q _ _ _ _ _ _ _ w9 HFI9.out.pa.row
  have HB9 : Hid (Below q w w9) := HB4.out.trans (hb10.mono (by have := HB4.out.size; rw [HQ.out] at this; exact this))
  clear hw9 hb10 hb9 hb8 hW7 y6
  go_wp2_with fail
  refine (show Calls _ _ _ _ _ from HHD.out).mono ?_
  rintro e w10 ⟨rfl, hw10⟩
  subst hw10
  go_wp2
  go_returns
  exact ⟨rfl, HB9.out⟩
end Go.Proofs.YtnfbaeajalnmmaaGreatDoor
namespace Go.Proofs.YtnfbaeajalnmmaaGreatDoor
open Go.RowKit Vi
set_option linter.unusedVariables false
set_option linter.unusedSimpArgs false
theorem heap_set4 (w : World) (g T : Nat) (a b c d v0 v1 v2 v3 : Value) (h : w.heap[g]? = some (.cells #[a, b, c, d] T)) :
    ((((w.setCell ⟨g, 0, none⟩ v0).setCell ⟨g, 1, none⟩ v1).setCell ⟨g, 2, none⟩ v2).setCell ⟨g, 3, none⟩ v3).heap[g]? = some (.cells #[v0, v1, v2, v3] T) ∧ Only w ((((w.setCell ⟨g, 0, none⟩ v0).setCell ⟨g, 1, none⟩ v1).setCell ⟨g, 2, none⟩ v2).setCell ⟨g, 3, none⟩ v3) g := by
  refine ⟨?_, ((((Only.refl w g).set _ _).set _ _).set _ _).set _ _⟩
  rw [heap_setCell_same _ _ _ _ _ _ (heap_setCell_same _ _ _ _ _ _ (heap_setCell_same _ _ _ _ _ _ (heap_setCell_same _ _ _ _ _ _ h)))]; rfl
theorem prow4 {w : World} {g T : Nat} {v0 v1 v2 v3 : Value} (h : w.heap[g]? = some (.cells #[v0, v1, v2, v3] T)) :
    w.cell? ⟨g, 0, none⟩ = some v0 ∧ w.cell? ⟨g, 1, none⟩ = some v1 ∧ w.cell? ⟨g, 2, none⟩ = some v2 ∧ w.cell? ⟨g, 3, none⟩ = some v3 ∧ ∀ j, w.frozen? ⟨g, j, none⟩ = false := by
  refine ⟨?_, ?_, ?_, ?_, fun j => frozen_of_row _ _ _ _ _ h⟩ <;> rw [cell_of_row _ _ _ _ _ _ h] <;> rfl
/-- a reply that is stored as the answer, and the return. -/
theorem rp_fin (f : Func) (k : Nat) (hres : f.results = #[.cell k 24]) {W : World} {rb : Nat} {x0 x1 x2 x3 : Value} (hr : W.heap[rb]? = some (.cells #[x0, x1, x2, x3] 24)) (v0 v1 v2 v3 : Value) (post : Ending → World → Prop)
    (hpost : ∀ w', Only W w' rb → post (.returned (.agg #[v0, v1, v2, v3])) w')
    (a : Act) (hdf : a.defers = []) (h2 : a.tmps.getD k undef = .pointer (some ⟨rb, 0, none⟩)) :
    bodyPost Tryz.prog f post .ret a ((((W.setCell ⟨rb, 0, none⟩ v0).setCell ⟨rb, 1, none⟩ v1).setCell ⟨rb, 2, none⟩ v2).setCell ⟨rb, 3, none⟩ v3) := by
  obtain ⟨hr9, ho9⟩ := heap_set4 W rb 24 _ _ _ _ v0 v1 v2 v3 hr
  obtain ⟨y0, y1, y2, y3, yf⟩ := prow4 hr9
  generalize (((W.setCell ⟨rb, 0, none⟩ v0).setCell ⟨rb, 1, none⟩ v1).setCell ⟨rb, 2, none⟩ v2).setCell ⟨rb, 3, none⟩ v3 = W9 at *
  refine bodyPost_ret (v := .agg #[v0, v1, v2, v3]) ?_ hdf (hpost W9 ho9)
  rw [Array.getD_eq_getD_getElem?] at h2
  simp [results, hres, go_sem, y0, y1, y2, y3, h2]
theorem sClone_any (s : ByteArray) (hs : s.size ≤ 281474976710656) (w : World) : Calls Tryz.prog 61 #[.string s] w fun e w' => e = .returned (.string s) ∧ Below w.heap.size w w' := by
  go_enter Tryz.func61, Tryz.ntmps61
  go_wp2_with fail
  refine (Tryz.stringslite_Clone s w (by omega)).mono ?_
  rintro e w1 ⟨rfl, hb1⟩
  have HB1 : Hid _ := hb1
  clear hb1
  go_wp2
  go_returns
  exact ⟨rfl, HB1.out⟩
/-- a reply of no list. -/
def rpV (k : Int) (s : ByteArray) (n : Int) : Value := .agg #[.int .i64 k, .string s, .int .i64 n, .slice none 0 0]
theorem worded_any (k : Int) (s : ByteArray) (hs : s.size ≤ 281474976710656) (w : World) : Calls Tryz.prog 39 #[.int .i64 k, .string s] w fun e w' => e = .returned (rpV k s 0) ∧ Below w.heap.size w w' := by
  obtain ⟨W0, hW0⟩ : ∃ W, W = w.alloc (.cells #[.int .i64 0, .string ⟨#[]⟩, .int .i64 0, .slice none 0 0] 24) := ⟨_, rfl⟩
  obtain ⟨b, hb⟩ : ∃ b, w.heap.size = b := ⟨_, rfl⟩
  have hb0 : Below b w W0 := by rw [hW0, ← hb]; exact (Below.refl _ _).alloc (Nat.le_refl _) _
  have hr0 : W0.heap[b]? = some (.cells #[.int .i64 0, .string ⟨#[]⟩, .int .i64 0, .slice none 0 0] 24) := by rw [hW0, ← hb]; exact one_alloc _ _
  have HB0 : Hid (Below b w W0) := hb0
  have HR0 : Hid _ := hr0
  have HW : Hid (b ≤ W0.heap.size) := by have := hb0.size; rw [hb] at this; exact this
  have HCL : Hid _ := sClone_any s hs W0
  rw [hb]
  clear hb0 hr0
  go_enter Tryz.func39, Tryz.ntmps39
  go_wp2_with fail
  rw [← hW0]
  clear hW0 hb
  refine (show Calls _ _ _ _ _ from HCL.out).mono ?_
  rintro e w1 ⟨rfl, hb1⟩
  have HB1 : Hid (Below b w w1) := HB0.out.trans (hb1.mono HW.out)
  have HR1 : Hid _ := keep_row HR0.out hb1
  obtain ⟨z0, z1, z2, z3, zf⟩ := prow4 HR1.out
  clear hb1
  go_wp2
  exact rp_fin _ 4 Tryz.results39 HR1.out _ _ _ _ _ (fun w' ho => ⟨rfl, HB1.out.trans (ho.below (Nat.le_refl _))⟩) _ rfl rfl
end Go.Proofs.YtnfbaeajalnmmaaGreatDoor
