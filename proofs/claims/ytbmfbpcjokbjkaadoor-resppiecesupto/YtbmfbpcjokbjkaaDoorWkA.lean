import Derived.Test.YtbmfbpcjokbjkaaDoorFdZ
import Derived.Test.YtbmfbpcjokbjkaaDoorGJ
import Derived.Test.YtbmfbpcjokbjkaaDoorGK
namespace Go.Proofs.YtbmfbpcjokbjkaaDoor
open Go.RowKit Vi
set_option linter.unusedVariables false
set_option linter.unusedSimpArgs false
def wkS1 : SP.Bs := [42, 50, 13, 10, 36, 51, 13, 10, 71, 69]
def wkS2 : SP.Bs := [84, 13, 10, 36, 49, 13, 10, 97, 13, 10, 80, 73, 78, 71, 32, 120, 13, 10]
theorem wk1 : FX (some []) wkS1 = ([], some wkS1) := by kernel_rfl
theorem wk2 : FX (some wkS1) wkS2 = ([⟨[[71, 69, 84], [97]], []⟩, ⟨[[80, 73, 78, 71], [120]], []⟩], some []) := by kernel_rfl
theorem wk_pnd : Pnd (some wkS1) := by have := FX_pnd (some []) wkS1; rw [wk1] at this; exact this
theorem map_nil {E : List (Value × Rq)} (h : E.map (·.2) = []) : E = [] := List.map_eq_nil_iff.1 h
theorem map_two {E : List (Value × Rq)} {r1 r2 : Rq} (h : E.map (·.2) = [r1, r2]) : ∃ a1 a2, E = [(a1, r1), (a2, r2)] := by
  match E, h with
  | [x, y], h =>
    simp at h
    exact ⟨x.1, y.1, by rw [← h.1, ← h.2]⟩
theorem row_two {B b0 : Nat} {W : World} {P : Option Addr} {c : Nat} {a1 a2 : Value} {r1 r2 : Rq} (h : RLs B b0 W (.slice P 2 c) [(a1, r1), (a2, r2)]) : ∃ g, P = some ⟨g, 0, none⟩ ∧ W.cell? ⟨g, 0, none⟩ = some a1 ∧ W.cell? ⟨g, 2, none⟩ = some a2 := by
  have hr := h.row
  rcases hr.2 with ⟨_, h0⟩ | ⟨g, cap, cur, e, _⟩
  · exact absurd h0 (by simp)
  · injection e with e1 e2 e3
    subst e1
    refine ⟨g, rfl, ?_, ?_⟩
    · have := hr.cells (g := g) rfl 0 a1 rfl; simpa [Addr.add] using this
    · have := hr.cells (g := g) rfl 2 a2 rfl; simpa [Addr.add] using this
theorem srow_new (w : World) (x y : ByteArray) : SRow (w.alloc (.cells #[.string x, .string y] 9)) (.slice (some ⟨w.heap.size, 0, none⟩) 2 2) [x, y] := by
  refine Or.inr ⟨w.heap.size, 0, 2, rfl, fun j hj => ?_⟩
  have hr : (w.alloc (.cells #[.string x, .string y] 9)).heap[w.heap.size]? = some (.cells #[.string x, .string y] 9) := one_alloc _ _
  rw [cell_of_row _ _ _ _ _ _ hr]
  match j, hj with
  | 0, _ => rfl
  | 1, _ => rfl
set_option maxRecDepth 20000 in
set_option maxHeartbeats 4000000 in
theorem works_any (w : World) (hL : Laid w) : Calls Tryd.prog 7 #[] w fun e w' => e = .returned (.bool true) ∧ Below w.heap.size w w' := by
  have HL : Hid (Laid w) := hL
  have HNW : Hid _ := New_any w
  obtain ⟨q, hq⟩ : ∃ q, w.heap.size = q := ⟨_, rfl⟩
  have HQ : Hid (w.heap.size = q) := hq
  rw [hq] at HNW ⊢
  clear hL hq
  go_enter Tryd.func7, Tryd.ntmps7
  go_wp2_with fail
  refine (show Calls _ _ _ _ _ from HNW.out).mono ?_
  rintro e w1 ⟨rfl, hr1, hb1⟩
  have HB1 : Hid (Below q w w1) := hb1
  have HP1 : Hid (PA q w1 q (.slice none 0 0) (.slice none 0 0) (stP (some []))) := ⟨hr1, ⟨rfl, Or.inl ⟨rfl, rfl⟩⟩, ⟨rfl, Or.inl ⟨rfl, rfl⟩⟩, Nat.le_refl _⟩
  have HF1 : Hid _ := Feed_any q q _ _ (some []) ⟨#[42, 50, 13, 10, 36, 51, 13, 10, 71, 69]⟩ (by decide) pnd_nil (fun P hP => by injection hP with hP; subst hP; simp) w1 HP1.out (fun W hW => HL.out.on (HQ.out ▸ HB1.out.trans hW))
  clear hr1 hb1
  go_wp2_with fail
  refine (show Calls _ _ _ _ _ from HF1.out).mono ?_
  rintro e w2 ⟨pv2, wv2, P2, c2, E2, hfi2, hm2, rfl⟩
  rw [show FX (some []) (ByteArray.mk #[42, 50, 13, 10, 36, 51, 13, 10, 71, 69]).data.toList = ([], some wkS1) from wk1] at hfi2 hm2
  have hE2 := map_nil hm2
  subst hE2
  have HFI2 : Hid _ := hfi2
  have HB2 : Hid (Below q w w2) := HB1.out.trans (hfi2.mv.below HP1.out)
  have HF2 : Hid _ := Feed_any q q _ _ (some wkS1) ⟨#[84, 13, 10, 36, 49, 13, 10, 97, 13, 10, 80, 73, 78, 71, 32, 120, 13, 10]⟩ (by decide) wk_pnd (fun P hP => by injection hP with hP; subst hP; decide) w2 hfi2.pa (fun W hW => HL.out.on (HQ.out ▸ HB2.out.trans hW))
  clear hfi2 hm2
  go_wp2_with fail
  refine (show Calls _ _ _ _ _ from HF2.out).mono ?_
  rintro e w3 ⟨pv3, wv3, P3, c3, E3, hfi3, hm3, rfl⟩
  rw [show FX (some wkS1) (ByteArray.mk #[84, 13, 10, 36, 49, 13, 10, 97, 13, 10, 80, 73, 78, 71, 32, 120, 13, 10]).data.toList = ([⟨[[71, 69, 84], [97]], []⟩, ⟨[[80, 73, 78, 71], [120]], []⟩], some []) from wk2] at hfi3 hm3
  obtain ⟨a1, a2, hE3⟩ := map_two hm3
  subst hE3
  have HB3 : Hid (Below q w w3) := HB2.out.trans (hfi3.mv.below HFI2.out.pa)
  have HFI3 : Hid _ := hfi3
  obtain ⟨W3, hW3⟩ : ∃ W, W = w3.alloc (.cells wkC 51) := ⟨_, rfl⟩
  have hbA : Below w3.heap.size w3 W3 := by rw [hW3]; exact (Below.refl _ _).alloc (Nat.le_refl _) _
  have HBA : Hid (Below q w W3) := HB3.out.trans (hbA.mono (by have := HB3.out.size; rw [HQ.out] at this; exact this))
  have HFI4 : Hid _ := hfi3.on hbA
  have HEN : Hid _ := encode_wk w3.heap.size W3 (by rw [hW3]; exact one_alloc _ _) (fun W hW => HL.out.on (HQ.out ▸ HBA.out.trans (hW.mono (by have := HBA.out.size; rw [HQ.out] at this; exact this))))
  rw [hW3] at HEN
  clear hfi3 hm3 hbA
  go_wp2_with fail
  refine (show Calls _ _ _ _ _ from HEN.out).mono ?_
  rintro e w4 ⟨rfl, hb4⟩
  rw [← hW3] at hb4
  have hfi4 := HFI4.out.on hb4
  have HB4 : Hid (Below q w w4) := HBA.out.trans (hb4.mono (by have := HBA.out.size; rw [HQ.out] at this; exact this))
  have HFI5 : Hid _ := hfi4
  obtain ⟨g, hg, y0, y2⟩ := row_two hfi4.rl
  subst hg
  have hA1 := hfi4.rl.args _ List.mem_cons_self
  have hA2 := hfi4.rl.args _ (List.mem_cons_of_mem _ List.mem_cons_self)
  dsimp only at hA1 hA2
  obtain ⟨A1, k1, rfl⟩ := own_form hA1
  obtain ⟨A2, k2, rfl⟩ := own_form hA2
  have HS1 : Hid (SRow w4 (.slice A1 2 k1) [⟨#[71, 69, 84]⟩, ⟨#[97]⟩]) := own_srow hA1 rfl
  have HS2 : Hid (SRow w4 (.slice A2 2 k2) [⟨#[80, 73, 78, 71]⟩, ⟨#[120]⟩]) := own_srow hA2 rfl
  have y0' : w4.cell? ⟨g, 0, none⟩ = some (.slice A1 2 k1) := y0
  have y2' : w4.cell? ⟨g, 2, none⟩ = some (.slice A2 2 k2) := y2
  obtain ⟨W5, hW5⟩ : ∃ W, W = w4.alloc (.cells #[.string ⟨#[71, 69, 84]⟩, .string ⟨#[97]⟩] 9) := ⟨_, rfl⟩
  have hb5 : Below w4.heap.size w4 W5 := by rw [hW5]; exact (Below.refl _ _).alloc (Nat.le_refl _) _
  have HSM1 : Hid _ := same_any (.slice A1 2 k1) _ [⟨#[71, 69, 84]⟩, ⟨#[97]⟩] [⟨#[71, 69, 84]⟩, ⟨#[97]⟩] (by decide) (by decide) W5 (HS1.out.on hb5) (by rw [hW5]; exact srow_new w4 ⟨#[71, 69, 84]⟩ ⟨#[97]⟩)
  rw [hW5] at HSM1
  have hc5 : W5.cell? ⟨g, 2, none⟩ = some (.slice A2 2 k2) := cell_on y2' hb5
  clear hA1 hA2 hb4 hfi4 y0 y2 hW3
  go_wp2_with fail
  refine (show Calls _ _ _ _ _ from HSM1.out).mono ?_
  rintro e w6 ⟨⟨b6, rfl, hb6⟩, kk, hw6⟩
  have hb6t : b6 = true := by simpa using hb6
  subst hb6t
  rw [← hW5] at hw6
  have hb7 : Below w4.heap.size w4 w6 := by rw [hw6]; exact below_dn hb5 kk
  have y6 : w6.cell? ⟨g, 2, none⟩ = some (.slice A2 2 k2) := cell_on y2' hb7
  have HB7 : Hid (Below w4.heap.size w4 w6) := hb7
  obtain ⟨W7, hW7⟩ : ∃ W, W = w6.alloc (.cells #[.string ⟨#[80, 73, 78, 71]⟩, .string ⟨#[120]⟩] 9) := ⟨_, rfl⟩
  have hb8 : Below w4.heap.size w4 W7 := by rw [hW7]; exact hb7.alloc hb7.size _
  have HSM2 : Hid _ := same_any (.slice A2 2 k2) _ [⟨#[80, 73, 78, 71]⟩, ⟨#[120]⟩] [⟨#[80, 73, 78, 71]⟩, ⟨#[120]⟩] (by decide) (by decide) W7 (HS2.out.on hb8) (by rw [hW7]; exact srow_new w6 ⟨#[80, 73, 78, 71]⟩ ⟨#[120]⟩)
  rw [hW7] at HSM2
  clear hw6 hb7 hb6 hc5 hb5 hW5 y0' y2'
  go_wp2_with fail
  refine (show Calls _ _ _ _ _ from HSM2.out).mono ?_
  rintro e w9 ⟨⟨b9, rfl, hb9⟩, k9, hw9⟩
  have hb9t : b9 = true := by simpa using hb9
  subst hb9t
  rw [← hW7] at hw9
  have hb10 : Below w4.heap.size w4 w9 := by rw [hw9]; exact below_dn hb8 k9
  have HFI9 : Hid _ := HFI5.out.on hb10
  have HHD : Hid (Calls Tryd.prog 11 #[.pointer (some ⟨q, 0, none⟩)] w9 fun e w' => e = .returned (.int .i64 0) ∧ w' = w9) := Held_any q _ _ _ _ _ _ _ w9 HFI9.out.pa.row
  have HB9 : Hid (Below q w w9) := HB4.out.trans (hb10.mono (by have := HB4.out.size; rw [HQ.out] at this; exact this))
  clear hw9 hb10 hb9 hb8 hW7 y6
  go_wp2_with fail
  refine (show Calls _ _ _ _ _ from HHD.out).mono ?_
  rintro e w10 ⟨rfl, hw10⟩
  subst hw10
  go_wp2
  go_returns
  exact ⟨rfl, HB9.out⟩
end Go.Proofs.YtbmfbpcjokbjkaaDoor
