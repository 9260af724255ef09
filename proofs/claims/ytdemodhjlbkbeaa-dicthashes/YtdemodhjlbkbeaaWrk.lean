import Derived.Test.YtdemodhjlbkbeaaDel
namespace Go.Proofs.Ytdemodhjlbkbeaa
open Go.RowKit
set_option linter.unusedVariables false
set_option maxHeartbeats 1000000 in
set_option maxRecDepth 100000 in
theorem end_no (g : Nat) (w : World) (h : w.cell? ⟨g, 3, none⟩ = some (.slice none 0 0)) : Calls Try.prog 31 #[.pointer (some ⟨g, 0, none⟩)] w fun e w' => e = .returned (.tuple #[]) ∧ w' = w := by
  have HM : Hid _ := moves_no g none 0 w h
  clear h
  go_enter Try.func31, Try.ntmps31
  go_wp2_with fail
  refine (show Calls _ _ _ _ _ from HM.out).mono ?_
  rintro e w1 ⟨rfl, rfl⟩
  go_wp2
  go_returns
  exact ⟨rfl, rfl⟩
set_option maxHeartbeats 1000000 in
set_option maxRecDepth 100000 in
theorem give_no (g B : Nat) (w : World) (h1 : w.cell? ⟨g, 1, none⟩ = some (.slice (some ⟨B, 0, none⟩) 4 4)) (h : w.cell? ⟨g, 3, none⟩ = some (.slice none 0 0)) : Calls Try.prog 32 #[.pointer (some ⟨g, 0, none⟩)] w fun e w' => e = .returned (.tuple #[]) ∧ w' = w := by
  have HM : Hid _ := moves_no g none 0 w h
  have HS : Hid (Calls Try.prog 33 #[.pointer (some ⟨g, 1, none⟩)] w fun e w' => e = .returned (.int .i64 4) ∧ w' = w) := size_any g 1 _ 4 4 w h1
  clear h h1
  go_enter Try.func32, Try.ntmps32
  go_wp2_with fail
  refine (show Calls _ _ _ _ _ from HS.out).mono ?_
  rintro e w1 ⟨rfl, rfl⟩
  go_wp2_with fail
  refine (show Calls _ _ _ _ _ from HM.out).mono ?_
  rintro e w1 ⟨rfl, rfl⟩
  go_wp2
  go_returns
  exact ⟨rfl, rfl⟩
set_option maxHeartbeats 1000000 in
set_option maxRecDepth 100000 in
theorem Delete_one (g B E c : Nat) (v : Int) (w : World) (hgB : g < B) (hgE : g < E) (hD : DW w g B E c v) :
    Calls Try.prog 14 #[.pointer (some ⟨g, 0, none⟩), .string ⟨#[97]⟩] w fun e w' => e = .returned (.bool true) ∧ DN w' g B ∧ Below g w w' := by
  obtain ⟨H, hh, hHC⟩ := hash_call w
  have HHC : Hid _ := hHC
  obtain ⟨c0, c1, c2, c3, c4, c5, cf⟩ := row6 hD.d
  have HST : Hid _ := step_no g none 0 w c3
  have HDR : Hid _ := drop_one H hh g B E c v w hgB hgE hD
  clear hHC hD
  go_enter Try.func14, Try.ntmps14
  go_wp2_with fail
  refine (show Calls _ _ _ _ _ from HST.out).mono ?_
  rintro e w1 ⟨rfl, rfl⟩
  go_wp2_with fail
  refine (show Calls _ _ _ _ _ from HHC.out _).mono ?_
  rintro e w1 ⟨rfl, rfl⟩
  go_wp2_with fail
  refine (show Calls _ _ _ _ _ from HDR.out).mono ?_
  rintro e w2 ⟨rfl, hd2, hb2⟩
  have HD2 : Hid (DN w2 g B) := hd2
  have HL2 : Hid (Below g w1 w2) := hb2
  clear c0 c1 c2 c3 c4 c5 cf hb2
  have hd3 : w2.heap[g]? = some (.cells (dcells (some ⟨B, 0, none⟩) 4 4 0) 58) := hd2
  obtain ⟨c0, c1, c2, c3, c4, c5, cf⟩ := row6 hd3
  have HEN : Hid _ := end_no g w2 c3
  have HGV : Hid _ := give_no g B w2 c1 c3
  clear hd2 hd3
  go_wp2_with fail
  refine (show Calls _ _ _ _ _ from HEN.out).mono ?_
  rintro e w3 ⟨rfl, rfl⟩
  go_wp2_with fail
  refine (show Calls _ _ _ _ _ from HGV.out).mono ?_
  rintro e w3 ⟨rfl, rfl⟩
  go_wp2
  go_returns
  exact ⟨rfl, HD2.out, HL2.out⟩
set_option maxHeartbeats 1000000 in
set_option maxRecDepth 100000 in
theorem New_0 (w : World) : Calls Try.prog 12 #[.int .i64 0] w fun e w' => e = .returned (.pointer (some ⟨w.heap.size, 0, none⟩)) ∧ w'.heap[w.heap.size]? = some (.cells (dcells none 0 0 0) 58) ∧ Below w.heap.size w w' := by
  go_enter Try.func12, Try.ntmps12
  go_wp2
  go_returns
  exact ⟨rfl, one_alloc w _, (Below.refl _ w).alloc (Nat.le_refl _) _⟩
set_option maxHeartbeats 2000000 in
set_option maxRecDepth 100000 in
theorem works_any (w : World) : Calls Try.prog 9 #[] w fun e w' => e = .returned (.bool true) ∧ Below w.heap.size w w' := by
  have HNW : Hid _ := New_0 w
  go_enter Try.func9, Try.ntmps9
  go_wp2_with fail
  refine (show Calls _ _ _ _ _ from HNW.out).mono ?_
  rintro e w1 ⟨rfl, hg1, hb1⟩
  obtain ⟨g, hg⟩ : ∃ g, w.heap.size = g := ⟨_, rfl⟩
  rw [hg] at hg1 hb1 ⊢
  have HB1 : Hid (Below g w w1) := hb1
  have HS1 : Hid _ := Set_new g 7 w1 hg1
  have HGW : Hid _ := hg
  clear hg1 hb1 hg HNW
  go_wp2_with fail
  refine (show Calls _ _ _ _ _ from HS1.out).mono ?_
  rintro e w2 ⟨rfl, B, E, c, hgB, hgE, hd2, hb2⟩
  have HB2 : Hid (Below g w w2) := HB1.out.trans hb2
  have HS2 : Hid _ := Set_old g B E c 7 8 w2 hgE hd2
  clear hd2 hb2
  go_wp2_with fail
  refine (show Calls _ _ _ _ _ from HS2.out).mono ?_
  rintro e w3 ⟨rfl, hd3, hb3⟩
  have HB3 : Hid (Below g w w3) := HB2.out.trans hb3
  have HD3 : Hid (DW w3 g B E c 8) := hd3
  have HG3 : Hid _ := Get_one g B E c 8 w3 hd3
  clear hd3 hb3
  go_wp2_with fail
  refine (show Calls _ _ _ _ _ from HG3.out).mono ?_
  rintro e w4 ⟨rfl, hb4⟩
  have HD4 : Hid (DW w4 g B E c 8) := HD3.out.on hb4
  have hgl3 := row_lt HD3.out.d
  have HB4 : Hid (Below g w w4) := HB3.out.trans (hb4.mono (by omega))
  have HSC : Hid _ := Scan_one g B E c 8 w4 HD4.out
  clear hb4
  go_wp2_with fail
  refine (show Calls _ _ _ _ _ from HSC.out).mono ?_
  rintro e w5 ⟨K, kc, rfl, hk5, hb5⟩
  have HD5 : Hid (DW w5 g B E c 8) := HD4.out.on hb5
  have hgl4 := row_lt HD4.out.d
  have HB5 : Hid (Below g w w5) := HB4.out.trans (hb5.mono (by omega))
  have HK5 : Hid _ := hk5
  have HTB : Hid _ := Tables_one g B E c 8 w5 HD5.out
  clear hb5 hk5
  go_wp2_with fail
  refine (show Calls _ _ _ _ _ from HTB.out).mono ?_
  rintro e w6 ⟨rfl, rfl⟩
  have r6 := row6 HD5.out.d
  have HLN : Hid (Calls Try.prog 16 #[.pointer (some ⟨g, 0, none⟩)] w6 fun e w' => e = .returned (.int .i64 1) ∧ ∃ k, w' = w6.drewN k) := Len_any g 1 0 (by omega) (by omega) w6 r6.2.2.1 r6.2.2.2.2.1
  clear r6
  go_wp2_with fail
  refine (show Calls _ _ _ _ _ from HLN.out).mono ?_
  rintro e w7 ⟨rfl, k, hw7⟩
  have hbd : Below w6.heap.size w6 w7 := by rw [hw7]; exact below_dn (Below.refl _ _) k
  have hk7 := cell_on HK5.out hbd
  have HD7 : Hid (DW w7 g B E c 8) := HD5.out.on hbd
  have hgl5 := row_lt HD5.out.d
  have HB7 : Hid (Below g w w7) := HB5.out.trans (hbd.mono (by omega))
  have HDE : Hid _ := Delete_one g B E c 8 w7 hgB hgE HD7.out
  clear hbd hw7
  go_wp2_with fail
  refine (show Calls _ _ _ _ _ from HDE.out).mono ?_
  rintro e w8 ⟨rfl, hd8, hb8⟩
  have HB8 : Hid (Below g w w8) := HB7.out.trans hb8
  have hd9 : w8.heap[g]? = some (.cells (dcells (some ⟨B, 0, none⟩) 4 4 0) 58) := hd8
  have r8 := row6 hd9
  have HL8 : Hid (Calls Try.prog 16 #[.pointer (some ⟨g, 0, none⟩)] w8 fun e w' => e = .returned (.int .i64 0) ∧ ∃ k, w' = w8.drewN k) := Len_any g 0 0 (by omega) (by omega) w8 r8.2.2.1 r8.2.2.2.2.1
  clear r8 hd8 hd9 hb8
  go_wp2_with fail
  refine (show Calls _ _ _ _ _ from HL8.out).mono ?_
  rintro e w9 ⟨rfl, k9, rfl⟩
  go_wp2
  go_returns
  exact ⟨rfl, by rw [HGW.out]; exact below_dn HB8.out k9⟩
end Go.Proofs.Ytdemodhjlbkbeaa
