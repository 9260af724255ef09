import Derived.Test.YtfkcpilkhdbpoaaGreatDoorIE
import Derived.Test.YtfkcpilkhdbpoaaGreatDoorXN
import Derived.Test.YtfkcpilkhdbpoaaGreatDoorIG
import Derived.Test.YtfkcpilkhdbpoaaGreatDoorIB
import Derived.Test.YtfkcpilkhdbpoaaGreatDoorIH
import Derived.Test.YtfkcpilkhdbpoaaGreatDoorII
import Derived.Test.YtfkcpilkhdbpoaaGreatDoorZA
import Derived.Test.YtfkcpilkhdbpoaaGreatDoorZC
import Derived.Test.YtfkcpilkhdbpoaaGreatDoorZE
import Derived.Test.YtfkcpilkhdbpoaaGreatDoorZG
import Derived.Test.YtfkcpilkhdbpoaaGreatDoorJL
import Derived.Test.YtfkcpilkhdbpoaaGreatDoorYE
import Derived.Test.YtfkcpilkhdbpoaaGreatDoorZP
import Derived.Test.YtfkcpilkhdbpoaaGreatDoorJO
import Derived.ChangeArms
import Derived.SliceStrings
import Derived.Carry
import Derived.Deep.DeepHandedRow
import Derived.Deep.DeepWitnessRowRef
namespace Go.Proofs.YtfkcpilkhdbpoaaGreatDoor.V
open Go.RowKit S5.IM
open S6 (Laid Lay)
set_option linter.unusedVariables false
set_option linter.unusedSimpArgs false
theorem srow1 {w : World} {g : Nat} {p : ByteArray} (h : w.cell? ⟨g, 0, none⟩ = some (.string p)) : SRow w (.slice (some ⟨g, 0, none⟩) 1 1) [p] := Or.inr ⟨g, 0, 1, rfl, fun j hj => by
  have : j = 0 := by simp at hj; omega
  subst this
  exact h⟩
theorem rawT {f : Nat} {xs : Array Value} {p : ByteArray} {W : World} (h : Calls Tryz.prog f xs W fun e w' => ∃ g, e = .returned (.slice (some ⟨g, 0, none⟩) 1 1) ∧ w'.cell? ⟨g, 0, none⟩ = some (.string p) ∧ Below W.heap.size W w') : Calls Tryz.prog f xs W fun e w' => ∃ v, e = .returned v ∧ SRow w' v [p] ∧ Below W.heap.size W w' := h.mono (by
  rintro e w' ⟨g, rfl, hc, hb⟩
  exact ⟨_, rfl, srow1 hc, hb⟩)
theorem rawN {f : Nat} {xs : Array Value} {W : World} (h : Calls Tryz.prog f xs W fun e w' => e = .returned (.slice none 0 0) ∧ Below W.heap.size W w') : Calls Tryz.prog f xs W fun e w' => ∃ v, e = .returned v ∧ SRow w' v [] ∧ Below W.heap.size W w' := h.mono (by
  rintro e w' ⟨rfl, hb⟩
  exact ⟨_, rfl, Or.inl ⟨rfl, _, _, rfl⟩, hb⟩)
theorem toB {f : Nat} {xs : Array Value} {v : Value} {W : World} (h : Calls Tryz.prog f xs W fun e w' => e = .returned v ∧ w' = W) : Calls Tryz.prog f xs W fun e w' => e = .returned v ∧ Below W.heap.size W w' := h.mono (by
  rintro e w' ⟨rfl, rfl⟩
  exact ⟨rfl, Below.refl _ _⟩)
theorem toV {f : Nat} {xs : Array Value} {mk : Option Addr → Nat → Value} {W : World} (h : Calls Tryz.prog f xs W fun e w' => ∃ g, e = .returned (mk (some ⟨g, 0, none⟩) 0) ∧ Below W.heap.size W w') : Calls Tryz.prog f xs W fun e w' => ∃ q c, e = .returned (mk q c) ∧ Below W.heap.size W w' := h.mono (by
  rintro e w' ⟨g, rfl, hb⟩
  exact ⟨_, _, rfl, hb⟩)
theorem pa_tx (bv : Nat) (w : World) (hw : Lay w) (hv : w.heap[bv]? = some (vC 1 (txB ⟨#[]⟩))) : PA bv (0) (4) (4) (4) (4) (4) (4) w where
  qText := fun W hW => Text_of bv 0 W (fun W' hW' => asText_tx bv 1 ⟨#[]⟩ W' (keep_row (keep_row hv hW) hW'))
  qAt := fun W hW => At_ref bv 0 W (fun W' hW' => asList_tx bv 1 ⟨#[]⟩ W' (keep_row (keep_row hv hW) hW'))
  qRange := Ans.v none 0 (fun W hW => Range_ref bv 0 5 W (fun W' hW' => asList_tx bv 1 ⟨#[]⟩ W' (keep_row (keep_row hv hW) hW')))
  qHas := fun W hW => Has_ref bv ⟨#[]⟩ W (fun W' hW' => asSet_tx bv 1 ⟨#[]⟩ W' (keep_row (keep_row hv hW) hW'))
  qMembers := Ans.v none 0 (fun W hW => Members_ref bv W (fun W' hW' => asSet_tx bv 1 ⟨#[]⟩ W' (keep_row (keep_row hv hW) hW')))
  qField := fun W hW => Field_ref bv ⟨#[]⟩ W (fun W' hW' => asHash_tx bv 1 ⟨#[]⟩ W' (keep_row (keep_row hv hW) hW'))
  qFields := Ans.v none 0 (fun W hW => Fields_ref bv W (fun W' hW' => asHash_tx bv 1 ⟨#[]⟩ W' (keep_row (keep_row hv hW) hW')))
  qScore := fun W hW => Score_ref bv ⟨#[]⟩ W (fun W' hW' => asZset_tx bv 1 ⟨#[]⟩ W' (keep_row (keep_row hv hW) hW'))
  qRank := fun W hW => Rank_ref bv ⟨#[]⟩ false W (fun W' hW' => asZset_tx bv 1 ⟨#[]⟩ W' (keep_row (keep_row hv hW) hW'))
  qByRank := Ans.v none 0 (fun W hW => ByRank_ref bv 0 5 false W (fun W' hW' => asZset_tx bv 1 ⟨#[]⟩ W' (keep_row (keep_row hv hW) hW')))
  qByScore := Ans.v none 0 (fun W hW => ByScore_ref bv 0 5 false W (fun W' hW' => asZset_tx bv 1 ⟨#[]⟩ W' (keep_row (keep_row hv hW) hW')))
  qByLex := Ans.v none 0 (fun W hW => ByLex_ref bv 0 5 false W (fun W' hW' => asZset_tx bv 1 ⟨#[]⟩ W' (keep_row (keep_row hv hW) hW')))
  qScan := Ans.v none 0 (fun W hW => Scan_ref bv 0 5 W (fun W' hW' => asGroup_tx bv 1 ⟨#[]⟩ W' (keep_row (keep_row hv hW) hW')))
theorem da_tx (C : Array Value) (a b : Int) (it : ByteArray) (hC : RV C 1 a b lpE it) (w : World) (hn : ∀ W, Below w.heap.size w W → Calls Tryz.prog 106 #[.agg C] W fun e w' => e = .returned (.slice none 0 0) ∧ Below W.heap.size W w') : DA C (0) (4) (4) (4) (4) (4) (4) w where
  qText := fun W hW => rText_ok C 1 a b _ _ hC W
  qAt := fun W hW => rAt_ref C 1 (by decide) hC.2.1 0 W
  qRange := Ans.v none 0 (fun W hW => rRange_ref C 1 (by decide) hC.2.1 0 5 W)
  qHas := fun W hW => rHas_ref C 1 (by decide) hC.2.1 ⟨#[]⟩ W
  qMembers := Ans.v none 0 (fun W hW => rMembers_ref C 1 (by decide) hC.2.1 W)
  qField := fun W hW => rField_ref C 1 (by decide) hC.2.1 ⟨#[]⟩ W
  qFields := Ans.v none 0 (fun W hW => rFields_ref C 1 (by decide) hC.2.1 W)
  qScore := fun W hW => rScore_ref C 1 (by decide) hC.2.1 ⟨#[]⟩ W
  qRank := fun W hW => rRank_ref C 1 (by decide) hC.2.1 ⟨#[]⟩ false W
  qByRank := Ans.v none 0 (fun W hW => rByRank_ref C 1 (by decide) hC.2.1 0 5 false W)
  qByScore := Ans.v none 0 (fun W hW => rByScore_ref C 1 (by decide) hC.2.1 0 5 false W)
  qByLex := Ans.v none 0 (fun W hW => rByLex_ref C 1 (by decide) hC.2.1 0 5 false W)
  qScan := Ans.v none 0 (fun W hW => rScan_ref C 1 (by decide) hC.2.1 0 5 W)
theorem emp_tx (bv : Nat) (C : Array Value) (a b' : Int) (it : ByteArray) (hC : RV C 1 a b' lpE it) (h1 : C.all (·.oneCell') = true) (w : World) (hw : Lay w) (hv : w.heap[bv]? = some (vC 1 (txB ⟨#[]⟩))) : Emp bv C w := by
  have hn : ∀ W, Below w.heap.size w W → Calls Tryz.prog 106 #[.agg C] W fun e w' => e = .returned (.slice none 0 0) ∧ Below W.heap.size W w' := fun W hW => rnames_plain C 1 a b' lpE it hC W
  exact ⟨1, a, b', lpE, it, ⟨#[101, 109, 98, 115, 116, 114]⟩, [⟨#[]⟩], 0, 4, 4, 4, 4, 4, 4, hC, h1, by simp, fun W hW => Kind_any bv 1 _ W (keep_row hv hW), fun W hW => Enc_tx bv 1 W (hw.on hW).laid (keep_row hv hW), fun W hW => Len_tx bv 1 W (keep_row hv hW), fun W hW => Size_tx bv W (keep_row hv hW), fun W hW => rawT (Raw_tx bv 1 W (keep_row hv hW)), fun W hW => rEnc_str C a b' _ _ hC W, fun W hW => rLen_str C 1 a b' _ _ hC W, fun W hW => rSize_1 C 1 a b' _ _ hC W (fun W' hW' => hn W' (hW.trans (hW'.mono hW.size))), fun W hW => rawT (rRaw_1 C 1 a b' _ _ hC W), pa_tx bv w hw hv, da_tx C a b' it hC w hn⟩
theorem pa_li (bv b : Nat) (w : World) (hw : Lay w) (hv : w.heap[bv]? = some (vC 2 (liB b))) (hl : LI w b) : PA bv (4) (6) (0) (4) (4) (4) (4) w where
  qText := fun W hW => Text_of bv 4 W (fun W' hW' => asText_li bv 2 b W' (keep_row (keep_row hv hW) hW'))
  qAt := fun W hW => At_li bv b W (keep_row hv hW) (hl.on hW)
  qRange := Ans.v none 0 (fun W hW => Range_li bv b W (keep_row hv hW) (hl.on hW))
  qHas := fun W hW => Has_ref bv ⟨#[]⟩ W (fun W' hW' => asSet_li bv 2 b W' (keep_row (keep_row hv hW) hW'))
  qMembers := Ans.v none 0 (fun W hW => Members_ref bv W (fun W' hW' => asSet_li bv 2 b W' (keep_row (keep_row hv hW) hW')))
  qField := fun W hW => Field_ref bv ⟨#[]⟩ W (fun W' hW' => asHash_li bv 2 b W' (keep_row (keep_row hv hW) hW'))
  qFields := Ans.v none 0 (fun W hW => Fields_ref bv W (fun W' hW' => asHash_li bv 2 b W' (keep_row (keep_row hv hW) hW')))
  qScore := fun W hW => Score_ref bv ⟨#[]⟩ W (fun W' hW' => asZset_li bv 2 b W' (keep_row (keep_row hv hW) hW'))
  qRank := fun W hW => Rank_ref bv ⟨#[]⟩ false W (fun W' hW' => asZset_li bv 2 b W' (keep_row (keep_row hv hW) hW'))
  qByRank := Ans.v none 0 (fun W hW => ByRank_ref bv 0 5 false W (fun W' hW' => asZset_li bv 2 b W' (keep_row (keep_row hv hW) hW')))
  qByScore := Ans.v none 0 (fun W hW => ByScore_ref bv 0 5 false W (fun W' hW' => asZset_li bv 2 b W' (keep_row (keep_row hv hW) hW')))
  qByLex := Ans.v none 0 (fun W hW => ByLex_ref bv 0 5 false W (fun W' hW' => asZset_li bv 2 b W' (keep_row (keep_row hv hW) hW')))
  qScan := Ans.v none 0 (fun W hW => Scan_ref bv 0 5 W (fun W' hW' => asGroup_li bv 2 b W' (keep_row (keep_row hv hW) hW')))
theorem da_li (C : Array Value) (a b : Int) (it : ByteArray) (hC : RV C 2 a b lpE it) (w : World) (hn : ∀ W, Below w.heap.size w W → Calls Tryz.prog 106 #[.agg C] W fun e w' => e = .returned (.slice none 0 0) ∧ Below W.heap.size W w') : DA C (4) (6) (0) (4) (4) (4) (4) w where
  qText := fun W hW => rText_ref C 2 (by decide) hC.2.1 W
  qAt := fun W hW => rAt_nil C 2 a b _ _ hC W
  qRange := Ans.v none 0 (fun W hW => rRange_nil C 2 a b _ _ hC W)
  qHas := fun W hW => rHas_ref C 2 (by decide) hC.2.1 ⟨#[]⟩ W
  qMembers := Ans.v none 0 (fun W hW => rMembers_ref C 2 (by decide) hC.2.1 W)
  qField := fun W hW => rField_ref C 2 (by decide) hC.2.1 ⟨#[]⟩ W
  qFields := Ans.v none 0 (fun W hW => rFields_ref C 2 (by decide) hC.2.1 W)
  qScore := fun W hW => rScore_ref C 2 (by decide) hC.2.1 ⟨#[]⟩ W
  qRank := fun W hW => rRank_ref C 2 (by decide) hC.2.1 ⟨#[]⟩ false W
  qByRank := Ans.v none 0 (fun W hW => rByRank_ref C 2 (by decide) hC.2.1 0 5 false W)
  qByScore := Ans.v none 0 (fun W hW => rByScore_ref C 2 (by decide) hC.2.1 0 5 false W)
  qByLex := Ans.v none 0 (fun W hW => rByLex_ref C 2 (by decide) hC.2.1 0 5 false W)
  qScan := Ans.v none 0 (fun W hW => rScan_ref C 2 (by decide) hC.2.1 0 5 W)
theorem emp_li (bv b : Nat) (C : Array Value) (a b' : Int) (it : ByteArray) (hC : RV C 2 a b' lpE it) (h1 : C.all (·.oneCell') = true) (w : World) (hw : Lay w) (hv : w.heap[bv]? = some (vC 2 (liB b))) (hl : LI w b) : Emp bv C w := by
  have hn : ∀ W, Below w.heap.size w W → Calls Tryz.prog 106 #[.agg C] W fun e w' => e = .returned (.slice none 0 0) ∧ Below W.heap.size W w' := fun W hW => rnames_plain C 2 a b' lpE it hC W
  exact ⟨2, a, b', lpE, it, lpE, [], 4, 6, 0, 4, 4, 4, 4, hC, h1, by simp, fun W hW => Kind_any bv 2 _ W (keep_row hv hW), fun W hW => Enc_li bv b 2 W (keep_row hv hW) (hl.on hW), fun W hW => Len_li bv b 2 W (keep_row hv hW) (hl.on hW), fun W hW => Size_li bv b W (keep_row hv hW) (hl.on hW), fun W hW => rawN (Raw_li bv b 2 W (keep_row hv hW) (hl.on hW)), fun W hW => rEnc_list C 2 a b' _ _ hC W, fun W hW => rLen7_list C 2 a b' _ _ hC W, fun W hW => rSize_2 C 2 a b' _ _ hC W (fun W' hW' => hn W' (hW.trans (hW'.mono hW.size))), fun W hW => rawN (rRaw_2 C 2 a b' _ _ hC W), pa_li bv b w hw hv hl, da_li C a b' it hC w hn⟩
theorem pa_is (bv b : Nat) (m n s : Int) (w : World) (hw : Lay w) (hv : w.heap[bv]? = some (vC 3 (isB b))) (hb : w.heap[b]? = some (isC m n s (S5.strB (txt 2 [])) 0 0)) : PA bv (4) (4) (4) (0) (4) (4) (0) w where
  qText := fun W hW => Text_of bv 4 W (fun W' hW' => asText_is bv 3 b W' (keep_row (keep_row hv hW) hW'))
  qAt := fun W hW => At_ref bv 0 W (fun W' hW' => asList_is bv 3 b W' (keep_row (keep_row hv hW) hW'))
  qRange := Ans.v none 0 (fun W hW => Range_ref bv 0 5 W (fun W' hW' => asList_is bv 3 b W' (keep_row (keep_row hv hW) hW')))
  qHas := fun W hW => Has_is bv b m n s 0 0 _ W (hw.on hW).laid (keep_row hv hW) (keep_row hb hW)
  qMembers := fun W hW => Members_is bv b m n s 0 0 W (hw.on hW).laid (keep_row hv hW) (keep_row hb hW)
  qField := fun W hW => Field_ref bv ⟨#[]⟩ W (fun W' hW' => asHash_is bv 3 b W' (keep_row (keep_row hv hW) hW'))
  qFields := Ans.v none 0 (fun W hW => Fields_ref bv W (fun W' hW' => asHash_is bv 3 b W' (keep_row (keep_row hv hW) hW')))
  qScore := fun W hW => Score_ref bv ⟨#[]⟩ W (fun W' hW' => asZset_is bv 3 b W' (keep_row (keep_row hv hW) hW'))
  qRank := fun W hW => Rank_ref bv ⟨#[]⟩ false W (fun W' hW' => asZset_is bv 3 b W' (keep_row (keep_row hv hW) hW'))
  qByRank := Ans.v none 0 (fun W hW => ByRank_ref bv 0 5 false W (fun W' hW' => asZset_is bv 3 b W' (keep_row (keep_row hv hW) hW')))
  qByScore := Ans.v none 0 (fun W hW => ByScore_ref bv 0 5 false W (fun W' hW' => asZset_is bv 3 b W' (keep_row (keep_row hv hW) hW')))
  qByLex := Ans.v none 0 (fun W hW => ByLex_ref bv 0 5 false W (fun W' hW' => asZset_is bv 3 b W' (keep_row (keep_row hv hW) hW')))
  qScan := fun W hW => Scan_is bv b 0 5 m n s 0 0 W (hw.on hW).laid (keep_row hv hW) (keep_row hb hW)
theorem da_is (C : Array Value) (a b : Int) (hC : RV C 3 a b isE ⟨#[2, 0, 0, 0, 0, 0, 0, 0]⟩) (w : World) (hn : ∀ W, Below w.heap.size w W → Calls Tryz.prog 106 #[.agg C] W fun e w' => e = .returned (.slice none 0 0) ∧ Below W.heap.size W w') : DA C (4) (4) (4) (0) (4) (4) (0) w where
  qText := fun W hW => rText_ref C 3 (by decide) hC.2.1 W
  qAt := fun W hW => rAt_ref C 3 (by decide) hC.2.1 0 W
  qRange := Ans.v none 0 (fun W hW => rRange_ref C 3 (by decide) hC.2.1 0 5 W)
  qHas := fun W hW => rHas_nil C 3 a b _ _ hC ⟨#[]⟩ W (fun W' hW' => hn W' (hW.trans (hW'.mono hW.size)))
  qMembers := Ans.v none 0 (fun W hW => rMem_nil C 3 a b _ _ hC W (fun W' hW' => hn W' (hW.trans (hW'.mono hW.size))))
  qField := fun W hW => rField_ref C 3 (by decide) hC.2.1 ⟨#[]⟩ W
  qFields := Ans.v none 0 (fun W hW => rFields_ref C 3 (by decide) hC.2.1 W)
  qScore := fun W hW => rScore_ref C 3 (by decide) hC.2.1 ⟨#[]⟩ W
  qRank := fun W hW => rRank_ref C 3 (by decide) hC.2.1 ⟨#[]⟩ false W
  qByRank := Ans.v none 0 (fun W hW => rByRank_ref C 3 (by decide) hC.2.1 0 5 false W)
  qByScore := Ans.v none 0 (fun W hW => rByScore_ref C 3 (by decide) hC.2.1 0 5 false W)
  qByLex := Ans.v none 0 (fun W hW => rByLex_ref C 3 (by decide) hC.2.1 0 5 false W)
  qScan := Ans.v none 0 (fun W hW => rScan_3 C 3 a b isE _ hC 0 5 W (fun W' hW' => hn W' (hW.trans (hW'.mono hW.size))))
theorem emp_is (bv b : Nat) (m n s : Int) (C : Array Value) (a b' : Int) (hC : RV C 3 a b' isE ⟨#[2, 0, 0, 0, 0, 0, 0, 0]⟩) (h1 : C.all (·.oneCell') = true) (w : World) (hw : Lay w) (hv : w.heap[bv]? = some (vC 3 (isB b))) (hb : w.heap[b]? = some (isC m n s (S5.strB (txt 2 [])) 0 0)) : Emp bv C w := by
  have hn : ∀ W, Below w.heap.size w W → Calls Tryz.prog 106 #[.agg C] W fun e w' => e = .returned (.slice none 0 0) ∧ Below W.heap.size W w' := fun W hW => rnames_int C 3 a b' isE hC W
  exact ⟨3, a, b', isE, ⟨#[2, 0, 0, 0, 0, 0, 0, 0]⟩, isE, [⟨#[2, 0, 0, 0, 0, 0, 0, 0]⟩], 4, 4, 4, 0, 4, 4, 0, hC, h1, by simp, fun W hW => Kind_any bv 3 _ W (keep_row hv hW), fun W hW => toB (Enc_set bv b W (keep_row hv hW)), fun W hW => toB (Len_set bv b m n s 0 0 _ W (keep_row hv hW) (keep_row hb hW)), fun W hW => Size_is bv b m n s _ W (keep_row hv hW) (keep_row hb hW), fun W hW => rawT (p := ⟨#[2, 0, 0, 0, 0, 0, 0, 0]⟩) (by have := Raw_is bv b 3 m n s 0 0 _ (by rw [S5.strB_size]; decide) W (keep_row hv hW) (keep_row hb hW); rw [show S5.strB (txt 2 []) = ⟨#[2, 0, 0, 0, 0, 0, 0, 0]⟩ by kernel_rfl] at this; exact this), fun W hW => rEnc_group C 3 a b' _ _ hC (Or.inl rfl) W, fun W hW => rLen_group C 3 a b' _ _ hC (Or.inl rfl) W (fun W' hW' => hn W' (hW.trans (hW'.mono hW.size))), fun W hW => rSize_3 C 3 a b' _ _ hC W (fun W' hW' => hn W' (hW.trans (hW'.mono hW.size))), fun W hW => rawT (rRaw_3 C 3 a b' isE _ hC W), pa_is bv b m n s w hw hv hb, da_is C a b' hC w hn⟩
theorem pa_ph (bv b : Nat) (n s we : Int) (w : World) (hw : Lay w) (hv : w.heap[bv]? = some (vC 5 (phB b))) (hb : w.heap[b]? = some (pkC 142 n s 2 we EP 0 0)) : PA bv (4) (4) (4) (4) (0) (4) (0) w where
  qText := fun W hW => Text_of bv 4 W (fun W' hW' => asText_ph bv 5 b W' (keep_row (keep_row hv hW) hW'))
  qAt := fun W hW => At_ref bv 0 W (fun W' hW' => asList_ph bv 5 b W' (keep_row (keep_row hv hW) hW'))
  qRange := Ans.v none 0 (fun W hW => Range_ref bv 0 5 W (fun W' hW' => asList_ph bv 5 b W' (keep_row (keep_row hv hW) hW')))
  qHas := fun W hW => Has_ref bv ⟨#[]⟩ W (fun W' hW' => asSet_ph bv 5 b W' (keep_row (keep_row hv hW) hW'))
  qMembers := Ans.v none 0 (fun W hW => Members_ref bv W (fun W' hW' => asSet_ph bv 5 b W' (keep_row (keep_row hv hW) hW')))
  qField := fun W hW => Field_ph bv b n s we 0 0 W (keep_row hv hW) (hw.on hW) (keep_row hb hW)
  qFields := fun W hW => toV (mk := fun q c => .tuple #[.slice q 0 c, .int .i64 0]) (Fields_ph bv b n s we 0 0 W (keep_row hv hW) (hw.on hW) (keep_row hb hW))
  qScore := fun W hW => Score_ref bv ⟨#[]⟩ W (fun W' hW' => asZset_ph bv 5 b W' (keep_row (keep_row hv hW) hW'))
  qRank := fun W hW => Rank_ref bv ⟨#[]⟩ false W (fun W' hW' => asZset_ph bv 5 b W' (keep_row (keep_row hv hW) hW'))
  qByRank := Ans.v none 0 (fun W hW => ByRank_ref bv 0 5 false W (fun W' hW' => asZset_ph bv 5 b W' (keep_row (keep_row hv hW) hW')))
  qByScore := Ans.v none 0 (fun W hW => ByScore_ref bv 0 5 false W (fun W' hW' => asZset_ph bv 5 b W' (keep_row (keep_row hv hW) hW')))
  qByLex := Ans.v none 0 (fun W hW => ByLex_ref bv 0 5 false W (fun W' hW' => asZset_ph bv 5 b W' (keep_row (keep_row hv hW) hW')))
  qScan := fun W hW => toV (mk := fun q c => .tuple #[.slice q 0 c, .int .i64 0, .int .i64 0]) (Scan_ph bv b n s we 0 0 0 5 W (keep_row hv hW) (hw.on hW) (keep_row hb hW))
theorem da_ph (C : Array Value) (a b : Int) (it : ByteArray) (hC : RV C 5 a b lpE it) (w : World) (hn : ∀ W, Below w.heap.size w W → Calls Tryz.prog 106 #[.agg C] W fun e w' => e = .returned (.slice none 0 0) ∧ Below W.heap.size W w') : DA C (4) (4) (4) (4) (0) (4) (0) w where
  qText := fun W hW => rText_ref C 5 (by decide) hC.2.1 W
  qAt := fun W hW => rAt_ref C 5 (by decide) hC.2.1 0 W
  qRange := Ans.v none 0 (fun W hW => rRange_ref C 5 (by decide) hC.2.1 0 5 W)
  qHas := fun W hW => rHas_ref C 5 (by decide) hC.2.1 ⟨#[]⟩ W
  qMembers := Ans.v none 0 (fun W hW => rMembers_ref C 5 (by decide) hC.2.1 W)
  qField := fun W hW => rField_nil C 5 a b _ _ hC ⟨#[]⟩ W
  qFields := Ans.v none 0 (fun W hW => rFields_nil C 5 a b _ _ hC W)
  qScore := fun W hW => rScore_ref C 5 (by decide) hC.2.1 ⟨#[]⟩ W
  qRank := fun W hW => rRank_ref C 5 (by decide) hC.2.1 ⟨#[]⟩ false W
  qByRank := Ans.v none 0 (fun W hW => rByRank_ref C 5 (by decide) hC.2.1 0 5 false W)
  qByScore := Ans.v none 0 (fun W hW => rByScore_ref C 5 (by decide) hC.2.1 0 5 false W)
  qByLex := Ans.v none 0 (fun W hW => rByLex_ref C 5 (by decide) hC.2.1 0 5 false W)
  qScan := Ans.v none 0 (fun W hW => rScan_5 C 5 a b lpE _ hC 0 5 W (fun W' hW' => hn W' (hW.trans (hW'.mono hW.size))))
theorem emp_ph (bv b : Nat) (n s we : Int) (C : Array Value) (a b' : Int) (it : ByteArray) (hC : RV C 5 a b' lpE it) (h1 : C.all (·.oneCell') = true) (w : World) (hw : Lay w) (hv : w.heap[bv]? = some (vC 5 (phB b))) (hb : w.heap[b]? = some (pkC 142 n s 2 we EP 0 0)) : Emp bv C w := by
  have hn : ∀ W, Below w.heap.size w W → Calls Tryz.prog 106 #[.agg C] W fun e w' => e = .returned (.slice none 0 0) ∧ Below W.heap.size W w' := fun W hW => rnames_plain C 5 a b' lpE it hC W
  exact ⟨5, a, b', lpE, it, lpE, [EP], 4, 4, 4, 4, 0, 4, 0, hC, h1, by simp, fun W hW => Kind_any bv 5 _ W (keep_row hv hW), fun W hW => Enc_ph bv b n s 2 we EP W (keep_row hv hW) (keep_row hb hW), fun W hW => Len_ph bv b n s 2 we EP W (keep_row hv hW) (keep_row hb hW), fun W hW => Size_ph bv b n s 2 we EP W (keep_row hv hW) (keep_row hb hW), fun W hW => rawT (Raw_ph bv b 5 n s 2 we 0 0 EP (by decide) W (keep_row hv hW) (keep_row hb hW)), fun W hW => rEnc_group C 5 a b' _ _ hC (Or.inr (Or.inr rfl)) W, fun W hW => rLen_group C 5 a b' _ _ hC (Or.inr (Or.inr rfl)) W (fun W' hW' => hn W' (hW.trans (hW'.mono hW.size))), fun W hW => rSize_5 C 5 a b' _ _ hC W (fun W' hW' => hn W' (hW.trans (hW'.mono hW.size))), fun W hW => rawT (rRaw_5 C 5 a b' lpE _ hC W), pa_ph bv b n s we w hw hv hb, da_ph C a b' it hC w hn⟩
theorem pa_pz (bv b : Nat) (n s we : Int) (w : World) (hw : Lay w) (hv : w.heap[bv]? = some (vC 4 (pzB b))) (hb : w.heap[b]? = some (pkC 141 n s 2 we EP 0 0)) : PA bv (4) (4) (4) (4) (4) (0) (0) w where
  qText := fun W hW => Text_of bv 4 W (fun W' hW' => asText_pz bv 4 b W' (keep_row (keep_row hv hW) hW'))
  qAt := fun W hW => At_ref bv 0 W (fun W' hW' => asList_pz bv 4 b W' (keep_row (keep_row hv hW) hW'))
  qRange := Ans.v none 0 (fun W hW => Range_ref bv 0 5 W (fun W' hW' => asList_pz bv 4 b W' (keep_row (keep_row hv hW) hW')))
  qHas := fun W hW => Has_ref bv ⟨#[]⟩ W (fun W' hW' => asSet_pz bv 4 b W' (keep_row (keep_row hv hW) hW'))
  qMembers := Ans.v none 0 (fun W hW => Members_ref bv W (fun W' hW' => asSet_pz bv 4 b W' (keep_row (keep_row hv hW) hW')))
  qField := fun W hW => Field_ref bv ⟨#[]⟩ W (fun W' hW' => asHash_pz bv 4 b W' (keep_row (keep_row hv hW) hW'))
  qFields := Ans.v none 0 (fun W hW => Fields_ref bv W (fun W' hW' => asHash_pz bv 4 b W' (keep_row (keep_row hv hW) hW')))
  qScore := fun W hW => Score_pz bv b n s we 0 0 W (keep_row hv hW) (hw.on hW) (keep_row hb hW)
  qRank := fun W hW => Rank_pz bv b n s we 0 0 false W (keep_row hv hW) (hw.on hW) (keep_row hb hW)
  qByRank := fun W hW => ByRank_pz bv b n s we W (keep_row hv hW) (hw.on hW) (keep_row hb hW)
  qByScore := fun W hW => ByScore_pz bv b n s we W (keep_row hv hW) (hw.on hW) (keep_row hb hW)
  qByLex := fun W hW => ByLex_pz bv b n s we W (keep_row hv hW) (hw.on hW) (keep_row hb hW)
  qScan := fun W hW => toV (mk := fun q c => .tuple #[.slice q 0 c, .int .i64 0, .int .i64 0]) (Scan_pz bv b n s we 0 0 0 5 W (keep_row hv hW) (hw.on hW) (keep_row hb hW))
theorem da_pz (C : Array Value) (a b : Int) (it : ByteArray) (hC : RV C 4 a b lpE it) (w : World) (hn : ∀ W, Below w.heap.size w W → Calls Tryz.prog 106 #[.agg C] W fun e w' => e = .returned (.slice none 0 0) ∧ Below W.heap.size W w') : DA C (4) (4) (4) (4) (4) (0) (0) w where
  qText := fun W hW => rText_ref C 4 (by decide) hC.2.1 W
  qAt := fun W hW => rAt_ref C 4 (by decide) hC.2.1 0 W
  qRange := Ans.v none 0 (fun W hW => rRange_ref C 4 (by decide) hC.2.1 0 5 W)
  qHas := fun W hW => rHas_ref C 4 (by decide) hC.2.1 ⟨#[]⟩ W
  qMembers := Ans.v none 0 (fun W hW => rMembers_ref C 4 (by decide) hC.2.1 W)
  qField := fun W hW => rField_ref C 4 (by decide) hC.2.1 ⟨#[]⟩ W
  qFields := Ans.v none 0 (fun W hW => rFields_ref C 4 (by decide) hC.2.1 W)
  qScore := fun W hW => rScore_nil C 4 a b _ _ hC ⟨#[]⟩ W
  qRank := fun W hW => rRank_nil C 4 a b _ _ hC ⟨#[]⟩ false W
  qByRank := Ans.v none 0 (fun W hW => rByRank_nil C 4 a b _ _ hC false W)
  qByScore := Ans.v none 0 (fun W hW => rByScore_nil C 4 a b _ _ hC false W)
  qByLex := Ans.v none 0 (fun W hW => rByLex_nil C 4 a b _ _ hC false W)
  qScan := Ans.v none 0 (fun W hW => rScan_4 C 4 a b lpE _ hC 0 5 W (fun W' hW' => hn W' (hW.trans (hW'.mono hW.size))))
theorem emp_pz (bv b : Nat) (n s we : Int) (C : Array Value) (a b' : Int) (it : ByteArray) (hC : RV C 4 a b' lpE it) (h1 : C.all (·.oneCell') = true) (w : World) (hw : Lay w) (hv : w.heap[bv]? = some (vC 4 (pzB b))) (hb : w.heap[b]? = some (pkC 141 n s 2 we EP 0 0)) : Emp bv C w := by
  have hn : ∀ W, Below w.heap.size w W → Calls Tryz.prog 106 #[.agg C] W fun e w' => e = .returned (.slice none 0 0) ∧ Below W.heap.size W w' := fun W hW => rnames_plain C 4 a b' lpE it hC W
  exact ⟨4, a, b', lpE, it, lpE, [EP], 4, 4, 4, 4, 4, 0, 0, hC, h1, by simp, fun W hW => Kind_any bv 4 _ W (keep_row hv hW), fun W hW => Enc_pz bv b n s 2 we EP W (keep_row hv hW) (keep_row hb hW), fun W hW => Len_pz bv b n s 2 we EP W (keep_row hv hW) (keep_row hb hW), fun W hW => Size_pz bv b n s 2 we EP W (keep_row hv hW) (keep_row hb hW), fun W hW => rawT (Raw_pz bv b 4 n s 2 we 0 0 EP (by decide) W (keep_row hv hW) (keep_row hb hW)), fun W hW => rEnc_group C 4 a b' _ _ hC (Or.inr (Or.inl rfl)) W, fun W hW => rLen_group C 4 a b' _ _ hC (Or.inr (Or.inl rfl)) W (fun W' hW' => hn W' (hW.trans (hW'.mono hW.size))), fun W hW => rSize_4 C 4 a b' _ _ hC W (fun W' hW' => hn W' (hW.trans (hW'.mono hW.size))), fun W hW => rawT (rRaw_4 C 4 a b' lpE _ hC W), pa_pz bv b n s we w hw hv hb, da_pz C a b' it hC w hn⟩
end Go.Proofs.YtfkcpilkhdbpoaaGreatDoor.V
namespace Go.Proofs.YtfkcpilkhdbpoaaGreatDoor.V
open Go.RowKit
open S6 (Laid Lay)
set_option linter.unusedVariables false
set_option linter.unusedSimpArgs false
theorem rV_all (k : Int) (t : TH) (en : ByteArray) (a b : Int) (it : ByteArray) : ∃ C, rV k t en a b it = .agg C ∧ RV C k a b en it ∧ C.all (·.oneCell') = true := ⟨_, rfl, ⟨rfl, rfl, rfl, rfl, rfl, rfl, rfl, rfl, rfl, rfl, rfl⟩, by kernel_rfl⟩
set_option maxHeartbeats 1000000 in
theorem plays_all (k : Int) (t : TH) (O : Array Value) (hO : OPC O) (go : Nat) (w : World) (hL : Lay w) (hgo : w.heap[go]? = some (.cells O 36)) :
    Calls Tryz.prog 6 #[.int .i64 k, thV t, .slice (some ⟨go, 0, none⟩) 1 1] w fun e w' => e = .returned (.bool true) ∧ Below w.heap.size w w' := by
  have hZ : rZ.size = 25 ∧ rZ.all (·.oneCell') = true := ⟨rfl, by kernel_rfl⟩
  by_cases hk : 1 ≤ k ∧ k ≤ 5
  · cases ht : okT t with
    | false => exact plays_ref k t rZ _ hZ.1 hZ.2 w hL (fun W _ => New_bad k t ht W) (fun W => rNew_badT k hk t ht W)
    | true =>
      have h5 : k = 1 ∨ k = 2 ∨ k = 3 ∨ k = 4 ∨ k = 5 := by omega
      rcases h5 with rfl | rfl | rfl | rfl | rfl
      · obtain ⟨C, hCe, hC, hC1⟩ := rV_all 1 t lpE 0 0 ⟨#[]⟩
        refine plays_ok 1 t C O go w hL hO hgo (fun W hW => (New_str t ht W).mono ?_) (fun W => by rw [← hCe]; exact rNew_plain 1 (Or.inl rfl) t ht W)
        rintro e w' ⟨bv, rfl, _, hv, hb⟩
        exact ⟨bv, rfl, emp_tx bv C 0 0 _ hC hC1 w' ((hL.on hW).on hb) hv, hb⟩
      · obtain ⟨C, hCe, hC, hC1⟩ := rV_all 2 t lpE t.a t.b ⟨#[]⟩
        refine plays_ok 2 t C O go w hL hO hgo (fun W hW => (New_list t ht W).mono ?_) (fun W => by rw [← hCe]; exact rNew_list t ht W)
        rintro e w' ⟨bv, bs, rfl, _, _, hl, hv, hb⟩
        exact ⟨bv, rfl, emp_li bv bs C _ _ _ hC hC1 w' ((hL.on hW).on hb) hv hl, hb⟩
      · obtain ⟨C, hCe, hC, hC1⟩ := rV_all 3 t isE 0 0 ⟨#[2, 0, 0, 0, 0, 0, 0, 0]⟩
        refine plays_ok 3 t C O go w hL hO hgo (fun W hW => (New_set t ht W).mono ?_) (fun W => by rw [← hCe]; exact rNew_set t ht W)
        rintro e w' ⟨bv, bs, rfl, _, _, hs, hv, hb⟩
        exact ⟨bv, rfl, emp_is bv bs _ _ _ C 0 0 hC hC1 w' ((hL.on hW).on hb) hv hs, hb⟩
      · obtain ⟨C, hCe, hC, hC1⟩ := rV_all 4 t lpE 0 0 ⟨#[]⟩
        refine plays_ok 4 t C O go w hL hO hgo (fun W hW => (New_zset t ht W (hL.on hW)).mono ?_) (fun W => by rw [← hCe]; exact rNew_plain 4 (Or.inr (Or.inl rfl)) t ht W)
        rintro e w' ⟨bv, bs, rfl, _, _, hs, hv, hb⟩
        exact ⟨bv, rfl, emp_pz bv bs _ _ _ C 0 0 _ hC hC1 w' ((hL.on hW).on hb) hv hs, hb⟩
      · obtain ⟨C, hCe, hC, hC1⟩ := rV_all 5 t lpE 0 0 ⟨#[]⟩
        refine plays_ok 5 t C O go w hL hO hgo (fun W hW => (New_hash t ht W (hL.on hW)).mono ?_) (fun W => by rw [← hCe]; exact rNew_plain 5 (Or.inr (Or.inr rfl)) t ht W)
        rintro e w' ⟨bv, bs, rfl, _, _, hs, hv, hb⟩
        exact ⟨bv, rfl, emp_ph bv bs _ _ _ C 0 0 _ hC hC1 w' ((hL.on hW).on hb) hv hs, hb⟩
  · have hD : ∀ W, Calls Tryz.prog 8 #[.int .i64 k, thV t] W fun e w' => e = .returned (.tuple #[.agg rZ, .int .i64 1]) ∧ Below W.heap.size W w' := fun W => by
      by_cases h1 : k < 1
      · exact rNew_low k h1 t W
      · exact rNew_high k (by omega) t W
    cases ht : okT t with
    | false => exact plays_ref k t rZ _ hZ.1 hZ.2 w hL (fun W _ => New_bad k t ht W) hD
    | true => exact plays_ref k t rZ _ hZ.1 hZ.2 w hL (fun W _ => New_kind k hk t ht W) hD
end Go.Proofs.YtfkcpilkhdbpoaaGreatDoor.V
namespace Go.Proofs.YtfkcpilkhdbpoaaGreatDoor.V
open Go.RowKit
open S6 (Laid Lay)
set_option linter.unusedVariables false
set_option linter.unusedSimpArgs false
theorem i23 : (Tryz.prog.info? 23).map (·.size) = some 9 := by kernel_rfl
theorem yl23 {ops : Array Oper} {S : World → Prop} {op : Oper} {a : Act} (l : List Value) (r : Nat) (x : Operand) (ho : op.op = .load 23 x) (hx : a.eval x = .pointer (some ⟨r, 0, none⟩)) (hS : ∀ w, S w → w.rangeAt r 0 l) (h9 : l.length = 9) (hw : Region.wanted op (yielded ops a.tmps) = true := by rfl) : YieldsIf Tryz.prog ops S op (.agg l.toArray) a :=
  yieldsIf_load_mid (P := Tryz.prog) (ops := ops) (S := S) (a := a) hw 23 x ho r 0 hx l _ hS Tryz.underlying23 rfl (by rw [h9]; exact i23)
theorem wp_valK {P : Program} {o : Oper} {a : Act} {w w' : World} {v : Value} {K : Act → World → Prop} {Q : Exit → Act → World → Prop} (hr : (execOp a.eval o).run P w = .ok (.value v) w') (h : K (a.put o.dst v) w') : o.wp P a w K Q := by
  unfold Oper.wp
  rw [hr]
  exact h
set_option maxHeartbeats 8000000 in
set_option maxRecDepth 20000 in
theorem news_walk (k : Int) (t : TH) (w : World) (hL : Lay w) : Calls Tryz.prog 3 #[.int .i64 k, thV t] w fun e w' => e = .returned (.bool true) ∧ Below w.heap.size w w' := by
  obtain ⟨O, hO⟩ : ∃ O : Array Value, O = #[.int .i64 13, .slice none 0 0, .slice none 0 0, .slice none 0 0, .int .i64 0, .int .i64 5, .bool false, .int .i64 0, .int .i64 0, .bool false, .int .i64 0, .int .i64 0, .bool false, .string ⟨#[]⟩, .int .i64 0, .bool false, .string ⟨#[]⟩, .int .i64 0, .bool false] := ⟨_, rfl⟩
  have hOP : OPC O := by rw [hO]; exact ⟨rfl, rfl, rfl, rfl, rfl, rfl, rfl, rfl, rfl, rfl, rfl, rfl, rfl, rfl, rfl, rfl, rfl, rfl⟩
  have hOO : Hid (O = #[.int .i64 13, .slice none 0 0, .slice none 0 0, .slice none 0 0, .int .i64 0, .int .i64 5, .bool false, .int .i64 0, .int .i64 0, .bool false, .int .i64 0, .int .i64 0, .bool false, .string ⟨#[]⟩, .int .i64 0, .bool false, .string ⟨#[]⟩, .int .i64 0, .bool false]) := hO
  have HPL : Hid (∀ W go, Below w.heap.size w W → W.heap[go]? = some (.cells O 36) → Calls Tryz.prog 6 #[.int .i64 k, thV t, .slice (some ⟨go, 0, none⟩) 1 1] W fun e w' => e = .returned (.bool true) ∧ Below W.heap.size W w') := fun W go hW hg => plays_all k t O hOP go W (hL.on hW) hg
  obtain ⟨cc, hcc⟩ : ∃ cc : Int, (if okT t = true then (0 : Int) else 1) = cc := ⟨_, rfl⟩
  have HC1 : Hid (∀ W, Calls Tryz.prog 4 #[thV t] W fun e w' => e = .returned (.int .i64 cc) ∧ Below W.heap.size W w') := fun W => by have := Check_any t W; rw [hcc] at this; exact this
  have HC2 : Hid (∀ W, Calls Tryz.prog 5 #[thV t] W fun e w' => e = .returned (.int .i64 cc) ∧ Below W.heap.size W w') := fun W => by have := rCheck_any t W; rw [hcc] at this; exact this
  clear hcc hO hOP hL
  obtain ⟨a, b, c, d, e, f, g, h, i⟩ := t
  unfold thV at *
  simp only [] at *
  obtain ⟨W1, hW1⟩ : ∃ W, W = w.alloc (.cells #[.int .i64 a, .int .i64 b, .int .i64 c, .int .i64 d, .int .i64 e, .int .i64 f, .int .i64 g, .int .i64 h, .int .i64 i] 23) := ⟨_, rfl⟩
  obtain ⟨r, hr⟩ : ∃ r, w.heap.size = r := ⟨_, rfl⟩
  have HA : Hid (W1.heap[r]? = some (.cells #[.int .i64 a, .int .i64 b, .int .i64 c, .int .i64 d, .int .i64 e, .int .i64 f, .int .i64 g, .int .i64 h, .int .i64 i] 23)) := by rw [hW1, ← hr]; exact one_alloc _ _
  have HUP : Hid (∀ W, Below W1.heap.size W1 W → Below w.heap.size w W) := fun W hW => by
    have h1 : Below w.heap.size w W1 := by rw [hW1]; exact (Below.refl _ _).alloc (Nat.le_refl _) _
    exact h1.trans (hW.mono h1.size)
  have HKS : Hid (∀ W, Below W1.heap.size W1 W → W.rangeAt r 0 [.int .i64 a, .int .i64 b, .int .i64 c, .int .i64 d, .int .i64 e, .int .i64 f, .int .i64 g, .int .i64 h, .int .i64 i]) := fun W hW j v hv => by
    rw [cell_of_row _ _ _ _ _ _ (keep_row HA.out hW)]
    simpa using hv
  have HRR : Hid (w.heap.size = r) := hr
  clear hr
  go_enter Tryz.func3, Tryz.ntmps3
  go_upto_region 1 with fail
  rw [← hW1, HRR.out]
  clear hW1
  have hcur : Below W1.heap.size W1 W1.drew := (Below.refl _ W1).drew
  refine wp_region_held_drew (S := fun W : World => W.rangeAt r 0 [.int .i64 a, .int .i64 b, .int .i64 c, .int .i64 d, .int .i64 e, .int .i64 f, .int .i64 g, .int .i64 h, .int .i64 i]) (by kernel_rfl) (HKS.out _ hcur) (fun hHeld => ?_)
  refine wpAnyH_take (i := 0) (oi := { dst := some 5, op := Op.load 23 (Operand.tmp 3), type := 23, pos := "law.go:258", after := #[], guard := none }) (v := .agg #[.int .i64 a, .int .i64 b, .int .i64 c, .int .i64 d, .int .i64 e, .int .i64 f, .int .i64 g, .int .i64 h, .int .i64 i]) rfl (by kernel_rfl) (by kernel_rfl) (by kernel_rfl) (fun _ _ _ h => h) (yl23 [.int .i64 a, .int .i64 b, .int .i64 c, .int .i64 d, .int .i64 e, .int .i64 f, .int .i64 g, .int .i64 h, .int .i64 i] r _ rfl rfl (fun _ h => h) rfl) (by assumption) ?z0
  try simp only [Act.put, List.setIfInBounds_toArray, List.set_cons_zero, List.set_cons_succ]
  refine wpAnyH_take (i := 2) (oi := { dst := some 7, op := Op.load 23 (Operand.tmp 3), type := 23, pos := "law.go:258", after := #[], guard := none }) (v := .agg #[.int .i64 a, .int .i64 b, .int .i64 c, .int .i64 d, .int .i64 e, .int .i64 f, .int .i64 g, .int .i64 h, .int .i64 i]) rfl (by kernel_rfl) (by kernel_rfl) (by kernel_rfl) (fun _ _ _ h => h) (yl23 [.int .i64 a, .int .i64 b, .int .i64 c, .int .i64 d, .int .i64 e, .int .i64 f, .int .i64 g, .int .i64 h, .int .i64 i] r _ rfl rfl (fun _ h => h) rfl) (by assumption) ?z2
  try simp only [Act.put, List.setIfInBounds_toArray, List.set_cons_zero, List.set_cons_succ]
  refine wpAnyH_ready (rs := [1]) (by kernel_rfl) (by simp) ?_
  refine AllReadyH.cons (o := { dst := some 6, op := Op.call { callee := Callee.value (Operand.func 4), args := #[Operand.tmp 5], argTypes := #[23] }, type := 24, pos := "law.go:258", after := #[{ on := 0, ground := Ground.data }], guard := none }) rfl (fun K hK => ?_) AllReadyH.nil
  first | (go_at_call 4; refine (show Calls _ _ _ _ _ from HC1.out _).mono ?_; rintro e a1 ⟨rfl, hb1⟩; have hcur := hcur.trans (hb1.mono hcur.size)) | (go_simp; go_at_call 4; refine (show Calls _ _ _ _ _ from HC1.out _).mono ?_; rintro e a1 ⟨rfl, hb1⟩; have hcur := hcur.trans (hb1.mono hcur.size))
  refine hK.out _ _ (HKS.out _ hcur) (fun hHeld => ?_)
  clear hK K
  try simp only [Act.put, List.setIfInBounds_toArray, List.set_cons_zero, List.set_cons_succ]
  refine wpAnyH_ready (rs := [3]) (by kernel_rfl) (by simp) ?_
  refine AllReadyH.cons (o := { dst := some 8, op := Op.call { callee := Callee.value (Operand.func 5), args := #[Operand.tmp 7], argTypes := #[23] }, type := 3, pos := "law.go:258", after := #[{ on := 2, ground := Ground.data }, { on := 1, ground := Ground.chain }], guard := none }) rfl (fun K hK => ?_) AllReadyH.nil
  first | (go_at_call 5; refine (show Calls _ _ _ _ _ from HC2.out _).mono ?_; rintro e a1 ⟨rfl, hb1⟩; have hcur := hcur.trans (hb1.mono hcur.size)) | (go_simp; go_at_call 5; refine (show Calls _ _ _ _ _ from HC2.out _).mono ?_; rintro e a1 ⟨rfl, hb1⟩; have hcur := hcur.trans (hb1.mono hcur.size))
  refine hK.out _ _ (HKS.out _ hcur) (fun hHeld => ?_)
  clear hK K
  try simp only [Act.put, List.setIfInBounds_toArray, List.set_cons_zero, List.set_cons_succ]
  refine wpAnyH_take (i := 4) (oi := { dst := some 9, op := Op.binOp BinOp.eql 3 (Operand.tmp 6) (Operand.tmp 8) 3, type := 4, pos := "law.go:258", after := #[{ on := 1, ground := Ground.data }, { on := 3, ground := Ground.data }], guard := none }) (v := .bool true) rfl (by kernel_rfl) (by kernel_rfl) (by kernel_rfl) (fun _ _ _ h => h) (Or.inl ⟨by rfl, ?y4⟩) (by assumption) ?z4
  case y4 =>
    intro w hSw
    (try dsimp only at hSw)
    first | (go_simp; done) | (go_simp; with_reducible rfl) | (go_simp; rfl)
  try simp only [Act.put, List.setIfInBounds_toArray, List.set_cons_zero, List.set_cons_succ]
  refine wpAnyH_take (i := 5) (oi := { dst := some 10, op := Op.move (Operand.tmp 9), type := 4, pos := "law.go:258", after := #[{ on := 4, ground := Ground.data }, { on := 3, ground := Ground.chain }], guard := none }) (v := .bool true) rfl (by kernel_rfl) (by kernel_rfl) (by kernel_rfl) (fun _ _ _ h => h) (Or.inl ⟨by rfl, ?y5⟩) (by assumption) ?z5
  case y5 =>
    intro w hSw
    (try dsimp only at hSw)
    first | (go_simp; done) | (go_simp; with_reducible rfl) | (go_simp; rfl)
  try simp only [Act.put, List.setIfInBounds_toArray, List.set_cons_zero, List.set_cons_succ]
  refine wpAnyH_take (i := 6) (oi := { dst := some 11, op := Op.move (Operand.tmp 0), type := 3, pos := "law.go:258", after := #[{ on := 5, ground := Ground.guard }], guard := some (5, true) }) (v := .int .i64 k) rfl (by kernel_rfl) (by kernel_rfl) (by kernel_rfl) (fun _ _ _ h => h) (Or.inl ⟨by rfl, ?y6⟩) (by assumption) ?z6
  case y6 =>
    intro w hSw
    (try dsimp only at hSw)
    first | (go_simp; done) | (go_simp; with_reducible rfl) | (go_simp; rfl)
  try simp only [Act.put, List.setIfInBounds_toArray, List.set_cons_zero, List.set_cons_succ]
  refine wpAnyH_take (i := 7) (oi := { dst := some 12, op := Op.load 23 (Operand.tmp 3), type := 23, pos := "law.go:258", after := #[{ on := 5, ground := Ground.guard }], guard := some (5, true) }) (v := .agg #[.int .i64 a, .int .i64 b, .int .i64 c, .int .i64 d, .int .i64 e, .int .i64 f, .int .i64 g, .int .i64 h, .int .i64 i]) rfl (by kernel_rfl) (by kernel_rfl) (by kernel_rfl) (fun _ _ _ h => h) (yl23 [.int .i64 a, .int .i64 b, .int .i64 c, .int .i64 d, .int .i64 e, .int .i64 f, .int .i64 g, .int .i64 h, .int .i64 i] r _ rfl rfl (fun _ h => h) rfl) (by assumption) ?z7
  try simp only [Act.put, List.setIfInBounds_toArray, List.set_cons_zero, List.set_cons_succ]
  refine wpAnyH_take (i := 8) (oi := { dst := some 13, op := Op.build 36 #[(0, Operand.const (Value.int IntKind.i64 13)), (5, Operand.const (Value.int IntKind.i64 5))], type := 36, pos := "law.go:258", after := #[{ on := 5, ground := Ground.guard }], guard := some (5, true) }) (v := .agg #[.int .i64 13, .slice none 0 0, .slice none 0 0, .slice none 0 0, .int .i64 0, .int .i64 5, .bool false, .int .i64 0, .int .i64 0, .bool false, .int .i64 0, .int .i64 0, .bool false, .string ⟨#[]⟩, .int .i64 0, .bool false, .string ⟨#[]⟩, .int .i64 0, .bool false]) rfl (by kernel_rfl) (by kernel_rfl) (by kernel_rfl) (fun _ _ _ h => h) (Or.inl ⟨by rfl, ?y8⟩) (by assumption) ?z8
  case y8 =>
    intro w hSw
    (try dsimp only at hSw)
    first | (go_simp; done) | (go_simp; with_reducible rfl) | (go_simp; rfl)
  try simp only [Act.put, List.setIfInBounds_toArray, List.set_cons_zero, List.set_cons_succ]
  refine wpAnyH_ready (rs := [9]) (by kernel_rfl) (by simp) ?_
  refine AllReadyH.cons (o := { dst := some 14, op := Op.buildSlice 37 1 #[(0, Operand.tmp 13)], type := 37, pos := "law.go:258", after := #[{ on := 8, ground := Ground.data }, { on := 5, ground := Ground.guard }], guard := some (5, true) }) rfl (fun K hK => ?_) AllReadyH.nil
  go_simp
  rw [← hOO.out]
  obtain ⟨gp, hgp⟩ : ∃ gp, a1.heap.size = gp := ⟨_, rfl⟩
  have hgr : (a1.alloc (.cells O 36)).heap[gp]? = some (.cells O 36) := by rw [← hgp]; exact one_alloc _ _
  have hcur := hcur.alloc hcur.size (.cells O 36)
  rw [hgp]
  clear hgp
  refine hK.out _ _ (HKS.out _ hcur) (fun hHeld => ?_)
  clear hK K
  try simp only [Act.put, List.setIfInBounds_toArray, List.set_cons_zero, List.set_cons_succ]
  refine wpAnyH_ready (rs := [10]) (by kernel_rfl) (by simp) ?_
  refine AllReadyH.cons (o := { dst := some 15, op := Op.call { callee := Callee.value (Operand.func 6), args := #[Operand.tmp 11, Operand.tmp 12, Operand.tmp 14], argTypes := #[3, 23, 37] }, type := 4, pos := "law.go:258", after := #[{ on := 6, ground := Ground.data }, { on := 7, ground := Ground.data }, { on := 9, ground := Ground.data }, { on := 5, ground := Ground.chain }, { on := 5, ground := Ground.guard }], guard := some (5, true) }) rfl (fun K hK => ?_) AllReadyH.nil
  first | (go_at_call 6; refine (show Calls _ _ _ _ _ from HPL.out _ _ (HUP.out _ hcur) hgr).mono ?_; rintro e a2 ⟨rfl, hb2⟩; have hcur := hcur.trans (hb2.mono hcur.size)) | (go_simp; go_at_call 6; refine (show Calls _ _ _ _ _ from HPL.out _ _ (HUP.out _ hcur) hgr).mono ?_; rintro e a2 ⟨rfl, hb2⟩; have hcur := hcur.trans (hb2.mono hcur.size))
  refine hK.out _ _ (HKS.out _ hcur) (fun hHeld => ?_)
  clear hK K
  try simp only [Act.put, List.setIfInBounds_toArray, List.set_cons_zero, List.set_cons_succ]
  refine wpAnyH_take (i := 11) (oi := { dst := some 16, op := Op.pick (Operand.tmp 10) (Operand.tmp 15) (Operand.const (Value.bool false)), type := 4, pos := "law.go:258", after := #[{ on := 5, ground := Ground.data }, { on := 10, ground := Ground.data }], guard := none }) (v := .bool true) rfl (by kernel_rfl) (by kernel_rfl) (by kernel_rfl) (fun _ _ _ h => h) (Or.inl ⟨by rfl, ?y11⟩) (by assumption) ?z11
  case y11 =>
    intro w hSw
    (try dsimp only at hSw)
    first | (go_simp; done) | (go_simp; with_reducible rfl) | (go_simp; rfl)
  try simp only [Act.put, List.setIfInBounds_toArray, List.set_cons_zero, List.set_cons_succ]
  refine wpAnyH_take (i := 12) (oi := { dst := some 4, op := Op.assign (Operand.tmp 16), type := 4, pos := "law.go:258", after := #[{ on := 11, ground := Ground.data }, { on := 10, ground := Ground.chain }, { on := 0, ground := Ground.phase }, { on := 1, ground := Ground.phase }, { on := 2, ground := Ground.phase }, { on := 3, ground := Ground.phase }, { on := 4, ground := Ground.phase }, { on := 5, ground := Ground.phase }, { on := 6, ground := Ground.phase }, { on := 7, ground := Ground.phase }, { on := 8, ground := Ground.phase }, { on := 9, ground := Ground.phase }, { on := 10, ground := Ground.phase }, { on := 11, ground := Ground.phase }], guard := none }) (v := .bool true) rfl (by kernel_rfl) (by kernel_rfl) (by kernel_rfl) (fun _ _ _ h => h) (Or.inl ⟨by rfl, ?y12⟩) (by assumption) ?z12
  case y12 =>
    intro w hSw
    (try dsimp only at hSw)
    first | (go_simp; done) | (go_simp; with_reducible rfl) | (go_simp; rfl)
  try simp only [Act.put, List.setIfInBounds_toArray, List.set_cons_zero, List.set_cons_succ]
  refine wpAnyH_done (by kernel_rfl) ?_ _
  go_wp2
  go_ret
  exact ⟨rfl, HUP.out _ hcur⟩
end Go.Proofs.YtfkcpilkhdbpoaaGreatDoor.V
namespace Go.Proofs.YtfkcpilkhdbpoaaGreatDoor
open Go
set_option maxRecDepth 100000
theorem and2 {a b : Bool} (ha : a = true) (hb : b = true) : (a && b) = true := by rw [ha, hb]; rfl
theorem laidOut : laidOutB Tryz.prog = true := and2 (and2 lo_types lo_globs) lo_funcs
theorem joined : joinedFacts Tryz.prog 3 Tryz.f3 Rows.valueNewsSpec Rows.valueNewsRow = true := by
  unfold joinedFacts
  rw [if_pos jf_k25d]
  rw [jf_k1, laidOut, jf_maps, jf_k4, jf_k5, jf_k6, jf_stops, jf_k8, jf_knobs, jf_inPlace, jf_unf, jf_rec, jf_named, jf_k14, jf_k15, jf_k16, jf_k17, jf_k17b, jf_k18, jf_k19, jf_k20, jf_k21, jf_k22, jf_k23, jf_k23b, jf_k24, jf_k24b, jf_k24c, jf_k25, jf_k26, jf_k27, jf_k28]
  rfl
end Go.Proofs.YtfkcpilkhdbpoaaGreatDoor
namespace Go.Proofs.YtfkcpilkhdbpoaaGreatDoor.valueNews
open Go.ChangeShapes Go.WideShapes Go.ChangeAt Go.RowKit
open Go.ChangeMaps (open_string shut_string)
theorem cellsTh : Tryz.prog.cellsOf 23 = 9 := by kernel_rfl
set_option maxRecDepth 100000 in
theorem open_th {H : Type} {enc : TypeId × Value → H} {W : World} {fuel : Nat} {cs : List Value} {x : DataW H × List MemPlace} (hc : cs.length = 9)
    (h : DataW.trod enc Tryz.prog W 0 (fun _ => true) true fuel 23 cs = some x) :
    ∃ z0 z1 z2 z3 z4 z5 z6 z7 z8 : Int, cs = [.int .i64 z0, .int .i64 z1, .int .i64 z2, .int .i64 z3, .int .i64 z4, .int .i64 z5, .int .i64 z6, .int .i64 z7, .int .i64 z8] := by
  obtain ⟨xs, k, hk, hxy, _, hxl, hf⟩ := DataW.trod_struct Tryz.underlying23 h
  match xs, hxl, cs, hc with
  | [y0, y1, y2, y3, y4, y5, y6, y7, y8], _, [v0, v1, v2, v3, v4, v5, v6, v7, v8], _ =>
    have g0 := hf 0 _ rfl
    have g1 := hf 1 _ rfl
    have g2 := hf 2 _ rfl
    have g3 := hf 3 _ rfl
    have g4 := hf 4 _ rfl
    have g5 := hf 5 _ rfl
    have g6 := hf 6 _ rfl
    have g7 := hf 7 _ rfl
    have g8 := hf 8 _ rfl
    simp [cells3] at g0 g1 g2 g3 g4 g5 g6 g7 g8
    obtain ⟨z0, e0, _, _⟩ := DataW.trod_int Tryz.underlying3 g0
    obtain ⟨z1, e1, _, _⟩ := DataW.trod_int Tryz.underlying3 g1
    obtain ⟨z2, e2, _, _⟩ := DataW.trod_int Tryz.underlying3 g2
    obtain ⟨z3, e3, _, _⟩ := DataW.trod_int Tryz.underlying3 g3
    obtain ⟨z4, e4, _, _⟩ := DataW.trod_int Tryz.underlying3 g4
    obtain ⟨z5, e5, _, _⟩ := DataW.trod_int Tryz.underlying3 g5
    obtain ⟨z6, e6, _, _⟩ := DataW.trod_int Tryz.underlying3 g6
    obtain ⟨z7, e7, _, _⟩ := DataW.trod_int Tryz.underlying3 g7
    obtain ⟨z8, e8, _, _⟩ := DataW.trod_int Tryz.underlying3 g8
    simp at e0 e1 e2 e3 e4 e5 e6 e7 e8
    subst e0
    subst e1
    subst e2
    subst e3
    subst e4
    subst e5
    subst e6
    subst e7
    subst e8
    exact ⟨_, _, _, _, _, _, _, _, _, rfl⟩
set_option linter.unusedVariables false
set_option maxRecDepth 100000 in
theorem lifted (os : Os) (started : os.Started) (H : Type) (enc : TypeId × Value → H) :
    ReturnsInHanded {} Tryz.checked os 3 .any (fun w args => (Rows.valueNewsSpec.pre enc Tryz.prog Tryz.f3 [] false w args ∧ laidMetH Tryz.prog laidL w) ∧ sizedMet enc Tryz.prog Tryz.f3 (OpenSpec.ofChange Rows.valueNewsSpec) false w args)
      (Rows.valueNewsSpec.post enc Tryz.prog Tryz.f3 false true false false) := by
  refine returnsInHanded_of_change_and (C := Tryz.checked) (X := fun w _ => laidMetH Tryz.prog laidL w) (fun _ _ _ hh h => h.of_heap hh) own started (by kernel_rfl) Tryz.func3
    (ChangeSpec.witness_shaped (enc := enc) (C := Tryz.checked) (os := os) (X := fun w _ => laidMetH Tryz.prog laidL w) false (World.doorLaid Tryz.prog 72 os) #[.int .i64 0, .agg #[.int .i64 0, .int .i64 0, .int .i64 0, .int .i64 0, .int .i64 0, .int .i64 0, .int .i64 0, .int .i64 0, .int .i64 0]] 8 rfl (World.shaped_of_RefB (by kernel_rfl) (by kernel_rfl)) (by kernel_rfl) (by kernel_rfl) (by kernel_rfl) (door_met os _)) ?_
  intro W base args ds gs before hval0 hW hcnd hsz0 hL _
  have hval : ∀ (j : Nat) t v, Tryz.f3.params[j]? = some t → args[j]? = some v → Value.okWide Tryz.prog W .any base t v := hval0
  have hsz : (DataW.weightsEach Tryz.prog (Tryz.f3.params.toList ++ Rows.valueNewsSpec.plain.varTypes Tryz.prog) (ds ++ gs)).all (· ≤ reachBytes) = true := hsz0
  have hW' := hW
  obtain ⟨p, q, hA0, hV, rfl, hfz, hnd⟩ := hW
  have hA : DataW.TrodAll enc Tryz.prog W 0 (fun _ => true) true Tryz.f3.params.toList args.toList ds p := hA0
  rw [Tryz.params3] at hA hval hsz
  obtain ⟨v0, vs0, d0, ds0, p0, q0, hargs, rfl, rfl, h0, r0⟩ := trodAll_cons hA
  obtain ⟨v1, vs1, d1, ds1, p1, q1, rfl, rfl, rfl, h1, r1⟩ := trodAll_cons r0
  obtain ⟨rfl, rfl, rfl⟩ := trodAll_nil r1
  obtain rfl : args = #[v0, v1] := by cases args; simp_all
  obtain ⟨rfl, rfl⟩ := trodVars_none hV
  obtain ⟨a0, rfl, rfl, rfl, w0⟩ := open_int Tryz.underlying3 (hval 0 3 v0 rfl rfl) h0
  have hlt1 : ∀ x ∈ p1, x.block < W.heap.size := fun x hx => by simpa using hW'.lt x (by simp [hx])
  have hk1 := h1
  obtain ⟨cs1, rfl, hcs1⟩ := okWide_struct Tryz.underlying23 (hval 1 23 v1 rfl rfl)
  obtain ⟨fuel1, hf1⟩ := h1
  obtain ⟨z0, z1, z2, z3, z4, z5, z6, z7, z8, hce1⟩ := open_th (x := (d1, p1)) (cs := cs1.toList) (by rw [Array.length_toList, hcs1]; exact cellsTh) (by simpa [Value.cells] using hf1)
  obtain rfl : cs1 = #[.int .i64 z0, .int .i64 z1, .int .i64 z2, .int .i64 z3, .int .i64 z4, .int .i64 z5, .int .i64 z6, .int .i64 z7, .int .i64 z8] := by cases cs1; simp_all
  clear hA0 hval0 hsz0
  refine (V.news_walk a0 ⟨z0, z1, z2, z3, z4, z5, z6, z7, z8⟩ W (of_laid hL)).mono fun e W' ⟨he, bel⟩ => ?_
  subst he
  exact ⟨_, rfl, _, _, _, [], _, [], hW', trodAll_mk1 (shut_bool Tryz.underlying4 _), (trodAll_cons_mk (shut_int Tryz.underlying3 w0) (trodAll_cons_mk (Below.trod laidOut (by kernel_rfl) (of_decide_eq_true (by kernel_rfl)) hk1 bel hlt1) trodAll_mk0)), rfl, bel.frame _, fun h => by cases h⟩

theorem over : Rows.ValueNewsSaid :=
  OpenClaim.holds_of_wide 3 Tryz.f3 rfl rfl rfl rfl rfl rfl rfl ⟨rfl, rfl, rfl, rfl, rfl⟩ rfl rfl rfl rfl rfl cd_named Tryz.func3 joined
    (of_decide_eq_true cd_inst) (by unfold Func.isWrapper; first | (rw [if_pos (by decide +kernel)]; kernel_rfl) | (rw [if_neg (by decide +kernel)]; exact ⟨rfl, rfl⟩))
    (fun os started H enc _ => lifted os started H enc)
end Go.Proofs.YtfkcpilkhdbpoaaGreatDoor.valueNews
namespace Go.Proofs.YtfkcpilkhdbpoaaGreatDoor
theorem valueNews_card : Rows.ValueNewsCardSaid :=
  Claim7.holds_tied_plain_at .later [] [.data, .sentinel, .sentinel, .data, .data, .data] true (true, "c4d98483b96d16d21f6ba0e5d6126dfa9d9517dad4dcc6dbf99c9fb72d7afb05") true
    valueNews.over (fun _ h => by cases h) cd_wf (fun _ h => by cases h) valueNews_row_tie rfl ⟨rfl, rfl⟩ cd_main rfl
    (fun f fn hf hfn => by
      obtain rfl : f = 3 := Option.some.inj (cd_named.symm.trans hf) |>.symm
      obtain rfl : fn = Tryz.f3 := (Option.some.inj (Tryz.func3.symm.trans hfn)).symm
      exact ⟨cd_looks, fun j t ht => by
        rw [Tryz.params3] at ht
        have hm : t ∈ [3, 23] := by simpa using Array.mem_of_getElem? ht
        exact (show Tryz.prog.wantsStandIn t = false by simpa using List.all_eq_true.1 cd_wants t hm)⟩)
    cd_goes
#print axioms valueNews_card
end Go.Proofs.YtfkcpilkhdbpoaaGreatDoor
