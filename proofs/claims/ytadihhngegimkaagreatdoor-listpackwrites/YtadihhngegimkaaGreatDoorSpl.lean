import Derived.Test.YtadihhngegimkaaGreatDoorBeg
import Derived.Test.YtadihhngegimkaaGreatDoorLMk4
namespace Go.Proofs.YtadihhngegimkaaGreatDoor
open Go.RowKit
set_option linter.unusedVariables false
/-- a row of texts. -/
def SRow (w : World) (v : Value) (vs : List ByteArray) : Prop :=
  (vs = [] ∧ ∃ p c, v = .slice p 0 c) ∨ (∃ g o c, v = .slice (some ⟨g, o, none⟩) vs.length c ∧ ∀ j (h : j < vs.length), w.cell? ⟨g, o + j, none⟩ = some (.string vs[j]))
theorem SRow.on {w w' : World} {v : Value} {vs : List ByteArray} (h : SRow w v vs) (hb : Below w.heap.size w w') : SRow w' v vs := by
  rcases h with h | ⟨g, o, c, h1, h2⟩
  · exact Or.inl h
  · exact Or.inr ⟨g, o, c, h1, fun j hj => cell_on (h2 j hj) hb⟩
theorem SRow.onB {B : Nat} {w w' w0 : World} {v : Value} {vs : List ByteArray} (h : SRow w0 v vs) (hb0 : Below w0.heap.size w0 w') : SRow w' v vs := h.on hb0
theorem SRow.form {w : World} {v : Value} {vs : List ByteArray} (h : SRow w v vs) : ∃ p c, v = .slice p vs.length c := by
  rcases h with ⟨rfl, p, c, h⟩ | ⟨g, o, c, h1, _⟩
  · exact ⟨p, c, h⟩
  · exact ⟨_, _, h1⟩
/-- Size. -/
def sizeV (v : ByteArray) : Nat := if 524288 < v.size then 0 else LM.esz (LM.itemOf v.data.toList)
set_option maxHeartbeats 1000000 in
set_option maxRecDepth 100000 in
theorem Size_any (v : ByteArray) (hv : v.size ≤ 281474976710656) (w : World) (hw : Lay w) :
    Calls Tryz.prog 57 #[.string v] w fun e w' => e = .returned (.int .i64 (sizeV v : Nat)) ∧ Below w.heap.size w w' := by
  have HW : Hid (Lay w) := hw
  clear hw
  by_cases h : 524288 < v.size
  · have hd : decide ((524288 : Int) < (v.size : Int)) = true := dec_t (by omega)
    have HS : Hid (sizeV v = 0) := by show _ = _; unfold sizeV; rw [if_pos h]
    have HV : Hid _ := hv
    clear hv h
    go_enter Tryz.func57, Tryz.ntmps57
    go_wp2
    go_ret
    exact ⟨by rw [HS.out]; rfl, Below.refl _ _⟩
  · have hd : decide ((524288 : Int) < (v.size : Int)) = false := dec_f (by omega)
    have hwf := LM.itemOf_wf v.data.toList (by rw [list_len]; omega)
    have h1 := LM.dsize_pos (LM.itemOf v.data.toList)
    have h2 := LM.dsize_le _ hwf
    have h3 := LM.bsz_le3 (LM.dsize (LM.itemOf v.data.toList)) (by omega)
    have HS : Hid (sizeV v = LM.dsize (LM.itemOf v.data.toList) + LM.bsz (LM.dsize (LM.itemOf v.data.toList))) := by show _ = _; unfold sizeV LM.esz; rw [if_neg h]
    have HIT : Hid (∀ W, Laid W → Calls Tryz.prog 27 #[.string v] W fun e w' => e = .returned (.agg #[.string (strB (LM.itemOf v.data.toList).txt), .int .i64 (LM.itemOf v.data.toList).num, .bool (LM.itemOf v.data.toList).isN]) ∧ Below W.heap.size W w') := fun W hW => itemOf_any v hv W hW
    have HSZ : Hid (∀ W, Wid W → Calls Tryz.prog 64 #[.agg #[.string (strB (LM.itemOf v.data.toList).txt), .int .i64 (LM.itemOf v.data.toList).num, .bool (LM.itemOf v.data.toList).isN]] W fun e w' => e = .returned (.int .i64 (LM.dsize (LM.itemOf v.data.toList) : Nat)) ∧ Below W.heap.size W w') := fun W hW => size_any _ 524288 (by
      rcases hwf with ⟨h1, h2, h3⟩ | ⟨h1, h2, h3, h4⟩
      · exact Or.inl ⟨h1, h2, h3⟩
      · exact Or.inr ⟨h1, h2, h4⟩) (by omega) W hW
    generalize LM.dsize (LM.itemOf v.data.toList) = D at *
    generalize strB (LM.itemOf v.data.toList).txt = T at *
    generalize (LM.itemOf v.data.toList).num = m at *
    generalize (LM.itemOf v.data.toList).isN = q at *
    have HV : Hid _ := hv
    clear hv h hwf
    go_enter Tryz.func57, Tryz.ntmps57
    go_wp2_with fail
    refine (show Calls _ _ _ _ _ from HIT.out _ HW.out.laid).mono ?_
    rintro e w1 ⟨rfl, hb1⟩
    have HB1 : Hid (Below w.heap.size w w1) := hb1
    clear hb1
    go_wp2_with fail
    refine (show Calls _ _ _ _ _ from HSZ.out _ (HW.out.wid.on HB1.out)).mono ?_
    rintro e w2 ⟨rfl, hb2⟩
    have HB2 : Hid (Below w.heap.size w w2) := bel_to HB1.out hb2 (Nat.le_refl _)
    clear hb2
    go_wp2_with fail
    refine (bsz_any D h1 (by omega) _).mono ?_
    rintro e w3 ⟨rfl, rfl⟩
    go_wp2
    go_ret
    exact ⟨by rw [HS.out]; exact ret_int (by omega), HB2.out⟩
end Go.Proofs.YtadihhngegimkaaGreatDoor
