import Derived.Test.YtadihhngegimkaaGreatDoorOpnM
import Derived.Test.YtadihhngegimkaaGreatDoorRows
import Derived.Test.YtadihhngegimkaaGreatDoorRWrM
import Derived.Test.YtadihhngegimkaaGreatDoorTwin
import Derived.Carry
import Derived.Deep.DeepHandedRow
import Derived.Deep.DeepWitnessRowRef
namespace Go.Proofs.YtadihhngegimkaaGreatDoor
open Go.ChangeShapes Go.WideShapes Go.RowKit
set_option linter.unusedVariables false
theorem bulk_small {H : Type} {l : List (DataW H)} (hk : Rows.uptoSmall H l = true) : Rows.uptoBulkAll l ≤ 1048576 := of_decide_eq_true hk
theorem bulk_part {H : Type} {d : DataW H} {l : List (DataW H)} (h : d ∈ l) : Rows.uptoBulk d ≤ Rows.uptoBulkAll l := by
  induction l with
  | nil => cases h
  | cons x r ih =>
    simp only [Rows.uptoBulkAll]
    rcases List.mem_cons.1 h with e | e
    · subst e; omega
    · have := ih e; omega
theorem bulk_one {H : Type} (d : DataW H) : 1 ≤ Rows.uptoBulk d := by
  cases d with
  | lit l => cases l <;> simp [Rows.uptoBulk]
  | _ => simp [Rows.uptoBulk]
theorem bulk_len {H : Type} (l : List (DataW H)) : l.length ≤ Rows.uptoBulkAll l := by
  induction l with
  | nil => simp [Rows.uptoBulkAll]
  | cons x r ih => have := bulk_one x; simp only [Rows.uptoBulkAll, List.length_cons]; omega
theorem openU_row {H : Type} {enc : TypeId × Value → H} {W : World} {fuel : Nat} {v : Value} {y : DataW H × List MemPlace}
    (h : DataW.trod enc Tryz.prog W 0 (fun _ => true) true fuel 35 [v] = some y) (hb : Rows.uptoBulk y.1 ≤ 1048576) :
    ∃ vs : List ByteArray, SRow W v vs ∧ (∀ c, v = .slice none 0 c → c = 0) ∧ vs.length ≤ 1048576 ∧ ∀ x ∈ vs, x.size ≤ 1048576 := by
  rcases open_strings Tryz.underlying35 Tryz.underlying9 cells9 h with ⟨hcs, hx⟩ | ⟨a, len, cap, ss, hcs, _, hl, hm, hz, hx, hcell, hws⟩
  · have e : v = .slice none 0 0 := by simpa using hcs
    subst e
    exact ⟨[], Or.inl ⟨rfl, none, 0, rfl⟩, fun c h => nil_cap h, by simp, by simp⟩
  · have e : v = .slice (some a) len cap := by simpa using hcs
    subst e
    simp only [if_true] at hz
    have hlen : (ss.take len).length = len := by rw [List.length_take]; omega
    rw [hx] at hb
    simp only [Rows.uptoBulk] at hb
    have h1 := bulk_len (H := H) (strs (ss.take len))
    have h2 : (strs (H := H) (ss.take len)).length = len := by unfold strs; rw [List.length_map, hlen]
    refine ⟨ss.take len, ?_, (fun c h => by cases h), by rw [hlen]; omega, fun x hx' => ?_⟩
    · by_cases h0 : len = 0
      · subst h0
        exact Or.inl ⟨by simp, some a, cap, rfl⟩
      · obtain ⟨b, off, spot⟩ := a
        have hspot : spot = none := by simpa [Addr.add] using World.cell?_spot (hcell 0 (by omega))
        subst hspot
        refine Or.inr ⟨b, off, cap, by rw [hlen], fun j hj => ?_⟩
        have := hcell j (by omega)
        rw [Lib.add_plain] at this
        rw [this, List.getElem_take, List.getD_eq_getElem?_getD, List.getElem?_eq_getElem (by omega)]
        rfl
    · have h3 := bulk_part (H := H) (d := .lit (.string x.data.toList)) (l := strs (ss.take len)) (by unfold strs; exact List.mem_map.2 ⟨x, hx', rfl⟩)
      simp only [Rows.uptoBulk, list_len] at h3
      omega
set_option maxRecDepth 100000 in
theorem openU_ask {H : Type} {enc : TypeId × Value → H} {W : World} {fuel : Nat} {cs : List Value} {x : DataW H × List MemPlace} (hc : cs.length = 5)
    (h : DataW.trod enc Tryz.prog W 0 (fun _ => true) true fuel 23 cs = some x) (hb : Rows.uptoBulk x.1 ≤ 1048576) :
    ∃ (I N S : Int) (V : ByteArray) (b : Bool), cs = [.int .i64 I, .int .i64 N, .int .i64 S, .string V, .bool b] ∧ (-9223372036854775808 ≤ I ∧ I ≤ 9223372036854775807) ∧ (-9223372036854775808 ≤ N ∧ N ≤ 9223372036854775807) ∧ (-9223372036854775808 ≤ S ∧ S ≤ 9223372036854775807) ∧ V.size ≤ 1048576 := by
  obtain ⟨xs, k, hk, hxy, _, hxl, hf⟩ := DataW.trod_struct Tryz.underlying23 h
  match xs, hxl, cs, hc with
  | [y0, y1, y2, y3, y4], _, [v0, v1, v2, v3, v4], _ =>
    have g0 := hf 0 _ rfl
    have g1 := hf 1 _ rfl
    have g2 := hf 2 _ rfl
    have g3 := hf 3 _ rfl
    have g4 := hf 4 _ rfl
    simp [cells3, cells9, cells4b] at g0 g1 g2 g3 g4
    obtain ⟨z0, e0, _, hw0⟩ := DataW.trod_int Tryz.underlying3 g0
    obtain ⟨z1, e1, _, hw1⟩ := DataW.trod_int Tryz.underlying3 g1
    obtain ⟨z2, e2, _, hw2⟩ := DataW.trod_int Tryz.underlying3 g2
    obtain ⟨z3, e3, hy3, _⟩ := DataW.trod_string Tryz.underlying9 g3
    obtain ⟨z4, e4, _⟩ := DataW.trod_bool Tryz.underlying4 g4
    simp at e0 e1 e2 e3 e4
    simp [Lit.wf, IntKind.min, IntKind.max, IntKind.signed, IntKind.bits] at hw0 hw1 hw2
    rw [hxy] at hb
    simp only [Rows.uptoBulk] at hb
    have h3 := bulk_part (H := H) (d := y3.1) (l := [y0, y1, y2, y3, y4].map (·.1)) (by simp)
    rw [hy3] at h3
    simp only [Rows.uptoBulk, list_len] at h3
    subst e0; subst e1; subst e2; subst e3; subst e4
    exact ⟨z0, z1, z2, z3, z4, rfl, ⟨by omega, by omega⟩, ⟨by omega, by omega⟩, ⟨by omega, by omega⟩, by simp only [List.map_cons, List.map_nil] at hb h3; rw [hy3] at hb; simp only [Rows.uptoBulkAll, Rows.uptoBulk, list_len] at hb h3; omega⟩
end Go.Proofs.YtadihhngegimkaaGreatDoor
namespace Go.Proofs.YtadihhngegimkaaGreatDoor
open Go.RowKit
set_option linter.unusedVariables false
/-- the question as it lies. -/
structure AskIs (W : World) (g : Nat) (I N S : Int) (V : ByteArray) (b : Bool) : Prop where
  c0 : W.cell? ⟨g, 0, none⟩ = some (.int .i64 I)
  c1 : W.cell? ⟨g, 1, none⟩ = some (.int .i64 N)
  c2 : W.cell? ⟨g, 2, none⟩ = some (.int .i64 S)
  c3 : W.cell? ⟨g, 3, none⟩ = some (.string V)
  c4 : W.cell? ⟨g, 4, none⟩ = some (.bool b)
theorem AskIs.on {W W' : World} {g : Nat} {I N S : Int} {V : ByteArray} {b : Bool} (h : AskIs W g I N S V b) (hb : Below W.heap.size W W') : AskIs W' g I N S V b :=
  ⟨cell_on h.c0 hb, cell_on h.c1 hb, cell_on h.c2 hb, cell_on h.c3 hb, cell_on h.c4 hb⟩
theorem AskIs.new (w : World) (I N S : Int) (V : ByteArray) (b : Bool) (T : Nat) : AskIs (w.alloc (.cells #[.int .i64 I, .int .i64 N, .int .i64 S, .string V, .bool b] T)) w.heap.size I N S V b := by
  have h := one_alloc w (.cells #[.int .i64 I, .int .i64 N, .int .i64 S, .string V, .bool b] T)
  refine ⟨?_, ?_, ?_, ?_, ?_⟩ <;> rw [cell_of_row _ _ _ _ _ _ h] <;> rfl
/-- what both answer. -/
structure Both (p : ByteArray) (I N : Int) (V : ByteArray) (vs : List ByteArray) (Z1 : ByteArray) (E1 : Int) (Z2 : ByteArray) (E2 : Int) (Z3 : ByteArray) (E3 : Int) : Prop where
  ins : ∀ v W, SRow W v vs → Lay W → Calls Tryz.prog 18 #[.string p, .int .i64 I, v] W fun e w' => e = .returned (.tuple #[.string Z1, .int .i64 E1]) ∧ Below W.heap.size W w'
  rins : ∀ v W, SRow W v vs → (∀ c, v = .slice none 0 c → c = 0) → Calls Tryz.prog 19 #[.string p, .int .i64 I, v] W fun e w' => e = .returned (.tuple #[.string Z1, .int .i64 E1]) ∧ Below W.heap.size W w'
  set_ : ∀ W, Lay W → Calls Tryz.prog 20 #[.string p, .int .i64 I, .string V] W fun e w' => e = .returned (.tuple #[.string Z2, .int .i64 E2]) ∧ Below W.heap.size W w'
  rset : ∀ W, Calls Tryz.prog 21 #[.string p, .int .i64 I, .string V] W fun e w' => e = .returned (.tuple #[.string Z2, .int .i64 E2]) ∧ Below W.heap.size W w'
  del : ∀ W, Lay W → Calls Tryz.prog 22 #[.string p, .int .i64 I, .int .i64 N] W fun e w' => e = .returned (.tuple #[.string Z3, .int .i64 E3]) ∧ Below W.heap.size W w'
  rdel : ∀ W, Calls Tryz.prog 23 #[.string p, .int .i64 I, .int .i64 N] W fun e w' => e = .returned (.tuple #[.string Z3, .int .i64 E3]) ∧ Below W.heap.size W w'
set_option maxHeartbeats 4000000 in
set_option maxRecDepth 100000 in
theorem Writes_both (p : ByteArray) (I N S : Int) (V : ByteArray) (b : Bool) (v : Value) (vs : List ByteArray) (Z1 : ByteArray) (E1 : Int) (Z2 : ByteArray) (E2 : Int) (Z3 : ByteArray) (E3 : Int) (hB : Both p I N V vs Z1 E1 Z2 E2 Z3 E3) (hvl : vs.length * 16 ≤ 140737488351232) (w : World) (hv : SRow w v vs) (hnil : ∀ c, v = .slice none 0 c → c = 0) (hw : Lay w) :
    Calls Tryz.prog 4 #[.string p, .agg #[.int .i64 I, .int .i64 N, .int .i64 S, .string V, .bool b], v] w fun e w' => e = .returned (.bool true) ∧ Below w.heap.size w w' := by
  have HW : Hid (Lay w) := hw
  have HBO : Hid _ := hB
  have HV : Hid (SRow w v vs) := hv
  have HNI : Hid _ := hnil
  have HTW : Hid (∀ W, SRow W v vs → Calls Tryz.prog 17 #[v] W fun e w' => ∃ v', e = .returned v' ∧ SRow w' v' vs ∧ (∀ c, v' = .slice none 0 c → c = 0) ∧ Below W.heap.size W w') := fun W hW => twin_any v vs hvl W hW hnil
  have HWK : Hid (∀ W, Lay W → Calls Tryz.prog 13 #[] W fun e w' => e = .returned (.bool true) ∧ Below W.heap.size W w') := works_any
  have HSM : Hid (∀ v' W, SRow W v' vs → SRow W v vs → Calls Tryz.prog 16 #[v', v] W fun e w' => e = .returned (.bool true) ∧ Below W.heap.size W w') := fun v' W h1 h2 => by
    refine (same_any v' v vs vs (by omega) (by omega) W h1 h2).mono ?_
    rintro e w' ⟨⟨b, rfl, hb⟩, k, rfl⟩
    exact ⟨by rw [hb.2 rfl], below_dn (Below.refl _ _) _⟩
  have hz1 : (Z1.toList == Z1.toList) = true := str_same rfl
  have hz2 : (Z2.toList == Z2.toList) = true := str_same rfl
  have hz3 : (Z3.toList == Z3.toList) = true := str_same rfl
  have h1 : (E1 == E1) = true := by simp
  have h2 : (E2 == E2) = true := by simp
  have h3 : (E3 == E3) = true := by simp
  obtain ⟨P, c, rfl⟩ := hv.form
  clear hv hw hB hnil hvl
  go_enter Tryz.func4, Tryz.ntmps4
  go_wp2_with fail
  obtain ⟨W0, hW0⟩ : ∃ W0, W0 = w.alloc (.cells #[.int .i64 I, .int .i64 N, .int .i64 S, .string V, .bool b] 23) := ⟨_, rfl⟩
  have HB0 : Hid (Below w.heap.size w W0) := by rw [hW0]; exact (Below.refl _ w).alloc (Nat.le_refl _) _
  have HA0 : Hid (AskIs W0 w.heap.size I N S V b) := by rw [hW0]; exact AskIs.new w I N S V b _
  rw [← hW0]
  clear hW0
  refine (show Calls _ _ _ _ _ from HTW.out _ (HV.out.on HB0.out)).mono ?_
  rintro e w1 ⟨v', rfl, hs1, hn1, hb⟩
  obtain ⟨P', c', rfl⟩ := hs1.form
  have HM1 : Hid (SRow w1 (.slice P' vs.length c') vs) := hs1
  have HB1 : Hid (Below w.heap.size w w1) := bel_to HB0.out hb (Nat.le_refl _)
  have HA1 : Hid (AskIs w1 w.heap.size I N S V b) := HA0.out.on hb
  clear hb hs1 hn1
  have ⟨k0, k1, k2, k3, k4⟩ := HA1.out
  go_wp2_with fail
  clear k0 k1 k2 k3 k4
  refine (show Calls _ _ _ _ _ from HBO.out.ins _ _ HM1.out (HW.out.on HB1.out)).mono ?_
  rintro e w2 ⟨rfl, hb⟩
  have HX2 : Hid (Below w1.heap.size w1 w2) := hb
  have HB2 : Hid (Below w.heap.size w w2) := bel_to HB1.out hb (Nat.le_refl _)
  have HA2 : Hid (AskIs w2 w.heap.size I N S V b) := HA1.out.on hb
  clear hb
  have ⟨k0, k1, k2, k3, k4⟩ := HA2.out
  go_wp2_with fail
  clear k0 k1 k2 k3 k4
  refine (show Calls _ _ _ _ _ from HBO.out.rins _ _ (HV.out.on HB2.out) HNI.out).mono ?_
  rintro e w3 ⟨rfl, hb⟩
  have HX3 : Hid (Below w1.heap.size w1 w3) := bel_to HX2.out hb (Nat.le_refl _)
  have HB3 : Hid (Below w.heap.size w w3) := bel_to HB2.out hb (Nat.le_refl _)
  have HA3 : Hid (AskIs w3 w.heap.size I N S V b) := HA2.out.on hb
  clear hb
  have ⟨k0, k1, k2, k3, k4⟩ := HA3.out
  go_wp2_with fail
  clear k0 k1 k2 k3 k4
  refine (show Calls _ _ _ _ _ from HBO.out.set_ _ (HW.out.on HB3.out)).mono ?_
  rintro e w4 ⟨rfl, hb⟩
  have HX4 : Hid (Below w1.heap.size w1 w4) := bel_to HX3.out hb (Nat.le_refl _)
  have HB4 : Hid (Below w.heap.size w w4) := bel_to HB3.out hb (Nat.le_refl _)
  have HA4 : Hid (AskIs w4 w.heap.size I N S V b) := HA3.out.on hb
  clear hb
  have ⟨k0, k1, k2, k3, k4⟩ := HA4.out
  go_wp2_with fail
  clear k0 k1 k2 k3 k4
  refine (show Calls _ _ _ _ _ from HBO.out.rset _).mono ?_
  rintro e w5 ⟨rfl, hb⟩
  have HX5 : Hid (Below w1.heap.size w1 w5) := bel_to HX4.out hb (Nat.le_refl _)
  have HB5 : Hid (Below w.heap.size w w5) := bel_to HB4.out hb (Nat.le_refl _)
  have HA5 : Hid (AskIs w5 w.heap.size I N S V b) := HA4.out.on hb
  clear hb
  have ⟨k0, k1, k2, k3, k4⟩ := HA5.out
  go_wp2_with fail
  clear k0 k1 k2 k3 k4
  refine (show Calls _ _ _ _ _ from HBO.out.del _ (HW.out.on HB5.out)).mono ?_
  rintro e w6 ⟨rfl, hb⟩
  have HX6 : Hid (Below w1.heap.size w1 w6) := bel_to HX5.out hb (Nat.le_refl _)
  have HB6 : Hid (Below w.heap.size w w6) := bel_to HB5.out hb (Nat.le_refl _)
  have HA6 : Hid (AskIs w6 w.heap.size I N S V b) := HA5.out.on hb
  clear hb
  have ⟨k0, k1, k2, k3, k4⟩ := HA6.out
  go_wp2_with fail
  clear k0 k1 k2 k3 k4
  refine (show Calls _ _ _ _ _ from HBO.out.rdel _).mono ?_
  rintro e w7 ⟨rfl, hb⟩
  have HX7 : Hid (Below w1.heap.size w1 w7) := bel_to HX6.out hb (Nat.le_refl _)
  have HB7 : Hid (Below w.heap.size w w7) := bel_to HB6.out hb (Nat.le_refl _)
  clear hb
  go_wp2_with fail
  refine (show Calls _ _ _ _ _ from HWK.out _ (HW.out.on HB7.out)).mono ?_
  rintro e w8 ⟨rfl, hb⟩
  have HX8 : Hid (Below w1.heap.size w1 w8) := bel_to HX7.out hb (Nat.le_refl _)
  have HB8 : Hid (Below w.heap.size w w8) := bel_to HB7.out hb (Nat.le_refl _)
  clear hb
  go_wp2_with fail
  refine (show Calls _ _ _ _ _ from HSM.out _ _ (HM1.out.on HX8.out) (HV.out.on HB8.out)).mono ?_
  rintro e w9 ⟨rfl, hb⟩
  have HB9 : Hid (Below w.heap.size w w9) := bel_to HB8.out hb (Nat.le_refl _)
  clear hb
  go_wp2
  go_ret
  exact ⟨rfl, HB9.out⟩
open Classical in
theorem ListpackWrites_walk (p : ByteArray) (I N S : Int) (V : ByteArray) (b : Bool) (v : Value) (vs : List ByteArray) (hp : p.size ≤ 140737488351232) (hI : -9223372036854775808 ≤ I ∧ I ≤ 9223372036854775807) (hN : -9223372036854775808 ≤ N ∧ N ≤ 9223372036854775807) (hS : -9223372036854775808 ≤ S ∧ S ≤ 9223372036854775807) (hV : V.size ≤ 140737488351232) (hvl : (1048576 + vs.length) * 16 ≤ 140737488351232) (hvm : ∀ x ∈ vs, x.size ≤ 281474976710656) (w : World) (hv : SRow w v vs) (hnil : ∀ c, v = .slice none 0 c → c = 0) (hw : Lay w) :
    Calls Tryz.prog 4 #[.string p, .agg #[.int .i64 I, .int .i64 N, .int .i64 S, .string V, .bool b], v] w fun e w' => e = .returned (.bool true) ∧ Below w.heap.size w w' := by
  by_cases h : ∃ l, LM.Pk p.data.toList l
  · obtain ⟨l, h⟩ := h
    have hlen := h.len
    have hins : ∃ Z1 E1, (∀ v W, SRow W v vs → Lay W → Calls Tryz.prog 18 #[.string p, .int .i64 I, v] W fun e w' => e = .returned (.tuple #[.string Z1, .int .i64 E1]) ∧ Below W.heap.size W w') ∧ (∀ v W, SRow W v vs → (∀ c, v = .slice none 0 c → c = 0) → Calls Tryz.prog 19 #[.string p, .int .i64 I, v] W fun e w' => e = .returned (.tuple #[.string Z1, .int .i64 E1]) ∧ Below W.heap.size W w') := by
      by_cases hi : 0 ≤ I ∧ I ≤ (l.length : Int)
      · obtain ⟨i, rfl⟩ : ∃ i : Nat, I = (i : Int) := ⟨I.toNat, by omega⟩
        obtain ⟨Z, x, hZ⟩ := outS_two (fitI l i 0 vs) (LM.build (newI l i 0 vs))
        refine ⟨Z, x, fun v W h1 h2 => ?_, fun v W h1 h2 => ?_⟩
        · rw [← hZ]; exact Insert_in p l h i (by omega) v vs (by omega) hvm W h1 h2
        · rw [← hZ]; exact rInsert_in p l h i (by omega) v vs (by omega) W h1 h2
      · exact ⟨_, _, fun v W h1 h2 => Insert_out p l h I hi v vs W h1 h2, fun v W h1 h2 => rInsert_out p l h I hi v vs W h1⟩
    have hset : ∃ Z1 E1, (∀ W, Lay W → Calls Tryz.prog 20 #[.string p, .int .i64 I, .string V] W fun e w' => e = .returned (.tuple #[.string Z1, .int .i64 E1]) ∧ Below W.heap.size W w') ∧ (∀ W, Calls Tryz.prog 21 #[.string p, .int .i64 I, .string V] W fun e w' => e = .returned (.tuple #[.string Z1, .int .i64 E1]) ∧ Below W.heap.size W w') := by
      by_cases hi : 0 ≤ I ∧ I < (l.length : Int)
      · obtain ⟨i, rfl⟩ : ∃ i : Nat, I = (i : Int) := ⟨I.toNat, by omega⟩
        obtain ⟨Z, x, hZ⟩ := outS_two (fitI l i 1 [V]) (LM.build (newI l i 1 [V]))
        refine ⟨Z, x, fun W h2 => ?_, fun W => ?_⟩
        · rw [← hZ]; exact Set_in p l h i (by omega) V (by omega) W h2
        · rw [← hZ]; exact rSet_in p l h i (by omega) V W
      · exact ⟨_, _, fun W h2 => Set_out p l h I hi V W h2, fun W => rSet_out p l h I hi V W⟩
    have hdel : ∃ Z1 E1, (∀ W, Lay W → Calls Tryz.prog 22 #[.string p, .int .i64 I, .int .i64 N] W fun e w' => e = .returned (.tuple #[.string Z1, .int .i64 E1]) ∧ Below W.heap.size W w') ∧ (∀ W, Calls Tryz.prog 23 #[.string p, .int .i64 I, .int .i64 N] W fun e w' => e = .returned (.tuple #[.string Z1, .int .i64 E1]) ∧ Below W.heap.size W w') := by
      by_cases hi : I < 0 ∨ N < 0
      · exact ⟨_, _, fun W h2 => Delete_out p l h I N hi W h2, fun W => rDelete_out p l h I N hi W⟩
      · obtain ⟨i, rfl⟩ : ∃ i : Nat, I = (i : Int) := ⟨I.toNat, by omega⟩
        obtain ⟨n, rfl⟩ : ∃ n : Nat, N = (n : Int) := ⟨N.toNat, by omega⟩
        obtain ⟨Z, x, hZ⟩ := outS_two (fitI l (min i l.length) (min n (l.length - min i l.length)) []) (LM.build (newI l (min i l.length) (min n (l.length - min i l.length)) []))
        refine ⟨Z, x, fun W h2 => ?_, fun W => ?_⟩
        · rw [← hZ]; exact Delete_in p l h i n (by omega) (by omega) W h2
        · rw [← hZ]; exact rDelete_in p l h i n (by omega) (by omega) W
    obtain ⟨Z1, E1, a1, b1⟩ := hins
    obtain ⟨Z2, E2, a2, b2⟩ := hset
    obtain ⟨Z3, E3, a3, b3⟩ := hdel
    exact Writes_both p I N S V b v vs Z1 E1 Z2 E2 Z3 E3 ⟨a1, b1, a2, b2, a3, b3⟩ (by omega) w hv hnil hw
  · have h : ∀ l, ¬ LM.Pk p.data.toList l := fun l hl => h ⟨l, hl⟩
    have hp' : p.size ≤ 281474976710656 := by omega
    exact Writes_both p I N S V b v vs _ _ _ _ _ _ ⟨fun v W h1 h2 => Insert_bad p hp' h I v vs W h1 h2, fun v W h1 _ => rInsert_bad p hp h I v vs W h1, fun W hW => Set_bad p hp' h I V W hW, fun W => rSet_bad p hp h I V W, fun W hW => Delete_bad p hp' h I N W hW, fun W => rDelete_bad p hp h I N W⟩ (by omega) w hv hnil hw
theorem ListpackWrites_upto (p : ByteArray) (I N S : Int) (V : ByteArray) (b : Bool) (v : Value) (vs : List ByteArray) (hp : p.size ≤ 1048576) (hI : -9223372036854775808 ≤ I ∧ I ≤ 9223372036854775807) (hN : -9223372036854775808 ≤ N ∧ N ≤ 9223372036854775807) (hS : -9223372036854775808 ≤ S ∧ S ≤ 9223372036854775807) (hV : V.size ≤ 1048576) (hvl : vs.length ≤ 1048576) (hvm : ∀ x ∈ vs, x.size ≤ 1048576) (w : World) (hv : SRow w v vs) (hnil : ∀ c, v = .slice none 0 c → c = 0) (hw : Lay w) :
    Calls Tryz.prog 4 #[.string p, .agg #[.int .i64 I, .int .i64 N, .int .i64 S, .string V, .bool b], v] w fun e w' => e = .returned (.bool true) ∧ Below w.heap.size w w' :=
  ListpackWrites_walk p I N S V b v vs (by omega) hI hN hS (by omega) (by omega) (fun x hx => by have := hvm x hx; omega) w hv hnil hw
end Go.Proofs.YtadihhngegimkaaGreatDoor
namespace Go.Proofs.YtadihhngegimkaaGreatDoor.listpackWrites
open Go.ChangeShapes Go.WideShapes Go.ChangeAt Go.RowKit
open Go.ChangeMaps (open_string shut_string)
set_option linter.unusedVariables false
set_option maxRecDepth 100000 in
theorem contract (H : Type) (enc : TypeId × Value → H) (W : World) (base : Nat) (args : Array Value) (ds gs : List (DataW H)) (before : List MemPlace)
    (hval0 : ∀ (j : Nat) t v, Tryz.f4.params[j]? = some t → args[j]? = some v → Value.okWide Tryz.prog W .any base t v)
    (hW : DataW.Whole enc Tryz.prog Tryz.f4.params.toList Rows.listpackWritesSpec.vars false W args.toList ds gs before) (hk : Rows.uptoSmall H (ds ++ gs) = true) (hL : laidMetH Tryz.prog laidL W) :
    Calls Tryz.prog 4 args W fun e W' => ∃ v, e = .returned v ∧ Rows.listpackWritesSpec.post enc Tryz.prog Tryz.f4 false true false false W args v W' := by
  have hval : ∀ (j : Nat) t v, Tryz.f4.params[j]? = some t → args[j]? = some v → Value.okWide Tryz.prog W .any base t v := hval0
  have hW' := hW
  obtain ⟨p, q, hA0, hV, rfl, hfz, hnd⟩ := hW
  have hA : DataW.TrodAll enc Tryz.prog W 0 (fun _ => true) true Tryz.f4.params.toList args.toList ds p := hA0
  rw [Tryz.params4] at hA hval
  obtain ⟨v0, vs0, d0, ds0, p0, q0, hargs, rfl, rfl, h0, r0⟩ := trodAll_cons hA
  obtain ⟨v1, vs1, d1, ds1, p1, q1, rfl, rfl, rfl, h1, r1⟩ := trodAll_cons r0
  obtain ⟨v2, vs2, d2, ds2, p2, q2, rfl, rfl, rfl, h2, r2⟩ := trodAll_cons r1
  obtain ⟨rfl, rfl, rfl⟩ := trodAll_nil r2
  obtain rfl : args = #[v0, v1, v2] := by cases args; simp_all
  obtain ⟨rfl, rfl⟩ := trodVars_none hV
  obtain ⟨a0, rfl, rfl, rfl, w0⟩ := open_string Tryz.underlying9 (hval 0 9 v0 rfl rfl) h0
  have hlt1 : ∀ x ∈ p1, x.block < W.heap.size := fun x hx => by simpa using hW'.lt x (by simp [hx])
  have hk1 := h1
  obtain ⟨cs1, rfl, hcs1⟩ := okWide_struct Tryz.underlying23 (hval 1 23 v1 rfl rfl)
  obtain ⟨fuel1, hf1⟩ := h1
  have hlt2 : ∀ x ∈ p2, x.block < W.heap.size := fun x hx => by simpa using hW'.lt x (by simp [hx])
  have hk2 := h2
  obtain ⟨ad2, ln2, cp2, rfl⟩ := okWide_slice Tryz.underlying35 (hval 2 35 v2 rfl rfl)
  obtain ⟨fuel2, hf2⟩ := h2
  have hb := bulk_small hk
  simp only [List.append_nil, Rows.uptoBulkAll, Rows.uptoBulk, list_len] at hb
  have z0 : a0.size ≤ 1048576 := by omega
  obtain ⟨I1, N1, S1, V1, B1, hce1, hI1, hN1, hS1, hV1⟩ := openU_ask (x := (d1, p1)) (cs := cs1.toList) (by rw [Array.length_toList, hcs1]; exact cellsAsk) (by simpa [Value.cells] using hf1) (by show Rows.uptoBulk d1 ≤ _; omega)
  obtain rfl : cs1 = #[.int .i64 I1, .int .i64 N1, .int .i64 S1, .string V1, .bool B1] := by cases cs1; simp_all
  obtain ⟨x2, hS2, hN2, hL2, hM2⟩ := openU_row (v := .slice ad2 ln2 cp2) (y := (d2, p2)) (by simpa [Value.cells] using hf2) (by show Rows.uptoBulk d2 ≤ _; omega)
  clear hA0 hval0 hk hb
  refine (ListpackWrites_upto a0 I1 N1 S1 V1 B1 (.slice ad2 ln2 cp2) x2 z0 hI1 hN1 hS1 hV1 hL2 hM2 W hS2 hN2 (of_laid hL)).mono fun e W' ⟨he, bel⟩ => ?_
  subst he
  exact ⟨_, rfl, _, _, _, [], _, [], hW', trodAll_mk1 (shut_bool Tryz.underlying4 _), (trodAll_cons_mk (shut_string Tryz.underlying9 w0) (trodAll_cons_mk (Below.trod laidOut (by kernel_rfl) (of_decide_eq_true (by kernel_rfl)) hk1 bel hlt1) (trodAll_cons_mk (Below.trod laidOut (by kernel_rfl) (of_decide_eq_true (by kernel_rfl)) hk2 bel hlt2) trodAll_mk0))), rfl, bel.frame _, fun h => by cases h⟩
theorem laid_met (os : Os) (args : Array Value) : laidMet Tryz.prog laidL ((World.doorLaid Tryz.prog 400 os).forCall (fun _ _ => 0) ⟨#[], args, []⟩).memory :=
  laidMet_of_run' 8 (by kernel_rfl) (by kernel_rfl)
theorem reads (os : Os) {H : Type} (enc : TypeId × Value → H) : ∃ places, DataW.whole enc Tryz.prog ((World.doorLaid Tryz.prog 400 os).forCall (fun _ _ => 0) ⟨#[], #[.string ByteArray.empty, .agg #[.int .i64 0, .int .i64 0, .int .i64 0, .string ByteArray.empty, .bool false], .slice none 0 0], []⟩).memory Tryz.f4.params.toList Rows.listpackWritesSpec.vars false #[.string ByteArray.empty, .agg #[.int .i64 0, .int .i64 0, .int .i64 0, .string ByteArray.empty, .bool false], .slice none 0 0].toList 8 = some ([.lit (.string []), .agg [.lit (.int .i64 0), .lit (.int .i64 0), .lit (.int .i64 0), .lit (.string []), .lit (.bool false)], .nil], [], places) :=
  ⟨[], by kernel_rfl⟩
set_option maxRecDepth 100000 in
theorem liftedUpto (os : Os) (started : os.Started) (H : Type) (enc : TypeId × Value → H) (F : Stop.Interp) :
    ReturnsInHanded {} Tryz.checked os 4 .any ((Rows.OpenSpec.upto Rows.listpackWritesSpec).preRow enc Tryz.prog Tryz.f4 Rows.listpackWritesUptoRow.domain false Rows.listpackWritesUptoRow.laid) (((Rows.OpenSpec.upto Rows.listpackWritesSpec).at F).post enc Tryz.prog Tryz.f4 false true false false) := by
  obtain ⟨places, hx⟩ := reads os enc
  refine returnsInHanded_of_row (C := Tryz.checked) (s := Rows.OpenSpec.upto Rows.listpackWritesSpec) own started (by kernel_rfl) Tryz.func4
    (witness_row_atRef (enc := enc) (C := Tryz.checked) false (World.doorLaid Tryz.prog 400 os) #[.string ByteArray.empty, .agg #[.int .i64 0, .int .i64 0, .int .i64 0, .string ByteArray.empty, .bool false], .slice none 0 0] rfl (by kernel_rfl) (by kernel_rfl) (by kernel_rfl)
      (OpenSpec.preRow_of_cond 8 hx (by kernel_rfl) (fun k hk => by cases hk; kernel_rfl) (by kernel_rfl) (laid_met os _))) ?_
  intro W base args ds gs before hval hW _ hc _ hL _ _
  exact contract H enc W base args ds gs before hval hW (hc _ rfl) hL
theorem over : Rows.ListpackWritesUptoSaid :=
  OpenClaim.holds_of_cond 4 Tryz.f4 rfl rfl rfl rfl rfl rfl rfl ⟨rfl, rfl, rfl, rfl, rfl⟩ rfl rfl rfl rfl rfl (by kernel_rfl) Tryz.func4 (by kernel_rfl)
    (of_decide_eq_true (by kernel_rfl)) (by unfold Func.isWrapper; first | (rw [if_pos (by decide +kernel)]; kernel_rfl) | (rw [if_neg (by decide +kernel)]; exact ⟨rfl, rfl⟩))
    (fun os started H enc _ F => by rw [OpenClaim.pre_eq_preRow]; exact liftedUpto os started H enc F)
end Go.Proofs.YtadihhngegimkaaGreatDoor.listpackWrites
namespace Go.Proofs.YtadihhngegimkaaGreatDoor
theorem listpackWritesUpto_card : Rows.ListpackWritesUptoCardSaid :=
  Claim7.holds_tied_plain_at .later [] [.data, .data, .data, .sentinel, .sentinel, .data] true (true, "57e5c249cf0b3dbfea734699a4a8d183af266ba241679cae4ca8865a89ec422d") true
    listpackWrites.over (fun _ h => by cases h) (by kernel_rfl) (fun _ h => by cases h) listpackWritesUpto_row_tie rfl ⟨rfl, rfl⟩ (by kernel_rfl) rfl
    (fun f fn hf hfn => by
      obtain rfl : f = 4 := Option.some.inj ((show Tryz.prog.funcNamed "cistern/cisternlaw06.ListpackWrites" = some 4 by kernel_rfl).symm.trans hf) |>.symm
      obtain rfl : fn = Tryz.f4 := (Option.some.inj (Tryz.func4.symm.trans hfn)).symm
      exact ⟨by kernel_rfl, fun j t ht => by
        rw [Tryz.params4] at ht
        have hm : t ∈ [9, 23, 35] := by simpa using Array.mem_of_getElem? ht
        have hall : ([9, 23, 35].all fun u => !Tryz.prog.wantsStandIn u) = true := by kernel_rfl
        exact (show Tryz.prog.wantsStandIn t = false by simpa using List.all_eq_true.1 hall t hm)⟩)
    (by kernel_rfl)
#print axioms listpackWritesUpto_card
end Go.Proofs.YtadihhngegimkaaGreatDoor
