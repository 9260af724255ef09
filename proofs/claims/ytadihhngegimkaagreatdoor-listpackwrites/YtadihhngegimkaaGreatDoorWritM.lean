import Derived.Test.YtadihhngegimkaaGreatDoorRWrM
import Derived.Test.YtadihhngegimkaaGreatDoorTwin
import Derived.Test.YtadihhngegimkaaGreatDoorOpnM
namespace Go.Proofs.YtadihhngegimkaaGreatDoor
open Go.RowKit
set_option linter.unusedVariables false
/-- the question as it lies. -/
structure AskIs (W : World) (g : Nat) (I N S : Int) (V : ByteArray) (b : Bool) : Prop where
  c0 : W.cell? ⟨g, 0, none⟩ = some (.int .i64 I)
  c1 : W.cell? ⟨g, 1, none⟩ = some (.int .i64 N)
  c2 : W.cell? ⟨g, 2, none⟩ = some (.int .i64 S)
  c3 : W.cell? ⟨g, 3, none⟩ = some (.string V)
  c4 : W.cell? ⟨g, 4, none⟩ = some (.bool b)
theorem AskIs.on {W W' : World} {g : Nat} {I N S : Int} {V : ByteArray} {b : Bool} (h : AskIs W g I N S V b) (hb : Below W.heap.size W W') : AskIs W' g I N S V b :=
  ⟨cell_on h.c0 hb, cell_on h.c1 hb, cell_on h.c2 hb, cell_on h.c3 hb, cell_on h.c4 hb⟩
theorem AskIs.new (w : World) (I N S : Int) (V : ByteArray) (b : Bool) (T : Nat) : AskIs (w.alloc (.cells #[.int .i64 I, .int .i64 N, .int .i64 S, .string V, .bool b] T)) w.heap.size I N S V b := by
  have h := one_alloc w (.cells #[.int .i64 I, .int .i64 N, .int .i64 S, .string V, .bool b] T)
  refine ⟨?_, ?_, ?_, ?_, ?_⟩ <;> rw [cell_of_row _ _ _ _ _ _ h] <;> rfl
/-- what both answer. -/
structure Both (p : ByteArray) (I N : Int) (V : ByteArray) (vs : List ByteArray) (Z1 : ByteArray) (E1 : Int) (Z2 : ByteArray) (E2 : Int) (Z3 : ByteArray) (E3 : Int) : Prop where
  ins : ∀ v W, SRow W v vs → Lay W → Calls Tryz.prog 18 #[.string p, .int .i64 I, v] W fun e w' => e = .returned (.tuple #[.string Z1, .int .i64 E1]) ∧ Below W.heap.size W w'
  rins : ∀ v W, SRow W v vs → (∀ c, v = .slice none 0 c → c = 0) → Calls Tryz.prog 19 #[.string p, .int .i64 I, v] W fun e w' => e = .returned (.tuple #[.string Z1, .int .i64 E1]) ∧ Below W.heap.size W w'
  set_ : ∀ W, Lay W → Calls Tryz.prog 20 #[.string p, .int .i64 I, .string V] W fun e w' => e = .returned (.tuple #[.string Z2, .int .i64 E2]) ∧ Below W.heap.size W w'
  rset : ∀ W, Calls Tryz.prog 21 #[.string p, .int .i64 I, .string V] W fun e w' => e = .returned (.tuple #[.string Z2, .int .i64 E2]) ∧ Below W.heap.size W w'
  del : ∀ W, Lay W → Calls Tryz.prog 22 #[.string p, .int .i64 I, .int .i64 N] W fun e w' => e = .returned (.tuple #[.string Z3, .int .i64 E3]) ∧ Below W.heap.size W w'
  rdel : ∀ W, Calls Tryz.prog 23 #[.string p, .int .i64 I, .int .i64 N] W fun e w' => e = .returned (.tuple #[.string Z3, .int .i64 E3]) ∧ Below W.heap.size W w'
set_option maxHeartbeats 4000000 in
set_option maxRecDepth 100000 in
theorem Writes_both (p : ByteArray) (I N S : Int) (V : ByteArray) (b : Bool) (v : Value) (vs : List ByteArray) (Z1 : ByteArray) (E1 : Int) (Z2 : ByteArray) (E2 : Int) (Z3 : ByteArray) (E3 : Int) (hB : Both p I N V vs Z1 E1 Z2 E2 Z3 E3) (hvl : vs.length * 16 ≤ 140737488351232) (w : World) (hv : SRow w v vs) (hnil : ∀ c, v = .slice none 0 c → c = 0) (hw : Lay w) :
    Calls Tryz.prog 4 #[.string p, .agg #[.int .i64 I, .int .i64 N, .int .i64 S, .string V, .bool b], v] w fun e w' => e = .returned (.bool true) ∧ Below w.heap.size w w' := by
  have HW : Hid (Lay w) := hw
  have HBO : Hid _ := hB
  have HV : Hid (SRow w v vs) := hv
  have HNI : Hid _ := hnil
  have HTW : Hid (∀ W, SRow W v vs → Calls Tryz.prog 17 #[v] W fun e w' => ∃ v', e = .returned v' ∧ SRow w' v' vs ∧ (∀ c, v' = .slice none 0 c → c = 0) ∧ Below W.heap.size W w') := fun W hW => twin_any v vs hvl W hW hnil
  have HWK : Hid (∀ W, Lay W → Calls Tryz.prog 13 #[] W fun e w' => e = .returned (.bool true) ∧ Below W.heap.size W w') := works_any
  have HSM : Hid (∀ v' W, SRow W v' vs → SRow W v vs → Calls Tryz.prog 16 #[v', v] W fun e w' => e = .returned (.bool true) ∧ Below W.heap.size W w') := fun v' W h1 h2 => by
    refine (same_any v' v vs vs (by omega) (by omega) W h1 h2).mono ?_
    rintro e w' ⟨⟨b, rfl, hb⟩, k, rfl⟩
    exact ⟨by rw [hb.2 rfl], below_dn (Below.refl _ _) _⟩
  have hz1 : (Z1.toList == Z1.toList) = true := str_same rfl
  have hz2 : (Z2.toList == Z2.toList) = true := str_same rfl
  have hz3 : (Z3.toList == Z3.toList) = true := str_same rfl
  have h1 : (E1 == E1) = true := by simp
  have h2 : (E2 == E2) = true := by simp
  have h3 : (E3 == E3) = true := by simp
  obtain ⟨P, c, rfl⟩ := hv.form
  clear hv hw hB hnil hvl
  go_enter Tryz.func4, Tryz.ntmps4
  go_wp2_with fail
  obtain ⟨W0, hW0⟩ : ∃ W0, W0 = w.alloc (.cells #[.int .i64 I, .int .i64 N, .int .i64 S, .string V, .bool b] 23) := ⟨_, rfl⟩
  have HB0 : Hid (Below w.heap.size w W0) := by rw [hW0]; exact (Below.refl _ w).alloc (Nat.le_refl _) _
  have HA0 : Hid (AskIs W0 w.heap.size I N S V b) := by rw [hW0]; exact AskIs.new w I N S V b _
  rw [← hW0]
  clear hW0
  refine (show Calls _ _ _ _ _ from HTW.out _ (HV.out.on HB0.out)).mono ?_
  rintro e w1 ⟨v', rfl, hs1, hn1, hb⟩
  obtain ⟨P', c', rfl⟩ := hs1.form
  have HM1 : Hid (SRow w1 (.slice P' vs.length c') vs) := hs1
  have HB1 : Hid (Below w.heap.size w w1) := bel_to HB0.out hb (Nat.le_refl _)
  have HA1 : Hid (AskIs w1 w.heap.size I N S V b) := HA0.out.on hb
  clear hb hs1 hn1
  have ⟨k0, k1, k2, k3, k4⟩ := HA1.out
  go_wp2_with fail
  clear k0 k1 k2 k3 k4
  refine (show Calls _ _ _ _ _ from HBO.out.ins _ _ HM1.out (HW.out.on HB1.out)).mono ?_
  rintro e w2 ⟨rfl, hb⟩
  have HX2 : Hid (Below w1.heap.size w1 w2) := hb
  have HB2 : Hid (Below w.heap.size w w2) := bel_to HB1.out hb (Nat.le_refl _)
  have HA2 : Hid (AskIs w2 w.heap.size I N S V b) := HA1.out.on hb
  clear hb
  have ⟨k0, k1, k2, k3, k4⟩ := HA2.out
  go_wp2_with fail
  clear k0 k1 k2 k3 k4
  refine (show Calls _ _ _ _ _ from HBO.out.rins _ _ (HV.out.on HB2.out) HNI.out).mono ?_
  rintro e w3 ⟨rfl, hb⟩
  have HX3 : Hid (Below w1.heap.size w1 w3) := bel_to HX2.out hb (Nat.le_refl _)
  have HB3 : Hid (Below w.heap.size w w3) := bel_to HB2.out hb (Nat.le_refl _)
  have HA3 : Hid (AskIs w3 w.heap.size I N S V b) := HA2.out.on hb
  clear hb
  have ⟨k0, k1, k2, k3, k4⟩ := HA3.out
  go_wp2_with fail
  clear k0 k1 k2 k3 k4
  refine (show Calls _ _ _ _ _ from HBO.out.set_ _ (HW.out.on HB3.out)).mono ?_
  rintro e w4 ⟨rfl, hb⟩
  have HX4 : Hid (Below w1.heap.size w1 w4) := bel_to HX3.out hb (Nat.le_refl _)
  have HB4 : Hid (Below w.heap.size w w4) := bel_to HB3.out hb (Nat.le_refl _)
  have HA4 : Hid (AskIs w4 w.heap.size I N S V b) := HA3.out.on hb
  clear hb
  have ⟨k0, k1, k2, k3, k4⟩ := HA4.out
  go_wp2_with fail
  clear k0 k1 k2 k3 k4
  refine (show Calls _ _ _ _ _ from HBO.out.rset _).mono ?_
  rintro e w5 ⟨rfl, hb⟩
  have HX5 : Hid (Below w1.heap.size w1 w5) := bel_to HX4.out hb (Nat.le_refl _)
  have HB5 : Hid (Below w.heap.size w w5) := bel_to HB4.out hb (Nat.le_refl _)
  have HA5 : Hid (AskIs w5 w.heap.size I N S V b) := HA4.out.on hb
  clear hb
  have ⟨k0, k1, k2, k3, k4⟩ := HA5.out
  go_wp2_with fail
  clear k0 k1 k2 k3 k4
  refine (show Calls _ _ _ _ _ from HBO.out.del _ (HW.out.on HB5.out)).mono ?_
  rintro e w6 ⟨rfl, hb⟩
  have HX6 : Hid (Below w1.heap.size w1 w6) := bel_to HX5.out hb (Nat.le_refl _)
  have HB6 : Hid (Below w.heap.size w w6) := bel_to HB5.out hb (Nat.le_refl _)
  have HA6 : Hid (AskIs w6 w.heap.size I N S V b) := HA5.out.on hb
  clear hb
  have ⟨k0, k1, k2, k3, k4⟩ := HA6.out
  go_wp2_with fail
  clear k0 k1 k2 k3 k4
  refine (show Calls _ _ _ _ _ from HBO.out.rdel _).mono ?_
  rintro e w7 ⟨rfl, hb⟩
  have HX7 : Hid (Below w1.heap.size w1 w7) := bel_to HX6.out hb (Nat.le_refl _)
  have HB7 : Hid (Below w.heap.size w w7) := bel_to HB6.out hb (Nat.le_refl _)
  clear hb
  go_wp2_with fail
  refine (show Calls _ _ _ _ _ from HWK.out _ (HW.out.on HB7.out)).mono ?_
  rintro e w8 ⟨rfl, hb⟩
  have HX8 : Hid (Below w1.heap.size w1 w8) := bel_to HX7.out hb (Nat.le_refl _)
  have HB8 : Hid (Below w.heap.size w w8) := bel_to HB7.out hb (Nat.le_refl _)
  clear hb
  go_wp2_with fail
  refine (show Calls _ _ _ _ _ from HSM.out _ _ (HM1.out.on HX8.out) (HV.out.on HB8.out)).mono ?_
  rintro e w9 ⟨rfl, hb⟩
  have HB9 : Hid (Below w.heap.size w w9) := bel_to HB8.out hb (Nat.le_refl _)
  clear hb
  go_wp2
  go_ret
  exact ⟨rfl, HB9.out⟩
open Classical in
theorem ListpackWrites_walk (p : ByteArray) (I N S : Int) (V : ByteArray) (b : Bool) (v : Value) (vs : List ByteArray) (hp : p.size ≤ 140737488351232) (hI : -9223372036854775808 ≤ I ∧ I ≤ 9223372036854775807) (hN : -9223372036854775808 ≤ N ∧ N ≤ 9223372036854775807) (hS : -9223372036854775808 ≤ S ∧ S ≤ 9223372036854775807) (hV : V.size ≤ 140737488351232) (hvl : vs.length * 16 ≤ 140737488351232) (hvm : ∀ x ∈ vs, x.size ≤ 281474976710656) (w : World) (hv : SRow w v vs) (hnil : ∀ c, v = .slice none 0 c → c = 0) (hw : Lay w) :
    Calls Tryz.prog 4 #[.string p, .agg #[.int .i64 I, .int .i64 N, .int .i64 S, .string V, .bool b], v] w fun e w' => e = .returned (.bool true) ∧ Below w.heap.size w w' := by
  by_cases h : ∃ l, LM.Pk p.data.toList l
  · obtain ⟨l, h⟩ := h
    have hlen := h.len
    have hins : ∃ Z1 E1, (∀ v W, SRow W v vs → Lay W → Calls Tryz.prog 18 #[.string p, .int .i64 I, v] W fun e w' => e = .returned (.tuple #[.string Z1, .int .i64 E1]) ∧ Below W.heap.size W w') ∧ (∀ v W, SRow W v vs → (∀ c, v = .slice none 0 c → c = 0) → Calls Tryz.prog 19 #[.string p, .int .i64 I, v] W fun e w' => e = .returned (.tuple #[.string Z1, .int .i64 E1]) ∧ Below W.heap.size W w') := by
      by_cases hi : 0 ≤ I ∧ I ≤ (l.length : Int)
      · obtain ⟨i, rfl⟩ : ∃ i : Nat, I = (i : Int) := ⟨I.toNat, by omega⟩
        obtain ⟨Z, x, hZ⟩ := outS_two (fitI l i 0 vs) (LM.build (newI l i 0 vs))
        refine ⟨Z, x, fun v W h1 h2 => ?_, fun v W h1 h2 => ?_⟩
        · rw [← hZ]; exact Insert_in p l h i (by omega) v vs (by omega) hvm W h1 h2
        · rw [← hZ]; exact rInsert_in p l h i (by omega) v vs (by omega) W h1 h2
      · exact ⟨_, _, fun v W h1 h2 => Insert_out p l h I hi v vs W h1 h2, fun v W h1 h2 => rInsert_out p l h I hi v vs W h1⟩
    have hset : ∃ Z1 E1, (∀ W, Lay W → Calls Tryz.prog 20 #[.string p, .int .i64 I, .string V] W fun e w' => e = .returned (.tuple #[.string Z1, .int .i64 E1]) ∧ Below W.heap.size W w') ∧ (∀ W, Calls Tryz.prog 21 #[.string p, .int .i64 I, .string V] W fun e w' => e = .returned (.tuple #[.string Z1, .int .i64 E1]) ∧ Below W.heap.size W w') := by
      by_cases hi : 0 ≤ I ∧ I < (l.length : Int)
      · obtain ⟨i, rfl⟩ : ∃ i : Nat, I = (i : Int) := ⟨I.toNat, by omega⟩
        obtain ⟨Z, x, hZ⟩ := outS_two (fitI l i 1 [V]) (LM.build (newI l i 1 [V]))
        refine ⟨Z, x, fun W h2 => ?_, fun W => ?_⟩
        · rw [← hZ]; exact Set_in p l h i (by omega) V (by omega) W h2
        · rw [← hZ]; exact rSet_in p l h i (by omega) V W
      · exact ⟨_, _, fun W h2 => Set_out p l h I hi V W h2, fun W => rSet_out p l h I hi V W⟩
    have hdel : ∃ Z1 E1, (∀ W, Lay W → Calls Tryz.prog 22 #[.string p, .int .i64 I, .int .i64 N] W fun e w' => e = .returned (.tuple #[.string Z1, .int .i64 E1]) ∧ Below W.heap.size W w') ∧ (∀ W, Calls Tryz.prog 23 #[.string p, .int .i64 I, .int .i64 N] W fun e w' => e = .returned (.tuple #[.string Z1, .int .i64 E1]) ∧ Below W.heap.size W w') := by
      by_cases hi : I < 0 ∨ N < 0
      · exact ⟨_, _, fun W h2 => Delete_out p l h I N hi W h2, fun W => rDelete_out p l h I N hi W⟩
      · obtain ⟨i, rfl⟩ : ∃ i : Nat, I = (i : Int) := ⟨I.toNat, by omega⟩
        obtain ⟨n, rfl⟩ : ∃ n : Nat, N = (n : Int) := ⟨N.toNat, by omega⟩
        obtain ⟨Z, x, hZ⟩ := outS_two (fitI l (min i l.length) (min n (l.length - min i l.length)) []) (LM.build (newI l (min i l.length) (min n (l.length - min i l.length)) []))
        refine ⟨Z, x, fun W h2 => ?_, fun W => ?_⟩
        · rw [← hZ]; exact Delete_in p l h i n (by omega) (by omega) W h2
        · rw [← hZ]; exact rDelete_in p l h i n (by omega) (by omega) W
    obtain ⟨Z1, E1, a1, b1⟩ := hins
    obtain ⟨Z2, E2, a2, b2⟩ := hset
    obtain ⟨Z3, E3, a3, b3⟩ := hdel
    exact Writes_both p I N S V b v vs Z1 E1 Z2 E2 Z3 E3 ⟨a1, b1, a2, b2, a3, b3⟩ (by omega) w hv hnil hw
  · have h : ∀ l, ¬ LM.Pk p.data.toList l := fun l hl => h ⟨l, hl⟩
    have hp' : p.size ≤ 281474976710656 := by omega
    exact Writes_both p I N S V b v vs _ _ _ _ _ _ ⟨fun v W h1 h2 => Insert_bad p hp' h I v vs W h1 h2, fun v W h1 _ => rInsert_bad p hp h I v vs W h1, fun W hW => Set_bad p hp' h I V W hW, fun W => rSet_bad p hp h I V W, fun W hW => Delete_bad p hp' h I N W hW, fun W => rDelete_bad p hp h I N W⟩ (by omega) w hv hnil hw
end Go.Proofs.YtadihhngegimkaaGreatDoor
namespace Go.Proofs.YtadihhngegimkaaGreatDoor.listpackWrites
open Go.ChangeShapes Go.WideShapes Go.ChangeAt Go.RowKit
open Go.ChangeMaps (open_string shut_string)
set_option linter.unusedVariables false
set_option maxRecDepth 100000 in
theorem lifted (os : Os) (started : os.Started) (H : Type) (enc : TypeId × Value → H) :
    ReturnsInHanded {} Tryz.checked os 4 .any (fun w args => (Rows.listpackWritesSpec.pre enc Tryz.prog Tryz.f4 [] false w args ∧ laidMetH Tryz.prog laidL w) ∧ sizedMet enc Tryz.prog Tryz.f4 (OpenSpec.ofChange Rows.listpackWritesSpec) false w args)
      (Rows.listpackWritesSpec.post enc Tryz.prog Tryz.f4 false true false false) := by
  refine returnsInHanded_of_change_and (C := Tryz.checked) (X := fun w _ => laidMetH Tryz.prog laidL w) (fun _ _ _ hh h => h.of_heap hh) own started (by kernel_rfl) Tryz.func4
    (ChangeSpec.witness_shaped (enc := enc) (C := Tryz.checked) (os := os) (X := fun w _ => laidMetH Tryz.prog laidL w) false (World.doorLaid Tryz.prog 400 os) #[.string ByteArray.empty, .agg #[.int .i64 0, .int .i64 0, .int .i64 0, .string ByteArray.empty, .bool false], .slice none 0 0] 8 rfl (World.shaped_of_RefB (by kernel_rfl) (by kernel_rfl)) (by kernel_rfl) (by kernel_rfl) (by kernel_rfl) (door_met os _)) ?_
  intro W base args ds gs before hval0 hW hcnd hsz0 hL _
  have hval : ∀ (j : Nat) t v, Tryz.f4.params[j]? = some t → args[j]? = some v → Value.okWide Tryz.prog W .any base t v := hval0
  have hsz : (DataW.weightsEach Tryz.prog (Tryz.f4.params.toList ++ Rows.listpackWritesSpec.plain.varTypes Tryz.prog) (ds ++ gs)).all (· ≤ reachBytes) = true := hsz0
  have hW' := hW
  obtain ⟨p, q, hA0, hV, rfl, hfz, hnd⟩ := hW
  have hA : DataW.TrodAll enc Tryz.prog W 0 (fun _ => true) true Tryz.f4.params.toList args.toList ds p := hA0
  rw [Tryz.params4] at hA hval hsz
  obtain ⟨v0, vs0, d0, ds0, p0, q0, hargs, rfl, rfl, h0, r0⟩ := trodAll_cons hA
  obtain ⟨v1, vs1, d1, ds1, p1, q1, rfl, rfl, rfl, h1, r1⟩ := trodAll_cons r0
  obtain ⟨v2, vs2, d2, ds2, p2, q2, rfl, rfl, rfl, h2, r2⟩ := trodAll_cons r1
  obtain ⟨rfl, rfl, rfl⟩ := trodAll_nil r2
  obtain rfl : args = #[v0, v1, v2] := by cases args; simp_all
  obtain ⟨rfl, rfl⟩ := trodVars_none hV
  obtain ⟨a0, rfl, rfl, rfl, w0⟩ := open_string Tryz.underlying9 (hval 0 9 v0 rfl rfl) h0
  have hlt1 : ∀ x ∈ p1, x.block < W.heap.size := fun x hx => by simpa using hW'.lt x (by simp [hx])
  have hk1 := h1
  obtain ⟨cs1, rfl, hcs1⟩ := okWide_struct Tryz.underlying23 (hval 1 23 v1 rfl rfl)
  obtain ⟨fuel1, hf1⟩ := h1
  have hlt2 : ∀ x ∈ p2, x.block < W.heap.size := fun x hx => by simpa using hW'.lt x (by simp [hx])
  have hk2 := h2
  obtain ⟨ad2, ln2, cp2, rfl⟩ := okWide_slice Tryz.underlying35 (hval 2 35 v2 rfl rfl)
  obtain ⟨fuel2, hf2⟩ := h2
  have z0 : a0.size ≤ 140737488351232 := by
    have := sized_string hsz (j := 0) (t := 9) rfl rfl
    simpa [reachBytes] using this
  obtain ⟨x2, hS2, hN2, hL2, hM2⟩ := open_row (v := .slice ad2 ln2 cp2) (y := (d2, p2)) (j := 2) (by simpa [Value.cells] using hf2) hsz rfl rfl
  obtain ⟨I1, N1, S1, V1, B1, hce1, hI1, hN1, hS1, hV1⟩ := open_ask (x := (d1, p1)) (j := 1) (cs := cs1.toList) (by rw [Array.length_toList, hcs1]; exact cellsAsk) (by simpa [Value.cells] using hf1) hsz rfl rfl
  obtain rfl : cs1 = #[.int .i64 I1, .int .i64 N1, .int .i64 S1, .string V1, .bool B1] := by cases cs1; simp_all
  clear hA0 hval0 hsz0
  refine (ListpackWrites_walk a0 I1 N1 S1 V1 B1 (.slice ad2 ln2 cp2) x2 z0 hI1 hN1 hS1 hV1 hL2 hM2 W hS2 hN2 (of_laid hL)).mono fun e W' ⟨he, bel⟩ => ?_
  subst he
  exact ⟨_, rfl, _, _, _, [], _, [], hW', trodAll_mk1 (shut_bool Tryz.underlying4 _), (trodAll_cons_mk (shut_string Tryz.underlying9 w0) (trodAll_cons_mk (Below.trod laidOut (by kernel_rfl) (of_decide_eq_true (by kernel_rfl)) hk1 bel hlt1) (trodAll_cons_mk (Below.trod laidOut (by kernel_rfl) (of_decide_eq_true (by kernel_rfl)) hk2 bel hlt2) trodAll_mk0))), rfl, bel.frame _, fun h => by cases h⟩

theorem over : Rows.ListpackWritesSaid :=
  OpenClaim.holds_of_wide 4 Tryz.f4 rfl rfl rfl rfl rfl rfl rfl ⟨rfl, rfl, rfl, rfl, rfl⟩ rfl rfl rfl rfl rfl (by kernel_rfl) Tryz.func4 (by kernel_rfl)
    (of_decide_eq_true (by kernel_rfl)) (by unfold Func.isWrapper; first | (rw [if_pos (by decide +kernel)]; kernel_rfl) | (rw [if_neg (by decide +kernel)]; exact ⟨rfl, rfl⟩))
    (fun os started H enc _ => lifted os started H enc)
end Go.Proofs.YtadihhngegimkaaGreatDoor.listpackWrites
namespace Go.Proofs.YtadihhngegimkaaGreatDoor
theorem listpackWrites_card : Rows.ListpackWritesCardSaid :=
  Claim7.holds_tied_plain_at .later [] [.data, .data, .data, .sentinel, .sentinel, .data] true (true, "57e5c249cf0b3dbfea734699a4a8d183af266ba241679cae4ca8865a89ec422d") true
    listpackWrites.over (fun _ h => by cases h) (by kernel_rfl) (fun _ h => by cases h) listpackWrites_row_tie rfl ⟨rfl, rfl⟩ (by kernel_rfl) rfl
    (fun f fn hf hfn => by
      obtain rfl : f = 4 := Option.some.inj ((show Tryz.prog.funcNamed "cistern/cisternlaw06.ListpackWrites" = some 4 by kernel_rfl).symm.trans hf) |>.symm
      obtain rfl : fn = Tryz.f4 := (Option.some.inj (Tryz.func4.symm.trans hfn)).symm
      exact ⟨by kernel_rfl, fun j t ht => by
        rw [Tryz.params4] at ht
        have hm : t ∈ [9, 23, 35] := by simpa using Array.mem_of_getElem? ht
        have hall : ([9, 23, 35].all fun u => !Tryz.prog.wantsStandIn u) = true := by kernel_rfl
        exact (show Tryz.prog.wantsStandIn t = false by simpa using List.all_eq_true.1 hall t hm)⟩)
    (by kernel_rfl)
#print axioms listpackWrites_card
end Go.Proofs.YtadihhngegimkaaGreatDoor
