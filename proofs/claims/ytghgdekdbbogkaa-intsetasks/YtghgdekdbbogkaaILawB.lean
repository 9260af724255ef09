import Derived.Test.YtghgdekdbbogkaaILawA
namespace Go.Proofs.Ytghgdekdbbogkaa
open Go.RowKit IM
set_option linter.unusedVariables false
/-- what is asked of a text: both answers. -/
structure AskTwo (p : ByteArray) (i j : Int) (n e : Int) (l : List Int) (ok : Bool) (W a : Int) (is : Bool) (c many : Int) (has : Bool) : Prop where
  len : ∀ w, Calls Try.prog 20 #[.string p] w fun x w' => x = .returned (.tuple #[.int .i64 n, .int .i64 e]) ∧ Below w.heap.size w w'
  read : ∀ w, Calls Try.prog 21 #[.string p] w fun x w' => ∃ v, x = .returned (.tuple #[.int .i64 W, v, .bool ok]) ∧ HoldsI w' v l ∧ Below w.heap.size w w'
  all : ∀ w, Calls Try.prog 11 #[.string p] w fun x w' => ∃ v, x = .returned (.tuple #[v, .int .i64 e]) ∧ HoldsI w' v l ∧ Below w.heap.size w w'
  rvalid : ∀ w, Calls Try.prog 22 #[.string p] w fun x w' => x = .returned (.int .i64 e) ∧ Below w.heap.size w w'
  valid : ∀ w, Calls Try.prog 12 #[.string p] w fun x w' => x = .returned (.int .i64 e) ∧ Below w.heap.size w w'
  at1 : ∀ w, Calls Try.prog 24 #[.string p, .int .i64 i] w fun x w' => x = .returned (.tuple #[.int .i64 a, .bool is]) ∧ Below w.heap.size w w'
  at2 : ∀ w, Calls Try.prog 25 #[.string p, .int .i64 i] w fun x w' => x = .returned (.tuple #[.int .i64 a, .bool is]) ∧ Below w.heap.size w w'
  r1 : ∀ w, Calls Try.prog 26 #[.string p, .int .i64 i, .int .i64 j] w fun x w' => x = .returned (.tuple #[.int .i64 c, .int .i64 many]) ∧ Below w.heap.size w w'
  r2 : ∀ w, Calls Try.prog 27 #[.string p, .int .i64 i, .int .i64 j] w fun x w' => x = .returned (.tuple #[.int .i64 c, .int .i64 many]) ∧ Below w.heap.size w w'
  h1 : ∀ w, Calls Try.prog 14 #[.string p, .int .i64 i] w fun x w' => x = .returned (.bool has) ∧ Below w.heap.size w w'
  h2 : ∀ w, Calls Try.prog 28 #[.string p, .int .i64 i] w fun x w' => x = .returned (.bool has) ∧ Below w.heap.size w w'
  ln : n = (l.length : Int)
  le : l.length ≤ 1048576
  eok : (e = 0 ∧ ok = true) ∨ (e = 50 ∧ ok = false)
theorem ask_two (p : ByteArray) (hp : bigS p) (i j : Int) : ∃ n e l ok W a is c many has, AskTwo p i j n e l ok W a is c many has := by
  by_cases h : OkP p.data.toList
  · have hs := h.set
    generalize wid p.data.toList = W at hs
    generalize nums W (cnt p.data.toList) p.data.toList = l at hs
    have hat : ∃ a is, (∀ w, Calls Try.prog 24 #[.string p, .int .i64 i] w fun x w' => x = .returned (.tuple #[.int .i64 a, .bool is]) ∧ Below w.heap.size w w') ∧ (∀ w, Calls Try.prog 25 #[.string p, .int .i64 i] w fun x w' => x = .returned (.tuple #[.int .i64 a, .bool is]) ∧ Below w.heap.size w w') := by
      by_cases hi : i < 0 ∨ (l.length : Int) ≤ i
      · exact ⟨0, false, fun w => at_out p W l hs i hi w, fun w => rat_out p W l hs i hi w⟩
      · obtain ⟨k, rfl⟩ : ∃ k : Nat, i = (k : Int) := ⟨i.toNat, by omega⟩
        have hk : k < l.length := by omega
        exact ⟨l[k], true, fun w => at_in p W l hs k hk w, fun w => rat_in p W l hs k hk w⟩
    have hrg : ∃ c m, (∀ w, Calls Try.prog 26 #[.string p, .int .i64 i, .int .i64 j] w fun x w' => x = .returned (.tuple #[.int .i64 c, .int .i64 m]) ∧ Below w.heap.size w w') ∧ (∀ w, Calls Try.prog 27 #[.string p, .int .i64 i, .int .i64 j] w fun x w' => x = .returned (.tuple #[.int .i64 c, .int .i64 m]) ∧ Below w.heap.size w w') := by
      by_cases hij : j < i
      · exact ⟨0, 0, fun w => range_turned p W l hs i j hij w, fun w => rrange_turned p W l hs i j hij w⟩
      · exact ⟨_, _, fun w => range_in p W l hs i j (by omega) w, fun w => rrange_in p W l hs i j (by omega) w⟩
    obtain ⟨a, is, hat1, hat2⟩ := hat
    obtain ⟨c, m, hr1, hr2⟩ := hrg
    refine ⟨(l.length : Int), 0, l, true, (W : Int), a, is, c, m, decide (i ∈ l), ⟨fun w => len_set p W l hs w, fun w => ?_, fun w => all_set p W l hs w, fun w => rvalid_set p W l hs w, fun w => valid_set p W l hs w, hat1, hat2, hr1, hr2, fun w => has_set p W l hs i w, fun w => rhas_set p W l hs i w, rfl, hs.len, Or.inl ⟨rfl, rfl⟩⟩⟩
    refine (read_set p W l hs w).mono ?_
    rintro e w' ⟨v, rfl, ho, hb⟩
    exact ⟨v, rfl, HoldsI.own ho, hb⟩
  · refine ⟨0, 50, [], false, 0, 0, false, 0, 0, false, ⟨fun w => len_none p hp h w, fun w => ?_, fun w => ?_, fun w => rvalid_none p hp h w, fun w => valid_none p hp h w, fun w => at_none p hp h i w, fun w => rat_none p hp h i w, fun w => range_none p hp h i j w, fun w => rrange_none p hp h i j w, fun w => has_none p hp h i w, fun w => rhas_none p hp h i w, rfl, by simp, Or.inr ⟨rfl, rfl⟩⟩⟩
    · refine (read_none p hp h w).mono ?_
      rintro e w' ⟨rfl, hb⟩
      exact ⟨_, rfl, HoldsI.nil _, hb⟩
    · refine (all_none p hp h w).mono ?_
      rintro e w' ⟨rfl, hb⟩
      exact ⟨_, rfl, HoldsI.nil _, hb⟩
theorem step_b {B : Nat} {w w1 w2 : World} (h : Below B w w1) (hb : Below w1.heap.size w1 w2) (hs : B ≤ w.heap.size) : Below B w w2 := h.trans (hb.mono (Nat.le_trans hs h.size))
set_option maxHeartbeats 1000000 in
set_option maxRecDepth 100000 in
theorem IntsetAsks_walk (p : ByteArray) (i j : Int) (hz : p.size ≤ 140737488351232) (hi : (Lit.int .i64 i).wf = true) (hj : (Lit.int .i64 j).wf = true) (w : World) : Calls Try.prog 8 #[.string p, .int .i64 i, .int .i64 j] w fun e w' => e = .returned (.bool true) ∧ Below w.heap.size w w' := by
  obtain ⟨n, ee, l, ok, W, a, is, c, many, has, H⟩ := ask_two p (by unfold bigS; omega) i j
  have hl := H.ln
  have hle := H.le
  have heok := H.eok
  have HH : Hid (AskTwo p i j n ee l ok W a is c many has) := H
  have HSU : Hid (∀ w, Calls Try.prog 15 #[] w fun e w' => e = .returned (.bool true) ∧ Below w.heap.size w w') := fun w => sure_any w
  clear H hi hj
  subst hl
  have HLE : Hid (l.length ≤ 1048576) := hle
  clear hle
  rcases heok with ⟨rfl, rfl⟩ | ⟨rfl, rfl⟩
  · go_enter Try.func8, Try.ntmps8
    go_wp2_with fail
    refine (HH.out.len _).mono ?_
    rintro e w1 ⟨rfl, hb1⟩
    have HB1 : Hid (Below w.heap.size w w1) := hb1
    clear hb1
    go_wp2_with fail
    refine (HH.out.read _).mono ?_
    rintro e w2 ⟨vm, rfl, hm2, hb2⟩
    have HB2 : Hid (Below w.heap.size w w2) := step_b HB1.out hb2 (Nat.le_refl _)
    have HM2 : Hid (HoldsI w2 vm l) := hm2
    clear hb2 hm2
    go_wp2_with fail
    refine (HH.out.all _).mono ?_
    rintro e w3 ⟨vl, rfl, hl3, hb3⟩
    have HB3 : Hid (Below w.heap.size w w3) := step_b HB2.out hb3 (Nat.le_refl _)
    have HM3 : Hid (HoldsI w3 vm l) := HM2.out.keep hb3
    have HL3 : Hid (HoldsI w3 vl l) := hl3
    clear hb3 hl3
    go_wp2_with fail
    refine (HH.out.rvalid _).mono ?_
    rintro e w4 ⟨rfl, hb4⟩
    have HB4 : Hid (Below w.heap.size w w4) := step_b HB3.out hb4 (Nat.le_refl _)
    have HM4 : Hid (HoldsI w4 vm l) := HM3.out.keep hb4
    have HL4 : Hid (HoldsI w4 vl l) := HL3.out.keep hb4
    clear hb4
    obtain ⟨qm, cm, evm, _⟩ := HM4.out
    subst evm
    go_wp2_with fail
    refine (HH.out.valid _).mono ?_
    rintro e w5 ⟨rfl, hb5⟩
    have HB5 : Hid (Below w.heap.size w w5) := step_b HB4.out hb5 (Nat.le_refl _)
    have HM5 : Hid (HoldsI w5 (.slice qm l.length cm) l) := HM4.out.keep hb5
    have HL5 : Hid (HoldsI w5 vl l) := HL4.out.keep hb5
    clear hb5
    go_wp2_with fail
    refine (same_any vl _ l HLE.out _ HL5.out HM5.out).mono ?_
    rintro e w6 ⟨rfl, hb6⟩
    have HB6 : Hid (Below w.heap.size w w6) := step_b HB5.out hb6 (Nat.le_refl _)
    clear hb6
    go_wp2_with fail
    refine (HH.out.at1 _).mono ?_
    rintro e w7 ⟨rfl, hb7⟩
    have HB7 : Hid (Below w.heap.size w w7) := step_b HB6.out hb7 (Nat.le_refl _)
    clear hb7
    go_wp2_with fail
    refine (HH.out.at2 _).mono ?_
    rintro e w8 ⟨rfl, hb8⟩
    have HB8 : Hid (Below w.heap.size w w8) := step_b HB7.out hb8 (Nat.le_refl _)
    clear hb8
    go_wp2_with fail
    refine (HH.out.r1 _).mono ?_
    rintro e w9 ⟨rfl, hb9⟩
    have HB9 : Hid (Below w.heap.size w w9) := step_b HB8.out hb9 (Nat.le_refl _)
    clear hb9
    go_wp2_with fail
    refine (HH.out.r2 _).mono ?_
    rintro e w10 ⟨rfl, hb10⟩
    have HB10 : Hid (Below w.heap.size w w10) := step_b HB9.out hb10 (Nat.le_refl _)
    clear hb10
    go_wp2_with fail
    refine (HH.out.h1 _).mono ?_
    rintro e w11 ⟨rfl, hb11⟩
    have HB11 : Hid (Below w.heap.size w w11) := step_b HB10.out hb11 (Nat.le_refl _)
    clear hb11
    go_wp2_with fail
    refine (HH.out.h2 _).mono ?_
    rintro e w12 ⟨rfl, hb12⟩
    have HB12 : Hid (Below w.heap.size w w12) := step_b HB11.out hb12 (Nat.le_refl _)
    clear hb12
    go_wp2_with fail
    refine (HSU.out _).mono ?_
    rintro e w13 ⟨rfl, hb13⟩
    have HB13 : Hid (Below w.heap.size w w13) := step_b HB12.out hb13 (Nat.le_refl _)
    clear hb13
    go_wp2
    go_ret
    exact ⟨rfl, HB13.out⟩
  · go_enter Try.func8, Try.ntmps8
    go_wp2_with fail
    refine (HH.out.len _).mono ?_
    rintro e w1 ⟨rfl, hb1⟩
    have HB1 : Hid (Below w.heap.size w w1) := hb1
    clear hb1
    go_wp2_with fail
    refine (HH.out.read _).mono ?_
    rintro e w2 ⟨vm, rfl, hm2, hb2⟩
    have HB2 : Hid (Below w.heap.size w w2) := step_b HB1.out hb2 (Nat.le_refl _)
    have HM2 : Hid (HoldsI w2 vm l) := hm2
    clear hb2 hm2
    go_wp2_with fail
    refine (HH.out.all _).mono ?_
    rintro e w3 ⟨vl, rfl, hl3, hb3⟩
    have HB3 : Hid (Below w.heap.size w w3) := step_b HB2.out hb3 (Nat.le_refl _)
    have HM3 : Hid (HoldsI w3 vm l) := HM2.out.keep hb3
    have HL3 : Hid (HoldsI w3 vl l) := hl3
    clear hb3 hl3
    go_wp2_with fail
    refine (HH.out.rvalid _).mono ?_
    rintro e w4 ⟨rfl, hb4⟩
    have HB4 : Hid (Below w.heap.size w w4) := step_b HB3.out hb4 (Nat.le_refl _)
    have HM4 : Hid (HoldsI w4 vm l) := HM3.out.keep hb4
    have HL4 : Hid (HoldsI w4 vl l) := HL3.out.keep hb4
    clear hb4
    obtain ⟨qm, cm, evm, _⟩ := HM4.out
    subst evm
    go_wp2_with fail
    refine (HH.out.valid _).mono ?_
    rintro e w5 ⟨rfl, hb5⟩
    have HB5 : Hid (Below w.heap.size w w5) := step_b HB4.out hb5 (Nat.le_refl _)
    have HM5 : Hid (HoldsI w5 (.slice qm l.length cm) l) := HM4.out.keep hb5
    have HL5 : Hid (HoldsI w5 vl l) := HL4.out.keep hb5
    clear hb5
    go_wp2_with fail
    refine (same_any vl _ l HLE.out _ HL5.out HM5.out).mono ?_
    rintro e w6 ⟨rfl, hb6⟩
    have HB6 : Hid (Below w.heap.size w w6) := step_b HB5.out hb6 (Nat.le_refl _)
    clear hb6
    go_wp2_with fail
    refine (HH.out.at1 _).mono ?_
    rintro e w7 ⟨rfl, hb7⟩
    have HB7 : Hid (Below w.heap.size w w7) := step_b HB6.out hb7 (Nat.le_refl _)
    clear hb7
    go_wp2_with fail
    refine (HH.out.at2 _).mono ?_
    rintro e w8 ⟨rfl, hb8⟩
    have HB8 : Hid (Below w.heap.size w w8) := step_b HB7.out hb8 (Nat.le_refl _)
    clear hb8
    go_wp2_with fail
    refine (HH.out.r1 _).mono ?_
    rintro e w9 ⟨rfl, hb9⟩
    have HB9 : Hid (Below w.heap.size w w9) := step_b HB8.out hb9 (Nat.le_refl _)
    clear hb9
    go_wp2_with fail
    refine (HH.out.r2 _).mono ?_
    rintro e w10 ⟨rfl, hb10⟩
    have HB10 : Hid (Below w.heap.size w w10) := step_b HB9.out hb10 (Nat.le_refl _)
    clear hb10
    go_wp2_with fail
    refine (HH.out.h1 _).mono ?_
    rintro e w11 ⟨rfl, hb11⟩
    have HB11 : Hid (Below w.heap.size w w11) := step_b HB10.out hb11 (Nat.le_refl _)
    clear hb11
    go_wp2_with fail
    refine (HH.out.h2 _).mono ?_
    rintro e w12 ⟨rfl, hb12⟩
    have HB12 : Hid (Below w.heap.size w w12) := step_b HB11.out hb12 (Nat.le_refl _)
    clear hb12
    go_wp2_with fail
    refine (HSU.out _).mono ?_
    rintro e w13 ⟨rfl, hb13⟩
    have HB13 : Hid (Below w.heap.size w w13) := step_b HB12.out hb13 (Nat.le_refl _)
    clear hb13
    go_wp2
    go_ret
    exact ⟨rfl, HB13.out⟩
end Go.Proofs.Ytghgdekdbbogkaa
