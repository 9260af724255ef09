import Derived.Test.YtnnpnccnpojfmaaTbI
namespace Go.Proofs.Ytnnpnccnpojfmaa
open Go.RowKit
set_option linter.unusedVariables false
set_option linter.unusedSimpArgs false
theorem num_any (x : Int) (w : World) : Calls Try.prog 8 #[.int .i64 x] w fun e w' => e = .returned (.int .i64 x) ∧ w' = w := by
  go_enter Try.func8, Try.ntmps8
  go_wp2
  go_returns
  exact ⟨rfl, rfl⟩
set_option maxHeartbeats 2000000 in
set_option maxRecDepth 20000 in
theorem check_any (args : List ByteArray) (va : Value) (hl : args.length ≤ 70368744177664) (h0 : (TB.name0 args).size ≤ 140737488351232) (w : World) (hA : SRow w va args) : Calls Try.prog 9 #[va] w fun e w' => e = .returned (.int .i64 (TB.err args)) ∧ Below w.heap.size w w' := by
  have HC : Hid _ := command_any args va hl h0 w hA
  obtain ⟨P, c, rfl⟩ := hA.form
  obtain ⟨x0, x1, x2, x3, x4, x5, x6, x7, x8, x9, hsp, e0, e1, e2, e6, e7, e8, e9⟩ := TB.spec_form (TB.row args)
  rw [hsp] at HC
  generalize TB.err args = er at *
  clear hA h0 hsp e0 e1 e2 e6 e7 e8 e9
  go_enter Try.func9, Try.ntmps9
  go_wp2_with fail
  refine (show Calls _ _ _ _ _ from HC.out).mono ?_
  rintro e w1 ⟨rfl, hb1⟩
  have HB1 : Hid (Below w.heap.size w w1) := hb1
  clear hb1
  go_wp2
  go_returns
  exact ⟨rfl, bel_to HB1.out ((Below.refl _ _).alloc (Nat.le_refl _) _) (Nat.le_refl _)⟩
set_option maxHeartbeats 4000000 in
set_option maxRecDepth 20000 in
theorem rcheck_any (args : List ByteArray) (va : Value) (hl : args.length ≤ 70368744177664) (h0 : (TB.name0 args).size ≤ 140737488351232) (w : World) (hA : SRow w va args) : Calls Try.prog 20 #[va] w fun e w' => e = .returned (.int .i64 (TB.err args)) ∧ Below w.heap.size w w' := by
  match args, hl, h0, hA with
  | [], hl, h0, hA =>
    obtain ⟨P, c, rfl⟩ := hA.form
    rw [TB.err_none TB.row_nil]
    go_enter Try.func20, Try.ntmps20
    go_wp2
    go_returns
    exact ⟨rfl, Below.refl _ _⟩
  | a :: l, hl, h0, hA =>
    obtain ⟨P, c, rfl⟩ := hA.form
    obtain ⟨g, o, rfl, hc⟩ := hA.cell 0 (by simp)
    simp only [Nat.add_zero, List.getElem_cons_zero] at hc
    have HF : Hid _ := rfind_any a h0
    obtain ⟨args, ha⟩ : ∃ args, a :: l = args := ⟨_, rfl⟩
    obtain ⟨ro, ho⟩ : ∃ ro, TB.row args = ro := ⟨_, rfl⟩
    have ho2 : TB.find (TB.low a.data.toList) = ro := by rw [← ho, ← ha]; rfl
    rw [ho2] at HF
    rw [ha] at hl ⊢
    have HO : Hid (TB.row args = ro) := ho
    obtain ⟨n, hn⟩ : ∃ n, args.length = n := ⟨_, rfl⟩
    have HNL : Hid (args.length = n) := hn
    have hn0 : ¬ n = 0 := by rw [← hn, ← ha]; simp
    rw [hn] at hl ⊢
    obtain ⟨x0, x1, x2, x3, x4, x5, x6, x7, x8, x9, hsp, e0, e1, e2, e6, e7, e8, e9⟩ := TB.spec_form ro
    rw [hsp] at HF
    have HE1 : Hid (x1 = TB.leO ro) := e1
    have HE2 : Hid (x2 = TB.moO ro) := e2
    have h3 : 0 < n := by omega
    have h4 : ((n : Int) == 0) = false := by simp; omega
    have h5 : (0 : Int) < (n : Int) := by omega
    clear hsp e0 e1 e2 e6 e7 e8 e9 hA ha ho ho2 hn h0
    obtain ⟨ok, hok⟩ : ∃ ok, ro.isSome = ok := ⟨_, rfl⟩
    have HOK : Hid (ro.isSome = ok) := hok
    rw [hok] at HF
    clear hok
    cases ok with
    | false =>
      have HEN : Hid (ro = none) := by show _ = _; have := HOK.out; cases ro with
        | none => rfl
        | some r => cases this
      have HER : Hid (TB.err args = 130) := TB.err_none (by rw [HO.out, HEN.out])
      rw [HER.out]
      go_enter Try.func20, Try.ntmps20
      go_wp2_with fail
      refine (show Calls _ _ _ _ _ from HF.out _).mono ?_
      rintro e w2 ⟨rfl, hb2⟩
      have HB2 : Hid (Below w.heap.size w w2) := hb2
      clear hb2
      go_upto_region 4 with fail
      obtain ⟨W3, hW3⟩ : ∃ W, w2.alloc (.cells #[.string x0, .int .i64 x1, .int .i64 x2, .bool x3, .bool x4, .bool x5, .int .i64 x6, .int .i64 x7, .int .i64 x8, .int .i64 x9] 28) = W := ⟨_, rfl⟩
      have HS3 : Hid (W3.heap[w2.heap.size]? = some (.cells #[.string x0, .int .i64 x1, .int .i64 x2, .bool x3, .bool x4, .bool x5, .int .i64 x6, .int .i64 x7, .int .i64 x8, .int .i64 x9] 28)) := by rw [← hW3]; exact one_alloc w2 _
      have HB3 : Hid (Below w.heap.size w W3) := by rw [← hW3]; exact bel_to HB2.out ((Below.refl _ _).alloc (Nat.le_refl _) _) (Nat.le_refl _)
      rw [hW3]
      obtain ⟨SB, hSB⟩ : ∃ SB, w2.heap.size = SB := ⟨_, rfl⟩
      rw [hSB] at HS3 ⊢
      clear hW3 hSB
      obtain ⟨c0, c1, c2, c3, c4, c5, c6, c7, c8, c9, cf⟩ := row10 HS3.out
      go_wp2
      go_returns
      exact ⟨rfl, HB3.out⟩
    | true =>
      obtain ⟨r, hr⟩ : ∃ r, ro = some r := Option.isSome_iff_exists.1 HOK.out
      have HRR : Hid (ro = some r) := hr
      clear hr
      by_cases q1 : (n : Int) < x1
      · have HER : Hid (TB.err args = 131) := TB.err_few (by rw [HO.out, HRR.out]) (Or.inl (by rw [HNL.out, ← HRR.out, ← HE1.out]; exact q1))
        rw [HER.out]
        go_enter Try.func20, Try.ntmps20
        go_wp2_with fail
        refine (show Calls _ _ _ _ _ from HF.out _).mono ?_
        rintro e w2 ⟨rfl, hb2⟩
        have HB2 : Hid (Below w.heap.size w w2) := hb2
        clear hb2
        go_upto_region 4 with fail
        obtain ⟨W3, hW3⟩ : ∃ W, w2.alloc (.cells #[.string x0, .int .i64 x1, .int .i64 x2, .bool x3, .bool x4, .bool x5, .int .i64 x6, .int .i64 x7, .int .i64 x8, .int .i64 x9] 28) = W := ⟨_, rfl⟩
        have HS3 : Hid (W3.heap[w2.heap.size]? = some (.cells #[.string x0, .int .i64 x1, .int .i64 x2, .bool x3, .bool x4, .bool x5, .int .i64 x6, .int .i64 x7, .int .i64 x8, .int .i64 x9] 28)) := by rw [← hW3]; exact one_alloc w2 _
        have HB3 : Hid (Below w.heap.size w W3) := by rw [← hW3]; exact bel_to HB2.out ((Below.refl _ _).alloc (Nat.le_refl _) _) (Nat.le_refl _)
        rw [hW3]
        obtain ⟨SB, hSB⟩ : ∃ SB, w2.heap.size = SB := ⟨_, rfl⟩
        rw [hSB] at HS3 ⊢
        clear hW3 hSB
        obtain ⟨c0, c1, c2, c3, c4, c5, c6, c7, c8, c9, cf⟩ := row10 HS3.out
        go_wp2
        go_returns
        exact ⟨rfl, HB3.out⟩
      · by_cases q2 : 0 ≤ x2
        · by_cases q3 : x2 < (n : Int)
          · have HER : Hid (TB.err args = 131) := TB.err_few (by rw [HO.out, HRR.out]) (Or.inr (by rw [HNL.out, ← HRR.out, ← HE2.out]; exact ⟨q2, q3⟩))
            rw [HER.out]
            go_enter Try.func20, Try.ntmps20
            go_wp2_with fail
            refine (show Calls _ _ _ _ _ from HF.out _).mono ?_
            rintro e w2 ⟨rfl, hb2⟩
            have HB2 : Hid (Below w.heap.size w w2) := hb2
            clear hb2
            go_upto_region 4 with fail
            obtain ⟨W3, hW3⟩ : ∃ W, w2.alloc (.cells #[.string x0, .int .i64 x1, .int .i64 x2, .bool x3, .bool x4, .bool x5, .int .i64 x6, .int .i64 x7, .int .i64 x8, .int .i64 x9] 28) = W := ⟨_, rfl⟩
            have HS3 : Hid (W3.heap[w2.heap.size]? = some (.cells #[.string x0, .int .i64 x1, .int .i64 x2, .bool x3, .bool x4, .bool x5, .int .i64 x6, .int .i64 x7, .int .i64 x8, .int .i64 x9] 28)) := by rw [← hW3]; exact one_alloc w2 _
            have HB3 : Hid (Below w.heap.size w W3) := by rw [← hW3]; exact bel_to HB2.out ((Below.refl _ _).alloc (Nat.le_refl _) _) (Nat.le_refl _)
            rw [hW3]
            obtain ⟨SB, hSB⟩ : ∃ SB, w2.heap.size = SB := ⟨_, rfl⟩
            rw [hSB] at HS3 ⊢
            clear hW3 hSB
            obtain ⟨c0, c1, c2, c3, c4, c5, c6, c7, c8, c9, cf⟩ := row10 HS3.out
            go_wp2
            go_returns
            exact ⟨rfl, HB3.out⟩
          · have HER : Hid (TB.err args = 0) := TB.err_ok (by rw [HO.out, HRR.out]) (by rw [HNL.out, ← HRR.out]; unfold TB.few; rw [← HE1.out, ← HE2.out]; omega)
            rw [HER.out]
            go_enter Try.func20, Try.ntmps20
            go_wp2_with fail
            refine (show Calls _ _ _ _ _ from HF.out _).mono ?_
            rintro e w2 ⟨rfl, hb2⟩
            have HB2 : Hid (Below w.heap.size w w2) := hb2
            clear hb2
            go_upto_region 4 with fail
            obtain ⟨W3, hW3⟩ : ∃ W, w2.alloc (.cells #[.string x0, .int .i64 x1, .int .i64 x2, .bool x3, .bool x4, .bool x5, .int .i64 x6, .int .i64 x7, .int .i64 x8, .int .i64 x9] 28) = W := ⟨_, rfl⟩
            have HS3 : Hid (W3.heap[w2.heap.size]? = some (.cells #[.string x0, .int .i64 x1, .int .i64 x2, .bool x3, .bool x4, .bool x5, .int .i64 x6, .int .i64 x7, .int .i64 x8, .int .i64 x9] 28)) := by rw [← hW3]; exact one_alloc w2 _
            have HB3 : Hid (Below w.heap.size w W3) := by rw [← hW3]; exact bel_to HB2.out ((Below.refl _ _).alloc (Nat.le_refl _) _) (Nat.le_refl _)
            rw [hW3]
            obtain ⟨SB, hSB⟩ : ∃ SB, w2.heap.size = SB := ⟨_, rfl⟩
            rw [hSB] at HS3 ⊢
            clear hW3 hSB
            obtain ⟨c0, c1, c2, c3, c4, c5, c6, c7, c8, c9, cf⟩ := row10 HS3.out
            go_wp2
            go_returns
            exact ⟨rfl, HB3.out⟩
        · have HER : Hid (TB.err args = 0) := TB.err_ok (by rw [HO.out, HRR.out]) (by rw [HNL.out, ← HRR.out]; unfold TB.few; rw [← HE1.out, ← HE2.out]; omega)
          rw [HER.out]
          go_enter Try.func20, Try.ntmps20
          go_wp2_with fail
          refine (show Calls _ _ _ _ _ from HF.out _).mono ?_
          rintro e w2 ⟨rfl, hb2⟩
          have HB2 : Hid (Below w.heap.size w w2) := hb2
          clear hb2
          go_upto_region 4 with fail
          obtain ⟨W3, hW3⟩ : ∃ W, w2.alloc (.cells #[.string x0, .int .i64 x1, .int .i64 x2, .bool x3, .bool x4, .bool x5, .int .i64 x6, .int .i64 x7, .int .i64 x8, .int .i64 x9] 28) = W := ⟨_, rfl⟩
          have HS3 : Hid (W3.heap[w2.heap.size]? = some (.cells #[.string x0, .int .i64 x1, .int .i64 x2, .bool x3, .bool x4, .bool x5, .int .i64 x6, .int .i64 x7, .int .i64 x8, .int .i64 x9] 28)) := by rw [← hW3]; exact one_alloc w2 _
          have HB3 : Hid (Below w.heap.size w W3) := by rw [← hW3]; exact bel_to HB2.out ((Below.refl _ _).alloc (Nat.le_refl _) _) (Nat.le_refl _)
          rw [hW3]
          obtain ⟨SB, hSB⟩ : ∃ SB, w2.heap.size = SB := ⟨_, rfl⟩
          rw [hSB] at HS3 ⊢
          clear hW3 hSB
          obtain ⟨c0, c1, c2, c3, c4, c5, c6, c7, c8, c9, cf⟩ := row10 HS3.out
          go_wp2
          go_returns
          exact ⟨rfl, HB3.out⟩
end Go.Proofs.Ytnnpnccnpojfmaa
