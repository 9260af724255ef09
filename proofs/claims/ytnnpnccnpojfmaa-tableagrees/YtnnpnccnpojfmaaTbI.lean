import Derived.Test.YtnnpnccnpojfmaaTbN
import Derived.Test.YtnnpnccnpojfmaaTbG
namespace Go.Proofs.Ytnnpnccnpojfmaa
open Go.RowKit
set_option linter.unusedVariables false
set_option linter.unusedSimpArgs false
set_option maxHeartbeats 1000000 in
theorem nameOf_any (args : List ByteArray) (va : Value) (w : World) (hA : SRow w va args) : Calls Try.prog 30 #[va] w fun e w' => e = .returned (.string (TB.name0 args)) ∧ w' = w := by
  match args, hA with
  | [], hA =>
    obtain ⟨P, c, rfl⟩ := hA.form
    go_enter Try.func30, Try.ntmps30
    go_wp2
    go_returns
    exact ⟨rfl, rfl⟩
  | a :: l, hA =>
    obtain ⟨P, c, rfl⟩ := hA.form
    obtain ⟨g, o, rfl, hc⟩ := hA.cell 0 (by simp)
    simp only [Nat.add_zero, List.getElem_cons_zero] at hc
    obtain ⟨n, hn⟩ : ∃ n, (a :: l).length = n + 1 := ⟨l.length, by simp⟩
    rw [hn]
    have h0 : (((n + 1 : Nat) : Int) == 0) = false := by simp; omega
    have h1 : (0 : Int) < ((n + 1 : Nat) : Int) := by omega
    clear hA hn
    obtain ⟨m, hm⟩ : ∃ m, n + 1 = m := ⟨_, rfl⟩
    rw [hm] at h0 h1 ⊢
    have h2 : ¬ m = 0 := by omega
    have h3 : 0 < m := by omega
    clear hm
    go_enter Try.func30, Try.ntmps30
    go_wp2
    go_returns
    exact ⟨rfl, rfl⟩
set_option maxHeartbeats 4000000 in
set_option maxRecDepth 20000 in
theorem command_any (args : List ByteArray) (va : Value) (hl : args.length ≤ 70368744177664) (h0 : (TB.name0 args).size ≤ 140737488351232) (w : World) (hA : SRow w va args) : Calls Try.prog 23 #[va] w fun e w' => e = .returned (.tuple #[TB.spec (TB.row args), .int .i64 (TB.err args)]) ∧ Below w.heap.size w w' := by
  have HN : Hid (∀ W, Below w.heap.size w W → Calls Try.prog 30 #[va] W fun e w' => e = .returned (.string (TB.name0 args)) ∧ w' = W) := fun W hb => nameOf_any args va W (hA.on hb)
  have HF : Hid _ := find_any (TB.name0 args) h0
  obtain ⟨P, c, rfl⟩ := hA.form
  clear hA
  obtain ⟨nm, hnm⟩ : ∃ nm, TB.name0 args = nm := ⟨_, rfl⟩
  obtain ⟨o, ho⟩ : ∃ o, TB.row args = o := ⟨_, rfl⟩
  have ho2 : TB.find (TB.low nm.data.toList) = o := by rw [← hnm]; exact ho
  rw [hnm] at HN HF
  rw [ho2] at HF
  have HO : Hid (TB.row args = o) := ho
  clear ho2 hnm h0
  rw [ho]
  clear ho
  obtain ⟨x0, x1, x2, x3, x4, x5, x6, x7, x8, x9, hsp, e0, e1, e2, e6, e7, e8, e9⟩ := TB.spec_form o
  rw [hsp] at HF ⊢
  have HSP : Hid _ := hsp
  have HE1 : Hid (x1 = TB.leO o) := e1
  have HE2 : Hid (x2 = TB.moO o) := e2
  clear hsp e0 e1 e2 e6 e7 e8 e9
  obtain ⟨n, hn⟩ : ∃ n, args.length = n := ⟨_, rfl⟩
  have HNL : Hid (args.length = n) := hn
  rw [hn] at hl HN ⊢
  clear hn
  obtain ⟨ok, hok⟩ : ∃ ok, o.isSome = ok := ⟨_, rfl⟩
  have HOK : Hid (o.isSome = ok) := hok
  rw [hok] at HF
  clear hok
  cases ok with
  | false =>
    have HEN : Hid (o = none) := by show _ = _; have := HOK.out; cases o with
      | none => rfl
      | some r => cases this
    have HER : Hid (TB.err args = 130) := TB.err_none (by rw [HO.out, HEN.out])
    rw [HER.out]
    go_enter Try.func23, Try.ntmps23
    go_wp2_with fail
    refine (show Calls _ _ _ _ _ from HN.out _ ((Below.refl _ w).alloc (Nat.le_refl _) _)).mono ?_
    rintro e w1 ⟨rfl, hw1⟩
    have HG1 : Hid (w1.heap[w.heap.size]? = some zspec) := by rw [hw1]; exact one_alloc w _
    have HB1 : Hid (Below w.heap.size w w1) := by rw [hw1]; exact (Below.refl _ w).alloc (Nat.le_refl _) _
    clear hw1
    go_wp2_with fail
    refine (show Calls _ _ _ _ _ from HF.out _).mono ?_
    rintro e w2 ⟨rfl, hb2⟩
    have HG2 : Hid (w2.heap[w.heap.size]? = some zspec) := keep_row HG1.out hb2
    have HB2 : Hid (Below w.heap.size w w2) := bel_to HB1.out hb2 (Nat.le_refl _)
    clear hb2
    go_upto_region 2 with fail
    obtain ⟨W3, hW3⟩ : ∃ W, w2.alloc (.cells #[.string x0, .int .i64 x1, .int .i64 x2, .bool x3, .bool x4, .bool x5, .int .i64 x6, .int .i64 x7, .int .i64 x8, .int .i64 x9] 28) = W := ⟨_, rfl⟩
    have HG3 : Hid (W3.heap[w.heap.size]? = some zspec) := by rw [← hW3]; exact keep_row HG2.out ((Below.refl _ _).alloc (Nat.le_refl _) _)
    have HS3 : Hid (W3.heap[w2.heap.size]? = some (.cells #[.string x0, .int .i64 x1, .int .i64 x2, .bool x3, .bool x4, .bool x5, .int .i64 x6, .int .i64 x7, .int .i64 x8, .int .i64 x9] 28)) := by rw [← hW3]; exact one_alloc w2 _
    have HB3 : Hid (Below w.heap.size w W3) := by rw [← hW3]; exact bel_to HB2.out ((Below.refl _ _).alloc (Nat.le_refl _) _) (Nat.le_refl _)
    rw [hW3]
    obtain ⟨SB, hSB⟩ : ∃ SB, w2.heap.size = SB := ⟨_, rfl⟩
    rw [hSB] at HS3 ⊢
    clear hW3 hSB
    obtain ⟨d0, d1, d2, d3, d4, d5, d6, d7, d8, d9, df⟩ := row10 HG3.out
    go_wp2
    obtain ⟨hF3, hO3⟩ := heap_set10 _ w.heap.size 28 _ _ _ _ _ _ _ _ _ _ (.string ⟨#[]⟩) (.int .i64 0) (.int .i64 0) (.bool false) (.bool false) (.bool false) (.int .i64 0) (.int .i64 0) (.int .i64 0) (.int .i64 0) HG3.out
    obtain ⟨k0, k1, k2, k3, k4, k5, k6, k7, k8, k9, kf⟩ := row10 hF3
    refine bodyPost_ret (v := .tuple #[TB.spec none, .int .i64 130]) (by simp [results, Try.results23, go_sem, k0, k1, k2, k3, k4, k5, k6, k7, k8, k9, TB.spec, TB.nmO, TB.leO, TB.moO, TB.wO, TB.aO, TB.sO, TB.fiO, TB.laO, TB.stO, TB.coO]) rfl ⟨by rw [← HSP.out, HEN.out], ?_⟩
    exact HB3.out.trans (hO3.below (Nat.le_refl _))
  | true =>
    obtain ⟨r, hr⟩ : ∃ r, o = some r := Option.isSome_iff_exists.1 HOK.out
    have HRR : Hid (o = some r) := hr
    clear hr
    by_cases q1 : (n : Int) < x1
    · have HER : Hid (TB.err args = 131) := TB.err_few (by rw [HO.out, HRR.out]) (Or.inl (by rw [HNL.out, ← HRR.out, ← HE1.out]; exact q1))
      rw [HER.out]
      go_enter Try.func23, Try.ntmps23
      go_wp2_with fail
      refine (show Calls _ _ _ _ _ from HN.out _ ((Below.refl _ w).alloc (Nat.le_refl _) _)).mono ?_
      rintro e w1 ⟨rfl, hw1⟩
      have HG1 : Hid (w1.heap[w.heap.size]? = some zspec) := by rw [hw1]; exact one_alloc w _
      have HB1 : Hid (Below w.heap.size w w1) := by rw [hw1]; exact (Below.refl _ w).alloc (Nat.le_refl _) _
      clear hw1
      go_wp2_with fail
      refine (show Calls _ _ _ _ _ from HF.out _).mono ?_
      rintro e w2 ⟨rfl, hb2⟩
      have HG2 : Hid (w2.heap[w.heap.size]? = some zspec) := keep_row HG1.out hb2
      have HB2 : Hid (Below w.heap.size w w2) := bel_to HB1.out hb2 (Nat.le_refl _)
      clear hb2
      go_upto_region 2 with fail
      obtain ⟨W3, hW3⟩ : ∃ W, w2.alloc (.cells #[.string x0, .int .i64 x1, .int .i64 x2, .bool x3, .bool x4, .bool x5, .int .i64 x6, .int .i64 x7, .int .i64 x8, .int .i64 x9] 28) = W := ⟨_, rfl⟩
      have HG3 : Hid (W3.heap[w.heap.size]? = some zspec) := by rw [← hW3]; exact keep_row HG2.out ((Below.refl _ _).alloc (Nat.le_refl _) _)
      have HS3 : Hid (W3.heap[w2.heap.size]? = some (.cells #[.string x0, .int .i64 x1, .int .i64 x2, .bool x3, .bool x4, .bool x5, .int .i64 x6, .int .i64 x7, .int .i64 x8, .int .i64 x9] 28)) := by rw [← hW3]; exact one_alloc w2 _
      have HB3 : Hid (Below w.heap.size w W3) := by rw [← hW3]; exact bel_to HB2.out ((Below.refl _ _).alloc (Nat.le_refl _) _) (Nat.le_refl _)
      rw [hW3]
      obtain ⟨SB, hSB⟩ : ∃ SB, w2.heap.size = SB := ⟨_, rfl⟩
      rw [hSB] at HS3 ⊢
      clear hW3 hSB
      obtain ⟨d0, d1, d2, d3, d4, d5, d6, d7, d8, d9, df⟩ := row10 HG3.out
      obtain ⟨c0, c1, c2, c3, c4, c5, c6, c7, c8, c9, cf⟩ := row10 HS3.out
      go_wp2
      obtain ⟨hF3, hO3⟩ := heap_set10 _ w.heap.size 28 _ _ _ _ _ _ _ _ _ _ (.string x0) (.int .i64 x1) (.int .i64 x2) (.bool x3) (.bool x4) (.bool x5) (.int .i64 x6) (.int .i64 x7) (.int .i64 x8) (.int .i64 x9) HG3.out
      obtain ⟨k0, k1, k2, k3, k4, k5, k6, k7, k8, k9, kf⟩ := row10 hF3
      refine bodyPost_ret (v := .tuple #[.agg #[.string x0, .int .i64 x1, .int .i64 x2, .bool x3, .bool x4, .bool x5, .int .i64 x6, .int .i64 x7, .int .i64 x8, .int .i64 x9], .int .i64 131]) (by simp [results, Try.results23, go_sem, k0, k1, k2, k3, k4, k5, k6, k7, k8, k9]) rfl ⟨rfl, ?_⟩
      exact HB3.out.trans (hO3.below (Nat.le_refl _))
    · by_cases q2 : 0 ≤ x2
      · by_cases q3 : x2 < (n : Int)
        · have HER : Hid (TB.err args = 131) := TB.err_few (by rw [HO.out, HRR.out]) (Or.inr (by rw [HNL.out, ← HRR.out, ← HE2.out]; exact ⟨q2, q3⟩))
          rw [HER.out]
          go_enter Try.func23, Try.ntmps23
          go_wp2_with fail
          refine (show Calls _ _ _ _ _ from HN.out _ ((Below.refl _ w).alloc (Nat.le_refl _) _)).mono ?_
          rintro e w1 ⟨rfl, hw1⟩
          have HG1 : Hid (w1.heap[w.heap.size]? = some zspec) := by rw [hw1]; exact one_alloc w _
          have HB1 : Hid (Below w.heap.size w w1) := by rw [hw1]; exact (Below.refl _ w).alloc (Nat.le_refl _) _
          clear hw1
          go_wp2_with fail
          refine (show Calls _ _ _ _ _ from HF.out _).mono ?_
          rintro e w2 ⟨rfl, hb2⟩
          have HG2 : Hid (w2.heap[w.heap.size]? = some zspec) := keep_row HG1.out hb2
          have HB2 : Hid (Below w.heap.size w w2) := bel_to HB1.out hb2 (Nat.le_refl _)
          clear hb2
          go_upto_region 2 with fail
          obtain ⟨W3, hW3⟩ : ∃ W, w2.alloc (.cells #[.string x0, .int .i64 x1, .int .i64 x2, .bool x3, .bool x4, .bool x5, .int .i64 x6, .int .i64 x7, .int .i64 x8, .int .i64 x9] 28) = W := ⟨_, rfl⟩
          have HG3 : Hid (W3.heap[w.heap.size]? = some zspec) := by rw [← hW3]; exact keep_row HG2.out ((Below.refl _ _).alloc (Nat.le_refl _) _)
          have HS3 : Hid (W3.heap[w2.heap.size]? = some (.cells #[.string x0, .int .i64 x1, .int .i64 x2, .bool x3, .bool x4, .bool x5, .int .i64 x6, .int .i64 x7, .int .i64 x8, .int .i64 x9] 28)) := by rw [← hW3]; exact one_alloc w2 _
          have HB3 : Hid (Below w.heap.size w W3) := by rw [← hW3]; exact bel_to HB2.out ((Below.refl _ _).alloc (Nat.le_refl _) _) (Nat.le_refl _)
          rw [hW3]
          obtain ⟨SB, hSB⟩ : ∃ SB, w2.heap.size = SB := ⟨_, rfl⟩
          rw [hSB] at HS3 ⊢
          clear hW3 hSB
          obtain ⟨d0, d1, d2, d3, d4, d5, d6, d7, d8, d9, df⟩ := row10 HG3.out
          obtain ⟨c0, c1, c2, c3, c4, c5, c6, c7, c8, c9, cf⟩ := row10 HS3.out
          go_wp2
          obtain ⟨hF3, hO3⟩ := heap_set10 _ w.heap.size 28 _ _ _ _ _ _ _ _ _ _ (.string x0) (.int .i64 x1) (.int .i64 x2) (.bool x3) (.bool x4) (.bool x5) (.int .i64 x6) (.int .i64 x7) (.int .i64 x8) (.int .i64 x9) HG3.out
          obtain ⟨k0, k1, k2, k3, k4, k5, k6, k7, k8, k9, kf⟩ := row10 hF3
          refine bodyPost_ret (v := .tuple #[.agg #[.string x0, .int .i64 x1, .int .i64 x2, .bool x3, .bool x4, .bool x5, .int .i64 x6, .int .i64 x7, .int .i64 x8, .int .i64 x9], .int .i64 131]) (by simp [results, Try.results23, go_sem, k0, k1, k2, k3, k4, k5, k6, k7, k8, k9]) rfl ⟨rfl, ?_⟩
          exact HB3.out.trans (hO3.below (Nat.le_refl _))
        · have HER : Hid (TB.err args = 0) := TB.err_ok (by rw [HO.out, HRR.out]) (by rw [HNL.out, ← HRR.out]; unfold TB.few; rw [← HE1.out, ← HE2.out]; omega)
          rw [HER.out]
          go_enter Try.func23, Try.ntmps23
          go_wp2_with fail
          refine (show Calls _ _ _ _ _ from HN.out _ ((Below.refl _ w).alloc (Nat.le_refl _) _)).mono ?_
          rintro e w1 ⟨rfl, hw1⟩
          have HG1 : Hid (w1.heap[w.heap.size]? = some zspec) := by rw [hw1]; exact one_alloc w _
          have HB1 : Hid (Below w.heap.size w w1) := by rw [hw1]; exact (Below.refl _ w).alloc (Nat.le_refl _) _
          clear hw1
          go_wp2_with fail
          refine (show Calls _ _ _ _ _ from HF.out _).mono ?_
          rintro e w2 ⟨rfl, hb2⟩
          have HG2 : Hid (w2.heap[w.heap.size]? = some zspec) := keep_row HG1.out hb2
          have HB2 : Hid (Below w.heap.size w w2) := bel_to HB1.out hb2 (Nat.le_refl _)
          clear hb2
          go_upto_region 2 with fail
          obtain ⟨W3, hW3⟩ : ∃ W, w2.alloc (.cells #[.string x0, .int .i64 x1, .int .i64 x2, .bool x3, .bool x4, .bool x5, .int .i64 x6, .int .i64 x7, .int .i64 x8, .int .i64 x9] 28) = W := ⟨_, rfl⟩
          have HG3 : Hid (W3.heap[w.heap.size]? = some zspec) := by rw [← hW3]; exact keep_row HG2.out ((Below.refl _ _).alloc (Nat.le_refl _) _)
          have HS3 : Hid (W3.heap[w2.heap.size]? = some (.cells #[.string x0, .int .i64 x1, .int .i64 x2, .bool x3, .bool x4, .bool x5, .int .i64 x6, .int .i64 x7, .int .i64 x8, .int .i64 x9] 28)) := by rw [← hW3]; exact one_alloc w2 _
          have HB3 : Hid (Below w.heap.size w W3) := by rw [← hW3]; exact bel_to HB2.out ((Below.refl _ _).alloc (Nat.le_refl _) _) (Nat.le_refl _)
          rw [hW3]
          obtain ⟨SB, hSB⟩ : ∃ SB, w2.heap.size = SB := ⟨_, rfl⟩
          rw [hSB] at HS3 ⊢
          clear hW3 hSB
          obtain ⟨d0, d1, d2, d3, d4, d5, d6, d7, d8, d9, df⟩ := row10 HG3.out
          obtain ⟨c0, c1, c2, c3, c4, c5, c6, c7, c8, c9, cf⟩ := row10 HS3.out
          go_wp2
          obtain ⟨hF3, hO3⟩ := heap_set10 _ w.heap.size 28 _ _ _ _ _ _ _ _ _ _ (.string x0) (.int .i64 x1) (.int .i64 x2) (.bool x3) (.bool x4) (.bool x5) (.int .i64 x6) (.int .i64 x7) (.int .i64 x8) (.int .i64 x9) HG3.out
          obtain ⟨k0, k1, k2, k3, k4, k5, k6, k7, k8, k9, kf⟩ := row10 hF3
          refine bodyPost_ret (v := .tuple #[.agg #[.string x0, .int .i64 x1, .int .i64 x2, .bool x3, .bool x4, .bool x5, .int .i64 x6, .int .i64 x7, .int .i64 x8, .int .i64 x9], .int .i64 0]) (by simp [results, Try.results23, go_sem, k0, k1, k2, k3, k4, k5, k6, k7, k8, k9]) rfl ⟨rfl, ?_⟩
          exact HB3.out.trans (hO3.below (Nat.le_refl _))
      · have HER : Hid (TB.err args = 0) := TB.err_ok (by rw [HO.out, HRR.out]) (by rw [HNL.out, ← HRR.out]; unfold TB.few; rw [← HE1.out, ← HE2.out]; omega)
        rw [HER.out]
        go_enter Try.func23, Try.ntmps23
        go_wp2_with fail
        refine (show Calls _ _ _ _ _ from HN.out _ ((Below.refl _ w).alloc (Nat.le_refl _) _)).mono ?_
        rintro e w1 ⟨rfl, hw1⟩
        have HG1 : Hid (w1.heap[w.heap.size]? = some zspec) := by rw [hw1]; exact one_alloc w _
        have HB1 : Hid (Below w.heap.size w w1) := by rw [hw1]; exact (Below.refl _ w).alloc (Nat.le_refl _) _
        clear hw1
        go_wp2_with fail
        refine (show Calls _ _ _ _ _ from HF.out _).mono ?_
        rintro e w2 ⟨rfl, hb2⟩
        have HG2 : Hid (w2.heap[w.heap.size]? = some zspec) := keep_row HG1.out hb2
        have HB2 : Hid (Below w.heap.size w w2) := bel_to HB1.out hb2 (Nat.le_refl _)
        clear hb2
        go_upto_region 2 with fail
        obtain ⟨W3, hW3⟩ : ∃ W, w2.alloc (.cells #[.string x0, .int .i64 x1, .int .i64 x2, .bool x3, .bool x4, .bool x5, .int .i64 x6, .int .i64 x7, .int .i64 x8, .int .i64 x9] 28) = W := ⟨_, rfl⟩
        have HG3 : Hid (W3.heap[w.heap.size]? = some zspec) := by rw [← hW3]; exact keep_row HG2.out ((Below.refl _ _).alloc (Nat.le_refl _) _)
        have HS3 : Hid (W3.heap[w2.heap.size]? = some (.cells #[.string x0, .int .i64 x1, .int .i64 x2, .bool x3, .bool x4, .bool x5, .int .i64 x6, .int .i64 x7, .int .i64 x8, .int .i64 x9] 28)) := by rw [← hW3]; exact one_alloc w2 _
        have HB3 : Hid (Below w.heap.size w W3) := by rw [← hW3]; exact bel_to HB2.out ((Below.refl _ _).alloc (Nat.le_refl _) _) (Nat.le_refl _)
        rw [hW3]
        obtain ⟨SB, hSB⟩ : ∃ SB, w2.heap.size = SB := ⟨_, rfl⟩
        rw [hSB] at HS3 ⊢
        clear hW3 hSB
        obtain ⟨d0, d1, d2, d3, d4, d5, d6, d7, d8, d9, df⟩ := row10 HG3.out
        obtain ⟨c0, c1, c2, c3, c4, c5, c6, c7, c8, c9, cf⟩ := row10 HS3.out
        go_wp2
        obtain ⟨hF3, hO3⟩ := heap_set10 _ w.heap.size 28 _ _ _ _ _ _ _ _ _ _ (.string x0) (.int .i64 x1) (.int .i64 x2) (.bool x3) (.bool x4) (.bool x5) (.int .i64 x6) (.int .i64 x7) (.int .i64 x8) (.int .i64 x9) HG3.out
        obtain ⟨k0, k1, k2, k3, k4, k5, k6, k7, k8, k9, kf⟩ := row10 hF3
        refine bodyPost_ret (v := .tuple #[.agg #[.string x0, .int .i64 x1, .int .i64 x2, .bool x3, .bool x4, .bool x5, .int .i64 x6, .int .i64 x7, .int .i64 x8, .int .i64 x9], .int .i64 0]) (by simp [results, Try.results23, go_sem, k0, k1, k2, k3, k4, k5, k6, k7, k8, k9]) rfl ⟨rfl, ?_⟩
        exact HB3.out.trans (hO3.below (Nat.le_refl _))
end Go.Proofs.Ytnnpnccnpojfmaa
