import Derived.Test.YtnnpnccnpojfmaaTbT
namespace Go.Proofs.Ytnnpnccnpojfmaa
open Go.RowKit
set_option linter.unusedVariables false
set_option linter.unusedSimpArgs false
def CapOk (v : Value) : Prop := ∀ P n c, v = .slice P n c → n ≤ c
set_option maxHeartbeats 1000000 in
set_option maxRecDepth 20000 in
theorem keysOf_any (r : Rw) (hr : r ∈ TB.tab) (args : List ByteArray) (va : Value) (hl : args.length ≤ 8796093022208) (hle : r.le ≤ (args.length : Int)) (hz : ∀ x ∈ args, x.size ≤ 140737488355328) (w : World) (hA : SRow w va args) (hcap : CapOk va) : Calls Try.prog 28 #[TB.spec (some r), va] w fun e w' => (∃ v, e = .returned (.tuple #[v, .int .i64 (TB.keyR r args).2]) ∧ w'.ownsRow w.heap.size 9 1 v (TB.keyR r args).1.length (sv (TB.keyR r args).1)) ∧ Below w.heap.size w w' := by
  obtain ⟨i9, hi9, hy9, hy10, hy11⟩ := info_parts info9
  obtain ⟨k1, k2, k3, k4, k5⟩ := TB.kf_parts hr
  have hp := (TB.wf_parts (TB.wf_at hr)).2.2.2
  have HA : Hid (SRow w va args) := hA
  have hco9 := hp r.co (by simp)
  have HPL : Hid (∀ W, Below w.heap.size w W → Calls Try.prog 37 #[TB.spec (some r), va] W fun e w' => (∃ v, e = .returned v ∧ w'.ownsRow W.heap.size 9 1 v (TB.placed r args).length (sv (TB.placed r args))) ∧ Below W.heap.size W w') := fun W hb => placed_any r hr args va hl hz W (hA.on hb)
  obtain ⟨P, c, rfl⟩ := hA.form
  have hcap := hcap _ _ _ rfl
  clear hp hA k1 k3 k5
  obtain ⟨x0, x1, x2, x3, x4, x5, x6, x7, x8, x9, hsp, e0, e1, e2, e6, e7, e8, e9⟩ := TB.spec_form (some r)
  replace e9 : x9 = r.co := e9
  rw [hsp] at HPL ⊢
  clear hsp e0 e1 e2 e6 e7 e8
  have HE9 : Hid (x9 = r.co) := e9
  obtain ⟨co, hco⟩ : ∃ co : Nat, x9 = (co : Int) := ⟨x9.toNat, by omega⟩
  subst hco
  clear e9
  obtain ⟨n, hn⟩ : ∃ n, args.length = n := ⟨_, rfl⟩
  have HNL : Hid (args.length = n) := hn
  rw [hn] at hl HA HPL hcap hle ⊢
  clear hn
  have HBA : Hid (Below w.heap.size w (w.alloc (.cells #[.string x0, .int .i64 x1, .int .i64 x2, .bool x3, .bool x4, .bool x5, .int .i64 x6, .int .i64 x7, .int .i64 x8, .int .i64 (co : Int)] 28))) := (Below.refl _ _).alloc (Nat.le_refl _) _
  by_cases hc0 : co = 0
  · have HK : Hid (TB.keyR r args = (TB.placed r args, 0)) := TB.keyR_zero (by rw [← HE9.out, hc0]; rfl) args
    have hc00 : ((co : Int) == 0) = true := by simp; omega
    rw [HK.out]
    clear hc0
    go_enter Try.func28, Try.ntmps28
    go_wp2_with fail
    refine (show Calls _ _ _ _ _ from HPL.out _ HBA.out).mono ?_
    rintro e w1 ⟨⟨v, rfl, hown⟩, hb1⟩
    have HOW : Hid (w1.ownsRow w.heap.size 9 1 v (TB.placed r args).length (sv (TB.placed r args))) := own_lower hown HBA.out.size
    have HB1 : Hid (Below w.heap.size w w1) := bel_to HBA.out hb1 (Nat.le_refl _)
    obtain ⟨d0, d1, d2, d3, d4, d5, d6, d7, d8, d9, df⟩ := row10 (keep_row (one_alloc w _) hb1)
    clear hown hb1
    go_wp2
    go_returns
    exact ⟨⟨v, rfl, HOW.out⟩, HB1.out⟩
  · have hc00 : ((co : Int) == 0) = false := by simp; omega
    have HC0 : Hid (r.co ≠ 0) := by show _ ≠ _; rw [← HE9.out]; omega
    have hcon : co + 1 < n := by rw [← HE9.out] at k4; omega
    have HTN : Hid (r.co.toNat = co) := by show _ = _; rw [← HE9.out]; simp
    obtain ⟨g, o, hP, hcell⟩ := HA.out.cell co (by rw [HNL.out]; omega)
    subst hP
    obtain ⟨x, hx⟩ : ∃ x, args[co]'(by rw [HNL.out]; omega) = x := ⟨_, rfl⟩
    have hxk : args[co]? = some x := by rw [List.getElem?_eq_getElem (by rw [HNL.out]; omega), hx]
    rw [hx] at hcell
    have HWD : Hid (TB.word args co = x) := by show _ = _; unfold TB.word; rw [List.getD_eq_getElem?_getD, hxk]; rfl
    obtain ⟨m, hm⟩ : ∃ m, n - co - 1 = m := ⟨_, rfl⟩
    have HCT : Hid _ := counted_any x (by have := hz x (List.mem_of_getElem? hxk); omega) m (by omega)
    have HKC : Hid (TB.cnt (TB.word args r.co.toNat).data.toList (args.length - r.co.toNat - 1) = TB.cnt x.data.toList m) := by show _ = _; rw [HTN.out, HWD.out, HNL.out, hm]
    obtain ⟨q, hq⟩ : ∃ q, co + 1 = q := ⟨_, rfl⟩
    have hqw : IntKind.i64.wrap ((co : Int) + 1) = (q : Int) := by rw [IntKind.wrap_i64] <;> omega
    have hqq : (co : Int) + 1 = (q : Int) := by omega
    have hqn : q ≤ n := by omega
    have hqc : q < c := by omega
    have hqc2 : ¬ c = q := by omega
    have hnq : n - q = m := by omega
    have HCAP : Hid (m ≤ c - q) := by show _ ≤ _; omega
    have hcz0 : (0 : Int) ≤ (co : Int) := by omega
    have hcz1 : (co : Int) < (n : Int) := by omega
    have HCO1 : Hid (1 ≤ co) := by show _ ≤ _; omega
    clear hx hxk hc0
    cases hct : TB.cnt x.data.toList m with
    | none =>
      have HK : Hid (TB.keyR r args = ([], 5)) := TB.keyR_no HC0.out (HKC.out.trans hct)
      rw [hct] at HCT
      rw [HK.out]
      unfold cntV at HCT
      clear hct
      go_enter Try.func28, Try.ntmps28
      go_wp2_with fail
      refine (show Calls _ _ _ _ _ from HPL.out _ HBA.out).mono ?_
      rintro e w1 ⟨⟨v, rfl, hown⟩, hb1⟩
      have HB1 : Hid (Below w.heap.size w w1) := bel_to HBA.out hb1 (Nat.le_refl _)
      have HC1 : Hid _ := cell_on hcell HB1.out
      obtain ⟨d0, d1, d2, d3, d4, d5, d6, d7, d8, d9, df⟩ := row10 (keep_row (one_alloc w _) hb1)
      have dc := HC1.out
      clear hown hb1
      go_wp2_with fail
      refine (show Calls _ _ _ _ _ from HCT.out _).mono ?_
      rintro e w2 ⟨rfl, rfl⟩
      go_wp2
      go_returns
      exact ⟨⟨_, rfl, World.ownsRow_nil _ _ _ _⟩, HB1.out⟩
    | some z =>
      have HZ : Hid (1 ≤ z ∧ z ≤ m) := TB.cnt_le hct
      have HK : Hid (TB.keyR r args = (TB.placed r args ++ (TB.behind args co).take z, 0)) := by
        show _ = _
        rw [TB.keyR_yes HC0.out (HKC.out.trans hct), HTN.out]
      rw [hct] at HCT
      rw [HK.out]
      unfold cntV at HCT
      have HP1 : Hid ((TB.placed r args).length ≤ 1) := TB.placed_one hr HC0.out args
      obtain ⟨np, hnp⟩ : ∃ np, (TB.placed r args).length = np := ⟨_, rfl⟩
      obtain ⟨pl, hpl⟩ : ∃ pl, TB.placed r args = pl := ⟨_, rfl⟩
      have hz1 := HZ.out.1
      have hz2 := HZ.out.2
      have hz3 : z ≤ c - q := by have := HCAP.out; omega
      clear hct
      go_enter Try.func28, Try.ntmps28
      go_wp2_with fail
      refine (show Calls _ _ _ _ _ from HPL.out _ HBA.out).mono ?_
      rintro e w1 ⟨⟨v, rfl, hown⟩, hb1⟩
      have HB1 : Hid (Below w.heap.size w w1) := bel_to HBA.out hb1 (Nat.le_refl _)
      have HC1 : Hid _ := cell_on hcell HB1.out
      have HOW : Hid (w1.ownsRow w.heap.size 9 1 v (TB.placed r args).length (sv (TB.placed r args))) := own_lower hown HBA.out.size
      obtain ⟨d0, d1, d2, d3, d4, d5, d6, d7, d8, d9, df⟩ := row10 (keep_row (one_alloc w _) hb1)
      have dc := HC1.out
      clear hown hb1
      go_wp2_with fail
      refine (show Calls _ _ _ _ _ from HCT.out _).mono ?_
      rintro e w2 ⟨rfl, rfl⟩
      go_wp2
      have HQ : Hid (co + 1 = q) := hq
      have HM : Hid (n - co - 1 = m) := hm
      go_loopw [6, 11, 41] (fun v _ ci wr => ∃ j : Nat, ci = .int .i64 (j : Int) ∧ (j ≤ z ∧ Below w.heap.size w wr) ∧ wr.ownsRow w.heap.size 9 1 v (pl.length + j) (sv (pl ++ (TB.behind args co).take j))) (fun _ _ ci _ => z - (intOf ci).toNat)
      case atStart => exact ⟨0, rfl, ⟨by omega, HB1.out⟩, by rw [← hpl]; simpa using HOW.out⟩
      case round =>
        obtain ⟨j, rfl, ⟨hj, hbel⟩, hown⟩ := hrel
        have HB : Hid (Below w.heap.size w wr) := hbel
        obtain ⟨pv, cv, ev⟩ := own_form hown
        subst ev
        obtain ⟨acc, hacc⟩ : ∃ acc, pl ++ (TB.behind args co).take j = acc := ⟨_, rfl⟩
        have HACC : Hid (pl ++ (TB.behind args co).take j = acc) := hacc
        rw [hacc] at hown
        obtain ⟨na, hna⟩ : ∃ na, pl.length + j = na := ⟨_, rfl⟩
        rw [hna] at hown ⊢
        have HOW2 : Hid (wr.ownsRow w.heap.size 9 1 (.slice pv na cv) na (sv acc)) := hown
        have HAL : Hid (na + 1 ≤ n) := by
          have h1 := HP1.out
          have := HCO1.out
          rw [hpl] at h1
          have := HM.out
          show _ ≤ _
          omega
        have HNA : Hid (pl.length + j = na) := hna
        clear d0 d1 d2 d3 d4 d5 d6 d7 d8 d9 df dc hown hbel hacc hna
        by_cases hlt : j < z
        · obtain ⟨y, hy⟩ : ∃ y, args[q + j]? = some y := ⟨_, List.getElem?_eq_getElem (by rw [HNL.out]; have := HM.out; have := HQ.out; omega)⟩
          have hyc : wr.cell? ⟨g, o + q + j, none⟩ = some (.string y) := by
            obtain ⟨g', o', e', hc'⟩ := (HA.out.on HB.out).cell (q + j) (List.getElem?_eq_some_iff.1 hy).1
            injection e' with e'
            injection e' with e1 e2 e3
            subst e1
            subst e2
            rw [Nat.add_assoc, hc', (List.getElem?_eq_some_iff.1 hy).2]
          have HCL : Hid _ := clone_any y (by have := hz y (List.mem_of_getElem? hy); omega)
          have HNX : Hid (pl ++ (TB.behind args co).take (j + 1) = acc ++ [y]) := by
            show _ = _
            rw [TB.behind_next args co j y (by rw [HQ.out]; exact hy), ← List.append_assoc, HACC.out]
          clear hy
          have hj0 : (0 : Int) ≤ (j : Int) := by omega
          have hj1 : (j : Int) < (z : Int) := by omega
          go_wp2_with fail
          refine (show Calls _ _ _ _ _ from HCL.out _).mono ?_
          rintro e wc ⟨rfl, hbc⟩
          have HBC : Hid (Below w.heap.size w wc) := bel_to HB.out hbc (Nat.le_refl _)
          have HOC : Hid (wc.ownsRow w.heap.size 9 1 (.slice pv na cv) na (sv acc)) := own_on HOW2.out hbc
          have HO3 : Hid ((wc.alloc (.cells #[.string y] 9)).ownsRow w.heap.size 9 1 (.slice pv na cv) na (sv acc)) := own_on HOC.out ((Below.refl _ _).alloc (Nat.le_refl _) _)
          have HNC : Hid (∀ a u, [Value.string y][a]? = some u → (wc.alloc (.cells #[.string y] 9)).cell? ((⟨wc.heap.size, 0, none⟩ : Addr).add a) = some u) := fun a u ha => by
            match a, ha with
            | 0, ha => simp at ha; subst ha; rw [Addr.add_lit]; exact (row1 (one_alloc wc (.cells #[.string y] 9))).1
          clear hbc hyc
          go_wp2_with (at_builtin; go_must (refine wpList_append_own _ rfl _ _ 22 rfl w.heap.size 9 i9 (.string ⟨#[]⟩) 1 16 Try.underlying22 hi9 hy9 hy10 hy11 rfl (by decide) (.slice pv na cv) na (sv acc) rfl HO3.out ⟨wc.heap.size, 0, none⟩ 1 1 [.string y] rfl rfl HNC.out ?ta1 ?ta2 ?ta3 ?ta4 ?_))
          case ta1 => first | (intro u hu; simp at hu; subst hu; rfl) | rfl
          case ta2 => unfold maxLen; have := HAL.out; omega
          case ta3 => have := HAL.out; omega
          case ta4 => have := HBC.out.size; simp; omega
          intro v9 w9 ho9 hg9 hn9
          obtain ⟨P9, k9, hf9⟩ := own_form ho9
          subst hf9
          have HO9 : Hid (w9.ownsRow w.heap.size 9 1 (.slice P9 (na + 1) k9) (pl.length + (j + 1)) (sv (pl ++ (TB.behind args co).take (j + 1)))) := by show World.ownsRow _ _ _ _ _ _ _; rw [HNX.out, sv_snoc, show pl.length + (j + 1) = na + 1 from by have := HNA.out; omega]; exact ho9
          have HB9 : Hid (Below w.heap.size w w9) := (HBC.out.alloc HBC.out.size _).grown hg9 (by have := HBC.out.size; simp; omega) (fun b hb => own_block HO3.out b hb)
          clear ho9 hg9 hn9
          go_wp2
          go_roundw
          case rel => exact ⟨j + 1, by first | rfl | go_num, ⟨hlt, HB9.out⟩, HO9.out⟩
          case measure => simp [intOf]; omega
        · have hje : j = z := by omega
          subst hje
          have HFIN : Hid (TB.placed r args ++ (TB.behind args co).take j = acc ∧ (TB.placed r args ++ (TB.behind args co).take j).length = na) := by
            refine ⟨by rw [hpl]; exact HACC.out, ?_⟩
            rw [List.length_append, List.length_take, TB.behind_len, HNL.out, hpl, ← HNA.out]
            have := HM.out
            omega
          go_wp2
          go_returns
          exact ⟨⟨_, rfl, by rw [HFIN.out.2, HFIN.out.1]; exact HOW2.out⟩, HB.out⟩
end Go.Proofs.Ytnnpnccnpojfmaa
