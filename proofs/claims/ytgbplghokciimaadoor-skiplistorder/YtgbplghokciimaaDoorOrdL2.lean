import Derived.Test.YtgbplghokciimaaDoorOrdK
namespace Go.Proofs.YtgbplghokciimaaDoor
open Go.RowKit I
set_option linter.unusedVariables false
set_option maxHeartbeats 3000000 in
set_option maxRecDepth 100000 in
theorem SkiplistOrder_walk2 (seed : Int) (ad : Option Addr) (len cap g off : Nat) (h200 : 200 < len) (had : len ≠ 0 → ad = some ⟨g, off, none⟩) (hlen : len ≤ 9223372036854775807) (w : World) (hops : ∀ i, i < len → ∃ o, OpAt w g off i o) (hT : Tab w) : Calls Tryd.prog 3 #[.agg #[.int .i64 seed, .slice ad len cap]] w fun e w' => e = .returned (.bool true) ∧ Below w.heap.size w w' := by
  obtain ⟨W0, hW0⟩ : ∃ W0, W0 = w.alloc (.cells #[.int .i64 seed, .slice ad len cap] 24) := ⟨_, rfl⟩
  have hb0 : Below w.heap.size w W0 := by rw [hW0]; exact (Below.refl _ _).alloc (Nat.le_refl _) _
  have HC0 : Hid (W0.heap[w.heap.size]? = some (.cells #[.int .i64 seed, .slice ad len cap] 24)) := by rw [hW0]; exact one_alloc _ _
  have HB0 : Hid (Below w.heap.size w W0) := hb0
  have HOP : Hid (∀ i, i < len → ∃ o, OpAt w g off i o) := hops
  have HAD : Hid (len ≠ 0 → ad = some ⟨g, off, none⟩) := had
  have HT : Hid (Tab w) := hT
  have HN : Hid _ := I.New_any seed W0
  have c00 : W0.cell? ⟨w.heap.size, 0, none⟩ = some (.int .i64 seed) := by rw [cell_of_row _ _ _ _ _ _ HC0.out]; rfl
  clear hb0 hops had hT
  go_enter Tryd.func3, Tryd.ntmps3
  go_upto_region 1 with fail
  rw [← hW0]
  have HW0 : Hid (W0 = w.alloc (.cells #[.int .i64 seed, .slice ad len cap] 24)) := hW0
  clear hW0
  obtain ⟨cb, hcb⟩ : ∃ cb, w.heap.size = cb := ⟨_, rfl⟩
  rw [hcb] at c00 ⊢
  have HCB : Hid (w.heap.size = cb) := hcb
  go_wp2_with fail
  refine (show Calls _ _ _ _ _ from HN.out).mono ?_
  rintro e w1 ⟨p, S0, rfl, hbd, hsd, hT0, hF0, hb1⟩
  have HI0 : Hid (Bd w1 p S0 0 ∧ S0.seed = seed ∧ (∀ q ∈ bblk p S0, W0.heap.size ≤ q) ∧ Below W0.heap.size W0 w1) := ⟨hbd, hsd, hF0, hb1⟩
  clear hbd hsd hT0 hF0 hb1 c00 hcb
  go_wp2
  go_loopw [4] (fun ci wr => ∃ (i : Nat) (S : SkS), i ≤ 200 ∧ ci = .int .i64 (i : Int) ∧ Bd wr p S i ∧ S.seed = seed ∧ (∀ q ∈ bblk p S, W0.heap.size ≤ q) ∧ Below W0.heap.size W0 wr) (fun ci _ => 200 - (intOf ci).toNat)
  case atStart => exact ⟨0, S0, by omega, rfl, HI0.out.1, HI0.out.2.1, HI0.out.2.2.1, HI0.out.2.2.2⟩
  case round =>
    obtain ⟨i, S, hi, rfl, hbd, hsd, hF, hb⟩ := hrel
    have HBD : Hid (Bd wr p S i) := hbd
    have HSD : Hid (S.seed = seed) := hsd
    have HF : Hid (∀ q ∈ bblk p S, W0.heap.size ≤ q) := hF
    have HB : Hid (Below W0.heap.size W0 wr) := hb
    have HBw : Hid (Below w.heap.size w wr) := bel_to HB0.out hb (Nat.le_refl _)
    have hrow : wr.heap[cb]? = some (.cells #[.int .i64 seed, .slice ad len cap] 24) := by
      rw [← HCB.out]; exact keep_row HC0.out hb
    have cc1 : wr.cell? ⟨cb, 1, none⟩ = some (.slice ad len cap) := by rw [cell_of_row _ _ _ _ _ _ hrow]; rfl
    have cc0 : wr.cell? ⟨cb, 0, none⟩ = some (.int .i64 seed) := by rw [cell_of_row _ _ _ _ _ _ hrow]; rfl
    clear hbd hsd hF hb hrow
    by_cases hlt : i < len ∧ i < 200
    · as_aux_lemma =>
      obtain ⟨h1, h2⟩ := hlt
      have hae := HAD.out (by omega)
      subst hae
      obtain ⟨o, hop⟩ := HOP.out i h1
      have hop := hop.keep HBw.out
      obtain ⟨d0, d1, d2, d3, d4, d5, d6, d7, d8, d9, d10, d11, d12, d13, d14, d15, d16⟩ := hop.c17
      have hts := hop.t
      have hi1 : (i : Int) < (len : Int) := by omega
      have hi2 : (i : Int) < 200 := by omega
      have hi0 : (0 : Int) ≤ (i : Int) := by omega
      have hdl : decide ((i : Int) < (len : Int)) = true := by simpa using hi1
      have hiw : IntKind.i64.wrap ((i : Int) + 1) = (i : Int) + 1 := by rw [IntKind.wrap_i64] <;> omega
      obtain ⟨W2, hW2⟩ : ∃ W2, W2 = wr.alloc (.cells (opA o) 32) := ⟨_, rfl⟩
      have hb2 : Below wr.heap.size wr W2 := by rw [hW2]; exact (Below.refl _ _).alloc (Nat.le_refl _) _
      have HB2 : Hid (Below wr.heap.size wr W2) := hb2
      have hr2 : W2.heap[wr.heap.size]? = some (.cells (opA o) 32) := by rw [hW2]; exact one_alloc _ _
      have HR2 : Hid _ := hr2
      have o0 : W2.cell? ⟨wr.heap.size, 0, none⟩ = some (.int .i64 o.k) := by rw [cell_of_row _ _ _ _ _ _ hr2]; rfl
      have o1 : W2.cell? ⟨wr.heap.size, 1, none⟩ = some (.int .i64 o.a) := by rw [cell_of_row _ _ _ _ _ _ hr2]; rfl
      have o2 : W2.cell? ⟨wr.heap.size, 2, none⟩ = some (.int .i64 o.b) := by rw [cell_of_row _ _ _ _ _ _ hr2]; rfl
      have o3 : W2.cell? ⟨wr.heap.size, 3, none⟩ = some (.string o.t) := by rw [cell_of_row _ _ _ _ _ _ hr2]; rfl
      have HTB : Hid (Tab W2) := HT.out.on (HBw.out.trans (hb2.mono HBw.out.size))
      clear hop hr2 hb2
      go_upto_region 8 with fail
      rw [show (wr.alloc (.cells #[.int .i64 o.k, .int .i64 o.a, .int .i64 o.b, .string o.t, .bool o.bk, .int .i64 o.lo.1, .int .i64 o.lo.2.1, .bool o.lo.2.2, .int .i64 o.hi.1, .int .i64 o.hi.2.1, .bool o.hi.2.2, .string o.fr.1, .int .i64 o.fr.2.1, .bool o.fr.2.2, .string o.to.1, .int .i64 o.to.2.1, .bool o.to.2.2] 32)) = W2 from hW2.symm]
      clear hW2 d0 d1 d2 d3 d4 d5 d6 d7 d8 d9 d10 d11 d12 d13 d14 d15 d16 cc0 cc1
      have hbd2 := HBD.out.below HB2.out
      have HBD2 : Hid (Bd W2 p S i) := hbd2
      have HBW2 : Hid (Below W0.heap.size W0 W2) := HB.out.trans (HB2.out.mono HB.out.size)
      obtain ⟨ob, hob⟩ : ∃ ob, wr.heap.size = ob := ⟨_, rfl⟩
      have HNO : Hid (ob ∉ bblk p S) := fun hm => by have := HBD.out.lts ob hm; omega
      have HR3 : Hid (W2.heap[ob]? = some (.cells (opA o) 32)) := by rw [← hob]; exact HR2.out
      rw [hob] at o0 o1 o2 o3 ⊢
      clear hob
      by_cases hk1 : o.k = 1
      · as_aux_lemma =>
        have HS : Hid _ := I.Set_any p S i o.t o.a o.b W2 hbd2 (by omega) (by omega) HTB.out
        rw [hk1] at o0
        clear hbd2
        go_wp2_with fail
        refine (show Calls _ _ _ _ _ from HS.out).mono ?_
        rintro e w3 ⟨rfl, S', hbd3, hsd3, hen3, hmv3⟩
        have HBD3 : Hid (Bd w3 p S' (i + 1)) := hbd3
        have HSD3 : Hid (S'.seed = seed) := hsd3.trans HSD.out
        obtain ⟨q1, q2⟩ := Moved.bel hmv3 HBW2.out (Nat.le_refl _) HF.out
        have HQ1 : Hid _ := q1
        have HQ2 : Hid _ := q2
        have r3 := (hmv3.rest ob (row_lt HR3.out) HNO.out).trans HR3.out
        have p0 : w3.cell? ⟨ob, 0, none⟩ = some (.int .i64 o.k) := by rw [cell_of_row _ _ _ _ _ _ r3]; rfl
        rw [hk1] at p0
        clear hbd3 hsd3 hen3 hmv3 q1 q2 r3 o0 o1 o2 o3
        go_wp2
        go_roundw
        case rel => exact ⟨i + 1, S', by omega, by go_num, HBD3.out, HSD3.out, HQ2.out, HQ1.out⟩
        case measure => simp [intOf]; omega
      · by_cases hk2 : o.k = 2
        · as_aux_lemma =>
          have HS : Hid _ := I.Drop_any p S i o.t W2 hbd2 (by omega) (by omega)
          rw [hk2] at o0
          clear hbd2
          go_wp2_with fail
          refine (show Calls _ _ _ _ _ from HS.out).mono ?_
          rintro e w3 ⟨rfl, S', hbd3, hsd3, hen3, hmv3⟩
          have HBD3 : Hid (Bd w3 p S' (i + 1)) := hbd3.mono (by omega)
          have HSD3 : Hid (S'.seed = seed) := hsd3.trans HSD.out
          obtain ⟨q1, q2⟩ := Moved.bel hmv3 HBW2.out (Nat.le_refl _) HF.out
          have HQ1 : Hid _ := q1
          have HQ2 : Hid _ := q2
          clear hbd3 hsd3 hen3 hmv3 q1 q2 o0 o1 o2 o3
          go_wp2
          go_roundw
          case rel => exact ⟨i + 1, S', by omega, by go_num, HBD3.out, HSD3.out, HQ2.out, HQ1.out⟩
          case measure => simp [intOf]; omega
        · as_aux_lemma =>
          clear hbd2
          generalize o.k = kk at o0 hk1 hk2
          go_wp2
          go_roundw
          case rel => exact ⟨i + 1, S, by omega, by go_num, HBD2.out.mono (by omega), HSD.out, HF.out, HBW2.out⟩
          case measure => simp [intOf]; omega
    · have HSL : Hid _ := I.Slice_all p S i wr HBD.out (by omega)
      have HX : Hid True := trivial
      have hdl : (decide ((i : Int) < (len : Int)) && decide ((i : Int) < 200)) = false := by
        by_cases h1 : i < len
        · have : ¬ i < 200 := fun h2 => hlt ⟨h1, h2⟩
          have h3 : ¬ (i : Int) < 200 := by omega
          simp [h3]
        · have h3 : ¬ (i : Int) < (len : Int) := by omega
          simp [h3]
      have h1 : i < len := by omega
      have h2 : ¬ (i : Int) < 200 := by have : ¬ i < 200 := fun h => hlt ⟨h1, h⟩
                                        omega
      have h1' : (i : Int) < (len : Int) := by omega
      all_goals
        have hdl2 := hdl
        clear hdl
        go_upto_region 12 with fail
        clear h1' h2 hdl2 cc1
        go_wp2_with fail
        refine (show Calls _ _ _ _ _ from HSL.out).mono ?_
        rintro e w4 ⟨r, rfl, hown, hb4⟩
        obtain ⟨Pr, cr, hrf⟩ := own_form hown
        subst hrf
        obtain ⟨n, hn⟩ : ∃ n, S.T.length = n := ⟨_, rfl⟩
        obtain ⟨L, hL⟩ : ∃ L, ens S.T = L := ⟨_, rfl⟩
        have hLn : L.length = n := by rw [← hL, ens_len, hn]
        rw [hL] at hown
        rw [hn] at hown ⊢
        have hn200 : n ≤ 200 := by have := HBD.out.len; omega
        have HN0 : Hid (S.T.length = n) := hn
        have HL0 : Hid (ens S.T = L) := hL
        have HLN : Hid (L.length = n) := hLn
        have HOWN : Hid (w4.ownsRow wr.heap.size 39 3 (.slice Pr n cr) n (flatV L)) := hown
        have HB4 : Hid (Below W0.heap.size W0 w4) := HB.out.trans (hb4.mono HB.out.size)
        have HBw4 : Hid (Below w.heap.size w w4) := HBw.out.trans (hb4.mono HBw.out.size)
        have HBD4 : Hid (Bd w4 p S i) := HBD.out.below hb4
        have HBR : Hid (Brd L) := by rw [← hL]; exact HBD.out.brd
        have cc4 := cell_on cc0 hb4
        have HN2 : Hid _ := I.New_any seed w4
        clear hown hb4 hn hL hLn cc0
        go_wp2_with fail
        refine (show Calls _ _ _ _ _ from HN2.out).mono ?_
        rintro e w5 ⟨q, Sq0, rfl, hbdq, hsdq, hTq, hFq, hb5⟩
        have HQ0 : Hid (Bd w5 q Sq0 0 ∧ Sq0.seed = seed ∧ Sq0.T = [] ∧ (∀ x ∈ bblk q Sq0, w4.heap.size ≤ x) ∧ Below w4.heap.size w4 w5) := ⟨hbdq, hsdq, hTq, hFq, hb5⟩
        have hlp := I.Len_any p S i w5 (HBD4.out.below hb5)
        rw [HN0.out] at hlp
        have HLP : Hid _ := hlp
        have hnw : IntKind.i64.wrap ((n : Int) - 1) = (n : Int) - 1 := by rw [IntKind.wrap_i64] <;> omega
        clear hbdq hsdq hTq hFq hb5 hlp cc4
        go_wp2_with fail
        refine (show Calls _ _ _ _ _ from HLP.out).mono ?_
        rintro e w5' ⟨rfl, he5⟩
        have he5' := he5.symm
        subst he5'
        clear he5
        go_wp2
        go_loopw [8] (fun ci wr2 => ∃ (k : Nat) (Sq : SkS), k ≤ n ∧ ci = .int .i64 ((k : Int) - 1) ∧ Bd wr2 q Sq (n - k) ∧ Sq.seed = seed ∧ ens Sq.T = L.drop k ∧ (∀ x ∈ bblk q Sq, w4.heap.size ≤ x) ∧ Below w4.heap.size w4 wr2) (fun ci _ => (intOf ci + 1).toNat)
        case atStart =>
          refine ⟨n, Sq0, Nat.le_refl _, rfl, ?_, HQ0.out.2.1, ?_, HQ0.out.2.2.2.1, HQ0.out.2.2.2.2⟩
          · rw [Nat.sub_self]; exact HQ0.out.1
          · rw [HQ0.out.2.2.1, List.drop_eq_nil_of_le (by rw [HLN.out]; exact Nat.le_refl _)]; rfl
        case round =>
          obtain ⟨k, Sq, hk, rfl, hbq, hsq, heq, hfq, hbb⟩ := hrel
          rename World => wr2
          have HBQ : Hid (Bd wr2 q Sq (n - k)) := hbq
          have HSQ : Hid (Sq.seed = seed) := hsq
          have HEQ : Hid (ens Sq.T = L.drop k) := heq
          have HFQ : Hid (∀ x ∈ bblk q Sq, w4.heap.size ≤ x) := hfq
          have HBB : Hid (Below w4.heap.size w4 wr2) := hbb
          clear hbq hsq heq hfq hbb
          rcases k with _ | j
          · as_aux_lemma =>
            have HSQL : Hid _ := I.Slice_all q Sq (n - 0) wr2 HBQ.out (by omega)
            rw [show ((0 : Nat) : Int) - 1 = -1 by rfl]
            go_wp2_with fail
            refine (show Calls _ _ _ _ _ from HSQL.out).mono ?_
            rintro e w11 ⟨r, rfl, hown11, hb11⟩
            obtain ⟨Pq, cq, hrf⟩ := own_form hown11
            subst hrf
            have hqe : ens Sq.T = L := HEQ.out
            have hqn : Sq.T.length = n := by rw [← ens_len, hqe]; exact HLN.out
            rw [hqe, hqn] at hown11
            rw [hqn]
            have HQE : Hid (ens Sq.T = L) := hqe
            have HOWNQ : Hid (w11.ownsRow wr2.heap.size 39 3 (.slice Pq n cq) n (flatV L)) := hown11
            have HB11 : Hid (Below wr2.heap.size wr2 w11) := hb11
            clear hown11 hb11 hqe hqn
            go_wp2
            go_loopw [18] (fun ci wr3 => ∃ k : Nat, k ≤ n ∧ ci = .int .i64 (k : Int) ∧ Below w11.heap.size w11 wr3) (fun ci _ => n - (intOf ci).toNat)
            case atStart => exact ⟨0, Nat.zero_le _, rfl, Below.refl _ _⟩
            case round =>
              obtain ⟨k, hk3, rfl, hb3⟩ := hrel
              rename World => wr3
              have HB3 : Hid (Below w11.heap.size w11 wr3) := hb3
              have HB2w : Hid (Below wr2.heap.size wr2 wr3) := HB11.out.trans (hb3.mono HB11.out.size)
              have HB4w : Hid (Below w4.heap.size w4 wr3) := HBB.out.trans (HB2w.out.mono HBB.out.size)
              clear hb3
              by_cases hkn : k < n
              · as_aux_lemma =>
                have hkl : k < L.length := by have := HLN.out; omega
                have ho1 : wr3.ownsRow wr.heap.size 39 3 (.slice Pr n cr) n (flatV L) := own_keep HOWN.out (fun x _ hx => HB4w.out.block x hx)
                obtain ⟨gl, c', hvf, e0, e1, e2⟩ := erow_at ho1 HLN.out.symm hkl
                injection hvf with hv1 hv2 hv3
                subst hv1
                have ho2 : wr3.ownsRow wr2.heap.size 39 3 (.slice Pq n cq) n (flatV L) := own_keep HOWNQ.out (fun x _ hx => HB3.out.block x hx)
                obtain ⟨gq, c'', hvf2, f0, f1, f2⟩ := erow_at ho2 HLN.out.symm hkl
                injection hvf2 with hu1 hu2 hu3
                subst hu1
                obtain ⟨E, hE⟩ : ∃ E, L[k] = E := ⟨_, rfl⟩
                rw [hE] at e0 e1 e2 f0 f1 f2
                obtain ⟨m, s, v⟩ := E
                simp only at e0 e1 e2 f0 f1 f2
                have hneq := neq_same m s v
                have hk0 : (0 : Int) ≤ (k : Int) := by omega
                have hk1 : (k : Int) < (n : Int) := by omega
                have hkg : decide ((n : Int) ≤ (k : Int)) = false := by simp; omega
                have hkg2 : decide (n ≤ k) = false := by simp; omega
                have hkw : IntKind.i64.wrap ((k : Int) + 1) = (k : Int) + 1 := by rw [IntKind.wrap_i64] <;> omega
                clear hE ho1 ho2 hv2 hv3 hu2 hu3
                go_wp2
                go_quiet (fail)
                go_wp2
                go_roundw
                case rel => exact ⟨k + 1, by omega, by go_num, below_dn HB3.out _⟩
                case measure => simp [intOf]; omega
              · as_aux_lemma =>
                have hkz : ¬ (k : Int) < (n : Int) := by omega
                have hH : ∀ S : SkS, (talL S).length = S.H := fun S => by unfold talL; simp
                have HBDp : Hid (Bd wr3 p S i) := HBD4.out.to (fun x hx => HB4w.out.block x (HBD4.out.lts x hx))
                have HBDq : Hid (Bd wr3 q Sq n) := HBQ.out.below HB2w.out
                have HTL : Hid (talL S = talL Sq) := tal_same HBDp.out HBDq.out (HL0.out.trans HQE.out.symm) (HSD.out.trans HSQ.out.symm)
                have HTb : Hid (Tab wr3) := HT.out.on (HBw4.out.trans (HB4w.out.mono HBw4.out.size))
                have HBw3 : Hid (Below w.heap.size w wr3) := HBw4.out.trans (HB4w.out.mono HBw4.out.size)
                go_upto_region 34 with fail
                go_wp2_with fail
                refine (I.Tall_any p S i wr3 HBDp.out).mono ?_
                rintro e w12 ⟨r1, rfl, ht1, hb12⟩
                have HR1 : Hid (IRow w12 r1 (talL S)) := ⟨_, by rw [hH]; exact ht1⟩
                have HB12 : Hid (Below wr3.heap.size wr3 w12) := hb12
                clear ht1 hb12
                go_wp2_with fail
                refine (I.Tall_any q Sq n w12 (HBDq.out.below HB12.out)).mono ?_
                rintro e w13 ⟨r2, rfl, ht2, hb13⟩
                have HR2 : Hid (IRow w13 r2 (talL Sq)) := ⟨_, by rw [hH]; exact ht2⟩
                have HR1' : Hid (IRow w13 r1 (talL S)) := HR1.out.on hb13
                have HB13 : Hid (Below wr3.heap.size wr3 w13) := HB12.out.trans (hb13.mono HB12.out.size)
                clear ht2 hb13
                go_wp2_with fail
                refine (sameInts_any r1 r2 (talL S) (talL Sq) (by rw [hH]; have := HBDp.out.h24; omega) w13 HR1'.out HR2.out).mono ?_
                rintro e w14 ⟨rfl, hb14⟩
                rw [show decide (talL S = talL Sq) = true from by simpa using HTL.out]
                have HB14 : Hid (Below wr3.heap.size wr3 w14) := HB13.out.trans (hb14.mono HB13.out.size)
                clear hb14
                go_wp2_with fail
                refine (Go.Proofs.YtgbplghokciimaaDoor.S.sure_any w14 (HTb.out.on HB14.out)).mono ?_
                rintro e w15 ⟨rfl, hb15⟩
                have HB15 : Hid (Below wr3.heap.size wr3 w15) := HB14.out.trans (hb15.mono HB14.out.size)
                clear hb15
                go_wp2
                go_returns
                exact ⟨by first | rfl | simp, HBw3.out.trans (HB15.out.mono HBw3.out.size)⟩
          · as_aux_lemma =>
            rw [show ((j + 1 : Nat) : Int) - 1 = (j : Int) by omega]
            have hjl : j < L.length := by have := HLN.out; omega
            have hoz : wr2.ownsRow wr.heap.size 39 3 (.slice Pr n cr) n (flatV L) := own_keep HOWN.out (fun x _ hx => HBB.out.block x hx)
            obtain ⟨gl, c', hvf, e0, e1, e2⟩ := erow_at hoz HLN.out.symm hjl
            injection hvf with hv1 hv2 hv3
            subst hv1
            have hgl : gl < w4.heap.size := by
              obtain ⟨g9, c9, hv9, e9, _⟩ := erow_at HOWN.out HLN.out.symm hjl
              injection hv9 with hv1 _ _
              injection hv1 with hv1
              injection hv1 with hv1
              subst hv1
              exact lt_of_cell e9
            have hd2 : Below wr2.heap.size wr2 wr2.drew := (Below.refl _ wr2).drew
            have hset := I.Set_any q Sq (n - (j + 1)) L[j].1 L[j].2.1 L[j].2.2 wr2.drew (HBQ.out.below hd2) (by omega) (by
              have hsz := HBD4.out.sz
              have hj2 : j < S.T.length := by rw [HN0.out]; omega
              have : L[j] = S.T[j].e := by
                have e : (ens S.T)[j]'(by rw [ens_len]; exact hj2) = S.T[j].e := by simp
                rw [← e]; simp only [HL0.out]
              rw [this]; exact hsz _ (List.getElem_mem hj2)) (HT.out.on ((HBw4.out.trans (HBB.out.mono HBw4.out.size)).trans (hd2.mono (HBw4.out.trans (HBB.out.mono HBw4.out.size)).size)))
            rw [HEQ.out, setM_front HBR.out hjl] at hset
            have HSET : Hid _ := hset
            clear hset
            obtain ⟨E, hE⟩ : ∃ E, L[j] = E := ⟨_, rfl⟩
            rw [hE] at e0 e1 e2 HSET
            have HE : Hid (L[j] = E) := hE
            obtain ⟨m, s, v⟩ := E
            simp only at e0 e1 e2 HSET
            have hSA := And.intro e0 (And.intro e1 e2)
            have hj0 : (0 : Int) ≤ (j : Int) := by omega
            have hj1 : (j : Int) < (n : Int) := by omega
            clear hE hoz hv2 hv3
            go_upto_region 19 with fail
            go_region_held3 (fun w' : World => w'.cell? ⟨gl, j * 3, none⟩ = some (.string m) ∧ w'.cell? ⟨gl, j * 3 + 1, none⟩ = some (.int .i64 s) ∧ w'.cell? ⟨gl, j * 3 + 2, none⟩ = some (.int .i64 v))
              (first | exact hSA | exact hSB)
              (first | (go_at_call 10; refine (show Calls _ _ _ _ _ from HSET.out).mono ?_; rintro e w6 ⟨rfl, Sq', hbd6, hsd6, hen6, hmv6⟩; obtain ⟨q1, q2⟩ := Moved.bel hmv6 (HBB.out.trans (hd2.mono HBB.out.size)) (Nat.le_refl _) HFQ.out; have hk6 : w6.heap[gl]? = wr2.heap[gl]? := (q1.block gl hgl).trans (HBB.out.block gl hgl).symm; have hSB := And.intro ((World.cell?_of_block (a := ⟨gl, j * 3, none⟩) hk6).trans hSA.1) (And.intro ((World.cell?_of_block (a := ⟨gl, j * 3 + 1, none⟩) hk6).trans hSA.2.1) ((World.cell?_of_block (a := ⟨gl, j * 3 + 2, none⟩) hk6).trans hSA.2.2))))
            have HBD6 : Hid (Bd w6 q Sq' (n - j)) := hbd6.mono (by omega)
            have HSD6 : Hid (Sq'.seed = seed) := hsd6.trans HSQ.out
            have HEN6 : Hid (ens Sq'.T = L.drop j) := hen6
            have HB6 : Hid (Below w4.heap.size w4 w6) := q1
            have HF6 : Hid (∀ x ∈ bblk q Sq', w4.heap.size ≤ x) := q2
            obtain ⟨f0, f1, f2⟩ := hSB
            have hxl : j < S.T.length := by rw [HN0.out]; omega
            have HTE : Hid (S.T[j].e = (m, s, v)) := by
              show _ = _
              have e : (ens S.T)[j]'(by rw [ens_len]; exact hxl) = S.T[j].e := by simp
              rw [← e, ← HE.out]; simp only [HL0.out]
            clear hbd6 hsd6 hen6 hmv6 q1 q2 hk6 hSA e0 e1 e2 hd2
            have hcase : (j = 0) ∨ (∃ j' m' s' v', j = j' + 1 ∧ w6.cell? ⟨gl, j' * 3, none⟩ = some (.string m') ∧ w6.cell? ⟨gl, j' * 3 + 1, none⟩ = some (.int .i64 s') ∧ w6.cell? ⟨gl, j' * 3 + 2, none⟩ = some (.int .i64 v') ∧ (s' < s ∨ (s' = s ∧ Op.bytesLess m'.toList m.toList = true))) := by
              rcases Nat.eq_zero_or_pos j with h0 | h0
              · exact Or.inl h0
              · right
                obtain ⟨j', rfl⟩ : ∃ j', j = j' + 1 := ⟨j - 1, by omega⟩
                have hoz : w6.ownsRow wr.heap.size 39 3 (.slice (some ⟨gl, 0, none⟩) n cr) n (flatV L) := own_keep HOWN.out (fun x _ hx => HB6.out.block x hx)
                obtain ⟨gl2, c2, hvf, e0, e1, e2⟩ := erow_at hoz HLN.out.symm (i := j') (by omega)
                injection hvf with hv1 hv2 hv3
                injection hv1 with hv1
                injection hv1 with hv1
                subst hv1
                have hup := List.pairwise_iff_getElem.1 HBR.out.up j' (j' + 1) (by omega) hjl (by omega)
                rw [HE.out] at hup
                refine ⟨j', L[j'].1, L[j'].2.1, L[j'].2.2, rfl, e0, e1, e2, ?_⟩
                exact (ahd_iff _ _).1 hup
            have HRK1 : Hid (∀ W, Below w4.heap.size w4 W → Calls Tryd.prog 14 #[.pointer (some ⟨p, 0, none⟩), .string m, .bool false] W fun e w' => e = .returned (.tuple #[.int .i64 (j : Int), .bool true]) ∧ Below W.heap.size W w') := fun W hW => by
              have := I.Rank_yes p S i m false j hxl (by rw [HTE.out]) W (HBD4.out.to (fun x hx => hW.block x (HBD4.out.lts x hx))) (by omega) (by have := HBD4.out.sz _ (List.getElem_mem hxl); rw [HTE.out] at this; exact this)
              exact this
            obtain ⟨kk, hkk⟩ : ∃ kk, trn true n j = kk := ⟨_, rfl⟩
            have hkk2 : (kk : Int) = (n : Int) - 1 - (j : Int) := by rw [← hkk]; unfold trn; simp only [if_true]; omega
            have HRK2 : Hid (∀ W, Below w4.heap.size w4 W → Calls Tryd.prog 14 #[.pointer (some ⟨p, 0, none⟩), .string m, .bool true] W fun e w' => e = .returned (.tuple #[.int .i64 ((n : Int) - 1 - (j : Int)), .bool true]) ∧ Below W.heap.size W w') := fun W hW => by
              rw [← hkk2]
              have := I.Rank_yes p S i m true j hxl (by rw [HTE.out]) W (HBD4.out.to (fun x hx => hW.block x (HBD4.out.lts x hx))) (by omega) (by have := HBD4.out.sz _ (List.getElem_mem hxl); rw [HTE.out] at this; exact this)
              rw [HN0.out, hkk] at this; exact this
            have HAT1 : Hid (∀ W, Below w4.heap.size w4 W → Calls Tryd.prog 15 #[.pointer (some ⟨p, 0, none⟩), .int .i64 (j : Int), .bool false] W fun e w' => e = .returned (.tuple #[.agg #[.string m, .int .i64 s, .int .i64 v], .bool true]) ∧ Below W.heap.size W w') := fun W hW => by
              have := I.At_yes p S i j false hxl W (HBD4.out.to (fun x hx => hW.block x (HBD4.out.lts x hx))) (by omega)
              have e : (S.T[trn false S.T.length j]'(trn_lt hxl)).e = (m, s, v) := HTE.out
              rw [e] at this; exact this
            have hkl : kk < S.T.length := by rw [HN0.out]; omega
            have HAT2 : Hid (∀ W, Below w4.heap.size w4 W → Calls Tryd.prog 15 #[.pointer (some ⟨p, 0, none⟩), .int .i64 ((n : Int) - 1 - (j : Int)), .bool true] W fun e w' => e = .returned (.tuple #[.agg #[.string m, .int .i64 s, .int .i64 v], .bool true]) ∧ Below W.heap.size W w') := fun W hW => by
              rw [← hkk2]
              have := I.At_yes p S i kk true hkl W (HBD4.out.to (fun x hx => hW.block x (HBD4.out.lts x hx))) (by omega)
              have ej : trn true S.T.length kk = j := by rw [HN0.out]; unfold trn; simp only [if_true]; omega
              have e : (S.T[trn true S.T.length kk]'(trn_lt hkl)).e = (m, s, v) := by
                have e2 : S.T[trn true S.T.length kk]'(trn_lt hkl) = S.T[j] := by simp only [ej]
                rw [e2]; exact HTE.out
              rw [e] at this; exact this
            have HKK : Hid ((kk : Int) = (n : Int) - 1 - (j : Int)) := hkk2
            have hjw : IntKind.i64.wrap ((j : Int) - 1) = (j : Int) - 1 := by rw [IntKind.wrap_i64] <;> omega
            clear hkk hkk2 HSET HSL
            rcases hcase with h0 | ⟨j', m', s', v', hj', a0, a1, a2, hor⟩
            case' inl =>
              have hg0 : decide ((0 : Int) < (j : Int)) = false := by simp [h0]
              have hg9 : decide (0 < j) = false := by simp [h0]
              have HJZ : Hid _ := h0
              clear h0
            case' inr =>
              have hg0 : (0 : Int) < (j : Int) := by omega
              have hg9 : 0 < j := by omega
              have hjw2 : IntKind.i64.wrap ((j : Int) - 1) = (j' : Int) := by rw [IntKind.wrap_i64] <;> omega
              have hp1 : (j' : Int) < (n : Int) := by omega
              have hp0 : (0 : Int) ≤ (j' : Int) := by omega
              have HJZ : Hid _ := hj'
              clear hjw hj'
              rcases hor with hs | ⟨hs, hm⟩
            case' inr.inl =>
              have hg1 : decide (s < s') = false := by simp; omega
              have hg2 : (s' == s) = false := by simp; omega
              clear hs
            case' inr.inr =>
              have hs2 := hs.symm
              clear hs
              subst hs2
              have hg1 : decide (s < s) = false := by simp
              have hg2 : (s == s) = true := by simp
            all_goals as_aux_lemma =>
              go_wp2
              go_quiet (fail)
              try clear a0 a1 a2
              try clear hg1 hg2
              try clear hg0 hg9
              try clear hm
              try clear hjw2 hp1 hp0
              go_wp2_with fail
              refine (HRK1.out _ (below_dn HB6.out _)).mono ?_
              rintro e w7 ⟨rfl, hb7⟩
              have HB7 : Hid (Below w4.heap.size w4 w7) := (below_dn HB6.out _).trans (hb7.mono (below_dn HB6.out _).size)
              have hk7 : Below w6.heap.size w6 w7 := (below_dn (Below.refl _ w6) _).trans hb7
              have HK7 : Hid (Below w6.heap.size w6 w7) := hk7
              have g0 := cell_on f0 hk7
              clear hb7 hk7
              go_wp2_with fail
              refine (HRK2.out _ HB7.out).mono ?_
              rintro e w8 ⟨rfl, hb8⟩
              have HB8 : Hid (Below w4.heap.size w4 w8) := HB7.out.trans (hb8.mono HB7.out.size)
              have HK8 : Hid (Below w6.heap.size w6 w8) := HK7.out.trans (hb8.mono HK7.out.size)
              clear hb8 g0
              go_wp2_with fail
              refine (HAT1.out _ HB8.out).mono ?_
              rintro e w9 ⟨rfl, hb9⟩
              have HB9 : Hid (Below w4.heap.size w4 w9) := HB8.out.trans (hb9.mono HB8.out.size)
              have HK9 : Hid (Below w6.heap.size w6 w9) := HK8.out.trans (hb9.mono HK8.out.size)
              obtain ⟨W9, hW9⟩ : ∃ W9, W9 = w9.alloc (.cells #[.string m, .int .i64 s, .int .i64 v] 39) := ⟨_, rfl⟩
              have hb9' : Below w9.heap.size w9 W9 := by rw [hW9]; exact (Below.refl _ _).alloc (Nat.le_refl _) _
              have HR9 : Hid (W9.heap[w9.heap.size]? = some (.cells #[.string m, .int .i64 s, .int .i64 v] 39)) := by rw [hW9]; exact one_alloc _ _
              have HBa : Hid (Below w4.heap.size w4 W9) := HB9.out.trans (hb9'.mono HB9.out.size)
              have HKa : Hid (Below w6.heap.size w6 W9) := HK9.out.trans (hb9'.mono HK9.out.size)
              have hnj : IntKind.i64.wrap ((n : Int) - 1 - (j : Int)) = (n : Int) - 1 - (j : Int) := by rw [IntKind.wrap_i64] <;> omega
              clear hb9 hb9'
              go_wp2_with fail
              rw [← hW9]
              clear hW9
              refine (HAT2.out _ HBa.out).mono ?_
              rintro e w10 ⟨rfl, hb10⟩
              have HBb : Hid (Below w4.heap.size w4 w10) := HBa.out.trans (hb10.mono HBa.out.size)
              have HKb : Hid (Below w6.heap.size w6 w10) := HKa.out.trans (hb10.mono HKa.out.size)
              obtain ⟨eb, heb⟩ : ∃ eb, w9.heap.size = eb := ⟨_, rfl⟩
              rw [heb]
              have hr10 := keep_row HR9.out hb10
              rw [heb] at hr10
              clear heb
              obtain ⟨W10, hW10⟩ : ∃ W10, W10 = w10.alloc (.cells #[.string m, .int .i64 s, .int .i64 v] 39) := ⟨_, rfl⟩
              have hba : Below w10.heap.size w10 W10 := by rw [hW10]; exact (Below.refl _ _).alloc (Nat.le_refl _) _
              have HBc : Hid (Below w4.heap.size w4 W10) := HBb.out.trans (hba.mono HBb.out.size)
              have HKc : Hid (Below w6.heap.size w6 W10) := HKb.out.trans (hba.mono HKb.out.size)
              obtain ⟨x0, x1, x2, xf⟩ := row3 (keep_row hr10 hba)
              have hr11 : W10.heap[w10.heap.size]? = some (.cells #[.string m, .int .i64 s, .int .i64 v] 39) := by rw [hW10]; exact one_alloc _ _
              obtain ⟨y0, y1, y2, yf⟩ := row3 hr11
              have g0 := cell_on f0 HKc.out
              have g1 := cell_on f1 HKc.out
              have g2 := cell_on f2 HKc.out
              have hneq := neq_same m s v
              clear hb10 hr10 hba xf yf hr11
              go_upto_region 26 with fail
              rw [← hW10]
              clear hW10
              go_quiet (fail)
              have hjw3 : IntKind.i64.wrap ((j : Int) - 1) = (j : Int) - 1 := by rw [IntKind.wrap_i64] <;> omega
              go_wp2
              go_roundw
              case rel => exact ⟨j, Sq', by omega, rfl, HBD6.out.below (below_dn HKc.out _), HSD6.out, HEN6.out, HF6.out, below_dn HBc.out _⟩
              case measure => simp [intOf]
end Go.Proofs.YtgbplghokciimaaDoor
