import Derived.Test.YtdemodhjlbkbeabRZ
namespace Go.Proofs.Ytdemodhjlbkbeab
open Go.RowKit
set_option linter.unusedVariables false
theorem two_alloc (w : World) (X Y : Obj) : ((w.alloc X).alloc Y).drew.heap[w.heap.size]? = some X ∧ ((w.alloc X).alloc Y).drew.heap[w.heap.size + 1]? = some Y ∧ Below w.heap.size w ((w.alloc X).alloc Y).drew := by
  refine ⟨keep_row (one_alloc w X) ((Below.refl _ _).alloc (Nat.le_refl _) _).drew, ?_, ?_⟩
  · have := one_alloc (w.alloc X) Y
    have e : (w.alloc X).heap.size = w.heap.size + 1 := by simp
    rw [e] at this; exact this
  · refine Below.drew ?_
    repeat (refine Below.alloc ?_ (by simp <;> omega) _)
    exact Below.refl _ _
theorem set_two2 {w : World} {b T : Nat} {o0 o1 : Value} (h : w.heap[b]? = some (.cells #[o0, o1] T)) (v0 v1 : Value) : ((w.setCell ⟨b, 0, none⟩ v0).setCell ⟨b, 1, none⟩ v1).heap[b]? = some (.cells #[v0, v1] T) :=
  heap_setCell_same _ b 1 _ _ v1 (heap_setCell_same w b 0 _ _ v0 h)
set_option maxHeartbeats 8000000 in
set_option maxRecDepth 100000 in
theorem visit_ref1 (Q : Nat → Prop) (v : Value) (D : DS) (R : RD) (hD : DInv D) (hr : Rel D R) (hm2 : D.T2 ≠ []) (hcc : cnt D.T1 + cnt D.T2 ≤ 4398046511000) (c : Nat) (hcb : c ≤ 9223372036854775807) (w : World) (h : RV Q w v R) :
    Calls Try.prog 41 #[v, .int .i64 (c : Int)] w fun e w' => ∃ r, e = .returned (.tuple #[r, .int .i64 ((nextC (aD D) c : Nat) : Int)]) ∧ w'.ownsRow w.heap.size 9 1 r (visL D c).length (keyV (visL D c)) ∧ Below w.heap.size w w' := by
  obtain ⟨v1, v2, rfl, h1, h2⟩ := h
  obtain ⟨P1, c1, rfl⟩ := h1.form
  obtain ⟨P2, c2, rfl⟩ := h2.form
  have hne := T1_ne hD hm2
  have hs := shape hD hne
  have h2s := shape2 hD hm2
  have ha2 := hs.a2
  have ha42 := hs.a42
  have hab := h2s.ab
  have hb42 := h2s.b42
  have hok := hr.ok hD hcc
  have hs2 : 0 < R.s2 := hr.mv.2 hm2
  have hvl : visL D c = bk (smD D) (aD D) c ++ lpart (lgD D) (bD D) (vlen (aD D) (bD D) c) c := by unfold visL; rw [if_neg hm2]
  have hvlen : (visL D c).length ≤ cnt D.T1 + cnt D.T2 := by
    rw [← DS.all_len]
    exact Nat.le_trans (visL_le hD hne c).1 (List.length_filter_le _ _)
  have HMV : Hid (∀ W : World, _) := fun W => moving_any R.seed R.s1 (.slice P1 R.l1.length c1) R.s2 (.slice P2 R.l2.length c2) R.ix W
  have hsd : decide (0 < R.s2) = true := by simpa using hs2
  rw [hsd] at HMV
  have hl1 : R.l1.length ≤ 4398046511000 := by rw [← hr.c1]; omega
  have hl2 : R.l2.length ≤ 4398046511000 := by rw [← hr.c2]; omega
  have HI1 : Hid (IRow Q w (.slice P1 R.l1.length c1) R.l1) := h1
  have HI2 : Hid (IRow Q w (.slice P2 R.l2.length c2) R.l2) := h2
  have HDA : Hid (DInv D) := hD
  have HRA : Hid (Rel D R) := hr
  have HOK : Hid (ROk R) := hok
  have HSH : Hid (Shape D) := hs
  have HSH2 : Hid (Shape2 D) := h2s
  have HVL : Hid _ := hvl
  have HVN : Hid _ := hvlen
  have HCE : Hid (itN (bD D) (vlen (aD D) (bD D) c) c = nextC (aD D) c) := cur_end (aD D) (bD D) c hab (by omega)
  have hs1b := hok.s1
  have hs2b := hok.s2
  clear h1 h2 hs h2s hok hr hD hvl hvlen hsd
  go_enter Try.func41, Try.ntmps41
  go_wp2_with fail
  refine (show Calls _ _ _ _ _ from HMV.out _).mono ?_
  rintro e w1 ⟨rfl, hb1⟩
  have HB1 : Hid (Below w.heap.size w w1) := by
    refine Below.trans ?_ (hb1.mono (by simp <;> omega))
    exact (Below.refl _ _).alloc (Nat.le_refl _) _
  have HR1 : Hid (w1.heap[w.heap.size]? = some (.cells #[.int .i64 R.seed, .int .i64 (R.s1 : Int), .slice P1 R.l1.length c1, .int .i64 (R.s2 : Int), .slice P2 R.l2.length c2, .int .i64 (R.ix : Int)] 29)) := keep_row (one_alloc w _) hb1
  obtain ⟨a0, a1, a2, a3, a4, a5, af⟩ := row6 HR1.out
  have HS1 : Hid (w.heap.size + 1 ≤ w1.heap.size) := by have := hb1.size; simp at this; exact this
  clear hb1
  go_upto_region 3 with fail
  go_cut [6, 7] from 6 to 29 (fun s6 s7 wx => ∃ B6 B7 : Nat, s6 = .pointer (some ⟨B6, 0, none⟩) ∧ s7 = .pointer (some ⟨B7, 0, none⟩) ∧ wx.heap[B6]? = some (.cells #[.int .i64 (R.s1 : Int), .slice P1 R.l1.length c1] 27) ∧ wx.heap[B7]? = some (.cells #[.int .i64 (R.s2 : Int), .slice P2 R.l2.length c2] 27) ∧ w1.heap.size ≤ B6 ∧ w1.heap.size ≤ B7 ∧ B6 ≠ B7 ∧ Below w1.heap.size w1 wx)
  case first =>
    have hq1 : w.heap.size ≠ w1.heap.size := by have := HS1.out; omega
    have hq2 : w.heap.size ≠ w1.heap.size + 1 := by have := HS1.out; omega
    have hq3 : w1.heap.size ≠ w.heap.size := fun e => hq1 e.symm
    have hq4 : w1.heap.size + 1 ≠ w.heap.size := fun e => hq2 e.symm
    go_region_held3 (fun w' => w'.cell? ⟨w.heap.size, 1, none⟩ = some (.int .i64 (R.s1 : Int)) ∧ w'.cell? ⟨w.heap.size, 2, none⟩ = some (.slice P1 R.l1.length c1) ∧ w'.cell? ⟨w.heap.size, 3, none⟩ = some (.int .i64 (R.s2 : Int)) ∧ w'.cell? ⟨w.heap.size, 4, none⟩ = some (.slice P2 R.l2.length c2))
      (go_keep)
      (fail)
    all_goals
      go_wp2_with fail
      go_meet
      first
      | exact ⟨_, _, rfl, rfl, (two_alloc w1 _ _).1, (two_alloc w1 _ _).2.1, by omega, by omega, by omega, (two_alloc w1 _ _).2.2⟩
      | exact ⟨_, _, rfl, rfl, (two_alloc w1 _ _).2.1, (two_alloc w1 _ _).1, by omega, by omega, by omega, (two_alloc w1 _ _).2.2⟩
  case rest =>
    obtain ⟨B6, B7, rfl, rfl, hr6, hr7, hB6, hB7, hB67, hbc⟩ := hcut
    have HB2 : Hid (Below w.heap.size w wc) := HB1.out.trans (hbc.mono HB1.out.size)
    have HR2 : Hid _ := keep_row HR1.out hbc
    have HA67 : Hid (w.heap.size < B6 ∧ w.heap.size < B7 ∧ B6 ≠ B7) := by have := HS1.out; exact ⟨by omega, by omega, hB67⟩
    have HR6 : Hid _ := hr6
    have HR7 : Hid _ := hr7
    have hlt6 := row_lt hr6
    have hlt7 := row_lt hr7
    obtain ⟨t0, t1, tf⟩ := row2 hr6
    obtain ⟨r0, r1, rf⟩ := row2 hr7
    clear a0 a1 a2 a3 a4 a5 af hbc hB6 hB7 HS1 HR1 hr6 hr7
    obtain ⟨a0, a1, a2, a3, a4, a5, af⟩ := row6 HR2.out
    by_cases hle : D.T1.length ≤ D.T2.length
    · have hgt : ¬ (R.s2 : Int) < (R.s1 : Int) := by rw [HRA.out.s1, HRA.out.s2]; omega
      have HSM : Hid (smD D = D.T1 ∧ lgD D = D.T2) := ⟨by unfold smD; rw [if_pos (Or.inr hle)], by unfold lgD; rw [if_pos hle]⟩
      go_upto_region 6 with fail
      have HT6 : Hid (wc.heap[B6]? = some (.cells #[.int .i64 (R.s1 : Int), .slice P1 R.l1.length c1] 27)) := HR6.out
      have HT7 : Hid (wc.heap[B7]? = some (.cells #[.int .i64 (R.s2 : Int), .slice P2 R.l2.length c2] 27)) := HR7.out
      obtain ⟨W5, hW5⟩ : ∃ W5, W5 = wc := ⟨_, rfl⟩
      rw [← hW5] at HT6 HT7 HR2 HB2 ⊢
      have HB5 : Hid (Below w.heap.size w W5) := HB2.out
      have HR5 : Hid (W5.heap[w.heap.size]? = some (.cells #[.int .i64 R.seed, .int .i64 (R.s1 : Int), .slice P1 R.l1.length c1, .int .i64 (R.s2 : Int), .slice P2 R.l2.length c2, .int .i64 (R.ix : Int)] 29)) := HR2.out
      clear hgt hle a0 a1 a2 a3 a4 a5 af t0 t1 tf r0 r1 rf HR6 HR7 hW5
      have hes : smD D = D.T1 := HSM.out.1
      have hel : lgD D = D.T2 := HSM.out.2
      have hslS : D.T1.length = 2 ^ aD D := by rw [← hes]; exact HSH.out.sl
      have hslL : D.T2.length = 2 ^ bD D := by rw [← hel]; exact HSH2.out.ll
      have hwL : TWf D.seed D.T2 := by rw [← hel]; exact HSH2.out.wl
      have hndL := nd_sm HDA.out D.T2 (by first | exact Or.inl rfl | exact Or.inr rfl)
      have HINS := fun (W : World) (hW : Below w.heap.size w W) => in_tab Q R.seed R.s1 P1 R.l1.length c1 R.s2 P2 R.l2.length c2 R.ix D.T1 (by rw [HRA.out.seed]; exact HDA.out.wf1) (aD D) ha42 hslS R.l1 HRA.out.p1 hl1 HOK.out.k1 _ c W (HI1.out.on hW)
      have HINL := fun (cu : Nat) (W : World) (hW : Below w.heap.size w W) => in_tab Q R.seed R.s1 P1 R.l1.length c1 R.s2 P2 R.l2.length c2 R.ix D.T2 (by rw [HRA.out.seed]; exact HDA.out.wf2) (bD D) hb42 hslL R.l2 HRA.out.p2 hl2 HOK.out.k2 _ cu W (HI2.out.on hW)
      rw [← HRA.out.s1] at HINS
      rw [← HRA.out.s2] at HINL
      have HNXL := fun (cu : Nat) (hcu : cu ≤ 9223372036854775807) (W : World) => rnext_any cu (bD D) hcu (by omega) hb42 W
      rw [← hslL, ← HRA.out.s2] at HNXL
      have HVL2 : visL D c = bk D.T1 (aD D) c ++ lpart D.T2 (bD D) (vlen (aD D) (bD D) c) c := by rw [HVL.out, hes, hel]
      have hbn : (bk D.T1 (aD D) c).length + (lpart D.T2 (bD D) (vlen (aD D) (bD D) c) c).length ≤ 4398046511000 := by
        have q := HVN.out
        rw [HVL2, List.length_append] at q; omega
      rw [← HRA.out.s1] at hslS
      rw [← HRA.out.s2] at hslL
      have HQV : Hid _ := vlen_le (aD D) (bD D) c hab (by omega)
      have hpS := Nat.two_pow_pos (aD D)
      have hpL := Nat.two_pow_pos (bD D)
      have hpSL : 2 ^ aD D ≤ 2 ^ bD D := Nat.pow_le_pow_right (by omega) hab
      have hpB : 2 ^ bD D ≤ 2 ^ 42 := Nat.pow_le_pow_right (by omega) hb42
      obtain ⟨V, hV⟩ : ∃ V, vlen (aD D) (bD D) c = V := ⟨_, rfl⟩
      have hVP : 0 < V := by rw [← hV]; exact vlen_pos (aD D) (bD D) c
      have HVE : Hid (∀ t, t < V → ((Rj (bD D) c + (t + 1)) % 2 ^ (bD D - aD D) = 0 ↔ t + 1 = V)) := fun t ht => by rw [← hV]; exact vlen_end (aD D) (bD D) c t (by rw [hV]; exact ht)
      have HCE2 : Hid (itN (bD D) V c = nextC (aD D) c) := by rw [← hV]; exact HCE.out
      rw [hV] at HVL2 hbn HQV
      have HVL3 : Hid _ := HVL2
      clear hes hel hwL hndL hV HVL2 HVL HVN HCE HSH HSH2 HMV
      have hmodS : Int.tmod (c : Int) (R.s1 : Int) = ((c % R.s1 : Nat) : Int) := by rw [Int.tmod_eq_emod_of_nonneg (by omega)]; norm_cast
      have hmltS := Nat.mod_lt c (show 0 < R.s1 by omega)
      have hneS : ((R.s1 : Int) == 0) = false := beq_eq_false_iff_ne.2 (by omega)
      have hneS1 : ¬ (R.s1 : Int) = 0 := by omega
      have hneS2 : ¬ R.s1 = 0 := by omega
      have hneL : ((R.s2 : Int) == 0) = false := beq_eq_false_iff_ne.2 (by omega)
      have hneL1 : ¬ (R.s2 : Int) = 0 := by omega
      have hneL2 : ¬ R.s2 = 0 := by omega
      have hwS : IntKind.i64.wrap ((c % R.s1 : Nat) : Int) = ((c % R.s1 : Nat) : Int) := by
        generalize c % R.s1 = m at *
        rw [IntKind.wrap_i64] <;> omega
      have HSLS : Hid _ := hslS
      have HSLL : Hid _ := hslL
      have HPP : Hid (0 < 2 ^ aD D ∧ 2 ^ aD D ≤ 2 ^ bD D ∧ 2 ^ bD D ≤ 2 ^ 42) := ⟨hpS, hpSL, hpB⟩
      have hSL0 : R.s1 ≤ R.s2 := by omega
      clear hslS hslL hpS hpL hpSL hpB
      have hSA : (fun w' : World => (w'.cell? ⟨w.heap.size, 0, none⟩ = some (.int .i64 R.seed) ∧ w'.cell? ⟨w.heap.size, 1, none⟩ = some (.int .i64 (R.s1 : Int)) ∧ w'.cell? ⟨w.heap.size, 2, none⟩ = some (.slice P1 R.l1.length c1) ∧ w'.cell? ⟨w.heap.size, 3, none⟩ = some (.int .i64 (R.s2 : Int)) ∧ w'.cell? ⟨w.heap.size, 4, none⟩ = some (.slice P2 R.l2.length c2) ∧ w'.cell? ⟨w.heap.size, 5, none⟩ = some (.int .i64 (R.ix : Int))) ∧ w'.cell? ⟨B6, 0, none⟩ = some (.int .i64 (R.s1 : Int)) ∧ w'.cell? ⟨B6, 1, none⟩ = some (.slice P1 R.l1.length c1)) W5 := by
        obtain ⟨x0, x1, x2, x3, x4, x5, _⟩ := row6 HR5.out
        obtain ⟨y0, y1, _⟩ := row2 HT6.out
        exact ⟨⟨x0, x1, x2, x3, x4, x5⟩, y0, y1⟩
      have HINS5 : Hid _ := HINS W5.drew (HB5.out.trans ((Below.refl _ W5).drew.mono HB5.out.size))
      clear HINS
      go_cut [8] from 8 to 43 (fun s8 wx => ∃ P8 k8, s8 = .slice P8 (bk D.T1 (aD D) c).length k8 ∧ wx.ownsRow W5.heap.size 9 1 (.slice P8 (bk D.T1 (aD D) c).length k8) (bk D.T1 (aD D) c).length (keyV (bk D.T1 (aD D) c)) ∧ Below W5.heap.size W5 wx)
      case first =>
        generalize c % R.s1 = m at *
        go_region_held3 (fun w' : World => (w'.cell? ⟨w.heap.size, 0, none⟩ = some (.int .i64 R.seed) ∧ w'.cell? ⟨w.heap.size, 1, none⟩ = some (.int .i64 (R.s1 : Int)) ∧ w'.cell? ⟨w.heap.size, 2, none⟩ = some (.slice P1 R.l1.length c1) ∧ w'.cell? ⟨w.heap.size, 3, none⟩ = some (.int .i64 (R.s2 : Int)) ∧ w'.cell? ⟨w.heap.size, 4, none⟩ = some (.slice P2 R.l2.length c2) ∧ w'.cell? ⟨w.heap.size, 5, none⟩ = some (.int .i64 (R.ix : Int))) ∧ w'.cell? ⟨B6, 0, none⟩ = some (.int .i64 (R.s1 : Int)) ∧ w'.cell? ⟨B6, 1, none⟩ = some (.slice P1 R.l1.length c1))
          (first | exact hSA | exact hSB)
          (first | (go_at_call 59; refine (show Calls _ _ _ _ _ from HINS5.out).mono ?_; rintro e w3 ⟨r3, rfl, ho3, hb3⟩; obtain ⟨P8, k8, hkf⟩ := own_form ho3; subst hkf; have hSB : (fun w' : World => (w'.cell? ⟨w.heap.size, 0, none⟩ = some (.int .i64 R.seed) ∧ w'.cell? ⟨w.heap.size, 1, none⟩ = some (.int .i64 (R.s1 : Int)) ∧ w'.cell? ⟨w.heap.size, 2, none⟩ = some (.slice P1 R.l1.length c1) ∧ w'.cell? ⟨w.heap.size, 3, none⟩ = some (.int .i64 (R.s2 : Int)) ∧ w'.cell? ⟨w.heap.size, 4, none⟩ = some (.slice P2 R.l2.length c2) ∧ w'.cell? ⟨w.heap.size, 5, none⟩ = some (.int .i64 (R.ix : Int))) ∧ w'.cell? ⟨B6, 0, none⟩ = some (.int .i64 (R.s1 : Int)) ∧ w'.cell? ⟨B6, 1, none⟩ = some (.slice P1 R.l1.length c1)) w3 := (by obtain ⟨x0, x1, x2, x3, x4, x5, _⟩ := row6 (keep_row HR5.out ((Below.refl _ W5).drew.trans hb3)); obtain ⟨y0, y1, _⟩ := row2 (keep_row HT6.out ((Below.refl _ W5).drew.trans hb3)); exact ⟨⟨x0, x1, x2, x3, x4, x5⟩, y0, y1⟩)))
        all_goals
          go_wp2_with fail
          go_meet
          exact ⟨_, _, rfl, own_lower ho3 (Nat.le_refl _), (Below.refl _ W5).drew.trans hb3⟩
      case rest =>
        obtain ⟨P8, k8, rfl, ho8, hb8⟩ := hcut
        have HO8 : Hid (wc.ownsRow W5.heap.size 9 1 (.slice P8 (bk D.T1 (aD D) c).length k8) (bk D.T1 (aD D) c).length (keyV (bk D.T1 (aD D) c))) := ho8
        have HB8 : Hid (Below W5.heap.size W5 wc) := hb8
        clear ho8 hb8 hSA HINS5 hmodS hmltS hwS
        go_wp2
        go_loopw [1, 8] (fun cz ck wr => ∃ (t cu M : Nat), t < V ∧ cu = itN (bD D) t c ∧ cz = .int .i64 (cu : Int) ∧ M = (bk D.T1 (aD D) c).length + (lpart D.T2 (bD D) t c).length ∧ wr.ownsRow W5.heap.size 9 1 ck M (keyV (bk D.T1 (aD D) c) ++ keyV (lpart D.T2 (bD D) t c)) ∧ Below W5.heap.size W5 wr) (fun cz _ _ => 2 ^ bD D - Rj (bD D) (intOf cz).toNat)
        case atStart => exact ⟨0, c, _, hVP, rfl, rfl, rfl, by simpa [lpart, keyV] using HO8.out, HB8.out⟩
        case round =>
          obtain ⟨t, cu, M, ht, hcu, rfl, hM, hot, hbt⟩ := hrel
          have HCU : Hid _ := hcu
          have HM : Hid _ := hM
          have HOT : Hid (wr.ownsRow W5.heap.size 9 1 _ M (keyV (bk D.T1 (aD D) c) ++ keyV (lpart D.T2 (bD D) t c))) := hot
          have HBT : Hid (Below W5.heap.size W5 wr) := hbt
          obtain ⟨P9, k9, hkf⟩ := own_form hot
          subst hkf
          have hck : cu ≤ 9223372036854775807 := by rw [hcu]; exact itN_le (bD D) hb42 c t hcb
          have hRt := itN_R (bD D) (by omega) c t
          rw [Nat.mod_eq_of_lt (by have := HQV.out; omega), ← hcu] at hRt
          have HRT : Hid _ := hRt
          have hlp := lpart_mono D.T2 (bD D) c (t + 1) (V - (t + 1))
          rw [show t + 1 + (V - (t + 1)) = V by omega] at hlp
          have HREC : Hid (lpart D.T2 (bD D) (t + 1) c = lpart D.T2 (bD D) t c ++ bk D.T2 (bD D) cu) := by show _ = _; rw [hcu]; rfl
          rw [HREC.out, List.length_append] at hlp
          have hmodL : Int.tmod (cu : Int) (R.s2 : Int) = ((cu % R.s2 : Nat) : Int) := by rw [Int.tmod_eq_emod_of_nonneg (by omega)]; norm_cast
          have hmltL := Nat.mod_lt cu (show 0 < R.s2 by omega)
          have HINL5 : Hid _ := HINL cu wr.drew (HB5.out.trans ((HBT.out.trans ((Below.refl _ wr).drew.mono HBT.out.size)).mono HB5.out.size))
          have HN1 : nextC (bD D) cu = itN (bD D) (t + 1) c := by rw [hcu]; rfl
          have HNX5 : Hid _ := HNXL cu hck
          rw [HN1] at HNX5
          have hNl : itN (bD D) (t + 1) c < 2 ^ bD D := itN_lt (bD D) (by omega) c t
          have hand := and_low (aD D) (bD D) hab hb42 (itN (bD D) (t + 1) c) hNl
          have hR1 := itN_R (bD D) (by omega) c (t + 1)
          have hzero := and_zero (aD D) (bD D) hab (itN (bD D) (t + 1) c) hNl
          have hlow := low_iff (aD D) (bD D) hab (by omega) (itN (bD D) (t + 1) c) hNl
          have hmm : Rj (bD D) (itN (bD D) (t + 1) c) % 2 ^ (bD D - aD D) = (Rj (bD D) c + (t + 1)) % 2 ^ (bD D - aD D) := by
            rw [hR1, pow_split (aD D) (bD D) hab, Nat.mod_mul_right_mod]
          have HDEC : Hid (itN (bD D) (t + 1) c &&& (2 ^ bD D - 2 ^ aD D) = 0 ↔ t + 1 = V) := by
            show _ ↔ _
            rw [hzero, ← hlow, hmm, HVE.out t ht]
          have hsubn : ((R.s2 : Int) - (R.s1 : Int)) = ((2 ^ bD D - 2 ^ aD D : Nat) : Int) := by
            have q1 := HSLS.out
            have q2 := HSLL.out
            have q3 := HPP.out.2.1
            rw [q1, q2]; omega
          rw [← hsubn] at hand
          have HNR : Hid (t + 1 < V → Rj (bD D) (itN (bD D) (t + 1) c) = Rj (bD D) c + (t + 1)) := fun hlt => by rw [hR1, Nat.mod_eq_of_lt (by have := HQV.out; omega)]
          have hN2 : itN (bD D) (t + 1) c ≤ 9223372036854775807 := itN_le (bD D) hb42 c (t + 1) hcb
          have HNV : Hid (t + 1 = V → itN (bD D) (t + 1) c = nextC (aD D) c) := fun e => by rw [e]; exact HCE2.out
          have HREL6 : Hid (wr.heap[w.heap.size]? = some (.cells #[.int .i64 R.seed, .int .i64 (R.s1 : Int), .slice P1 R.l1.length c1, .int .i64 (R.s2 : Int), .slice P2 R.l2.length c2, .int .i64 (R.ix : Int)] 29)) := keep_row HR5.out hbt
          have HT7w : Hid (wr.heap[B7]? = some (.cells #[.int .i64 (R.s2 : Int), .slice P2 R.l2.length c2] 27)) := keep_row HT7.out hbt
          have HT6w : Hid (wr.heap[B6]? = some (.cells #[.int .i64 (R.s1 : Int), .slice P1 R.l1.length c1] 27)) := keep_row HT6.out hbt
          have hMb : M + (bk D.T2 (bD D) cu).length ≤ 4398046511000 := by rw [hM]; omega
          obtain ⟨BL, hBL⟩ : ∃ BL, (bk D.T2 (bD D) cu).length = BL := ⟨_, rfl⟩
          have HBL : Hid _ := hBL
          rw [hBL] at HINL5 hMb
          obtain ⟨nc, hnc⟩ : ∃ nc, itN (bD D) (t + 1) c = nc := ⟨_, rfl⟩
          rw [hnc] at hand HNX5 HDEC HNR hN2 HNV
          have HNC : Hid _ := hnc
          generalize hAV : nc &&& (2 ^ bD D - 2 ^ aD D) = AV at *
          have hwd : IntKind.i64.wrap ((R.s2 : Int) - (R.s1 : Int)) = (R.s2 : Int) - (R.s1 : Int) := by rw [IntKind.wrap_i64] <;> omega
          generalize cu % R.s2 = m at *
          have hwm : IntKind.i64.wrap ((m : Nat) : Int) = ((m : Nat) : Int) := by rw [IntKind.wrap_i64] <;> omega
          clear hcu hM hot hbt hlp hRt HN1 hNl hR1 hzero hlow hmm hsubn hBL hnc hAV
          have hSA : (fun w' : World => (w'.cell? ⟨w.heap.size, 0, none⟩ = some (.int .i64 R.seed) ∧ w'.cell? ⟨w.heap.size, 1, none⟩ = some (.int .i64 (R.s1 : Int)) ∧ w'.cell? ⟨w.heap.size, 2, none⟩ = some (.slice P1 R.l1.length c1) ∧ w'.cell? ⟨w.heap.size, 3, none⟩ = some (.int .i64 (R.s2 : Int)) ∧ w'.cell? ⟨w.heap.size, 4, none⟩ = some (.slice P2 R.l2.length c2) ∧ w'.cell? ⟨w.heap.size, 5, none⟩ = some (.int .i64 (R.ix : Int))) ∧ w'.cell? ⟨B7, 0, none⟩ = some (.int .i64 (R.s2 : Int)) ∧ w'.cell? ⟨B7, 1, none⟩ = some (.slice P2 R.l2.length c2)) wr := by
            obtain ⟨x0, x1, x2, x3, x4, x5, _⟩ := row6 HREL6.out
            obtain ⟨y0, y1, _⟩ := row2 HT7w.out
            exact ⟨⟨x0, x1, x2, x3, x4, x5⟩, y0, y1⟩
          go_upto_region 7 with fail
          go_cut [8] from 44 to 52 (fun s8 wx => ∃ P10 k10, s8 = .slice P10 (M + BL) k10 ∧ wx.ownsRow W5.heap.size 9 1 (.slice P10 (M + BL) k10) (M + BL) ((keyV (bk D.T1 (aD D) c) ++ keyV (lpart D.T2 (bD D) t c)) ++ keyV (bk D.T2 (bD D) cu)) ∧ Below W5.heap.size W5 wx)
          case first =>
            go_region_held3 (fun w' : World => (w'.cell? ⟨w.heap.size, 0, none⟩ = some (.int .i64 R.seed) ∧ w'.cell? ⟨w.heap.size, 1, none⟩ = some (.int .i64 (R.s1 : Int)) ∧ w'.cell? ⟨w.heap.size, 2, none⟩ = some (.slice P1 R.l1.length c1) ∧ w'.cell? ⟨w.heap.size, 3, none⟩ = some (.int .i64 (R.s2 : Int)) ∧ w'.cell? ⟨w.heap.size, 4, none⟩ = some (.slice P2 R.l2.length c2) ∧ w'.cell? ⟨w.heap.size, 5, none⟩ = some (.int .i64 (R.ix : Int))) ∧ w'.cell? ⟨B7, 0, none⟩ = some (.int .i64 (R.s2 : Int)) ∧ w'.cell? ⟨B7, 1, none⟩ = some (.slice P2 R.l2.length c2))
              (first | exact hSA | exact hSB | exact hSC)
              (first | (go_at_call 59; refine (show Calls _ _ _ _ _ from HINL5.out).mono ?_; rintro e w3 ⟨r3, rfl, ho3, hb3⟩; obtain ⟨P3, k3, hkf⟩ := own_form ho3; subst hkf; have hb3' : Below wr.heap.size wr w3 := (Below.refl _ wr).drew.trans hb3; have hbt3 : Below W5.heap.size W5 w3 := HBT.out.trans (hb3'.mono HBT.out.size); have hout3 := own_keep HOT.out (fun q _ hq => hb3'.block q hq); have hSB : (fun w' : World => (w'.cell? ⟨w.heap.size, 0, none⟩ = some (.int .i64 R.seed) ∧ w'.cell? ⟨w.heap.size, 1, none⟩ = some (.int .i64 (R.s1 : Int)) ∧ w'.cell? ⟨w.heap.size, 2, none⟩ = some (.slice P1 R.l1.length c1) ∧ w'.cell? ⟨w.heap.size, 3, none⟩ = some (.int .i64 (R.s2 : Int)) ∧ w'.cell? ⟨w.heap.size, 4, none⟩ = some (.slice P2 R.l2.length c2) ∧ w'.cell? ⟨w.heap.size, 5, none⟩ = some (.int .i64 (R.ix : Int))) ∧ w'.cell? ⟨B7, 0, none⟩ = some (.int .i64 (R.s2 : Int)) ∧ w'.cell? ⟨B7, 1, none⟩ = some (.slice P2 R.l2.length c2)) w3 := (by obtain ⟨x0, x1, x2, x3, x4, x5, _⟩ := row6 (keep_row HREL6.out hb3'); obtain ⟨y0, y1, _⟩ := row2 (keep_row HT7w.out hb3'); exact ⟨⟨x0, x1, x2, x3, x4, x5⟩, y0, y1⟩)) | (refine step_append_keys rfl (.tmp 44) (.tmp 51) rfl W5.heap.size _ _ _ _ rfl hout3 _ _ (bk D.T2 (bD D) cu) rfl ho3 (by omega) hbt3.size ?_; intro v5 w5 ho5 hg5; obtain ⟨P10, k10, hkf5⟩ := own_form ho5; subst hkf5; have hbt5 : Below W5.heap.size W5 w5 := hbt3.grown hg5 hbt3.size (fun q hq => (World.ownsRow.lt hout3 q hq).1); have hSC : (fun w' : World => (w'.cell? ⟨w.heap.size, 0, none⟩ = some (.int .i64 R.seed) ∧ w'.cell? ⟨w.heap.size, 1, none⟩ = some (.int .i64 (R.s1 : Int)) ∧ w'.cell? ⟨w.heap.size, 2, none⟩ = some (.slice P1 R.l1.length c1) ∧ w'.cell? ⟨w.heap.size, 3, none⟩ = some (.int .i64 (R.s2 : Int)) ∧ w'.cell? ⟨w.heap.size, 4, none⟩ = some (.slice P2 R.l2.length c2) ∧ w'.cell? ⟨w.heap.size, 5, none⟩ = some (.int .i64 (R.ix : Int))) ∧ w'.cell? ⟨B7, 0, none⟩ = some (.int .i64 (R.s2 : Int)) ∧ w'.cell? ⟨B7, 1, none⟩ = some (.slice P2 R.l2.length c2)) w5 := (by obtain ⟨x0, x1, x2, x3, x4, x5, _⟩ := row6 (keep_row HR5.out hbt5); obtain ⟨y0, y1, _⟩ := row2 (keep_row HT7.out hbt5); exact ⟨⟨x0, x1, x2, x3, x4, x5⟩, y0, y1⟩)))
            all_goals
              go_wp2_with fail
              go_meet
              exact ⟨_, _, rfl, ho5, hbt5⟩
          case rest =>
            obtain ⟨P10, k10, rfl, ho10, hb10⟩ := hcut
            have HO10 : Hid (wc.ownsRow W5.heap.size 9 1 (.slice P10 (M + BL) k10) (M + BL) (keyV (bk D.T1 (aD D) c) ++ keyV (lpart D.T2 (bD D) (t + 1) c))) := by
              show World.ownsRow _ _ _ _ _ _ _
              rw [HREC.out, keyV_app, ← List.append_assoc]; exact ho10
            have HM10 : Hid (M + BL = (bk D.T1 (aD D) c).length + (lpart D.T2 (bD D) (t + 1) c).length) := by
              show _ = _
              rw [HREC.out, List.length_append, HM.out, HBL.out]; omega
            have HB10 : Hid (Below W5.heap.size W5 wc) := hb10
            obtain ⟨t0, t1, tf⟩ := row2 (keep_row HT7.out hb10)
            obtain ⟨r0, r1, rf⟩ := row2 (keep_row HT6.out hb10)
            clear ho10 hb10 hSA
            go_wp2_with fail
            refine (show Calls _ _ _ _ _ from HNX5.out _).mono ?_
            rintro e w11 ⟨rfl, hw11⟩
            have hw12 := hw11.symm
            subst hw12
            by_cases hend : t + 1 = V
            · have hA0 : AV = 0 := HDEC.out.2 hend
              have HNE : Hid _ := HNV.out hend
              have HFIN : Hid (wc.ownsRow w.heap.size 9 1 (.slice P10 (M + BL) k10) (visL D c).length (keyV (visL D c))) := by
                show World.ownsRow _ _ _ _ _ _ _
                have q := own_lower HO10.out HB5.out.size
                rw [hend] at q
                rw [HVL3.out, keyV_app, List.length_append, ← hend, ← HM10.out, hend]; exact q
              have HBF : Hid (Below w.heap.size w wc) := HB5.out.trans (HB10.out.mono HB5.out.size)
              subst hA0
              go_wp2
              go_returns
              refine ⟨.slice P10 (M + BL) k10, ?_, HFIN.out, HBF.out⟩
              rw [HNE.out]; rfl
            · have hA0 : ¬ AV = 0 := fun q => hend (HDEC.out.1 q)
              have hA1 : ((AV : Int) == 0) = false := beq_eq_false_iff_ne.2 (by omega)
              have hA2 : ¬ (AV : Int) = 0 := by omega
              have HTV : Hid (t + 1 < V) := by show _ < _; omega
              clear hend
              go_wp2
              go_roundw
              case rel => exact ⟨t + 1, nc, M + BL, HTV.out, HNC.out.symm, rfl, HM10.out, HO10.out, HB10.out⟩
              case measure =>
                simp only [intOf, Int.toNat_natCast]
                rw [HNR.out HTV.out, HRT.out]
                have := HQV.out
                have := HTV.out
                omega
    · have hgt : (R.s2 : Int) < (R.s1 : Int) := by rw [HRA.out.s1, HRA.out.s2]; omega
      have HSM : Hid (smD D = D.T2 ∧ lgD D = D.T1) := ⟨by unfold smD; rw [if_neg (by rw [not_or]; exact ⟨hm2, hle⟩)], by unfold lgD; rw [if_neg hle]⟩
      have hn67 : B6 ≠ B7 := hB67
      have hn76 : B7 ≠ B6 := fun e => hB67 e.symm
      go_upto_region 6 with fail
      obtain ⟨W5, hW5⟩ : ∃ W5, W5 = (((wc.setCell ⟨B6, 0, none⟩ (.int .i64 (R.s2 : Int))).setCell ⟨B6, 1, none⟩ (.slice P2 R.l2.length c2)).setCell ⟨B7, 0, none⟩ (.int .i64 (R.s1 : Int))).setCell ⟨B7, 1, none⟩ (.slice P1 R.l1.length c1) := ⟨_, rfl⟩
      have ho6 : Only wc ((wc.setCell ⟨B6, 0, none⟩ (.int .i64 (R.s2 : Int))).setCell ⟨B6, 1, none⟩ (.slice P2 R.l2.length c2)) B6 := ((Only.refl _ _).set _ _).set _ _
      have ho7 : Only ((wc.setCell ⟨B6, 0, none⟩ (.int .i64 (R.s2 : Int))).setCell ⟨B6, 1, none⟩ (.slice P2 R.l2.length c2)) W5 B7 := by rw [hW5]; exact ((Only.refl _ _).set _ _).set _ _
      have hA6 := HA67.out.1
      have hA7 := HA67.out.2.1
      have HT6 : Hid (W5.heap[B6]? = some (.cells #[.int .i64 (R.s2 : Int), .slice P2 R.l2.length c2] 27)) := (ho7.other _ hn67).trans (set_two2 HR6.out _ _)
      have HT7 : Hid (W5.heap[B7]? = some (.cells #[.int .i64 (R.s1 : Int), .slice P1 R.l1.length c1] 27)) := by
        show _ = _
        rw [hW5]
        exact set_two2 ((ho6.other _ hn76).trans HR7.out) _ _
      have HR5 : Hid (W5.heap[w.heap.size]? = some (.cells #[.int .i64 R.seed, .int .i64 (R.s1 : Int), .slice P1 R.l1.length c1, .int .i64 (R.s2 : Int), .slice P2 R.l2.length c2, .int .i64 (R.ix : Int)] 29)) := (ho7.other _ (by omega)).trans ((ho6.other _ (by omega)).trans HR2.out)
      have HB5 : Hid (Below w.heap.size w W5) := (HB2.out.trans (ho6.below (by omega))).trans (ho7.below (by omega))
      rw [← hW5]
      clear hgt hle a0 a1 a2 a3 a4 a5 af t0 t1 tf r0 r1 rf HR6 HR7 hW5 ho6 ho7 hA6 hA7
      have hes : smD D = D.T2 := HSM.out.1
      have hel : lgD D = D.T1 := HSM.out.2
      have hslS : D.T2.length = 2 ^ aD D := by rw [← hes]; exact HSH.out.sl
      have hslL : D.T1.length = 2 ^ bD D := by rw [← hel]; exact HSH2.out.ll
      have hwL : TWf D.seed D.T1 := by rw [← hel]; exact HSH2.out.wl
      have hndL := nd_sm HDA.out D.T1 (by first | exact Or.inl rfl | exact Or.inr rfl)
      have HINS := fun (W : World) (hW : Below w.heap.size w W) => in_tab Q R.seed R.s1 P1 R.l1.length c1 R.s2 P2 R.l2.length c2 R.ix D.T2 (by rw [HRA.out.seed]; exact HDA.out.wf2) (aD D) ha42 hslS R.l2 HRA.out.p2 hl2 HOK.out.k2 _ c W (HI2.out.on hW)
      have HINL := fun (cu : Nat) (W : World) (hW : Below w.heap.size w W) => in_tab Q R.seed R.s1 P1 R.l1.length c1 R.s2 P2 R.l2.length c2 R.ix D.T1 (by rw [HRA.out.seed]; exact HDA.out.wf1) (bD D) hb42 hslL R.l1 HRA.out.p1 hl1 HOK.out.k1 _ cu W (HI1.out.on hW)
      rw [← HRA.out.s2] at HINS
      rw [← HRA.out.s1] at HINL
      have HNXL := fun (cu : Nat) (hcu : cu ≤ 9223372036854775807) (W : World) => rnext_any cu (bD D) hcu (by omega) hb42 W
      rw [← hslL, ← HRA.out.s1] at HNXL
      have HVL2 : visL D c = bk D.T2 (aD D) c ++ lpart D.T1 (bD D) (vlen (aD D) (bD D) c) c := by rw [HVL.out, hes, hel]
      have hbn : (bk D.T2 (aD D) c).length + (lpart D.T1 (bD D) (vlen (aD D) (bD D) c) c).length ≤ 4398046511000 := by
        have q := HVN.out
        rw [HVL2, List.length_append] at q; omega
      rw [← HRA.out.s2] at hslS
      rw [← HRA.out.s1] at hslL
      have HQV : Hid _ := vlen_le (aD D) (bD D) c hab (by omega)
      have hpS := Nat.two_pow_pos (aD D)
      have hpL := Nat.two_pow_pos (bD D)
      have hpSL : 2 ^ aD D ≤ 2 ^ bD D := Nat.pow_le_pow_right (by omega) hab
      have hpB : 2 ^ bD D ≤ 2 ^ 42 := Nat.pow_le_pow_right (by omega) hb42
      obtain ⟨V, hV⟩ : ∃ V, vlen (aD D) (bD D) c = V := ⟨_, rfl⟩
      have hVP : 0 < V := by rw [← hV]; exact vlen_pos (aD D) (bD D) c
      have HVE : Hid (∀ t, t < V → ((Rj (bD D) c + (t + 1)) % 2 ^ (bD D - aD D) = 0 ↔ t + 1 = V)) := fun t ht => by rw [← hV]; exact vlen_end (aD D) (bD D) c t (by rw [hV]; exact ht)
      have HCE2 : Hid (itN (bD D) V c = nextC (aD D) c) := by rw [← hV]; exact HCE.out
      rw [hV] at HVL2 hbn HQV
      have HVL3 : Hid _ := HVL2
      clear hes hel hwL hndL hV HVL2 HVL HVN HCE HSH HSH2 HMV
      have hmodS : Int.tmod (c : Int) (R.s2 : Int) = ((c % R.s2 : Nat) : Int) := by rw [Int.tmod_eq_emod_of_nonneg (by omega)]; norm_cast
      have hmltS := Nat.mod_lt c (show 0 < R.s2 by omega)
      have hneS : ((R.s2 : Int) == 0) = false := beq_eq_false_iff_ne.2 (by omega)
      have hneS1 : ¬ (R.s2 : Int) = 0 := by omega
      have hneS2 : ¬ R.s2 = 0 := by omega
      have hneL : ((R.s1 : Int) == 0) = false := beq_eq_false_iff_ne.2 (by omega)
      have hneL1 : ¬ (R.s1 : Int) = 0 := by omega
      have hneL2 : ¬ R.s1 = 0 := by omega
      have hwS : IntKind.i64.wrap ((c % R.s2 : Nat) : Int) = ((c % R.s2 : Nat) : Int) := by
        generalize c % R.s2 = m at *
        rw [IntKind.wrap_i64] <;> omega
      have HSLS : Hid _ := hslS
      have HSLL : Hid _ := hslL
      have HPP : Hid (0 < 2 ^ aD D ∧ 2 ^ aD D ≤ 2 ^ bD D ∧ 2 ^ bD D ≤ 2 ^ 42) := ⟨hpS, hpSL, hpB⟩
      have hSL0 : R.s2 ≤ R.s1 := by omega
      clear hslS hslL hpS hpL hpSL hpB
      have hSA : (fun w' : World => (w'.cell? ⟨w.heap.size, 0, none⟩ = some (.int .i64 R.seed) ∧ w'.cell? ⟨w.heap.size, 1, none⟩ = some (.int .i64 (R.s1 : Int)) ∧ w'.cell? ⟨w.heap.size, 2, none⟩ = some (.slice P1 R.l1.length c1) ∧ w'.cell? ⟨w.heap.size, 3, none⟩ = some (.int .i64 (R.s2 : Int)) ∧ w'.cell? ⟨w.heap.size, 4, none⟩ = some (.slice P2 R.l2.length c2) ∧ w'.cell? ⟨w.heap.size, 5, none⟩ = some (.int .i64 (R.ix : Int))) ∧ w'.cell? ⟨B6, 0, none⟩ = some (.int .i64 (R.s2 : Int)) ∧ w'.cell? ⟨B6, 1, none⟩ = some (.slice P2 R.l2.length c2)) W5 := by
        obtain ⟨x0, x1, x2, x3, x4, x5, _⟩ := row6 HR5.out
        obtain ⟨y0, y1, _⟩ := row2 HT6.out
        exact ⟨⟨x0, x1, x2, x3, x4, x5⟩, y0, y1⟩
      have HINS5 : Hid _ := HINS W5.drew (HB5.out.trans ((Below.refl _ W5).drew.mono HB5.out.size))
      clear HINS
      go_cut [8] from 8 to 43 (fun s8 wx => ∃ P8 k8, s8 = .slice P8 (bk D.T2 (aD D) c).length k8 ∧ wx.ownsRow W5.heap.size 9 1 (.slice P8 (bk D.T2 (aD D) c).length k8) (bk D.T2 (aD D) c).length (keyV (bk D.T2 (aD D) c)) ∧ Below W5.heap.size W5 wx)
      case first =>
        generalize c % R.s2 = m at *
        go_region_held3 (fun w' : World => (w'.cell? ⟨w.heap.size, 0, none⟩ = some (.int .i64 R.seed) ∧ w'.cell? ⟨w.heap.size, 1, none⟩ = some (.int .i64 (R.s1 : Int)) ∧ w'.cell? ⟨w.heap.size, 2, none⟩ = some (.slice P1 R.l1.length c1) ∧ w'.cell? ⟨w.heap.size, 3, none⟩ = some (.int .i64 (R.s2 : Int)) ∧ w'.cell? ⟨w.heap.size, 4, none⟩ = some (.slice P2 R.l2.length c2) ∧ w'.cell? ⟨w.heap.size, 5, none⟩ = some (.int .i64 (R.ix : Int))) ∧ w'.cell? ⟨B6, 0, none⟩ = some (.int .i64 (R.s2 : Int)) ∧ w'.cell? ⟨B6, 1, none⟩ = some (.slice P2 R.l2.length c2))
          (first | exact hSA | exact hSB)
          (first | (go_at_call 59; refine (show Calls _ _ _ _ _ from HINS5.out).mono ?_; rintro e w3 ⟨r3, rfl, ho3, hb3⟩; obtain ⟨P8, k8, hkf⟩ := own_form ho3; subst hkf; have hSB : (fun w' : World => (w'.cell? ⟨w.heap.size, 0, none⟩ = some (.int .i64 R.seed) ∧ w'.cell? ⟨w.heap.size, 1, none⟩ = some (.int .i64 (R.s1 : Int)) ∧ w'.cell? ⟨w.heap.size, 2, none⟩ = some (.slice P1 R.l1.length c1) ∧ w'.cell? ⟨w.heap.size, 3, none⟩ = some (.int .i64 (R.s2 : Int)) ∧ w'.cell? ⟨w.heap.size, 4, none⟩ = some (.slice P2 R.l2.length c2) ∧ w'.cell? ⟨w.heap.size, 5, none⟩ = some (.int .i64 (R.ix : Int))) ∧ w'.cell? ⟨B6, 0, none⟩ = some (.int .i64 (R.s2 : Int)) ∧ w'.cell? ⟨B6, 1, none⟩ = some (.slice P2 R.l2.length c2)) w3 := (by obtain ⟨x0, x1, x2, x3, x4, x5, _⟩ := row6 (keep_row HR5.out ((Below.refl _ W5).drew.trans hb3)); obtain ⟨y0, y1, _⟩ := row2 (keep_row HT6.out ((Below.refl _ W5).drew.trans hb3)); exact ⟨⟨x0, x1, x2, x3, x4, x5⟩, y0, y1⟩)))
        all_goals
          go_wp2_with fail
          go_meet
          exact ⟨_, _, rfl, own_lower ho3 (Nat.le_refl _), (Below.refl _ W5).drew.trans hb3⟩
      case rest =>
        obtain ⟨P8, k8, rfl, ho8, hb8⟩ := hcut
        have HO8 : Hid (wc.ownsRow W5.heap.size 9 1 (.slice P8 (bk D.T2 (aD D) c).length k8) (bk D.T2 (aD D) c).length (keyV (bk D.T2 (aD D) c))) := ho8
        have HB8 : Hid (Below W5.heap.size W5 wc) := hb8
        clear ho8 hb8 hSA HINS5 hmodS hmltS hwS
        go_wp2
        go_loopw [1, 8] (fun cz ck wr => ∃ (t cu M : Nat), t < V ∧ cu = itN (bD D) t c ∧ cz = .int .i64 (cu : Int) ∧ M = (bk D.T2 (aD D) c).length + (lpart D.T1 (bD D) t c).length ∧ wr.ownsRow W5.heap.size 9 1 ck M (keyV (bk D.T2 (aD D) c) ++ keyV (lpart D.T1 (bD D) t c)) ∧ Below W5.heap.size W5 wr) (fun cz _ _ => 2 ^ bD D - Rj (bD D) (intOf cz).toNat)
        case atStart => exact ⟨0, c, _, hVP, rfl, rfl, rfl, by simpa [lpart, keyV] using HO8.out, HB8.out⟩
        case round =>
          obtain ⟨t, cu, M, ht, hcu, rfl, hM, hot, hbt⟩ := hrel
          have HCU : Hid _ := hcu
          have HM : Hid _ := hM
          have HOT : Hid (wr.ownsRow W5.heap.size 9 1 _ M (keyV (bk D.T2 (aD D) c) ++ keyV (lpart D.T1 (bD D) t c))) := hot
          have HBT : Hid (Below W5.heap.size W5 wr) := hbt
          obtain ⟨P9, k9, hkf⟩ := own_form hot
          subst hkf
          have hck : cu ≤ 9223372036854775807 := by rw [hcu]; exact itN_le (bD D) hb42 c t hcb
          have hRt := itN_R (bD D) (by omega) c t
          rw [Nat.mod_eq_of_lt (by have := HQV.out; omega), ← hcu] at hRt
          have HRT : Hid _ := hRt
          have hlp := lpart_mono D.T1 (bD D) c (t + 1) (V - (t + 1))
          rw [show t + 1 + (V - (t + 1)) = V by omega] at hlp
          have HREC : Hid (lpart D.T1 (bD D) (t + 1) c = lpart D.T1 (bD D) t c ++ bk D.T1 (bD D) cu) := by show _ = _; rw [hcu]; rfl
          rw [HREC.out, List.length_append] at hlp
          have hmodL : Int.tmod (cu : Int) (R.s1 : Int) = ((cu % R.s1 : Nat) : Int) := by rw [Int.tmod_eq_emod_of_nonneg (by omega)]; norm_cast
          have hmltL := Nat.mod_lt cu (show 0 < R.s1 by omega)
          have HINL5 : Hid _ := HINL cu wr.drew (HB5.out.trans ((HBT.out.trans ((Below.refl _ wr).drew.mono HBT.out.size)).mono HB5.out.size))
          have HN1 : nextC (bD D) cu = itN (bD D) (t + 1) c := by rw [hcu]; rfl
          have HNX5 : Hid _ := HNXL cu hck
          rw [HN1] at HNX5
          have hNl : itN (bD D) (t + 1) c < 2 ^ bD D := itN_lt (bD D) (by omega) c t
          have hand := and_low (aD D) (bD D) hab hb42 (itN (bD D) (t + 1) c) hNl
          have hR1 := itN_R (bD D) (by omega) c (t + 1)
          have hzero := and_zero (aD D) (bD D) hab (itN (bD D) (t + 1) c) hNl
          have hlow := low_iff (aD D) (bD D) hab (by omega) (itN (bD D) (t + 1) c) hNl
          have hmm : Rj (bD D) (itN (bD D) (t + 1) c) % 2 ^ (bD D - aD D) = (Rj (bD D) c + (t + 1)) % 2 ^ (bD D - aD D) := by
            rw [hR1, pow_split (aD D) (bD D) hab, Nat.mod_mul_right_mod]
          have HDEC : Hid (itN (bD D) (t + 1) c &&& (2 ^ bD D - 2 ^ aD D) = 0 ↔ t + 1 = V) := by
            show _ ↔ _
            rw [hzero, ← hlow, hmm, HVE.out t ht]
          have hsubn : ((R.s1 : Int) - (R.s2 : Int)) = ((2 ^ bD D - 2 ^ aD D : Nat) : Int) := by
            have q1 := HSLS.out
            have q2 := HSLL.out
            have q3 := HPP.out.2.1
            rw [q1, q2]; omega
          rw [← hsubn] at hand
          have HNR : Hid (t + 1 < V → Rj (bD D) (itN (bD D) (t + 1) c) = Rj (bD D) c + (t + 1)) := fun hlt => by rw [hR1, Nat.mod_eq_of_lt (by have := HQV.out; omega)]
          have hN2 : itN (bD D) (t + 1) c ≤ 9223372036854775807 := itN_le (bD D) hb42 c (t + 1) hcb
          have HNV : Hid (t + 1 = V → itN (bD D) (t + 1) c = nextC (aD D) c) := fun e => by rw [e]; exact HCE2.out
          have HREL6 : Hid (wr.heap[w.heap.size]? = some (.cells #[.int .i64 R.seed, .int .i64 (R.s1 : Int), .slice P1 R.l1.length c1, .int .i64 (R.s2 : Int), .slice P2 R.l2.length c2, .int .i64 (R.ix : Int)] 29)) := keep_row HR5.out hbt
          have HT7w : Hid (wr.heap[B7]? = some (.cells #[.int .i64 (R.s1 : Int), .slice P1 R.l1.length c1] 27)) := keep_row HT7.out hbt
          have HT6w : Hid (wr.heap[B6]? = some (.cells #[.int .i64 (R.s2 : Int), .slice P2 R.l2.length c2] 27)) := keep_row HT6.out hbt
          have hMb : M + (bk D.T1 (bD D) cu).length ≤ 4398046511000 := by rw [hM]; omega
          obtain ⟨BL, hBL⟩ : ∃ BL, (bk D.T1 (bD D) cu).length = BL := ⟨_, rfl⟩
          have HBL : Hid _ := hBL
          rw [hBL] at HINL5 hMb
          obtain ⟨nc, hnc⟩ : ∃ nc, itN (bD D) (t + 1) c = nc := ⟨_, rfl⟩
          rw [hnc] at hand HNX5 HDEC HNR hN2 HNV
          have HNC : Hid _ := hnc
          generalize hAV : nc &&& (2 ^ bD D - 2 ^ aD D) = AV at *
          have hwd : IntKind.i64.wrap ((R.s1 : Int) - (R.s2 : Int)) = (R.s1 : Int) - (R.s2 : Int) := by rw [IntKind.wrap_i64] <;> omega
          generalize cu % R.s1 = m at *
          have hwm : IntKind.i64.wrap ((m : Nat) : Int) = ((m : Nat) : Int) := by rw [IntKind.wrap_i64] <;> omega
          clear hcu hM hot hbt hlp hRt HN1 hNl hR1 hzero hlow hmm hsubn hBL hnc hAV
          have hSA : (fun w' : World => (w'.cell? ⟨w.heap.size, 0, none⟩ = some (.int .i64 R.seed) ∧ w'.cell? ⟨w.heap.size, 1, none⟩ = some (.int .i64 (R.s1 : Int)) ∧ w'.cell? ⟨w.heap.size, 2, none⟩ = some (.slice P1 R.l1.length c1) ∧ w'.cell? ⟨w.heap.size, 3, none⟩ = some (.int .i64 (R.s2 : Int)) ∧ w'.cell? ⟨w.heap.size, 4, none⟩ = some (.slice P2 R.l2.length c2) ∧ w'.cell? ⟨w.heap.size, 5, none⟩ = some (.int .i64 (R.ix : Int))) ∧ w'.cell? ⟨B7, 0, none⟩ = some (.int .i64 (R.s1 : Int)) ∧ w'.cell? ⟨B7, 1, none⟩ = some (.slice P1 R.l1.length c1)) wr := by
            obtain ⟨x0, x1, x2, x3, x4, x5, _⟩ := row6 HREL6.out
            obtain ⟨y0, y1, _⟩ := row2 HT7w.out
            exact ⟨⟨x0, x1, x2, x3, x4, x5⟩, y0, y1⟩
          go_upto_region 7 with fail
          go_cut [8] from 44 to 52 (fun s8 wx => ∃ P10 k10, s8 = .slice P10 (M + BL) k10 ∧ wx.ownsRow W5.heap.size 9 1 (.slice P10 (M + BL) k10) (M + BL) ((keyV (bk D.T2 (aD D) c) ++ keyV (lpart D.T1 (bD D) t c)) ++ keyV (bk D.T1 (bD D) cu)) ∧ Below W5.heap.size W5 wx)
          case first =>
            go_region_held3 (fun w' : World => (w'.cell? ⟨w.heap.size, 0, none⟩ = some (.int .i64 R.seed) ∧ w'.cell? ⟨w.heap.size, 1, none⟩ = some (.int .i64 (R.s1 : Int)) ∧ w'.cell? ⟨w.heap.size, 2, none⟩ = some (.slice P1 R.l1.length c1) ∧ w'.cell? ⟨w.heap.size, 3, none⟩ = some (.int .i64 (R.s2 : Int)) ∧ w'.cell? ⟨w.heap.size, 4, none⟩ = some (.slice P2 R.l2.length c2) ∧ w'.cell? ⟨w.heap.size, 5, none⟩ = some (.int .i64 (R.ix : Int))) ∧ w'.cell? ⟨B7, 0, none⟩ = some (.int .i64 (R.s1 : Int)) ∧ w'.cell? ⟨B7, 1, none⟩ = some (.slice P1 R.l1.length c1))
              (first | exact hSA | exact hSB | exact hSC)
              (first | (go_at_call 59; refine (show Calls _ _ _ _ _ from HINL5.out).mono ?_; rintro e w3 ⟨r3, rfl, ho3, hb3⟩; obtain ⟨P3, k3, hkf⟩ := own_form ho3; subst hkf; have hb3' : Below wr.heap.size wr w3 := (Below.refl _ wr).drew.trans hb3; have hbt3 : Below W5.heap.size W5 w3 := HBT.out.trans (hb3'.mono HBT.out.size); have hout3 := own_keep HOT.out (fun q _ hq => hb3'.block q hq); have hSB : (fun w' : World => (w'.cell? ⟨w.heap.size, 0, none⟩ = some (.int .i64 R.seed) ∧ w'.cell? ⟨w.heap.size, 1, none⟩ = some (.int .i64 (R.s1 : Int)) ∧ w'.cell? ⟨w.heap.size, 2, none⟩ = some (.slice P1 R.l1.length c1) ∧ w'.cell? ⟨w.heap.size, 3, none⟩ = some (.int .i64 (R.s2 : Int)) ∧ w'.cell? ⟨w.heap.size, 4, none⟩ = some (.slice P2 R.l2.length c2) ∧ w'.cell? ⟨w.heap.size, 5, none⟩ = some (.int .i64 (R.ix : Int))) ∧ w'.cell? ⟨B7, 0, none⟩ = some (.int .i64 (R.s1 : Int)) ∧ w'.cell? ⟨B7, 1, none⟩ = some (.slice P1 R.l1.length c1)) w3 := (by obtain ⟨x0, x1, x2, x3, x4, x5, _⟩ := row6 (keep_row HREL6.out hb3'); obtain ⟨y0, y1, _⟩ := row2 (keep_row HT7w.out hb3'); exact ⟨⟨x0, x1, x2, x3, x4, x5⟩, y0, y1⟩)) | (refine step_append_keys rfl (.tmp 44) (.tmp 51) rfl W5.heap.size _ _ _ _ rfl hout3 _ _ (bk D.T1 (bD D) cu) rfl ho3 (by omega) hbt3.size ?_; intro v5 w5 ho5 hg5; obtain ⟨P10, k10, hkf5⟩ := own_form ho5; subst hkf5; have hbt5 : Below W5.heap.size W5 w5 := hbt3.grown hg5 hbt3.size (fun q hq => (World.ownsRow.lt hout3 q hq).1); have hSC : (fun w' : World => (w'.cell? ⟨w.heap.size, 0, none⟩ = some (.int .i64 R.seed) ∧ w'.cell? ⟨w.heap.size, 1, none⟩ = some (.int .i64 (R.s1 : Int)) ∧ w'.cell? ⟨w.heap.size, 2, none⟩ = some (.slice P1 R.l1.length c1) ∧ w'.cell? ⟨w.heap.size, 3, none⟩ = some (.int .i64 (R.s2 : Int)) ∧ w'.cell? ⟨w.heap.size, 4, none⟩ = some (.slice P2 R.l2.length c2) ∧ w'.cell? ⟨w.heap.size, 5, none⟩ = some (.int .i64 (R.ix : Int))) ∧ w'.cell? ⟨B7, 0, none⟩ = some (.int .i64 (R.s1 : Int)) ∧ w'.cell? ⟨B7, 1, none⟩ = some (.slice P1 R.l1.length c1)) w5 := (by obtain ⟨x0, x1, x2, x3, x4, x5, _⟩ := row6 (keep_row HR5.out hbt5); obtain ⟨y0, y1, _⟩ := row2 (keep_row HT7.out hbt5); exact ⟨⟨x0, x1, x2, x3, x4, x5⟩, y0, y1⟩)))
            all_goals
              go_wp2_with fail
              go_meet
              exact ⟨_, _, rfl, ho5, hbt5⟩
          case rest =>
            obtain ⟨P10, k10, rfl, ho10, hb10⟩ := hcut
            have HO10 : Hid (wc.ownsRow W5.heap.size 9 1 (.slice P10 (M + BL) k10) (M + BL) (keyV (bk D.T2 (aD D) c) ++ keyV (lpart D.T1 (bD D) (t + 1) c))) := by
              show World.ownsRow _ _ _ _ _ _ _
              rw [HREC.out, keyV_app, ← List.append_assoc]; exact ho10
            have HM10 : Hid (M + BL = (bk D.T2 (aD D) c).length + (lpart D.T1 (bD D) (t + 1) c).length) := by
              show _ = _
              rw [HREC.out, List.length_append, HM.out, HBL.out]; omega
            have HB10 : Hid (Below W5.heap.size W5 wc) := hb10
            obtain ⟨t0, t1, tf⟩ := row2 (keep_row HT7.out hb10)
            obtain ⟨r0, r1, rf⟩ := row2 (keep_row HT6.out hb10)
            clear ho10 hb10 hSA
            go_wp2_with fail
            refine (show Calls _ _ _ _ _ from HNX5.out _).mono ?_
            rintro e w11 ⟨rfl, hw11⟩
            have hw12 := hw11.symm
            subst hw12
            by_cases hend : t + 1 = V
            · have hA0 : AV = 0 := HDEC.out.2 hend
              have HNE : Hid _ := HNV.out hend
              have HFIN : Hid (wc.ownsRow w.heap.size 9 1 (.slice P10 (M + BL) k10) (visL D c).length (keyV (visL D c))) := by
                show World.ownsRow _ _ _ _ _ _ _
                have q := own_lower HO10.out HB5.out.size
                rw [hend] at q
                rw [HVL3.out, keyV_app, List.length_append, ← hend, ← HM10.out, hend]; exact q
              have HBF : Hid (Below w.heap.size w wc) := HB5.out.trans (HB10.out.mono HB5.out.size)
              subst hA0
              go_wp2
              go_returns
              refine ⟨.slice P10 (M + BL) k10, ?_, HFIN.out, HBF.out⟩
              rw [HNE.out]; rfl
            · have hA0 : ¬ AV = 0 := fun q => hend (HDEC.out.1 q)
              have hA1 : ((AV : Int) == 0) = false := beq_eq_false_iff_ne.2 (by omega)
              have hA2 : ¬ (AV : Int) = 0 := by omega
              have HTV : Hid (t + 1 < V) := by show _ < _; omega
              clear hend
              go_wp2
              go_roundw
              case rel => exact ⟨t + 1, nc, M + BL, HTV.out, HNC.out.symm, rfl, HM10.out, HO10.out, HB10.out⟩
              case measure =>
                simp only [intOf, Int.toNat_natCast]
                rw [HNR.out HTV.out, HRT.out]
                have := HQV.out
                have := HTV.out
                omega
end Go.Proofs.Ytdemodhjlbkbeab
namespace Go.Proofs.Ytdemodhjlbkbeab
open Go.RowKit
set_option linter.unusedVariables false
theorem visit_ref (Q : Nat → Prop) (v : Value) (D : DS) (R : RD) (hD : DInv D) (hr : Rel D R) (hne : D.T1 ≠ []) (hcc : cnt D.T1 + cnt D.T2 ≤ 4398046511000) (c : Nat) (hcb : c ≤ 9223372036854775807) (w : World) (h : RV Q w v R) :
    Calls Try.prog 41 #[v, .int .i64 (c : Int)] w fun e w' => ∃ r, e = .returned (.tuple #[r, .int .i64 ((nextC (aD D) c : Nat) : Int)]) ∧ w'.ownsRow w.heap.size 9 1 r (visL D c).length (keyV (visL D c)) ∧ Below w.heap.size w w' := by
  by_cases hm : D.T2 = []
  · exact visit_ref0 Q v D R hD hr hm hne hcc c hcb w h
  · exact visit_ref1 Q v D R hD hr hm hcc c hcb w h
set_option maxHeartbeats 2000000 in
set_option maxRecDepth 100000 in
theorem rScan_none (v : Value) (Q : Nat → Prop) (R : RD) (hs : R.s1 = 0) (z n : Int) (w : World) (h : RV Q w v R) : Calls Try.prog 14 #[v, .int .i64 z, .int .i64 n] w fun e w' => e = .returned (.tuple #[.slice none 0 0, .int .i64 0]) ∧ Below w.heap.size w w' := by
  obtain ⟨v1, v2, rfl, h1, h2⟩ := h
  obtain ⟨P1, c1, rfl⟩ := h1.form
  obtain ⟨P2, c2, rfl⟩ := h2.form
  have HB : Hid (Below w.heap.size w (w.alloc (.cells #[.int .i64 R.seed, .int .i64 0, .slice P1 R.l1.length c1, .int .i64 (R.s2 : Int), .slice P2 R.l2.length c2, .int .i64 (R.ix : Int)] 29))) := (Below.refl _ _).alloc (Nat.le_refl _) _
  rw [hs]
  clear h1 h2 hs
  go_enter Try.func14, Try.ntmps14
  go_wp2
  go_returns
  exact ⟨rfl, HB.out⟩
set_option maxHeartbeats 4000000 in
set_option maxRecDepth 100000 in
theorem rScan_any (Q : Nat → Prop) (v : Value) (D : DS) (R : RD) (hD : DInv D) (hr : Rel D R) (hne : D.T1 ≠ []) (hcc : cnt D.T1 + cnt D.T2 ≤ 4398046511000) (z : Int) (c : Nat) (hzc : max z 0 = (c : Int)) (hcb : c ≤ 9223372036854775807) (n : Int) (hn : -9223372036854775808 ≤ n ∧ n ≤ 9223372036854775807) (w : World) (h : RV Q w v R) :
    Calls Try.prog 14 #[v, .int .i64 z, .int .i64 n] w fun e w' => ∃ t, ScanIs D c n t ∧ ∃ r, e = .returned (.tuple #[r, .int .i64 (itN (aD D) t c : Nat)]) ∧ w'.ownsRow w.heap.size 9 1 r (visN D c t).length (keyV (visN D c t)) ∧ Below w.heap.size w w' := by
  obtain ⟨v1, v2, rfl, h1, h2⟩ := h
  obtain ⟨P1, c1, rfl⟩ := h1.form
  obtain ⟨P2, c2, rfl⟩ := h2.form
  have hs := shape hD hne
  have ha42 := hs.a42
  have ha2 := hs.a2
  have hl0 : 0 < R.s1 := by rw [hr.s1]; exact len_pos.2 hne
  have hl0e : ((R.s1 : Int) == 0) = false := beq_eq_false_iff_ne.2 (by omega)
  obtain ⟨W0, hW0⟩ : ∃ W0, W0 = w.alloc (.cells #[.int .i64 R.seed, .int .i64 (R.s1 : Int), .slice P1 R.l1.length c1, .int .i64 (R.s2 : Int), .slice P2 R.l2.length c2, .int .i64 (R.ix : Int)] 29) := ⟨_, rfl⟩
  have hb0 : Below w.heap.size w W0 := by rw [hW0]; exact (Below.refl _ _).alloc (Nat.le_refl _) _
  have HB0 : Hid _ := hb0
  have HROW : Hid (W0.heap[w.heap.size]? = some (.cells #[.int .i64 R.seed, .int .i64 (R.s1 : Int), .slice P1 R.l1.length c1, .int .i64 (R.s2 : Int), .slice P2 R.l2.length c2, .int .i64 (R.ix : Int)] 29)) := by show _ = _; rw [hW0]; exact one_alloc _ _
  have HVI : Hid (∀ (cu : Nat) (_ : cu ≤ 9223372036854775807) (W : World), Below W0.heap.size W0 W → _) := fun cu hcu W hW => visit_ref Q _ D R hD hr hne hcc cu hcu W ((show RV Q w _ R from ⟨.slice P1 R.l1.length c1, .slice P2 R.l2.length c2, rfl, h1, h2⟩).on (hb0.trans (hW.mono hb0.size)))
  have HD : Hid (DInv D) := hD
  have HNE : Hid (D.T1 ≠ []) := hne
  have HR0 := Rj_lt (aD D) (by omega) c
  have HRL : Hid _ := HR0
  have hmx : (if z < 0 then (0 : Int) else z) = (c : Int) := by split <;> omega
  have hmx' : max 0 z = (c : Int) := by omega
  clear h1 h2 hs hD hr hne HR0 hb0
  go_enter Try.func14, Try.ntmps14
  go_wp2
  rw [← hW0]
  clear hW0
  go_loopw [8, 1] (fun ck cz wr => ∃ (t cu M : Nat), (∀ s, 1 ≤ s → s < t + 1 → itN (aD D) s c ≠ 0 ∧ ((visN D c s).length : Int) < max n 1) ∧ Rj (aD D) c + t < 2 ^ aD D ∧ cu = itN (aD D) t c ∧ cz = .int .i64 (cu : Int) ∧ M = (visN D c t).length ∧ wr.ownsRow W0.heap.size 9 1 ck M (keyV (visN D c t)) ∧ Below W0.heap.size W0 wr) (fun _ cz _ => 2 ^ aD D - Rj (aD D) (intOf cz).toNat)
  case atStart => exact ⟨0, c, 0, fun s h1 h2 => by omega, by have := HRL.out; omega, rfl, rfl, rfl, ⟨rfl, Or.inl ⟨rfl, rfl⟩⟩, Below.refl _ _⟩
  case round =>
    obtain ⟨t, cu, M, hfs, htl, hcu, rfl, hM, hot, hbt⟩ := hrel
    have HFS : Hid (∀ s, 1 ≤ s → s < t + 1 → itN (aD D) s c ≠ 0 ∧ ((visN D c s).length : Int) < max n 1) := hfs
    have hck : cu ≤ 9223372036854775807 := by rw [hcu]; exact itN_le (aD D) ha42 c t hcb
    have HOT : Hid (wr.ownsRow W0.heap.size 9 1 _ M (keyV (visN D c t))) := hot
    have HBT : Hid (Below W0.heap.size W0 wr) := hbt
    obtain ⟨a0, a1, a2, a3, a4, a5, af⟩ := row6 (keep_row HROW.out hbt)
    have hcn := visN_cnt HD.out HNE.out c (t + 1) (by omega)
    have hlen : (visN D c (t + 1)).length = M + (visL D cu).length := by
      show (visN D c t ++ visL D (itN (aD D) t c)).length = _
      rw [List.length_append, hM, hcu]
    have HVI2 : Hid _ := HVI.out cu hck wr hbt
    have HZ := it_zero (a := aD D) (by omega) c t (by omega)
    have hnc : nextC (aD D) cu = itN (aD D) (t + 1) c := by rw [hcu]; rfl
    have hR0 := itN_R (aD D) (by omega) c t
    rw [Nat.mod_eq_of_lt htl, ← hcu] at hR0
    have hR1 := itN_R (aD D) (by omega) c (t + 1)
    rw [hnc] at HVI2
    have hnb := itN_le (aD D) ha42 c (t + 1) hcb
    have HLEN : Hid _ := hlen
    have HTL : Hid (Rj (aD D) c + (t + 1) ≤ 2 ^ aD D) := htl
    have HCUE : Hid _ := hcu
    obtain ⟨P8, k8, hkf⟩ := own_form hot
    subst hkf
    obtain ⟨nc, hnce⟩ : ∃ nc, itN (aD D) (t + 1) c = nc := ⟨_, rfl⟩
    have HNC : Hid _ := hnce
    have HRC : Hid (nc ≠ 0 → Rj (aD D) nc = Rj (aD D) c + (t + 1)) := fun hz => by
      rw [← hnce, hR1]
      refine Nat.mod_eq_of_lt ?_
      have : ¬ Rj (aD D) c + (t + 1) = 2 ^ aD D := fun e => hz (by rw [← hnce]; exact HZ.2 e)
      omega
    have HRZ : Hid (nc ≠ 0 → Rj (aD D) c + (t + 1) < 2 ^ aD D) := fun hz => by
      have : ¬ Rj (aD D) c + (t + 1) = 2 ^ aD D := fun e => hz (by rw [← hnce]; exact HZ.2 e)
      omega
    have HR00 : Hid _ := hR0
    rw [hnce] at HVI2 hnb
    obtain ⟨VL, hVL⟩ : ∃ VL, (visL D cu).length = VL := ⟨_, rfl⟩
    have HVL : Hid _ := hVL
    rw [hVL] at HVI2
    have hM2 : M + VL ≤ 4398046511000 := by rw [hlen, hVL] at hcn; omega
    clear hfs hot hbt HZ hnc hR0 hR1 hnce hM hcu hlen htl hcn hVL
    go_wp2_with fail
    refine (show Calls _ _ _ _ _ from HVI2.out).mono ?_
    rintro e w3 ⟨r3, rfl, ho3, hb3⟩
    obtain ⟨P3, k3, hkf⟩ := own_form ho3
    subst hkf
    have HO3 : Hid (w3.ownsRow wr.heap.size 9 1 (.slice P3 VL k3) VL (keyV (visL D cu))) := ho3
    have HOT3 : Hid (w3.ownsRow W0.heap.size 9 1 (.slice P8 M k8) M (keyV (visN D c t))) := own_keep HOT.out (fun q _ hq => hb3.block q hq)
    have HB3 : Hid (Below W0.heap.size W0 w3) := HBT.out.trans (hb3.mono HBT.out.size)
    clear ho3 hb3 a0 a1 a2 a3 a4 a5 af
    go_upto_region 6 with fail
    go_wp2_with (at_builtin; go_must (refine wpList_append_keys rfl _ _ rfl W0.heap.size wr.heap.size _ _ _ rfl HOT3.out _ VL (visL D cu) rfl HO3.out ?p1 HB3.out.size ?_))
    case p1 => omega
    intro v5 w5 ho5 hg5
    obtain ⟨P5, k5, hkf⟩ := own_form ho5
    subst hkf
    have HB5' : Hid (Below W0.heap.size W0 w5) := HB3.out.grown hg5 HB3.out.size (fun q hq => (World.ownsRow.lt HOT3.out q hq).1)
    have HO5 : Hid (w5.ownsRow W0.heap.size 9 1 (.slice P5 (M + VL) k5) (M + VL) (keyV (visN D c (t + 1)))) := by
      show World.ownsRow _ _ _ _ _ _ _
      have e : visN D c (t + 1) = visN D c t ++ visL D cu := by show visN D c t ++ visL D (itN (aD D) t c) = _; rw [HCUE.out]
      rw [e, keyV_app]; exact ho5
    have HB5 : Hid (Below w.heap.size w w5) := HB0.out.trans (HB5'.out.mono HB0.out.size)
    have HLM : Hid ((visN D c (t + 1)).length = M + VL) := by show _ = _; rw [HLEN.out, HVL.out]
    clear ho5 hg5
    have HFINH : Hid ((nc = 0 ∨ max n 1 ≤ ((M + VL : Nat) : Int)) → (∃ t', ScanIs D c n t' ∧ ∃ r, Ending.returned (.tuple #[.slice P5 (M + VL) k5, .int .i64 (nc : Int)]) = .returned (.tuple #[r, .int .i64 (itN (aD D) t' c : Nat)]) ∧ w5.ownsRow w.heap.size 9 1 r (visN D c t').length (keyV (visN D c t')) ∧ Below w.heap.size w w5)) := fun hst => by
      refine ⟨t + 1, ⟨by omega, HTL.out, ?_, HFS.out⟩, .slice P5 (M + VL) k5, by rw [HNC.out], ?_, HB5.out⟩
      · rw [HNC.out, HLM.out]; exact hst
      · rw [HLM.out]; exact own_lower HO5.out HB0.out.size
    have HFS2 : Hid (nc ≠ 0 → ¬ max n 1 ≤ ((M + VL : Nat) : Int) → ∀ s, 1 ≤ s → s < t + 1 + 1 → itN (aD D) s c ≠ 0 ∧ ((visN D c s).length : Int) < max n 1) := fun h1 h2 s h3 h4 => by
      rcases Nat.lt_or_ge s (t + 1) with h5 | h5
      · exact HFS.out s h3 h5
      · have : s = t + 1 := by omega
        subst this
        rw [HNC.out, HLM.out]
        exact ⟨h1, by omega⟩
    by_cases hz : nc = 0
    · subst hz
      go_wp2
      go_returns
      exact HFINH.out (Or.inl (by trivial))
    · have hze : ((nc : Int) == 0) = false := by simpa using hz
      by_cases hge : max n 1 ≤ ((M + VL : Nat) : Int)
      · have hst := hge
        have hge2 : max 1 n ≤ ((M + VL : Nat) : Int) := by omega
        have hge3 : (if n < 1 then (1 : Int) else n) ≤ ((M + VL : Nat) : Int) := by split <;> omega
        generalize M + VL = MV at *
        by_cases hn1 : n < 1
        · have hge4 : (1 : Int) ≤ (MV : Int) := by omega
          have hmx1 : max 1 n = 1 := by omega
          go_wp2
          all_goals
            go_returns
            exact HFINH.out (Or.inr hst)
        · have hge4 : n ≤ (MV : Int) := by omega
          have hmx1 : max 1 n = n := by omega
          go_wp2
          all_goals
            go_returns
            exact HFINH.out (Or.inr hst)
      · have HREL : Hid _ := (⟨HRZ.out hz, HNC.out.symm, HLM.out.symm, HFS2.out hz hge⟩ : Rj (aD D) c + (t + 1) < 2 ^ aD D ∧ nc = itN (aD D) (t + 1) c ∧ M + VL = (visN D c (t + 1)).length ∧ ∀ s, 1 ≤ s → s < t + 1 + 1 → itN (aD D) s c ≠ 0 ∧ ((visN D c s).length : Int) < max n 1)
        generalize M + VL = MV at *
        by_cases hn1 : n < 1
        · have hge4 : ¬ (1 : Int) ≤ (MV : Int) := by omega
          have hmx1 : max 1 n = 1 := by omega
          go_wp2
          all_goals
            go_roundw
            case rel => exact ⟨t + 1, nc, MV, HREL.out.2.2.2, HREL.out.1, HREL.out.2.1, rfl, HREL.out.2.2.1, HO5.out, HB5'.out⟩
            case measure => simp only [intOf, Int.toNat_natCast]; rw [HRC.out hz, HR00.out]; have := HREL.out.1; omega
        · have hge4 : ¬ n ≤ (MV : Int) := by omega
          have hmx1 : max 1 n = n := by omega
          go_wp2
          all_goals
            go_roundw
            case rel => exact ⟨t + 1, nc, MV, HREL.out.2.2.2, HREL.out.1, HREL.out.2.1, rfl, HREL.out.2.2.1, HO5.out, HB5'.out⟩
            case measure => simp only [intOf, Int.toNat_natCast]; rw [HRC.out hz, HR00.out]; have := HREL.out.1; omega
end Go.Proofs.Ytdemodhjlbkbeab
