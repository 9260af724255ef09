import Derived.Test.YtgbplghokciimaaDoorQB
import Derived.Test.YtgbplghokciimaaDoorQkG
import Derived.BigRegion
namespace Go.Proofs.YtgbplghokciimaaDoor.S
open Go.RowKit
set_option linter.unusedVariables false
theorem nx_zero {hs : List Nat} {p : Nat} (hpos : ∀ x ∈ hs, 1 ≤ x) (hp : p ≤ hs.length) : nx hs 0 p = p + 1 := by
  have h1 := nx_is (hs := hs) (l := 0) (p := p) hp
  rcases Nat.lt_or_ge (p + 1) (nx hs 0 p) with h | h
  · have h2 := h1.le
    refine absurd ?_ (h1.none (p + 1) (by omega) h)
    refine Or.inr ⟨hs[p], ?_, ?_⟩
    · rw [Nat.add_sub_cancel]; exact List.getElem?_eq_getElem (by omega)
    · have := hpos _ (List.getElem_mem (l := hs) (n := p) (by omega)); omega
  · have := h1.lt; omega
theorem next_zero {hb : Nat} {T : List Tw} {k : Nat} {t : Tw} (hk : k ≤ T.length) (hpos : ∀ x ∈ hts T, 1 ≤ x) (ht : 1 ≤ t.h) : (lnk hb (insT T k t) (k + 1) 0).1 = (T[k]?).map Tw.b := by
  have hp : ∀ x ∈ hts (insT T k t), 1 ≤ x := fun x hx => by
    have := ((insT_perm0 T k t).map Tw.h).mem_iff.1 hx
    rw [List.map_cons, List.mem_cons] at this
    rcases this with rfl | e
    · exact ht
    · exact hpos x e
  unfold lnk
  rw [nx_zero hp (by rw [hts_len, insT_len]; omega)]
  show ((insT T k t)[k + 1]?).map Tw.b = _
  rw [insT_hi hk (Nat.le_refl _)]
theorem Lone.raised {w w1 : World} {g : Nat} {S : SkS} {v : Value} {H : Nat} {C : Nat → Nat} {n : Nat} {c : Nat → Nat → Lk} {pv : Nat → Option Nat} {t : Tw} {o : Option Nat} {c0 : Nat → Lk} (h : Lone w g S t o c0) (hs : Sk w g S C n c pv) (hm : Moved w w1 (sblk g S) (sblk g (S.setH v H))) : Lone w1 g (S.setH v H) t o c0 := by
  obtain ⟨n1, n2⟩ := hs.lone_out h
  obtain ⟨l1, l2⟩ := h.lts
  have h1 := h.to (hm.rest _ l1 n1) (hm.rest _ l2 n2)
  refine ⟨h1.blk, h1.row, h1.nb, ?_⟩
  have hn := h.nk
  simp only [List.mem_append, not_or] at hn ⊢
  refine ⟨fun hq => ?_, hn.2⟩
  rcases hm.new t.k (by unfold sblk; simp only [List.mem_cons, List.mem_append]; exact Or.inr (Or.inr (Or.inl hq))) with e | e
  · exact n2 e
  · omega
theorem Lv.start {w w1 w2 : World} {g : Nat} {S : SkS} {v : Value} {H : Nat} {C : Nat → Nat} {n : Nat} {pv : Nat → Option Nat} {t : Tw} {o : Option Nat} {c0 : Nat → Lk} {d : Nat → Lk} (k : Nat) (hl : Lone w1 g (S.setH v H) t o c0) (hs : Sk w1 g (S.setH v H) C n (lnk S.hb S.T) pv) (hm : Moved w w1 (sblk g S) (sblk g (S.setH v H))) (hb : Below w1.heap.size w1 w2) {W3 : World} (e : W3 = w2.alloc (.cells (flat2 d 24).toArray 132)) : Lv w W3 g S (S.setH v H) C n pv k t o c0 w2.heap.size d 0 := by
  have hb3 : Below w1.heap.size w1 W3 := by rw [e]; exact hb.alloc hb.size _
  refine ⟨?_, ?_, ?_, ?_⟩
  · rw [cI_zero]; exact hs.below hb3
  · rw [cU_zero]; exact hl.below hb3
  · rw [e]; exact one_alloc _ _
  · have hw : Moved w w1 (t.b :: t.k :: sblk g S) (t.b :: t.k :: sblk g (S.setH v H)) := by
      refine ⟨hm.os, hm.tape, hm.output, hm.size, fun q hq hn => hm.rest q hq (fun hx => hn (by simp [hx])), fun q hq => ?_⟩
      simp only [List.mem_cons] at hq ⊢
      rcases hq with q1 | q1 | q1
      · exact Or.inl (Or.inl q1)
      · exact Or.inl (Or.inr (Or.inl q1))
      · rcases hm.new q q1 with q2 | q2
        · exact Or.inl (Or.inr (Or.inr q2))
        · exact Or.inr q2
    exact hw.trans (Moved.of_below hb3)
set_option maxHeartbeats 4000000 in
set_option maxRecDepth 100000 in
theorem link_any (g : Nat) (S : SkS) (t : Tw) (o : Option Nat) (c0 : Nat → Lk) (w : World) (h : Sk w g S (cntT S.T) S.T.length (lnk S.hb S.T) (pAt S.hb S.T)) (hl : Lone w g S t o c0) (hbrd : Brd (ens S.T)) (htop : IsTop S.T S.H) (hH : S.H ≤ 24) (hn : S.T.length ≤ 1000000) (hpos : ∀ x ∈ hts S.T, 1 ≤ x) (ht1 : 1 ≤ t.h) (ht24 : t.h ≤ 24) : Calls Tryd.prog 67 #[.pointer (some ⟨g, 0, none⟩), .pointer (some ⟨t.b, 0, none⟩)] w fun e w' => e = .returned (.tuple #[]) ∧ ∃ v, Sk w' g ((S.setH v (max S.H t.h)).setT (insT S.T (plc (ens S.T) t.e) t)) (cntT (insT S.T (plc (ens S.T) t.e) t)) (S.T.length + 1) (lnk S.hb (insT S.T (plc (ens S.T) t.e) t)) (pAt S.hb (insT S.T (plc (ens S.T) t.e) t)) ∧ Moved w w' (t.b :: t.k :: sblk g S) (sblk g ((S.setH v (max S.H t.h)).setT (insT S.T (plc (ens S.T) t.e) t))) := by
  have hk : plc (ens S.T) t.e ≤ S.T.length := by have := plc_le (ens S.T) t.e; rwa [ens_len] at this
  have hA : ∀ q (hq : q < S.T.length), ahd S.T[q].e t.e = decide (q < plc (ens S.T) t.e) := fun q hq => by
    have := plc_dec hbrd t.e q (by rw [ens_len]; exact hq)
    rw [← this]; simp
  generalize plc (ens S.T) t.e = k at *
  have tb3 : w.cell? ⟨t.b, 3, none⟩ = some (.slice (some ⟨t.k, 0, none⟩) t.h t.h) := by rw [hl.blk.cell]; rfl
  have HR : Hid _ := raise_any g S (cntT S.T) (pAt S.hb S.T) t.h ht24 w h htop.le hH (by omega)
  have HL : Hid (Lone w g S t o c0) := hl
  have HSK : Hid (Sk w g S (cntT S.T) S.T.length (lnk S.hb S.T) (pAt S.hb S.T)) := h
  have HAA : Hid _ := hA
  have HPO : Hid _ := hpos
  clear h hl hA hbrd hpos
  go_enter Tryd.func67, Tryd.ntmps67
  go_wp2_with fail
  refine (show Calls _ _ _ _ _ from HR.out).mono ?_
  rintro e w1 ⟨rfl, v, hsk1, hmv1⟩
  have HSK1 : Hid (Sk w1 g (S.setH v (max S.H t.h)) (cntT S.T) S.T.length (lnk S.hb S.T) (pAt S.hb S.T)) := hsk1
  have hl1 := HL.out.raised HSK.out hmv1
  have HL1 : Hid (Lone w1 g (S.setH v (max S.H t.h)) t o c0) := hl1
  have HM1 : Hid (Moved w w1 (sblk g S) (sblk g (S.setH v (max S.H t.h)))) := hmv1
  obtain ⟨x0, x1⟩ := tow_cells hl1.blk
  have HAH : Hid _ := ahead_any g (S.setH v (max S.H t.h)) (cntT S.T) S.T.length (pAt S.hb S.T) k t.b t.e w1 hsk1 hk (show max S.H t.h ≤ 24 by omega) (show S.T.length ≤ 1099511627776 by omega) x0 x1 HAA.out
  clear hsk1 hl1 hmv1 x0 x1 tb3
  go_wp2_with fail
  refine (show Calls _ _ _ _ _ from HAH.out).mono ?_
  rintro e w2 ⟨d, rfl, hw, hb2⟩
  obtain ⟨W3, hW3⟩ : ∃ W3, W3 = w2.alloc (.cells (flat2 d 24).toArray 132) := ⟨_, rfl⟩
  have HLV : Hid (Lv w W3 g S (S.setH v (max S.H t.h)) (cntT S.T) S.T.length (pAt S.hb S.T) k t o c0 w2.heap.size d 0) := Lv.start k HL1.out HSK1.out HM1.out hb2 hW3
  have HW3 : Hid (W3 = w2.alloc (.cells (flat2 d 24).toArray 132)) := hW3
  have HWY : Hid (Wy (S.setH v (max S.H t.h)) k 0 d) := hw
  have HWB : Hid (w.heap.size ≤ w2.heap.size) := Nat.le_trans HM1.out.size hb2.size
  have HZ : Hid (Blk (w2.alloc (.cells (flat2 (fun _ => (none, 0)) 24).toArray 132)) w2.heap.size (flat2 (fun _ => (none, 0)) 24) 132) := one_alloc _ _
  have hd0 := hw.zero HPO.out hk (show 0 < max S.H t.h by omega)
  have hd0 : d 0 = (pAt S.hb S.T k, k) := hd0
  obtain ⟨dd0, dd1⟩ := flat2_get d 24 0 (by omega)
  rw [hd0] at dd0 dd1
  have s1 : W3.cell? ⟨w2.heap.size, 1, none⟩ = some (.int .i64 (k : Int)) := by rw [HLV.out.way.cell]; exact dd1
  have b2 : W3.cell? ⟨g, 2, none⟩ = some (.pointer (some ⟨S.hb, 0, none⟩)) := by rw [HLV.out.sk.brd.cell]; rfl
  obtain ⟨P3, kk3, hf3⟩ := HLV.out.sk.hrow.form
  have b3 : W3.cell? ⟨S.hb, 3, none⟩ = some (.slice P3 (max S.H t.h) kk3) := by rw [HLV.out.sk.head.cell]; exact congrArg some hf3
  have hkw : IntKind.i64.wrap ((k : Int) + 1) = (k : Int) + 1 := by rw [IntKind.wrap_i64] <;> omega
  obtain ⟨HH, hHH⟩ : ∃ HH, HH = max S.H t.h := ⟨_, rfl⟩
  rw [← hHH] at b3
  have HHH : Hid (HH = max S.H t.h) := hHH
  have hHb : HH ≤ 24 := by omega
  clear hw hb2 hW3 hd0 dd0 dd1 hf3 hHH
  rw [zero24] at HZ
  go_wp2_with (first | (refine wpList_store_row rfl 132 _ _ rfl w2.heap.size _ rfl rfl _ _ HZ.out (infoW d) (by rw [← zero24]; exact sizeW _ d) (oneW d) ?_; rw [World.setRow_alloc_new, ← HW3.out]))
  go_loopw [32] (fun cl wr => ∃ lv : Nat, lv ≤ HH ∧ cl = .int .i64 (lv : Int) ∧ Lv w wr g S (S.setH v (max S.H t.h)) (cntT S.T) S.T.length (pAt S.hb S.T) k t o c0 w2.heap.size d lv) (fun cl _ => HH - (intOf cl).toNat)
  case atStart => exact ⟨0, Nat.zero_le _, rfl, HLV.out⟩
  case round =>
    obtain ⟨lv, hlv, rfl, hLV⟩ := hrel
    have HLV2 : Hid _ := hLV
    clear s1 b2 b3 hLV HLV
    by_cases hlt : lv < HH
    · obtain ⟨p, b, K, kc, N, hp, hg, hv, hd, q0, q1, t3, hN, k0, k1, tb3⟩ := HLV2.out.cells hk HWY.out (show lv < max S.H t.h by rw [← HHH.out]; exact hlt) (show max S.H t.h ≤ 24 by rw [← HHH.out]; exact hHb)
      have hpl : p ≤ S.T.length := Nat.le_trans hp.le hk
      have hrw := HLV2.out.sk.rowAt (p := p) hpl
      rw [hv] at hrw
      have kf1 : wr.frozen? ⟨K, lv * 2 + 1, none⟩ = false := World.ownsRow.frozenAt hrw _
      obtain ⟨ov, hov⟩ : ∃ ov, (lnk S.hb S.T p lv).2 = ov := ⟨_, rfl⟩
      have k1' : wr.cell? ⟨K, lv * 2 + 1, none⟩ = some (.int .i64 (ov : Int)) := by rw [← hov]; exact k1
      have hrm : k - p < (lnk S.hb S.T p lv).2 ∧ (lnk S.hb S.T p lv).2 ≤ S.T.length + 1 := lnk_room hk hp
      rw [hov] at hrm
      have HOV : Hid ((lnk S.hb S.T p lv).2 = ov) := hov
      have HP : Hid (IsPrv (hts S.T) lv k p) := hp
      have HG : Hid (lv < hgA (S.setH v (max S.H t.h)) p) := hg
      have HV : Hid _ := hv
      have HN : Hid ((lnk S.hb S.T p lv).1 = N) := hN
      have hpk := hp.le
      have hl24 : (lv : Int) < 24 := by omega
      have hlh : (lv : Int) < (HH : Int) := by omega
      have hlg : (lv : Int) < (hgA (S.setH v (max S.H t.h)) p : Int) := by omega
      have how : IntKind.i64.wrap ((ov : Int) + 1) = (ov : Int) + 1 := by rw [IntKind.wrap_i64] <;> omega
      have hlw : IntKind.i64.wrap ((lv : Int) + 1) = (lv : Int) + 1 := by rw [IntKind.wrap_i64] <;> omega
      have hl0 : (0 : Int) ≤ (lv : Int) := by omega
      clear hp hg hv hd hN k1 hov hrw
      obtain ⟨hh, hhe⟩ : ∃ hh, hgA (S.setH v (max S.H t.h)) p = hh := ⟨_, rfl⟩
      rw [hhe] at t3 hlg
      clear hhe
      go_upto_region 8 with fail
      obtain ⟨W1, hW1⟩ : ∃ W1, W1 = wr.setCell ⟨K, lv * 2 + 1, none⟩ (.int .i64 ((ov : Int) + 1)) := ⟨_, rfl⟩
      rw [← hW1]
      have ho1 : Only wr W1 K := by rw [hW1]; exact only_set _ _ _ _
      have hKo : (lvA (S.setH v (max S.H t.h)) p).ownBlock = some K := by rw [HV.out]; rfl
      have hrow := HLV2.out.sk.rowAt (p := p) hpl
      have nb : t.b ≠ K := hrow.ne hKo HLV2.out.lone.blk (by decide)
      have nk : t.k ≠ K := HLV2.out.lone.neK hpl hKo
      have nw : w2.heap.size ≠ K := hrow.ne hKo HLV2.out.way (by decide)
      have HW1 : Hid (W1 = wr.setCell ⟨K, lv * 2 + 1, none⟩ (.int .i64 ((ov : Int) + 1))) := hW1
      have v3 : W1.cell? ⟨t.b, 3, none⟩ = some (.slice (some ⟨t.k, 0, none⟩) t.h t.h) := (World.cell?_of_block (a := ⟨t.b, 3, none⟩) (ho1.other _ nb)).trans tb3
      have v1 : W1.cell? ⟨w2.heap.size, lv * 2 + 1, none⟩ = some (.int .i64 (p : Int)) := (World.cell?_of_block (a := ⟨w2.heap.size, lv * 2 + 1, none⟩) (ho1.other _ nw)).trans q1
      have HPL : Hid _ := hpl
      have HKO : Hid _ := hKo
      have HO1 : Hid _ := ho1
      by_cases hth : lv < t.h
      · have hth2 : (lv : Int) < (t.h : Int) := by omega
        have hlr := (HLV2.out.lone.row.to (W' := W1) (fun K' hK' => by cases hK'; exact ho1.other _ nk))
        obtain ⟨K2, kc2, hv2, u0, u1, uf⟩ := hlr.at hth
        cases hv2
        have uf0 := uf (lv * 2)
        have uf1 := uf (lv * 2 + 1)
        have hr0 := hrow
        rw [HV.out] at hr0
        have hr1 := hr0.set1 (l := lv) (ov + 1)
        rw [show (((ov + 1 : Nat) : Nat) : Int) = (ov : Int) + 1 by omega, ← hW1] at hr1
        obtain ⟨K3, kc3, hv3, j0, j1, jf⟩ := hr1.at HG.out
        cases hv3
        rw [updL_self] at j0 j1
        have j0' : W1.cell? ⟨K, lv * 2, none⟩ = some (ptr N) := by rw [j0, cI_now]; exact congrArg (fun x => some (ptr x)) HN.out
        have j1' : W1.cell? ⟨K, lv * 2 + 1, none⟩ = some (.int .i64 ((ov : Int) + 1)) := j1
        obtain ⟨pN, hpN⟩ : ∃ pN, ptr N = .pointer pN := ⟨_, rfl⟩
        rw [hpN] at j0'
        have HPN : Hid (ptr N = .pointer pN) := hpN
        obtain ⟨X0, hX0⟩ : ∃ X0, W1.cell? ⟨t.k, lv * 2, none⟩ = some X0 := ⟨_, u0⟩
        obtain ⟨X1, hX1⟩ : ∃ X1, W1.cell? ⟨t.k, lv * 2 + 1, none⟩ = some X1 := ⟨_, u1⟩
        have e1 : IntKind.i64.wrap ((k : Int) + 1 - (p : Int)) = (k : Int) + 1 - (p : Int) := by rw [IntKind.wrap_i64] <;> omega
        have e2 : IntKind.i64.wrap ((ov : Int) + 1 - ((k : Int) + 1 - (p : Int))) = (ov : Int) + 1 - ((k : Int) + 1 - (p : Int)) := by rw [IntKind.wrap_i64] <;> omega
        clear hW1 ho1 hKo hrow tb3 q0 q1 t3 k0 k1' kf1 hlr u0 u1 uf hr0 hr1 j0 j1 hpN hpl
        go_upto_region 10 with fail
        go_region
        obtain ⟨W2, hW2⟩ : ∃ W2, W2 = ((W1.setCell ⟨t.k, lv * 2, none⟩ (.pointer pN)).setCell ⟨t.k, lv * 2 + 1, none⟩ (.int .i64 ((ov : Int) + 1 - ((k : Int) + 1 - (p : Int))))).drew := ⟨_, rfl⟩
        rw [← hW2]
        have ho2 : Only W1 W2 t.k := by
          rw [hW2]
          exact Only.trans (((Only.refl W1 t.k).set (lv * 2) (.pointer pN)).set (lv * 2 + 1) (.int .i64 ((ov : Int) + 1 - ((k : Int) + 1 - (p : Int))))) ⟨rfl, rfl, rfl, rfl, fun _ _ => rfl⟩
        have y0 : W2.cell? ⟨K, lv * 2, none⟩ = some (.pointer pN) := (World.cell?_of_block (a := ⟨K, lv * 2, none⟩) (ho2.other _ (fun e => nk e.symm))).trans j0'
        have y1 : W2.cell? ⟨K, lv * 2 + 1, none⟩ = some (.int .i64 ((ov : Int) + 1)) := (World.cell?_of_block (a := ⟨K, lv * 2 + 1, none⟩) (ho2.other _ (fun e => nk e.symm))).trans j1'
        have hbk : W2.heap[K]? = W1.heap[K]? := ho2.other _ (fun e => nk e.symm)
        have yf0 : W2.frozen? ⟨K, lv * 2, none⟩ = false := (World.frozen?_of_block (a := ⟨K, lv * 2, none⟩) hbk).trans (jf _)
        have yf1 : W2.frozen? ⟨K, lv * 2 + 1, none⟩ = false := (World.frozen?_of_block (a := ⟨K, lv * 2 + 1, none⟩) hbk).trans (jf _)
        have HW2 : Hid (W2 = ((W1.setCell ⟨t.k, lv * 2, none⟩ (.pointer pN)).setCell ⟨t.k, lv * 2 + 1, none⟩ (.int .i64 ((ov : Int) + 1 - ((k : Int) + 1 - (p : Int))))).drew) := hW2
        clear hW2 ho2 j0' j1' jf v3 v1 hX0 hX1 uf0 uf1 hbk e2
        go_wp2
        go_roundw
        case rel =>
          refine ⟨lv + 1, by omega, by go_num, HLV2.out.next2 (W1 := W1) (W2 := W2) (y := ov + 1) (z := ov + 1 - (k + 1 - p)) (z2 := k + 1 - p) (m := 1) hk HP.out HG.out HV.out hth HN.out (by rw [HOV.out]) rfl (by rw [HW1.out]; rfl) (by rw [HW2.out, HPN.out, show (((ov + 1 - (k + 1 - p) : Nat) : Nat) : Int) = (ov : Int) + 1 - ((k : Int) + 1 - (p : Int)) by omega]; rfl) (by rw [show (((k + 1 - p : Nat) : Nat) : Int) = (k : Int) + 1 - (p : Int) by omega]; rfl)⟩
        case measure => simp [intOf]; omega
      · have hth2 : ¬ (lv : Int) < (t.h : Int) := by omega
        clear hW1 ho1 hKo hrow tb3 q0 q1 t3 k0 k1' kf1 v1 hpl
        go_wp2
        go_roundw
        case rel => exact ⟨lv + 1, by omega, by go_num, HLV2.out.next hk HP.out HG.out HV.out HWB.out hth (by rw [HOV.out]) (by rw [HW1.out]; rfl)⟩
        case measure => simp [intOf]; omega
    · have hle : lv = HH := by omega
      subst hle
      have hlh : ¬ (lv : Int) < (lv : Int) := by omega
      obtain ⟨b0, hb0⟩ : ∃ b0, pAt S.hb S.T k = some b0 := by
        obtain ⟨b0, hb0, _⟩ := HLV2.out.sk.towAt (p := k) hk
        exact ⟨b0, hb0⟩
      have hd0 : d 0 = (pAt S.hb S.T k, k) := HWY.out.zero HPO.out hk (show 0 < max S.H t.h by omega)
      have s0 : wr.cell? ⟨w2.heap.size, 0, none⟩ = some (.pointer (some ⟨b0, 0, none⟩)) := by
        obtain ⟨dd0, dd1⟩ := flat2_get d 24 0 (by omega)
        rw [hd0, hb0] at dd0
        rw [HLV2.out.way.cell]; exact dd0
      have tb3 : wr.cell? ⟨t.b, 3, none⟩ = some (.slice (some ⟨t.k, 0, none⟩) t.h t.h) := by rw [HLV2.out.lone.blk.cell]; rfl
      have tb4 : wr.cell? ⟨t.b, 4, none⟩ = some (ptr o) := by rw [HLV2.out.lone.blk.cell]; rfl
      have tf4 : wr.frozen? ⟨t.b, 4, none⟩ = false := HLV2.out.lone.blk.frozen 4
      obtain ⟨W4, hW4⟩ : ∃ W4, W4 = wr.setCell ⟨t.b, 4, none⟩ (.pointer (some ⟨b0, 0, none⟩)) := ⟨_, rfl⟩
      obtain ⟨hsk4, hmv4⟩ := HLV2.out.done (W' := W4) (s0 := some b0) hk HHH.out (show t.h ≤ max S.H t.h by omega) (fun x hx => Nat.le_trans (htop.le x hx) (show S.H ≤ max S.H t.h by omega)) hb0.symm hW4
      have ho4 : Only wr W4 t.b := by rw [hW4]; exact only_set _ _ _ _
      have t43 : W4.cell? ⟨t.b, 3, none⟩ = some (.slice (some ⟨t.k, 0, none⟩) t.h t.h) := by rw [hW4, (HLV2.out.lone.blk.set 4 _).cell]; rfl
      have hN := next_zero (hb := S.hb) (T := S.T) (k := k) (t := t) hk HPO.out ht1
      obtain ⟨N, hNN⟩ : ∃ N, (S.T[k]?).map Tw.b = N := ⟨_, rfl⟩
      have hrow4 := HLV2.out.lone.row.to (W' := W4) (fun K hK => by cases hK; exact ho4.other _ (fun e => HLV2.out.lone.row.ne rfl HLV2.out.lone.blk (by decide) e.symm))
      obtain ⟨K, kc, hv, k0, k1, kf⟩ := hrow4.at (l := 0) ht1
      cases hv
      have k0' : W4.cell? ⟨t.k, 0, none⟩ = some (ptr N) := by
        have e0 : cU S.hb S.T k t c0 lv 0 = lnk S.hb (insT S.T k t) (k + 1) 0 := by unfold cU; rw [if_pos (by have := HHH.out; omega)]
        rw [← hNN, ← hN, ← e0]; exact k0
      have HSK4 : Hid _ := hsk4
      have HMV4 : Hid _ := hmv4
      have HW4 : Hid (W4 = wr.setCell ⟨t.b, 4, none⟩ (.pointer (some ⟨b0, 0, none⟩))) := hW4
      have HNN : Hid _ := hNN
      have ht0 : (0 : Int) < (t.h : Int) := by omega
      clear hsk4 hmv4 hd0 hN hrow4 k0 k1 kf ho4 tb3 hNN
      generalize ptr o = po at *
      go_upto_region 14 with fail
      rw [← hW4]
      clear hW4 s0 tb4 tf4
      rcases N with _ | b1
      · have k0'' : W4.cell? ⟨t.k, 0, none⟩ = some (.pointer none) := k0'
        clear k0'
        have hkl : k = S.T.length := by
          have := HNN.out
          rcases Nat.lt_or_ge k S.T.length with q | q
          · rw [List.getElem?_eq_getElem q] at this; cases this
          · omega
        have hsk5 := HSK4.out.congPv (pv' := pAt S.hb (insT S.T k t)) (fun i hi => pv_ins hk i (by
          have hi : i < (insT S.T k t).length := hi
          rw [insT_len] at hi; omega))
        have hmv5 := HMV4.out
        clear hkl
        go_upto_region 17 with fail
        clear k0''
        obtain ⟨W5, hW5⟩ : ∃ W5, W5 = W4 := ⟨_, rfl⟩
        subst hW5
        have t53 := t43
        clear t43
        have HMV5 : Hid (Moved w W5 (t.b :: t.k :: sblk g S) (t.b :: t.k :: sblk g (S.setH v (max S.H t.h)))) := hmv5
        have c5 : W5.cell? ⟨g, 3 + (t.h - 1), none⟩ = some (.int .i64 (cntT S.T (t.h - 1) : Int)) := by
          rw [hsk5.brd.cell]; exact boardL_at _ _ _ _ _ _ (by omega)
        have f5 : W5.frozen? ⟨g, 3 + (t.h - 1), none⟩ = false := hsk5.brd.frozen _
        have hct := cntT_le S.T (t.h - 1)
        have HSK5 : Hid _ := hsk5
        clear hsk5 hmv5
        obtain ⟨ct, hct2⟩ : ∃ ct, cntT S.T (t.h - 1) = ct := ⟨_, rfl⟩
        rw [hct2] at c5 hct
        have HCT : Hid (cntT S.T (t.h - 1) = ct) := hct2
        clear hct2
        have cw : IntKind.i64.wrap ((ct : Int) + 1) = (ct : Int) + 1 := by rw [IntKind.wrap_i64] <;> omega
        have tw : IntKind.i64.wrap ((t.h : Int) - 1) = (t.h : Int) - 1 := by rw [IntKind.wrap_i64] <;> omega
        have tn : ((t.h : Int) - 1).toNat = t.h - 1 := by omega
        have ti0 : (0 : Int) ≤ (t.h : Int) - 1 := by omega
        have ti1 : (t.h : Int) - 1 < 24 := by omega
        go_region
        obtain ⟨W6, hW6⟩ : ∃ W6, W6 = (W5.setCell ⟨g, 3 + (t.h - 1), none⟩ (.int .i64 ((ct : Int) + 1))).drew := ⟨_, rfl⟩
        rw [← hW6]
        have b6 := HSK5.out.brd.set (3 + (t.h - 1)) (.int .i64 ((ct : Int) + 1))
        have b6 := b6.to (W' := W6) (by rw [hW6]; rfl)
        have c6 : W6.cell? ⟨g, 27, none⟩ = some (.int .i64 (S.T.length : Int)) := by
          rw [b6.cell, List.getElem?_set_ne (by omega)]; rfl
        have f6 : W6.frozen? ⟨g, 27, none⟩ = false := b6.frozen _
        have HW6 : Hid (W6 = (W5.setCell ⟨g, 3 + (t.h - 1), none⟩ (.int .i64 ((ct : Int) + 1))).drew) := hW6
        have nw : IntKind.i64.wrap ((S.T.length : Int) + 1) = (S.T.length : Int) + 1 := by rw [IntKind.wrap_i64] <;> omega
        clear hW6 b6 c5 f5 t53
        go_wp2
        go_returns
        obtain ⟨r1, r2⟩ := link_fin (W' := W6.setCell ⟨g, 27, none⟩ (.int .i64 ((S.T.length : Int) + 1))) (k := k) HSK5.out ht1 ht24 HCT.out (by rw [HW6.out])
        exact ⟨rfl, v, r1, (HMV5.out.trans (Moved.only r2 (by simp [sblk]))).less (fun q hq => sblk_ins hq)⟩
      · have k0'' : W4.cell? ⟨t.k, 0, none⟩ = some (.pointer (some ⟨b1, 0, none⟩)) := k0'
        clear k0'
        have hkl : k < S.T.length ∧ ∀ h : k < S.T.length, S.T[k].b = b1 := by
          have := HNN.out
          rcases Nat.lt_or_ge k S.T.length with q | q
          · rw [List.getElem?_eq_getElem q] at this; cases this; exact ⟨q, fun _ => rfl⟩
          · rw [List.getElem?_eq_none q] at this; cases this
        have hi1 : k + 1 < (insT S.T k t).length := by rw [insT_len]; omega
        have hb1 : (insT S.T k t)[k + 1].b = b1 := by
          have := insT_hi (t := t) hk (Nat.le_refl k)
          rw [List.getElem?_eq_getElem hi1, List.getElem?_eq_getElem hkl.1] at this
          rw [Option.some.inj this]; exact hkl.2 hkl.1
        have hbk := HSK4.out.tow (k + 1) hi1
        have hbk : Blk W4 (insT S.T k t)[k + 1].b _ _ := hbk
        rw [hb1] at hbk
        have b14 : ∃ X, W4.cell? ⟨b1, 4, none⟩ = some X := ⟨_, by rw [hbk.cell]; rfl⟩
        obtain ⟨X4, b14⟩ := b14
        have f14 : W4.frozen? ⟨b1, 4, none⟩ = false := hbk.frozen 4
        have HBK : Hid True := trivial
        clear hbk
        obtain ⟨W5, hW5⟩ : ∃ W5, W5 = W4.setCell ⟨b1, 4, none⟩ (.pointer (some ⟨t.b, 0, none⟩)) := ⟨_, rfl⟩
        have hsk5 := HSK4.out.setPrev (i := k + 1) hi1 (some t.b)
        have hsk5 : Sk (W4.setCell ⟨(insT S.T k t)[k + 1].b, 4, none⟩ (.pointer (some ⟨t.b, 0, none⟩))) g _ _ _ _ _ := hsk5
        rw [hb1, ← hW5] at hsk5
        have hsk5 := hsk5.congPv (pv' := pAt S.hb (insT S.T k t)) (fun i hi => by
          unfold updF
          by_cases h1 : i = k + 1
          · rw [if_pos h1, h1, pAt_at hk]
          · rw [if_neg h1]; exact pv_ins hk i h1)
        have ho5 : Only W4 W5 b1 := by rw [hW5]; exact only_set _ _ _ _
        have hmv5 := HMV4.out.trans (Moved.only ho5 (F := t.b :: t.k :: sblk g (S.setH v (max S.H t.h))) (by
          have := mem_tow (g := g) (S := S.setH v (max S.H t.h)) (i := k) hkl.1
          have : S.T[k].b ∈ _ := this
          rw [hkl.2 hkl.1] at this
          simp [this]))
        have nbb : t.b ≠ b1 := fun e => by
          have := HLV2.out.lone.nb
          exact this (by rw [e, ← hkl.2 hkl.1]; exact List.mem_cons_of_mem _ (List.mem_map.2 ⟨_, List.getElem_mem hkl.1, rfl⟩))
        have t53 : W5.cell? ⟨t.b, 3, none⟩ = some (.slice (some ⟨t.k, 0, none⟩) t.h t.h) := (World.cell?_of_block (a := ⟨t.b, 3, none⟩) (ho5.other _ nbb)).trans t43
        clear ho5 nbb hb1 hkl
        go_upto_region 17 with fail
        rw [← hW5]
        clear hW5 k0'' b14 f14 t43
        have HMV5 : Hid (Moved w W5 (t.b :: t.k :: sblk g S) (t.b :: t.k :: sblk g (S.setH v (max S.H t.h)))) := hmv5
        have c5 : W5.cell? ⟨g, 3 + (t.h - 1), none⟩ = some (.int .i64 (cntT S.T (t.h - 1) : Int)) := by
          rw [hsk5.brd.cell]; exact boardL_at _ _ _ _ _ _ (by omega)
        have f5 : W5.frozen? ⟨g, 3 + (t.h - 1), none⟩ = false := hsk5.brd.frozen _
        have hct := cntT_le S.T (t.h - 1)
        have HSK5 : Hid _ := hsk5
        clear hsk5 hmv5
        obtain ⟨ct, hct2⟩ : ∃ ct, cntT S.T (t.h - 1) = ct := ⟨_, rfl⟩
        rw [hct2] at c5 hct
        have HCT : Hid (cntT S.T (t.h - 1) = ct) := hct2
        clear hct2
        have cw : IntKind.i64.wrap ((ct : Int) + 1) = (ct : Int) + 1 := by rw [IntKind.wrap_i64] <;> omega
        have tw : IntKind.i64.wrap ((t.h : Int) - 1) = (t.h : Int) - 1 := by rw [IntKind.wrap_i64] <;> omega
        have tn : ((t.h : Int) - 1).toNat = t.h - 1 := by omega
        have ti0 : (0 : Int) ≤ (t.h : Int) - 1 := by omega
        have ti1 : (t.h : Int) - 1 < 24 := by omega
        go_region
        obtain ⟨W6, hW6⟩ : ∃ W6, W6 = (W5.setCell ⟨g, 3 + (t.h - 1), none⟩ (.int .i64 ((ct : Int) + 1))).drew := ⟨_, rfl⟩
        rw [← hW6]
        have b6 := HSK5.out.brd.set (3 + (t.h - 1)) (.int .i64 ((ct : Int) + 1))
        have b6 := b6.to (W' := W6) (by rw [hW6]; rfl)
        have c6 : W6.cell? ⟨g, 27, none⟩ = some (.int .i64 (S.T.length : Int)) := by
          rw [b6.cell, List.getElem?_set_ne (by omega)]; rfl
        have f6 : W6.frozen? ⟨g, 27, none⟩ = false := b6.frozen _
        have HW6 : Hid (W6 = (W5.setCell ⟨g, 3 + (t.h - 1), none⟩ (.int .i64 ((ct : Int) + 1))).drew) := hW6
        have nw : IntKind.i64.wrap ((S.T.length : Int) + 1) = (S.T.length : Int) + 1 := by rw [IntKind.wrap_i64] <;> omega
        clear hW6 b6 c5 f5 t53
        go_wp2
        go_returns
        obtain ⟨r1, r2⟩ := link_fin (W' := W6.setCell ⟨g, 27, none⟩ (.int .i64 ((S.T.length : Int) + 1))) (k := k) HSK5.out ht1 ht24 HCT.out (by rw [HW6.out])
        exact ⟨rfl, v, r1, (HMV5.out.trans (Moved.only r2 (by simp [sblk]))).less (fun q hq => sblk_ins hq)⟩
end Go.Proofs.YtgbplghokciimaaDoor.S
