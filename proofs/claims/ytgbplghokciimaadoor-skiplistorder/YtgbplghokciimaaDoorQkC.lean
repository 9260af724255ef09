import Derived.Test.YtgbplghokciimaaDoorQkB
import Derived.Deep.RegionHeld3
namespace Go.Proofs.YtgbplghokciimaaDoor.S
open Go.RowKit
set_option linter.unusedVariables false
set_option maxHeartbeats 1000000 in
set_option maxRecDepth 100000 in
theorem isAhead_any (a b : Nat) (x y : En) (w : World) (a0 : w.cell? ⟨a, 0, none⟩ = some (.string x.1)) (a1 : w.cell? ⟨a, 1, none⟩ = some (.int .i64 x.2.1)) (b0 : w.cell? ⟨b, 0, none⟩ = some (.string y.1)) (b1 : w.cell? ⟨b, 1, none⟩ = some (.int .i64 y.2.1)) : Calls Tryd.prog 90 #[.pointer (some ⟨a, 0, none⟩), .pointer (some ⟨b, 0, none⟩)] w fun e w' => e = .returned (.bool (ahd x y)) ∧ Below w.heap.size w w' := by
  obtain ⟨am, asc, av⟩ := x
  obtain ⟨bm, bsc, bv⟩ := y
  unfold ahd ltB
  simp only at *
  go_enter Tryd.func90, Tryd.ntmps90
  by_cases hs : asc = bsc
  · subst hs
    go_wp2
    go_quiet (fail)
    go_wp2
    go_quiet (fail)
    go_wp2
    go_returns
    refine ⟨by first | rfl | simp [*], ?_⟩
    repeat (first | exact Below.refl _ _ | refine below_dn ?_ _)
  · go_wp2
    go_quiet (fail)
    go_wp2
    go_quiet (fail)
    go_wp2
    go_returns
    refine ⟨by first | rfl | simp [*], ?_⟩
    repeat (first | exact Below.refl _ _ | refine below_dn ?_ _)
/-- a search's test: whether a tower stands up to the place k. -/
def Tst (w : World) (hb : Nat) (T : List Tw) (k F : Nat) (fv : Value) : Prop := ∀ q (hq : q < T.length), ∀ W', Below w.heap.size w W' → Calls Tryd.prog F #[.pointer (some ⟨T[q].b, 0, none⟩), .int .i64 ((q + 1 : Nat) : Int), fv] W' fun e w' => e = .returned (.bool (decide (q < k))) ∧ Below W'.heap.size W' w'
/-- what a search has found at the levels from lv on. -/
def Wy (S : SkS) (k lv : Nat) (d : Nat → Lk) : Prop := (∀ l, lv ≤ l → l < S.H → ∃ p, IsPrv (hts S.T) l k p ∧ d l = (pAt S.hb S.T p, p)) ∧ ∀ l, S.H ≤ l → d l = (none, 0)
theorem Wy.start (S : SkS) (k : Nat) : Wy S k S.H (fun _ => (none, 0)) := ⟨fun l h1 h2 => by omega, fun _ _ => rfl⟩
theorem zero24 : flat2 (fun _ => (none, 0)) 24 = [.pointer none, .int .i64 0, .pointer none, .int .i64 0, .pointer none, .int .i64 0, .pointer none, .int .i64 0, .pointer none, .int .i64 0, .pointer none, .int .i64 0, .pointer none, .int .i64 0, .pointer none, .int .i64 0, .pointer none, .int .i64 0, .pointer none, .int .i64 0, .pointer none, .int .i64 0, .pointer none, .int .i64 0, .pointer none, .int .i64 0, .pointer none, .int .i64 0, .pointer none, .int .i64 0, .pointer none, .int .i64 0, .pointer none, .int .i64 0, .pointer none, .int .i64 0, .pointer none, .int .i64 0, .pointer none, .int .i64 0, .pointer none, .int .i64 0, .pointer none, .int .i64 0, .pointer none, .int .i64 0, .pointer none, .int .i64 0] := rfl
theorem infoW48 : (Tryd.prog.info? 132).map (·.size) = some 48 := by kernel_rfl
theorem infoW (d : Nat → Lk) : (Tryd.prog.info? 132).map (·.size) = some (flat2 d 24).toArray.size := by
  have e : (flat2 d 24).toArray.size = 48 := by simp [flat2_len]
  rw [e]; exact infoW48
theorem sizeW (d d' : Nat → Lk) : (flat2 d 24).toArray.size = (flat2 d' 24).toArray.size := by simp [flat2_len]
theorem flat2_one (d : Nat → Lk) (h : Nat) : ∀ v ∈ flat2 d h, v.oneCell' = true := by
  intro v hv
  unfold flat2 at hv
  obtain ⟨l, _, hl⟩ := List.mem_flatMap.1 hv
  simp at hl
  rcases hl with rfl | rfl <;> rfl
theorem oneW (d : Nat → Lk) : (flat2 d 24).toArray.all (·.oneCell') = true := Array.all_eq_true_iff_forall_mem.2 (fun v hv => flat2_one d 24 v (by simpa using hv))
theorem Wy.step {S : SkS} {k l p : Nat} {d : Nat → Lk} (hw : Wy S k (l + 1) d) (hl : l < S.H) (hp : IsPrv (hts S.T) l k p) : Wy S k l (updL d l (pAt S.hb S.T p, p)) := by
  refine ⟨fun j h1 h2 => ?_, fun j h1 => ?_⟩
  · unfold updL
    by_cases hj : j = l
    · subst hj; rw [if_pos rfl]; exact ⟨p, hp, rfl⟩
    · rw [if_neg hj]; exact hw.1 j (by omega) h2
  · unfold updL
    rw [if_neg (by omega)]; exact hw.2 j h1
def placeOf (w : World) (A : Nat) : Nat := match w.cell? ⟨A, 1, none⟩ with
  | some v => (intOf v).toNat
  | none => 0
theorem cells_below {W W' : World} {g : Nat} {L : List Value} {t : Nat} (h : Blk W g L t) (hb : Below W.heap.size W W') : Blk W' g L t := h.to (hb.block g h.lt)
set_option maxHeartbeats 4000000 in
set_option maxRecDepth 100000 in
theorem seek_any (g : Nat) (S : SkS) (C : Nat → Nat) (n : Nat) (pv : Nat → Option Nat) (k F : Nat) (eF : ∀ args w, (callFunc F args).run Tryd.prog w = .ok (.enter F args) w) (fv : Value) (w : World) (h : Sk w g S C n (lnk S.hb S.T) pv) (hk : k ≤ S.T.length) (hH : S.H ≤ 24) (hn : S.T.length ≤ 1099511627776) (ht : Tst w S.hb S.T k F fv) : Calls Tryd.prog 88 #[.pointer (some ⟨g, 0, none⟩), .func (.func F) #[] #[fv]] w fun e w' => ∃ d, e = .returned (.agg (flat2 d 24).toArray) ∧ Wy S k 0 d ∧ Below w.heap.size w w' := by
  obtain ⟨W0, hW0⟩ : ∃ W0, W0 = (w.alloc (.cells #[.pointer none, .int .i64 0, .pointer none, .int .i64 0, .pointer none, .int .i64 0, .pointer none, .int .i64 0, .pointer none, .int .i64 0, .pointer none, .int .i64 0, .pointer none, .int .i64 0, .pointer none, .int .i64 0, .pointer none, .int .i64 0, .pointer none, .int .i64 0, .pointer none, .int .i64 0, .pointer none, .int .i64 0, .pointer none, .int .i64 0, .pointer none, .int .i64 0, .pointer none, .int .i64 0, .pointer none, .int .i64 0, .pointer none, .int .i64 0, .pointer none, .int .i64 0, .pointer none, .int .i64 0, .pointer none, .int .i64 0, .pointer none, .int .i64 0, .pointer none, .int .i64 0, .pointer none, .int .i64 0, .pointer none, .int .i64 0] 132)).alloc (.cells #[.pointer none, .int .i64 0, .pointer none, .int .i64 0, .pointer none, .int .i64 0, .pointer none, .int .i64 0, .pointer none, .int .i64 0, .pointer none, .int .i64 0, .pointer none, .int .i64 0, .pointer none, .int .i64 0, .pointer none, .int .i64 0, .pointer none, .int .i64 0, .pointer none, .int .i64 0, .pointer none, .int .i64 0, .pointer none, .int .i64 0, .pointer none, .int .i64 0, .pointer none, .int .i64 0, .pointer none, .int .i64 0, .pointer none, .int .i64 0, .pointer none, .int .i64 0, .pointer none, .int .i64 0, .pointer none, .int .i64 0, .pointer none, .int .i64 0, .pointer none, .int .i64 0, .pointer none, .int .i64 0, .pointer none, .int .i64 0] 132) := ⟨_, rfl⟩
  obtain ⟨R, hR⟩ : ∃ R, R = w.heap.size := ⟨_, rfl⟩
  obtain ⟨Q, hQ⟩ : ∃ Q, Q = w.heap.size + 1 := ⟨_, rfl⟩
  obtain ⟨A, hA⟩ : ∃ A, A = W0.heap.size := ⟨_, rfl⟩
  have hsz : w.heap.size + 1 + 1 = W0.heap.size := by rw [hW0]; simp
  have hb0 : Below w.heap.size w W0 := by
    rw [hW0]
    repeat (refine Below.alloc ?_ (by simp) _)
    exact Below.refl _ _
  have HR0 : Hid (Blk W0 R (flat2 (fun _ => (none, 0)) 24) 132) := by
    show Blk _ _ _ _
    unfold Blk
    rw [hW0, hR, zero24, heap_alloc_old _ _ (by simp)]
    exact heap_alloc_new _ _
  have HQ0 : Hid (Blk W0 Q (flat2 (fun _ => (none, 0)) 24) 132) := by
    show Blk _ _ _ _
    unfold Blk
    rw [hW0, hQ, zero24]
    have := heap_alloc_new (w.alloc (.cells #[.pointer none, .int .i64 0, .pointer none, .int .i64 0, .pointer none, .int .i64 0, .pointer none, .int .i64 0, .pointer none, .int .i64 0, .pointer none, .int .i64 0, .pointer none, .int .i64 0, .pointer none, .int .i64 0, .pointer none, .int .i64 0, .pointer none, .int .i64 0, .pointer none, .int .i64 0, .pointer none, .int .i64 0, .pointer none, .int .i64 0, .pointer none, .int .i64 0, .pointer none, .int .i64 0, .pointer none, .int .i64 0, .pointer none, .int .i64 0, .pointer none, .int .i64 0, .pointer none, .int .i64 0, .pointer none, .int .i64 0, .pointer none, .int .i64 0, .pointer none, .int .i64 0, .pointer none, .int .i64 0, .pointer none, .int .i64 0] 132)) (.cells #[.pointer none, .int .i64 0, .pointer none, .int .i64 0, .pointer none, .int .i64 0, .pointer none, .int .i64 0, .pointer none, .int .i64 0, .pointer none, .int .i64 0, .pointer none, .int .i64 0, .pointer none, .int .i64 0, .pointer none, .int .i64 0, .pointer none, .int .i64 0, .pointer none, .int .i64 0, .pointer none, .int .i64 0, .pointer none, .int .i64 0, .pointer none, .int .i64 0, .pointer none, .int .i64 0, .pointer none, .int .i64 0, .pointer none, .int .i64 0, .pointer none, .int .i64 0, .pointer none, .int .i64 0, .pointer none, .int .i64 0, .pointer none, .int .i64 0, .pointer none, .int .i64 0, .pointer none, .int .i64 0, .pointer none, .int .i64 0] 132)
    simpa using this
  have HSK : Hid (Sk w g S C n (lnk S.hb S.T) pv) := h
  have HB0 : Hid (Below w.heap.size w W0) := hb0
  have h0 := h.below hb0
  have c2 : W0.cell? ⟨g, 2, none⟩ = some (.pointer (some ⟨S.hb, 0, none⟩)) := by rw [h0.brd.cell]; rfl
  obtain ⟨P, kk, hf⟩ := h.hrow.form
  have c3 : W0.cell? ⟨S.hb, 3, none⟩ = some (.slice P S.H kk) := by rw [h0.head.cell]; exact congrArg some hf
  have hg1 : g < A := by rw [hA]; exact h0.brd.lt
  have hg2 : S.hb < A := by rw [hA]; exact h0.head.lt
  have HT : Hid (Tst w S.hb S.T k F fv) := ht
  have HRA : Hid (R < A ∧ Q < A ∧ w.heap.size ≤ R ∧ w.heap.size ≤ Q ∧ w.heap.size ≤ A ∧ R ≠ Q) := ⟨by omega, by omega, by omega, by omega, by omega, by omega⟩
  have HEF : Hid _ := eF
  clear h h0 hb0 hf ht eF
  go_enter Tryd.func88, Tryd.ntmps88
  go_upto_region 2 with fail
  rw [← hW0]
  clear hW0
  rw [← hQ, ← hR]
  rw [hA] at hg1 hg2
  clear hQ hR hsz
  go_wp2
  rw [← hA]
  have HA : Hid (A = W0.heap.size) := hA
  clear hA c2 c3 hg1 hg2
  go_loopw [7] (fun cl wr => ∃ lv : Nat, lv ≤ S.H ∧ cl = .int .i64 ((lv : Int) - 1) ∧ Below w.heap.size w wr ∧ Blk wr R (flat2 (fun _ => (none, 0)) 24) 132 ∧ (∃ d, Blk wr Q (flat2 d 24) 132 ∧ Wy S k lv d) ∧ ∃ p, Blk wr A [ptr (pAt S.hb S.T p), .int .i64 (p : Int)] 130 ∧ p ≤ k ∧ (lv = 0 ∨ Stand (hts S.T) (lv - 1) p)) (fun cl _ => (intOf cl + 1).toNat)
  case atStart =>
    refine ⟨S.H, Nat.le_refl _, rfl, ?_, ?_, ⟨_, ?_, Wy.start S k⟩, 0, ?_, Nat.zero_le _, Or.inr (Or.inl rfl)⟩
    · exact HB0.out.alloc HB0.out.size _
    · exact HR0.out.to (heap_alloc_old _ _ HR0.out.lt)
    · exact HQ0.out.to (heap_alloc_old _ _ HQ0.out.lt)
    · rw [HA.out]; exact heap_alloc_new _ _
  case round =>
    obtain ⟨lv, hlv, rfl, hb, hr, ⟨d, hq, hw⟩, p, ha, hpk, hst⟩ := hrel
    have HB : Hid (Below w.heap.size w wr) := hb
    have HR : Hid (Blk wr R (flat2 (fun _ => (none, 0)) 24) 132) := hr
    have HQ : Hid (Blk wr Q (flat2 d 24) 132) := hq
    have HAT : Hid (Blk wr A [ptr (pAt S.hb S.T p), .int .i64 (p : Int)] 130) := ha
    have HW : Hid (Wy S k lv d) := hw
    clear hb hr hq ha hw
    rcases lv with _ | l
    · clear hst
      go_wp2_with (first | (refine wpList_load_row rfl 132 _ rfl Q rfl _ _ _ _ HQ.out Tryd.underlying132 rfl (infoW d) ?_) | (refine wpList_store_row rfl 132 _ _ rfl R _ rfl rfl _ _ HR.out (infoW d) (sizeW _ d) (oneW d) ?_))
      refine ⟨rfl, _, results_cell_row (p := 4) (ty := 132) rfl _ _ R _ _ _ _ rfl (setRow_heap _ _ _ _ _ _ HR.out) Tryd.underlying132 rfl (infoW d), ?_⟩
      exact ⟨d, rfl, HW.out, HB.out.trans ⟨rfl, rfl, rfl, by rw [setRow_size]; exact Nat.le_refl _, fun q hq => setRow_other _ _ _ _ (by have := HRA.out; omega)⟩⟩
    · have hst : Stand (hts S.T) l p := by
        rcases hst with h | h
        · omega
        · exact h
      rw [show ((l + 1 : Nat) : Int) - 1 = (l : Int) by omega]
      have HST : Hid (Stand (hts S.T) l p) := hst
      have hl0 : (0 : Int) ≤ (l : Int) := by omega
      clear hst
      go_wp2
      go_loopw [8] (fun _ wi => Below w.heap.size w wi ∧ Blk wi R (flat2 (fun _ => (none, 0)) 24) 132 ∧ Blk wi Q (flat2 d 24) 132 ∧ ∃ p, Blk wi A [ptr (pAt S.hb S.T p), .int .i64 (p : Int)] 130 ∧ p ≤ k ∧ Stand (hts S.T) l p) (fun _ wi => k - placeOf wi A)
      case atStart => exact ⟨HB.out, HR.out, HQ.out, p, HAT.out, hpk, HST.out⟩
      case round =>
        obtain ⟨hb, hr, hq, p, ha, hpk, hst⟩ := hrel
        rename World => wi
        have hsk := HSK.out.below hb
        obtain ⟨b, hpb, t3⟩ := hsk.towAt (p := p) (by omega)
        obtain ⟨K, kc, hv, k0, k1, kf⟩ := (hsk.rowAt (p := p) (by omega)).at (hgA_stand hst (show l < S.H by omega))
        rw [hv] at t3
        have a0 : wi.cell? ⟨A, 0, none⟩ = some (.pointer (some ⟨b, 0, none⟩)) := by rw [ha.cell, hpb]; rfl
        have a1 : wi.cell? ⟨A, 1, none⟩ = some (.int .i64 (p : Int)) := by rw [ha.cell]; rfl
        have hx := nx_is (hs := hts S.T) (l := l) (p := p) (by rw [hts_len]; omega)
        have hx1 := hx.lt
        have hx2 := hx.le
        rw [hts_len] at hx2
        have HX : Hid (IsNxt (hts S.T) l p (nx (hts S.T) l p)) := hx
        have HBi : Hid (Below w.heap.size w wi) := hb
        have HRi : Hid (Blk wi R (flat2 (fun _ => (none, 0)) 24) 132) := hr
        have HQi : Hid (Blk wi Q (flat2 d 24) 132) := hq
        have HAi : Hid (Blk wi A [ptr (pAt S.hb S.T p), .int .i64 (p : Int)] 130) := ha
        have HSi : Hid (Stand (hts S.T) l p) := hst
        have hAl : A < wi.heap.size := ha.lt
        have hbl : b < wi.heap.size := lt_of_cell t3
        have hKl : K < wi.heap.size := lt_of_cell k0
        have HPO : Hid (placeOf wi A = p) := by
          show _ = _
          unfold placeOf; rw [a1]; rfl
        obtain ⟨q, hq1⟩ : ∃ q, nx (hts S.T) l p = q := ⟨_, rfl⟩
        unfold lnk at k0 k1
        simp only at k0 k1
        rw [hq1] at k0 k1 hx1 hx2 HX
        obtain ⟨o, ho⟩ : ∃ o, q - p = o := ⟨_, rfl⟩
        rw [ho] at k1
        have hlH : (l : Int) < (hgA S p : Int) := by have := hgA_stand hst (show l < S.H by omega); omega
        generalize hgA S p = hh at *
        have HPB : Hid (pAt S.hb S.T p = some b) := hpb
        clear hsk hb hr hq ha hst hx hv hpb hq1
        by_cases hqn : q ≤ S.T.length
        · obtain ⟨q', rfl⟩ : ∃ q', q = q' + 1 := ⟨q - 1, by omega⟩
          have hT : pAt S.hb S.T (q' + 1) = some S.T[q'].b := by
            show (S.T[q']?).map Tw.b = _
            rw [List.getElem?_eq_getElem hqn]; rfl
          rw [hT] at k0
          have hT2 := HT.out q' hqn
          rw [show ((q' + 1 : Nat) : Int) = (p : Int) + (o : Int) by omega] at hT2
          have HPT : Hid (pAt S.hb S.T (q' + 1) = some S.T[q'].b) := hT
          generalize S.T[q'].b = bq at *
          have k0' : wi.cell? ⟨K, l * 2, none⟩ = some (.pointer (some ⟨bq, 0, none⟩)) := k0
          clear k0 hT
          by_cases hqk : q' < k
          · rw [dec_t hqk] at hT2
            have HC : Hid _ := hT2
            clear hT2
            have HNW : Hid (Blk (wi.alloc (.cells #[.pointer (some ⟨bq, 0, none⟩), .int .i64 (o : Int)] 151)) wi.heap.size [.pointer (some ⟨bq, 0, none⟩), .int .i64 (o : Int)] 151) := heap_alloc_new _ _
            have HBw : Hid (Below w.heap.size w (wi.alloc (.cells #[.pointer (some ⟨bq, 0, none⟩), .int .i64 (o : Int)] 151))) := HBi.out.alloc HBi.out.size _
            have HBj : Hid (Below wi.heap.size wi (wi.alloc (.cells #[.pointer (some ⟨bq, 0, none⟩), .int .i64 (o : Int)] 151))) := (Below.refl _ _).alloc (Nat.le_refl _) _
            go_wp2_with fail
            generalize (wi.alloc (.cells #[.pointer (some ⟨bq, 0, none⟩), .int .i64 (o : Int)] 151)) = w1 at *
            rw [HEF.out, Oper.upon_enter]
            refine (show Calls _ _ _ _ _ from HC.out _ HBw.out).mono ?_
            rintro e w2 ⟨rfl, hb2⟩
            have HB2 : Hid (Below w.heap.size w w2) := bel_to HBw.out hb2 (Nat.le_refl _)
            have hb3 : Below wi.heap.size wi w2 := bel_to HBj.out hb2 (Nat.le_refl _)
            have HRj : Hid (Blk w2 R (flat2 (fun _ => (none, 0)) 24) 132) := cells_below HRi.out hb3
            have HQj : Hid (Blk w2 Q (flat2 d 24) 132) := cells_below HQi.out hb3
            have haj := cells_below HAi.out hb3
            have hlj := cells_below HNW.out hb2
            obtain ⟨Lb, hLb⟩ : ∃ Lb, wi.heap.size = Lb := ⟨_, rfl⟩
            rw [hLb] at hlj ⊢
            have l0 : w2.cell? ⟨Lb, 0, none⟩ = some (.pointer (some ⟨bq, 0, none⟩)) := by rw [hlj.cell]; rfl
            have l1 : w2.cell? ⟨Lb, 1, none⟩ = some (.int .i64 (o : Int)) := by rw [hlj.cell]; rfl
            have a0' : w2.cell? ⟨A, 0, none⟩ = some (ptr (pAt S.hb S.T p)) := by rw [haj.cell]; rfl
            have a1' : w2.cell? ⟨A, 1, none⟩ = some (.int .i64 (p : Int)) := by rw [haj.cell]; rfl
            have af0 : w2.frozen? ⟨A, 0, none⟩ = false := haj.frozen 0
            have af1 : w2.frozen? ⟨A, 1, none⟩ = false := haj.frozen 1
            have HAj : Hid (Blk w2 A [ptr (pAt S.hb S.T p), .int .i64 (p : Int)] 130) := haj
            clear hb2 hb3 haj hlj hLb a0 a1 k0' k1 t3 kf hAl hbl hKl
            go_wp2
            go_roundw
            case rel =>
              have hra := HRA.out
              have ho3 := ((Only.refl w2 A).set 0 (.pointer (some ⟨bq, 0, none⟩))).set 1 (.int .i64 ((p : Int) + (o : Int)))
              refine ⟨HB2.out.trans (ho3.below hra.2.2.2.2.1), HRj.out.to (ho3.other R (by omega)), HQj.out.to (ho3.other Q (by omega)), q' + 1, ?_, hqk, HX.out.at_ (by rw [hts_len]; exact hqn)⟩
              have h1 := (HAj.out.set 0 (.pointer (some ⟨bq, 0, none⟩))).set 1 (.int .i64 ((p : Int) + (o : Int)))
              rw [show (p : Int) + (o : Int) = ((q' + 1 : Nat) : Int) by omega] at h1 ⊢
              rw [HPT.out]; exact h1
            case measure =>
              have h1 := (HAj.out.set 0 (.pointer (some ⟨bq, 0, none⟩))).set 1 (.int .i64 ((p : Int) + (o : Int)))
              have h2 : placeOf ((w2.setCell ⟨A, 0, none⟩ (.pointer (some ⟨bq, 0, none⟩))).setCell ⟨A, 1, none⟩ (.int .i64 ((p : Int) + (o : Int)))) A = q' + 1 := by
                unfold placeOf
                rw [h1.cell]
                simp [intOf]; omega
              rw [h2, HPO.out]; omega
          · rw [dec_f hqk] at hT2
            have HC : Hid _ := hT2
            clear hT2
            have HNW : Hid (Blk (wi.alloc (.cells #[.pointer (some ⟨bq, 0, none⟩), .int .i64 (o : Int)] 151)) wi.heap.size [.pointer (some ⟨bq, 0, none⟩), .int .i64 (o : Int)] 151) := heap_alloc_new _ _
            have HBw : Hid (Below w.heap.size w (wi.alloc (.cells #[.pointer (some ⟨bq, 0, none⟩), .int .i64 (o : Int)] 151))) := HBi.out.alloc HBi.out.size _
            have HBj : Hid (Below wi.heap.size wi (wi.alloc (.cells #[.pointer (some ⟨bq, 0, none⟩), .int .i64 (o : Int)] 151))) := (Below.refl _ _).alloc (Nat.le_refl _) _
            have HPV : Hid (IsPrv (hts S.T) l k p) := HX.out.stop HSi.out hpk (by omega)
            go_wp2_with fail
            generalize (wi.alloc (.cells #[.pointer (some ⟨bq, 0, none⟩), .int .i64 (o : Int)] 151)) = w1 at *
            rw [HEF.out, Oper.upon_enter]
            refine (show Calls _ _ _ _ _ from HC.out _ HBw.out).mono ?_
            rintro e w2 ⟨rfl, hb2⟩
            have HB2 : Hid (Below w.heap.size w w2) := bel_to HBw.out hb2 (Nat.le_refl _)
            have hb3 : Below wi.heap.size wi w2 := bel_to HBj.out hb2 (Nat.le_refl _)
            have HRj : Hid (Blk w2 R (flat2 (fun _ => (none, 0)) 24) 132) := cells_below HRi.out hb3
            have hqj := cells_below HQi.out hb3
            have haj := cells_below HAi.out hb3
            obtain ⟨d0, d1⟩ := flat2_get d 24 l (by omega)
            have q0 : w2.cell? ⟨Q, l * 2, none⟩ = some (ptr (d l).1) := by rw [hqj.cell]; exact d0
            have q1 : w2.cell? ⟨Q, l * 2 + 1, none⟩ = some (.int .i64 ((d l).2 : Nat)) := by rw [hqj.cell]; exact d1
            have qf0 : w2.frozen? ⟨Q, l * 2, none⟩ = false := hqj.frozen _
            have qf1 : w2.frozen? ⟨Q, l * 2 + 1, none⟩ = false := hqj.frozen _
            have a0' : w2.cell? ⟨A, 0, none⟩ = some (ptr (pAt S.hb S.T p)) := by rw [haj.cell]; rfl
            have a1' : w2.cell? ⟨A, 1, none⟩ = some (.int .i64 (p : Int)) := by rw [haj.cell]; rfl
            have HQj : Hid (Blk w2 Q (flat2 d 24) 132) := hqj
            have HAj : Hid (Blk w2 A [ptr (pAt S.hb S.T p), .int .i64 (p : Int)] 130) := haj
            have hl24 : (l : Int) < 24 := by omega
            clear hb2 hb3 haj hqj d0 d1 a0 a1 k0' k1 t3 kf hAl hbl hKl
            generalize (ptr (d l).1) = X0 at *
            generalize (Value.int .i64 ((d l).2 : Nat)) = X1 at *
            obtain ⟨pp, hpp⟩ : ∃ pp : Option Addr, ptr (pAt S.hb S.T p) = .pointer pp := ⟨_, rfl⟩
            rw [hpp] at a0'
            have HPP : Hid _ := hpp
            clear hpp
            go_wp2
            go_roundw
            case rel =>
              have hra := HRA.out
              have ho3 := ((Only.refl w2 Q).set (l * 2) (.pointer pp)).set (l * 2 + 1) (.int .i64 (p : Int))
              refine ⟨l, by omega, rfl, HB2.out.trans (ho3.below hra.2.2.2.1), HRj.out.to (ho3.other R (by omega)), ⟨_, ?_, HW.out.step (by omega) HPV.out⟩, p, HAj.out.to (ho3.other A (by omega)), hpk, ?_⟩
              · have h1 := (HQj.out.set (l * 2) (.pointer pp)).set (l * 2 + 1) (.int .i64 ((p : Nat) : Int))
                rw [← HPP.out, flat2_set0, flat2_set1, updL_twice, updL_self] at h1
                rw [← HPP.out]; exact h1
              · rcases l with _ | l
                · exact Or.inl rfl
                · exact Or.inr (HPV.out.at_.down (by omega))
            case measure => first | (simp [intOf]; done) | (simp [intOf]; omega)
        · have k0' : wi.cell? ⟨K, l * 2, none⟩ = some (.pointer none) := by
            rw [k0]
            have : pAt S.hb S.T q = none := by
              obtain ⟨q', rfl⟩ : ∃ q', q = q' + 1 := ⟨q - 1, by omega⟩
              show (S.T[q']?).map Tw.b = none
              rw [List.getElem?_eq_none (by omega)]; rfl
            rw [this]; rfl
          clear k0
          have HBw : Hid (Below w.heap.size w (wi.alloc (.cells #[.pointer none, .int .i64 (o : Int)] 151))) := HBi.out.alloc HBi.out.size _
          have HBj : Hid (Below wi.heap.size wi (wi.alloc (.cells #[.pointer none, .int .i64 (o : Int)] 151))) := (Below.refl _ _).alloc (Nat.le_refl _) _
          have HPV : Hid (IsPrv (hts S.T) l k p) := HX.out.stop HSi.out hpk (by omega)
          obtain ⟨d0, d1⟩ := flat2_get d 24 l (by omega)
          have q0 : wi.cell? ⟨Q, l * 2, none⟩ = some (ptr (d l).1) := by rw [HQi.out.cell]; exact d0
          have q1 : wi.cell? ⟨Q, l * 2 + 1, none⟩ = some (.int .i64 ((d l).2 : Nat)) := by rw [HQi.out.cell]; exact d1
          have qf0 : wi.frozen? ⟨Q, l * 2, none⟩ = false := HQi.out.frozen _
          have qf1 : wi.frozen? ⟨Q, l * 2 + 1, none⟩ = false := HQi.out.frozen _
          have hQl : Q < wi.heap.size := HQi.out.lt
          have hl24 : (l : Int) < 24 := by omega
          clear d0 d1 kf
          generalize (ptr (d l).1) = X0 at *
          generalize (Value.int .i64 ((d l).2 : Nat)) = X1 at *
          go_wp2
          go_roundw
          case rel =>
            have hra := HRA.out
            have ho3 := ((Only.refl wi Q).set (l * 2) (.pointer (some ⟨b, 0, none⟩))).set (l * 2 + 1) (.int .i64 (p : Int))
            have hba := (Below.refl ((wi.setCell ⟨Q, l * 2, none⟩ (.pointer (some ⟨b, 0, none⟩))).setCell ⟨Q, l * 2 + 1, none⟩ (.int .i64 (p : Int))).heap.size ((wi.setCell ⟨Q, l * 2, none⟩ (.pointer (some ⟨b, 0, none⟩))).setCell ⟨Q, l * 2 + 1, none⟩ (.int .i64 (p : Int)))).alloc (Nat.le_refl _) (.cells #[.pointer none, .int .i64 (o : Int)] 151)
            have h0 := HBi.out.trans (ho3.below hra.2.2.2.1)
            refine ⟨l, by omega, rfl, h0.trans (hba.mono h0.size), cells_below (HRi.out.to (ho3.other R (by omega))) hba, ⟨_, cells_below ?_ hba, HW.out.step (by omega) HPV.out⟩, p, cells_below (HAi.out.to (ho3.other A (by omega))) hba, hpk, ?_⟩
            · have h1 := (HQi.out.set (l * 2) (ptr (some b))).set (l * 2 + 1) (.int .i64 ((p : Nat) : Int))
              rw [flat2_set0, flat2_set1, updL_twice, updL_self] at h1
              rw [HPB.out]; exact h1
            · rcases l with _ | l
              · exact Or.inl rfl
              · exact Or.inr (HPV.out.at_.down (by omega))
          case measure => first | (simp [intOf]; done) | (simp [intOf]; omega)
end Go.Proofs.YtgbplghokciimaaDoor.S
