import Derived.Test.YtlheilkofibogaaGreatQBL
import Derived.Deep.RegionHeld3
namespace Go.Proofs.YtlheilkofibogaaGreat
open Go.RowKit Go.Maps
set_option linter.unusedVariables false
set_option linter.unusedSimpArgs false
set_option maxHeartbeats 16000000 in
set_option maxRecDepth 100000 in
theorem Apart_walk (ad : Option Addr) (G off len cap : Nat) (ad2 : Option Addr) (G2 off2 len2 cap2 : Nat) (w : World) (hA : len ≠ 0 → ad = some ⟨G, off, none⟩) (hL : len ≤ 1466015503700) (hO : ∀ i, i < len → ∃ o pv, OpA w.heap.size w G (off + i * 7) o pv) (hA2 : len2 ≠ 0 → ad2 = some ⟨G2, off2, none⟩) (hL2 : len2 ≤ 1466015503700) (hO2 : ∀ i, i < len2 → ∃ o pv, OpA w.heap.size w G2 (off2 + i * 7) o pv) :
    Calls Tryz.prog 4 #[.slice ad len cap, .slice ad2 len2 cap2] w fun e w' => e = .returned (.bool true) ∧ Below w.heap.size w w' := by
  obtain ⟨os, hos⟩ := ops_fun (P := fun i o => ∃ pv, OpA w.heap.size w G2 (off2 + i * 7) o pv) hO2
  have HNW : Hid _ := NewW_any w
  have HWK : Hid (∀ W, Calls Tryz.prog 7 #[] W fun e w' => e = .returned (.bool true) ∧ Below W.heap.size W w') := works_any
  have HO : Hid _ := hO
  have HA : Hid _ := hA
  have HL : Hid (len ≤ 1466015503700) := hL
  have HO2 : Hid _ := hos
  have HA2 : Hid _ := hA2
  have HL2 : Hid (len2 ≤ 1466015503700) := hL2
  obtain ⟨Z, hZ⟩ : ∃ Z, Z = zF := ⟨_, rfl⟩
  have HZZ : Hid (Z = zF) := hZ
  have HZS : Hid (Z.size = 9) := by show _ = _; rw [hZ]; rfl
  clear hO hA hZ hO2 hA2 hos
  go_enter Tryz.func4, Tryz.ntmps4
  go_wp2_with fail
  refine (show Calls _ _ _ _ _ from HNW.out).mono ?_
  rintro e w1 ⟨g, X, rfl, hk⟩
  have H1 : Hid (St w w1 g X newM 0) := St.new hk
  clear hk HNW
  have HRN : Hid (Calls Tryz.prog 6 #[] w1 fun e w' => e = .returned (.agg (fsC newM nilV)) ∧ Below w1.heap.size w1 w') := new_any w1
  go_wp2_with fail
  refine (show Calls _ _ _ _ _ from HRN.out).mono ?_
  rintro e w2 ⟨rfl, hb2⟩
  have H2 : Hid (St w w2 g X newM 0) := H1.out.on hb2
  clear hb2 H1 HRN
  obtain ⟨r, hr⟩ : ∃ r, w2.heap.size = r := ⟨_, rfl⟩
  have HR : Hid (w2.heap.size = r) := hr
  go_upto_region 3 with (first
    | (refine alF rfl rfl Z HZZ.out ?_)
    | (refine stF rfl _ _ rfl w2.heap.size (fsC newM nilV) Z rfl rfl rfl (fsC_one (newAt w2)) HZS.out (one_alloc _ _) ?_; intro w3 hr3 hm3))
  have hb3 : Below w2.heap.size w2 w3 := ((Below.refl _ w2).alloc (Nat.le_refl _) _).trans (hm3.below (Nat.le_refl _) (by simp [World.size_alloc]))
  have H3 : Hid (Pl w w3 g X newM 0 newM nilV r) := Pl.new (H2.out.on hb3) (by rw [← HR.out]; exact hr3) (by rw [← HR.out]; exact H2.out.bel.size)
  rw [hr]
  clear hb3 H2 hr3 hm3 hr HR
  go_wp2_with fail
  refine (show Calls _ _ _ _ _ from HWK.out _).mono ?_
  rintro e w4 ⟨rfl, hb4⟩
  have H4 : Hid (Pl w w4 g X newM 0 newM nilV r) := H3.out.on hb4
  clear hb4 H3 HWK
  go_wp2
  go_loopw [7] (fun ci wr => ∃ (i : Nat) (F : Fs) (X : Gh) (V : FV), i ≤ len ∧ ci = .int .i64 (i : Int) ∧ Pl w wr g X F i F V r) (fun ci _ => len - (intOf ci).toNat)
  case atStart => exact ⟨0, newM, X, nilV, Nat.zero_le _, rfl, H4.out⟩
  case round =>
    obtain ⟨i, F, X, V, hi, rfl, hpl⟩ := hrel
    have HPL : Hid (Pl w wr g X F i F V r) := hpl
    clear hpl H4
    by_cases hlt : i < len
    · have had := HA.out (by omega)
      subst had
      obtain ⟨o, pv, hop⟩ := HO.out i hlt
      have HOP0 : Hid (OpA w.heap.size w G (off + i * 7) o pv) := hop
      have HOP : Hid (OpA w.heap.size wr G (off + i * 7) o pv) := hop.on HPL.out.dv.st.bel
      obtain ⟨C, hC⟩ : ∃ C, C = opArr o pv := ⟨_, rfl⟩
      have HC : Hid (C = opArr o pv) := hC
      have HCS : Hid (C.size = 7) := by show _ = _; rw [hC]; rfl
      have hz3 : (0 : Int) ≤ (i : Int) := by omega
      have hz4 : (i : Int) < (len : Int) := by omega
      have HLT : Hid (i < len) := hlt
      have HOK : Hid (PoOk o) := hop.ok
      have HIW : Hid (IntKind.i64.wrap ((i : Int) + 1) = (i : Int) + 1) := by have := HL.out; show _ = _; rw [IntKind.wrap_i64] <;> omega
      obtain ⟨F', rr, hdm⟩ : ∃ F' rr, doneM F o = (F', rr) := ⟨_, _, rfl⟩
      have HDM : Hid (doneM F o = (F', rr)) := hdm
      have HBD : Hid (Bd F) := bd_of HPL.out.dv.st HPL.out.iv (by have := HL.out; omega)
      have HFD : Hid (∀ n, findM F.dir n < (F.files.length : Int)) := fun n => find_lt HPL.out.dv.st n
      have HFA : Hid (F.fails.length ≤ 8796093022000) := by have := HPL.out.iv.fl; have := HL.out; show _ ≤ _; omega
      have HQ : Hid (Calls Tryz.prog 10 #[.pointer (some ⟨g, 0, none⟩), .agg C] wr fun e w' => e = .returned (.int .i64 rr) ∧ ∃ X', Pl w w' g X' F' (i + 1) F V r ∧ Below w.heap.size w w') := by
        have := done_pl HPL.out (by have := HL.out; omega) HC.out HOK.out (HOP.out.pks HPL.out.dv.st.own)
        rw [hdm] at this
        exact this
      clear hop hC hdm hi hlt
      go_wp2_with (first
        | (refine ldO C w.heap.size G (off + i * 7) o pv _ rfl rfl rfl HOP.out HC.out ?_))
      refine (show Calls _ _ _ _ _ from HQ.out).mono ?_
      rintro e wt ⟨rfl, X2, hp2, hbt⟩
      have HST : Hid (Pl w wt g X2 F' (i + 1) F V r) := hp2
      have HOPt : Hid (OpA w.heap.size wt G (off + i * 7) o pv) := HOP0.out.on hbt
      clear hp2 hbt HQ HPL HOP HOP0
      go_wp2_with fail
      have hcur : Below wt.heap.size wt wt.drew := (Below.refl _ wt).drew
      have HSd : Hid (Pl w wt.drew g X2 F' (i + 1) F V r) := HST.out.on hcur
      obtain ⟨C0, hC0⟩ : ∃ C0, C0 = fsC F V := ⟨_, rfl⟩
      have HC0S : Hid (C0.size = 9) := by show _ = _; rw [hC0]; rfl
      have HROd : Hid (wt.drew.heap[r]? = some (.cells C0 31)) := by show _ = _; rw [hC0]; exact HSd.out.ro
      have HMT : Hid (∀ W', Below wt.drew.heap.size wt.drew W' → Calls Tryz.prog 11 #[.agg C0, .agg C] W' fun e w' => ∃ V' C1, C1 = fsC F' V' ∧ e = .returned (.tuple #[.agg C1, .int .i64 rr]) ∧ Made F V W' F' V' w') := meant_pl HBD.out HFD.out HFA.out HSd.out.dv.dc HDM.out HC.out hC0 (HOPt.out.on (hcur.mono HST.out.dv.st.bel.size))
      have HKEEP : Hid (∀ W', Below wt.drew.heap.size wt.drew W' → W'.rangeAt r 0 C0.toList ∧ W'.rangeAt G (off + i * 7) C.toList) := fun W' hb => ⟨range_row (keep_row HROd.out hb), ((HOPt.out.on (hcur.mono HST.out.dv.st.bel.size)).on (hb.mono HSd.out.dv.st.bel.size)).range HC.out⟩
      obtain ⟨B0, hB0⟩ : ∃ B0, wt.drew.heap.size = B0 := ⟨_, rfl⟩
      have HB0 : Hid (wt.drew.heap.size = B0) := hB0
      clear hcur hC0 hB0
      refine wp_region_held_drew (S := fun W : World => W.rangeAt r 0 C0.toList ∧ W.rangeAt G (off + i * 7) C.toList) (by kernel_rfl) (HKEEP.out _ (Below.refl _ _)) (fun hHeld => ?_)
      refine wpAnyH_take (i := 0) (oi := { dst := some 43, op := Op.load 31 (Operand.tmp 6), type := 31, pos := "law.go:304", after := #[], guard := none }) (v := .agg C0) rfl (by kernel_rfl) (by kernel_rfl) (by kernel_rfl) (fun _ _ _ h => h) (ylF C0 r _ rfl rfl (fun _ h => h.1) HC0S.out) (by assumption) ?_
      try simp only [Act.put, List.setIfInBounds_toArray, List.set_cons_zero, List.set_cons_succ]
      refine wpAnyH_take (i := 1) (oi := { dst := some 44, op := Op.move (Operand.tmp 0), type := 22, pos := "law.go:304", after := #[], guard := none }) (v := .slice (some ⟨G, off, none⟩) len cap) rfl (by kernel_rfl) (by kernel_rfl) (by kernel_rfl) (fun _ _ _ h => h) (Or.inl ⟨by rfl, ?y1⟩) (by assumption) ?_
      case y1 => (intro w hSw; (try dsimp only at hSw); first | (go_simp; done) | (go_simp; with_reducible rfl) | (go_simp; rfl))
      try simp only [Act.put, List.setIfInBounds_toArray, List.set_cons_zero, List.set_cons_succ]
      refine wpAnyH_take (i := 2) (oi := { dst := some 45, op := Op.move (Operand.tmp 7), type := 3, pos := "law.go:304", after := #[], guard := none }) (v := .int .i64 (i : Int)) rfl (by kernel_rfl) (by kernel_rfl) (by kernel_rfl) (fun _ _ _ h => h) (Or.inl ⟨by rfl, ?y2⟩) (by assumption) ?_
      case y2 => (intro w hSw; (try dsimp only at hSw); first | (go_simp; done) | (go_simp; with_reducible rfl) | (go_simp; rfl))
      try simp only [Act.put, List.setIfInBounds_toArray, List.set_cons_zero, List.set_cons_succ]
      refine wpAnyH_take (i := 3) (oi := { dst := some 46, op := Op.indexAddr 22 (Operand.tmp 44) (Operand.tmp 45), type := 0, pos := "law.go:304", after := #[{ on := 1, ground := Ground.data }, { on := 2, ground := Ground.data }], guard := none }) (v := .pointer (some ⟨G, off + i * 7, none⟩)) rfl (by kernel_rfl) (by kernel_rfl) (by kernel_rfl) (fun _ _ _ h => h) (Or.inl ⟨by rfl, ?y3⟩) (by assumption) ?_
      case y3 => (intro w hSw; (try dsimp only at hSw); first | (go_simp; done) | (go_simp; with_reducible rfl) | (go_simp; rfl))
      try simp only [Act.put, List.setIfInBounds_toArray, List.set_cons_zero, List.set_cons_succ]
      refine wpAnyH_take (i := 4) (oi := { dst := some 47, op := Op.load 36 (Operand.tmp 46), type := 36, pos := "law.go:304", after := #[{ on := 3, ground := Ground.data }], guard := none }) (v := .agg C) rfl (by kernel_rfl) (by kernel_rfl) (by kernel_rfl) (fun _ _ _ h => h) (ylO C G (off + i * 7) _ rfl rfl (fun _ h => h.2) HCS.out) (by assumption) ?_
      try simp only [Act.put, List.setIfInBounds_toArray, List.set_cons_zero, List.set_cons_succ]
      refine wpAnyH_ready (rs := [5, 9]) (by kernel_rfl) (by simp) ?_
      refine AllReadyH.cons (o := { dst := some 48, op := Op.call { callee := Callee.value (Operand.func 11), args := #[Operand.tmp 43, Operand.tmp 47], argTypes := #[31, 36] }, type := 39, pos := "law.go:304", after := #[{ on := 0, ground := Ground.data }, { on := 4, ground := Ground.data }], guard := none }) rfl (fun K hK => ?_) (AllReadyH.cons (o := { dst := some 8, op := Op.alloc 31, type := 0, pos := "law.go:304", after := #[], guard := none }) rfl (fun K hK => ?_) AllReadyH.nil)
      · first | (go_at_call 11; refine (show Calls _ _ _ _ _ from HMT.out _ (Below.refl _ _)).mono ?_; rintro e wu ⟨V', C1, hC1, rfl, hM⟩) | (go_simp; go_at_call 11; refine (show Calls _ _ _ _ _ from HMT.out _ (Below.refl _ _)).mono ?_; rintro e wu ⟨V', C1, hC1, rfl, hM⟩)
        refine hK.out _ _ (HKEEP.out _ (hM.bel)) (fun hHeld => ?_)
        clear hK K
        try simp only [Act.put, List.setIfInBounds_toArray, List.set_cons_zero, List.set_cons_succ]
        refine wpAnyH_take (i := 6) (oi := { dst := some 42, op := Op.move (Operand.tmp 48), type := 39, pos := "law.go:304", after := #[{ on := 5, ground := Ground.data }], guard := none }) (v := .tuple #[.agg C1, .int .i64 rr]) rfl (by kernel_rfl) (by kernel_rfl) (by kernel_rfl) (fun _ _ _ h => h) (Or.inl ⟨by rfl, ?y6⟩) (by assumption) ?_
        case y6 => (intro w hSw; (try dsimp only at hSw); first | (go_simp; done) | (go_simp; with_reducible rfl) | (go_simp; rfl))
        try simp only [Act.put, List.setIfInBounds_toArray, List.set_cons_zero, List.set_cons_succ]
        refine wpAnyH_take (i := 7) (oi := { dst := some 49, op := Op.extract (Operand.tmp 42) 0, type := 31, pos := "law.go:304", after := #[{ on := 6, ground := Ground.data }], guard := none }) (v := .agg C1) rfl (by kernel_rfl) (by kernel_rfl) (by kernel_rfl) (fun _ _ _ h => h) (Or.inl ⟨by rfl, ?y7⟩) (by assumption) ?_
        case y7 => (intro w hSw; (try dsimp only at hSw); first | (go_simp; done) | (go_simp; with_reducible rfl) | (go_simp; rfl))
        try simp only [Act.put, List.setIfInBounds_toArray, List.set_cons_zero, List.set_cons_succ]
        refine wpAnyH_take (i := 8) (oi := { dst := some 50, op := Op.extract (Operand.tmp 42) 1, type := 3, pos := "law.go:304", after := #[{ on := 6, ground := Ground.data }, { on := 10, ground := Ground.gcOnly Departure.lateStores }], guard := none }) (v := .int .i64 rr) rfl (by kernel_rfl) (by kernel_rfl) (by kernel_rfl) (fun _ _ _ h => h) (Or.inl ⟨by rfl, ?y8⟩) (by assumption) ?_
        case y8 => (intro w hSw; (try dsimp only at hSw); first | (go_simp; done) | (go_simp; with_reducible rfl) | (go_simp; rfl))
        try simp only [Act.put, List.setIfInBounds_toArray, List.set_cons_zero, List.set_cons_succ]
        refine wpAnyH_ready (rs := [9]) (by kernel_rfl) (by simp) ?_
        refine AllReadyH.cons (o := { dst := some 8, op := Op.alloc 31, type := 0, pos := "law.go:304", after := #[], guard := none }) rfl (fun K hK => ?_) AllReadyH.nil
        refine rdA Z (by rfl) rfl HZZ.out ?_
        refine hK.out _ _ (HKEEP.out _ (hM.bel.alloc (by have := hM.bel.size; omega) _)) (fun hHeld => ?_)
        clear hK K
        try simp only [Act.put, List.setIfInBounds_toArray, List.set_cons_zero, List.set_cons_succ]
        refine wpAnyH_ready (rs := [10]) (by kernel_rfl) (by simp) ?_
        refine AllReadyH.cons (o := { dst := none, op := Op.store 31 (Operand.tmp 8) (Operand.tmp 49), type := 0, pos := "law.go:304", after := #[{ on := 9, ground := Ground.data }, { on := 7, ground := Ground.data }, { on := 5, ground := Ground.chain }, { on := 0, ground := Ground.phase }, { on := 1, ground := Ground.phase }, { on := 2, ground := Ground.phase }, { on := 3, ground := Ground.phase }, { on := 4, ground := Ground.phase }, { on := 5, ground := Ground.phase }, { on := 6, ground := Ground.phase }, { on := 7, ground := Ground.phase }, { on := 8, ground := Ground.textOnly Departure.lateStores }, { on := 9, ground := Ground.phase }], guard := none }) rfl (fun K hK => ?_) AllReadyH.nil
        refine rdF wu.heap.size C1 Z _ _ (by rfl) rfl rfl rfl (by rw [hC1]; rfl) (by rw [hC1]; exact fsC_one hM.at_) HZS.out (one_alloc _ _) ?_; intro W6 hr6 hm6
        refine hK.out _ _ (HKEEP.out _ ((made_a hM hm6).bel)) (fun hHeld => ?_)
        clear hK K
        try simp only [Act.put, List.setIfInBounds_toArray, List.set_cons_zero, List.set_cons_succ]
        refine wpAnyH_take (i := 11) (oi := { dst := some 9, op := Op.assign (Operand.tmp 50), type := 3, pos := "law.go:304", after := #[{ on := 8, ground := Ground.data }, { on := 10, ground := Ground.chain }, { on := 0, ground := Ground.phase }, { on := 1, ground := Ground.phase }, { on := 2, ground := Ground.phase }, { on := 3, ground := Ground.phase }, { on := 4, ground := Ground.phase }, { on := 5, ground := Ground.phase }, { on := 6, ground := Ground.phase }, { on := 7, ground := Ground.phase }, { on := 8, ground := Ground.phase }, { on := 9, ground := Ground.phase }, { on := 10, ground := Ground.phase }], guard := none }) (v := .int .i64 rr) rfl (by kernel_rfl) (by kernel_rfl) (by kernel_rfl) (fun _ _ _ h => h) (Or.inl ⟨by rfl, ?y11⟩) (by assumption) ?_
        case y11 => (intro w hSw; (try dsimp only at hSw); first | (go_simp; done) | (go_simp; with_reducible rfl) | (go_simp; rfl))
        try simp only [Act.put, List.setIfInBounds_toArray, List.set_cons_zero, List.set_cons_succ]
        refine wpAnyH_done (by kernel_rfl) ?_ _
        rw [hC1] at hr6
        have HMv : Hid (Made F V wt.drew F' V' W6) := made_a hM hm6
        have HRV : Hid (W6.heap[wu.heap.size]? = some (.cells (fsC F' V') 31)) := hr6
        obtain ⟨N, hN⟩ : ∃ N, wu.heap.size = N := ⟨_, rfl⟩
        rw [hN] at HRV
        try rw [hN]
        have HRR : Hid (W6.heap[r]? = some (.cells (fsC F V) 31)) := keep_row HSd.out.ro HMv.out.bel
        clear hC1 hM hr6 hm6 hN HMT HKEEP HROd HC0S HB0
        go_upto_region 7 with (first
          | (refine ldF (fsC F' V') N _ rfl rfl rfl HRV.out rfl ?_)
          | (refine stF rfl _ _ rfl r (fsC F' V') (fsC F V) rfl rfl rfl (fsC_one HMv.out.at_) rfl HRR.out ?_; intro wx hrx hmx))
        have HSx := HSd.out.put HMv.out hmx.modP hrx
        clear hrx hmx HRR HRV HMv HSd HST HOPt
        have hiw := HIW.out
        go_wp2
        go_roundw
        case rel => exact ⟨i + 1, F', X2, V', HLT.out, rfl, HSx⟩
        case measure => simp [intOf]; omega
      · refine rdA Z (by rfl) rfl HZZ.out ?_
        refine hK.out _ _ (HKEEP.out _ ((Below.refl _ _).alloc (Nat.le_refl _) _)) (fun hHeld => ?_)
        clear hK K
        try simp only [Act.put, List.setIfInBounds_toArray, List.set_cons_zero, List.set_cons_succ]
        refine wpAnyH_ready (rs := [5]) (by kernel_rfl) (by simp) ?_
        refine AllReadyH.cons (o := { dst := some 48, op := Op.call { callee := Callee.value (Operand.func 11), args := #[Operand.tmp 43, Operand.tmp 47], argTypes := #[31, 36] }, type := 39, pos := "law.go:304", after := #[{ on := 0, ground := Ground.data }, { on := 4, ground := Ground.data }], guard := none }) rfl (fun K hK => ?_) AllReadyH.nil
        first | (go_at_call 11; refine (show Calls _ _ _ _ _ from HMT.out _ ((Below.refl _ _).alloc (Nat.le_refl _) _)).mono ?_; rintro e wu ⟨V', C1, hC1, rfl, hM⟩) | (go_simp; go_at_call 11; refine (show Calls _ _ _ _ _ from HMT.out _ ((Below.refl _ _).alloc (Nat.le_refl _) _)).mono ?_; rintro e wu ⟨V', C1, hC1, rfl, hM⟩)
        refine hK.out _ _ (HKEEP.out _ (((Below.refl _ _).alloc (Nat.le_refl _) _).trans (hM.bel.mono (by simp [World.size_alloc])))) (fun hHeld => ?_)
        clear hK K
        try simp only [Act.put, List.setIfInBounds_toArray, List.set_cons_zero, List.set_cons_succ]
        refine wpAnyH_take (i := 6) (oi := { dst := some 42, op := Op.move (Operand.tmp 48), type := 39, pos := "law.go:304", after := #[{ on := 5, ground := Ground.data }], guard := none }) (v := .tuple #[.agg C1, .int .i64 rr]) rfl (by kernel_rfl) (by kernel_rfl) (by kernel_rfl) (fun _ _ _ h => h) (Or.inl ⟨by rfl, ?y6⟩) (by assumption) ?_
        case y6 => (intro w hSw; (try dsimp only at hSw); first | (go_simp; done) | (go_simp; with_reducible rfl) | (go_simp; rfl))
        try simp only [Act.put, List.setIfInBounds_toArray, List.set_cons_zero, List.set_cons_succ]
        refine wpAnyH_take (i := 7) (oi := { dst := some 49, op := Op.extract (Operand.tmp 42) 0, type := 31, pos := "law.go:304", after := #[{ on := 6, ground := Ground.data }], guard := none }) (v := .agg C1) rfl (by kernel_rfl) (by kernel_rfl) (by kernel_rfl) (fun _ _ _ h => h) (Or.inl ⟨by rfl, ?y7⟩) (by assumption) ?_
        case y7 => (intro w hSw; (try dsimp only at hSw); first | (go_simp; done) | (go_simp; with_reducible rfl) | (go_simp; rfl))
        try simp only [Act.put, List.setIfInBounds_toArray, List.set_cons_zero, List.set_cons_succ]
        refine wpAnyH_take (i := 8) (oi := { dst := some 50, op := Op.extract (Operand.tmp 42) 1, type := 3, pos := "law.go:304", after := #[{ on := 6, ground := Ground.data }, { on := 10, ground := Ground.gcOnly Departure.lateStores }], guard := none }) (v := .int .i64 rr) rfl (by kernel_rfl) (by kernel_rfl) (by kernel_rfl) (fun _ _ _ h => h) (Or.inl ⟨by rfl, ?y8⟩) (by assumption) ?_
        case y8 => (intro w hSw; (try dsimp only at hSw); first | (go_simp; done) | (go_simp; with_reducible rfl) | (go_simp; rfl))
        try simp only [Act.put, List.setIfInBounds_toArray, List.set_cons_zero, List.set_cons_succ]
        refine wpAnyH_ready (rs := [10]) (by kernel_rfl) (by simp) ?_
        refine AllReadyH.cons (o := { dst := none, op := Op.store 31 (Operand.tmp 8) (Operand.tmp 49), type := 0, pos := "law.go:304", after := #[{ on := 9, ground := Ground.data }, { on := 7, ground := Ground.data }, { on := 5, ground := Ground.chain }, { on := 0, ground := Ground.phase }, { on := 1, ground := Ground.phase }, { on := 2, ground := Ground.phase }, { on := 3, ground := Ground.phase }, { on := 4, ground := Ground.phase }, { on := 5, ground := Ground.phase }, { on := 6, ground := Ground.phase }, { on := 7, ground := Ground.phase }, { on := 8, ground := Ground.textOnly Departure.lateStores }, { on := 9, ground := Ground.phase }], guard := none }) rfl (fun K hK => ?_) AllReadyH.nil
        refine rdF wt.drew.heap.size C1 Z _ _ (by rfl) rfl rfl rfl (by rw [hC1]; rfl) (by rw [hC1]; exact fsC_one hM.at_) HZS.out (keep_row (one_alloc _ _) hM.bel) ?_; intro W6 hr6 hm6
        refine hK.out _ _ (HKEEP.out _ ((made_b HSd.out.dv.dc hM hm6).bel)) (fun hHeld => ?_)
        clear hK K
        try simp only [Act.put, List.setIfInBounds_toArray, List.set_cons_zero, List.set_cons_succ]
        refine wpAnyH_take (i := 11) (oi := { dst := some 9, op := Op.assign (Operand.tmp 50), type := 3, pos := "law.go:304", after := #[{ on := 8, ground := Ground.data }, { on := 10, ground := Ground.chain }, { on := 0, ground := Ground.phase }, { on := 1, ground := Ground.phase }, { on := 2, ground := Ground.phase }, { on := 3, ground := Ground.phase }, { on := 4, ground := Ground.phase }, { on := 5, ground := Ground.phase }, { on := 6, ground := Ground.phase }, { on := 7, ground := Ground.phase }, { on := 8, ground := Ground.phase }, { on := 9, ground := Ground.phase }, { on := 10, ground := Ground.phase }], guard := none }) (v := .int .i64 rr) rfl (by kernel_rfl) (by kernel_rfl) (by kernel_rfl) (fun _ _ _ h => h) (Or.inl ⟨by rfl, ?y11⟩) (by assumption) ?_
        case y11 => (intro w hSw; (try dsimp only at hSw); first | (go_simp; done) | (go_simp; with_reducible rfl) | (go_simp; rfl))
        try simp only [Act.put, List.setIfInBounds_toArray, List.set_cons_zero, List.set_cons_succ]
        refine wpAnyH_done (by kernel_rfl) ?_ _
        rw [hC1] at hr6
        have HMv : Hid (Made F V wt.drew F' V' W6) := made_b HSd.out.dv.dc hM hm6
        have HRV : Hid (W6.heap[wt.heap.size]? = some (.cells (fsC F' V') 31)) := hr6
        obtain ⟨N, hN⟩ : ∃ N, wt.heap.size = N := ⟨_, rfl⟩
        rw [hN] at HRV
        try rw [hN]
        have HRR : Hid (W6.heap[r]? = some (.cells (fsC F V) 31)) := keep_row HSd.out.ro HMv.out.bel
        clear hC1 hM hr6 hm6 hN HMT HKEEP HROd HC0S HB0
        go_upto_region 7 with (first
          | (refine ldF (fsC F' V') N _ rfl rfl rfl HRV.out rfl ?_)
          | (refine stF rfl _ _ rfl r (fsC F' V') (fsC F V) rfl rfl rfl (fsC_one HMv.out.at_) rfl HRR.out ?_; intro wx hrx hmx))
        have HSx := HSd.out.put HMv.out hmx.modP hrx
        clear hrx hmx HRR HRV HMv HSd HST HOPt
        have hiw := HIW.out
        go_wp2
        go_roundw
        case rel => exact ⟨i + 1, F', X2, V', HLT.out, rfl, HSx⟩
        case measure => simp [intOf]; omega
    · have hil : i = len := by omega
      subst hil
      clear hlt
      have HPA : Hid (Pl w wr g X F i F V r) := HPL.out
      clear HPL
      have HQ : Hid (Calls Tryz.prog 9 #[.pointer (some ⟨g, 0, none⟩)] wr fun e w' => ∃ gl Xg, e = .returned (.pointer (some ⟨gl, 0, none⟩)) ∧ Ap w w' g gl X Xg F F i i F V r ∧ Below wr.heap.size wr w') := clone_ap HPA.out (by have := HL.out; omega)
      go_wp2_with fail
      refine (show Calls _ _ _ _ _ from HQ.out).mono ?_
      rintro e wc ⟨gl, Xg, rfl, hap, _⟩
      have HAP : Hid (Ap w wc g gl X Xg F F i i F V r) := hap
      clear hap HQ HPA
      go_wp2
      go_loopw [11] (fun ci wr => ∃ (k : Nat) (Xg : Gh), k ≤ len2 ∧ ci = .int .i64 (k : Int) ∧ Ap w wr g gl X Xg F (runM F os k) i (i + k) F V r) (fun ci _ => len2 - (intOf ci).toNat)
      case atStart => exact ⟨0, Xg, Nat.zero_le _, rfl, HAP.out⟩
      case round =>
        obtain ⟨k, Xg, hk, rfl, hap⟩ := hrel
        have HPL : Hid (Ap w wr g gl X Xg F (runM F os k) i (i + k) F V r) := hap
        clear hap HAP
        by_cases hlt : k < len2
        · have had := HA2.out (by omega)
          subst had
          obtain ⟨pv, hop⟩ := HO2.out k hlt
          obtain ⟨o, ho⟩ : ∃ o, os k = o := ⟨_, rfl⟩
          rw [ho] at hop
          have HOP : Hid (OpA w.heap.size wr G2 (off2 + k * 7) o pv) := hop.on HPL.out.t.bel
          obtain ⟨C, hC⟩ : ∃ C, C = opArr o pv := ⟨_, rfl⟩
          have HC : Hid (C = opArr o pv) := hC
          have hz3 : (0 : Int) ≤ (k : Int) := by omega
          have hz4 : (k : Int) < (len2 : Int) := by omega
          have hiw : IntKind.i64.wrap ((k : Int) + 1) = (k : Int) + 1 := by rw [IntKind.wrap_i64] <;> omega
          have HOK : Hid (PoOk o) := hop.ok
          obtain ⟨F', rr, hdm⟩ : ∃ F' rr, doneM (runM F os k) o = (F', rr) := ⟨_, _, rfl⟩
          have HRM : Hid (runM F os (k + 1) = F') := by show (doneM (runM F os k) (os k)).1 = F'; rw [ho, hdm]
          have HQ : Hid (Calls Tryz.prog 10 #[.pointer (some ⟨gl, 0, none⟩), .agg C] wr fun e w' => e = .returned (.int .i64 rr) ∧ ∃ Xg', Ap w w' g gl X Xg' F F' i (i + k + 1) F V r ∧ Below w.heap.size w w') := by
            have := done_apG HPL.out (by have := HL.out; omega) HC.out HOK.out (HOP.out.pks HPL.out.t.own)
            rw [hdm] at this
            exact this
          clear hop hC hdm ho
          go_wp2_with (first
            | (refine ldO C w.heap.size G2 (off2 + k * 7) o pv _ rfl rfl rfl HOP.out HC.out ?_))
          refine (show Calls _ _ _ _ _ from HQ.out).mono ?_
          rintro e wt ⟨rfl, X2, hp2, hbt⟩
          have HST : Hid (Ap w wt g gl X X2 F F' i (i + k + 1) F V r) := hp2
          clear hp2 hbt HQ HPL HOP
          go_wp2
          go_roundw
          case rel => exact ⟨k + 1, X2, hlt, rfl, by rw [HRM.out]; exact HST.out⟩
          case measure => simp [intOf]; omega
        · have hkl : k = len2 := by omega
          subst hkl
          clear hlt
          obtain ⟨F2, hF2⟩ : ∃ F2, runM F os k = F2 := ⟨_, rfl⟩
          have HF2 : Hid (runM F os k = F2) := hF2
          have HAPc : Hid (Ap w wr g gl X Xg F F2 i (i + k) F V r) := by rw [← hF2]; exact HPL.out
          clear HPL hF2
          have HQ : Hid (Calls Tryz.prog 8 #[.pointer (some ⟨g, 0, none⟩), .agg (fsC F V), .string { data := #[97] }] wr fun e w' => e = .returned (.bool true) ∧ Below wr.heap.size wr w') := as_any g X F i V _ w wr HAPc.out.p.dv HAPc.out.p.iv (by have := HL.out; omega) (by decide)
          go_wp2_with (first
            | (refine ldF (fsC F V) r _ rfl rfl rfl HAPc.out.p.ro rfl ?_))
          refine (show Calls _ _ _ _ _ from HQ.out).mono ?_
          rintro e w5 ⟨rfl, hb5⟩
          have HAP5 : Hid (Ap w w5 g gl X Xg F F2 i (i + k) F V r) := HAPc.out.on hb5
          clear hb5 HQ HAPc
          go_wp2
          go_loopw [12] (fun ci wr => ∃ (m : Nat) (X : Gh) (V : FV), m ≤ k ∧ ci = .int .i64 (m : Int) ∧ Ap w wr g gl X Xg (runM F os m) F2 (i + m) (i + k) (runM F os m) V r) (fun ci _ => k - (intOf ci).toNat)
          case atStart => exact ⟨0, X, V, Nat.zero_le _, rfl, HAP5.out⟩
          case round =>
            obtain ⟨m, X, V, hm, rfl, hap⟩ := hrel
            obtain ⟨F3, hF3⟩ : ∃ F3, runM F os m = F3 := ⟨_, rfl⟩
            have HF3 : Hid (runM F os m = F3) := hF3
            rw [hF3] at hap
            have HPL : Hid (Ap w wr g gl X Xg F3 F2 (i + m) (i + k) F3 V r) := hap
            clear hap HAP5 hF3
            by_cases hlt : m < k
            · have had := HA2.out (by omega)
              subst had
              obtain ⟨pv, hop⟩ := HO2.out m hlt
              obtain ⟨o, ho⟩ : ∃ o, os m = o := ⟨_, rfl⟩
              rw [ho] at hop
              have HOP0 : Hid (OpA w.heap.size w G2 (off2 + m * 7) o pv) := hop
              have HOP : Hid (OpA w.heap.size wr G2 (off2 + m * 7) o pv) := hop.on HPL.out.t.bel
              obtain ⟨C, hC⟩ : ∃ C, C = opArr o pv := ⟨_, rfl⟩
              have HC : Hid (C = opArr o pv) := hC
              have HCS : Hid (C.size = 7) := by show _ = _; rw [hC]; rfl
              have hz3 : (0 : Int) ≤ (m : Int) := by omega
              have hz4 : (m : Int) < (k : Int) := by omega
              have HLT : Hid (m < k) := hlt
              have HOK : Hid (PoOk o) := hop.ok
              have HIW : Hid (IntKind.i64.wrap ((m : Int) + 1) = (m : Int) + 1) := by have := HL2.out; show _ = _; rw [IntKind.wrap_i64] <;> omega
              obtain ⟨F', rr, hdm⟩ : ∃ F' rr, doneM F3 o = (F', rr) := ⟨_, _, rfl⟩
              have HDM : Hid (doneM F3 o = (F', rr)) := hdm
              have HRM : Hid (runM F os (m + 1) = F') := by show (doneM (runM F os m) (os m)).1 = F'; rw [HF3.out, ho, hdm]
              have HBD : Hid (Bd F3) := bd_of HPL.out.p.dv.st HPL.out.p.iv (by have := HL.out; have := HL2.out; omega)
              have HFD : Hid (∀ n, findM F3.dir n < (F3.files.length : Int)) := fun n => find_lt HPL.out.p.dv.st n
              have HFA : Hid (F3.fails.length ≤ 8796093022000) := by have := HPL.out.p.iv.fl; have := HL.out; have := HL2.out; show _ ≤ _; omega
              have HQ : Hid (Calls Tryz.prog 10 #[.pointer (some ⟨g, 0, none⟩), .agg C] wr fun e w' => e = .returned (.int .i64 rr) ∧ ∃ X', Ap w w' g gl X' Xg F' F2 (i + m + 1) (i + k) F3 V r ∧ Below w.heap.size w w') := by
                have := done_apF HPL.out (by have := HL.out; have := HL2.out; omega) HC.out HOK.out (HOP.out.pks HPL.out.p.dv.st.own)
                rw [hdm] at this
                exact this
              clear hop hC hdm hm hlt ho
              go_wp2_with (first
                | (refine ldO C w.heap.size G2 (off2 + m * 7) o pv _ rfl rfl rfl HOP.out HC.out ?_))
              refine (show Calls _ _ _ _ _ from HQ.out).mono ?_
              rintro e wt ⟨rfl, X2, hp2, hbt⟩
              have HST : Hid (Ap w wt g gl X2 Xg F' F2 (i + m + 1) (i + k) F3 V r) := hp2
              have HOPt : Hid (OpA w.heap.size wt G2 (off2 + m * 7) o pv) := HOP0.out.on hbt
              clear hp2 hbt HQ HPL HOP HOP0
              go_wp2_with fail
              have hcur : Below wt.heap.size wt wt.drew := (Below.refl _ wt).drew
              have HSd : Hid (Ap w wt.drew g gl X2 Xg F' F2 (i + m + 1) (i + k) F3 V r) := HST.out.on hcur
              obtain ⟨C0, hC0⟩ : ∃ C0, C0 = fsC F3 V := ⟨_, rfl⟩
              have HC0S : Hid (C0.size = 9) := by show _ = _; rw [hC0]; rfl
              have HROd : Hid (wt.drew.heap[r]? = some (.cells C0 31)) := by show _ = _; rw [hC0]; exact HSd.out.p.ro
              have HMT : Hid (∀ W', Below wt.drew.heap.size wt.drew W' → Calls Tryz.prog 11 #[.agg C0, .agg C] W' fun e w' => ∃ V' C1, C1 = fsC F' V' ∧ e = .returned (.tuple #[.agg C1, .int .i64 rr]) ∧ Made F3 V W' F' V' w') := meant_pl HBD.out HFD.out HFA.out HSd.out.p.dv.dc HDM.out HC.out hC0 (HOPt.out.on (hcur.mono HST.out.p.dv.st.bel.size))
              have HKEEP : Hid (∀ W', Below wt.drew.heap.size wt.drew W' → W'.rangeAt r 0 C0.toList ∧ W'.rangeAt G2 (off2 + m * 7) C.toList) := fun W' hb => ⟨range_row (keep_row HROd.out hb), ((HOPt.out.on (hcur.mono HST.out.p.dv.st.bel.size)).on (hb.mono HSd.out.p.dv.st.bel.size)).range HC.out⟩
              obtain ⟨B0, hB0⟩ : ∃ B0, wt.drew.heap.size = B0 := ⟨_, rfl⟩
              have HB0 : Hid (wt.drew.heap.size = B0) := hB0
              clear hcur hC0 hB0
              refine wp_region_held_drew (S := fun W : World => W.rangeAt r 0 C0.toList ∧ W.rangeAt G2 (off2 + m * 7) C.toList) (by kernel_rfl) (HKEEP.out _ (Below.refl _ _)) (fun hHeld => ?_)
              refine wpAnyH_take (i := 0) (oi := { dst := some 85, op := Op.load 31 (Operand.tmp 6), type := 31, pos := "law.go:319", after := #[], guard := none }) (v := .agg C0) rfl (by kernel_rfl) (by kernel_rfl) (by kernel_rfl) (fun _ _ _ h => h) (ylF C0 r _ rfl rfl (fun _ h => h.1) HC0S.out) (by assumption) ?_
              try simp only [Act.put, List.setIfInBounds_toArray, List.set_cons_zero, List.set_cons_succ]
              refine wpAnyH_take (i := 1) (oi := { dst := some 86, op := Op.move (Operand.tmp 1), type := 22, pos := "law.go:319", after := #[], guard := none }) (v := .slice (some ⟨G2, off2, none⟩) k cap2) rfl (by kernel_rfl) (by kernel_rfl) (by kernel_rfl) (fun _ _ _ h => h) (Or.inl ⟨by rfl, ?y1⟩) (by assumption) ?_
              case y1 => (intro w hSw; (try dsimp only at hSw); first | (go_simp; done) | (go_simp; with_reducible rfl) | (go_simp; rfl))
              try simp only [Act.put, List.setIfInBounds_toArray, List.set_cons_zero, List.set_cons_succ]
              refine wpAnyH_take (i := 2) (oi := { dst := some 87, op := Op.move (Operand.tmp 12), type := 3, pos := "law.go:319", after := #[], guard := none }) (v := .int .i64 (m : Int)) rfl (by kernel_rfl) (by kernel_rfl) (by kernel_rfl) (fun _ _ _ h => h) (Or.inl ⟨by rfl, ?y2⟩) (by assumption) ?_
              case y2 => (intro w hSw; (try dsimp only at hSw); first | (go_simp; done) | (go_simp; with_reducible rfl) | (go_simp; rfl))
              try simp only [Act.put, List.setIfInBounds_toArray, List.set_cons_zero, List.set_cons_succ]
              refine wpAnyH_take (i := 3) (oi := { dst := some 88, op := Op.indexAddr 22 (Operand.tmp 86) (Operand.tmp 87), type := 0, pos := "law.go:319", after := #[{ on := 1, ground := Ground.data }, { on := 2, ground := Ground.data }], guard := none }) (v := .pointer (some ⟨G2, off2 + m * 7, none⟩)) rfl (by kernel_rfl) (by kernel_rfl) (by kernel_rfl) (fun _ _ _ h => h) (Or.inl ⟨by rfl, ?y3⟩) (by assumption) ?_
              case y3 => (intro w hSw; (try dsimp only at hSw); first | (go_simp; done) | (go_simp; with_reducible rfl) | (go_simp; rfl))
              try simp only [Act.put, List.setIfInBounds_toArray, List.set_cons_zero, List.set_cons_succ]
              refine wpAnyH_take (i := 4) (oi := { dst := some 89, op := Op.load 36 (Operand.tmp 88), type := 36, pos := "law.go:319", after := #[{ on := 3, ground := Ground.data }], guard := none }) (v := .agg C) rfl (by kernel_rfl) (by kernel_rfl) (by kernel_rfl) (fun _ _ _ h => h) (ylO C G2 (off2 + m * 7) _ rfl rfl (fun _ h => h.2) HCS.out) (by assumption) ?_
              try simp only [Act.put, List.setIfInBounds_toArray, List.set_cons_zero, List.set_cons_succ]
              refine wpAnyH_ready (rs := [5, 9]) (by kernel_rfl) (by simp) ?_
              refine AllReadyH.cons (o := { dst := some 90, op := Op.call { callee := Callee.value (Operand.func 11), args := #[Operand.tmp 85, Operand.tmp 89], argTypes := #[31, 36] }, type := 39, pos := "law.go:319", after := #[{ on := 0, ground := Ground.data }, { on := 4, ground := Ground.data }], guard := none }) rfl (fun K hK => ?_) (AllReadyH.cons (o := { dst := some 13, op := Op.alloc 31, type := 0, pos := "law.go:319", after := #[], guard := none }) rfl (fun K hK => ?_) AllReadyH.nil)
              · first | (go_at_call 11; refine (show Calls _ _ _ _ _ from HMT.out _ (Below.refl _ _)).mono ?_; rintro e wu ⟨V', C1, hC1, rfl, hM⟩) | (go_simp; go_at_call 11; refine (show Calls _ _ _ _ _ from HMT.out _ (Below.refl _ _)).mono ?_; rintro e wu ⟨V', C1, hC1, rfl, hM⟩)
                refine hK.out _ _ (HKEEP.out _ (hM.bel)) (fun hHeld => ?_)
                clear hK K
                try simp only [Act.put, List.setIfInBounds_toArray, List.set_cons_zero, List.set_cons_succ]
                refine wpAnyH_take (i := 6) (oi := { dst := some 84, op := Op.move (Operand.tmp 90), type := 39, pos := "law.go:319", after := #[{ on := 5, ground := Ground.data }], guard := none }) (v := .tuple #[.agg C1, .int .i64 rr]) rfl (by kernel_rfl) (by kernel_rfl) (by kernel_rfl) (fun _ _ _ h => h) (Or.inl ⟨by rfl, ?y6⟩) (by assumption) ?_
                case y6 => (intro w hSw; (try dsimp only at hSw); first | (go_simp; done) | (go_simp; with_reducible rfl) | (go_simp; rfl))
                try simp only [Act.put, List.setIfInBounds_toArray, List.set_cons_zero, List.set_cons_succ]
                refine wpAnyH_take (i := 7) (oi := { dst := some 91, op := Op.extract (Operand.tmp 84) 0, type := 31, pos := "law.go:319", after := #[{ on := 6, ground := Ground.data }], guard := none }) (v := .agg C1) rfl (by kernel_rfl) (by kernel_rfl) (by kernel_rfl) (fun _ _ _ h => h) (Or.inl ⟨by rfl, ?y7⟩) (by assumption) ?_
                case y7 => (intro w hSw; (try dsimp only at hSw); first | (go_simp; done) | (go_simp; with_reducible rfl) | (go_simp; rfl))
                try simp only [Act.put, List.setIfInBounds_toArray, List.set_cons_zero, List.set_cons_succ]
                refine wpAnyH_take (i := 8) (oi := { dst := some 92, op := Op.extract (Operand.tmp 84) 1, type := 3, pos := "law.go:319", after := #[{ on := 6, ground := Ground.data }, { on := 10, ground := Ground.gcOnly Departure.lateStores }], guard := none }) (v := .int .i64 rr) rfl (by kernel_rfl) (by kernel_rfl) (by kernel_rfl) (fun _ _ _ h => h) (Or.inl ⟨by rfl, ?y8⟩) (by assumption) ?_
                case y8 => (intro w hSw; (try dsimp only at hSw); first | (go_simp; done) | (go_simp; with_reducible rfl) | (go_simp; rfl))
                try simp only [Act.put, List.setIfInBounds_toArray, List.set_cons_zero, List.set_cons_succ]
                refine wpAnyH_ready (rs := [9]) (by kernel_rfl) (by simp) ?_
                refine AllReadyH.cons (o := { dst := some 13, op := Op.alloc 31, type := 0, pos := "law.go:319", after := #[], guard := none }) rfl (fun K hK => ?_) AllReadyH.nil
                refine rdA Z (by rfl) rfl HZZ.out ?_
                refine hK.out _ _ (HKEEP.out _ (hM.bel.alloc (by have := hM.bel.size; omega) _)) (fun hHeld => ?_)
                clear hK K
                try simp only [Act.put, List.setIfInBounds_toArray, List.set_cons_zero, List.set_cons_succ]
                refine wpAnyH_ready (rs := [10]) (by kernel_rfl) (by simp) ?_
                refine AllReadyH.cons (o := { dst := none, op := Op.store 31 (Operand.tmp 13) (Operand.tmp 91), type := 0, pos := "law.go:319", after := #[{ on := 9, ground := Ground.data }, { on := 7, ground := Ground.data }, { on := 5, ground := Ground.chain }, { on := 0, ground := Ground.phase }, { on := 1, ground := Ground.phase }, { on := 2, ground := Ground.phase }, { on := 3, ground := Ground.phase }, { on := 4, ground := Ground.phase }, { on := 5, ground := Ground.phase }, { on := 6, ground := Ground.phase }, { on := 7, ground := Ground.phase }, { on := 8, ground := Ground.textOnly Departure.lateStores }, { on := 9, ground := Ground.phase }], guard := none }) rfl (fun K hK => ?_) AllReadyH.nil
                refine rdF wu.heap.size C1 Z _ _ (by rfl) rfl rfl rfl (by rw [hC1]; rfl) (by rw [hC1]; exact fsC_one hM.at_) HZS.out (one_alloc _ _) ?_; intro W6 hr6 hm6
                refine hK.out _ _ (HKEEP.out _ ((made_a hM hm6).bel)) (fun hHeld => ?_)
                clear hK K
                try simp only [Act.put, List.setIfInBounds_toArray, List.set_cons_zero, List.set_cons_succ]
                refine wpAnyH_take (i := 11) (oi := { dst := some 14, op := Op.assign (Operand.tmp 92), type := 3, pos := "law.go:319", after := #[{ on := 8, ground := Ground.data }, { on := 10, ground := Ground.chain }, { on := 0, ground := Ground.phase }, { on := 1, ground := Ground.phase }, { on := 2, ground := Ground.phase }, { on := 3, ground := Ground.phase }, { on := 4, ground := Ground.phase }, { on := 5, ground := Ground.phase }, { on := 6, ground := Ground.phase }, { on := 7, ground := Ground.phase }, { on := 8, ground := Ground.phase }, { on := 9, ground := Ground.phase }, { on := 10, ground := Ground.phase }], guard := none }) (v := .int .i64 rr) rfl (by kernel_rfl) (by kernel_rfl) (by kernel_rfl) (fun _ _ _ h => h) (Or.inl ⟨by rfl, ?y11⟩) (by assumption) ?_
                case y11 => (intro w hSw; (try dsimp only at hSw); first | (go_simp; done) | (go_simp; with_reducible rfl) | (go_simp; rfl))
                try simp only [Act.put, List.setIfInBounds_toArray, List.set_cons_zero, List.set_cons_succ]
                refine wpAnyH_done (by kernel_rfl) ?_ _
                rw [hC1] at hr6
                have HMv : Hid (Made F3 V wt.drew F' V' W6) := made_a hM hm6
                have HRV : Hid (W6.heap[wu.heap.size]? = some (.cells (fsC F' V') 31)) := hr6
                obtain ⟨N, hN⟩ : ∃ N, wu.heap.size = N := ⟨_, rfl⟩
                rw [hN] at HRV
                try rw [hN]
                have HRR : Hid (W6.heap[r]? = some (.cells (fsC F3 V) 31)) := keep_row HSd.out.p.ro HMv.out.bel
                clear hC1 hM hr6 hm6 hN HMT HKEEP HROd HC0S HB0
                go_upto_region 22 with (first
                  | (refine ldF (fsC F' V') N _ rfl rfl rfl HRV.out rfl ?_)
                  | (refine stF rfl _ _ rfl r (fsC F' V') (fsC F3 V) rfl rfl rfl (fsC_one HMv.out.at_) rfl HRR.out ?_; intro wx hrx hmx))
                have HSx := HSd.out.put HMv.out hmx.modP hrx
                clear hrx hmx HRR HRV HMv HSd HST HOPt
                have hiw := HIW.out
                go_wp2
                go_roundw
                case rel => exact ⟨m + 1, X2, V', HLT.out, rfl, by rw [HRM.out]; exact HSx⟩
                case measure => simp [intOf]; omega
              · refine rdA Z (by rfl) rfl HZZ.out ?_
                refine hK.out _ _ (HKEEP.out _ ((Below.refl _ _).alloc (Nat.le_refl _) _)) (fun hHeld => ?_)
                clear hK K
                try simp only [Act.put, List.setIfInBounds_toArray, List.set_cons_zero, List.set_cons_succ]
                refine wpAnyH_ready (rs := [5]) (by kernel_rfl) (by simp) ?_
                refine AllReadyH.cons (o := { dst := some 90, op := Op.call { callee := Callee.value (Operand.func 11), args := #[Operand.tmp 85, Operand.tmp 89], argTypes := #[31, 36] }, type := 39, pos := "law.go:319", after := #[{ on := 0, ground := Ground.data }, { on := 4, ground := Ground.data }], guard := none }) rfl (fun K hK => ?_) AllReadyH.nil
                first | (go_at_call 11; refine (show Calls _ _ _ _ _ from HMT.out _ ((Below.refl _ _).alloc (Nat.le_refl _) _)).mono ?_; rintro e wu ⟨V', C1, hC1, rfl, hM⟩) | (go_simp; go_at_call 11; refine (show Calls _ _ _ _ _ from HMT.out _ ((Below.refl _ _).alloc (Nat.le_refl _) _)).mono ?_; rintro e wu ⟨V', C1, hC1, rfl, hM⟩)
                refine hK.out _ _ (HKEEP.out _ (((Below.refl _ _).alloc (Nat.le_refl _) _).trans (hM.bel.mono (by simp [World.size_alloc])))) (fun hHeld => ?_)
                clear hK K
                try simp only [Act.put, List.setIfInBounds_toArray, List.set_cons_zero, List.set_cons_succ]
                refine wpAnyH_take (i := 6) (oi := { dst := some 84, op := Op.move (Operand.tmp 90), type := 39, pos := "law.go:319", after := #[{ on := 5, ground := Ground.data }], guard := none }) (v := .tuple #[.agg C1, .int .i64 rr]) rfl (by kernel_rfl) (by kernel_rfl) (by kernel_rfl) (fun _ _ _ h => h) (Or.inl ⟨by rfl, ?y6⟩) (by assumption) ?_
                case y6 => (intro w hSw; (try dsimp only at hSw); first | (go_simp; done) | (go_simp; with_reducible rfl) | (go_simp; rfl))
                try simp only [Act.put, List.setIfInBounds_toArray, List.set_cons_zero, List.set_cons_succ]
                refine wpAnyH_take (i := 7) (oi := { dst := some 91, op := Op.extract (Operand.tmp 84) 0, type := 31, pos := "law.go:319", after := #[{ on := 6, ground := Ground.data }], guard := none }) (v := .agg C1) rfl (by kernel_rfl) (by kernel_rfl) (by kernel_rfl) (fun _ _ _ h => h) (Or.inl ⟨by rfl, ?y7⟩) (by assumption) ?_
                case y7 => (intro w hSw; (try dsimp only at hSw); first | (go_simp; done) | (go_simp; with_reducible rfl) | (go_simp; rfl))
                try simp only [Act.put, List.setIfInBounds_toArray, List.set_cons_zero, List.set_cons_succ]
                refine wpAnyH_take (i := 8) (oi := { dst := some 92, op := Op.extract (Operand.tmp 84) 1, type := 3, pos := "law.go:319", after := #[{ on := 6, ground := Ground.data }, { on := 10, ground := Ground.gcOnly Departure.lateStores }], guard := none }) (v := .int .i64 rr) rfl (by kernel_rfl) (by kernel_rfl) (by kernel_rfl) (fun _ _ _ h => h) (Or.inl ⟨by rfl, ?y8⟩) (by assumption) ?_
                case y8 => (intro w hSw; (try dsimp only at hSw); first | (go_simp; done) | (go_simp; with_reducible rfl) | (go_simp; rfl))
                try simp only [Act.put, List.setIfInBounds_toArray, List.set_cons_zero, List.set_cons_succ]
                refine wpAnyH_ready (rs := [10]) (by kernel_rfl) (by simp) ?_
                refine AllReadyH.cons (o := { dst := none, op := Op.store 31 (Operand.tmp 13) (Operand.tmp 91), type := 0, pos := "law.go:319", after := #[{ on := 9, ground := Ground.data }, { on := 7, ground := Ground.data }, { on := 5, ground := Ground.chain }, { on := 0, ground := Ground.phase }, { on := 1, ground := Ground.phase }, { on := 2, ground := Ground.phase }, { on := 3, ground := Ground.phase }, { on := 4, ground := Ground.phase }, { on := 5, ground := Ground.phase }, { on := 6, ground := Ground.phase }, { on := 7, ground := Ground.phase }, { on := 8, ground := Ground.textOnly Departure.lateStores }, { on := 9, ground := Ground.phase }], guard := none }) rfl (fun K hK => ?_) AllReadyH.nil
                refine rdF wt.drew.heap.size C1 Z _ _ (by rfl) rfl rfl rfl (by rw [hC1]; rfl) (by rw [hC1]; exact fsC_one hM.at_) HZS.out (keep_row (one_alloc _ _) hM.bel) ?_; intro W6 hr6 hm6
                refine hK.out _ _ (HKEEP.out _ ((made_b HSd.out.p.dv.dc hM hm6).bel)) (fun hHeld => ?_)
                clear hK K
                try simp only [Act.put, List.setIfInBounds_toArray, List.set_cons_zero, List.set_cons_succ]
                refine wpAnyH_take (i := 11) (oi := { dst := some 14, op := Op.assign (Operand.tmp 92), type := 3, pos := "law.go:319", after := #[{ on := 8, ground := Ground.data }, { on := 10, ground := Ground.chain }, { on := 0, ground := Ground.phase }, { on := 1, ground := Ground.phase }, { on := 2, ground := Ground.phase }, { on := 3, ground := Ground.phase }, { on := 4, ground := Ground.phase }, { on := 5, ground := Ground.phase }, { on := 6, ground := Ground.phase }, { on := 7, ground := Ground.phase }, { on := 8, ground := Ground.phase }, { on := 9, ground := Ground.phase }, { on := 10, ground := Ground.phase }], guard := none }) (v := .int .i64 rr) rfl (by kernel_rfl) (by kernel_rfl) (by kernel_rfl) (fun _ _ _ h => h) (Or.inl ⟨by rfl, ?y11⟩) (by assumption) ?_
                case y11 => (intro w hSw; (try dsimp only at hSw); first | (go_simp; done) | (go_simp; with_reducible rfl) | (go_simp; rfl))
                try simp only [Act.put, List.setIfInBounds_toArray, List.set_cons_zero, List.set_cons_succ]
                refine wpAnyH_done (by kernel_rfl) ?_ _
                rw [hC1] at hr6
                have HMv : Hid (Made F3 V wt.drew F' V' W6) := made_b HSd.out.p.dv.dc hM hm6
                have HRV : Hid (W6.heap[wt.heap.size]? = some (.cells (fsC F' V') 31)) := hr6
                obtain ⟨N, hN⟩ : ∃ N, wt.heap.size = N := ⟨_, rfl⟩
                rw [hN] at HRV
                try rw [hN]
                have HRR : Hid (W6.heap[r]? = some (.cells (fsC F3 V) 31)) := keep_row HSd.out.p.ro HMv.out.bel
                clear hC1 hM hr6 hm6 hN HMT HKEEP HROd HC0S HB0
                go_upto_region 22 with (first
                  | (refine ldF (fsC F' V') N _ rfl rfl rfl HRV.out rfl ?_)
                  | (refine stF rfl _ _ rfl r (fsC F' V') (fsC F3 V) rfl rfl rfl (fsC_one HMv.out.at_) rfl HRR.out ?_; intro wx hrx hmx))
                have HSx := HSd.out.put HMv.out hmx.modP hrx
                clear hrx hmx HRR HRV HMv HSd HST HOPt
                have hiw := HIW.out
                go_wp2
                go_roundw
                case rel => exact ⟨m + 1, X2, V', HLT.out, rfl, by rw [HRM.out]; exact HSx⟩
                case measure => simp [intOf]; omega
            · have hkm : m = k := by omega
              subst hkm
              clear hlt hm
              have e3 : F3 = F2 := HF3.out.symm.trans HF2.out
              subst e3
              have HAPd : Hid (Ap w wr g gl X Xg F3 F3 (i + m) (i + m) F3 V r) := HPL.out
              clear HPL HF3 HF2
              obtain ⟨na, hna⟩ : ∃ na, F3.dir.length = na := ⟨_, rfl⟩
              obtain ⟨nb, hnb⟩ : ∃ nb, F3.sure.length = nb := ⟨_, rfl⟩
              obtain ⟨nl, hnl⟩ : ∃ nl, (listM F3).1.length = nl := ⟨_, rfl⟩
              have HNA : Hid (F3.dir.length = na ∧ na ≤ 64) := ⟨hna, by have := HAPd.out.p.dv.st.few.1; omega⟩
              have HNB : Hid (F3.sure.length = nb ∧ nb ≤ 64) := ⟨hnb, by have := HAPd.out.p.dv.st.few.2; omega⟩
              have HNL : Hid ((listM F3).1.length = nl ∧ nl ≤ 64) := ⟨hnl, by
                have h1 := HAPd.out.p.dv.st.few.1
                rw [← hnl]
                unfold listM
                split
                · simp
                · show (F3.dir.map (·.1)).length ≤ 64
                  rw [List.length_map]; exact h1⟩
              clear hna hnb hnl
              have HQ : Hid (Calls Tryz.prog 12 #[.pointer (some ⟨g, 0, none⟩)] wr fun e w' => ∃ P c, e = .returned (.slice P na c) ∧ Rw w w' g gl X Xg F3 F3 F3 V 48 2 (.slice P na c) na ∧ (∀ q, (Value.slice P na c).ownBlock = some q → wr.heap.size ≤ q) ∧ Below wr.heap.size wr w') := now_new HAPd.out HNA.out.1
              go_wp2_with fail
              refine (show Calls _ _ _ _ _ from HQ.out).mono ?_
              rintro e wa ⟨Pa, ca, rfl, ha1, _, hba⟩
              have HAPa : Hid (Ap w wa g gl X Xg F3 F3 (i + m) (i + m) F3 V r) := HAPd.out.on hba
              have HRa : Hid (Rw w wa g gl X Xg F3 F3 F3 V 48 2 (.slice Pa na ca) na) := ha1
              clear ha1 hba HQ HAPd
              have HQ : Hid (Calls Tryz.prog 13 #[.pointer (some ⟨g, 0, none⟩)] wa fun e w' => ∃ P c, e = .returned (.slice P nb c) ∧ Rw w w' g gl X Xg F3 F3 F3 V 48 2 (.slice P nb c) nb ∧ (∀ q, (Value.slice P nb c).ownBlock = some q → wa.heap.size ≤ q) ∧ Below wa.heap.size wa w') := safe_new HAPa.out HNB.out.1
              go_wp2_with fail
              refine (show Calls _ _ _ _ _ from HQ.out).mono ?_
              rintro e wb ⟨Pb, cb, rfl, hb1, hb2, hbb⟩
              have HAPb : Hid (Ap w wb g gl X Xg F3 F3 (i + m) (i + m) F3 V r) := HAPa.out.on hbb
              have HRa2 : Hid (Rw w wb g gl X Xg F3 F3 F3 V 48 2 (.slice Pa na ca) na) := HRa.out.on hbb
              have HRb : Hid (Rw w wb g gl X Xg F3 F3 F3 V 48 2 (.slice Pb nb cb) nb) := hb1
              have HAB : Hid (∀ q, (Value.slice Pa na ca).ownBlock = some q → (Value.slice Pb nb cb).ownBlock ≠ some q) := fun q hq h2 => by
                have h3 := HRa.out.lt hq
                have h4 := hb2 q h2
                omega
              clear hb1 hb2 hbb HQ HAPa HRa
              have HQ : Hid (Calls Tryz.prog 14 #[.pointer (some ⟨g, 0, none⟩)] wb fun e w' => ∃ P c, e = .returned (.tuple #[.slice P nl c, .int .i64 (listM F3).2]) ∧ Rw w w' g gl X Xg F3 F3 F3 V 9 1 (.slice P nl c) nl ∧ (∀ q, (Value.slice P nl c).ownBlock = some q → wb.heap.size ≤ q) ∧ Below wb.heap.size wb w') := list_new HAPb.out HNL.out.1
              go_wp2_with fail
              refine (show Calls _ _ _ _ _ from HQ.out).mono ?_
              rintro e wl ⟨Pq, cl, rfl, hl1, hl2, hbl⟩
              have HFN0 : Hid (Fn w wl g gl X Xg F3 (i + m) V r (.slice Pa na ca) na (.slice Pb nb cb) nb (.slice Pq nl cl) nl) := ⟨HAPb.out.on hbl, HRa2.out.on hbl, HRb.out.on hbl, hl1, HAB.out, fun q hq h2 => by
                have h3 := HRa2.out.lt hq
                have h4 := hl2 q h2
                omega, fun q hq h2 => by
                have h3 := HRb.out.lt hq
                have h4 := hl2 q h2
                omega⟩
              clear hl1 hl2 hbl HQ HAPb HRa2 HRb HAB
              obtain ⟨lr, hlr⟩ : ∃ lr, (listM F3).2 = lr := ⟨_, rfl⟩
              rw [hlr]
              clear hlr
              go_wp2
              go_loopw [19] (fun ci wr => ∃ j : Nat, j ≤ na ∧ ci = .int .i64 (j : Int) ∧ Fn w wr g gl X Xg F3 (i + m) V r (.slice Pa na ca) na (.slice Pb nb cb) nb (.slice Pq nl cl) nl) (fun ci _ => na - (intOf ci).toNat)
              case atStart => exact ⟨0, Nat.zero_le _, rfl, HFN0.out⟩
              case round =>
                obtain ⟨j, hj, rfl, hfn⟩ := hrel
                have HFN : Hid (Fn w wr g gl X Xg F3 (i + m) V r (.slice Pa na ca) na (.slice Pb nb cb) nb (.slice Pq nl cl) nl) := hfn
                clear hfn HFN0
                by_cases hlt : j < na
                · obtain ⟨xs, ho⟩ := HFN.out.a.ro
                  obtain ⟨ga, o0, h0, hP⟩ := own_at ho hlt
                  subst hP
                  have HO3 : Hid (wr.ownsRow w.heap.size 48 2 (.slice (some ⟨ga, o0, none⟩) na ca) na xs) := ho
                  have H0 : Hid (o0 = 0) := h0
                  have hz3 : (0 : Int) ≤ (j : Int) := by omega
                  have hz4 : (j : Int) < (na : Int) := by omega
                  have hiw : IntKind.i64.wrap ((j : Int) + 1) = (j : Int) + 1 := by have := HNA.out.2; rw [IntKind.wrap_i64] <;> omega
                  have HLT : Hid (j < na) := hlt
                  clear ho h0 hlt
                  go_upto_region 30 with (first
                    | (refine stP2 rfl _ _ rfl ga o0 j na ca w.heap.size _ _ xs H0.out rfl rfl rfl rfl HO3.out HLT.out ?_; intro wx hrx hmx))
                  have HFNx : Hid (Fn w wx g gl X Xg F3 (i + m) V r (.slice (some ⟨ga, o0, none⟩) na ca) na (.slice Pb nb cb) nb (.slice Pq nl cl) nl) := HFN.out.sa (hmx.weak (fun q _ e => by rw [e]; rfl)) hrx
                  clear hrx hmx HFN HO3
                  go_wp2
                  go_roundw
                  case rel => exact ⟨j + 1, HLT.out, rfl, HFNx.out⟩
                  case measure => simp [intOf]; omega
                · have hjn : na = j := by omega
                  subst hjn
                  clear hj hlt
                  go_wp2
                  go_loopw [20] (fun ci wr => ∃ j : Nat, j ≤ nb ∧ ci = .int .i64 (j : Int) ∧ Fn w wr g gl X Xg F3 (i + m) V r (.slice Pa na ca) na (.slice Pb nb cb) nb (.slice Pq nl cl) nl) (fun ci _ => nb - (intOf ci).toNat)
                  case atStart => exact ⟨0, Nat.zero_le _, rfl, HFN.out⟩
                  case round =>
                    obtain ⟨j, hj, rfl, hfn⟩ := hrel
                    have HFM : Hid (Fn w wr g gl X Xg F3 (i + m) V r (.slice Pa na ca) na (.slice Pb nb cb) nb (.slice Pq nl cl) nl) := hfn
                    clear hfn HFN
                    by_cases hlt : j < nb
                    · obtain ⟨xs, ho⟩ := HFM.out.b.ro
                      obtain ⟨ga, o0, h0, hP⟩ := own_at ho hlt
                      subst hP
                      have HO3 : Hid (wr.ownsRow w.heap.size 48 2 (.slice (some ⟨ga, o0, none⟩) nb cb) nb xs) := ho
                      have H0 : Hid (o0 = 0) := h0
                      have hz3 : (0 : Int) ≤ (j : Int) := by omega
                      have hz4 : (j : Int) < (nb : Int) := by omega
                      have hiw : IntKind.i64.wrap ((j : Int) + 1) = (j : Int) + 1 := by have := HNB.out.2; rw [IntKind.wrap_i64] <;> omega
                      have HLT : Hid (j < nb) := hlt
                      clear ho h0 hlt
                      go_upto_region 34 with (first
                        | (refine stP2 rfl _ _ rfl ga o0 j nb cb w.heap.size _ _ xs H0.out rfl rfl rfl rfl HO3.out HLT.out ?_; intro wx hrx hmx))
                      have HFNx : Hid (Fn w wx g gl X Xg F3 (i + m) V r (.slice Pa na ca) na (.slice (some ⟨ga, o0, none⟩) nb cb) nb (.slice Pq nl cl) nl) := HFM.out.sb (hmx.weak (fun q _ e => by rw [e]; rfl)) hrx
                      clear hrx hmx HFM HO3
                      go_wp2
                      go_roundw
                      case rel => exact ⟨j + 1, HLT.out, rfl, HFNx.out⟩
                      case measure => simp [intOf]; omega
                    · have hjn : nb = j := by omega
                      subst hjn
                      clear hj hlt
                      go_wp2
                      go_loopw [21] (fun ci wr => ∃ j : Nat, j ≤ nl ∧ ci = .int .i64 (j : Int) ∧ Fn w wr g gl X Xg F3 (i + m) V r (.slice Pa na ca) na (.slice Pb nb cb) nb (.slice Pq nl cl) nl) (fun ci _ => nl - (intOf ci).toNat)
                      case atStart => exact ⟨0, Nat.zero_le _, rfl, HFM.out⟩
                      case round =>
                        obtain ⟨j, hj, rfl, hfn⟩ := hrel
                        have HFK : Hid (Fn w wr g gl X Xg F3 (i + m) V r (.slice Pa na ca) na (.slice Pb nb cb) nb (.slice Pq nl cl) nl) := hfn
                        clear hfn HFM
                        by_cases hlt : j < nl
                        · obtain ⟨xs, ho⟩ := HFK.out.l.ro
                          obtain ⟨ga, o0, h0, hP⟩ := own_at ho hlt
                          subst hP
                          obtain ⟨⟨v0, z0⟩, zf, s1, s2⟩ := stS h0 ho hlt (.string { data := #[115, 112, 111, 105, 108, 116] })
                          obtain ⟨ws, hws⟩ : ∃ ws, wr.setCell ⟨ga, o0 + j, none⟩ (.string { data := #[115, 112, 111, 105, 108, 116] }) = ws := ⟨_, rfl⟩
                          rw [hws] at s1 s2
                          have HFNx : Hid (Fn w ws g gl X Xg F3 (i + m) V r (.slice Pa na ca) na (.slice Pb nb cb) nb (.slice (some ⟨ga, o0, none⟩) nl cl) nl) := HFK.out.sl (s2.weak (fun q _ e => by rw [e]; rfl)) s1
                          have hz3 : (0 : Int) ≤ (j : Int) := by omega
                          have hz4 : (j : Int) < (nl : Int) := by omega
                          have hiw : IntKind.i64.wrap ((j : Int) + 1) = (j : Int) + 1 := by have := HNL.out.2; rw [IntKind.wrap_i64] <;> omega
                          have HLT : Hid (j < nl) := hlt
                          clear ho h0 hlt s1 s2 HFK
                          go_upto_region 38 with fail
                          clear z0 zf hws
                          go_wp2
                          go_roundw
                          case rel => exact ⟨j + 1, HLT.out, rfl, HFNx.out⟩
                          case measure => simp [intOf]; omega
                        · have hjn : nl = j := by omega
                          subst hjn
                          clear hj hlt
                          obtain ⟨xa, hoa⟩ := HFK.out.a.ro
                          have HOA : Hid (wr.ownsRow w.heap.size 48 2 (.slice Pa na ca) na xa) := hoa
                          obtain ⟨Na, hNa⟩ : ∃ Na, Na = na + 1 := ⟨_, rfl⟩
                          have HNa : Hid (Na = na + 1) := hNa
                          clear hoa hNa
                          go_upto_region 41 with (first
                            | (at_builtin; refine wpList_oneG pprOk #[.string ⟨#[109, 111, 114, 101]⟩, .string ⟨#[]⟩] (⟨#[109, 111, 114, 101]⟩, ⟨#[]⟩) rfl rfl _ _ rfl w.heap.size _ xa na Na HNa.out rfl HOA.out rfl (by have := HNA.out.2; unfold maxLen; omega) (by have := HNA.out.2; show _ * 32 ≤ _; omega) HFK.out.ap.t.bel.size ?_; intro P7 c7 w7 hm7))
                          have HAP7 : Hid (Ap w w7 g gl X Xg F3 F3 (i + m) (i + m) F3 V r) := HFK.out.ap.row HFK.out.a hm7 (by decide) (by decide) (by decide)
                          have HRB7 : Hid (Rw w w7 g gl X Xg F3 F3 F3 V 48 2 (.slice Pb nb cb) nb) := HFK.out.b.keep hm7 (fun q hq hs => HFK.out.ab q hs hq)
                          have HRL7 : Hid (Rw w w7 g gl X Xg F3 F3 F3 V 9 1 (.slice Pq nl cl) nl) := HFK.out.l.keep hm7 (fun q hq hs => HFK.out.al q hs hq)
                          have HBL : Hid (∀ q, (Value.slice Pb nb cb).ownBlock = some q → (Value.slice Pq nl cl).ownBlock ≠ some q) := HFK.out.bl
                          clear hm7 HFK HOA
                          obtain ⟨xb, hob⟩ := HRB7.out.ro
                          have HOB : Hid (w7.ownsRow w.heap.size 48 2 (.slice Pb nb cb) nb xb) := hob
                          obtain ⟨Nb, hNb⟩ : ∃ Nb, Nb = nb + 1 := ⟨_, rfl⟩
                          have HNb : Hid (Nb = nb + 1) := hNb
                          clear hob hNb
                          go_upto_region 42 with (first
                            | (at_builtin; refine wpList_oneG pprOk #[.string ⟨#[109, 111, 114, 101]⟩, .string ⟨#[]⟩] (⟨#[109, 111, 114, 101]⟩, ⟨#[]⟩) rfl rfl _ _ rfl w.heap.size _ xb nb Nb HNb.out rfl HOB.out rfl (by have := HNB.out.2; unfold maxLen; omega) (by have := HNB.out.2; show _ * 32 ≤ _; omega) HAP7.out.t.bel.size ?_; intro P8 c8 w8 hm8))
                          have HAP8 : Hid (Ap w w8 g gl X Xg F3 F3 (i + m) (i + m) F3 V r) := HAP7.out.row HRB7.out hm8 (by decide) (by decide) (by decide)
                          have HRL8 : Hid (Rw w w8 g gl X Xg F3 F3 F3 V 9 1 (.slice Pq nl cl) nl) := HRL7.out.keep hm8 (fun q hq hs => HBL.out q hs hq)
                          clear hm8 HAP7 HRB7 HRL7 HBL HOB
                          obtain ⟨xl, hol⟩ := HRL8.out.ro
                          have HOL : Hid (w8.ownsRow w.heap.size 9 1 (.slice Pq nl cl) nl xl) := hol
                          obtain ⟨Nl, hNl⟩ : ∃ Nl, Nl = nl + 1 := ⟨_, rfl⟩
                          have HNl : Hid (Nl = nl + 1) := hNl
                          clear hol hNl
                          go_upto_region 43 with (first
                            | (at_builtin; refine wpList_oneG psOk #[.string ⟨#[109, 111, 114, 101]⟩] (⟨#[109, 111, 114, 101]⟩ : ByteArray) rfl rfl _ _ rfl w.heap.size _ xl nl Nl HNl.out rfl HOL.out rfl (by have := HNL.out.2; unfold maxLen; omega) (by have := HNL.out.2; show _ * 16 ≤ _; omega) HAP8.out.t.bel.size ?_; intro P9 c9 w9 hm9))
                          have HAP9 : Hid (Ap w w9 g gl X Xg F3 F3 (i + m) (i + m) F3 V r) := HAP8.out.row HRL8.out hm9 (by decide) (by decide) (by decide)
                          clear hm9 HAP8 HRL8 HOL
                          have hs1 : IntKind.i64.wrap ((Na : Int) + (Nb : Int)) = (Na : Int) + (Nb : Int) := by have := HNa.out; have := HNb.out; have := HNA.out.2; have := HNB.out.2; rw [IntKind.wrap_i64] <;> omega
                          have hs2 : IntKind.i64.wrap ((Na : Int) + (Nb : Int) + (Nl : Int)) = (Na : Int) + (Nb : Int) + (Nl : Int) := by have := HNa.out; have := HNb.out; have := HNl.out; have := HNA.out.2; have := HNB.out.2; have := HNL.out.2; rw [IntKind.wrap_i64] <;> omega
                          have hs3 : (3 : Int) ≤ (Na : Int) + (Nb : Int) + (Nl : Int) := by have := HNa.out; have := HNb.out; have := HNl.out; omega
                          have hs4 : ¬ (Na : Int) + (Nb : Int) + (Nl : Int) < (3 : Int) := by omega
                          obtain ⟨q0, q1, q2, q3, q4, q5, q6, q7, q8, _⟩ := row9 (v0 := .bool F3.down) (v1 := .int .i64 (F3.steps : Int)) (v2 := V.f) (v3 := V.d) (v4 := V.s) (v5 := V.c) (v6 := V.p) (v7 := .int .i64 F3.crash) (v8 := V.k) HAP9.out.p.ro
                          have HQ : Hid (Calls Tryz.prog 8 #[.pointer (some ⟨g, 0, none⟩), .agg #[.bool F3.down, .int .i64 (F3.steps : Int), V.f, V.d, V.s, V.c, V.p, .int .i64 F3.crash, V.k], .string { data := #[97] }] w9 fun e w' => e = .returned (.bool true) ∧ Below w9.heap.size w9 w') := as_any g X F3 (i + m) V _ w w9 HAP9.out.p.dv HAP9.out.p.iv (by have := HL.out; have := HL2.out; omega) (by decide)
                          go_wp2_with fail
                          refine (show Calls _ _ _ _ _ from HQ.out).mono ?_
                          rintro e w10 ⟨rfl, hb10⟩
                          have HAP10 : Hid (Ap w w10 g gl X Xg F3 F3 (i + m) (i + m) F3 V r) := HAP9.out.on hb10
                          clear hb10 HQ HAP9 q0 q1 q2 q3 q4 q5 q6 q7 q8
                          obtain ⟨q0, q1, q2, q3, q4, q5, q6, q7, q8, _⟩ := row9 (v0 := .bool F3.down) (v1 := .int .i64 (F3.steps : Int)) (v2 := V.f) (v3 := V.d) (v4 := V.s) (v5 := V.c) (v6 := V.p) (v7 := .int .i64 F3.crash) (v8 := V.k) HAP10.out.p.ro
                          have HQ : Hid (Calls Tryz.prog 8 #[.pointer (some ⟨gl, 0, none⟩), .agg #[.bool F3.down, .int .i64 (F3.steps : Int), V.f, V.d, V.s, V.c, V.p, .int .i64 F3.crash, V.k], .string { data := #[98] }] w10 fun e w' => e = .returned (.bool true) ∧ Below w10.heap.size w10 w') := as_any gl Xg F3 (i + m) V _ w w10 HAP10.out.gdv HAP10.out.ti (by have := HL.out; have := HL2.out; omega) (by decide)
                          go_wp2_with fail
                          refine (show Calls _ _ _ _ _ from HQ.out).mono ?_
                          rintro e w11 ⟨rfl, hb11⟩
                          have HFIN : Hid (Below w.heap.size w w11) := (HAP10.out.t.on hb11).bel
                          clear hb11 HQ HAP10 q0 q1 q2 q3 q4 q5 q6 q7 q8
                          go_wp2
                          go_returns
                          exact ⟨rfl, HFIN.out⟩
end Go.Proofs.YtlheilkofibogaaGreat
