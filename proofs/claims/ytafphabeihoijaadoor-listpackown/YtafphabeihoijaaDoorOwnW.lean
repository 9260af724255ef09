import Derived.Test.YtafphabeihoijaaDoorOwnL
namespace Go.Proofs.YtafphabeihoijaaDoor
open Go.RowKit
set_option linter.unusedVariables false
def one : Value := .string ⟨#[49]⟩
def two : Value := .string ⟨#[50]⟩
def three : Value := .string ⟨#[51]⟩
def four : Value := .string ⟨#[52]⟩
theorem walk_at {w : World} {base g n : Nat} {l : List LM.Item} (h : w.ownsRow base 9 1 (.slice (some ⟨g, 0, none⟩) n n) n (l.map (fun it => Value.string (strB (LM.val it))))) : RowAt w g n (l.map (fun it => Value.string (strB (LM.val it)))) ∧ base ≤ g := by
  refine ⟨RowAt.of h, ?_⟩
  obtain ⟨_, ⟨h0, _⟩ | ⟨g', cap, cur, hv, hb, _⟩⟩ := h
  · cases h0
  · injection hv with e1; injection e1 with e1; injection e1 with e1; rw [e1]; exact hb
theorem rep_set (x : Value) (zs : List Value) (i : Nat) (h : i < zs.length) : (List.replicate i x ++ zs.drop i).set i x = List.replicate (i + 1) x ++ zs.drop (i + 1) := by
  rw [List.drop_eq_getElem_cons h, List.set_append_right _ _ (by simp), List.length_replicate, Nat.sub_self, List.set_cons_zero, List.replicate_succ', List.append_assoc]; rfl
theorem rep_len (x : Value) (zs : List Value) (i : Nat) (h : i ≤ zs.length) : (List.replicate i x ++ zs.drop i).length = zs.length := by simp; omega
set_option maxHeartbeats 4000000 in
set_option maxRecDepth 100000 in
theorem Own_fit (v : Value) (vs : List ByteArray) (hvl : vs.length * 16 ≤ 140737488351232) (hvm : ∀ x ∈ vs, x.size ≤ 281474976710656) (hf : fitI [] 0 0 vs) (w : World) (hv : SRow w v vs) (hw : Lay w) :
    Calls Tryd.prog 4 #[v] w fun e w' => e = .returned (.bool true) ∧ Below w.heap.size w w' := by
  have HW : Hid (Lay w) := hw
  have HV : Hid (SRow w v vs) := hv
  obtain ⟨Z, E, hE, hN⟩ := New_form v vs hvl hvm
  rcases hE with ⟨rfl, _, hZ⟩ | ⟨_, h2⟩
  case inr => exact absurd hf h2
  have hpk : LM.Pk Z.data.toList (vs.map (fun x => LM.itemOf x.data.toList)) := by rw [hZ, strB_list]; exact fit_pk hf
  have hlen : (vs.map (fun x => LM.itemOf x.data.toList)).length = vs.length := by simp
  have hvals : (vs.map (fun x => LM.itemOf x.data.toList)).map (fun it => Value.string (strB (LM.val it))) = vs.map Value.string := by
    rw [List.map_map]
    refine List.map_congr_left (fun x hx => ?_)
    simp only [Function.comp]
    rw [LM.val_itemOf, show strB x.data.toList = x from bytes_ext (strB_list _)]
  have hll : vs.length ≤ 1048576 := by have := hpk.len; rwa [hlen] at this
  have HNW : Hid _ := hN
  have HWF : Hid (∀ W, Lay W → Calls Tryd.prog 8 #[.string Z, .bool false] W fun e w' => (∃ g, e = .returned (.tuple #[.slice (some ⟨g, 0, none⟩) vs.length vs.length, .int .i64 0]) ∧ RowAt w' g vs.length (vs.map Value.string) ∧ W.heap.size ≤ g) ∧ Below W.heap.size W w') := fun W hW => by
    refine (Walk_f Z _ hpk W hW).mono ?_
    rintro e w' ⟨⟨g, rfl, ho⟩, hb⟩
    have := walk_at ho
    rw [hlen, hvals] at this
    exact ⟨⟨g, by rw [hlen], this⟩, hb⟩
  have HWR : Hid (∀ W, Lay W → Calls Tryd.prog 8 #[.string Z, .bool true] W fun e w' => (∃ g, e = .returned (.tuple #[.slice (some ⟨g, 0, none⟩) vs.length vs.length, .int .i64 0]) ∧ (∃ ys : List Value, ys.length = vs.length ∧ RowAt w' g vs.length ys) ∧ W.heap.size ≤ g) ∧ Below W.heap.size W w') := fun W hW => by
    refine (Walk_b Z _ hpk W hW).mono ?_
    rintro e w' ⟨⟨g, rfl, ho⟩, hb⟩
    obtain ⟨h1, h2⟩ := walk_at (l := (vs.map (fun x => LM.itemOf x.data.toList)).reverse) ho
    rw [hlen] at h1
    exact ⟨⟨g, by rw [hlen], ⟨_, by simp, h1⟩, h2⟩, hb⟩
  have HWK : Hid (∀ W, Lay W → Calls Tryd.prog 11 #[] W fun e w' => e = .returned (.bool true) ∧ Below W.heap.size W w') := works_any
  obtain ⟨P, c, rfl⟩ := hv.form
  have HSM : Hid (∀ g W, RowAt W g vs.length (vs.map Value.string) → SRow W (.slice P vs.length c) vs → Calls Tryd.prog 12 #[.slice (some ⟨g, 0, none⟩) vs.length vs.length, .slice P vs.length c] W fun e w' => e = .returned (.bool true) ∧ Below W.heap.size W w') := fun g W hr hV => by
    have hr2 : SRow W (.slice (some ⟨g, 0, none⟩) vs.length vs.length) vs := by
      have := hr.own (by have := maxLen_big; omega)
      rw [List.length_map] at this
      exact srow_of_own this rfl
    obtain ⟨b, hb, hs⟩ := same_form (.slice (some ⟨g, 0, none⟩) vs.length vs.length) (.slice P vs.length c) vs vs (by omega) (by omega)
    have := hs W hr2 hV
    rwa [hb.2 rfl] at this
  clear hv hw hvl hvm hN hZ hpk hf hlen hvals
  go_enter Tryd.func4, Tryd.ntmps4
  go_wp2_with fail
  refine (show Calls _ _ _ _ _ from HNW.out _ HV.out HW.out).mono ?_
  rintro e w1 ⟨rfl, hb1⟩
  have HB1 : Hid (Below w.heap.size w w1) := hb1
  clear hb1
  go_wp2_with fail
  refine (show Calls _ _ _ _ _ from HWK.out _ (HW.out.on HB1.out)).mono ?_
  rintro e w2 ⟨rfl, hb2⟩
  have HB2 : Hid (Below w.heap.size w w2) := bel_to HB1.out hb2 (Nat.le_refl _)
  clear hb2
  go_wp2_with fail
  refine (show Calls _ _ _ _ _ from HWF.out _ (HW.out.on HB2.out)).mono ?_
  rintro e w3 ⟨⟨ga, rfl, hra, hga⟩, hb3⟩
  have HB3 : Hid (Below w.heap.size w w3) := bel_to HB2.out hb3 (Nat.le_refl _)
  have HRA : Hid (RowAt w3 ga vs.length (vs.map Value.string)) := hra
  have HGA : Hid (w.heap.size ≤ ga) := Nat.le_trans HB2.out.size hga
  clear hb3 hra hga
  go_wp2_with fail
  refine (show Calls _ _ _ _ _ from HWR.out _ (HW.out.on HB3.out)).mono ?_
  rintro e w4 ⟨⟨gb, rfl, ⟨ys, hys, hrb⟩, hgb⟩, hb4⟩
  have HB4 : Hid (Below w.heap.size w w4) := bel_to HB3.out hb4 (Nat.le_refl _)
  have HRA4 : Hid (RowAt w4 ga vs.length (vs.map Value.string)) := HRA.out.on hb4
  have HRB4 : Hid (RowAt w4 gb vs.length ys) := hrb
  have HYS : Hid _ := hys
  have HGB : Hid (w.heap.size ≤ gb ∧ ga ≠ gb) := ⟨Nat.le_trans HB3.out.size hgb, by have := HRA.out.lt; omega⟩
  clear hb4 hrb hgb hys
  have HLM : Hid ((vs.map Value.string).length = vs.length) := by show _ = _; simp
  go_wp2
  go_loopw [9] (fun ci wr => ∃ i : Nat, i ≤ vs.length ∧ ci = .int .i64 (i : Int) ∧ Below w.heap.size w wr ∧ RowAt wr ga vs.length (List.replicate i one ++ (vs.map Value.string).drop i) ∧ RowAt wr gb vs.length ys) (fun ci _ => vs.length - (intOf ci).toNat)
  case atStart => exact ⟨0, by omega, rfl, HB4.out, by simpa using HRA4.out, HRB4.out⟩
  case round =>
    obtain ⟨i, hi, rfl, hbr, hra, hrb⟩ := hrel
    have HBR : Hid (Below w.heap.size w wr) := hbr
    have HRB : Hid (RowAt wr gb vs.length ys) := hrb
    have HRAr : Hid (RowAt wr ga vs.length (List.replicate i one ++ (vs.map Value.string).drop i)) := hra
    clear hbr hrb
    by_cases hlt : i < vs.length
    · have hz0 : (0 : Int) ≤ (i : Int) := by omega
      have hz1 : (i : Int) < (vs.length : Int) := by omega
      have hlen := rep_len one (vs.map Value.string) i (by rw [HLM.out]; exact hi)
      rw [HLM.out] at hlen
      have hc := hra.cell i _ (List.getElem?_eq_getElem (by rw [hlen]; exact hlt))
      have hfz := hra.frozen i
      generalize (List.replicate i one ++ (vs.map Value.string).drop i)[i] = old at hc
      have HST : Hid (RowAt (wr.setCell ⟨ga, i, none⟩ one) ga vs.length (List.replicate (i + 1) one ++ (vs.map Value.string).drop (i + 1))) := by
        have := hra.set i one (by rw [hlen]; exact hlt)
        rwa [rep_set one _ i (by rw [HLM.out]; exact hlt)] at this
      clear hra hlen
      go_wp2
      refine ⟨⟨i + 1, hlt, rfl, HBR.out.setCell (p := ⟨ga, i, none⟩) HGA.out _, HST.out, HRB.out.other _ _ (fun e => HGB.out.2 e.symm)⟩, by simp [intOf]; omega⟩
    · have he : i = vs.length := by omega
      subst he
      have HRA5 : Hid (RowAt wr ga vs.length (List.replicate vs.length one)) := by
        have := HRAr.out
        rwa [List.drop_eq_nil_of_le (by rw [HLM.out]; omega), List.append_nil] at this
      clear hra HRAr
      obtain ⟨w5, rfl⟩ : ∃ w5, w5 = wr := ⟨_, rfl⟩
      go_wp2
      go_loopw [10] (fun ci wr => ∃ i : Nat, i ≤ vs.length ∧ ci = .int .i64 (i : Int) ∧ Below w.heap.size w wr ∧ RowAt wr ga vs.length (List.replicate vs.length one) ∧ RowAt wr gb vs.length (List.replicate i two ++ ys.drop i)) (fun ci _ => vs.length - (intOf ci).toNat)
      case atStart => exact ⟨0, by omega, rfl, HBR.out, HRA5.out, by simpa using HRB.out⟩
      case round =>
        obtain ⟨i, hi, rfl, hbr, hra, hrb⟩ := hrel
        have HBR : Hid (Below w.heap.size w wr) := hbr
        have HRA6 : Hid (RowAt wr ga vs.length (List.replicate vs.length one)) := hra
        have HRBr : Hid (RowAt wr gb vs.length (List.replicate i two ++ ys.drop i)) := hrb
        clear hbr hra
        by_cases hlt : i < vs.length
        · have hz0 : (0 : Int) ≤ (i : Int) := by omega
          have hz1 : (i : Int) < (vs.length : Int) := by omega
          have hlen := rep_len two ys i (by rw [HYS.out]; exact hi)
          rw [HYS.out] at hlen
          have hc := hrb.cell i _ (List.getElem?_eq_getElem (by rw [hlen]; exact hlt))
          have hfz := hrb.frozen i
          generalize (List.replicate i two ++ ys.drop i)[i] = old at hc
          have HST : Hid (RowAt (wr.setCell ⟨gb, i, none⟩ two) gb vs.length (List.replicate (i + 1) two ++ ys.drop (i + 1))) := by
            have := hrb.set i two (by rw [hlen]; exact hlt)
            rwa [rep_set two _ i (by rw [HYS.out]; exact hlt)] at this
          clear hrb hlen
          go_wp2
          refine ⟨⟨i + 1, hlt, rfl, HBR.out.setCell (p := ⟨gb, i, none⟩) HGB.out.1 _, HRA6.out.other _ _ HGB.out.2, HST.out⟩, by simp [intOf]; omega⟩
        · have he : i = vs.length := by omega
          subst he
          have HRB6 : Hid (RowAt wr gb vs.length (List.replicate vs.length two)) := by
            have := HRBr.out
            rwa [List.drop_eq_nil_of_le (by rw [HYS.out]; omega), List.append_nil] at this
          clear hrb HRBr
          obtain ⟨w6, rfl⟩ : ∃ w6, w6 = wr := ⟨_, rfl⟩
          obtain ⟨n, hn⟩ : ∃ n, vs.length = n := ⟨_, rfl⟩
          rw [hn] at HRA6 HRB6 hll HWF HSM HV
          have HNN : Hid _ := hn
          go_wp2
          rw [hn]
          go_loopw [13, 11, 12] (fun ci cc cd wr => ∃ i gc kc gd kd : Nat, i ≤ 40 ∧ ci = .int .i64 (i : Int) ∧ cc = .slice (some ⟨gc, 0, none⟩) (n + i) kc ∧ cd = .slice (some ⟨gd, 0, none⟩) (n + i) kd ∧ Below w.heap.size w wr ∧ RowAt wr ga n (List.replicate n one) ∧ RowAt wr gb n (List.replicate n two) ∧ RowAt wr gc kc (List.replicate n one ++ List.replicate i three) ∧ RowAt wr gd kd (List.replicate n two ++ List.replicate i four) ∧ kc ≤ maxLen ∧ kd ≤ maxLen ∧ w.heap.size ≤ gc ∧ w.heap.size ≤ gd ∧ ((i = 0 ∧ gc = ga ∧ kc = n ∧ gd = gb ∧ kd = n) ∨ (0 < i ∧ gc ≠ ga ∧ gc ≠ gb ∧ gc ≠ gd ∧ gd ≠ ga ∧ gd ≠ gb))) (fun ci _ _ _ => 40 - (intOf ci).toNat)
          case atStart => exact ⟨0, ga, n, gb, n, by omega, rfl, rfl, rfl, HBR.out, HRA6.out, HRB6.out, by simpa using HRA6.out, by simpa using HRB6.out, by have := maxLen_big; omega, by have := maxLen_big; omega, HGA.out, HGB.out.1, Or.inl ⟨rfl, rfl, rfl, rfl, rfl⟩⟩
          case round =>
            obtain ⟨i, gc, kc, gd, kd, hi, rfl, rfl, rfl, hbr, hra, hrb, hrc, hrd, hkc, hkd, hgc, hgd, hinv⟩ := hrel
            have HBR : Hid (Below w.heap.size w wr) := hbr
            have HRA7 : Hid _ := hra
            have HRB7 : Hid _ := hrb
            have HRC7 : Hid _ := hrc
            have HRD7 : Hid _ := hrd
            have HKC : Hid _ := hkc
            have HKD : Hid _ := hkd
            have HGC : Hid _ := hgc
            have HGD : Hid _ := hgd
            have HINV : Hid _ := hinv
            have hlc : (List.replicate n one ++ List.replicate i three).length = n + i := by simp
            have hld : (List.replicate n two ++ List.replicate i four).length = n + i := by simp
            have HLC : Hid _ := hlc
            have HLD : Hid _ := hld
            clear hbr hra hrb hrc hrd hkc hkd hgc hgd hinv hlc hld
            by_cases hlt : i < 40
            · go_wp2_with (at_builtin; go_must (refine wpList_append_row _ rfl _ _ rfl gc (n + i) kc (List.replicate n one ++ List.replicate i three) rfl HLC.out.symm (RowAt.alloc HRC7.out _) HKC.out ⟨wr.heap.size, 0, none⟩ ⟨#[51]⟩ rfl ?a3 ?a4 ?_))
              case a3 => exact cell_one_new wr (.string ⟨#[51]⟩) 9 0 _ rfl
              case a4 => rw [HLC.out]; omega
              intro gc' kc' w8 hrc' hkc' hcase
              have hcase : (kc < n + i + 1 ∧ (wr.alloc (.cells #[.string ⟨#[51]⟩] 9)).heap.size ≤ gc' ∧ (wr.alloc (.cells #[.string ⟨#[51]⟩] 9)).grownBy w8 none) ∨ (n + i + 1 ≤ kc ∧ gc' = gc ∧ (wr.alloc (.cells #[.string ⟨#[51]⟩] 9)).grownBy w8 (some gc)) := by
                rcases hcase with ⟨h1, h2, h3⟩ | h
                · exact Or.inl ⟨h1, by rw [World.size_alloc]; exact h2, h3⟩
                · exact Or.inr h
              have HNE : Hid (n + i + 1 ≤ kc → ga ≠ gc ∧ gb ≠ gc ∧ gd ≠ gc) := fun hle => by
                rcases HINV.out with ⟨h0, h1, h2, h3, h4⟩ | ⟨_, h1, h2, h3, _⟩
                · omega
                · exact ⟨fun e => h1 e.symm, fun e => h2 e.symm, fun e => h3 e.symm⟩
              obtain ⟨na, ka⟩ := app_keep hcase (h := ga) (fun hle => (HNE.out hle).1) (RowAt.alloc HRA7.out _).lt
              obtain ⟨nb, kb⟩ := app_keep hcase (h := gb) (fun hle => (HNE.out hle).2.1) (RowAt.alloc HRB7.out _).lt
              obtain ⟨nd, kdd⟩ := app_keep hcase (h := gd) (fun hle => (HNE.out hle).2.2) (RowAt.alloc HRD7.out _).lt
              obtain ⟨hb8, hg8⟩ := app_below hcase (HBR.out.alloc HBR.out.size _) HGC.out
              have HRA8 : Hid (RowAt w8 ga n (List.replicate n one)) := ka _ _ (RowAt.alloc HRA7.out _)
              have HRB8 : Hid (RowAt w8 gb n (List.replicate n two)) := kb _ _ (RowAt.alloc HRB7.out _)
              have HRD8 : Hid (RowAt w8 gd kd (List.replicate n two ++ List.replicate i four)) := kdd _ _ (RowAt.alloc HRD7.out _)
              have HRC8 : Hid (RowAt w8 gc' kc' (List.replicate n one ++ List.replicate (i + 1) three)) := by rw [List.replicate_succ']; exact hrc'
              have HB8 : Hid (Below w.heap.size w w8) := hb8
              have HD8 : Hid (gc' ≠ ga ∧ gc' ≠ gb ∧ gc' ≠ gd ∧ w.heap.size ≤ gc' ∧ kc' ≤ maxLen) := ⟨na, nb, nd, hg8, hkc'⟩
              clear hcase na ka nb kb nd kdd hb8 hg8 hrc' hkc' HNE
              go_wp2_with (at_builtin; go_must (refine wpList_append_row _ rfl _ _ rfl gd (n + i) kd (List.replicate n two ++ List.replicate i four) rfl HLD.out.symm (RowAt.alloc HRD8.out _) HKD.out ⟨w8.heap.size, 0, none⟩ ⟨#[52]⟩ rfl ?b3 ?b4 ?_))
              case b3 => exact cell_one_new w8 (.string ⟨#[52]⟩) 9 0 _ rfl
              case b4 => rw [HLD.out]; omega
              intro gd' kd' w9 hrd' hkd' hcase
              have hcase : (kd < n + i + 1 ∧ (w8.alloc (.cells #[.string ⟨#[52]⟩] 9)).heap.size ≤ gd' ∧ (w8.alloc (.cells #[.string ⟨#[52]⟩] 9)).grownBy w9 none) ∨ (n + i + 1 ≤ kd ∧ gd' = gd ∧ (w8.alloc (.cells #[.string ⟨#[52]⟩] 9)).grownBy w9 (some gd)) := by
                rcases hcase with ⟨h1, h2, h3⟩ | h
                · exact Or.inl ⟨h1, by rw [World.size_alloc]; exact h2, h3⟩
                · exact Or.inr h
              have HNE : Hid (n + i + 1 ≤ kd → ga ≠ gd ∧ gb ≠ gd ∧ gc' ≠ gd) := fun hle => by
                rcases HINV.out with ⟨h0, h1, h2, h3, h4⟩ | ⟨_, h1, h2, h3, h4, h5⟩
                · omega
                · exact ⟨fun e => h4 e.symm, fun e => h5 e.symm, HD8.out.2.2.1⟩
              obtain ⟨na, ka⟩ := app_keep hcase (h := ga) (fun hle => (HNE.out hle).1) (RowAt.alloc HRA8.out _).lt
              obtain ⟨nb, kb⟩ := app_keep hcase (h := gb) (fun hle => (HNE.out hle).2.1) (RowAt.alloc HRB8.out _).lt
              obtain ⟨nc, kcc⟩ := app_keep hcase (h := gc') (fun hle => (HNE.out hle).2.2) (RowAt.alloc HRC8.out _).lt
              obtain ⟨hb9, hg9⟩ := app_below hcase (HB8.out.alloc HB8.out.size _) HGD.out
              have HRA9 : Hid (RowAt w9 ga n (List.replicate n one)) := ka _ _ (RowAt.alloc HRA8.out _)
              have HRB9 : Hid (RowAt w9 gb n (List.replicate n two)) := kb _ _ (RowAt.alloc HRB8.out _)
              have HRC9 : Hid (RowAt w9 gc' kc' (List.replicate n one ++ List.replicate (i + 1) three)) := kcc _ _ (RowAt.alloc HRC8.out _)
              have HRD9 : Hid (RowAt w9 gd' kd' (List.replicate n two ++ List.replicate (i + 1) four)) := by rw [List.replicate_succ']; exact hrd'
              have HB9 : Hid (Below w.heap.size w w9) := hb9
              have HD9 : Hid (gd' ≠ ga ∧ gd' ≠ gb ∧ gc' ≠ gd' ∧ w.heap.size ≤ gd' ∧ kd' ≤ maxLen) := ⟨na, nb, fun e => nc e.symm, hg9, hkd'⟩
              clear hcase na ka nb kb nc kcc hb9 hg9 hrd' hkd' HNE
              go_wp2
              refine ⟨⟨i + 1, gc', kc', gd', kd', by omega, rfl, by rw [Nat.add_assoc], by rw [Nat.add_assoc], HB9.out, HRA9.out, HRB9.out, HRC9.out, HRD9.out, HD8.out.2.2.2.2, HD9.out.2.2.2.2, HD8.out.2.2.2.1, HD9.out.2.2.2.1, Or.inr ⟨by omega, HD8.out.1, HD8.out.2.1, HD9.out.2.2.1, HD9.out.1, HD9.out.2.1⟩⟩, by simp [intOf]; omega⟩
            · have he : i = 40 := by omega
              subst he
              obtain ⟨w10, rfl⟩ : ∃ w10, w10 = wr := ⟨_, rfl⟩
              go_wp2
              go_loopw [14] (fun ci wr => ∃ i : Nat, i ≤ n ∧ ci = .int .i64 (i : Int) ∧ Below w10.heap.size w10 wr) (fun ci _ => n - (intOf ci).toNat)
              case atStart => exact ⟨0, by omega, rfl, Below.refl _ _⟩
              case round =>
                obtain ⟨i, hi, rfl, hbr⟩ := hrel
                have HB11 : Hid (Below w10.heap.size w10 wr) := hbr
                clear hbr
                by_cases hlt : i < n
                · have hz0 : (0 : Int) ≤ (i : Int) := by omega
                  have hz1 : (i : Int) < (n : Int) := by omega
                  have hz2 : (i : Int) < (n : Int) + 40 := by omega
                  have c1 := (RowAt.on HRA7.out HB11.out).cell i one (by rw [List.getElem?_replicate, if_pos hlt])
                  have c2 := (RowAt.on HRB7.out HB11.out).cell i two (by rw [List.getElem?_replicate, if_pos hlt])
                  have c3 := (RowAt.on HRC7.out HB11.out).cell i one (by rw [List.getElem?_append_left (by simpa using hlt), List.getElem?_replicate, if_pos hlt])
                  have c4 := (RowAt.on HRD7.out HB11.out).cell i two (by rw [List.getElem?_append_left (by simpa using hlt), List.getElem?_replicate, if_pos hlt])
                  simp only [one, two] at c1 c2 c3 c4
                  go_wp2
                  exact ⟨⟨i + 1, hlt, rfl, HB11.out⟩, by simp [intOf]; omega⟩
                · have he : i = n := by omega
                  subst he
                  have HBW : Hid (Below w.heap.size w wr) := bel_to HBR.out HB11.out (Nat.le_refl _)
                  go_wp2_with fail
                  refine (show Calls _ _ _ _ _ from HWF.out _ (HW.out.on HBW.out)).mono ?_
                  rintro e w12 ⟨⟨gg, rfl, hrg, _⟩, hb12⟩
                  have HB12 : Hid (Below w10.heap.size w10 w12) := bel_to HB11.out hb12 (Nat.le_refl _)
                  have HBW12 : Hid (Below w.heap.size w w12) := bel_to HBR.out HB12.out (Nat.le_refl _)
                  have HRG : Hid _ := hrg
                  clear hb12 hrg
                  go_wp2_with fail
                  refine (show Calls _ _ _ _ _ from HSM.out _ _ HRG.out (HV.out.on HBW12.out)).mono ?_
                  rintro e w13 ⟨rfl, hb13⟩
                  have HB13 : Hid (Below w10.heap.size w10 w13) := bel_to HB12.out hb13 (Nat.le_refl _)
                  have HBW13 : Hid (Below w.heap.size w w13) := bel_to HBR.out HB13.out (Nat.le_refl _)
                  clear hb13
                  have c3 := (RowAt.on HRC7.out HB13.out).cell (i + 39) three (by rw [List.getElem?_append_right (by simp), List.length_replicate, show i + 39 - i = 39 by omega]; rfl)
                  have c4 := (RowAt.on HRD7.out HB13.out).cell (i + 39) four (by rw [List.getElem?_append_right (by simp), List.length_replicate, show i + 39 - i = 39 by omega]; rfl)
                  simp only [three, four] at c3 c4
                  go_wp2
                  go_ret
                  exact ⟨rfl, HBW13.out⟩
set_option maxHeartbeats 1000000 in
theorem Own_no (v : Value) (vs : List ByteArray) (hvl : vs.length * 16 ≤ 140737488351232) (hvm : ∀ x ∈ vs, x.size ≤ 281474976710656) (hf : ¬ fitI [] 0 0 vs) (w : World) (hv : SRow w v vs) (hw : Lay w) :
    Calls Tryd.prog 4 #[v] w fun e w' => e = .returned (.bool true) ∧ Below w.heap.size w w' := by
  have HW : Hid (Lay w) := hw
  have HV : Hid (SRow w v vs) := hv
  obtain ⟨Z, E, hE, hN⟩ := New_form v vs hvl hvm
  rcases hE with ⟨rfl, h2, hZ⟩ | ⟨rfl, _⟩
  case inl => exact absurd h2 hf
  have HNW : Hid _ := hN
  have HWK : Hid (∀ W, Lay W → Calls Tryd.prog 11 #[] W fun e w' => e = .returned (.bool true) ∧ Below W.heap.size W w') := works_any
  obtain ⟨P, c, rfl⟩ := hv.form
  clear hv hw hvl hvm hN hf
  go_enter Tryd.func4, Tryd.ntmps4
  go_wp2_with fail
  refine (show Calls _ _ _ _ _ from HNW.out _ HV.out HW.out).mono ?_
  rintro e w1 ⟨rfl, hb1⟩
  have HB1 : Hid (Below w.heap.size w w1) := hb1
  clear hb1
  go_wp2_with fail
  refine (show Calls _ _ _ _ _ from HWK.out _ (HW.out.on HB1.out)).mono ?_
  rintro e w2 ⟨rfl, hb2⟩
  have HB2 : Hid (Below w.heap.size w w2) := bel_to HB1.out hb2 (Nat.le_refl _)
  clear hb2
  go_wp2_with fail
  refine (show Calls _ _ _ _ _ from HWK.out _ (HW.out.on HB2.out)).mono ?_
  rintro e w3 ⟨rfl, hb3⟩
  have HB3 : Hid (Below w.heap.size w w3) := bel_to HB2.out hb3 (Nat.le_refl _)
  clear hb3
  go_wp2
  go_ret
  exact ⟨rfl, HB3.out⟩
theorem ListpackOwn_walk (v : Value) (vs : List ByteArray) (hvl : vs.length * 16 ≤ 140737488351232) (hvm : ∀ x ∈ vs, x.size ≤ 281474976710656) (w : World) (hv : SRow w v vs) (hnil : ∀ c, v = .slice none 0 c → c = 0) (hw : Lay w) :
    Calls Tryd.prog 4 #[v] w fun e w' => e = .returned (.bool true) ∧ Below w.heap.size w w' := by
  by_cases h : fitI [] 0 0 vs
  · exact Own_fit v vs hvl hvm h w hv hw
  · exact Own_no v vs hvl hvm h w hv hw
end Go.Proofs.YtafphabeihoijaaDoor
