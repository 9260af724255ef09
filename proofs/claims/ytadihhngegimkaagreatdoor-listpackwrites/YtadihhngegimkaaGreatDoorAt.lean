import Derived.Test.YtadihhngegimkaaGreatDoorApi1
namespace Go.Proofs.YtadihhngegimkaaGreatDoor
open Go.RowKit
set_option linter.unusedVariables false
attribute [local go_sem] Oper.semAt_some
def atV (l : List LM.Item) (i : Int) : Value := match (if 0 ≤ i then l[i.toNat]? else none) with
  | some it => .tuple #[.string (strB (LM.val it)), .int .i64 0]
  | none => .tuple #[.string ⟨#[]⟩, .int .i64 6]
theorem atV_at (l : List LM.Item) (k : Nat) (h : k < l.length) : atV l (k : Int) = .tuple #[.string (strB (LM.val l[k])), .int .i64 0] := by
  unfold atV; rw [if_pos (by omega), Int.toNat_natCast, List.getElem?_eq_getElem h]
theorem atV_no (l : List LM.Item) (i : Int) (h : ¬ (0 ≤ i ∧ i < l.length)) : atV l i = .tuple #[.string ⟨#[]⟩, .int .i64 6] := by
  unfold atV
  by_cases h0 : 0 ≤ i
  · rw [if_pos h0, List.getElem?_eq_none (by omega)]
  · rw [if_neg h0]
theorem res_At {W : World} {S E : Nat} {z : ByteArray} {x : Int} {tmps : Array Value} (h2 : tmps[4]? = some (.pointer (some ⟨S, 0, none⟩))) (h3 : tmps[5]? = some (.pointer (some ⟨E, 0, none⟩)))
    (hS : W.heap[S]? = some (.cells #[.string z] 9)) (hE : W.heap[E]? = some (.cells #[.int .i64 x] 24)) :
    (results Tryz.f7 tmps).run Tryz.prog W = .ok (.tuple #[.string z, .int .i64 x]) W := by
  obtain ⟨l0, lf⟩ := row1 hS
  obtain ⟨e0, ef⟩ := row1 hE
  simp [results, Tryz.results7, go_sem, l0, e0, h2, h3]
set_option maxHeartbeats 2000000 in
set_option maxRecDepth 100000 in
theorem At_ok (p : ByteArray) (l : List LM.Item) (hpk : LM.Pk p.data.toList l) (i : Int) (w : World) (hw : Lay w) :
    Calls Tryz.prog 7 #[.string p, .int .i64 i] w fun e w' => e = .returned (atV l i) ∧ Below w.heap.size w w' := by
  have HW : Hid (Lay w) := hw
  have HPK : Hid _ := hpk
  have hl := hpk.wf
  have hs : LM.bsum l ≤ 1073741824 := by have := hpk.size; rw [hpk.eq, LM.build_len] at this; omega
  have HRH : Hid (∀ W, Lay W → Calls Tryz.prog 24 #[.string p] W (rdP p W)) := fun W hW => read_any p (by have := hpk.size; rw [list_len] at this; omega) W hW
  clear hw hpk
  refine calls_of_wpB (n := 10) Tryz.func7 rfl ?_
  simp only [Tryz.ntmps7, List.size_toArray, List.length_cons, List.length_nil, Nat.reduceAdd, Nat.reduceSub, Array.replicate_succ, Array.replicate_zero, List.push_toArray, List.append_toArray, List.nil_append, List.cons_append]
  refine wpB_then (n := 10) ?_
  gi_wp2
  obtain ⟨W0, hW0⟩ : ∃ W0, W0 = ((w.alloc (.cells #[.int .i64 i] 3)).alloc (.cells #[.string ⟨#[]⟩] 9)).alloc (.cells #[.int .i64 0] 24) := ⟨_, rfl⟩
  have HB0 : Hid (Below w.heap.size w W0) := by rw [hW0]; exact (((Below.refl _ w).alloc (Nat.le_refl _) _).alloc (by simp) _).alloc (by simp; omega) _
  have HI0 : Hid (W0.heap[w.heap.size]? = some (.cells #[.int .i64 i] 3)) := by
    rw [hW0]; exact keep_row (keep_row (one_alloc w _) ((Below.refl _ _).alloc (Nat.le_refl _) _)) ((Below.refl _ _).alloc (Nat.le_refl _) _)
  have HS0 : Hid (W0.heap[w.heap.size + 1]? = some (.cells #[.string ⟨#[]⟩] 9)) := by
    rw [hW0]; refine keep_row ?_ ((Below.refl _ _).alloc (Nat.le_refl _) _)
    have := one_alloc (w.alloc (.cells #[.int .i64 i] 3)) (.cells #[.string ⟨#[]⟩] 9)
    rwa [World.size_alloc] at this
  have HE0 : Hid (W0.heap[w.heap.size + 1 + 1]? = some (.cells #[.int .i64 0] 24)) := by
    rw [hW0]; have := one_alloc ((w.alloc (.cells #[.int .i64 i] 3)).alloc (.cells #[.string ⟨#[]⟩] 9)) (.cells #[.int .i64 0] 24)
    rwa [World.size_alloc, World.size_alloc] at this
  rw [← hW0]
  clear hW0
  refine wpB_then (n := 10) ?_
  gi_wp2_with fail
  refine ⟨trivial, (callsIn_wide.2 (HRH.out _ (HW.out.on HB0.out))).mono ?_⟩
  rintro e w1 ⟨⟨l', hl', rfl⟩ | ⟨hno, rfl⟩, hb1⟩
  case inr => exact absurd HPK.out (hno l)
  have he : l' = l := hl'.uniq HPK.out
  subst he
  have HB1 : Hid (Below w.heap.size w w1) := bel_to HB0.out hb1 (Nat.le_refl _)
  have HI1 : Hid _ := keep_row HI0.out hb1
  have HS1 : Hid _ := keep_row HS0.out hb1
  have HE1 : Hid _ := keep_row HE0.out hb1
  have hBs : (strB (LM.bodyOf l')).size = LM.bsum l' := by rw [strB_size, LM.bodyOf_len]
  have HBL : Hid ((strB (LM.bodyOf l')).data.toList = LM.bodyOf l') := strB_list _
  clear hb1 hl'
  generalize strB (LM.bodyOf l') = Bo at *
  gi_wp2
  obtain ⟨W1, hW1⟩ : ∃ W1, W1 = w1.alloc (.cells #[.string Bo, .int .i64 (l'.length : Int)] 54) := ⟨_, rfl⟩
  have hbw1 : Below w1.heap.size w1 W1 := by rw [hW1]; exact (Below.refl _ _).alloc (Nat.le_refl _) _
  have HP2 : Hid (W1.heap[w1.heap.size]? = some (.cells #[.string Bo, .int .i64 (l'.length : Int)] 54)) := by rw [hW1]; exact one_alloc w1 _
  have HB2 : Hid (Below w.heap.size w W1) := bel_to HB1.out hbw1 (Nat.le_refl _)
  have HI2 : Hid _ := keep_row HI1.out hbw1
  have HS2 : Hid _ := keep_row HS1.out hbw1
  have HE2 : Hid _ := keep_row HE1.out hbw1
  rw [← hW1]
  clear hW1 hbw1
  obtain ⟨p0, p1, pf⟩ := prow2 HP2.out
  refine wpB_then (n := 10) ?_
  gi_wp2
  refine wpB_seq (wpB_then (n := 10) ?_)
  gi_wp2_with fail
  refine ⟨trivial, (callsIn_wide.2 (fwd_any Bo (l'.length : Int) _)).mono ?_⟩
  rintro e w4 ⟨rfl, hw4⟩
  have HX2 : Hid (w4.heap[W1.heap.size]? = some (.cells #[.string Bo, .int .i64 (l'.length : Int)] 54)) := by rw [hw4]; exact one_alloc W1 _
  have hs4 : w4.heap.size = W1.heap.size + 1 := by rw [hw4, World.size_alloc]
  have hbw : Below W1.heap.size W1 w4 := by rw [hw4]; exact (Below.refl _ _).alloc (Nat.le_refl _) _
  have HI4 : Hid _ := keep_row HI2.out hbw
  have HS4 : Hid _ := keep_row HS2.out hbw
  have HE4 : Hid _ := keep_row HE2.out hbw
  have HB4 : Hid (Below w.heap.size w w4) := bel_to HB2.out hbw (Nat.le_refl _)
  have hlt3 : w.heap.size + 1 + 1 < W1.heap.size := row_lt HE2.out
  clear hw4 hbw p0 p1 pf
  gi_wp2
  refine wpB_block ?_
  have hseq := fwd_seq 9 Bo (l'.length : Int) W1.heap.size (l'.length + LM.bsum l' + 1) w4.heap.size (by omega) (by omega)
  rw [HBL.out, LM.parse_body l' _ 0 0 hl (by omega)] at hseq
  refine WpB_act (fun a0 ha0 => ?_)
  refine wpB_range (n := 10) (α := LM.Ent) (encs := encs) (L := LM.entsFrom 0 0 l') (bad := false) (pch := pch) (box := Box Bo (l'.length : Int) W1.heap.size) Tryz.func7 (gf := 40) (lb := #[.pointer (some ⟨W1.heap.size, 0, none⟩)]) (by rw [ha0]; rfl) (enters_of Tryz.func40 (by kernel_rfl) rfl) hseq (fun _ => rfl)
    (fun pre W => W.heap[w.heap.size]? = some (.cells #[.int .i64 i] 3) ∧ W.heap[w.heap.size + 1]? = some (.cells #[.string ⟨#[]⟩] 9) ∧ W.heap[w.heap.size + 1 + 1]? = some (.cells #[.int .i64 0] 24) ∧ W.heap[W1.heap.size]? = some (.cells #[.string Bo, .int .i64 (l'.length : Int)] 54) ∧ Below w.heap.size w W ∧ ¬ (0 ≤ i ∧ i < (pre.length : Int)))
    (fun cd pre W => cd = .ret ∧ (∃ z, atV l' i = .tuple #[.string z, .int .i64 0] ∧ W.heap[w.heap.size + 1]? = some (.cells #[.string z] 9)) ∧ W.heap[w.heap.size + 1 + 1]? = some (.cells #[.int .i64 0] 24) ∧ Below w.heap.size w W)
    (fun _ => False)
    ?hI ?hIx (fun _ _ _ _ hs _ _ => hs) ?hbox ?h0
    (fun (x : LM.Ent) (a' : Act) (W : World) => ∃ kk : Nat, a' = { tmps := (((a0.tmps.setIfInBounds 20 (.int .i64 (x.place : Int))).setIfInBounds 21 (encE x.it x.begin x.span)).setIfInBounds 8 (.int .i64 (x.place : Int))).setIfInBounds 9 (.pointer (some ⟨kk, 0, none⟩)), defers := [] } ∧ W.heap[kk]? = some (.cells #[.string (strB x.it.txt), .int .i64 x.it.num, .bool x.it.isN, .int .i64 (x.begin : Int), .int .i64 (x.span : Int)] 63)) ?hAx ?assign ?body ?done ?stop ?pan
  case hI =>
    rintro s A B row ⟨h1, h2, h3, h4, h5, h6⟩ hg hr
    exact ⟨own_row h1 hg hr, own_row h2 hg hr, own_row h3 hg hr, own_row h4 hg hr, ownFrom_below (β := Unit) (Nat.le_refl _) (by have := HB4.out.size; exact this) () A B row h5 hg hr, h6⟩
  case hIx =>
    rintro cd s A B row ⟨h1, ⟨z, h2, h2'⟩, h3, h4⟩ hg hr
    exact ⟨h1, ⟨z, h2, own_row h2' hg hr⟩, own_row h3 hg hr, ownFrom_below (β := Unit) (Nat.le_refl _) (by have := HB4.out.size; exact this) () A B row h4 hg hr⟩
  case hbox =>
    rintro pre W ⟨h1, h2, h3, h4, h5, h6⟩
    exact ⟨h4, (HW.out.on h5).wid⟩
  case h0 => exact ⟨HI4.out, HS4.out, HE4.out, HX2.out, HB4.out, by simp⟩
  case hAx =>
    rintro x a' s A B row ⟨kk, h1, h2⟩ hg hr
    exact ⟨kk, h1, own_row h2 hg hr⟩
  case pan => intro D W _ h; rcases h with h | ⟨h, _⟩; exact h.elim; cases h
  case assign =>
    intro ll pre x W K hpre hI hK
    have HKK : Hid _ := hK
    clear hK hI hseq
    obtain ⟨pl, ⟨t, m, q⟩, a, n⟩ := x
    obtain ⟨T, hT⟩ : ∃ T, strB t = T := ⟨_, rfl⟩
    have HA0 : Hid _ := ha0
    rw [ha0]
    simp only [encs, encE, hT, List.zip_toArray, List.zip_cons_cons, List.zip_nil_right, List.foldl_toArray, List.foldl_cons, List.foldl_nil, List.setIfInBounds_toArray, List.set_cons_zero, List.set_cons_succ]
    clear ha0
    gi_wp2
    refine HKK.out _ _ ((Below.refl _ W).alloc (Nat.le_refl _) _) ⟨W.heap.size, ?_, ?_⟩
    · rw [HA0.out, ← hT]; rfl
    · rw [hT]; exact one_alloc W _
  case body =>
    rintro ll pre x a' W hll hpre ⟨hI, hS, hE, hX, hb, hni⟩ ⟨kk, ha', hrow⟩
    have hget := ents_pre hpre
    have hlen : pre.length < l'.length := by have := LM.pre_len hpre; rwa [LM.ents_len] at this
    rw [LM.ents_get l' 0 0 pre.length hlen] at hget
    have hx := (Option.some.inj hget).symm
    simp only [Nat.zero_add] at hx
    have hxi : x.it = l'[pre.length] := by rw [hx]
    have hxp : x.place = pre.length := by rw [hx]
    have HVA : Hid (∀ W, Laid W → Calls Tryz.prog 26 #[.agg #[.string (strB x.it.txt), .int .i64 x.it.num, .bool x.it.isN]] W fun e w' => e = .returned (.string (strB (LM.val x.it))) ∧ Below W.heap.size W w') := fun W hW => value_any x.it (by rw [hxi]; exact hl _ (List.getElem_mem hlen)) W hW
    have HAT : Hid (atV l' (pre.length : Int) = .tuple #[.string (strB (LM.val x.it)), .int .i64 0]) := by show _ = _; rw [atV_at l' pre.length hlen, hxi]
    clear hx hget hxi
    obtain ⟨pl, ⟨t, m, q⟩, a, n⟩ := x
    simp only at hxp HVA HAT
    subst hxp
    generalize strB (LM.val ⟨t, m, q⟩) = VV at *
    obtain ⟨T, hT⟩ : ∃ T, strB t = T := ⟨_, rfl⟩
    simp only [encE, hT] at ha' hrow HVA
    have HI : Hid _ := hI
    have HS : Hid _ := hS
    have HE : Hid _ := hE
    have HXX : Hid _ := hX
    have HB : Hid (Below w.heap.size w W) := hb
    obtain ⟨i0, if0⟩ := row1 hI
    obtain ⟨k0, k1, k2, k3, k4, kf⟩ := row5 hrow
    rw [ha', ha0]
    simp only [List.setIfInBounds_toArray, List.set_cons_zero, List.set_cons_succ]
    by_cases hpe : (pre.length : Int) = i
    · have hpt : ((pre.length : Int) == i) = true := by simpa using hpe
      have HPE : Hid _ := hpe
      clear ha' ha0 hI hS hE hX hb hpre hseq hpe hni
      gi_wp2_with fail
      refine ⟨trivial, (show CallsIn (Fence.wide.inRound ll) 7 _ _ _ _ _ from callsIn_wide.2 (HVA.out _ (HW.out.on HB.out).laid)).mono ?_⟩
      rintro e w5 ⟨rfl, hb5⟩
      have HS5 : Hid _ := keep_row HS.out hb5
      have HE5 : Hid _ := keep_row HE.out hb5
      have HB5 : Hid (Below W.heap.size W w5) := hb5
      obtain ⟨s0, sf⟩ := row1 HS5.out
      obtain ⟨e0, ef⟩ := row1 HE5.out
      clear hb5 i0 if0 k0 k1 k2 k3 k4 kf
      gi_wp2
      refine ⟨((KA.of_below HB5.out).trans (KA.setCell _ _ _ (by show w.heap.size + 1 < w4.heap.size; omega))).trans (KA.setCell _ _ _ (by show w.heap.size + 1 + 1 < w4.heap.size; omega)), rfl, ⟨VV, ?_, ?_⟩, ?_, ?_⟩
      · rw [← HPE.out]; exact HAT.out
      · rw [heap_setCell_other _ _ _ _ (show w.heap.size + 1 ≠ w.heap.size + 1 + 1 by omega), heap_setCell_same _ _ _ _ _ _ HS5.out]; rfl
      · rw [heap_setCell_same _ _ _ _ _ _ ((heap_setCell_other _ _ _ _ (show w.heap.size + 1 + 1 ≠ w.heap.size + 1 by omega)).trans HE5.out)]; rfl
      · exact ((bel_to HB.out HB5.out (Nat.le_refl _)).setCell (p := ⟨w.heap.size + 1, 0, none⟩) (by show w.heap.size ≤ w.heap.size + 1; omega) _).setCell (p := ⟨w.heap.size + 1 + 1, 0, none⟩) (by show w.heap.size ≤ w.heap.size + 1 + 1; omega) _
    · have hpf : ((pre.length : Int) == i) = false := by simpa using hpe
      have HNI : Hid (¬ (0 ≤ i ∧ i < ((pre.length + 1 : Nat) : Int))) := by show ¬ _; omega
      clear ha' ha0 hI hS hE hX hb hpre hseq hpe hni
      gi_wp2
      exact ⟨KA.refl _ _, HI.out, HS.out, HE.out, HXX.out, HB.out, by have := HNI.out; simpa using this⟩
  case stop =>
    rintro D cd pre W hD hpre ⟨rfl, ⟨z, hz, hr⟩, he, hb⟩ hDr
    rw [ha0]
    refine wpB_of (n := 10) ?_
    gi_wp2
    refine ⟨by simp, .inl ⟨_, _, rfl, run_takeDeferred hDr, ?_⟩⟩
    have h1 : w.heap.size + 1 ≠ D := by rintro rfl; rw [hr] at hDr; cases hDr
    have h2 : w.heap.size + 1 + 1 ≠ D := by rintro rfl; rw [he] at hDr; cases hDr
    exact ⟨_, res_At rfl rfl (put_keep hr h1) (put_keep he h2), (by first | rfl | rw [hz]), put_below hb (by have := HB4.out.size; omega)⟩
  case done =>
    rintro D W hD _ ⟨hI, hS, hE, hX, hb, hni⟩ hDr
    rw [ha0]
    rw [LM.ents_len] at hni
    have HAT : Hid (atV l' i = .tuple #[.string ⟨#[]⟩, .int .i64 6]) := atV_no l' i hni
    obtain ⟨s0, sf⟩ := row1 hS
    obtain ⟨e0, ef⟩ := row1 hE
    have HS : Hid _ := hS
    have HE : Hid _ := hE
    have HDR : Hid _ := hDr
    have HB : Hid (Below w.heap.size w W) := hb
    clear ha0 hI hX hb hni hDr hseq hS hE
    refine wpB_then (n := 10) ?_
    gi_wp2
    refine wpB_of (n := 10) ?_
    gi_wp2
    have h1 : w.heap.size + 1 ≠ D := by rintro rfl; have := HDR.out; rw [HS.out] at this; cases this
    have h2 : w.heap.size + 1 + 1 ≠ D := by rintro rfl; have := HDR.out; rw [HE.out] at this; cases this
    obtain ⟨W6, hW6⟩ : ∃ W6, ((W.setCell ⟨w.heap.size + 1, 0, none⟩ (.string ⟨#[]⟩)).setCell ⟨w.heap.size + 1 + 1, 0, none⟩ (.int .i64 6)) = W6 := ⟨_, rfl⟩
    have hd2 : W6.heap[D]? = some (.deferred (some [])) := by rw [← hW6]; exact (heap_setCell_other _ _ _ _ (fun e => h2 e.symm)).trans ((heap_setCell_other _ _ _ _ (fun e => h1 e.symm)).trans HDR.out)
    have hs6 : W6.heap[w.heap.size + 1]? = some (.cells #[.string ⟨#[]⟩] 9) := by rw [← hW6, heap_setCell_other _ _ _ _ (show w.heap.size + 1 ≠ w.heap.size + 1 + 1 by omega), heap_setCell_same _ _ _ _ _ _ HS.out]; rfl
    have he6 : W6.heap[w.heap.size + 1 + 1]? = some (.cells #[.int .i64 6] 24) := by rw [← hW6, heap_setCell_same _ _ _ _ _ _ ((heap_setCell_other _ _ _ _ (show w.heap.size + 1 + 1 ≠ w.heap.size + 1 by omega)).trans HE.out)]; rfl
    have hb6 : Below w.heap.size w W6 := by rw [← hW6]; exact (HB.out.setCell (p := ⟨w.heap.size + 1, 0, none⟩) (by show w.heap.size ≤ w.heap.size + 1; omega) _).setCell (p := ⟨w.heap.size + 1 + 1, 0, none⟩) (by show w.heap.size ≤ w.heap.size + 1 + 1; omega) _
    rw [hW6]
    refine ⟨by simp, .inl ⟨_, _, rfl, run_takeDeferred hd2, ?_⟩⟩
    exact ⟨_, res_At rfl rfl (put_keep hs6 h1) (put_keep he6 h2), (by first | rw [HAT.out] | rfl), put_below hb6 (by have := HB4.out.size; omega)⟩
end Go.Proofs.YtadihhngegimkaaGreatDoor
