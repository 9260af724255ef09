import Derived.Test.YtafphabeihoijaaDoorBeg
import Derived.Test.YtafphabeihoijaaDoorBwd
namespace Go.Proofs.YtafphabeihoijaaDoor
open Go.RowKit
set_option linter.unusedVariables false
attribute [local go_sem] Oper.semAt_some
theorem ents_pl (l : List LM.Item) (x : LM.Ent) (h : x ∈ LM.entsFrom 0 0 l) : ∃ j, ∃ hj : j < l.length, x = ⟨j, l[j], LM.bsum (l.take j), LM.dsize l[j]⟩ := by
  obtain ⟨j, hj⟩ := List.getElem?_of_mem h
  have hlt : j < l.length := by
    have := (List.getElem?_eq_some_iff.1 hj).1
    rwa [LM.ents_len] at this
  have := LM.ents_get l 0 0 j hlt
  simp only [Nat.zero_add] at this
  exact ⟨j, hlt, Option.some.inj (hj.symm.trans this)⟩
theorem ents_mem (l : List LM.Item) (i : Nat) (hi : i < l.length) : ∃ x ∈ LM.entsFrom 0 0 l, x.place = i := by
  have := LM.ents_get l 0 0 i hi
  simp only [Nat.zero_add] at this
  exact ⟨_, List.mem_of_getElem? this, rfl⟩
set_option maxHeartbeats 1000000 in
set_option maxRecDepth 100000 in
theorem begin_f (l : List LM.Item) (hl : ∀ it ∈ l, LM.Wf it) (hs : LM.bsum l ≤ 1073741824) (i : Nat) (hi : i < l.length) (hh : i ≤ l.length / 2) (w : World) (hw : Lay w) :
    Calls Tryd.prog 47 #[.agg #[.string (strB (LM.bodyOf l)), .int .i64 (l.length : Int)], .int .i64 i] w fun e w' => e = .returned (.int .i64 (LM.bsum (l.take i) : Nat)) ∧ Below w.heap.size w w' := by
  have HW : Hid (Lay w) := hw
  have hBs : (strB (LM.bodyOf l)).size = LM.bsum l := by rw [strB_size, LM.bodyOf_len]
  have HBL : Hid ((strB (LM.bodyOf l)).data.toList = LM.bodyOf l) := strB_list _
  have hge := LM.bsum_ge l
  generalize strB (LM.bodyOf l) = Bo at *
  have hne : ((i : Int) == (l.length : Int)) = false := by simp; omega
  have hnl : ¬ ((i : Int) = (l.length : Int)) := by omega
  have hdh : decide ((l.length : Int) / 2 < (i : Int)) = false := by simp; omega
  have hdt : Int.tdiv (l.length : Int) 2 = (l.length : Int) / 2 := Int.tdiv_eq_ediv_of_nonneg (by omega)
  clear hw
  refine calls_of_wpB (n := 10) Tryd.func47 rfl ?_
  simp only [Tryd.ntmps47, List.size_toArray, List.length_cons, List.length_nil, Nat.reduceAdd, Nat.reduceSub, Array.replicate_succ, Array.replicate_zero, List.push_toArray, List.append_toArray, List.nil_append, List.cons_append]
  refine wpB_then (n := 10) ?_
  gi_wp2
  obtain ⟨W1, hW1⟩ : ∃ W1, W1 = (w.alloc (.cells #[.string Bo, .int .i64 (l.length : Int)] 50)).alloc (.cells #[.int .i64 (i : Int)] 3) := ⟨_, rfl⟩
  have HB1 : Hid (Below w.heap.size w W1) := by rw [hW1]; exact ((Below.refl _ w).alloc (Nat.le_refl _) _).alloc (by simp) _
  have HP1 : Hid (W1.heap[w.heap.size]? = some (.cells #[.string Bo, .int .i64 (l.length : Int)] 50)) := by
    rw [hW1]; exact keep_row (one_alloc w _) ((Below.refl _ _).alloc (Nat.le_refl _) _)
  have HI1 : Hid (W1.heap[w.heap.size + 1]? = some (.cells #[.int .i64 (i : Int)] 3)) := by
    rw [hW1]
    have := one_alloc (w.alloc (.cells #[.string Bo, .int .i64 (l.length : Int)] 50)) (.cells #[.int .i64 (i : Int)] 3)
    rwa [World.size_alloc] at this
  rw [← hW1]
  clear hW1
  obtain ⟨p0, p1, pf⟩ := prow2 HP1.out
  obtain ⟨i0, if0⟩ := row1 HI1.out
  refine wpB_then (n := 10) ?_
  gi_wp2
  refine wpB_then (n := 10) ?_
  gi_wp2_with fail
  refine ⟨trivial, (callsIn_wide.2 (fwd_any Bo (l.length : Int) _)).mono ?_⟩
  rintro e w3 ⟨rfl, hw3⟩
  have HX3 : Hid (w3.heap[W1.heap.size]? = some (.cells #[.string Bo, .int .i64 (l.length : Int)] 50)) := by rw [hw3]; exact one_alloc W1 _
  have HS3 : Hid (w3.heap.size = W1.heap.size + 1) := by show _ = _; rw [hw3, World.size_alloc]
  have hbw : Below W1.heap.size W1 w3 := by rw [hw3]; exact (Below.refl _ _).alloc (Nat.le_refl _) _
  have HP3 : Hid _ := keep_row HP1.out hbw
  have HI3 : Hid _ := keep_row HI1.out hbw
  have HB3 : Hid (Below w.heap.size w w3) := bel_to HB1.out hbw (Nat.le_refl _)
  have hlt1 : w.heap.size + 1 < W1.heap.size := row_lt HI1.out
  clear hw3 hbw p0 p1 pf i0 if0
  obtain ⟨p0, p1, pf⟩ := prow2 HP3.out
  obtain ⟨i0, if0⟩ := row1 HI3.out
  gi_wp2
  refine wpB_then (n := 10) ?_
  gi_wp2
  obtain ⟨bx, hbx⟩ : ∃ bx, W1.heap.size = bx := ⟨_, rfl⟩
  rw [hbx]
  rw [hbx] at HX3
  obtain ⟨w4, hw4⟩ : ∃ w4, w4 = w3 := ⟨_, rfl⟩
  rw [← hw4]
  have HS4 : Hid (w4.heap.size = w3.heap.size) := by show _ = _; rw [hw4]
  have HX4 : Hid (w4.heap[bx]? = some (.cells #[.string Bo, .int .i64 (l.length : Int)] 50)) := by rw [hw4]; exact HX3.out
  have HP4 : Hid (w4.heap[w.heap.size]? = some (.cells #[.string Bo, .int .i64 (l.length : Int)] 50)) := by rw [hw4]; exact HP3.out
  have HI4 : Hid (w4.heap[w.heap.size + 1]? = some (.cells #[.int .i64 (i : Int)] 3)) := by rw [hw4]; exact HI3.out
  have HB4 : Hid (Below w.heap.size w w4) := by rw [hw4]; exact HB3.out
  clear hw4 p0 p1 pf i0 if0
  refine wpB_then (n := 10) ?_
  gi_wp2
  obtain ⟨w5, hw5⟩ : ∃ w5, w5 = w4.alloc (.cells #[.int .i64 0] 3) := ⟨_, rfl⟩
  rw [← hw5]
  obtain ⟨kb, hkb⟩ : ∃ kb, w4.heap.size = kb := ⟨_, rfl⟩
  rw [hkb]
  have HR5 : Hid (w5.heap[kb]? = some (.cells #[.int .i64 0] 3)) := by rw [hw5, ← hkb]; exact one_alloc w4 _
  have hs5 : w5.heap.size = kb + 1 := by rw [hw5, World.size_alloc, hkb]
  have hbw : Below w4.heap.size w4 w5 := by rw [hw5]; exact (Below.refl _ _).alloc (Nat.le_refl _) _
  have HX5 : Hid _ := keep_row HX4.out hbw
  have HI5 : Hid _ := keep_row HI4.out hbw
  have HB5 : Hid (Below w.heap.size w w5) := bel_to HB4.out hbw (Nat.le_refl _)
  clear hw5 hbw
  refine wpB_seq (wpB_then (n := 10) ?_)
  gi_wp2
  refine wpB_block ?_
  have hseq := fwd_seq 9 Bo (l.length : Int) bx (l.length + LM.bsum l + 1) w5.heap.size (by omega) (by omega)
  rw [HBL.out, LM.parse_body l _ 0 0 hl (by omega)] at hseq
  have HDIS : Hid (bx < kb ∧ w.heap.size + 1 < kb ∧ w.heap.size + 1 < w5.heap.size) := by
    have h1 := row_lt HX4.out
    have h2 := row_lt HI4.out
    have h3 := row_lt HI5.out
    refine ⟨by omega, by omega, h3⟩
  have HSQ : Hid _ := hseq
  clear hseq
  refine WpB_act (fun a0 ha0 => ?_)
  refine wpB_range (n := 10) (α := LM.Ent) (encs := encs) (L := (LM.entsFrom 0 0 l)) (bad := false) (pch := pch) (box := Box Bo (l.length : Int) bx) Tryd.func47 (gf := 40) (lb := #[.pointer (some ⟨bx, 0, none⟩)]) (by rw [ha0]; rfl) (enters_of Tryd.func40 (by kernel_rfl) rfl) HSQ.out (fun _ => rfl)
    (fun pre W => W.heap[w.heap.size + 1]? = some (.cells #[.int .i64 (i : Int)] 3) ∧ W.heap[kb]? = some (.cells #[.int .i64 0] 3) ∧ W.heap[bx]? = some (.cells #[.string Bo, .int .i64 (l.length : Int)] 50) ∧ Below w.heap.size w W ∧ ∀ y ∈ pre, y.place ≠ i)
    (fun cd pre W => cd = .exit 0 ∧ W.heap[kb]? = some (.cells #[.int .i64 (LM.bsum (l.take i) : Nat)] 3) ∧ Below w.heap.size w W)
    (fun _ => False)
    ?hI ?hIx (fun _ _ _ _ hs _ _ => hs) ?hbox ?h0
    (fun (x : LM.Ent) (a' : Act) (W : World) => ∃ kk : Nat, a' = { tmps := (((a0.tmps.setIfInBounds 26 (.int .i64 (x.place : Int))).setIfInBounds 27 (encE x.it x.begin x.span)).setIfInBounds 7 (.int .i64 (x.place : Int))).setIfInBounds 8 (.pointer (some ⟨kk, 0, none⟩)), defers := [] } ∧ W.heap[kk]? = some (.cells #[.string (strB x.it.txt), .int .i64 x.it.num, .bool x.it.isN, .int .i64 (x.begin : Int), .int .i64 (x.span : Int)] 59)) ?hAx ?assign ?body ?done ?stop ?pan
  case hI =>
    rintro s A B row ⟨h2, h3, h4, h5, h6⟩ hg hr
    exact ⟨own_row h2 hg hr, own_row h3 hg hr, own_row h4 hg hr, ownFrom_below (β := Unit) (Nat.le_refl _) HB5.out.size () A B row h5 hg hr, h6⟩
  case hIx =>
    rintro cd s A B row ⟨h1, h2, h3⟩ hg hr
    exact ⟨h1, own_row h2 hg hr, ownFrom_below (β := Unit) (Nat.le_refl _) HB5.out.size () A B row h3 hg hr⟩
  case hbox =>
    rintro pre W ⟨h2, h3, h4, h5, h6⟩
    exact ⟨h4, (HW.out.on h5).wid⟩
  case h0 => exact ⟨HI5.out, HR5.out, HX5.out, HB5.out, by simp⟩
  case hAx =>
    rintro x a' s A B row ⟨kk, h1, h2⟩ hg hr
    exact ⟨kk, h1, own_row h2 hg hr⟩
  case pan => intro D W _ h; rcases h with h | ⟨h, _⟩; exact h.elim; cases h
  case assign =>
    intro ll pre x W K hpre hI hK
    have HKK : Hid _ := hK
    clear hK hI
    obtain ⟨pl, ⟨t, m, q⟩, a, n⟩ := x
    obtain ⟨T, hT⟩ : ∃ T, strB t = T := ⟨_, rfl⟩
    have HA0 : Hid _ := ha0
    rw [ha0]
    simp only [encs, encE, hT, List.zip_toArray, List.zip_cons_cons, List.zip_nil_right, List.foldl_toArray, List.foldl_cons, List.foldl_nil, List.setIfInBounds_toArray, List.set_cons_zero, List.set_cons_succ]
    clear ha0
    gi_wp2
    refine HKK.out _ _ ((Below.refl _ W).alloc (Nat.le_refl _) _) ⟨W.heap.size, ?_, ?_⟩
    · rw [HA0.out, ← hT]; rfl
    · rw [hT]; exact one_alloc W _
  case body =>
    rintro ll pre x a' W hll hpre ⟨hI, hR, hX, hb, hpi⟩ ⟨kk, ha', hrow⟩
    have hmem : x ∈ LM.entsFrom 0 0 l := hpre.subset (by simp)
    obtain ⟨jj, hjj, hx⟩ := ents_pl l x hmem
    have HX0 : Hid (x.begin = LM.bsum (l.take x.place)) := by rw [hx]; rfl
    have HPP : Hid (x.place ≠ i → ∀ y ∈ pre ++ [x], y.place ≠ i) := fun hne y hy => by
      rcases List.mem_append.1 hy with h | h
      · exact hpi y h
      · rw [List.mem_singleton.1 h]; exact hne
    clear hx hmem hjj hpi
    obtain ⟨pl, ⟨t, m, q⟩, a, n⟩ := x
    simp only at HX0 HPP
    obtain ⟨T, hT⟩ : ∃ T, strB t = T := ⟨_, rfl⟩
    simp only [encE, hT] at ha' hrow
    have HI : Hid _ := hI
    have HR : Hid _ := hR
    have HXX : Hid _ := hX
    have HB : Hid (Below w.heap.size w W) := hb
    obtain ⟨i0, if0⟩ := row1 hI
    obtain ⟨r0, rf0⟩ := row1 hR
    obtain ⟨k0, k1, k2, k3, k4, kf⟩ := row5 hrow
    rw [ha', ha0]
    simp only [List.setIfInBounds_toArray, List.set_cons_zero, List.set_cons_succ]
    by_cases hpe : (pl : Int) = (i : Int)
    · have hpt : ((pl : Int) == (i : Int)) = true := by simpa using hpe
      have HPE : Hid (pl = i) := by show _ = _; omega
      clear ha' ha0 hI hR hX hb hpre hpe
      gi_wp2
      have hdis := HDIS.out
      refine ⟨KA.setCell _ _ _ (by show kb < kb + 1; omega), rfl, ?_, HB.out.setCell (p := ⟨kb, 0, none⟩) (by show w.heap.size ≤ kb; omega) _⟩
      rw [heap_setCell_same _ _ _ _ _ _ HR.out]
      rw [HX0.out, HPE.out]; rfl
    · have hpf : ((pl : Int) == (i : Int)) = false := by simpa using hpe
      have HPL : Hid (pl ≠ i) := fun h => hpe (by rw [h])
      clear ha' ha0 hI hR hX hb hpre hpe
      gi_wp2
      exact ⟨KA.refl _ _, HI.out, HR.out, HXX.out, HB.out, HPP.out HPL.out⟩
  case stop =>
    rintro D cd pre W hD hpre ⟨rfl, hr, hb⟩ hDr
    rw [ha0]
    obtain ⟨r0, rf0⟩ := row1 hr
    have HR : Hid _ := hr
    have HDR : Hid _ := hDr
    have HB : Hid (Below w.heap.size w W) := hb
    clear ha0 hb hDr hr
    refine wpB_of (n := 10) ?_
    gi_wp2
    refine wpB_then (n := 10) ?_
    gi_wp2
    refine wpB_of (n := 10) ?_
    gi_wp2
    refine ⟨by simp, .inl ⟨_, _, rfl, run_takeDeferred HDR.out, ?_⟩⟩
    refine ⟨.int .i64 (LM.bsum (l.take i) : Nat), ?_, rfl, put_below HB.out (by have := HB5.out.size; omega)⟩
    simp [results, Tryd.results47, go_sem]
  case done =>
    rintro D W hD _ ⟨hI, hR, hX, hb, hpi⟩ hDr
    obtain ⟨y, hy, hyi⟩ := ents_mem l i hi
    exact absurd hyi (hpi y hy)
set_option maxHeartbeats 1000000 in
set_option maxRecDepth 100000 in
theorem begin_b (l : List LM.Item) (hl : ∀ it ∈ l, LM.Wf it) (hs : LM.bsum l ≤ 1073741824) (i : Nat) (hi : i < l.length) (hh : l.length / 2 < i) (w : World) (hw : Lay w) :
    Calls Tryd.prog 47 #[.agg #[.string (strB (LM.bodyOf l)), .int .i64 (l.length : Int)], .int .i64 i] w fun e w' => e = .returned (.int .i64 (LM.bsum (l.take i) : Nat)) ∧ Below w.heap.size w w' := by
  have HW : Hid (Lay w) := hw
  have hBs : (strB (LM.bodyOf l)).size = LM.bsum l := by rw [strB_size, LM.bodyOf_len]
  have HBL : Hid ((strB (LM.bodyOf l)).data.toList = LM.bodyOf l) := strB_list _
  have hge := LM.bsum_ge l
  generalize strB (LM.bodyOf l) = Bo at *
  have hne : ((i : Int) == (l.length : Int)) = false := by simp; omega
  have hnl : ¬ ((i : Int) = (l.length : Int)) := by omega
  have hdh : decide ((l.length : Int) / 2 < (i : Int)) = true := by simp; omega
  have hdt : Int.tdiv (l.length : Int) 2 = (l.length : Int) / 2 := Int.tdiv_eq_ediv_of_nonneg (by omega)
  clear hw
  refine calls_of_wpB (n := 10) Tryd.func47 rfl ?_
  simp only [Tryd.ntmps47, List.size_toArray, List.length_cons, List.length_nil, Nat.reduceAdd, Nat.reduceSub, Array.replicate_succ, Array.replicate_zero, List.push_toArray, List.append_toArray, List.nil_append, List.cons_append]
  refine wpB_then (n := 10) ?_
  gi_wp2
  obtain ⟨W1, hW1⟩ : ∃ W1, W1 = (w.alloc (.cells #[.string Bo, .int .i64 (l.length : Int)] 50)).alloc (.cells #[.int .i64 (i : Int)] 3) := ⟨_, rfl⟩
  have HB1 : Hid (Below w.heap.size w W1) := by rw [hW1]; exact ((Below.refl _ w).alloc (Nat.le_refl _) _).alloc (by simp) _
  have HP1 : Hid (W1.heap[w.heap.size]? = some (.cells #[.string Bo, .int .i64 (l.length : Int)] 50)) := by
    rw [hW1]; exact keep_row (one_alloc w _) ((Below.refl _ _).alloc (Nat.le_refl _) _)
  have HI1 : Hid (W1.heap[w.heap.size + 1]? = some (.cells #[.int .i64 (i : Int)] 3)) := by
    rw [hW1]
    have := one_alloc (w.alloc (.cells #[.string Bo, .int .i64 (l.length : Int)] 50)) (.cells #[.int .i64 (i : Int)] 3)
    rwa [World.size_alloc] at this
  rw [← hW1]
  clear hW1
  obtain ⟨p0, p1, pf⟩ := prow2 HP1.out
  obtain ⟨i0, if0⟩ := row1 HI1.out
  refine wpB_then (n := 10) ?_
  gi_wp2
  refine wpB_then (n := 10) ?_
  gi_wp2_with fail
  refine ⟨trivial, (callsIn_wide.2 (fwd_any Bo (l.length : Int) _)).mono ?_⟩
  rintro e w3 ⟨rfl, hw3⟩
  have HX3 : Hid (w3.heap[W1.heap.size]? = some (.cells #[.string Bo, .int .i64 (l.length : Int)] 50)) := by rw [hw3]; exact one_alloc W1 _
  have HS3 : Hid (w3.heap.size = W1.heap.size + 1) := by show _ = _; rw [hw3, World.size_alloc]
  have hbw : Below W1.heap.size W1 w3 := by rw [hw3]; exact (Below.refl _ _).alloc (Nat.le_refl _) _
  have HP3 : Hid _ := keep_row HP1.out hbw
  have HI3 : Hid _ := keep_row HI1.out hbw
  have HB3 : Hid (Below w.heap.size w w3) := bel_to HB1.out hbw (Nat.le_refl _)
  have hlt1 : w.heap.size + 1 < W1.heap.size := row_lt HI1.out
  clear hw3 hbw p0 p1 pf i0 if0
  obtain ⟨p0, p1, pf⟩ := prow2 HP3.out
  obtain ⟨i0, if0⟩ := row1 HI3.out
  gi_wp2
  refine wpB_then (n := 10) ?_
  gi_wp2_with fail
  refine ⟨trivial, (callsIn_wide.2 (bwd_any Bo (l.length : Int) _)).mono ?_⟩
  rintro e w4 ⟨rfl, hw4⟩
  obtain ⟨bx, hbx⟩ : ∃ bx, w3.heap.size = bx := ⟨_, rfl⟩
  rw [hbx]
  have HX4 : Hid (w4.heap[bx]? = some (.cells #[.string Bo, .int .i64 (l.length : Int)] 50)) := by rw [hw4, ← hbx]; exact one_alloc w3 _
  have HS4 : Hid (w4.heap.size = w3.heap.size + 1) := by show _ = _; rw [hw4, World.size_alloc]
  have hbw : Below w3.heap.size w3 w4 := by rw [hw4]; exact (Below.refl _ _).alloc (Nat.le_refl _) _
  have HP4 : Hid _ := keep_row HP3.out hbw
  have HI4 : Hid _ := keep_row HI3.out hbw
  have HB4 : Hid (Below w.heap.size w w4) := bel_to HB3.out hbw (Nat.le_refl _)
  clear hw4 hbw p0 p1 pf i0 if0
  gi_wp2
  refine wpB_then (n := 10) ?_
  gi_wp2
  obtain ⟨w5, hw5⟩ : ∃ w5, w5 = w4.alloc (.cells #[.int .i64 0] 3) := ⟨_, rfl⟩
  rw [← hw5]
  obtain ⟨kb, hkb⟩ : ∃ kb, w4.heap.size = kb := ⟨_, rfl⟩
  rw [hkb]
  have HR5 : Hid (w5.heap[kb]? = some (.cells #[.int .i64 0] 3)) := by rw [hw5, ← hkb]; exact one_alloc w4 _
  have hs5 : w5.heap.size = kb + 1 := by rw [hw5, World.size_alloc, hkb]
  have hbw : Below w4.heap.size w4 w5 := by rw [hw5]; exact (Below.refl _ _).alloc (Nat.le_refl _) _
  have HX5 : Hid _ := keep_row HX4.out hbw
  have HI5 : Hid _ := keep_row HI4.out hbw
  have HB5 : Hid (Below w.heap.size w w5) := bel_to HB4.out hbw (Nat.le_refl _)
  clear hw5 hbw
  refine wpB_seq (wpB_then (n := 10) ?_)
  gi_wp2
  refine wpB_block ?_
  have hseq := bwd_seq 9 l hl hs Bo HBL.out bx w5.heap.size
  have HDIS : Hid (bx < kb ∧ w.heap.size + 1 < kb ∧ w.heap.size + 1 < w5.heap.size) := by
    have h1 := row_lt HX4.out
    have h2 := row_lt HI4.out
    have h3 := row_lt HI5.out
    refine ⟨by omega, by omega, h3⟩
  have HSQ : Hid _ := hseq
  clear hseq
  refine WpB_act (fun a0 ha0 => ?_)
  refine wpB_range (n := 10) (α := LM.Ent) (encs := encs) (L := (LM.entsFrom 0 0 l).reverse) (bad := false) (pch := pch) (box := Box Bo (l.length : Int) bx) Tryd.func47 (gf := 42) (lb := #[.pointer (some ⟨bx, 0, none⟩)]) (by rw [ha0]; rfl) (enters_of Tryd.func42 (by kernel_rfl) rfl) HSQ.out (fun _ => rfl)
    (fun pre W => W.heap[w.heap.size + 1]? = some (.cells #[.int .i64 (i : Int)] 3) ∧ W.heap[kb]? = some (.cells #[.int .i64 0] 3) ∧ W.heap[bx]? = some (.cells #[.string Bo, .int .i64 (l.length : Int)] 50) ∧ Below w.heap.size w W ∧ ∀ y ∈ pre, y.place ≠ i)
    (fun cd pre W => cd = .exit 0 ∧ W.heap[kb]? = some (.cells #[.int .i64 (LM.bsum (l.take i) : Nat)] 3) ∧ Below w.heap.size w W)
    (fun _ => False)
    ?hI ?hIx (fun _ _ _ _ hs _ _ => hs) ?hbox ?h0
    (fun (x : LM.Ent) (a' : Act) (W : World) => ∃ kk : Nat, a' = { tmps := (((a0.tmps.setIfInBounds 26 (.int .i64 (x.place : Int))).setIfInBounds 27 (encE x.it x.begin x.span)).setIfInBounds 7 (.int .i64 (x.place : Int))).setIfInBounds 8 (.pointer (some ⟨kk, 0, none⟩)), defers := [] } ∧ W.heap[kk]? = some (.cells #[.string (strB x.it.txt), .int .i64 x.it.num, .bool x.it.isN, .int .i64 (x.begin : Int), .int .i64 (x.span : Int)] 59)) ?hAx ?assign ?body ?done ?stop ?pan
  case hI =>
    rintro s A B row ⟨h2, h3, h4, h5, h6⟩ hg hr
    exact ⟨own_row h2 hg hr, own_row h3 hg hr, own_row h4 hg hr, ownFrom_below (β := Unit) (Nat.le_refl _) HB5.out.size () A B row h5 hg hr, h6⟩
  case hIx =>
    rintro cd s A B row ⟨h1, h2, h3⟩ hg hr
    exact ⟨h1, own_row h2 hg hr, ownFrom_below (β := Unit) (Nat.le_refl _) HB5.out.size () A B row h3 hg hr⟩
  case hbox =>
    rintro pre W ⟨h2, h3, h4, h5, h6⟩
    exact ⟨h4, (HW.out.on h5).wid⟩
  case h0 => exact ⟨HI5.out, HR5.out, HX5.out, HB5.out, by simp⟩
  case hAx =>
    rintro x a' s A B row ⟨kk, h1, h2⟩ hg hr
    exact ⟨kk, h1, own_row h2 hg hr⟩
  case pan => intro D W _ h; rcases h with h | ⟨h, _⟩; exact h.elim; cases h
  case assign =>
    intro ll pre x W K hpre hI hK
    have HKK : Hid _ := hK
    clear hK hI
    obtain ⟨pl, ⟨t, m, q⟩, a, n⟩ := x
    obtain ⟨T, hT⟩ : ∃ T, strB t = T := ⟨_, rfl⟩
    have HA0 : Hid _ := ha0
    rw [ha0]
    simp only [encs, encE, hT, List.zip_toArray, List.zip_cons_cons, List.zip_nil_right, List.foldl_toArray, List.foldl_cons, List.foldl_nil, List.setIfInBounds_toArray, List.set_cons_zero, List.set_cons_succ]
    clear ha0
    gi_wp2
    refine HKK.out _ _ ((Below.refl _ W).alloc (Nat.le_refl _) _) ⟨W.heap.size, ?_, ?_⟩
    · rw [HA0.out, ← hT]; rfl
    · rw [hT]; exact one_alloc W _
  case body =>
    rintro ll pre x a' W hll hpre ⟨hI, hR, hX, hb, hpi⟩ ⟨kk, ha', hrow⟩
    have hmem : x ∈ LM.entsFrom 0 0 l := List.mem_reverse.1 (hpre.subset (by simp))
    obtain ⟨jj, hjj, hx⟩ := ents_pl l x hmem
    have HX0 : Hid (x.begin = LM.bsum (l.take x.place)) := by rw [hx]; rfl
    have HPP : Hid (x.place ≠ i → ∀ y ∈ pre ++ [x], y.place ≠ i) := fun hne y hy => by
      rcases List.mem_append.1 hy with h | h
      · exact hpi y h
      · rw [List.mem_singleton.1 h]; exact hne
    clear hx hmem hjj hpi
    obtain ⟨pl, ⟨t, m, q⟩, a, n⟩ := x
    simp only at HX0 HPP
    obtain ⟨T, hT⟩ : ∃ T, strB t = T := ⟨_, rfl⟩
    simp only [encE, hT] at ha' hrow
    have HI : Hid _ := hI
    have HR : Hid _ := hR
    have HXX : Hid _ := hX
    have HB : Hid (Below w.heap.size w W) := hb
    obtain ⟨i0, if0⟩ := row1 hI
    obtain ⟨r0, rf0⟩ := row1 hR
    obtain ⟨k0, k1, k2, k3, k4, kf⟩ := row5 hrow
    rw [ha', ha0]
    simp only [List.setIfInBounds_toArray, List.set_cons_zero, List.set_cons_succ]
    by_cases hpe : (pl : Int) = (i : Int)
    · have hpt : ((pl : Int) == (i : Int)) = true := by simpa using hpe
      have HPE : Hid (pl = i) := by show _ = _; omega
      clear ha' ha0 hI hR hX hb hpre hpe
      gi_wp2
      have hdis := HDIS.out
      refine ⟨KA.setCell _ _ _ (by show kb < kb + 1; omega), rfl, ?_, HB.out.setCell (p := ⟨kb, 0, none⟩) (by show w.heap.size ≤ kb; omega) _⟩
      rw [heap_setCell_same _ _ _ _ _ _ HR.out]
      rw [HX0.out, HPE.out]; rfl
    · have hpf : ((pl : Int) == (i : Int)) = false := by simpa using hpe
      have HPL : Hid (pl ≠ i) := fun h => hpe (by rw [h])
      clear ha' ha0 hI hR hX hb hpre hpe
      gi_wp2
      exact ⟨KA.refl _ _, HI.out, HR.out, HXX.out, HB.out, HPP.out HPL.out⟩
  case stop =>
    rintro D cd pre W hD hpre ⟨rfl, hr, hb⟩ hDr
    rw [ha0]
    obtain ⟨r0, rf0⟩ := row1 hr
    have HR : Hid _ := hr
    have HDR : Hid _ := hDr
    have HB : Hid (Below w.heap.size w W) := hb
    clear ha0 hb hDr hr
    refine wpB_of (n := 10) ?_
    gi_wp2
    refine wpB_then (n := 10) ?_
    gi_wp2
    refine wpB_of (n := 10) ?_
    gi_wp2
    refine ⟨by simp, .inl ⟨_, _, rfl, run_takeDeferred HDR.out, ?_⟩⟩
    refine ⟨.int .i64 (LM.bsum (l.take i) : Nat), ?_, rfl, put_below HB.out (by have := HB5.out.size; omega)⟩
    simp [results, Tryd.results47, go_sem]
  case done =>
    rintro D W hD _ ⟨hI, hR, hX, hb, hpi⟩ hDr
    obtain ⟨y, hy, hyi⟩ := ents_mem l i hi
    exact absurd hyi (hpi y (List.mem_reverse.2 hy))
theorem begC_any (l : List LM.Item) (hl : ∀ it ∈ l, LM.Wf it) (hs : LM.bsum l ≤ 1073741824) : BegC l := fun k hk W hW => by
  by_cases h1 : k = l.length
  · subst h1
    have := begin_end (strB (LM.bodyOf l)) l.length W
    rw [strB_size, LM.bodyOf_len] at this
    rw [show LM.bsum (l.take l.length) = LM.bsum l by rw [List.take_length]]
    exact this
  · by_cases h2 : k ≤ l.length / 2
    · exact begin_f l hl hs k (by omega) h2 W hW
    · exact begin_b l hl hs k (by omega) (by omega) W hW
end Go.Proofs.YtafphabeihoijaaDoor
