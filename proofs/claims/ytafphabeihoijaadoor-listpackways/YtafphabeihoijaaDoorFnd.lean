import Derived.Test.YtafphabeihoijaaDoorAt
import Derived.Test.YtafphabeihoijaaDoorBegM
namespace Go.Proofs.YtafphabeihoijaaDoor
open Go.RowKit
set_option linter.unusedVariables false
attribute [local go_sem] Oper.semAt_some
/-- entry k is one that is sought. -/
def Hit (from_ step : Int) (it : LM.Item) (l : List LM.Item) (k : Nat) : Prop := from_ ≤ (k : Int) ∧ ((k : Int) - from_) % step = 0 ∧ l[k]? = some it
def FindIs (l : List LM.Item) (from_ step : Int) (it : LM.Item) (r : Int) : Prop :=
  (∃ k : Nat, r = (k : Int) ∧ Hit from_ step it l k ∧ ∀ j, j < k → ¬ Hit from_ step it l j) ∨ (r = -1 ∧ ∀ j, j < l.length → ¬ Hit from_ step it l j)
theorem res_Find {W : World} {S E : Nat} {z x : Int} {tmps : Array Value} (h2 : tmps[8]? = some (.pointer (some ⟨S, 0, none⟩))) (h3 : tmps[9]? = some (.pointer (some ⟨E, 0, none⟩)))
    (hS : W.heap[S]? = some (.cells #[.int .i64 z] 3)) (hE : W.heap[E]? = some (.cells #[.int .i64 x] 23)) :
    (results Tryd.f15 tmps).run Tryd.prog W = .ok (.tuple #[.int .i64 z, .int .i64 x]) W := by
  obtain ⟨l0, lf⟩ := row1 hS
  obtain ⟨e0, ef⟩ := row1 hE
  simp [results, Tryd.results15, go_sem, l0, e0, h2, h3]
set_option maxHeartbeats 2000000 in
set_option maxRecDepth 100000 in
theorem Find_ok (p : ByteArray) (l : List LM.Item) (hpk : LM.Pk p.data.toList l) (F S : Int) (hF : 0 ≤ F ∧ F ≤ 9223372036854775807) (hS : 1 ≤ S ∧ S ≤ 9223372036854775807) (x : ByteArray) (hx : x.size ≤ 281474976710656) (w : World) (hw : Lay w) :
    Calls Tryd.prog 15 #[.string p, .int .i64 F, .int .i64 S, .string x] w fun e w' => (∃ r, e = .returned (.tuple #[.int .i64 r, .int .i64 0]) ∧ FindIs l F S (LM.itemOf x.data.toList) r) ∧ Below w.heap.size w w' := by
  have HW : Hid (Lay w) := hw
  have HPK : Hid _ := hpk
  have hl := hpk.wf
  have hlen := hpk.len
  have hs : LM.bsum l ≤ 1073741824 := by have := hpk.size; rw [hpk.eq, LM.build_len] at this; omega
  have HRH : Hid (∀ W, Lay W → Calls Tryd.prog 24 #[.string p] W (rdP p W)) := fun W hW => read_any p (by have := hpk.size; rw [list_len] at this; omega) W hW
  obtain ⟨⟨it0, it1, it2⟩, hit⟩ : ∃ it, LM.itemOf x.data.toList = it := ⟨_, rfl⟩
  have HIT : Hid (∀ W, Laid W → Calls Tryd.prog 29 #[.string x] W fun e w' => e = .returned (.agg #[.string (strB it0), .int .i64 it1, .bool it2]) ∧ Below W.heap.size W w') := fun W hW => by
    have := itemOf_any x hx W hW
    rw [hit] at this; exact this
  rw [hit]
  have hd1 : decide (F < 0) = false := by simp; omega
  have hd2 : decide (S < 1) = false := by simp; omega
  have HF : Hid _ := hF
  have HSS : Hid _ := hS
  clear hw hpk hit hF hS
  refine calls_of_wpB (n := 10) Tryd.func15 rfl ?_
  simp only [Tryd.ntmps15, List.size_toArray, List.length_cons, List.length_nil, Nat.reduceAdd, Nat.reduceSub, Array.replicate_succ, Array.replicate_zero, List.push_toArray, List.append_toArray, List.nil_append, List.cons_append]
  refine wpB_then (n := 10) ?_
  gi_wp2
  obtain ⟨W0, hW0⟩ : ∃ W0, W0 = (((w.alloc (.cells #[.int .i64 F] 3)).alloc (.cells #[.int .i64 S] 3)).alloc (.cells #[.int .i64 0] 3)).alloc (.cells #[.int .i64 0] 23) := ⟨_, rfl⟩
  obtain ⟨kF, hkF⟩ : ∃ kF, w.heap.size = kF := ⟨_, rfl⟩
  have HB0 : Hid (Below w.heap.size w W0) := by rw [hW0]; exact ((((Below.refl _ w).alloc (Nat.le_refl _) _).alloc (by simp) _).alloc (by simp; omega) _).alloc (by simp; omega) _
  have HF0 : Hid (W0.heap[kF]? = some (.cells #[.int .i64 F] 3)) := by
    rw [hW0, ← hkF]; exact keep_row (keep_row (keep_row (one_alloc w _) ((Below.refl _ _).alloc (Nat.le_refl _) _)) ((Below.refl _ _).alloc (Nat.le_refl _) _)) ((Below.refl _ _).alloc (Nat.le_refl _) _)
  have HS0 : Hid (W0.heap[kF + 1]? = some (.cells #[.int .i64 S] 3)) := by
    rw [hW0, ← hkF]; refine keep_row (keep_row ?_ ((Below.refl _ _).alloc (Nat.le_refl _) _)) ((Below.refl _ _).alloc (Nat.le_refl _) _)
    have := one_alloc (w.alloc (.cells #[.int .i64 F] 3)) (.cells #[.int .i64 S] 3)
    rwa [World.size_alloc] at this
  have HR0 : Hid (W0.heap[kF + 1 + 1]? = some (.cells #[.int .i64 0] 3)) := by
    rw [hW0, ← hkF]; refine keep_row ?_ ((Below.refl _ _).alloc (Nat.le_refl _) _)
    have := one_alloc ((w.alloc (.cells #[.int .i64 F] 3)).alloc (.cells #[.int .i64 S] 3)) (.cells #[.int .i64 0] 3)
    rwa [World.size_alloc, World.size_alloc] at this
  have HE0 : Hid (W0.heap[kF + 1 + 1 + 1]? = some (.cells #[.int .i64 0] 23)) := by
    rw [hW0, ← hkF]; have := one_alloc (((w.alloc (.cells #[.int .i64 F] 3)).alloc (.cells #[.int .i64 S] 3)).alloc (.cells #[.int .i64 0] 3)) (.cells #[.int .i64 0] 23)
    rwa [World.size_alloc, World.size_alloc, World.size_alloc] at this
  rw [← hW0]
  simp only [hkF]
  have HKF : Hid _ := hkF
  clear hW0 hkF
  refine wpB_then (n := 10) ?_
  gi_wp2_with fail
  refine ⟨trivial, (callsIn_wide.2 (HRH.out _ (HW.out.on HB0.out))).mono ?_⟩
  rintro e w1 ⟨⟨l', hl', rfl⟩ | ⟨hno, rfl⟩, hb1⟩
  case inr => exact absurd HPK.out (hno l)
  have he := HPK.out.uniq hl'
  subst he
  have HB1 : Hid (Below w.heap.size w w1) := bel_to HB0.out hb1 (Nat.le_refl _)
  have HF1 : Hid _ := keep_row HF0.out hb1
  have HS1 : Hid _ := keep_row HS0.out hb1
  have HR1 : Hid _ := keep_row HR0.out hb1
  have HE1 : Hid _ := keep_row HE0.out hb1
  have hBs : (strB (LM.bodyOf l)).size = LM.bsum l := by rw [strB_size, LM.bodyOf_len]
  have HBL : Hid ((strB (LM.bodyOf l)).data.toList = LM.bodyOf l) := strB_list _
  clear hb1 hl'
  generalize strB (LM.bodyOf l) = Bo at *
  gi_wp2
  obtain ⟨kp, hkp⟩ : ∃ kp, w1.heap.size = kp := ⟨_, rfl⟩
  obtain ⟨W1, hW1⟩ : ∃ W1, W1 = w1.alloc (.cells #[.string Bo, .int .i64 (l.length : Int)] 50) := ⟨_, rfl⟩
  rw [← hW1, hkp]
  have hbw : Below w1.heap.size w1 W1 := by rw [hW1]; exact (Below.refl _ _).alloc (Nat.le_refl _) _
  have HB2 : Hid (Below w.heap.size w W1) := bel_to HB1.out hbw (Nat.le_refl _)
  have HP2 : Hid (W1.heap[kp]? = some (.cells #[.string Bo, .int .i64 (l.length : Int)] 50)) := by rw [hW1, ← hkp]; exact one_alloc w1 _
  have HF2 : Hid _ := keep_row HF1.out hbw
  have HS2 : Hid _ := keep_row HS1.out hbw
  have HR2 : Hid _ := keep_row HR1.out hbw
  have HE2 : Hid _ := keep_row HE1.out hbw
  clear hW1 hkp hbw
  refine wpB_then (n := 10) ?_
  gi_wp2
  obtain ⟨f0, ff⟩ := row1 HF2.out
  obtain ⟨s0, sf⟩ := row1 HS2.out
  refine wpB_then (n := 10) ?_
  gi_wp2
  clear f0 ff s0 sf
  refine wpB_then (n := 10) ?_
  obtain ⟨I0, hI0⟩ : ∃ I0, strB it0 = I0 := ⟨_, rfl⟩
  rw [hI0] at HIT
  gi_wp2_with fail
  refine ⟨trivial, (callsIn_wide.2 (HIT.out _ (HW.out.on HB2.out).laid)).mono ?_⟩
  rintro e w3 ⟨rfl, hb3⟩
  have HB3 : Hid (Below w.heap.size w w3) := bel_to HB2.out hb3 (Nat.le_refl _)
  have HP3 : Hid _ := keep_row HP2.out hb3
  have HF3 : Hid _ := keep_row HF2.out hb3
  have HS3 : Hid _ := keep_row HS2.out hb3
  have HR3 : Hid _ := keep_row HR2.out hb3
  have HE3 : Hid _ := keep_row HE2.out hb3
  clear hb3
  gi_wp2
  obtain ⟨ks, hks⟩ : ∃ ks, w3.heap.size = ks := ⟨_, rfl⟩
  obtain ⟨W3, hW3⟩ : ∃ W3, W3 = w3.alloc (.cells #[.string I0, .int .i64 it1, .bool it2] 57) := ⟨_, rfl⟩
  rw [← hW3, hks]
  have hbw : Below w3.heap.size w3 W3 := by rw [hW3]; exact (Below.refl _ _).alloc (Nat.le_refl _) _
  have HB4 : Hid (Below w.heap.size w W3) := bel_to HB3.out hbw (Nat.le_refl _)
  have HK4 : Hid (W3.heap[ks]? = some (.cells #[.string I0, .int .i64 it1, .bool it2] 57)) := by rw [hW3, ← hks]; exact one_alloc w3 _
  have HP4 : Hid _ := keep_row HP3.out hbw
  have HF4 : Hid _ := keep_row HF3.out hbw
  have HS4 : Hid _ := keep_row HS3.out hbw
  have HR4 : Hid _ := keep_row HR3.out hbw
  have HE4 : Hid _ := keep_row HE3.out hbw
  clear hW3 hks hbw
  obtain ⟨p0, p1, pf⟩ := prow2 HP4.out
  refine wpB_seq (wpB_then (n := 10) ?_)
  gi_wp2_with fail
  refine ⟨trivial, (callsIn_wide.2 (fwd_any Bo (l.length : Int) _)).mono ?_⟩
  rintro e w5 ⟨rfl, hw5⟩
  obtain ⟨bx, hbx⟩ : ∃ bx, W3.heap.size = bx := ⟨_, rfl⟩
  rw [hbx]
  have HX5 : Hid (w5.heap[bx]? = some (.cells #[.string Bo, .int .i64 (l.length : Int)] 50)) := by rw [hw5, ← hbx]; exact one_alloc W3 _
  have hbw : Below W3.heap.size W3 w5 := by rw [hw5]; exact (Below.refl _ _).alloc (Nat.le_refl _) _
  have HB5 : Hid (Below w.heap.size w w5) := bel_to HB4.out hbw (Nat.le_refl _)
  have HK5 : Hid _ := keep_row HK4.out hbw
  have HF5 : Hid _ := keep_row HF4.out hbw
  have HS5 : Hid _ := keep_row HS4.out hbw
  have HR5 : Hid _ := keep_row HR4.out hbw
  have HE5 : Hid _ := keep_row HE4.out hbw
  clear hw5 hbw hbx p0 p1 pf
  gi_wp2
  refine wpB_block ?_
  have hseq := fwd_seq 9 Bo (l.length : Int) bx (l.length + LM.bsum l + 1) w5.heap.size (by omega) (by omega)
  rw [HBL.out, LM.parse_body l _ 0 0 hl (by omega)] at hseq
  have HSQ : Hid _ := hseq
  have HLT : Hid (kF + 1 + 1 + 1 < w5.heap.size) := row_lt HE5.out
  clear hseq
  refine WpB_act (fun a0 ha0 => ?_)
  refine wpB_range (n := 10) (α := LM.Ent) (encs := encs) (L := LM.entsFrom 0 0 l) (bad := false) (pch := pch) (box := Box Bo (l.length : Int) bx) Tryd.func15 (gf := 40) (lb := #[.pointer (some ⟨bx, 0, none⟩)]) (by rw [ha0]; rfl) (enters_of Tryd.func40 (by kernel_rfl) rfl) HSQ.out (fun _ => rfl)
    (fun pre W => W.heap[kF]? = some (.cells #[.int .i64 F] 3) ∧ W.heap[kF + 1]? = some (.cells #[.int .i64 S] 3) ∧ W.heap[kF + 1 + 1]? = some (.cells #[.int .i64 0] 3) ∧ W.heap[kF + 1 + 1 + 1]? = some (.cells #[.int .i64 0] 23) ∧ W.heap[ks]? = some (.cells #[.string I0, .int .i64 it1, .bool it2] 57) ∧ W.heap[bx]? = some (.cells #[.string Bo, .int .i64 (l.length : Int)] 50) ∧ Below w.heap.size w W ∧ ∀ j, j < pre.length → ¬ Hit F S ⟨it0, it1, it2⟩ l j)
    (fun cd pre W => cd = .ret ∧ (∃ r, FindIs l F S ⟨it0, it1, it2⟩ r ∧ W.heap[kF + 1 + 1]? = some (.cells #[.int .i64 r] 3)) ∧ W.heap[kF + 1 + 1 + 1]? = some (.cells #[.int .i64 0] 23) ∧ Below w.heap.size w W)
    (fun _ => False)
    ?hI ?hIx (fun _ _ _ _ hs _ _ => hs) ?hbox ?h0
    (fun (x : LM.Ent) (a' : Act) (W : World) => ∃ kk : Nat, a' = { tmps := (((a0.tmps.setIfInBounds 33 (.int .i64 (x.place : Int))).setIfInBounds 34 (encE x.it x.begin x.span)).setIfInBounds 13 (.int .i64 (x.place : Int))).setIfInBounds 14 (.pointer (some ⟨kk, 0, none⟩)), defers := [] } ∧ W.heap[kk]? = some (.cells #[.string (strB x.it.txt), .int .i64 x.it.num, .bool x.it.isN, .int .i64 (x.begin : Int), .int .i64 (x.span : Int)] 59)) ?hAx ?assign ?body ?done ?stop ?pan
  case hI =>
    rintro s A B row ⟨h1, h2, h3, h4, h5, h6, h7, h8⟩ hg hr
    exact ⟨own_row h1 hg hr, own_row h2 hg hr, own_row h3 hg hr, own_row h4 hg hr, own_row h5 hg hr, own_row h6 hg hr, ownFrom_below (β := Unit) (Nat.le_refl _) HB5.out.size () A B row h7 hg hr, h8⟩
  case hIx =>
    rintro cd s A B row ⟨h1, ⟨z, h2, h2'⟩, h3, h4⟩ hg hr
    exact ⟨h1, ⟨z, h2, own_row h2' hg hr⟩, own_row h3 hg hr, ownFrom_below (β := Unit) (Nat.le_refl _) HB5.out.size () A B row h4 hg hr⟩
  case hbox =>
    rintro pre W ⟨h1, h2, h3, h4, h5, h6, h7, h8⟩
    exact ⟨h6, (HW.out.on h7).wid⟩
  case h0 => exact ⟨HF5.out, HS5.out, HR5.out, HE5.out, HK5.out, HX5.out, HB5.out, by simp⟩
  case hAx =>
    rintro x a' s A B row ⟨kk, h1, h2⟩ hg hr
    exact ⟨kk, h1, own_row h2 hg hr⟩
  case pan => intro D W _ h; rcases h with h | ⟨h, _⟩; exact h.elim; cases h
  case assign =>
    intro ll pre x W K hpre hI hK
    have HKK : Hid _ := hK
    clear hK hI
    obtain ⟨pl, ⟨t, m, q⟩, a, n⟩ := x
    obtain ⟨T, hT⟩ : ∃ T, strB t = T := ⟨_, rfl⟩
    have HA0 : Hid _ := ha0
    rw [ha0]
    simp only [encs, encE, hT, List.zip_toArray, List.zip_cons_cons, List.zip_nil_right, List.foldl_toArray, List.foldl_cons, List.foldl_nil, List.setIfInBounds_toArray, List.set_cons_zero, List.set_cons_succ]
    clear ha0
    gi_wp2
    refine HKK.out _ _ ((Below.refl _ W).alloc (Nat.le_refl _) _) ⟨W.heap.size, ?_, ?_⟩
    · rw [HA0.out, ← hT]; rfl
    · rw [hT]; exact one_alloc W _
  case body =>
    rintro ll pre x a' W hll hpre ⟨hF, hS, hR, hE, hK, hX, hb, hni⟩ ⟨kk, ha', hrow⟩
    have hget := ents_pre hpre
    have hlp : pre.length < l.length := by have := LM.pre_len hpre; rwa [LM.ents_len] at this
    rw [LM.ents_get l 0 0 pre.length hlp] at hget
    have hxx := (Option.some.inj hget).symm
    simp only [Nat.zero_add] at hxx
    have hxi : l[pre.length]? = some x.it := by rw [hxx, List.getElem?_eq_getElem hlp]
    have hxp : x.place = pre.length := by rw [hxx]
    clear hxx hget
    obtain ⟨pl, ⟨t, m, q⟩, a, n⟩ := x
    simp only at hxp hxi
    subst hxp
    obtain ⟨T, hT⟩ : ∃ T, strB t = T := ⟨_, rfl⟩
    simp only [encE, hT] at ha' hrow
    have HLS : Hid (pre.length < l.length) := hlp
    have HFR : Hid _ := hF
    have HSR : Hid _ := hS
    have HRR : Hid _ := hR
    have HER : Hid _ := hE
    have HKR : Hid _ := hK
    have HXX : Hid _ := hX
    have HB : Hid (Below w.heap.size w W) := hb
    have HNI : Hid _ := hni
    have HXI : Hid _ := hxi
    obtain ⟨f0, ff⟩ := row1 hF
    obtain ⟨s0, sf⟩ := row1 hS
    obtain ⟨r0, rf⟩ := row1 hR
    obtain ⟨e0, ef⟩ := row1 hE
    obtain ⟨q0, q1, q2, qf⟩ := row3 hK
    obtain ⟨k0, k1, k2, k3, k4, kf⟩ := row5 hrow
    rw [ha', ha0]
    simp only [List.setIfInBounds_toArray, List.set_cons_zero, List.set_cons_succ]
    clear ha' ha0 hF hS hR hE hK hX hb hpre hni hxi
    have HEQ : Hid (Hit F S ⟨it0, it1, it2⟩ l pre.length ↔ (F ≤ (pre.length : Int) ∧ (wrap64 ((pre.length : Int) - F)).tmod S = 0 ∧ T.toList = I0.toList ∧ m = it1 ∧ q = it2)) := by
      have hFF := HF.out
      have hlp := HLS.out
      have hw : F ≤ (pre.length : Int) → wrap64 ((pre.length : Int) - F) = (pre.length : Int) - F := fun h => by unfold wrap64; omega
      have htt : T.toList = I0.toList ↔ t = it0 := by
        rw [ByteArray.toList_eq, ByteArray.toList_eq, ← hT, ← hI0, strB_list, strB_list]
      show _ ↔ _
      unfold Hit
      rw [HXI.out, htt]
      constructor
      · rintro ⟨h1, h2, h3⟩
        injection h3 with h3
        injection h3 with e1 e2 e3
        refine ⟨h1, ?_, e1, e2, e3⟩
        rw [hw h1, Int.tmod_eq_emod_of_nonneg (by omega)]; exact h2
      · rintro ⟨h1, h2, rfl, rfl, rfl⟩
        refine ⟨h1, ?_, rfl⟩
        rw [hw h1, Int.tmod_eq_emod_of_nonneg (by omega)] at h2; exact h2
    gi_wp2
    all_goals first
      | exact absurd ‹S = 0› (by have := HSS.out; omega)
      | (refine ⟨KA.refl _ _, HFR.out, HSR.out, HRR.out, HER.out, HKR.out, HXX.out, HB.out, fun j hj => ?_⟩
         rw [List.length_append] at hj
         by_cases hjj : j = pre.length
         · subst hjj
           intro hh
           obtain ⟨h1, h2, h3, h4, h5⟩ := HEQ.out.1 hh
           first | contradiction | omega
         · exact HNI.out j (by simp at hj; omega))
      | (have hHit := HEQ.out.2 ⟨by assumption, by assumption, by assumption, by first | rfl | assumption, by first | rfl | assumption⟩
         have hlt3 := HLT.out
         have hkf := HKF.out
         refine ⟨(KA.setCell _ _ _ (by show kF + 1 + 1 < w5.heap.size; omega)).trans (KA.setCell _ _ _ (by show kF + 1 + 1 + 1 < w5.heap.size; omega)), rfl, ⟨(pre.length : Int), Or.inl ⟨pre.length, rfl, hHit, HNI.out⟩, ?_⟩, ?_, ?_⟩
         · rw [heap_setCell_other _ _ _ _ (show kF + 1 + 1 ≠ kF + 1 + 1 + 1 by omega), heap_setCell_same _ _ _ _ _ _ HRR.out]; rfl
         · rw [heap_setCell_same _ _ _ _ _ _ ((heap_setCell_other _ _ _ _ (show kF + 1 + 1 + 1 ≠ kF + 1 + 1 by omega)).trans HER.out)]; rfl
         · exact (HB.out.setCell (p := ⟨kF + 1 + 1, 0, none⟩) (by show w.heap.size ≤ kF + 1 + 1; omega) _).setCell (p := ⟨kF + 1 + 1 + 1, 0, none⟩) (by show w.heap.size ≤ kF + 1 + 1 + 1; omega) _)
  case stop =>
    rintro D cd pre W hD hpre ⟨rfl, ⟨z, hz, hr⟩, he, hb⟩ hDr
    rw [ha0]
    refine wpB_of (n := 10) ?_
    gi_wp2
    refine ⟨by simp, .inl ⟨_, _, rfl, run_takeDeferred hDr, ?_⟩⟩
    have h1 : kF + 1 + 1 ≠ D := by rintro rfl; rw [hr] at hDr; cases hDr
    have h2 : kF + 1 + 1 + 1 ≠ D := by rintro rfl; rw [he] at hDr; cases hDr
    exact ⟨_, res_Find rfl rfl (put_keep hr h1) (put_keep he h2), ⟨z, rfl, hz⟩, by rw [← HKF.out]; exact put_below hb (by have := HB5.out.size; omega)⟩
  case done =>
    rintro D W hD _ ⟨hF, hS, hR, hE, hK, hX, hb, hni⟩ hDr
    rw [ha0]
    rw [LM.ents_len] at hni
    have HFI : Hid (FindIs l F S ⟨it0, it1, it2⟩ (-1)) := Or.inr ⟨rfl, hni⟩
    obtain ⟨r0, rf⟩ := row1 hR
    obtain ⟨e0, ef⟩ := row1 hE
    have HRR : Hid _ := hR
    have HER : Hid _ := hE
    have HDR : Hid _ := hDr
    have HB : Hid (Below w.heap.size w W) := hb
    clear ha0 hF hS hK hX hb hni hDr hR hE
    refine wpB_then (n := 10) ?_
    gi_wp2
    refine wpB_of (n := 10) ?_
    gi_wp2
    have h1 : kF + 1 + 1 ≠ D := by rintro rfl; have := HDR.out; rw [HRR.out] at this; cases this
    have h2 : kF + 1 + 1 + 1 ≠ D := by rintro rfl; have := HDR.out; rw [HER.out] at this; cases this
    obtain ⟨W6, hW6⟩ : ∃ W6, ((W.setCell ⟨kF + 1 + 1, 0, none⟩ (.int .i64 (-1))).setCell ⟨kF + 1 + 1 + 1, 0, none⟩ (.int .i64 0)) = W6 := ⟨_, rfl⟩
    have hd2 : W6.heap[D]? = some (.deferred (some [])) := by rw [← hW6]; exact (heap_setCell_other _ _ _ _ (fun e => h2 e.symm)).trans ((heap_setCell_other _ _ _ _ (fun e => h1 e.symm)).trans HDR.out)
    have hs6 : W6.heap[kF + 1 + 1]? = some (.cells #[.int .i64 (-1)] 3) := by rw [← hW6, heap_setCell_other _ _ _ _ (show kF + 1 + 1 ≠ kF + 1 + 1 + 1 by omega), heap_setCell_same _ _ _ _ _ _ HRR.out]; rfl
    have he6 : W6.heap[kF + 1 + 1 + 1]? = some (.cells #[.int .i64 0] 23) := by rw [← hW6, heap_setCell_same _ _ _ _ _ _ ((heap_setCell_other _ _ _ _ (show kF + 1 + 1 + 1 ≠ kF + 1 + 1 by omega)).trans HER.out)]; rfl
    have hb6 : Below w.heap.size w W6 := by
      have := HKF.out
      rw [← hW6]; exact (HB.out.setCell (p := ⟨kF + 1 + 1, 0, none⟩) (by show w.heap.size ≤ kF + 1 + 1; omega) _).setCell (p := ⟨kF + 1 + 1 + 1, 0, none⟩) (by show w.heap.size ≤ kF + 1 + 1 + 1; omega) _
    rw [hW6]
    refine ⟨by simp, .inl ⟨_, _, rfl, run_takeDeferred hd2, ?_⟩⟩
    exact ⟨_, res_Find rfl rfl (put_keep hs6 h1) (put_keep he6 h2), ⟨_, rfl, HFI.out⟩, by rw [← HKF.out]; exact put_below hb6 (by have := HB5.out.size; omega)⟩
end Go.Proofs.YtafphabeihoijaaDoor
