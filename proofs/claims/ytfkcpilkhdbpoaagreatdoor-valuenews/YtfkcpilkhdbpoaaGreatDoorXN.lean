import Derived.Test.YtfkcpilkhdbpoaaGreatDoorIC
import Derived.Test.YtfkcpilkhdbpoaaGreatDoorIB
import Derived.Deep.RegionHeld3
namespace Go.Proofs.YtfkcpilkhdbpoaaGreatDoor.V
open Go.RowKit S5.IM
open S6 (Laid Lay)
set_option linter.unusedVariables false
set_option linter.unusedSimpArgs false
def qlC (e b : Int) (r : Nat) : Obj := .cells #[.int .i64 e, .int .i64 b, .int .i64 0, .slice (some ⟨r, 0, none⟩) 1 1] 216
def rwC : Obj := .cells #[.slice none 0 0, .int .i64 0] 212
def liC (g : Nat) : Obj := .cells #[.pointer (some ⟨g, 0, none⟩), .int .i64 0] 132
/-- An empty list of the program: its three blocks. -/
def LI (w : World) (bl : Nat) : Prop := ∃ g r e b, w.heap[bl]? = some (liC g) ∧ w.heap[g]? = some (qlC e b r) ∧ w.heap[r]? = some rwC
theorem LI.on {w w' : World} {bl : Nat} (h : LI w bl) (hb : Below w.heap.size w w') : LI w' bl := by
  obtain ⟨g, r, e, b, h1, h2, h3⟩ := h
  exact ⟨g, r, e, b, keep_row h1 hb, keep_row h2 hb, keep_row h3 hb⟩
theorem qrow4 {w : World} {g T : Nat} {v0 v1 v2 v3 : Value} (h : w.heap[g]? = some (.cells #[v0, v1, v2, v3] T)) : w.cell? ⟨g, 0, none⟩ = some v0 ∧ w.cell? ⟨g, 1, none⟩ = some v1 ∧ w.cell? ⟨g, 2, none⟩ = some v2 ∧ w.cell? ⟨g, 3, none⟩ = some v3 ∧ ∀ j, w.frozen? ⟨g, j, none⟩ = false := by
  refine ⟨?_, ?_, ?_, ?_, fun j => frozen_of_row _ _ _ _ _ h⟩ <;> rw [cell_of_row _ _ _ _ _ _ h] <;> rfl
set_option maxHeartbeats 1000000 in
set_option maxRecDepth 20000 in
theorem elems_nil (w : World) : Calls Tryz.prog 194 #[.slice none 0 0] w fun e w' => e = .returned (.int .i64 0) ∧ Below w.heap.size w w' := by
  go_enter Tryz.func194, Tryz.ntmps194
  go_wp2
  go_rounds 1
  go_wp2
  go_returns
  exact ⟨rfl, by go_grown⟩
set_option maxHeartbeats 1000000 in
set_option maxRecDepth 20000 in
theorem newRow_nil (w : World) : Calls Tryz.prog 133 #[.slice none 0 0] w fun r w' => r = .returned (.agg #[.slice none 0 0, .int .i64 0]) ∧ Below w.heap.size w w' := by
  have HE : Hid _ := elems_nil
  go_enter Tryz.func133, Tryz.ntmps133
  go_wp2_with fail
  refine (show Calls _ _ _ _ _ from HE.out _).mono ?_
  rintro e w1 ⟨rfl, hb1⟩
  have HB1 : Hid (Below w.heap.size w w1) := ((Below.refl _ w).alloc (Nat.le_refl _) _).trans (hb1.mono (by simp))
  have hr := keep_row (one_alloc w (.cells #[.slice none 0 0, .int .i64 0] 212)) hb1
  obtain ⟨c0, c1, cf⟩ := prow2 hr
  have hr2 : ((w1.setCell ⟨w.heap.size, 0, none⟩ (.slice none 0 0)).setCell ⟨w.heap.size, 1, none⟩ (.int .i64 0)).heap[w.heap.size]? = some (.cells #[.slice none 0 0, .int .i64 0] 212) := by
    rw [heap_setCell_same _ _ _ _ _ _ (heap_setCell_same _ _ _ _ _ _ hr)]; rfl
  have HR2 : Hid _ := hr2
  clear hb1 hr hr2
  go_wp2
  obtain ⟨g0, g1, gf⟩ := prow2 HR2.out
  exact bodyPost_ret (v := .agg #[.slice none 0 0, .int .i64 0]) (by simp [results, Tryz.results133, go_sem, g0, g1]) rfl ⟨rfl, (HB1.out.setCell (p := ⟨w.heap.size, 0, none⟩) (Nat.le_refl _) _).setCell (p := ⟨w.heap.size, 1, none⟩) (Nat.le_refl _) _⟩
set_option maxHeartbeats 1000000 in
set_option maxRecDepth 20000 in
theorem mayBe_yes (e b : Int) (h1 : 1 ≤ e) (h2 : e ≤ 4096) (h3 : 0 ≤ b) (h4 : b ≤ 4096) (w : World) : Calls Tryz.prog 132 #[.agg #[.int .i64 e, .int .i64 b]] w fun r w' => r = .returned (.bool true) ∧ Below w.heap.size w w' := by
  go_enter Tryz.func132, Tryz.ntmps132
  go_wp2
  go_returns
  exact ⟨rfl, (Below.refl _ w).alloc (Nat.le_refl _) _⟩
set_option maxHeartbeats 1000000 in
set_option maxRecDepth 20000 in
theorem qNew (E B : Int) (h1 : 1 ≤ E) (h2 : E ≤ 4096) (h3 : 0 ≤ B) (h4 : B ≤ 4096) (w : World) : Calls Tryz.prog 63 #[.int .i64 E, .int .i64 B] w fun e w' => ∃ g r, e = .returned (.tuple #[.pointer (some ⟨g, 0, none⟩), .int .i64 0]) ∧ w'.heap[g]? = some (qlC E B r) ∧ w'.heap[r]? = some rwC ∧ Below w.heap.size w w' := by
  have HM : Hid (∀ W, Calls Tryz.prog 132 #[.agg #[.int .i64 E, .int .i64 B]] W fun r w' => r = .returned (.bool true) ∧ Below W.heap.size W w') := fun W => mayBe_yes E B h1 h2 h3 h4 W
  have HNR : Hid _ := newRow_nil
  clear h1 h2 h3 h4
  go_enter Tryz.func63, Tryz.ntmps63
  go_wp2_with fail
  refine (show Calls _ _ _ _ _ from HM.out _).mono ?_
  rintro r w1 ⟨rfl, hb1⟩
  have HB1 : Hid (Below w.heap.size w w1) := ((Below.refl _ w).alloc (Nat.le_refl _) _).trans (hb1.mono (by simp))
  have hr := keep_row (one_alloc w (.cells #[.int .i64 E, .int .i64 B] 209)) hb1
  obtain ⟨c0, c1, cf⟩ := prow2 hr
  have hSA := And.intro c0 c1
  have HKS : Hid (∀ w' : World, Below w1.heap.size w1 w' → w'.cell? ⟨w.heap.size, 0, none⟩ = some (.int .i64 E) ∧ w'.cell? ⟨w.heap.size, 1, none⟩ = some (.int .i64 B)) := fun W hW => by
    obtain ⟨d0, d1, df⟩ := prow2 (keep_row hr hW)
    exact ⟨d0, d1⟩
  clear hb1 hr c0 c1 cf
  go_wp2_with fail
  go_region_held3 (fun w' : World => w'.cell? ⟨w.heap.size, 0, none⟩ = some (.int .i64 E) ∧ w'.cell? ⟨w.heap.size, 1, none⟩ = some (.int .i64 B))
    (first | exact hSA | exact HKS.out _ hx1 | exact HKS.out _ (hx1.alloc hx1.size _) | exact HKS.out _ ((hx1.alloc hx1.size _).alloc (by simp; have := hx1.size; omega) _) | exact HKS.out _ ((Below.refl _ w1).drew))
    (first | (go_at_call 133; refine (show Calls _ _ _ _ _ from HNR.out _).mono ?_; rintro e a1 ⟨rfl, hb1⟩; have hx1 := ((Below.refl _ w1).drew).trans (hb1.mono (Nat.le_refl _))))
  have hy := HB1.out.trans (hx1.mono HB1.out.size)
  obtain ⟨q1, q2, q3⟩ := two_rows (Below.refl ((a1.alloc (.cells #[.slice none 0 0, .int .i64 0] 212)).alloc (.cells #[.int .i64 E, .int .i64 B, .int .i64 0, .slice (some ⟨a1.heap.size, 0, none⟩) 1 1] 216)).heap.size _)
  have HLS : Hid (((a1.alloc (.cells #[.slice none 0 0, .int .i64 0] 212)).alloc (.cells #[.int .i64 E, .int .i64 B, .int .i64 0, .slice (some ⟨a1.heap.size, 0, none⟩) 1 1] 216)).heap[a1.heap.size + 1]? = some (qlC E B a1.heap.size) ∧ ((a1.alloc (.cells #[.slice none 0 0, .int .i64 0] 212)).alloc (.cells #[.int .i64 E, .int .i64 B, .int .i64 0, .slice (some ⟨a1.heap.size, 0, none⟩) 1 1] 216)).heap[a1.heap.size]? = some rwC) := ⟨q3, q2⟩
  have HBF : Hid (Below w.heap.size w ((a1.alloc (.cells #[.slice none 0 0, .int .i64 0] 212)).alloc (.cells #[.int .i64 E, .int .i64 B, .int .i64 0, .slice (some ⟨a1.heap.size, 0, none⟩) 1 1] 216))) := hy.trans (q1.mono hy.size)
  clear hy q1 q2 q3 hx1 hb1 hSA
  go_wp2
  go_returns
  exact ⟨_, _, rfl, HLS.out.1, HLS.out.2, HBF.out⟩
set_option maxHeartbeats 1000000 in
set_option maxRecDepth 20000 in
theorem newList_any (t : TH) (ht : okT t = true) (w : World) : Calls Tryz.prog 14 #[thV t] w fun e w' => ∃ b, e = .returned (.pointer (some ⟨b, 0, none⟩)) ∧ w.heap.size ≤ b ∧ LI w' b ∧ Below w.heap.size w w' := by
  have hin : 1 ≤ t.a ∧ t.a ≤ 4096 ∧ 0 ≤ t.b ∧ t.b ≤ 4096 := by simp [okT, inB] at ht; omega
  have HN : Hid (∀ W, _) := fun W => qNew t.a t.b hin.1 hin.2.1 hin.2.2.1 hin.2.2.2 W
  clear hin ht
  obtain ⟨a, b, c, d, e, f, g, h, i⟩ := t
  unfold thV
  simp only [] at *
  obtain ⟨W1, hW1⟩ : ∃ W, W = w.alloc (.cells #[.int .i64 a, .int .i64 b, .int .i64 c, .int .i64 d, .int .i64 e, .int .i64 f, .int .i64 g, .int .i64 h, .int .i64 i] 23) := ⟨_, rfl⟩
  have HB : Hid (Below w.heap.size w W1) := by rw [hW1]; exact (Below.refl _ _).alloc (Nat.le_refl _) _
  go_enter Tryz.func14, Tryz.ntmps14
  go_wp2_with fail
  rw [← hW1]
  refine (show Calls _ _ _ _ _ from HN.out _).mono ?_
  rintro e w2 ⟨gq, rq, rfl, hg, hr, hb2⟩
  have HB2 : Hid (Below w.heap.size w w2) := HB.out.trans (hb2.mono HB.out.size)
  have HG : Hid (w2.heap[gq]? = some (qlC a b rq) ∧ w2.heap[rq]? = some rwC) := ⟨hg, hr⟩
  clear hb2 hW1 hg hr
  go_wp2
  go_returns
  exact ⟨_, rfl, HB2.out.size, ⟨gq, rq, a, b, one_alloc _ _, keep_row HG.out.1 ((Below.refl _ _).alloc (Nat.le_refl _) _), keep_row HG.out.2 ((Below.refl _ _).alloc (Nat.le_refl _) _)⟩, HB2.out.alloc HB2.out.size _⟩
set_option maxHeartbeats 4000000 in
set_option maxRecDepth 20000 in
theorem New_list (t : TH) (ht : okT t = true) (w : World) : Calls Tryz.prog 7 #[.int .i64 2, thV t] w fun e w' => ∃ bv bs, e = .returned (.tuple #[.pointer (some ⟨bv, 0, none⟩), .int .i64 0]) ∧ w.heap.size ≤ bs ∧ bs < bv ∧ LI w' bs ∧ w'.heap[bv]? = some (vC 2 (liB bs)) ∧ Below w.heap.size w w' := by
  have HCK : Hid (∀ W, Calls Tryz.prog 4 #[thV t] W fun e w' => e = .returned (.int .i64 0) ∧ Below W.heap.size W w') := fun W => by have := Check_any t W; rw [if_pos ht] at this; exact this
  have HNS : Hid (∀ W, Calls Tryz.prog 14 #[thV t] W fun e w' => ∃ b, e = .returned (.pointer (some ⟨b, 0, none⟩)) ∧ W.heap.size ≤ b ∧ LI w' b ∧ Below W.heap.size W w') := fun W => newList_any t ht W
  obtain ⟨a, b, c, d, e, f, g, h, i⟩ := t
  unfold thV at *
  simp only [] at *
  obtain ⟨W1, hW1⟩ : ∃ W, W = w.alloc (.cells #[.int .i64 a, .int .i64 b, .int .i64 c, .int .i64 d, .int .i64 e, .int .i64 f, .int .i64 g, .int .i64 h, .int .i64 i] 23) := ⟨_, rfl⟩
  obtain ⟨r, hr⟩ : ∃ r, w.heap.size = r := ⟨_, rfl⟩
  have HA : Hid (W1.heap[r]? = some (.cells #[.int .i64 a, .int .i64 b, .int .i64 c, .int .i64 d, .int .i64 e, .int .i64 f, .int .i64 g, .int .i64 h, .int .i64 i] 23)) := by rw [hW1, ← hr]; exact one_alloc _ _
  have HB : Hid (Below w.heap.size w W1) := by rw [hW1]; exact (Below.refl _ _).alloc (Nat.le_refl _) _
  have HRR : Hid (w.heap.size = r) := hr
  clear ht hr
  go_enter Tryz.func7, Tryz.ntmps7
  go_wp2_with fail
  rw [← hW1]
  refine (show Calls _ _ _ _ _ from HCK.out _).mono ?_
  rintro e w2 ⟨rfl, hb2⟩
  have HB2 : Hid (Below w.heap.size w w2) := HB.out.trans (hb2.mono HB.out.size)
  rw [HRR.out]
  obtain ⟨x0, x1, x2, x3, x4, x5, x6, x7, x8, xf⟩ := row9 (keep_row HA.out hb2)
  clear hb2 hW1
  go_wp2_with fail
  refine (show Calls _ _ _ _ _ from HNS.out _).mono ?_
  rintro e w3 ⟨bs, rfl, hbs, hr3, hb3⟩
  have HB3 : Hid (Below w.heap.size w w3) := HB2.out.trans (hb3.mono HB2.out.size)
  have HR3 : Hid (LI w3 bs) := hr3
  have HLT : Hid (bs < w3.heap.size) := by obtain ⟨_, _, _, _, q, _⟩ := hr3; exact row_lt q
  have HGE : Hid (w.heap.size ≤ bs) := Nat.le_trans HB2.out.size hbs
  clear hb3 hr3 hbs x0 x1 x2 x3 x4 x5 x6 x7 x8 xf
  go_wp2
  go_returns
  exact ⟨w3.heap.size, bs, rfl, HGE.out, HLT.out, HR3.out.on ((Below.refl _ _).alloc (Nat.le_refl _) _), one_alloc _ _, HB3.out.alloc HB3.out.size _⟩
set_option maxHeartbeats 1000000 in
set_option maxRecDepth 20000 in
theorem Nodes_nil (g r : Nat) (e0 b0 : Int) (w : World) (h2 : w.heap[g]? = some (qlC e0 b0 r)) (h3 : w.heap[r]? = some rwC) : Calls Tryz.prog 482 #[.pointer (some ⟨g, 0, none⟩)] w fun e w' => e = .returned (.slice none 0 0) ∧ Below w.heap.size w w' := by
  unfold qlC rwC at *
  obtain ⟨q0, q1, q2, q3, qf⟩ := qrow4 h2
  obtain ⟨r0, r1, rf⟩ := prow2 h3
  clear h2 h3
  go_enter Tryz.func482, Tryz.ntmps482
  go_wp2
  go_rounds 2
  go_wp2
  go_rounds 1
  go_wp2
  go_returns
  exact ⟨rfl, by go_grown⟩
set_option maxHeartbeats 1000000 in
set_option maxRecDepth 20000 in
theorem lcount_nil (bl : Nat) (w : World) (h : LI w bl) : Calls Tryz.prog 86 #[.pointer (some ⟨bl, 0, none⟩)] w fun e w' => e = .returned (.int .i64 0) ∧ Below w.heap.size w w' := by
  obtain ⟨g, r, e0, b0, h1, h2, h3⟩ := h
  unfold liC qlC rwC at *
  obtain ⟨l0, l1, lf⟩ := prow2 h1
  obtain ⟨q0, q1, q2, q3, qf⟩ := qrow4 h2
  obtain ⟨r0, r1, rf⟩ := prow2 h3
  clear h1 h2 h3
  go_enter Tryz.func86, Tryz.ntmps86
  go_wp2
  go_returns
  exact ⟨rfl, Below.refl _ _⟩
set_option maxHeartbeats 1000000 in
set_option maxRecDepth 20000 in
theorem lbytes_nil (bl : Nat) (w : World) (h : LI w bl) : Calls Tryz.prog 477 #[.pointer (some ⟨bl, 0, none⟩)] w fun e w' => e = .returned (.int .i64 0) ∧ Below w.heap.size w w' := by
  obtain ⟨g, r, e0, b0, h1, h2, h3⟩ := h
  unfold liC qlC rwC at *
  obtain ⟨l0, l1, lf⟩ := prow2 h1
  obtain ⟨q0, q1, q2, q3, qf⟩ := qrow4 h2
  obtain ⟨r0, r1, rf⟩ := prow2 h3
  clear h1 h2 h3
  go_enter Tryz.func477, Tryz.ntmps477
  go_wp2
  go_returns
  exact ⟨rfl, Below.refl _ _⟩
set_option maxHeartbeats 1000000 in
set_option maxRecDepth 20000 in
theorem lraw_nil (bl : Nat) (w : World) (h : LI w bl) : Calls Tryz.prog 480 #[.pointer (some ⟨bl, 0, none⟩)] w fun e w' => e = .returned (.slice none 0 0) ∧ Below w.heap.size w w' := by
  obtain ⟨g, r, e0, b0, h1, h2, h3⟩ := h
  have HN : Hid _ := Nodes_nil g r e0 b0 w h2 h3
  unfold liC at *
  obtain ⟨l0, l1, lf⟩ := prow2 h1
  clear h1 h2 h3
  go_enter Tryz.func480, Tryz.ntmps480
  go_wp2_with fail
  refine (show Calls _ _ _ _ _ from HN.out).mono ?_
  rintro e w2 ⟨rfl, hb2⟩
  have HB2 : Hid _ := hb2
  clear hb2
  go_wp2
  go_ret
  exact ⟨rfl, HB2.out⟩
set_option maxHeartbeats 1000000 in
set_option maxRecDepth 20000 in
theorem lenc_nil (bl : Nat) (w : World) (h : LI w bl) : Calls Tryz.prog 479 #[.pointer (some ⟨bl, 0, none⟩)] w fun e w' => e = .returned (.string lpE) ∧ Below w.heap.size w w' := by
  have HN : Hid _ := lraw_nil bl w h
  unfold lpE
  clear h
  go_enter Tryz.func479, Tryz.ntmps479
  go_wp2_with fail
  refine (show Calls _ _ _ _ _ from HN.out).mono ?_
  rintro e w2 ⟨rfl, hb2⟩
  have HB2 : Hid _ := hb2
  clear hb2
  go_wp2
  go_ret
  exact ⟨rfl, HB2.out⟩
set_option maxHeartbeats 1000000 in
set_option maxRecDepth 20000 in
theorem Enc_li (bv bl : Nat) (k : Int) (w : World) (hv : w.heap[bv]? = some (vC k (liB bl))) (h : LI w bl) : Calls Tryz.prog 24 #[.pointer (some ⟨bv, 0, none⟩)] w fun e w' => e = .returned (.string lpE) ∧ Below w.heap.size w w' := by
  have HN : Hid _ := lenc_nil bl w h
  unfold vC liB at *
  obtain ⟨c0, c1, cf⟩ := prow2 hv
  clear h hv
  go_enter Tryz.func24, Tryz.ntmps24
  go_wp2_with fail
  refine (show Calls _ _ _ _ _ from HN.out).mono ?_
  rintro e w2 ⟨rfl, hb2⟩
  have HB2 : Hid _ := hb2
  clear hb2
  go_wp2
  go_ret
  exact ⟨rfl, HB2.out⟩
set_option maxHeartbeats 1000000 in
set_option maxRecDepth 20000 in
theorem Len_li (bv bl : Nat) (k : Int) (w : World) (hv : w.heap[bv]? = some (vC k (liB bl))) (h : LI w bl) : Calls Tryz.prog 25 #[.pointer (some ⟨bv, 0, none⟩)] w fun e w' => e = .returned (.int .i64 0) ∧ Below w.heap.size w w' := by
  have HN : Hid _ := lcount_nil bl w h
  unfold vC liB at *
  obtain ⟨c0, c1, cf⟩ := prow2 hv
  clear h hv
  go_enter Tryz.func25, Tryz.ntmps25
  go_wp2_with fail
  refine (show Calls _ _ _ _ _ from HN.out).mono ?_
  rintro e w2 ⟨rfl, hb2⟩
  have HB2 : Hid _ := hb2
  clear hb2
  go_wp2
  go_ret
  exact ⟨rfl, HB2.out⟩
set_option maxHeartbeats 1000000 in
set_option maxRecDepth 20000 in
theorem Raw_li (bv bl : Nat) (k : Int) (w : World) (hv : w.heap[bv]? = some (vC k (liB bl))) (h : LI w bl) : Calls Tryz.prog 47 #[.pointer (some ⟨bv, 0, none⟩)] w fun e w' => e = .returned (.slice none 0 0) ∧ Below w.heap.size w w' := by
  have HN : Hid _ := lraw_nil bl w h
  unfold vC liB at *
  obtain ⟨c0, c1, cf⟩ := prow2 hv
  clear h hv
  go_enter Tryz.func47, Tryz.ntmps47
  go_wp2_with fail
  refine (show Calls _ _ _ _ _ from HN.out).mono ?_
  rintro e w2 ⟨rfl, hb2⟩
  have HB2 : Hid _ := hb2
  clear hb2
  go_wp2
  go_ret
  exact ⟨rfl, HB2.out⟩
set_option maxHeartbeats 1000000 in
set_option maxRecDepth 20000 in
theorem Size_li (bv bl : Nat)  (w : World) (h : w.heap[bv]? = some (vC 2 (liB bl))) (hl : LI w bl) : Calls Tryz.prog 45 #[.pointer (some ⟨bv, 0, none⟩)] w fun e w' => e = .returned (.int .i64 48) ∧ Below w.heap.size w w' := by
  have HBY : Hid (∀ W, Below w.heap.size w W → Calls Tryz.prog 477 #[.pointer (some ⟨bl, 0, none⟩)] W fun e w' => e = .returned (.int .i64 0) ∧ Below W.heap.size W w') := fun W hW => lbytes_nil bl W (hl.on hW)
  have HCO : Hid (∀ W, Below w.heap.size w W → Calls Tryz.prog 86 #[.pointer (some ⟨bl, 0, none⟩)] W fun e w' => e = .returned (.int .i64 0) ∧ Below W.heap.size W w') := fun W hW => lcount_nil bl W (hl.on hW)
  have HEA : Hid _ := each_any
  have HKS : Hid (∀ W, Below w.heap.size w W → W.cell? ⟨bv, 0, none⟩ = some (.int .i64 2) ∧ W.cell? ⟨bv, 1, none⟩ = some (liB bl)) := fun W hW => by
    have hk := keep_row h hW
    unfold vC at hk
    obtain ⟨c0, c1, cf⟩ := prow2 hk
    exact ⟨c0, c1⟩
  clear h hl
  have hcur : Below w.heap.size w w.drew := (Below.refl _ w).drew
  unfold liB at *
  go_enter Tryz.func45, Tryz.ntmps45
  go_wp2_with fail
  go_region_held3 (fun W : World => W.cell? ⟨bv, 0, none⟩ = some (.int .i64 2) ∧ W.cell? ⟨bv, 1, none⟩ = some (.iface 65 (.pointer (some ⟨bl, 0, none⟩))))
    (exact HKS.out _ hcur)
    (first
      | (go_at_call 477; refine (show Calls _ _ _ _ _ from HBY.out _ hcur).mono ?_; rintro e a1 ⟨rfl, hb1⟩; have hcur := hcur.trans (hb1.mono hcur.size))
      | (go_at_call 86; refine (show Calls _ _ _ _ _ from HCO.out _ hcur).mono ?_; rintro e a1 ⟨rfl, hb1⟩; have hcur := hcur.trans (hb1.mono hcur.size))
      | (go_at_call 107; refine (show Calls _ _ _ _ _ from HEA.out _ (by omega) _).mono ?_; rintro e a1 ⟨rfl, hb1⟩; have hcur := hcur.trans (hb1.mono hcur.size)))
  go_wp2
  go_ret
  exact ⟨by first | kernel_rfl | (simp; kernel_rfl), hcur⟩
set_option maxHeartbeats 1000000 in
set_option maxRecDepth 20000 in
theorem qAt_nil (g r : Nat) (e0 b0 : Int) (w : World) (h2 : w.heap[g]? = some (qlC e0 b0 r)) : Calls Tryz.prog 89 #[.pointer (some ⟨g, 0, none⟩), .int .i64 0] w fun e w' => e = .returned (.tuple #[.string ⟨#[]⟩, .bool false]) ∧ Below w.heap.size w w' := by
  unfold qlC at *
  obtain ⟨q0, q1, q2, q3, qf⟩ := qrow4 h2
  clear h2
  have HB0 : Hid (Below w.heap.size w w) := Below.refl _ _
  go_enter Tryz.func89, Tryz.ntmps89
  go_wp2
  go_returns
  exact ⟨rfl, HB0.out⟩
set_option maxHeartbeats 1000000 in
set_option maxRecDepth 20000 in
theorem qRange_nil (g r : Nat) (e0 b0 : Int) (w : World) (h2 : w.heap[g]? = some (qlC e0 b0 r)) : Calls Tryz.prog 182 #[.pointer (some ⟨g, 0, none⟩), .int .i64 0, .int .i64 (-1)] w fun e w' => e = .returned (.slice none 0 0) ∧ Below w.heap.size w w' := by
  unfold qlC at *
  obtain ⟨q0, q1, q2, q3, qf⟩ := qrow4 h2
  clear h2
  have HB0 : Hid (Below w.heap.size w w) := Below.refl _ _
  go_enter Tryz.func182, Tryz.ntmps182
  go_wp2
  go_quiet (fail)
  go_wp2
  go_returns
  exact ⟨rfl, below_dn (Below.refl _ _) nq⟩
set_option maxHeartbeats 1000000 in
set_option maxRecDepth 20000 in
theorem At_li (bv bl : Nat) (w : World) (hv : w.heap[bv]? = some (vC 2 (liB bl))) (h : LI w bl) : Calls Tryz.prog 51 #[.pointer (some ⟨bv, 0, none⟩), .int .i64 0] w fun e w' => e = .returned (.tuple #[.string ⟨#[]⟩, .int .i64 6]) ∧ Below w.heap.size w w' := by
  have HAS : Hid _ := asList_li bv 2 bl w hv
  obtain ⟨g, r, e0, b0, h1, h2, h3⟩ := h
  have HQ : Hid _ := qAt_nil g r e0 b0 w h2
  unfold liC at *
  obtain ⟨l0, l1, lf⟩ := prow2 h1
  clear h1 h2 h3 hv
  have HB0 : Hid (Below w.heap.size w w) := Below.refl _ _
  go_enter Tryz.func51, Tryz.ntmps51
  go_wp2_with fail
  refine (show Calls _ _ _ _ _ from HAS.out).mono ?_
  rintro e w1 ⟨rfl, he1⟩
  have he1 := he1.symm
  subst he1
  go_wp2_with fail
  refine (show Calls _ _ _ _ _ from HQ.out).mono ?_
  rintro e w2 ⟨rfl, hb2⟩
  have HB2 : Hid (Below w.heap.size w w2) := HB0.out.trans (hb2.mono HB0.out.size)
  clear hb2
  go_wp2
  go_returns
  exact ⟨rfl, HB2.out⟩
set_option maxHeartbeats 1000000 in
set_option maxRecDepth 20000 in
theorem lpart_nil (bl : Nat) (w : World) (h : LI w bl) : Calls Tryz.prog 115 #[.pointer (some ⟨bl, 0, none⟩), .int .i64 0, .int .i64 5] w fun e w' => e = .returned (.slice none 0 0) ∧ Below w.heap.size w w' := by
  have HCO : Hid (∀ W, Below w.heap.size w W → _) := fun W hW => lcount_nil bl W (h.on hW)
  obtain ⟨g, r, e0, b0, h1, h2, h3⟩ := h
  have HQ : Hid (∀ W, Below w.heap.size w W → _) := fun W hW => qRange_nil g r e0 b0 W (keep_row h2 hW)
  have HKS : Hid (∀ W, Below w.heap.size w W → W.cell? ⟨bl, 0, none⟩ = some (.pointer (some ⟨g, 0, none⟩))) := fun W hW => by
    have hk := keep_row h1 hW
    unfold liC at hk
    exact (prow2 hk).1
  clear h1 h2 h3
  go_enter Tryz.func115, Tryz.ntmps115
  go_wp2_with fail
  refine (show Calls _ _ _ _ _ from HCO.out _ (Below.refl _ _)).mono ?_
  rintro e w1 ⟨rfl, hb1⟩
  have HB1 : Hid (Below w.heap.size w w1) := hb1
  clear hb1
  go_wp2_with fail
  have hcur : Below w.heap.size w w1.drew := HB1.out.drew
  go_region_held3 (fun W : World => W.cell? ⟨bl, 0, none⟩ = some (.pointer (some ⟨g, 0, none⟩))) (exact HKS.out _ hcur)
    (first
      | (go_at_call 86; refine (show Calls _ _ _ _ _ from HCO.out _ hcur).mono ?_; rintro e a1 ⟨rfl, hb1⟩; have hcur := hcur.trans (hb1.mono hcur.size))
      | (go_at_call 182; refine (show Calls _ _ _ _ _ from HQ.out _ hcur).mono ?_; rintro e a1 ⟨rfl, hb1⟩; have hcur := hcur.trans (hb1.mono hcur.size)))
  go_wp2
  go_ret
  exact ⟨rfl, hcur⟩
set_option maxHeartbeats 1000000 in
set_option maxRecDepth 20000 in
theorem Range_li (bv bl : Nat) (w : World) (hv : w.heap[bv]? = some (vC 2 (liB bl))) (h : LI w bl) : Calls Tryz.prog 53 #[.pointer (some ⟨bv, 0, none⟩), .int .i64 0, .int .i64 5] w fun e w' => e = .returned (.tuple #[.slice none 0 0, .int .i64 0]) ∧ Below w.heap.size w w' := by
  have HAS : Hid _ := asList_li bv 2 bl w hv
  have HQ : Hid _ := lpart_nil bl w h
  clear h hv
  have HB0 : Hid (Below w.heap.size w w) := Below.refl _ _
  go_enter Tryz.func53, Tryz.ntmps53
  go_wp2_with fail
  refine (show Calls _ _ _ _ _ from HAS.out).mono ?_
  rintro e w1 ⟨rfl, he1⟩
  have he1 := he1.symm
  subst he1
  go_wp2_with fail
  refine (show Calls _ _ _ _ _ from HQ.out).mono ?_
  rintro e w2 ⟨rfl, hb2⟩
  have HB2 : Hid (Below w.heap.size w w2) := HB0.out.trans (hb2.mono HB0.out.size)
  clear hb2
  go_wp2
  go_returns
  exact ⟨rfl, HB2.out⟩
end Go.Proofs.YtfkcpilkhdbpoaaGreatDoor.V
