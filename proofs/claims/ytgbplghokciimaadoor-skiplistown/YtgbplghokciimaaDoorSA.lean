import Derived.Test.YtgbplghokciimaaDoorStM
namespace Go.Proofs.YtgbplghokciimaaDoor
open Go.RowKit I
set_option linter.unusedVariables false
set_option maxHeartbeats 4000000 in
set_option maxRecDepth 100000 in
theorem step_0 (g : Nat) (S : SkS) (N : Nat) (v : Value) (o : OpD) (w : World) (hk : o.k < 1 ∨ 10 < o.k) (h : Bd w g S N) (hN : N < 1000000) (he : ERow (fun q => q ∉ bblk g S) w v (ens S.T)) (hT : Tab w) (ho : OpOk o) : Calls Tryd.prog 20 #[.pointer (some ⟨g, 0, none⟩), bval S.seed v, .agg (opA o)] w (StepPost g S N w) := by
  obtain ⟨P, c, rfl⟩ := he.form
  rw [ens_len] at he ⊢
  have hlen := h.len
  obtain ⟨n, hn⟩ : ∃ n, S.T.length = n := ⟨_, rfl⟩
  have HNL : Hid (S.T.length = n) := hn
  have hel : (ens S.T).length = n := by rw [ens_len]; exact hn
  have HEL : Hid ((ens S.T).length = n) := hel
  rw [hn] at he ⊢ hlen
  have HBD : Hid (Bd w g S N) := h
  have HER : Hid (ERow (fun q => q ∉ bblk g S) w (.slice P n c) (ens S.T)) := he
  have HOK : Hid (OpOk o) := ho
  have HLT : Hid (∀ q ∈ bblk g S, q < w.heap.size) := h.lts
  obtain ⟨W3, hW3⟩ : ∃ W3, W3 = ((w.alloc (.cells #[.int .i64 S.seed, .slice P n c] 51)).alloc (.cells (opA o) 32)).alloc (.cells #[.int .i64 0, .slice none 0 0] 51) := ⟨_, rfl⟩
  obtain ⟨q0, q1, q2, q3, q4⟩ := alloc3 w (.cells #[.int .i64 S.seed, .slice P n c] 51) (.cells (opA o) 32) (.cells #[.int .i64 0, .slice none 0 0] 51)
  rw [← hW3] at q0 q1 q2 q3 q4
  have HB3 : Hid (Below w.heap.size w W3) := q4
  have HQ : Hid _ := And.intro q0 (And.intro q1 (And.intro q2 q3))
  clear h he ho hn hel hT q0 q1 q2 q3 q4
  go_enter Tryd.func20, Tryd.ntmps20
  go_upto_region 1 with fail
  rw [← hW3]
  clear hW3
  obtain ⟨db, hdb⟩ : ∃ db, w.heap.size = db := ⟨_, rfl⟩
  rw [hdb] at HQ ⊢
  obtain ⟨ob, hob⟩ : ∃ ob, db + 1 = ob := ⟨_, rfl⟩
  rw [hob] at HQ ⊢
  obtain ⟨rb, hrb⟩ : ∃ rb, ob + 1 = rb := ⟨_, rfl⟩
  rw [hrb] at HQ ⊢
  have HZ : Hid (w.heap.size = db ∧ db + 1 = ob ∧ ob + 1 = rb ∧ W3.heap.size = rb + 1) := ⟨hdb, hob, hrb, by have := HQ.out.2.2.2; omega⟩
  clear hdb hob hrb
  obtain ⟨d0, d1, df⟩ := cells2 HQ.out.1
  obtain ⟨r0, r1, rf⟩ := cells2 HQ.out.2.2.1
  have k0 : W3.cell? ⟨ob, 0, none⟩ = some (.int .i64 o.k) := by rw [op17 HQ.out.2.1 0 _ rfl]
  have z0 := r0
  have z1 := r1
  have HRB : Hid (W3.heap[rb]? = some (.cells #[.int .i64 0, .slice none 0 0] 51)) := HQ.out.2.2.1
  have HBF : Hid (Below w.heap.size w W3) := HB3.out
  obtain ⟨kk, hkk⟩ : ∃ kk, o.k = kk := ⟨_, rfl⟩
  rw [hkk] at k0 hk
  have n1 : ¬ kk = 1 := by omega
  have n2 : ¬ kk = 2 := by omega
  have n3 : ¬ kk = 3 := by omega
  have n4 : ¬ kk = 4 := by omega
  have n5 : ¬ kk = 5 := by omega
  have n6 : ¬ kk = 6 := by omega
  have n7 : ¬ kk = 7 := by omega
  have n8 : ¬ kk = 8 := by omega
  have n9 : ¬ kk = 9 := by omega
  have n10 : ¬ kk = 10 := by omega
  clear hk hkk
  go_wp2
  obtain ⟨W7, hW7⟩ : ∃ W7, W7 = (W3.setCell ⟨rb, 0, none⟩ (.int .i64 S.seed)).setCell ⟨rb, 1, none⟩ (.slice P n c) := ⟨_, rfl⟩
  have hr7 : W7.heap[rb]? = some (.cells #[.int .i64 S.seed, .slice P n c] 51) := by
    rw [hW7, heap_setCell_same _ _ _ _ _ _ (heap_setCell_same _ _ _ _ _ _ HRB.out)]
    rfl
  have hon : Only W3 W7 rb := by rw [hW7]; exact ((Only.refl _ rb).set 0 _).set 1 _
  have hb7 : Below w.heap.size w W7 := HBF.out.trans (hon.below (by have := HZ.out; omega))
  rw [← hW7]
  obtain ⟨s0, s1, sf⟩ := cells2 hr7
  exact bodyPost_ret (v := .tuple #[bval S.seed (.slice P n c), .bool true]) (by simp [results, Tryd.results20, go_sem, s0, s1]) rfl (quiet_post HBD.out HER.out hb7)
end Go.Proofs.YtgbplghokciimaaDoor
namespace Go.Proofs.YtgbplghokciimaaDoor
open Go.RowKit I
set_option linter.unusedVariables false
set_option maxHeartbeats 4000000 in
set_option maxRecDepth 100000 in
theorem step_1 (g : Nat) (S : SkS) (N : Nat) (v : Value) (o : OpD) (w : World) (hk : o.k = 1) (h : Bd w g S N) (hN : N < 1000000) (he : ERow (fun q => q ∉ bblk g S) w v (ens S.T)) (hT : Tab w) (ho : OpOk o) : Calls Tryd.prog 20 #[.pointer (some ⟨g, 0, none⟩), bval S.seed v, .agg (opA o)] w (StepPost g S N w) := by
  obtain ⟨P, c, rfl⟩ := he.form
  rw [ens_len] at he ⊢
  have hlen := h.len
  obtain ⟨n, hn⟩ : ∃ n, S.T.length = n := ⟨_, rfl⟩
  have HNL : Hid (S.T.length = n) := hn
  have hel : (ens S.T).length = n := by rw [ens_len]; exact hn
  have HEL : Hid ((ens S.T).length = n) := hel
  rw [hn] at he ⊢ hlen
  have HBD : Hid (Bd w g S N) := h
  have HER : Hid (ERow (fun q => q ∉ bblk g S) w (.slice P n c) (ens S.T)) := he
  have HOK : Hid (OpOk o) := ho
  have HLT : Hid (∀ q ∈ bblk g S, q < w.heap.size) := h.lts
  obtain ⟨W3, hW3⟩ : ∃ W3, W3 = ((w.alloc (.cells #[.int .i64 S.seed, .slice P n c] 51)).alloc (.cells (opA o) 32)).alloc (.cells #[.int .i64 0, .slice none 0 0] 51) := ⟨_, rfl⟩
  obtain ⟨q0, q1, q2, q3, q4⟩ := alloc3 w (.cells #[.int .i64 S.seed, .slice P n c] 51) (.cells (opA o) 32) (.cells #[.int .i64 0, .slice none 0 0] 51)
  rw [← hW3] at q0 q1 q2 q3 q4
  have HB3 : Hid (Below w.heap.size w W3) := q4
  have HQ : Hid _ := And.intro q0 (And.intro q1 (And.intro q2 q3))
  have hts := ho.t
  obtain ⟨bb, hbb⟩ : ∃ bb, decide ((dropM (ens S.T) o.t).length < (ens S.T).length) = bb := ⟨_, rfl⟩
  have hhas : hasM (ens S.T) o.t = bb := by rw [← hbb, drop_lt]; rfl
  obtain ⟨LN, hLN⟩ : ∃ LN, setM (ens S.T) o.t o.a o.b = LN := ⟨_, rfl⟩
  have HRS : Hid (∀ W, Below w.heap.size w W → Calls Tryd.prog 42 #[bval S.seed (.slice P n c), .string o.t, .int .i64 o.a, .int .i64 o.b] W fun e w' => ∃ r, e = .returned (.tuple #[bval S.seed r, .bool (!bb)]) ∧ ERow (fun q => W.heap.size ≤ q) w' r LN ∧ Below W.heap.size W w') := fun W hW => by
    have := rSet_any _ S.seed (.slice P n c) (ens S.T) (by omega) h.brd o.t o.a o.b W (he.on hW)
    rw [hbb, hLN] at this; exact this
  have HPS : Hid (∀ W, Below w.heap.size w W → Calls Tryd.prog 10 #[.pointer (some ⟨g, 0, none⟩), .string o.t, .int .i64 o.a, .int .i64 o.b] W fun e w' => e = .returned (.bool (!bb)) ∧ ∃ S' : SkS, Bd w' g S' (N + 1) ∧ S'.seed = S.seed ∧ ens S'.T = LN ∧ Moved W w' (bblk g S) (bblk g S')) := fun W hW => by
    have := Set_any g S N o.t o.a o.b W (h.below hW) hN (by omega) (hT.on hW)
    rw [hhas, hLN] at this
    exact this
  clear hbb hhas hLN
  clear h he ho hn hel hT q0 q1 q2 q3 q4
  go_enter Tryd.func20, Tryd.ntmps20
  go_upto_region 1 with fail
  rw [← hW3]
  clear hW3
  obtain ⟨db, hdb⟩ : ∃ db, w.heap.size = db := ⟨_, rfl⟩
  rw [hdb] at HQ ⊢
  obtain ⟨ob, hob⟩ : ∃ ob, db + 1 = ob := ⟨_, rfl⟩
  rw [hob] at HQ ⊢
  obtain ⟨rb, hrb⟩ : ∃ rb, ob + 1 = rb := ⟨_, rfl⟩
  rw [hrb] at HQ ⊢
  have HZ : Hid (w.heap.size = db ∧ db + 1 = ob ∧ ob + 1 = rb ∧ W3.heap.size = rb + 1) := ⟨hdb, hob, hrb, by have := HQ.out.2.2.2; omega⟩
  clear hdb hob hrb
  obtain ⟨d0, d1, df⟩ := cells2 HQ.out.1
  obtain ⟨r0, r1, rf⟩ := cells2 HQ.out.2.2.1
  have k0 : W3.cell? ⟨ob, 0, none⟩ = some (.int .i64 1) := by rw [op17 HQ.out.2.1 0 _ rfl, hk]
  have o1 : W3.cell? ⟨ob, 1, none⟩ = some (.int .i64 o.a) := op17 HQ.out.2.1 1 _ rfl
  have o2 : W3.cell? ⟨ob, 2, none⟩ = some (.int .i64 o.b) := op17 HQ.out.2.1 2 _ rfl
  have o3 : W3.cell? ⟨ob, 3, none⟩ = some (.string o.t) := op17 HQ.out.2.1 3 _ rfl
  go_wp2_with fail
  refine (show Calls _ _ _ _ _ from HRS.out W3 HB3.out).mono ?_
  rintro e w4 ⟨r4, rfl, he4, hb4⟩
  obtain ⟨P4, c4, rfl⟩ := he4.form
  obtain ⟨n4, hn4⟩ : ∃ n4, LN.length = n4 := ⟨_, rfl⟩
  rw [hn4] at he4 ⊢
  have HE4 : Hid (ERow (fun q => W3.heap.size ≤ q) w4 (.slice P4 n4 c4) LN) := he4
  obtain ⟨W5, hW5⟩ : ∃ W5, W5 = w4.alloc (.cells #[.int .i64 S.seed, .slice P4 n4 c4] 51) := ⟨_, rfl⟩
  have hb5 : Below w4.heap.size w4 W5 := by rw [hW5]; exact (Below.refl _ _).alloc (Nat.le_refl _) _
  have hw5 : Below W3.heap.size W3 W5 := bel_to hb4 hb5 (Nat.le_refl _)
  have hx5 : W5.heap[w4.heap.size]? = some (.cells #[.int .i64 S.seed, .slice P4 n4 c4] 51) := by rw [hW5]; exact one_alloc _ _
  have HE5 : Hid (ERow (fun q => W3.heap.size ≤ q) W5.drew (.slice P4 n4 c4) LN) := (he4.on hb5).on ((Below.refl _ W5).drew)
  have hzx : W3.heap.size ≤ w4.heap.size := hb4.size
  go_upto_region 4 with fail
  rw [← hW5]
  clear hW5 hb5 he4 hn4
  obtain ⟨xb, hxb⟩ : ∃ xb, w4.heap.size = xb := ⟨_, rfl⟩
  rw [hxb] at hx5 hzx ⊢
  have HXZ : Hid (W3.heap.size ≤ xb) := hzx
  have HW5 : Hid (Below W3.heap.size W3 W5) := hw5
  have HX5 : Hid (W5.heap[xb]? = some (.cells #[.int .i64 S.seed, .slice P4 n4 c4] 51)) := hx5
  have HO5 : Hid (W5.heap[ob]? = some (.cells (opA o) 32)) := keep_row HQ.out.2.1 hw5
  have HR5 : Hid (W5.heap[rb]? = some (.cells #[.int .i64 0, .slice none 0 0] 51)) := keep_row HQ.out.2.2.1 hw5
  obtain ⟨x0, x1, xf⟩ := cells2 hx5
  have o1' := cell_on o1 hw5
  have o2' := cell_on o2 hw5
  have o3' := cell_on o3 hw5
  clear d0 d1 df r0 r1 rf k0 o1 o2 o3 hw5 hx5 hxb hzx hb4
  have HNI : Hid (∀ q, w.heap.size ≤ q → q ∉ bblk g S) := fun q hq hm => by have := HLT.out q hm; omega
  have HC : Hid _ := HPS.out W5.drew (bel_to HB3.out (HW5.out.drew) (Nat.le_refl _))
  have HKO : Hid (∀ A B : World, Only A B rb → (A.cell? ⟨xb, 0, none⟩ = some (.int .i64 S.seed) ∧ A.cell? ⟨xb, 1, none⟩ = some (.slice P4 n4 c4) ∧ A.cell? ⟨ob, 1, none⟩ = some (.int .i64 o.a) ∧ A.cell? ⟨ob, 2, none⟩ = some (.int .i64 o.b) ∧ A.cell? ⟨ob, 3, none⟩ = some (.string o.t)) → (B.cell? ⟨xb, 0, none⟩ = some (.int .i64 S.seed) ∧ B.cell? ⟨xb, 1, none⟩ = some (.slice P4 n4 c4) ∧ B.cell? ⟨ob, 1, none⟩ = some (.int .i64 o.a) ∧ B.cell? ⟨ob, 2, none⟩ = some (.int .i64 o.b) ∧ B.cell? ⟨ob, 3, none⟩ = some (.string o.t))) := fun A B ho hs => And.intro ((World.cell?_of_block (a := ⟨xb, 0, none⟩) (ho.other xb (by have := HZ.out; have := HXZ.out; omega))).trans hs.1) (And.intro ((World.cell?_of_block (a := ⟨xb, 1, none⟩) (ho.other xb (by have := HZ.out; have := HXZ.out; omega))).trans hs.2.1) (And.intro ((World.cell?_of_block (a := ⟨ob, 1, none⟩) (ho.other ob (by have := HZ.out; have := HXZ.out; omega))).trans hs.2.2.1) (And.intro ((World.cell?_of_block (a := ⟨ob, 2, none⟩) (ho.other ob (by have := HZ.out; have := HXZ.out; omega))).trans hs.2.2.2.1) ((World.cell?_of_block (a := ⟨ob, 3, none⟩) (ho.other ob (by have := HZ.out; have := HXZ.out; omega))).trans hs.2.2.2.2))))
  have hSA := And.intro (x0) (And.intro (x1) (And.intro (o1') (And.intro (o2') (o3'))))
  go_region_held3 (fun w' : World => w'.cell? ⟨xb, 0, none⟩ = some (.int .i64 S.seed) ∧ w'.cell? ⟨xb, 1, none⟩ = some (.slice P4 n4 c4) ∧ w'.cell? ⟨ob, 1, none⟩ = some (.int .i64 o.a) ∧ w'.cell? ⟨ob, 2, none⟩ = some (.int .i64 o.b) ∧ w'.cell? ⟨ob, 3, none⟩ = some (.string o.t))
    (first | exact hSA | exact hSB | exact HKO.out _ _ (((Only.refl _ rb).set 0 _).set 1 _) hSB)
    (first | (go_at_call 10; refine (show Calls _ _ _ _ _ from HC.out).mono ?_; rintro e a1 ⟨rfl, S', hbd, hsd, hen, hmv⟩; have hxk := hmv.keep (q := xb) HX5.out (HNI.out xb (by have := HZ.out; have := HXZ.out; omega)); have hok := hmv.keep (q := ob) HO5.out (HNI.out ob (by have := HZ.out; omega)); have hrk := hmv.keep (q := rb) HR5.out (HNI.out rb (by have := HZ.out; omega)); have hSB := And.intro ((cells2 hxk).1) (And.intro ((cells2 hxk).2.1) (And.intro (op17 hok 1 _ rfl) (And.intro (op17 hok 2 _ rfl) (op17 hok 3 _ rfl)))); obtain ⟨z0, z1, zf⟩ := cells2 hrk))
  have HRB : Hid (a1.heap[rb]? = some (.cells #[.int .i64 0, .slice none 0 0] 51)) := hrk
  have HMV : Hid (Moved W5.drew a1 (bblk g S) (bblk g S')) := hmv
  have HBD2 : Hid (Bd a1 g S' (N + 1) ∧ S'.seed = S.seed ∧ ens S'.T = LN) := ⟨hbd, hsd, hen⟩
  have hbe : ((!bb) == (!bb)) = true := by simp
  clear hSA hSB hxk hok hrk hmv hbd hsd hen x0 x1 xf
  go_wp2
  obtain ⟨W9, hW9⟩ : ∃ W9, W9 = (a1.setCell ⟨rb, 0, none⟩ (.int .i64 S.seed)).setCell ⟨rb, 1, none⟩ (.slice P4 n4 c4) := ⟨_, rfl⟩
  have hr9 : W9.heap[rb]? = some (.cells #[.int .i64 S.seed, .slice P4 n4 c4] 51) := by
    rw [hW9, heap_setCell_same _ _ _ _ _ _ (heap_setCell_same _ _ _ _ _ _ HRB.out)]
    rfl
  have hon : Only a1 W9 rb := by rw [hW9]; exact ((Only.refl _ rb).set 0 _).set 1 _
  rw [← hW9]
  obtain ⟨s0, s1, sf⟩ := cells2 hr9
  have hz := HZ.out
  have hz5 := HW5.out.size
  exact bodyPost_ret (v := .tuple #[bval S.seed (.slice P4 n4 c4), .bool true]) (by simp [results, Tryd.results20, go_sem, s0, s1]) rfl (move_post (B0 := W3.heap.size) HLT.out (bel_to HB3.out (HW5.out.drew) (Nat.le_refl _)) HMV.out HBD2.out.1 HBD2.out.2.1 hon (by omega) (by show rb < W5.heap.size; omega) (by omega) (by omega) (by rw [HBD2.out.2.2]; exact HE5.out))
end Go.Proofs.YtgbplghokciimaaDoor
namespace Go.Proofs.YtgbplghokciimaaDoor
open Go.RowKit I
set_option linter.unusedVariables false
set_option maxHeartbeats 4000000 in
set_option maxRecDepth 100000 in
theorem step_2 (g : Nat) (S : SkS) (N : Nat) (v : Value) (o : OpD) (w : World) (hk : o.k = 2) (h : Bd w g S N) (hN : N < 1000000) (he : ERow (fun q => q ∉ bblk g S) w v (ens S.T)) (hT : Tab w) (ho : OpOk o) : Calls Tryd.prog 20 #[.pointer (some ⟨g, 0, none⟩), bval S.seed v, .agg (opA o)] w (StepPost g S N w) := by
  obtain ⟨P, c, rfl⟩ := he.form
  rw [ens_len] at he ⊢
  have hlen := h.len
  obtain ⟨n, hn⟩ : ∃ n, S.T.length = n := ⟨_, rfl⟩
  have HNL : Hid (S.T.length = n) := hn
  have hel : (ens S.T).length = n := by rw [ens_len]; exact hn
  have HEL : Hid ((ens S.T).length = n) := hel
  rw [hn] at he ⊢ hlen
  have HBD : Hid (Bd w g S N) := h
  have HER : Hid (ERow (fun q => q ∉ bblk g S) w (.slice P n c) (ens S.T)) := he
  have HOK : Hid (OpOk o) := ho
  have HLT : Hid (∀ q ∈ bblk g S, q < w.heap.size) := h.lts
  obtain ⟨W3, hW3⟩ : ∃ W3, W3 = ((w.alloc (.cells #[.int .i64 S.seed, .slice P n c] 51)).alloc (.cells (opA o) 32)).alloc (.cells #[.int .i64 0, .slice none 0 0] 51) := ⟨_, rfl⟩
  obtain ⟨q0, q1, q2, q3, q4⟩ := alloc3 w (.cells #[.int .i64 S.seed, .slice P n c] 51) (.cells (opA o) 32) (.cells #[.int .i64 0, .slice none 0 0] 51)
  rw [← hW3] at q0 q1 q2 q3 q4
  have HB3 : Hid (Below w.heap.size w W3) := q4
  have HQ : Hid _ := And.intro q0 (And.intro q1 (And.intro q2 q3))
  have hts := ho.t
  obtain ⟨bb, hbb⟩ : ∃ bb, decide ((dropM (ens S.T) o.t).length < (ens S.T).length) = bb := ⟨_, rfl⟩
  have hhas : hasM (ens S.T) o.t = bb := by rw [← hbb, drop_lt]; rfl
  obtain ⟨LN, hLN⟩ : ∃ LN, dropM (ens S.T) o.t = LN := ⟨_, rfl⟩
  have HRS : Hid (∀ W, Below w.heap.size w W → Calls Tryd.prog 43 #[bval S.seed (.slice P n c), .string o.t] W fun e w' => ∃ r, e = .returned (.tuple #[bval S.seed r, .bool (bb)]) ∧ ERow (fun q => W.heap.size ≤ q) w' r LN ∧ Below W.heap.size W w') := fun W hW => by
    have := rDrop_any _ S.seed (.slice P n c) (ens S.T) (by omega) o.t W (he.on hW)
    rw [hbb, hLN] at this; exact this
  have HPS : Hid (∀ W, Below w.heap.size w W → Calls Tryd.prog 11 #[.pointer (some ⟨g, 0, none⟩), .string o.t] W fun e w' => e = .returned (.bool (bb)) ∧ ∃ S' : SkS, Bd w' g S' (N + 1) ∧ S'.seed = S.seed ∧ ens S'.T = LN ∧ Moved W w' (bblk g S) (bblk g S')) := fun W hW => by
    have := Drop_any g S N o.t W (h.below hW) (by omega) (by omega)
    rw [hhas, hLN] at this
    exact this.mono (fun e w' ⟨h1, S', h2, h3⟩ => ⟨h1, S', h2.mono (by omega), h3⟩)
  clear hbb hhas hLN
  clear h he ho hn hel hT q0 q1 q2 q3 q4
  go_enter Tryd.func20, Tryd.ntmps20
  go_upto_region 1 with fail
  rw [← hW3]
  clear hW3
  obtain ⟨db, hdb⟩ : ∃ db, w.heap.size = db := ⟨_, rfl⟩
  rw [hdb] at HQ ⊢
  obtain ⟨ob, hob⟩ : ∃ ob, db + 1 = ob := ⟨_, rfl⟩
  rw [hob] at HQ ⊢
  obtain ⟨rb, hrb⟩ : ∃ rb, ob + 1 = rb := ⟨_, rfl⟩
  rw [hrb] at HQ ⊢
  have HZ : Hid (w.heap.size = db ∧ db + 1 = ob ∧ ob + 1 = rb ∧ W3.heap.size = rb + 1) := ⟨hdb, hob, hrb, by have := HQ.out.2.2.2; omega⟩
  clear hdb hob hrb
  obtain ⟨d0, d1, df⟩ := cells2 HQ.out.1
  obtain ⟨r0, r1, rf⟩ := cells2 HQ.out.2.2.1
  have k0 : W3.cell? ⟨ob, 0, none⟩ = some (.int .i64 2) := by rw [op17 HQ.out.2.1 0 _ rfl, hk]
  have o3 : W3.cell? ⟨ob, 3, none⟩ = some (.string o.t) := op17 HQ.out.2.1 3 _ rfl
  go_wp2_with fail
  refine (show Calls _ _ _ _ _ from HRS.out W3 HB3.out).mono ?_
  rintro e w4 ⟨r4, rfl, he4, hb4⟩
  obtain ⟨P4, c4, rfl⟩ := he4.form
  obtain ⟨n4, hn4⟩ : ∃ n4, LN.length = n4 := ⟨_, rfl⟩
  rw [hn4] at he4 ⊢
  have HE4 : Hid (ERow (fun q => W3.heap.size ≤ q) w4 (.slice P4 n4 c4) LN) := he4
  obtain ⟨W5, hW5⟩ : ∃ W5, W5 = w4.alloc (.cells #[.int .i64 S.seed, .slice P4 n4 c4] 51) := ⟨_, rfl⟩
  have hb5 : Below w4.heap.size w4 W5 := by rw [hW5]; exact (Below.refl _ _).alloc (Nat.le_refl _) _
  have hw5 : Below W3.heap.size W3 W5 := bel_to hb4 hb5 (Nat.le_refl _)
  have hx5 : W5.heap[w4.heap.size]? = some (.cells #[.int .i64 S.seed, .slice P4 n4 c4] 51) := by rw [hW5]; exact one_alloc _ _
  have HE5 : Hid (ERow (fun q => W3.heap.size ≤ q) W5.drew (.slice P4 n4 c4) LN) := (he4.on hb5).on ((Below.refl _ W5).drew)
  have hzx : W3.heap.size ≤ w4.heap.size := hb4.size
  go_upto_region 7 with fail
  rw [← hW5]
  clear hW5 hb5 he4 hn4
  obtain ⟨xb, hxb⟩ : ∃ xb, w4.heap.size = xb := ⟨_, rfl⟩
  rw [hxb] at hx5 hzx ⊢
  have HXZ : Hid (W3.heap.size ≤ xb) := hzx
  have HW5 : Hid (Below W3.heap.size W3 W5) := hw5
  have HX5 : Hid (W5.heap[xb]? = some (.cells #[.int .i64 S.seed, .slice P4 n4 c4] 51)) := hx5
  have HO5 : Hid (W5.heap[ob]? = some (.cells (opA o) 32)) := keep_row HQ.out.2.1 hw5
  have HR5 : Hid (W5.heap[rb]? = some (.cells #[.int .i64 0, .slice none 0 0] 51)) := keep_row HQ.out.2.2.1 hw5
  obtain ⟨x0, x1, xf⟩ := cells2 hx5
  have o3' := cell_on o3 hw5
  clear d0 d1 df r0 r1 rf k0 o3 hw5 hx5 hxb hzx hb4
  have HNI : Hid (∀ q, w.heap.size ≤ q → q ∉ bblk g S) := fun q hq hm => by have := HLT.out q hm; omega
  have HC : Hid _ := HPS.out W5.drew (bel_to HB3.out (HW5.out.drew) (Nat.le_refl _))
  have HKO : Hid (∀ A B : World, Only A B rb → (A.cell? ⟨xb, 0, none⟩ = some (.int .i64 S.seed) ∧ A.cell? ⟨xb, 1, none⟩ = some (.slice P4 n4 c4) ∧ A.cell? ⟨ob, 3, none⟩ = some (.string o.t)) → (B.cell? ⟨xb, 0, none⟩ = some (.int .i64 S.seed) ∧ B.cell? ⟨xb, 1, none⟩ = some (.slice P4 n4 c4) ∧ B.cell? ⟨ob, 3, none⟩ = some (.string o.t))) := fun A B ho hs => And.intro ((World.cell?_of_block (a := ⟨xb, 0, none⟩) (ho.other xb (by have := HZ.out; have := HXZ.out; omega))).trans hs.1) (And.intro ((World.cell?_of_block (a := ⟨xb, 1, none⟩) (ho.other xb (by have := HZ.out; have := HXZ.out; omega))).trans hs.2.1) ((World.cell?_of_block (a := ⟨ob, 3, none⟩) (ho.other ob (by have := HZ.out; have := HXZ.out; omega))).trans hs.2.2))
  have hSA := And.intro (x0) (And.intro (x1) (o3'))
  go_region_held3 (fun w' : World => w'.cell? ⟨xb, 0, none⟩ = some (.int .i64 S.seed) ∧ w'.cell? ⟨xb, 1, none⟩ = some (.slice P4 n4 c4) ∧ w'.cell? ⟨ob, 3, none⟩ = some (.string o.t))
    (first | exact hSA | exact hSB | exact HKO.out _ _ (((Only.refl _ rb).set 0 _).set 1 _) hSB)
    (first | (go_at_call 11; refine (show Calls _ _ _ _ _ from HC.out).mono ?_; rintro e a1 ⟨rfl, S', hbd, hsd, hen, hmv⟩; have hxk := hmv.keep (q := xb) HX5.out (HNI.out xb (by have := HZ.out; have := HXZ.out; omega)); have hok := hmv.keep (q := ob) HO5.out (HNI.out ob (by have := HZ.out; omega)); have hrk := hmv.keep (q := rb) HR5.out (HNI.out rb (by have := HZ.out; omega)); have hSB := And.intro ((cells2 hxk).1) (And.intro ((cells2 hxk).2.1) (op17 hok 3 _ rfl)); obtain ⟨z0, z1, zf⟩ := cells2 hrk))
  have HRB : Hid (a1.heap[rb]? = some (.cells #[.int .i64 0, .slice none 0 0] 51)) := hrk
  have HMV : Hid (Moved W5.drew a1 (bblk g S) (bblk g S')) := hmv
  have HBD2 : Hid (Bd a1 g S' (N + 1) ∧ S'.seed = S.seed ∧ ens S'.T = LN) := ⟨hbd, hsd, hen⟩
  have hbe : ((bb) == (bb)) = true := by simp
  clear hSA hSB hxk hok hrk hmv hbd hsd hen x0 x1 xf
  go_wp2
  obtain ⟨W9, hW9⟩ : ∃ W9, W9 = (a1.setCell ⟨rb, 0, none⟩ (.int .i64 S.seed)).setCell ⟨rb, 1, none⟩ (.slice P4 n4 c4) := ⟨_, rfl⟩
  have hr9 : W9.heap[rb]? = some (.cells #[.int .i64 S.seed, .slice P4 n4 c4] 51) := by
    rw [hW9, heap_setCell_same _ _ _ _ _ _ (heap_setCell_same _ _ _ _ _ _ HRB.out)]
    rfl
  have hon : Only a1 W9 rb := by rw [hW9]; exact ((Only.refl _ rb).set 0 _).set 1 _
  rw [← hW9]
  obtain ⟨s0, s1, sf⟩ := cells2 hr9
  have hz := HZ.out
  have hz5 := HW5.out.size
  exact bodyPost_ret (v := .tuple #[bval S.seed (.slice P4 n4 c4), .bool true]) (by simp [results, Tryd.results20, go_sem, s0, s1]) rfl (move_post (B0 := W3.heap.size) HLT.out (bel_to HB3.out (HW5.out.drew) (Nat.le_refl _)) HMV.out HBD2.out.1 HBD2.out.2.1 hon (by omega) (by show rb < W5.heap.size; omega) (by omega) (by omega) (by rw [HBD2.out.2.2]; exact HE5.out))
end Go.Proofs.YtgbplghokciimaaDoor
namespace Go.Proofs.YtgbplghokciimaaDoor
open Go.RowKit I
set_option linter.unusedVariables false
set_option maxHeartbeats 4000000 in
set_option maxRecDepth 100000 in
theorem step_3 (g : Nat) (S : SkS) (N : Nat) (v : Value) (o : OpD) (w : World) (hk : o.k = 3) (h : Bd w g S N) (hN : N < 1000000) (he : ERow (fun q => q ∉ bblk g S) w v (ens S.T)) (hT : Tab w) (ho : OpOk o) : Calls Tryd.prog 20 #[.pointer (some ⟨g, 0, none⟩), bval S.seed v, .agg (opA o)] w (StepPost g S N w) := by
  obtain ⟨P, c, rfl⟩ := he.form
  rw [ens_len] at he ⊢
  have hlen := h.len
  obtain ⟨n, hn⟩ : ∃ n, S.T.length = n := ⟨_, rfl⟩
  have HNL : Hid (S.T.length = n) := hn
  have hel : (ens S.T).length = n := by rw [ens_len]; exact hn
  have HEL : Hid ((ens S.T).length = n) := hel
  rw [hn] at he ⊢ hlen
  have HBD : Hid (Bd w g S N) := h
  have HER : Hid (ERow (fun q => q ∉ bblk g S) w (.slice P n c) (ens S.T)) := he
  have HOK : Hid (OpOk o) := ho
  have HLT : Hid (∀ q ∈ bblk g S, q < w.heap.size) := h.lts
  obtain ⟨W3, hW3⟩ : ∃ W3, W3 = ((w.alloc (.cells #[.int .i64 S.seed, .slice P n c] 51)).alloc (.cells (opA o) 32)).alloc (.cells #[.int .i64 0, .slice none 0 0] 51) := ⟨_, rfl⟩
  obtain ⟨q0, q1, q2, q3, q4⟩ := alloc3 w (.cells #[.int .i64 S.seed, .slice P n c] 51) (.cells (opA o) 32) (.cells #[.int .i64 0, .slice none 0 0] 51)
  rw [← hW3] at q0 q1 q2 q3 q4
  have HB3 : Hid (Below w.heap.size w W3) := q4
  have HQ : Hid _ := And.intro q0 (And.intro q1 (And.intro q2 q3))
  obtain ⟨em, es, ev, bo, hPR⟩ : ∃ (em : ByteArray) (es ev : Int) (bo : Bool), (∀ W, Below w.heap.size w W → Calls Tryd.prog 44 #[.pointer (some ⟨g, 0, none⟩), .string o.t] W fun e w' => e = .returned (.tuple #[.agg #[.string em, .int .i64 es, .int .i64 ev], .bool bo]) ∧ Below W.heap.size W w') ∧ (∀ W, Below w.heap.size w W → Calls Tryd.prog 45 #[bval S.seed (.slice P n c), .string o.t] W fun e w' => e = .returned (.tuple #[.agg #[.string em, .int .i64 es, .int .i64 ev], .bool bo]) ∧ Below W.heap.size W w') := by
    have hts := ho.t
    rcases hto : towOf S.T o.t with _ | b
    · refine ⟨⟨#[]⟩, 0, 0, false, fun W hW => Get_no g S N o.t W (h.below hW) (by omega) hto, fun W hW => (rGet_any _ S.seed (.slice P n c) (ens S.T) (by omega) o.t W (he.on hW)).mono ?_⟩
      rintro e w' ⟨⟨h1, _⟩ | ⟨j, hj, _, hm⟩, h2⟩
      · exact ⟨h1, h2⟩
      · exact absurd (List.mem_map.2 ⟨_, List.getElem_mem hj, hm⟩) (towOf_none hto)
    · obtain ⟨k, hk', _, hkm⟩ := towOf_some hto
      refine ⟨S.T[k].e.1, S.T[k].e.2.1, S.T[k].e.2.2, true, fun W hW => Get_yes g S N o.t k hk' hkm W (h.below hW) (by omega), fun W hW => (rGet_any _ S.seed (.slice P n c) (ens S.T) (by omega) o.t W (he.on hW)).mono ?_⟩
      rintro e w' ⟨⟨_, h1⟩ | ⟨j, hj, hje, hm⟩, h2⟩
      · exact absurd (List.mem_map.2 ⟨S.T[k].e, List.mem_map.2 ⟨_, List.getElem_mem hk', rfl⟩, hkm⟩) h1
      · have hkl : k < (ens S.T).length := by rw [ens_len]; exact hk'
        have hje2 : j = k := nd_one h.brd.nd hj hkl (by rw [hm, List.getElem_map]; exact hkm.symm)
        subst hje2
        refine ⟨?_, h2⟩
        rw [hje, List.getElem_map]
  have HP : Hid _ := hPR.1
  have HR : Hid _ := hPR.2
  clear hPR
  clear h he ho hn hel hT q0 q1 q2 q3 q4
  go_enter Tryd.func20, Tryd.ntmps20
  go_upto_region 1 with fail
  rw [← hW3]
  clear hW3
  obtain ⟨db, hdb⟩ : ∃ db, w.heap.size = db := ⟨_, rfl⟩
  rw [hdb] at HQ ⊢
  obtain ⟨ob, hob⟩ : ∃ ob, db + 1 = ob := ⟨_, rfl⟩
  rw [hob] at HQ ⊢
  obtain ⟨rb, hrb⟩ : ∃ rb, ob + 1 = rb := ⟨_, rfl⟩
  rw [hrb] at HQ ⊢
  have HZ : Hid (w.heap.size = db ∧ db + 1 = ob ∧ ob + 1 = rb ∧ W3.heap.size = rb + 1) := ⟨hdb, hob, hrb, by have := HQ.out.2.2.2; omega⟩
  clear hdb hob hrb
  obtain ⟨d0, d1, df⟩ := cells2 HQ.out.1
  obtain ⟨r0, r1, rf⟩ := cells2 HQ.out.2.2.1
  have k0 : W3.cell? ⟨ob, 0, none⟩ = some (.int .i64 3) := by rw [op17 HQ.out.2.1 0 _ rfl, hk]
  have o3 : W3.cell? ⟨ob, 3, none⟩ = some (.string o.t) := op17 HQ.out.2.1 3 _ rfl
  go_wp2_with fail
  refine (show Calls _ _ _ _ _ from HP.out W3 HB3.out).mono ?_
  rintro e w4 ⟨rfl, hb4⟩
  obtain ⟨W5, hW5⟩ : ∃ W5, W5 = w4.alloc (.cells #[.string em, .int .i64 es, .int .i64 ev] 39) := ⟨_, rfl⟩
  have hb5 : Below w4.heap.size w4 W5 := by rw [hW5]; exact (Below.refl _ _).alloc (Nat.le_refl _) _
  have hw5 : Below W3.heap.size W3 W5 := bel_to hb4 hb5 (Nat.le_refl _)
  have hx5 : W5.heap[w4.heap.size]? = some (.cells #[.string em, .int .i64 es, .int .i64 ev] 39) := by rw [hW5]; exact one_alloc _ _
  go_upto_region 10 with fail
  rw [← hW5]
  clear hW5 hb5
  have hzx : W3.heap.size ≤ w4.heap.size := hb4.size
  obtain ⟨xb, hxb⟩ : ∃ xb, w4.heap.size = xb := ⟨_, rfl⟩
  rw [hxb] at hx5 hzx ⊢
  have HXZ : Hid (W3.heap.size ≤ xb) := hzx
  clear hxb hzx hb4
  have HW5 : Hid (Below W3.heap.size W3 W5) := hw5
  have HX5 : Hid (W5.heap[xb]? = some (.cells #[.string em, .int .i64 es, .int .i64 ev] 39)) := hx5
  have d0' := cell_on d0 hw5
  have d1' := cell_on d1 hw5
  have o3' := cell_on o3 hw5
  clear d0 d1 df r0 r1 rf k0 o3 hw5 hx5
  go_wp2_with fail
  refine (show Calls _ _ _ _ _ from HR.out W5 (bel_to HB3.out HW5.out (Nat.le_refl _))).mono ?_
  rintro e w6 ⟨rfl, hb6⟩
  obtain ⟨W7, hW7⟩ : ∃ W7, W7 = w6.alloc (.cells #[.string em, .int .i64 es, .int .i64 ev] 92) := ⟨_, rfl⟩
  have hb7 : Below w6.heap.size w6 W7 := by rw [hW7]; exact (Below.refl _ _).alloc (Nat.le_refl _) _
  have hw7 : Below W5.heap.size W5 W7 := bel_to hb6 hb7 (Nat.le_refl _)
  have hy7 : W7.heap[w6.heap.size]? = some (.cells #[.string em, .int .i64 es, .int .i64 ev] 92) := by rw [hW7]; exact one_alloc _ _
  go_upto_region 11 with fail
  rw [← hW7]
  clear hW7 hb7
  have hzy : W3.heap.size ≤ w6.heap.size := Nat.le_trans HW5.out.size hb6.size
  obtain ⟨yb, hyb⟩ : ∃ yb, w6.heap.size = yb := ⟨_, rfl⟩
  rw [hyb] at hy7 hzy ⊢
  have HYZ : Hid (W3.heap.size ≤ yb) := hzy
  clear hyb hzy hb6
  have HW7 : Hid (Below W3.heap.size W3 W7) := bel_to HW5.out hw7 (Nat.le_refl _)
  have HX7 : Hid _ := keep_row HX5.out hw7
  have HY7 : Hid _ := hy7
  have e0 := cell_on d0' hw7
  have e1 := cell_on d1' hw7
  obtain ⟨x0, x1, x2, xf⟩ := cells3 (keep_row HX5.out hw7)
  obtain ⟨y0, y1, y2, yf⟩ := cells3 hy7
  clear d0' d1' o3' hw7 hy7
  have hd : Below W7.heap.size W7 W7.drew := (Below.refl _ W7).drew
  have HKS : Hid (∀ W' : World, Below W7.heap.size W7 W' → W'.cell? ⟨db, 0, none⟩ = some (.int .i64 S.seed) ∧ W'.cell? ⟨db, 1, none⟩ = some (.slice P n c) ∧ W'.cell? ⟨xb, 0, none⟩ = some (.string em) ∧ W'.cell? ⟨xb, 1, none⟩ = some (.int .i64 es) ∧ W'.cell? ⟨xb, 2, none⟩ = some (.int .i64 ev) ∧ W'.cell? ⟨yb, 0, none⟩ = some (.string em) ∧ W'.cell? ⟨yb, 1, none⟩ = some (.int .i64 es) ∧ W'.cell? ⟨yb, 2, none⟩ = some (.int .i64 ev)) := fun W' hw => And.intro (cell_on e0 hw) (And.intro (cell_on e1 hw) (And.intro (cell_on x0 hw) (And.intro (cell_on x1 hw) (And.intro (cell_on x2 hw) (And.intro (cell_on y0 hw) (And.intro (cell_on y1 hw) (cell_on y2 hw)))))))
  have HKO : Hid (∀ A W' : World, Only A W' rb → (A.cell? ⟨db, 0, none⟩ = some (.int .i64 S.seed) ∧ A.cell? ⟨db, 1, none⟩ = some (.slice P n c) ∧ A.cell? ⟨xb, 0, none⟩ = some (.string em) ∧ A.cell? ⟨xb, 1, none⟩ = some (.int .i64 es) ∧ A.cell? ⟨xb, 2, none⟩ = some (.int .i64 ev) ∧ A.cell? ⟨yb, 0, none⟩ = some (.string em) ∧ A.cell? ⟨yb, 1, none⟩ = some (.int .i64 es) ∧ A.cell? ⟨yb, 2, none⟩ = some (.int .i64 ev)) → (W'.cell? ⟨db, 0, none⟩ = some (.int .i64 S.seed) ∧ W'.cell? ⟨db, 1, none⟩ = some (.slice P n c) ∧ W'.cell? ⟨xb, 0, none⟩ = some (.string em) ∧ W'.cell? ⟨xb, 1, none⟩ = some (.int .i64 es) ∧ W'.cell? ⟨xb, 2, none⟩ = some (.int .i64 ev) ∧ W'.cell? ⟨yb, 0, none⟩ = some (.string em) ∧ W'.cell? ⟨yb, 1, none⟩ = some (.int .i64 es) ∧ W'.cell? ⟨yb, 2, none⟩ = some (.int .i64 ev))) := fun A W' ho hs => And.intro ((World.cell?_of_block (a := ⟨db, 0, none⟩) (ho.other db (by have := HZ.out; have := HXZ.out; have := HYZ.out; omega))).trans hs.1) (And.intro ((World.cell?_of_block (a := ⟨db, 1, none⟩) (ho.other db (by have := HZ.out; have := HXZ.out; have := HYZ.out; omega))).trans hs.2.1) (And.intro ((World.cell?_of_block (a := ⟨xb, 0, none⟩) (ho.other xb (by have := HZ.out; have := HXZ.out; have := HYZ.out; omega))).trans hs.2.2.1) (And.intro ((World.cell?_of_block (a := ⟨xb, 1, none⟩) (ho.other xb (by have := HZ.out; have := HXZ.out; have := HYZ.out; omega))).trans hs.2.2.2.1) (And.intro ((World.cell?_of_block (a := ⟨xb, 2, none⟩) (ho.other xb (by have := HZ.out; have := HXZ.out; have := HYZ.out; omega))).trans hs.2.2.2.2.1) (And.intro ((World.cell?_of_block (a := ⟨yb, 0, none⟩) (ho.other yb (by have := HZ.out; have := HXZ.out; have := HYZ.out; omega))).trans hs.2.2.2.2.2.1) (And.intro ((World.cell?_of_block (a := ⟨yb, 1, none⟩) (ho.other yb (by have := HZ.out; have := HXZ.out; have := HYZ.out; omega))).trans hs.2.2.2.2.2.2.1) ((World.cell?_of_block (a := ⟨yb, 2, none⟩) (ho.other yb (by have := HZ.out; have := HXZ.out; have := HYZ.out; omega))).trans hs.2.2.2.2.2.2.2)))))))
  have hSA := And.intro (e0) (And.intro (e1) (And.intro (x0) (And.intro (x1) (And.intro (x2) (And.intro (y0) (And.intro (y1) (y2)))))))
  go_region_held3 (fun W' : World => W'.cell? ⟨db, 0, none⟩ = some (.int .i64 S.seed) ∧ W'.cell? ⟨db, 1, none⟩ = some (.slice P n c) ∧ W'.cell? ⟨xb, 0, none⟩ = some (.string em) ∧ W'.cell? ⟨xb, 1, none⟩ = some (.int .i64 es) ∧ W'.cell? ⟨xb, 2, none⟩ = some (.int .i64 ev) ∧ W'.cell? ⟨yb, 0, none⟩ = some (.string em) ∧ W'.cell? ⟨yb, 1, none⟩ = some (.int .i64 es) ∧ W'.cell? ⟨yb, 2, none⟩ = some (.int .i64 ev))
    (first | exact hSA | exact HKS.out _ hw1 | exact HKO.out _ _ (((Only.refl _ rb).set 0 _).set 1 _) (HKS.out _ hw1))
    (first | (go_at_call 46; refine (show Calls _ _ _ _ _ from alike_yes em es ev W7.drew).mono ?_; rintro e a1 ⟨rfl, hb1⟩; have hw1 : Below W7.heap.size W7 a1 := hd.trans hb1; obtain ⟨z0, z1, zf⟩ := cells2 (keep_row (keep_row HQ.out.2.2.1 HW7.out) hw1)))
  have HRB : Hid (a1.heap[rb]? = some (.cells #[.int .i64 0, .slice none 0 0] 51)) := keep_row (keep_row HQ.out.2.2.1 HW7.out) hw1
  have HBF : Hid (Below w.heap.size w a1) := bel_to HB3.out (bel_to HW7.out hw1 (Nat.le_refl _)) (Nat.le_refl _)
  go_wp2
  obtain ⟨W9, hW9⟩ : ∃ W9, W9 = (a1.setCell ⟨rb, 0, none⟩ (.int .i64 S.seed)).setCell ⟨rb, 1, none⟩ (.slice P n c) := ⟨_, rfl⟩
  have hr9 : W9.heap[rb]? = some (.cells #[.int .i64 S.seed, .slice P n c] 51) := by
    rw [hW9, heap_setCell_same _ _ _ _ _ _ (heap_setCell_same _ _ _ _ _ _ HRB.out)]
    rfl
  have hon : Only a1 W9 rb := by rw [hW9]; exact ((Only.refl _ rb).set 0 _).set 1 _
  have hb9 : Below w.heap.size w W9 := HBF.out.trans (hon.below (by have := HZ.out; omega))
  rw [← hW9]
  obtain ⟨s0, s1, sf⟩ := cells2 hr9
  exact bodyPost_ret (v := .tuple #[bval S.seed (.slice P n c), .bool true]) (by simp [results, Tryd.results20, go_sem, s0, s1]) rfl (quiet_post HBD.out HER.out hb9)
end Go.Proofs.YtgbplghokciimaaDoor
namespace Go.Proofs.YtgbplghokciimaaDoor
open Go.RowKit I
set_option linter.unusedVariables false
set_option maxHeartbeats 4000000 in
set_option maxRecDepth 100000 in
theorem step_4 (g : Nat) (S : SkS) (N : Nat) (v : Value) (o : OpD) (w : World) (hk : o.k = 4) (h : Bd w g S N) (hN : N < 1000000) (he : ERow (fun q => q ∉ bblk g S) w v (ens S.T)) (hT : Tab w) (ho : OpOk o) : Calls Tryd.prog 20 #[.pointer (some ⟨g, 0, none⟩), bval S.seed v, .agg (opA o)] w (StepPost g S N w) := by
  obtain ⟨P, c, rfl⟩ := he.form
  rw [ens_len] at he ⊢
  have hlen := h.len
  obtain ⟨n, hn⟩ : ∃ n, S.T.length = n := ⟨_, rfl⟩
  have HNL : Hid (S.T.length = n) := hn
  have hel : (ens S.T).length = n := by rw [ens_len]; exact hn
  have HEL : Hid ((ens S.T).length = n) := hel
  rw [hn] at he ⊢ hlen
  have HBD : Hid (Bd w g S N) := h
  have HER : Hid (ERow (fun q => q ∉ bblk g S) w (.slice P n c) (ens S.T)) := he
  have HOK : Hid (OpOk o) := ho
  have HLT : Hid (∀ q ∈ bblk g S, q < w.heap.size) := h.lts
  obtain ⟨W3, hW3⟩ : ∃ W3, W3 = ((w.alloc (.cells #[.int .i64 S.seed, .slice P n c] 51)).alloc (.cells (opA o) 32)).alloc (.cells #[.int .i64 0, .slice none 0 0] 51) := ⟨_, rfl⟩
  obtain ⟨q0, q1, q2, q3, q4⟩ := alloc3 w (.cells #[.int .i64 S.seed, .slice P n c] 51) (.cells (opA o) 32) (.cells #[.int .i64 0, .slice none 0 0] 51)
  rw [← hW3] at q0 q1 q2 q3 q4
  have HB3 : Hid (Below w.heap.size w W3) := q4
  have HQ : Hid _ := And.intro q0 (And.intro q1 (And.intro q2 q3))
  obtain ⟨rk, bo, hPR⟩ : ∃ (rk : Int) (bo : Bool), (∀ W, Below w.heap.size w W → Calls Tryd.prog 14 #[.pointer (some ⟨g, 0, none⟩), .string o.t, .bool o.bk] W fun e w' => e = .returned (.tuple #[.int .i64 rk, .bool bo]) ∧ Below W.heap.size W w') ∧ (∀ W, Below w.heap.size w W → Calls Tryd.prog 47 #[bval S.seed (.slice P n c), .string o.t, .bool o.bk] W fun e w' => e = .returned (.tuple #[.int .i64 rk, .bool bo]) ∧ Below W.heap.size W w') := by
    have hts := ho.t
    rcases hto : towOf S.T o.t with _ | b
    · refine ⟨0, false, fun W hW => Rank_no g S N o.t o.bk W (h.below hW) (by omega) hto, fun W hW => (rRank_any _ S.seed (.slice P n c) (ens S.T) (by omega) o.t o.bk W (he.on hW)).mono ?_⟩
      rintro e w' ⟨⟨h1, _⟩ | ⟨j, hj, _, hm⟩, h2⟩
      · exact ⟨h1, h2⟩
      · exfalso
        refine towOf_none hto ?_
        have h3 : (turnE (ens S.T) o.bk)[j] ∈ turnE (ens S.T) o.bk := List.getElem_mem hj
        have h4 : (turnE (ens S.T) o.bk)[j] ∈ ens S.T := by
          revert h3
          unfold turnE
          split
          · intro h3; exact List.mem_reverse.1 h3
          · intro h3; exact h3
        exact List.mem_map.2 ⟨_, h4, hm⟩
    · obtain ⟨k, hk', _, hkm⟩ := towOf_some hto
      refine ⟨(trn o.bk S.T.length k : Int), true, fun W hW => Rank_yes g S N o.t o.bk k hk' hkm W (h.below hW) (by omega) (by omega), fun W hW => (rRank_any _ S.seed (.slice P n c) (ens S.T) (by omega) o.t o.bk W (he.on hW)).mono ?_⟩
      rintro e w' ⟨⟨_, h1⟩ | ⟨j, hj, hje, hm⟩, h2⟩
      · exact absurd (List.mem_map.2 ⟨S.T[k].e, List.mem_map.2 ⟨_, List.getElem_mem hk', rfl⟩, hkm⟩) h1
      · have hkl : k < (ens S.T).length := by rw [ens_len]; exact hk'
        have h3 := rank_one h.brd.nd hkl hj (by rw [hm, List.getElem_map]; exact hkm.symm)
        refine ⟨?_, h2⟩
        rw [hje, h3]
        unfold trn
        rw [ens_len]
  have HP : Hid _ := hPR.1
  have HR : Hid _ := hPR.2
  clear hPR
  clear h he ho hn hel hT q0 q1 q2 q3 q4
  go_enter Tryd.func20, Tryd.ntmps20
  go_upto_region 1 with fail
  rw [← hW3]
  clear hW3
  obtain ⟨db, hdb⟩ : ∃ db, w.heap.size = db := ⟨_, rfl⟩
  rw [hdb] at HQ ⊢
  obtain ⟨ob, hob⟩ : ∃ ob, db + 1 = ob := ⟨_, rfl⟩
  rw [hob] at HQ ⊢
  obtain ⟨rb, hrb⟩ : ∃ rb, ob + 1 = rb := ⟨_, rfl⟩
  rw [hrb] at HQ ⊢
  have HZ : Hid (w.heap.size = db ∧ db + 1 = ob ∧ ob + 1 = rb ∧ W3.heap.size = rb + 1) := ⟨hdb, hob, hrb, by have := HQ.out.2.2.2; omega⟩
  clear hdb hob hrb
  obtain ⟨d0, d1, df⟩ := cells2 HQ.out.1
  obtain ⟨r0, r1, rf⟩ := cells2 HQ.out.2.2.1
  have k0 : W3.cell? ⟨ob, 0, none⟩ = some (.int .i64 4) := by rw [op17 HQ.out.2.1 0 _ rfl, hk]
  have o3 : W3.cell? ⟨ob, 3, none⟩ = some (.string o.t) := op17 HQ.out.2.1 3 _ rfl
  have o4 : W3.cell? ⟨ob, 4, none⟩ = some (.bool o.bk) := op17 HQ.out.2.1 4 _ rfl
  go_wp2_with fail
  refine (show Calls _ _ _ _ _ from HP.out W3 HB3.out).mono ?_
  rintro e w4 ⟨rfl, hw4⟩
  have HW4 : Hid (Below W3.heap.size W3 w4) := hw4
  have d0' := cell_on d0 hw4
  have d1' := cell_on d1 hw4
  have o3' := cell_on o3 hw4
  have o4' := cell_on o4 hw4
  clear d0 d1 df r0 r1 rf k0 o3 o4 hw4
  go_wp2_with fail
  refine (show Calls _ _ _ _ _ from HR.out w4 (bel_to HB3.out HW4.out (Nat.le_refl _))).mono ?_
  rintro e a1 ⟨rfl, hw1⟩
  have HW1 : Hid (Below W3.heap.size W3 a1) := bel_to HW4.out hw1 (Nat.le_refl _)
  have e0 := cell_on d0' hw1
  have e1 := cell_on d1' hw1
  obtain ⟨z0, z1, zf⟩ := cells2 (keep_row HQ.out.2.2.1 HW1.out)
  have HRB : Hid (a1.heap[rb]? = some (.cells #[.int .i64 0, .slice none 0 0] 51)) := keep_row HQ.out.2.2.1 HW1.out
  have HBF : Hid (Below w.heap.size w a1) := bel_to HB3.out HW1.out (Nat.le_refl _)
  have hrk : (rk == rk) = true := by simp
  have hbo : (bo == bo) = true := by simp
  clear d0' d1' o3' o4' hw1
  go_wp2
  obtain ⟨W7, hW7⟩ : ∃ W7, W7 = (a1.setCell ⟨rb, 0, none⟩ (.int .i64 S.seed)).setCell ⟨rb, 1, none⟩ (.slice P n c) := ⟨_, rfl⟩
  have hr7 : W7.heap[rb]? = some (.cells #[.int .i64 S.seed, .slice P n c] 51) := by
    rw [hW7, heap_setCell_same _ _ _ _ _ _ (heap_setCell_same _ _ _ _ _ _ HRB.out)]
    rfl
  have hon : Only a1 W7 rb := by rw [hW7]; exact ((Only.refl _ rb).set 0 _).set 1 _
  have hb7 : Below w.heap.size w W7 := HBF.out.trans (hon.below (by have := HZ.out; omega))
  rw [← hW7]
  obtain ⟨s0, s1, sf⟩ := cells2 hr7
  exact bodyPost_ret (v := .tuple #[bval S.seed (.slice P n c), .bool true]) (by simp [results, Tryd.results20, go_sem, s0, s1]) rfl (quiet_post HBD.out HER.out hb7)
end Go.Proofs.YtgbplghokciimaaDoor
namespace Go.Proofs.YtgbplghokciimaaDoor
open Go.RowKit I
set_option linter.unusedVariables false
set_option maxHeartbeats 4000000 in
set_option maxRecDepth 100000 in
theorem step_5 (g : Nat) (S : SkS) (N : Nat) (v : Value) (o : OpD) (w : World) (hk : o.k = 5) (h : Bd w g S N) (hN : N < 1000000) (he : ERow (fun q => q ∉ bblk g S) w v (ens S.T)) (hT : Tab w) (ho : OpOk o) : Calls Tryd.prog 20 #[.pointer (some ⟨g, 0, none⟩), bval S.seed v, .agg (opA o)] w (StepPost g S N w) := by
  obtain ⟨P, c, rfl⟩ := he.form
  rw [ens_len] at he ⊢
  have hlen := h.len
  obtain ⟨n, hn⟩ : ∃ n, S.T.length = n := ⟨_, rfl⟩
  have HNL : Hid (S.T.length = n) := hn
  have hel : (ens S.T).length = n := by rw [ens_len]; exact hn
  have HEL : Hid ((ens S.T).length = n) := hel
  rw [hn] at he ⊢ hlen
  have HBD : Hid (Bd w g S N) := h
  have HER : Hid (ERow (fun q => q ∉ bblk g S) w (.slice P n c) (ens S.T)) := he
  have HOK : Hid (OpOk o) := ho
  have HLT : Hid (∀ q ∈ bblk g S, q < w.heap.size) := h.lts
  obtain ⟨W3, hW3⟩ : ∃ W3, W3 = ((w.alloc (.cells #[.int .i64 S.seed, .slice P n c] 51)).alloc (.cells (opA o) 32)).alloc (.cells #[.int .i64 0, .slice none 0 0] 51) := ⟨_, rfl⟩
  obtain ⟨q0, q1, q2, q3, q4⟩ := alloc3 w (.cells #[.int .i64 S.seed, .slice P n c] 51) (.cells (opA o) 32) (.cells #[.int .i64 0, .slice none 0 0] 51)
  rw [← hW3] at q0 q1 q2 q3 q4
  have HB3 : Hid (Below w.heap.size w W3) := q4
  have HQ : Hid _ := And.intro q0 (And.intro q1 (And.intro q2 q3))
  obtain ⟨em, es, ev, bo, hPR⟩ : ∃ (em : ByteArray) (es ev : Int) (bo : Bool), (∀ W, Below w.heap.size w W → Calls Tryd.prog 15 #[.pointer (some ⟨g, 0, none⟩), .int .i64 o.a, .bool o.bk] W fun e w' => e = .returned (.tuple #[.agg #[.string em, .int .i64 es, .int .i64 ev], .bool bo]) ∧ Below W.heap.size W w') ∧ (∀ W, Below w.heap.size w W → Calls Tryd.prog 48 #[bval S.seed (.slice P n c), .int .i64 o.a, .bool o.bk] W fun e w' => e = .returned (.tuple #[.agg #[.string em, .int .i64 es, .int .i64 ev], .bool bo]) ∧ Below W.heap.size W w') := by
    by_cases hno : o.a < 0 ∨ (n : Int) ≤ o.a
    · exact ⟨⟨#[]⟩, 0, 0, false, fun W hW => At_no g S N o.a o.bk W (h.below hW) (by rw [hn]; exact hno), fun W hW => rAt_no S.seed P n c o.a o.bk hno W⟩
    · obtain ⟨i, hi⟩ : ∃ i : Nat, o.a = (i : Int) := ⟨o.a.toNat, by omega⟩
      have hil : i < S.T.length := by omega
      have hil2 : i < (ens S.T).length := by rw [ens_len]; exact hil
      refine ⟨(S.T[trn o.bk S.T.length i]'(trn_lt hil)).e.1, (S.T[trn o.bk S.T.length i]'(trn_lt hil)).e.2.1, (S.T[trn o.bk S.T.length i]'(trn_lt hil)).e.2.2, true, fun W hW => ?_, fun W hW => ?_⟩
      · rw [hi]; exact At_yes g S N i o.bk hil W (h.below hW) (by omega)
      · rw [hi]
        have h1 := rAt_yes _ S.seed (.slice P n c) (ens S.T) (by omega) i hil2 o.bk W (he.on hW)
        have h2 : (turnE (ens S.T) o.bk)[i]'(by rw [turnE_len]; exact hil2) = (S.T[trn o.bk S.T.length i]'(trn_lt hil)).e := by
          rw [turnE_get _ _ _ hil2, List.getElem_map]
          congr 2
          unfold trn
          rw [ens_len]
        rw [h2] at h1
        exact h1
  have HP : Hid _ := hPR.1
  have HR : Hid _ := hPR.2
  clear hPR
  clear h he ho hn hel hT q0 q1 q2 q3 q4
  go_enter Tryd.func20, Tryd.ntmps20
  go_upto_region 1 with fail
  rw [← hW3]
  clear hW3
  obtain ⟨db, hdb⟩ : ∃ db, w.heap.size = db := ⟨_, rfl⟩
  rw [hdb] at HQ ⊢
  obtain ⟨ob, hob⟩ : ∃ ob, db + 1 = ob := ⟨_, rfl⟩
  rw [hob] at HQ ⊢
  obtain ⟨rb, hrb⟩ : ∃ rb, ob + 1 = rb := ⟨_, rfl⟩
  rw [hrb] at HQ ⊢
  have HZ : Hid (w.heap.size = db ∧ db + 1 = ob ∧ ob + 1 = rb ∧ W3.heap.size = rb + 1) := ⟨hdb, hob, hrb, by have := HQ.out.2.2.2; omega⟩
  clear hdb hob hrb
  obtain ⟨d0, d1, df⟩ := cells2 HQ.out.1
  obtain ⟨r0, r1, rf⟩ := cells2 HQ.out.2.2.1
  have k0 : W3.cell? ⟨ob, 0, none⟩ = some (.int .i64 5) := by rw [op17 HQ.out.2.1 0 _ rfl, hk]
  have o1 : W3.cell? ⟨ob, 1, none⟩ = some (.int .i64 o.a) := op17 HQ.out.2.1 1 _ rfl
  have o4 : W3.cell? ⟨ob, 4, none⟩ = some (.bool o.bk) := op17 HQ.out.2.1 4 _ rfl
  go_wp2_with fail
  refine (show Calls _ _ _ _ _ from HP.out W3 HB3.out).mono ?_
  rintro e w4 ⟨rfl, hb4⟩
  obtain ⟨W5, hW5⟩ : ∃ W5, W5 = w4.alloc (.cells #[.string em, .int .i64 es, .int .i64 ev] 39) := ⟨_, rfl⟩
  have hb5 : Below w4.heap.size w4 W5 := by rw [hW5]; exact (Below.refl _ _).alloc (Nat.le_refl _) _
  have hw5 : Below W3.heap.size W3 W5 := bel_to hb4 hb5 (Nat.le_refl _)
  have hx5 : W5.heap[w4.heap.size]? = some (.cells #[.string em, .int .i64 es, .int .i64 ev] 39) := by rw [hW5]; exact one_alloc _ _
  go_upto_region 18 with fail
  rw [← hW5]
  clear hW5 hb5
  have hzx : W3.heap.size ≤ w4.heap.size := hb4.size
  obtain ⟨xb, hxb⟩ : ∃ xb, w4.heap.size = xb := ⟨_, rfl⟩
  rw [hxb] at hx5 hzx ⊢
  have HXZ : Hid (W3.heap.size ≤ xb) := hzx
  clear hxb hzx hb4
  have HW5 : Hid (Below W3.heap.size W3 W5) := hw5
  have HX5 : Hid (W5.heap[xb]? = some (.cells #[.string em, .int .i64 es, .int .i64 ev] 39)) := hx5
  have d0' := cell_on d0 hw5
  have d1' := cell_on d1 hw5
  have o1' := cell_on o1 hw5
  have o4' := cell_on o4 hw5
  clear d0 d1 df r0 r1 rf k0 o1 o4 hw5 hx5
  go_wp2_with fail
  refine (show Calls _ _ _ _ _ from HR.out W5 (bel_to HB3.out HW5.out (Nat.le_refl _))).mono ?_
  rintro e w6 ⟨rfl, hb6⟩
  obtain ⟨W7, hW7⟩ : ∃ W7, W7 = w6.alloc (.cells #[.string em, .int .i64 es, .int .i64 ev] 92) := ⟨_, rfl⟩
  have hb7 : Below w6.heap.size w6 W7 := by rw [hW7]; exact (Below.refl _ _).alloc (Nat.le_refl _) _
  have hw7 : Below W5.heap.size W5 W7 := bel_to hb6 hb7 (Nat.le_refl _)
  have hy7 : W7.heap[w6.heap.size]? = some (.cells #[.string em, .int .i64 es, .int .i64 ev] 92) := by rw [hW7]; exact one_alloc _ _
  go_upto_region 19 with fail
  rw [← hW7]
  clear hW7 hb7
  have hzy : W3.heap.size ≤ w6.heap.size := Nat.le_trans HW5.out.size hb6.size
  obtain ⟨yb, hyb⟩ : ∃ yb, w6.heap.size = yb := ⟨_, rfl⟩
  rw [hyb] at hy7 hzy ⊢
  have HYZ : Hid (W3.heap.size ≤ yb) := hzy
  clear hyb hzy hb6
  have HW7 : Hid (Below W3.heap.size W3 W7) := bel_to HW5.out hw7 (Nat.le_refl _)
  have HX7 : Hid _ := keep_row HX5.out hw7
  have HY7 : Hid _ := hy7
  have e0 := cell_on d0' hw7
  have e1 := cell_on d1' hw7
  obtain ⟨x0, x1, x2, xf⟩ := cells3 (keep_row HX5.out hw7)
  obtain ⟨y0, y1, y2, yf⟩ := cells3 hy7
  clear d0' d1' o1' o4' hw7 hy7
  have hd : Below W7.heap.size W7 W7.drew := (Below.refl _ W7).drew
  have HKS : Hid (∀ W' : World, Below W7.heap.size W7 W' → W'.cell? ⟨db, 0, none⟩ = some (.int .i64 S.seed) ∧ W'.cell? ⟨db, 1, none⟩ = some (.slice P n c) ∧ W'.cell? ⟨xb, 0, none⟩ = some (.string em) ∧ W'.cell? ⟨xb, 1, none⟩ = some (.int .i64 es) ∧ W'.cell? ⟨xb, 2, none⟩ = some (.int .i64 ev) ∧ W'.cell? ⟨yb, 0, none⟩ = some (.string em) ∧ W'.cell? ⟨yb, 1, none⟩ = some (.int .i64 es) ∧ W'.cell? ⟨yb, 2, none⟩ = some (.int .i64 ev)) := fun W' hw => And.intro (cell_on e0 hw) (And.intro (cell_on e1 hw) (And.intro (cell_on x0 hw) (And.intro (cell_on x1 hw) (And.intro (cell_on x2 hw) (And.intro (cell_on y0 hw) (And.intro (cell_on y1 hw) (cell_on y2 hw)))))))
  have HKO : Hid (∀ A W' : World, Only A W' rb → (A.cell? ⟨db, 0, none⟩ = some (.int .i64 S.seed) ∧ A.cell? ⟨db, 1, none⟩ = some (.slice P n c) ∧ A.cell? ⟨xb, 0, none⟩ = some (.string em) ∧ A.cell? ⟨xb, 1, none⟩ = some (.int .i64 es) ∧ A.cell? ⟨xb, 2, none⟩ = some (.int .i64 ev) ∧ A.cell? ⟨yb, 0, none⟩ = some (.string em) ∧ A.cell? ⟨yb, 1, none⟩ = some (.int .i64 es) ∧ A.cell? ⟨yb, 2, none⟩ = some (.int .i64 ev)) → (W'.cell? ⟨db, 0, none⟩ = some (.int .i64 S.seed) ∧ W'.cell? ⟨db, 1, none⟩ = some (.slice P n c) ∧ W'.cell? ⟨xb, 0, none⟩ = some (.string em) ∧ W'.cell? ⟨xb, 1, none⟩ = some (.int .i64 es) ∧ W'.cell? ⟨xb, 2, none⟩ = some (.int .i64 ev) ∧ W'.cell? ⟨yb, 0, none⟩ = some (.string em) ∧ W'.cell? ⟨yb, 1, none⟩ = some (.int .i64 es) ∧ W'.cell? ⟨yb, 2, none⟩ = some (.int .i64 ev))) := fun A W' ho hs => And.intro ((World.cell?_of_block (a := ⟨db, 0, none⟩) (ho.other db (by have := HZ.out; have := HXZ.out; have := HYZ.out; omega))).trans hs.1) (And.intro ((World.cell?_of_block (a := ⟨db, 1, none⟩) (ho.other db (by have := HZ.out; have := HXZ.out; have := HYZ.out; omega))).trans hs.2.1) (And.intro ((World.cell?_of_block (a := ⟨xb, 0, none⟩) (ho.other xb (by have := HZ.out; have := HXZ.out; have := HYZ.out; omega))).trans hs.2.2.1) (And.intro ((World.cell?_of_block (a := ⟨xb, 1, none⟩) (ho.other xb (by have := HZ.out; have := HXZ.out; have := HYZ.out; omega))).trans hs.2.2.2.1) (And.intro ((World.cell?_of_block (a := ⟨xb, 2, none⟩) (ho.other xb (by have := HZ.out; have := HXZ.out; have := HYZ.out; omega))).trans hs.2.2.2.2.1) (And.intro ((World.cell?_of_block (a := ⟨yb, 0, none⟩) (ho.other yb (by have := HZ.out; have := HXZ.out; have := HYZ.out; omega))).trans hs.2.2.2.2.2.1) (And.intro ((World.cell?_of_block (a := ⟨yb, 1, none⟩) (ho.other yb (by have := HZ.out; have := HXZ.out; have := HYZ.out; omega))).trans hs.2.2.2.2.2.2.1) ((World.cell?_of_block (a := ⟨yb, 2, none⟩) (ho.other yb (by have := HZ.out; have := HXZ.out; have := HYZ.out; omega))).trans hs.2.2.2.2.2.2.2)))))))
  have hSA := And.intro (e0) (And.intro (e1) (And.intro (x0) (And.intro (x1) (And.intro (x2) (And.intro (y0) (And.intro (y1) (y2)))))))
  go_region_held3 (fun W' : World => W'.cell? ⟨db, 0, none⟩ = some (.int .i64 S.seed) ∧ W'.cell? ⟨db, 1, none⟩ = some (.slice P n c) ∧ W'.cell? ⟨xb, 0, none⟩ = some (.string em) ∧ W'.cell? ⟨xb, 1, none⟩ = some (.int .i64 es) ∧ W'.cell? ⟨xb, 2, none⟩ = some (.int .i64 ev) ∧ W'.cell? ⟨yb, 0, none⟩ = some (.string em) ∧ W'.cell? ⟨yb, 1, none⟩ = some (.int .i64 es) ∧ W'.cell? ⟨yb, 2, none⟩ = some (.int .i64 ev))
    (first | exact hSA | exact HKS.out _ hw1 | exact HKO.out _ _ (((Only.refl _ rb).set 0 _).set 1 _) (HKS.out _ hw1))
    (first | (go_at_call 46; refine (show Calls _ _ _ _ _ from alike_yes em es ev W7.drew).mono ?_; rintro e a1 ⟨rfl, hb1⟩; have hw1 : Below W7.heap.size W7 a1 := hd.trans hb1; obtain ⟨z0, z1, zf⟩ := cells2 (keep_row (keep_row HQ.out.2.2.1 HW7.out) hw1)))
  have HRB : Hid (a1.heap[rb]? = some (.cells #[.int .i64 0, .slice none 0 0] 51)) := keep_row (keep_row HQ.out.2.2.1 HW7.out) hw1
  have HBF : Hid (Below w.heap.size w a1) := bel_to HB3.out (bel_to HW7.out hw1 (Nat.le_refl _)) (Nat.le_refl _)
  go_wp2
  obtain ⟨W9, hW9⟩ : ∃ W9, W9 = (a1.setCell ⟨rb, 0, none⟩ (.int .i64 S.seed)).setCell ⟨rb, 1, none⟩ (.slice P n c) := ⟨_, rfl⟩
  have hr9 : W9.heap[rb]? = some (.cells #[.int .i64 S.seed, .slice P n c] 51) := by
    rw [hW9, heap_setCell_same _ _ _ _ _ _ (heap_setCell_same _ _ _ _ _ _ HRB.out)]
    rfl
  have hon : Only a1 W9 rb := by rw [hW9]; exact ((Only.refl _ rb).set 0 _).set 1 _
  have hb9 : Below w.heap.size w W9 := HBF.out.trans (hon.below (by have := HZ.out; omega))
  rw [← hW9]
  obtain ⟨s0, s1, sf⟩ := cells2 hr9
  exact bodyPost_ret (v := .tuple #[bval S.seed (.slice P n c), .bool true]) (by simp [results, Tryd.results20, go_sem, s0, s1]) rfl (quiet_post HBD.out HER.out hb9)
end Go.Proofs.YtgbplghokciimaaDoor
namespace Go.Proofs.YtgbplghokciimaaDoor
open Go.RowKit I
set_option linter.unusedVariables false
set_option maxHeartbeats 4000000 in
set_option maxRecDepth 100000 in
theorem step_6 (g : Nat) (S : SkS) (N : Nat) (v : Value) (o : OpD) (w : World) (hk : o.k = 6) (h : Bd w g S N) (hN : N < 1000000) (he : ERow (fun q => q ∉ bblk g S) w v (ens S.T)) (hT : Tab w) (ho : OpOk o) : Calls Tryd.prog 20 #[.pointer (some ⟨g, 0, none⟩), bval S.seed v, .agg (opA o)] w (StepPost g S N w) := by
  obtain ⟨P, c, rfl⟩ := he.form
  rw [ens_len] at he ⊢
  have hlen := h.len
  obtain ⟨n, hn⟩ : ∃ n, S.T.length = n := ⟨_, rfl⟩
  have HNL : Hid (S.T.length = n) := hn
  have hel : (ens S.T).length = n := by rw [ens_len]; exact hn
  have HEL : Hid ((ens S.T).length = n) := hel
  rw [hn] at he ⊢ hlen
  have HBD : Hid (Bd w g S N) := h
  have HER : Hid (ERow (fun q => q ∉ bblk g S) w (.slice P n c) (ens S.T)) := he
  have HOK : Hid (OpOk o) := ho
  have HLT : Hid (∀ q ∈ bblk g S, q < w.heap.size) := h.lts
  obtain ⟨W3, hW3⟩ : ∃ W3, W3 = ((w.alloc (.cells #[.int .i64 S.seed, .slice P n c] 51)).alloc (.cells (opA o) 32)).alloc (.cells #[.int .i64 0, .slice none 0 0] 51) := ⟨_, rfl⟩
  obtain ⟨q0, q1, q2, q3, q4⟩ := alloc3 w (.cells #[.int .i64 S.seed, .slice P n c] 51) (.cells (opA o) 32) (.cells #[.int .i64 0, .slice none 0 0] 51)
  rw [← hW3] at q0 q1 q2 q3 q4
  have HB3 : Hid (Below w.heap.size w W3) := q4
  have HQ : Hid _ := And.intro q0 (And.intro q1 (And.intro q2 q3))
  have HP : Hid (∀ W, Below w.heap.size w W → Calls Tryd.prog 12 #[.pointer (some ⟨g, 0, none⟩), .int .i64 o.a, .int .i64 o.b, .bool o.bk] W fun e w' => ∃ r, e = .returned r ∧ w'.ownsRow W.heap.size 39 3 r (sliceE (turnE (ens S.T) o.bk) o.a o.b).length (flatV (sliceE (turnE (ens S.T) o.bk) o.a o.b)) ∧ Below W.heap.size W w') := fun W hW => by
    have h1 := Slice_any g S N o.a o.b o.bk ho.a ho.b W (h.below hW) (by omega)
    have h2 : selE S.T (slL o.bk S.T.length o.a o.b) = sliceE (turnE (ens S.T) o.bk) o.a o.b := by
      unfold slL
      rw [sel_pick, slice_pick, ens_len]
    have h3 : (slL o.bk S.T.length o.a o.b).length = (sliceE (turnE (ens S.T) o.bk) o.a o.b).length := by rw [← h2, selE_len]
    rw [h2, h3] at h1
    exact h1
  have HR : Hid (∀ W, Below w.heap.size w W → Calls Tryd.prog 49 #[bval S.seed (.slice P n c), .int .i64 o.a, .int .i64 o.b, .bool o.bk] W fun e w' => ∃ r, e = .returned r ∧ ERow (fun _ => True) w' r (sliceE (turnE (ens S.T) o.bk) o.a o.b) ∧ Below W.heap.size W w') := fun W hW => (rSlice_any _ S.seed (.slice P n c) (ens S.T) (by omega) o.a o.b ho.a o.bk W (he.on hW)).mono (fun e w' ⟨r, h1, h2, h3⟩ => ⟨r, h1, ERow.own_of h2 rfl (fun _ _ => trivial), h3⟩)
  have HLL : Hid ((sliceE (turnE (ens S.T) o.bk) o.a o.b).length ≤ 1000000) := by
    show _ ≤ _
    unfold sliceE
    rw [List.length_take, List.length_drop, turnE_len]
    omega
  clear h he ho hn hel hT q0 q1 q2 q3 q4
  go_enter Tryd.func20, Tryd.ntmps20
  go_upto_region 1 with fail
  rw [← hW3]
  clear hW3
  obtain ⟨db, hdb⟩ : ∃ db, w.heap.size = db := ⟨_, rfl⟩
  rw [hdb] at HQ ⊢
  obtain ⟨ob, hob⟩ : ∃ ob, db + 1 = ob := ⟨_, rfl⟩
  rw [hob] at HQ ⊢
  obtain ⟨rb, hrb⟩ : ∃ rb, ob + 1 = rb := ⟨_, rfl⟩
  rw [hrb] at HQ ⊢
  have HZ : Hid (w.heap.size = db ∧ db + 1 = ob ∧ ob + 1 = rb ∧ W3.heap.size = rb + 1) := ⟨hdb, hob, hrb, by have := HQ.out.2.2.2; omega⟩
  clear hdb hob hrb
  obtain ⟨d0, d1, df⟩ := cells2 HQ.out.1
  obtain ⟨r0, r1, rf⟩ := cells2 HQ.out.2.2.1
  have k0 : W3.cell? ⟨ob, 0, none⟩ = some (.int .i64 6) := by rw [op17 HQ.out.2.1 0 _ rfl, hk]
  have o1 : W3.cell? ⟨ob, 1, none⟩ = some (.int .i64 o.a) := op17 HQ.out.2.1 1 _ rfl
  have o2 : W3.cell? ⟨ob, 2, none⟩ = some (.int .i64 o.b) := op17 HQ.out.2.1 2 _ rfl
  have o4 : W3.cell? ⟨ob, 4, none⟩ = some (.bool o.bk) := op17 HQ.out.2.1 4 _ rfl
  go_upto_region 21 with fail
  have hd : Below W3.heap.size W3 W3.drew := (Below.refl _ W3).drew
  have HKS : Hid (∀ w' : World, Below W3.heap.size W3 w' → w'.cell? ⟨db, 0, none⟩ = some (.int .i64 S.seed) ∧ w'.cell? ⟨db, 1, none⟩ = some (.slice P n c) ∧ w'.cell? ⟨ob, 1, none⟩ = some (.int .i64 o.a) ∧ w'.cell? ⟨ob, 2, none⟩ = some (.int .i64 o.b) ∧ w'.cell? ⟨ob, 4, none⟩ = some (.bool o.bk)) := fun w' hw => And.intro (cell_on d0 hw) (And.intro (cell_on d1 hw) (And.intro (cell_on o1 hw) (And.intro (cell_on o2 hw) (cell_on o4 hw))))
  have HKO : Hid (∀ A B : World, Only A B rb → (A.cell? ⟨db, 0, none⟩ = some (.int .i64 S.seed) ∧ A.cell? ⟨db, 1, none⟩ = some (.slice P n c) ∧ A.cell? ⟨ob, 1, none⟩ = some (.int .i64 o.a) ∧ A.cell? ⟨ob, 2, none⟩ = some (.int .i64 o.b) ∧ A.cell? ⟨ob, 4, none⟩ = some (.bool o.bk)) → (B.cell? ⟨db, 0, none⟩ = some (.int .i64 S.seed) ∧ B.cell? ⟨db, 1, none⟩ = some (.slice P n c) ∧ B.cell? ⟨ob, 1, none⟩ = some (.int .i64 o.a) ∧ B.cell? ⟨ob, 2, none⟩ = some (.int .i64 o.b) ∧ B.cell? ⟨ob, 4, none⟩ = some (.bool o.bk))) := fun A B ho hs => And.intro ((World.cell?_of_block (a := ⟨db, 0, none⟩) (ho.other db (by have := HZ.out; omega))).trans hs.1) (And.intro ((World.cell?_of_block (a := ⟨db, 1, none⟩) (ho.other db (by have := HZ.out; omega))).trans hs.2.1) (And.intro ((World.cell?_of_block (a := ⟨ob, 1, none⟩) (ho.other ob (by have := HZ.out; omega))).trans hs.2.2.1) (And.intro ((World.cell?_of_block (a := ⟨ob, 2, none⟩) (ho.other ob (by have := HZ.out; omega))).trans hs.2.2.2.1) ((World.cell?_of_block (a := ⟨ob, 4, none⟩) (ho.other ob (by have := HZ.out; omega))).trans hs.2.2.2.2))))
  have hSA := And.intro (d0) (And.intro (d1) (And.intro (o1) (And.intro (o2) (o4))))
  go_region_held3 (fun w' : World => w'.cell? ⟨db, 0, none⟩ = some (.int .i64 S.seed) ∧ w'.cell? ⟨db, 1, none⟩ = some (.slice P n c) ∧ w'.cell? ⟨ob, 1, none⟩ = some (.int .i64 o.a) ∧ w'.cell? ⟨ob, 2, none⟩ = some (.int .i64 o.b) ∧ w'.cell? ⟨ob, 4, none⟩ = some (.bool o.bk))
    (first | exact hSA | exact HKS.out _ hw1 | exact HKS.out _ hw2 | exact HKS.out _ hw3 | exact HKO.out _ _ (((Only.refl _ rb).set 0 _).set 1 _) (HKS.out _ hw3))
    (first | (go_at_call 12; refine (show Calls _ _ _ _ _ from HP.out W3.drew (bel_to HB3.out hd (Nat.le_refl _))).mono ?_; rintro e a1 ⟨u1, rfl, hu1, hb1⟩; have hw1 : Below W3.heap.size W3 a1 := bel_to hd hb1 (Nat.le_refl _)) | (go_at_call 49; refine (show Calls _ _ _ _ _ from HR.out a1 (bel_to HB3.out hw1 (Nat.le_refl _))).mono ?_; rintro e a2 ⟨u2, rfl, hu2, hb2⟩; have hw2 : Below W3.heap.size W3 a2 := bel_to hw1 hb2 (Nat.le_refl _); have hu1b := own_keep hu1 (fun q _ hq => hb2.block q hq)) | (go_at_call 22; refine (show Calls _ _ _ _ _ from same_yes _ _ u1 u2 _ HLL.out a2 hu1b hu2).mono ?_; rintro e a3 ⟨rfl, hb3⟩; have hw3 : Below W3.heap.size W3 a3 := bel_to hw2 hb3 (Nat.le_refl _); obtain ⟨z0, z1, zf⟩ := cells2 (keep_row HQ.out.2.2.1 hw3)))
  have HRB : Hid (a3.heap[rb]? = some (.cells #[.int .i64 0, .slice none 0 0] 51)) := keep_row HQ.out.2.2.1 hw3
  have HBF : Hid (Below w.heap.size w a3) := bel_to HB3.out hw3 (Nat.le_refl _)
  go_wp2
  obtain ⟨W7, hW7⟩ : ∃ W7, W7 = (a3.setCell ⟨rb, 0, none⟩ (.int .i64 S.seed)).setCell ⟨rb, 1, none⟩ (.slice P n c) := ⟨_, rfl⟩
  have hr7 : W7.heap[rb]? = some (.cells #[.int .i64 S.seed, .slice P n c] 51) := by
    rw [hW7, heap_setCell_same _ _ _ _ _ _ (heap_setCell_same _ _ _ _ _ _ HRB.out)]
    rfl
  have hon : Only a3 W7 rb := by rw [hW7]; exact ((Only.refl _ rb).set 0 _).set 1 _
  have hb7 : Below w.heap.size w W7 := HBF.out.trans (hon.below (by have := HZ.out; omega))
  rw [← hW7]
  obtain ⟨s0, s1, sf⟩ := cells2 hr7
  exact bodyPost_ret (v := .tuple #[bval S.seed (.slice P n c), .bool true]) (by simp [results, Tryd.results20, go_sem, s0, s1]) rfl (quiet_post HBD.out HER.out hb7)
end Go.Proofs.YtgbplghokciimaaDoor
namespace Go.Proofs.YtgbplghokciimaaDoor
open Go.RowKit I
set_option linter.unusedVariables false
set_option maxHeartbeats 4000000 in
set_option maxRecDepth 100000 in
theorem step_10 (g : Nat) (S : SkS) (N : Nat) (v : Value) (o : OpD) (w : World) (hk : o.k = 10) (h : Bd w g S N) (hN : N < 1000000) (he : ERow (fun q => q ∉ bblk g S) w v (ens S.T)) (hT : Tab w) (ho : OpOk o) : Calls Tryd.prog 20 #[.pointer (some ⟨g, 0, none⟩), bval S.seed v, .agg (opA o)] w (StepPost g S N w) := by
  obtain ⟨P, c, rfl⟩ := he.form
  rw [ens_len] at he ⊢
  have hlen := h.len
  obtain ⟨n, hn⟩ : ∃ n, S.T.length = n := ⟨_, rfl⟩
  have HNL : Hid (S.T.length = n) := hn
  have hel : (ens S.T).length = n := by rw [ens_len]; exact hn
  have HEL : Hid ((ens S.T).length = n) := hel
  rw [hn] at he ⊢ hlen
  have HBD : Hid (Bd w g S N) := h
  have HER : Hid (ERow (fun q => q ∉ bblk g S) w (.slice P n c) (ens S.T)) := he
  have HOK : Hid (OpOk o) := ho
  have HLT : Hid (∀ q ∈ bblk g S, q < w.heap.size) := h.lts
  obtain ⟨W3, hW3⟩ : ∃ W3, W3 = ((w.alloc (.cells #[.int .i64 S.seed, .slice P n c] 51)).alloc (.cells (opA o) 32)).alloc (.cells #[.int .i64 0, .slice none 0 0] 51) := ⟨_, rfl⟩
  obtain ⟨q0, q1, q2, q3, q4⟩ := alloc3 w (.cells #[.int .i64 S.seed, .slice P n c] 51) (.cells (opA o) 32) (.cells #[.int .i64 0, .slice none 0 0] 51)
  rw [← hW3] at q0 q1 q2 q3 q4
  have HB3 : Hid (Below w.heap.size w W3) := q4
  have HQ : Hid _ := And.intro q0 (And.intro q1 (And.intro q2 q3))
  have HTA : Hid (talL S = cl ((ens S.T).map fun e => hgM S.seed e.1) (mxH ((ens S.T).map fun e => hgM S.seed e.1))) := tal_doc h
  have HP : Hid (∀ W, Below w.heap.size w W → Calls Tryd.prog 17 #[.pointer (some ⟨g, 0, none⟩)] W fun e w' => ∃ r, e = .returned r ∧ IRow w' r (talL S) ∧ Below W.heap.size W w') := fun W hW => (Tall_any g S N W (h.below hW)).mono (fun e w' ⟨r, h1, h2, h3⟩ => ⟨r, h1, ⟨W.heap.size, by
    have e1 : (talL S).length = S.H := by unfold talL; simp
    rw [e1]; exact h2⟩, h3⟩)
  have HR : Hid (∀ W, Below w.heap.size w W → Calls Tryd.prog 23 #[bval S.seed (.slice P n c)] W fun e w' => ∃ r, e = .returned r ∧ IRow w' r (talL S) ∧ Below W.heap.size W w') := fun W hW => (rTall_any _ S.seed (.slice P n c) (ens S.T) (by omega) (ens_sz h) W (he.on hW)).mono (fun e w' ⟨r, h1, h2, h3⟩ => ⟨r, h1, ⟨W.heap.size, by rw [HTA.out]; exact h2⟩, h3⟩)
  have HSI : Hid (∀ u1 u2 W, IRow W u1 (talL S) → IRow W u2 (talL S) → Calls Tryd.prog 16 #[u1, u2] W fun e w' => e = .returned (.bool true) ∧ Below W.heap.size W w') := fun u1 u2 W h1 h2 => by
    have hh := h.h24
    have := sameInts_any u1 u2 (talL S) (talL S) (by unfold talL; simp; omega) W h1 h2
    simpa using this
  clear h he ho hn hel hT q0 q1 q2 q3 q4
  go_enter Tryd.func20, Tryd.ntmps20
  go_upto_region 1 with fail
  rw [← hW3]
  clear hW3
  obtain ⟨db, hdb⟩ : ∃ db, w.heap.size = db := ⟨_, rfl⟩
  rw [hdb] at HQ ⊢
  obtain ⟨ob, hob⟩ : ∃ ob, db + 1 = ob := ⟨_, rfl⟩
  rw [hob] at HQ ⊢
  obtain ⟨rb, hrb⟩ : ∃ rb, ob + 1 = rb := ⟨_, rfl⟩
  rw [hrb] at HQ ⊢
  have HZ : Hid (w.heap.size = db ∧ db + 1 = ob ∧ ob + 1 = rb ∧ W3.heap.size = rb + 1) := ⟨hdb, hob, hrb, by have := HQ.out.2.2.2; omega⟩
  clear hdb hob hrb
  obtain ⟨d0, d1, df⟩ := cells2 HQ.out.1
  obtain ⟨r0, r1, rf⟩ := cells2 HQ.out.2.2.1
  have k0 : W3.cell? ⟨ob, 0, none⟩ = some (.int .i64 10) := by rw [op17 HQ.out.2.1 0 _ rfl, hk]
  go_upto_region 29 with fail
  have hd : Below W3.heap.size W3 W3.drew := (Below.refl _ W3).drew
  have HKS : Hid (∀ w' : World, Below W3.heap.size W3 w' → w'.cell? ⟨db, 0, none⟩ = some (.int .i64 S.seed) ∧ w'.cell? ⟨db, 1, none⟩ = some (.slice P n c)) := fun w' hw => And.intro (cell_on d0 hw) (cell_on d1 hw)
  have HKO : Hid (∀ A B : World, Only A B rb → (A.cell? ⟨db, 0, none⟩ = some (.int .i64 S.seed) ∧ A.cell? ⟨db, 1, none⟩ = some (.slice P n c)) → (B.cell? ⟨db, 0, none⟩ = some (.int .i64 S.seed) ∧ B.cell? ⟨db, 1, none⟩ = some (.slice P n c))) := fun A B ho hs => And.intro ((World.cell?_of_block (a := ⟨db, 0, none⟩) (ho.other db (by have := HZ.out; omega))).trans hs.1) ((World.cell?_of_block (a := ⟨db, 1, none⟩) (ho.other db (by have := HZ.out; omega))).trans hs.2)
  have hSA := And.intro (d0) (d1)
  go_region_held3 (fun w' : World => w'.cell? ⟨db, 0, none⟩ = some (.int .i64 S.seed) ∧ w'.cell? ⟨db, 1, none⟩ = some (.slice P n c))
    (first | exact hSA | exact HKS.out _ hw1 | exact HKS.out _ hw2 | exact HKS.out _ hw3 | exact HKO.out _ _ (((Only.refl _ rb).set 0 _).set 1 _) (HKS.out _ hw3))
    (first | (go_at_call 17; refine (show Calls _ _ _ _ _ from HP.out W3.drew (bel_to HB3.out hd (Nat.le_refl _))).mono ?_; rintro e a1 ⟨u1, rfl, hu1, hb1⟩; have hw1 : Below W3.heap.size W3 a1 := bel_to hd hb1 (Nat.le_refl _)) | (go_at_call 23; refine (show Calls _ _ _ _ _ from HR.out a1 (bel_to HB3.out hw1 (Nat.le_refl _))).mono ?_; rintro e a2 ⟨u2, rfl, hu2, hb2⟩; have hw2 : Below W3.heap.size W3 a2 := bel_to hw1 hb2 (Nat.le_refl _); have hu1b := hu1.on hb2) | (go_at_call 16; refine (show Calls _ _ _ _ _ from HSI.out u1 u2 a2 hu1b hu2).mono ?_; rintro e a3 ⟨rfl, hb3⟩; have hw3 : Below W3.heap.size W3 a3 := bel_to hw2 hb3 (Nat.le_refl _); obtain ⟨z0, z1, zf⟩ := cells2 (keep_row HQ.out.2.2.1 hw3)))
  have HRB : Hid (a3.heap[rb]? = some (.cells #[.int .i64 0, .slice none 0 0] 51)) := keep_row HQ.out.2.2.1 hw3
  have HBF : Hid (Below w.heap.size w a3) := bel_to HB3.out hw3 (Nat.le_refl _)
  go_wp2
  obtain ⟨W7, hW7⟩ : ∃ W7, W7 = (a3.setCell ⟨rb, 0, none⟩ (.int .i64 S.seed)).setCell ⟨rb, 1, none⟩ (.slice P n c) := ⟨_, rfl⟩
  have hr7 : W7.heap[rb]? = some (.cells #[.int .i64 S.seed, .slice P n c] 51) := by
    rw [hW7, heap_setCell_same _ _ _ _ _ _ (heap_setCell_same _ _ _ _ _ _ HRB.out)]
    rfl
  have hon : Only a3 W7 rb := by rw [hW7]; exact ((Only.refl _ rb).set 0 _).set 1 _
  have hb7 : Below w.heap.size w W7 := HBF.out.trans (hon.below (by have := HZ.out; omega))
  rw [← hW7]
  obtain ⟨s0, s1, sf⟩ := cells2 hr7
  exact bodyPost_ret (v := .tuple #[bval S.seed (.slice P n c), .bool true]) (by simp [results, Tryd.results20, go_sem, s0, s1]) rfl (quiet_post HBD.out HER.out hb7)
end Go.Proofs.YtgbplghokciimaaDoor
