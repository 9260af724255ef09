import Derived.Test.YtgbplghokciimaaDoorStM
namespace Go.Proofs.YtgbplghokciimaaDoor
open Go.RowKit I
set_option linter.unusedVariables false
set_option maxHeartbeats 4000000 in
set_option maxRecDepth 100000 in
theorem step_7 (g : Nat) (S : SkS) (N : Nat) (v : Value) (o : OpD) (w : World) (hk : o.k = 7) (h : Bd w g S N) (hN : N < 1000000) (he : ERow (fun q => q ∉ bblk g S) w v (ens S.T)) (hT : Tab w) (ho : OpOk o) : Calls Tryd.prog 20 #[.pointer (some ⟨g, 0, none⟩), bval S.seed v, .agg (opA o)] w (StepPost g S N w) := by
  obtain ⟨P, c, rfl⟩ := he.form
  rw [ens_len] at he ⊢
  have hlen := h.len
  obtain ⟨n, hn⟩ : ∃ n, S.T.length = n := ⟨_, rfl⟩
  have HNL : Hid (S.T.length = n) := hn
  have hel : (ens S.T).length = n := by rw [ens_len]; exact hn
  have HEL : Hid ((ens S.T).length = n) := hel
  rw [hn] at he ⊢ hlen
  have HBD : Hid (Bd w g S N) := h
  have HER : Hid (ERow (fun q => q ∉ bblk g S) w (.slice P n c) (ens S.T)) := he
  have HOK : Hid (OpOk o) := ho
  have HLT : Hid (∀ q ∈ bblk g S, q < w.heap.size) := h.lts
  obtain ⟨W3, hW3⟩ : ∃ W3, W3 = ((w.alloc (.cells #[.int .i64 S.seed, .slice P n c] 51)).alloc (.cells (opA o) 32)).alloc (.cells #[.int .i64 0, .slice none 0 0] 51) := ⟨_, rfl⟩
  obtain ⟨q0, q1, q2, q3, q4⟩ := alloc3 w (.cells #[.int .i64 S.seed, .slice P n c] 51) (.cells (opA o) 32) (.cells #[.int .i64 0, .slice none 0 0] 51)
  rw [← hW3] at q0 q1 q2 q3 q4
  have HB3 : Hid (Below w.heap.size w W3) := q4
  have HQ : Hid _ := And.intro q0 (And.intro q1 (And.intro q2 q3))
  have HP : Hid (∀ W, Below w.heap.size w W → Calls Tryd.prog 21 #[.pointer (some ⟨g, 0, none⟩), bdV o.lo, bdV o.hi, .bool o.bk, .int .i64 o.a, .int .i64 o.b] W fun e w' => ∃ r, e = .returned r ∧ w'.ownsRow W.heap.size 39 3 r (cutE (turnE (rngS (ens S.T) o.lo o.hi) o.bk) o.a o.b).length (flatV (cutE (turnE (rngS (ens S.T) o.lo o.hi) o.bk) o.a o.b)) ∧ Below W.heap.size W w') := fun W hW => ByScore_any g S N o.lo o.hi o.bk o.a o.b ho.a ho.b W (h.below hW) (by omega)
  have HR : Hid (∀ W, Below w.heap.size w W → Calls Tryd.prog 50 #[bval S.seed (.slice P n c), bdV o.lo, bdV o.hi, .bool o.bk, .int .i64 o.a, .int .i64 o.b] W fun e w' => ∃ r, e = .returned r ∧ ERow (fun _ => True) w' r (cutE (turnE (rngS (ens S.T) o.lo o.hi) o.bk) o.a o.b) ∧ Below W.heap.size W w') := fun W hW => (rByScore_any _ S.seed (.slice P n c) (ens S.T) (by omega) o.lo o.hi o.bk o.a o.b ho.a W (he.on hW)).mono (fun e w' ⟨r, h1, h2, h3⟩ => ⟨r, h1, h2.imp (fun _ _ => trivial), h3⟩)
  have HLL : Hid ((cutE (turnE (rngS (ens S.T) o.lo o.hi) o.bk) o.a o.b).length ≤ 1000000) := by
    show _ ≤ _
    have h1 := cut_le (turnE (rngS (ens S.T) o.lo o.hi) o.bk) o.a o.b
    rw [turnE_len] at h1
    have h2 : (rngS (ens S.T) o.lo o.hi).length ≤ (ens S.T).length := List.length_filter_le _ _
    omega
  clear h he ho hn hel hT q0 q1 q2 q3 q4
  go_enter Tryd.func20, Tryd.ntmps20
  go_upto_region 1 with fail
  rw [← hW3]
  clear hW3
  obtain ⟨db, hdb⟩ : ∃ db, w.heap.size = db := ⟨_, rfl⟩
  rw [hdb] at HQ ⊢
  obtain ⟨ob, hob⟩ : ∃ ob, db + 1 = ob := ⟨_, rfl⟩
  rw [hob] at HQ ⊢
  obtain ⟨rb, hrb⟩ : ∃ rb, ob + 1 = rb := ⟨_, rfl⟩
  rw [hrb] at HQ ⊢
  have HZ : Hid (w.heap.size = db ∧ db + 1 = ob ∧ ob + 1 = rb ∧ W3.heap.size = rb + 1) := ⟨hdb, hob, hrb, by have := HQ.out.2.2.2; omega⟩
  clear hdb hob hrb
  obtain ⟨d0, d1, df⟩ := cells2 HQ.out.1
  obtain ⟨r0, r1, rf⟩ := cells2 HQ.out.2.2.1
  have k0 : W3.cell? ⟨ob, 0, none⟩ = some (.int .i64 7) := by rw [op17 HQ.out.2.1 0 _ rfl, hk]
  have o1 : W3.cell? ⟨ob, 1, none⟩ = some (.int .i64 o.a) := op17 HQ.out.2.1 1 _ rfl
  have o2 : W3.cell? ⟨ob, 2, none⟩ = some (.int .i64 o.b) := op17 HQ.out.2.1 2 _ rfl
  have o4 : W3.cell? ⟨ob, 4, none⟩ = some (.bool o.bk) := op17 HQ.out.2.1 4 _ rfl
  have o5 : W3.cell? ⟨ob, 5, none⟩ = some (.int .i64 o.lo.1) := op17 HQ.out.2.1 5 _ rfl
  have o6 : W3.cell? ⟨ob, 6, none⟩ = some (.int .i64 o.lo.2.1) := op17 HQ.out.2.1 6 _ rfl
  have o7 : W3.cell? ⟨ob, 7, none⟩ = some (.bool o.lo.2.2) := op17 HQ.out.2.1 7 _ rfl
  have o8 : W3.cell? ⟨ob, 8, none⟩ = some (.int .i64 o.hi.1) := op17 HQ.out.2.1 8 _ rfl
  have o9 : W3.cell? ⟨ob, 9, none⟩ = some (.int .i64 o.hi.2.1) := op17 HQ.out.2.1 9 _ rfl
  have o10 : W3.cell? ⟨ob, 10, none⟩ = some (.bool o.hi.2.2) := op17 HQ.out.2.1 10 _ rfl
  go_upto_region 23 with fail
  have hd : Below W3.heap.size W3 W3.drew := (Below.refl _ W3).drew
  have HKS : Hid (∀ w' : World, Below W3.heap.size W3 w' → w'.cell? ⟨db, 0, none⟩ = some (.int .i64 S.seed) ∧ w'.cell? ⟨db, 1, none⟩ = some (.slice P n c) ∧ w'.cell? ⟨ob, 1, none⟩ = some (.int .i64 o.a) ∧ w'.cell? ⟨ob, 2, none⟩ = some (.int .i64 o.b) ∧ w'.cell? ⟨ob, 4, none⟩ = some (.bool o.bk) ∧ w'.cell? ⟨ob, 5, none⟩ = some (.int .i64 o.lo.1) ∧ w'.cell? ⟨ob, 6, none⟩ = some (.int .i64 o.lo.2.1) ∧ w'.cell? ⟨ob, 7, none⟩ = some (.bool o.lo.2.2) ∧ w'.cell? ⟨ob, 8, none⟩ = some (.int .i64 o.hi.1) ∧ w'.cell? ⟨ob, 9, none⟩ = some (.int .i64 o.hi.2.1) ∧ w'.cell? ⟨ob, 10, none⟩ = some (.bool o.hi.2.2)) := fun w' hw => And.intro (cell_on d0 hw) (And.intro (cell_on d1 hw) (And.intro (cell_on o1 hw) (And.intro (cell_on o2 hw) (And.intro (cell_on o4 hw) (And.intro (cell_on o5 hw) (And.intro (cell_on o6 hw) (And.intro (cell_on o7 hw) (And.intro (cell_on o8 hw) (And.intro (cell_on o9 hw) (cell_on o10 hw))))))))))
  have HKO : Hid (∀ A B : World, Only A B rb → (A.cell? ⟨db, 0, none⟩ = some (.int .i64 S.seed) ∧ A.cell? ⟨db, 1, none⟩ = some (.slice P n c) ∧ A.cell? ⟨ob, 1, none⟩ = some (.int .i64 o.a) ∧ A.cell? ⟨ob, 2, none⟩ = some (.int .i64 o.b) ∧ A.cell? ⟨ob, 4, none⟩ = some (.bool o.bk) ∧ A.cell? ⟨ob, 5, none⟩ = some (.int .i64 o.lo.1) ∧ A.cell? ⟨ob, 6, none⟩ = some (.int .i64 o.lo.2.1) ∧ A.cell? ⟨ob, 7, none⟩ = some (.bool o.lo.2.2) ∧ A.cell? ⟨ob, 8, none⟩ = some (.int .i64 o.hi.1) ∧ A.cell? ⟨ob, 9, none⟩ = some (.int .i64 o.hi.2.1) ∧ A.cell? ⟨ob, 10, none⟩ = some (.bool o.hi.2.2)) → (B.cell? ⟨db, 0, none⟩ = some (.int .i64 S.seed) ∧ B.cell? ⟨db, 1, none⟩ = some (.slice P n c) ∧ B.cell? ⟨ob, 1, none⟩ = some (.int .i64 o.a) ∧ B.cell? ⟨ob, 2, none⟩ = some (.int .i64 o.b) ∧ B.cell? ⟨ob, 4, none⟩ = some (.bool o.bk) ∧ B.cell? ⟨ob, 5, none⟩ = some (.int .i64 o.lo.1) ∧ B.cell? ⟨ob, 6, none⟩ = some (.int .i64 o.lo.2.1) ∧ B.cell? ⟨ob, 7, none⟩ = some (.bool o.lo.2.2) ∧ B.cell? ⟨ob, 8, none⟩ = some (.int .i64 o.hi.1) ∧ B.cell? ⟨ob, 9, none⟩ = some (.int .i64 o.hi.2.1) ∧ B.cell? ⟨ob, 10, none⟩ = some (.bool o.hi.2.2))) := fun A B ho hs => And.intro ((World.cell?_of_block (a := ⟨db, 0, none⟩) (ho.other db (by have := HZ.out; omega))).trans hs.1) (And.intro ((World.cell?_of_block (a := ⟨db, 1, none⟩) (ho.other db (by have := HZ.out; omega))).trans hs.2.1) (And.intro ((World.cell?_of_block (a := ⟨ob, 1, none⟩) (ho.other ob (by have := HZ.out; omega))).trans hs.2.2.1) (And.intro ((World.cell?_of_block (a := ⟨ob, 2, none⟩) (ho.other ob (by have := HZ.out; omega))).trans hs.2.2.2.1) (And.intro ((World.cell?_of_block (a := ⟨ob, 4, none⟩) (ho.other ob (by have := HZ.out; omega))).trans hs.2.2.2.2.1) (And.intro ((World.cell?_of_block (a := ⟨ob, 5, none⟩) (ho.other ob (by have := HZ.out; omega))).trans hs.2.2.2.2.2.1) (And.intro ((World.cell?_of_block (a := ⟨ob, 6, none⟩) (ho.other ob (by have := HZ.out; omega))).trans hs.2.2.2.2.2.2.1) (And.intro ((World.cell?_of_block (a := ⟨ob, 7, none⟩) (ho.other ob (by have := HZ.out; omega))).trans hs.2.2.2.2.2.2.2.1) (And.intro ((World.cell?_of_block (a := ⟨ob, 8, none⟩) (ho.other ob (by have := HZ.out; omega))).trans hs.2.2.2.2.2.2.2.2.1) (And.intro ((World.cell?_of_block (a := ⟨ob, 9, none⟩) (ho.other ob (by have := HZ.out; omega))).trans hs.2.2.2.2.2.2.2.2.2.1) ((World.cell?_of_block (a := ⟨ob, 10, none⟩) (ho.other ob (by have := HZ.out; omega))).trans hs.2.2.2.2.2.2.2.2.2.2))))))))))
  have hSA := And.intro (d0) (And.intro (d1) (And.intro (o1) (And.intro (o2) (And.intro (o4) (And.intro (o5) (And.intro (o6) (And.intro (o7) (And.intro (o8) (And.intro (o9) (o10))))))))))
  go_region_held3 (fun w' : World => w'.cell? ⟨db, 0, none⟩ = some (.int .i64 S.seed) ∧ w'.cell? ⟨db, 1, none⟩ = some (.slice P n c) ∧ w'.cell? ⟨ob, 1, none⟩ = some (.int .i64 o.a) ∧ w'.cell? ⟨ob, 2, none⟩ = some (.int .i64 o.b) ∧ w'.cell? ⟨ob, 4, none⟩ = some (.bool o.bk) ∧ w'.cell? ⟨ob, 5, none⟩ = some (.int .i64 o.lo.1) ∧ w'.cell? ⟨ob, 6, none⟩ = some (.int .i64 o.lo.2.1) ∧ w'.cell? ⟨ob, 7, none⟩ = some (.bool o.lo.2.2) ∧ w'.cell? ⟨ob, 8, none⟩ = some (.int .i64 o.hi.1) ∧ w'.cell? ⟨ob, 9, none⟩ = some (.int .i64 o.hi.2.1) ∧ w'.cell? ⟨ob, 10, none⟩ = some (.bool o.hi.2.2))
    (first | exact hSA | exact HKS.out _ hw1 | exact HKS.out _ hw2 | exact HKS.out _ hw3 | exact HKO.out _ _ (((Only.refl _ rb).set 0 _).set 1 _) (HKS.out _ hw3))
    (first | (go_at_call 21; refine (show Calls _ _ _ _ _ from HP.out W3.drew (bel_to HB3.out hd (Nat.le_refl _))).mono ?_; rintro e a1 ⟨u1, rfl, hu1, hb1⟩; have hw1 : Below W3.heap.size W3 a1 := bel_to hd hb1 (Nat.le_refl _)) | (go_at_call 50; refine (show Calls _ _ _ _ _ from HR.out a1 (bel_to HB3.out hw1 (Nat.le_refl _))).mono ?_; rintro e a2 ⟨u2, rfl, hu2, hb2⟩; have hw2 : Below W3.heap.size W3 a2 := bel_to hw1 hb2 (Nat.le_refl _); have hu1b := own_keep hu1 (fun q _ hq => hb2.block q hq)) | (go_at_call 22; refine (show Calls _ _ _ _ _ from same_yes _ _ u1 u2 _ HLL.out a2 hu1b hu2).mono ?_; rintro e a3 ⟨rfl, hb3⟩; have hw3 : Below W3.heap.size W3 a3 := bel_to hw2 hb3 (Nat.le_refl _); obtain ⟨z0, z1, zf⟩ := cells2 (keep_row HQ.out.2.2.1 hw3)))
  have HRB : Hid (a3.heap[rb]? = some (.cells #[.int .i64 0, .slice none 0 0] 51)) := keep_row HQ.out.2.2.1 hw3
  have HBF : Hid (Below w.heap.size w a3) := bel_to HB3.out hw3 (Nat.le_refl _)
  go_wp2
  obtain ⟨W7, hW7⟩ : ∃ W7, W7 = (a3.setCell ⟨rb, 0, none⟩ (.int .i64 S.seed)).setCell ⟨rb, 1, none⟩ (.slice P n c) := ⟨_, rfl⟩
  have hr7 : W7.heap[rb]? = some (.cells #[.int .i64 S.seed, .slice P n c] 51) := by
    rw [hW7, heap_setCell_same _ _ _ _ _ _ (heap_setCell_same _ _ _ _ _ _ HRB.out)]
    rfl
  have hon : Only a3 W7 rb := by rw [hW7]; exact ((Only.refl _ rb).set 0 _).set 1 _
  have hb7 : Below w.heap.size w W7 := HBF.out.trans (hon.below (by have := HZ.out; omega))
  rw [← hW7]
  obtain ⟨s0, s1, sf⟩ := cells2 hr7
  exact bodyPost_ret (v := .tuple #[bval S.seed (.slice P n c), .bool true]) (by simp [results, Tryd.results20, go_sem, s0, s1]) rfl (quiet_post HBD.out HER.out hb7)
end Go.Proofs.YtgbplghokciimaaDoor
