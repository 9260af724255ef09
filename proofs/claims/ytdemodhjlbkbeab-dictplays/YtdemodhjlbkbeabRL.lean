import Derived.Test.YtdemodhjlbkbeabRI
import Derived.Test.YtdemodhjlbkbeabRK
import Derived.Maps.AppendAt
import Derived.Sort.OwnSorted
namespace Go.Proofs.Ytdemodhjlbkbeab
open Go.RowKit
set_option linter.unusedVariables false
/-- many steps. -/
def stepN : Nat → DS → DS
  | 0, D => D
  | n + 1, D => stepN n (stepD D)
theorem stepN_still {D : DS} (h : D.T2 = []) : ∀ n, stepN n D = D
  | 0 => rfl
  | n + 1 => by
    show stepN n (stepD D) = D
    have : stepD D = D := by unfold stepD; rw [if_pos h]
    rw [this]; exact stepN_still h n
theorem stepN_ok : ∀ (n : Nat) {D : DS}, DInv D → DInv (stepN n D) ∧ (stepN n D).all.Perm D.all ∧ (stepN n D).seed = D.seed
  | 0, D, h => ⟨h, List.Perm.refl _, rfl⟩
  | n + 1, D, h => by
    obtain ⟨h1, h2, h3⟩ := stepD_ok h
    obtain ⟨q1, q2, q3⟩ := stepN_ok n h1
    exact ⟨q1, q2.trans h2, q3.trans h3⟩
theorem cnt_perm {D D' : DS} (h : D'.all.Perm D.all) : cnt D'.T1 + cnt D'.T2 = cnt D.T1 + cnt D.T2 := by
  have := h.length_eq
  rwa [DS.all_len, DS.all_len] at this
set_option maxHeartbeats 1000000 in
set_option maxRecDepth 100000 in
theorem Step_any (g : Nat) (F : List Nat) (D : DS) (hD : DInv D) (n : Int) (hn : -9223372036854775808 ≤ n ∧ n ≤ 9223372036854775807) (hc : cnt D.T1 + cnt D.T2 ≤ 4398046511000) (w : World) (h : DI w g F D) :
    Calls Try.prog 11 #[.pointer (some ⟨g, 0, none⟩), .int .i64 n] w fun e w' => e = .returned (.tuple #[]) ∧ ∃ F', DI w' g F' (stepN n.toNat D) ∧ Moved w w' F F' := by
  have HD : Hid (DInv D) := hD
  have HI : Hid (DI w g F D) := h
  clear hD h
  go_enter Try.func11, Try.ntmps11
  go_wp2_with fail
  go_loopw [1] (fun cz wr => ∃ z : Int, z ≤ n ∧ -9223372036854775808 ≤ z ∧ cz = .int .i64 z ∧ ∃ S Fz, DInv S ∧ DI wr g Fz S ∧ Moved w wr F Fz ∧ S.all.Perm D.all ∧ stepN z.toNat S = stepN n.toNat D) (fun cz _ => (intOf cz).toNat)
  case atStart => exact ⟨n, by omega, hn.1, rfl, D, F, HD.out, HI.out, Moved.refl _ _, List.Perm.refl _, rfl⟩
  case round =>
    obtain ⟨z, hz1, hz2, rfl, S, Fz, hS, hdS, hmS, hpS, heS⟩ := hrel
    have HS : Hid (DInv S) := hS
    have HDS : Hid (DI wr g Fz S) := hdS
    have HMS : Hid (Moved w wr F Fz) := hmS
    have HPS : Hid (S.all.Perm D.all) := hpS
    have HES : Hid (stepN z.toNat S = stepN n.toNat D) := heS
    have HMV : Hid _ := di_moves g Fz S wr hdS
    have hcS := cnt_perm hpS
    have HST : Hid _ := step_any g Fz S hS (by omega) wr hdS
    clear hS hdS hmS hpS heS
    by_cases hz : 0 < z
    · have hzd : decide (0 < z) = true := by simpa using hz
      go_wp2_with fail
      refine (show Calls _ _ _ _ _ from HMV.out).mono ?_
      rintro e w1 ⟨rfl, rfl⟩
      by_cases hm : S.T2 = []
      · have hmd : decide (S.T2 ≠ []) = false := by simp [hm]
        rw [hmd]
        go_wp2
        go_returns
        refine ⟨rfl, Fz, ?_, HMS.out⟩
        rw [← HES.out, stepN_still hm]; exact HDS.out
      · have hmd : decide (S.T2 ≠ []) = true := by simp [hm]
        rw [hmd]
        have hzw : IntKind.i64.wrap (z - 1) = z - 1 := by rw [IntKind.wrap_i64] <;> omega
        go_wp2_with fail
        refine (show Calls _ _ _ _ _ from HST.out).mono ?_
        rintro e w2 ⟨rfl, F2, hd2, hm2⟩
        have HD2 : Hid (DI w2 g F2 (stepD S)) := hd2
        have HM2 : Hid (Moved w w2 F F2) := HMS.out.trans hm2
        have HE2 : Hid (stepN (z - 1).toNat (stepD S) = stepN n.toNat D) := by
          show _ = _
          rw [← HES.out, show z.toNat = (z - 1).toNat + 1 by omega]; rfl
        clear hd2 hm2
        go_wp2
        go_roundw
        case rel => exact ⟨z - 1, by omega, by omega, rfl, stepD S, F2, (stepD_ok HS.out).1, HD2.out, HM2.out, (stepD_ok HS.out).2.1.trans HPS.out, HE2.out⟩
        case measure => simp [intOf]; omega
    · have hzd : decide (0 < z) = false := by simpa using hz
      go_wp2
      go_returns
      refine ⟨rfl, Fz, ?_, HMS.out⟩
      rw [← HES.out, show z.toNat = 0 by omega]; exact HDS.out
set_option maxHeartbeats 1000000 in
set_option maxRecDepth 100000 in
theorem Get_no (g : Nat) (F : List Nat) (D : DS) (hD : DInv D) (k : ByteArray) (hk : k.size ≤ 281474976710656) (hc : cnt D.T1 + cnt D.T2 ≤ 4398046511000) (hno : D.has k = false) (w : World) (h : DI w g F D) :
    Calls Try.prog 17 #[.pointer (some ⟨g, 0, none⟩), .string k] w fun e w' => e = .returned (.tuple #[.int .i64 0, .bool false]) ∧ Below w.heap.size w w' := by
  obtain ⟨u1, u2, hr1⟩ := h.row
  exact Get_miss g D.seed k hk w (row6 hr1).1 (di_find_no g F D k w hD hc hno h)
set_option maxHeartbeats 1000000 in
set_option maxRecDepth 100000 in
theorem Get_yes (g : Nat) (F : List Nat) (D : DS) (hD : DInv D) (k : ByteArray) (hk : k.size ≤ 281474976710656) (hc : cnt D.T1 + cnt D.T2 ≤ 4398046511000) (hno : D.has k = true) (w : World) (h : DI w g F D) :
    Calls Try.prog 17 #[.pointer (some ⟨g, 0, none⟩), .string k] w fun e w' => (∃ v, e = .returned (.tuple #[.int .i64 v, .bool true]) ∧ (k, v) ∈ D.all) ∧ Below w.heap.size w w' := by
  obtain ⟨u1, u2, hr1⟩ := h.row
  obtain ⟨c0, c1, c2, c3, c4, c5, cf⟩ := row6 hr1
  obtain ⟨E, q, hf⟩ := di_find_yes g F D k w hD hc hno h
  have HFN : Hid _ := hf
  have HHS : Hid _ := Hash_any D.seed k hk
  have HSI : Hid (DInv D) := hD
  clear h hD hf hr1
  go_enter Try.func17, Try.ntmps17
  go_wp2_with fail
  refine (show Calls _ _ _ _ _ from HHS.out _).mono ?_
  rintro e w1' ⟨rfl, rfl⟩
  clear c0 c1 c2 c3 c4 c5 cf
  go_wp2_with fail
  refine (show Calls _ _ _ _ _ from HFN.out).mono ?_
  rintro e w2 ⟨rfl, hb2, v1, v2, L1, L2, hg2, t1, t2, hF2, hn2, hl2⟩
  obtain ⟨p1, p2, p3, y, p4, p5⟩ := di_put 0 hg2 t1 t2 hF2 hn2 HSI.out.wf1 HSI.out.wf2 hl2
  have HB2 : Hid _ := hb2
  have HP5 : Hid _ := p5
  clear hb2 hg2 t1 t2 hF2 hn2 hl2 p1 p2 p5
  go_wp2
  go_returns
  exact ⟨⟨y, rfl, HP5.out⟩, HB2.out⟩
set_option maxHeartbeats 1000000 in
set_option maxRecDepth 100000 in
theorem Len_all (g : Nat) (F : List Nat) (D : DS) (hc : cnt D.T1 + cnt D.T2 ≤ 4398046511000) (w : World) (h : DI w g F D) :
    Calls Try.prog 21 #[.pointer (some ⟨g, 0, none⟩)] w fun e w' => e = .returned (.int .i64 ((cnt D.T1 + cnt D.T2 : Nat) : Int)) ∧ ∃ k, w' = w.drewN k := by
  obtain ⟨u1, u2, hr1⟩ := h.row
  obtain ⟨c0, c1, c2, c3, c4, c5, cf⟩ := row6 hr1
  generalize cnt D.T1 = n at *
  generalize cnt D.T2 = m at *
  clear h hr1 c0 c1 c3 c5
  have hw : IntKind.i64.wrap ((n : Int) + (m : Int)) = ((n + m : Nat) : Int) := by rw [IntKind.wrap_i64] <;> omega
  go_enter Try.func21, Try.ntmps21
  go_wp2_with fail
  go_quiet (fail)
  go_wp2
  go_returns
  exact ⟨rfl, nq, rfl⟩
def tabT (D : DS) : Value := if D.T2 = [] then .tuple #[.int .i64 (D.T1.length : Nat), .int .i64 0, .int .i64 (-1)] else .tuple #[.int .i64 (D.T1.length : Nat), .int .i64 (D.T2.length : Nat), .int .i64 (D.ix : Nat)]
set_option maxHeartbeats 1000000 in
set_option maxRecDepth 100000 in
theorem Tables_all (g : Nat) (F : List Nat) (D : DS) (w : World) (h : DI w g F D) :
    Calls Try.prog 20 #[.pointer (some ⟨g, 0, none⟩)] w fun e w' => e = .returned (tabT D) ∧ ∃ k, w' = w.drewN k := by
  have HMV : Hid _ := di_moves g F D w h
  obtain ⟨v1, v2, L1, L2, h1, h2, h3, hF, h4⟩ := id h
  obtain ⟨P1, k1, rfl⟩ := h2.form
  obtain ⟨P2, k2, rfl⟩ := h3.form
  obtain ⟨c0, c1, c2, c3, c4, c5, cf⟩ := row6 h1
  have HS1 : Hid (∀ n, Calls Try.prog 39 #[.pointer (some ⟨g, 1, none⟩)] (w.drewN n) fun e w' => e = .returned (.int .i64 (D.T1.length : Nat)) ∧ w' = w.drewN n) := fun n => size_any g 1 P1 D.T1.length k1 (w.drewN n) c1
  have HS3 : Hid (∀ n, Calls Try.prog 39 #[.pointer (some ⟨g, 3, none⟩)] (w.drewN n) fun e w' => e = .returned (.int .i64 (D.T2.length : Nat)) ∧ w' = w.drewN n) := fun n => size_any g 3 P2 D.T2.length k2 (w.drewN n) c3
  clear h h1 h2 h3 hF h4
  unfold tabT
  by_cases hm : D.T2 = []
  · have hmd : decide (D.T2 ≠ []) = false := by simp [hm]
    rw [hmd] at HMV
    rw [if_pos hm]
    clear hm hmd HS3
    go_enter Try.func20, Try.ntmps20
    go_wp2_with fail
    refine (show Calls _ _ _ _ _ from HMV.out).mono ?_
    rintro e w1 ⟨rfl, rfl⟩
    go_wp2_with fail
    refine (show Calls _ _ _ _ _ from HS1.out 0).mono ?_
    rintro e w2 ⟨rfl, rfl⟩
    go_wp2
    go_returns
    exact ⟨rfl, 0, rfl⟩
  · have hmd : decide (D.T2 ≠ []) = true := by simp [hm]
    rw [hmd] at HMV
    rw [if_neg hm]
    clear hm hmd
    go_enter Try.func20, Try.ntmps20
    go_wp2_with fail
    refine (show Calls _ _ _ _ _ from HMV.out).mono ?_
    rintro e w1 ⟨rfl, rfl⟩
    go_wp2_with fail
    go_quiet ((first
      | (go_at_call 39; exact Calls.quiet_of_same (HS1.out _))
      | (go_at_call 39; exact Calls.quiet_of_same (HS3.out _))))
    go_wp2
    go_returns
    exact ⟨rfl, nq, rfl⟩
theorem New_any (seed : Int) (w : World) : Calls Try.prog 4 #[.int .i64 seed] w fun e w' => e = .returned (.pointer (some ⟨w.heap.size, 0, none⟩)) ∧ DI w' w.heap.size [w.heap.size] ⟨seed, [], [], 0⟩ ∧ Below w.heap.size w w' := by
  go_enter Try.func4, Try.ntmps4
  go_wp2
  go_returns
  exact ⟨rfl, ⟨_, _, [], [], one_alloc w _, Or.inl ⟨⟨_, _, rfl⟩, rfl, rfl⟩, Or.inl ⟨⟨_, _, rfl⟩, rfl, rfl⟩, rfl, by simp⟩, (Below.refl _ w).alloc (Nat.le_refl _) _⟩
end Go.Proofs.Ytdemodhjlbkbeab
namespace Go.Proofs.Ytdemodhjlbkbeab
open Go.RowKit
set_option linter.unusedVariables false
/-- what a slice that grows leaves as it was. -/
structure Grew (w w' : World) (v v' : Value) : Prop where
  fr : w.grownBy w' v.ownBlock
  ob : v'.ownBlock = v.ownBlock ∨ ∃ g, v'.ownBlock = some g ∧ w.heap.size ≤ g
  ne : v ≠ .slice none 0 0 → v' ≠ .slice none 0 0
theorem Grew.trans {w w1 w2 : World} {v v1 v2 : Value} (h : Grew w w1 v v1) (h' : Grew w1 w2 v1 v2) : Grew w w2 v v2 := by
  refine ⟨⟨h'.fr.os.trans h.fr.os, h'.fr.tape.trans h.fr.tape, h'.fr.output.trans h.fr.output, Nat.le_trans h.fr.size h'.fr.size, fun k hk hne => ?_⟩, ?_, fun hn => h'.ne (h.ne hn)⟩
  · refine (h'.fr.block k (Nat.lt_of_lt_of_le hk h.fr.size) ?_).trans (h.fr.block k hk hne)
    rcases h.ob with e | ⟨g, e, hg⟩
    · rw [e]; exact hne
    · rw [e]; intro x; have := Option.some.inj x; omega
  · rcases h'.ob with e | ⟨g, e, hg⟩
    · rw [e]; exact h.ob
    · exact Or.inr ⟨g, e, Nat.le_trans h.fr.size hg⟩
theorem Grew.refl (w : World) (v : Value) : Grew w w v v := ⟨⟨rfl, rfl, rfl, Nat.le_refl _, fun _ _ _ => rfl⟩, Or.inl rfl, fun h => h⟩
theorem Grew.of_below {w w' : World} (v : Value) (h : Below w.heap.size w w') : Grew w w' v v := ⟨⟨h.os, h.tape, h.output, h.size, fun k hk _ => h.block k hk⟩, Or.inl rfl, fun h => h⟩
theorem Grew.keep {w w' : World} {v v' : Value} (h : Grew w w' v v') {q : Nat} {o : Obj} (hq : w.heap[q]? = some o) (hn : v.ownBlock ≠ some q) : w'.heap[q]? = some o := (h.fr.block q (row_lt hq) (fun e => hn e.symm)).trans hq
theorem Grew.ne_own {w w' : World} {v v' : Value} (h : Grew w w' v v') {q : Nat} (hq : q < w.heap.size) (hn : v.ownBlock ≠ some q) : v'.ownBlock ≠ some q := by
  rcases h.ob with e | ⟨g, e, hg⟩
  · rw [e]; exact hn
  · rw [e]; intro x; have := Option.some.inj x; omega
theorem Grew.below {w w' : World} {v v' : Value} {b : Nat} (h : Grew w w' v v') (hb : b ≤ w.heap.size) (hv : ∀ q, v.ownBlock = some q → b ≤ q) : Below b w w' := ⟨h.fr.os, h.fr.tape, h.fr.output, h.fr.size, fun q hq => h.fr.block q (by omega) (fun e => by have := hv q e.symm; omega)⟩
set_option maxHeartbeats 2000000 in
set_option maxRecDepth 100000 in
theorem meet_grew (g o B n i : Nat) (hi : i < n) (E c : Nat) (es : List Ent) (hlc : es.length ≤ c) (hl : es.length ≤ 4398046511103) (hks : ∀ x ∈ es, x.1.size ≤ 281474976710656) (bk m : Nat) (hm : m ≤ 4398046511103) (kv : Value) (xs : List Value) (w : World) (hbk : bk ≤ w.heap.size) (hEb : kv.ownBlock ≠ some E) (hEl : E < w.heap.size) (hkv : w.ownsRow bk 9 1 kv m xs) (hc : w.cell? ⟨g, o, none⟩ = some (.slice (some ⟨B, 0, none⟩) n n)) (hB : w.cell? ⟨B, i, none⟩ = some (.slice (some ⟨E, 0, none⟩) es.length c)) (hE : Ents w E es) :
    Calls Try.prog 57 #[.pointer (some ⟨g, o, none⟩), kv, .int .i64 (i : Int)] w fun e w' => ∃ r, e = .returned r ∧ w'.ownsRow bk 9 1 r (m + es.length) (xs ++ keyV es) ∧ Grew w w' kv r := by
  obtain ⟨i0, hi0, hz0, hz1, hz2⟩ := info_parts info9
  have HBK : Hid _ := bucket_any g o B n i hi (some ⟨E, 0, none⟩) es.length c hlc w hc hB
  have HCL : Hid (∀ (s : ByteArray), s.size ≤ 281474976710656 → ∀ W, Calls Try.prog 31 #[.string s] W fun e w' => e = .returned (.string s) ∧ Below W.heap.size W w') := fun s hs W => clone_any s hs W
  have HE : Hid (Ents w E es) := hE
  have HKV : Hid _ := hkv
  have HKS : Hid _ := hks
  obtain ⟨KP, KC, hkf⟩ := own_form hkv
  subst hkf
  clear hc hB hE hkv hks
  go_enter Try.func57, Try.ntmps57
  go_wp2_with fail
  refine (show Calls _ _ _ _ _ from HBK.out).mono ?_
  rintro e w1 ⟨rfl, rfl⟩
  go_wp2
  go_loopw [1, 13] (fun ck ci wr => Grew w1 wr (.slice KP m KC) ck ∧ ∃ j : Nat, j ≤ es.length ∧ ci = .int .i64 (j : Int) ∧ wr.ownsRow bk 9 1 ck (m + j) (xs ++ keyV (es.take j))) (fun _ ci _ => es.length - (intOf ci).toNat)
  case atStart => exact ⟨Grew.refl _ _, 0, by omega, rfl, by rw [Nat.add_zero, List.take_zero, show keyV [] = [] from rfl, List.append_nil]; exact HKV.out⟩
  case round =>
    obtain ⟨hb, j, hj, rfl, ho⟩ := hrel
    have HB : Hid (Grew w1 wr (.slice KP m KC) _) := hb
    have HO : Hid (wr.ownsRow bk 9 1 _ (m + j) (xs ++ keyV (es.take j))) := ho
    by_cases hlt : j < es.length
    · obtain ⟨e0', e1'⟩ := HE.out j hlt
      have e0 : wr.cell? ⟨E, j * 2, none⟩ = some (.string es[j].1) := (World.cell?_of_block (a := ⟨E, j * 2, none⟩) (hb.fr.block E hEl (fun e => hEb e.symm))).trans e0'
      have e1 : wr.cell? ⟨E, j * 2 + 1, none⟩ = some (.int .i64 es[j].2) := (World.cell?_of_block (a := ⟨E, j * 2 + 1, none⟩) (hb.fr.block E hEl (fun e => hEb e.symm))).trans e1'
      have HSN : Hid _ := keyV_snoc es j hlt
      have HSZ : Hid _ := HKS.out es[j] (List.getElem_mem hlt)
      have hz3 : (0 : Int) ≤ (j : Int) := by omega
      have hz4 : (j : Int) < (es.length : Int) := by omega
      generalize es[j].1 = X at *
      generalize es[j].2 = V at *
      have HCX : Hid _ := HCL.out X HSZ.out
      have HX : Hid _ := one_alloc wr (.cells #[.string X, .int .i64 V] 70)
      obtain ⟨W0, hW0⟩ : ∃ W0, W0 = wr.alloc (.cells #[.string X, .int .i64 V] 70) := ⟨_, rfl⟩
      have hbw : Below wr.heap.size wr W0 := by rw [hW0]; exact (Below.refl _ _).alloc (Nat.le_refl _) _
      have HB0 : Hid (Grew w1 W0 (.slice KP m KC) _) := hb.trans (Grew.of_below _ hbw)
      have HBS : Hid (bk ≤ W0.heap.size) := Nat.le_trans hbk HB0.out.fr.size
      have HO0 : Hid (W0.ownsRow bk 9 1 _ (m + j) (xs ++ keyV (es.take j))) := own_keep HO.out (fun k _ hk => hbw.block k hk)
      rw [← hW0] at HX
      clear hb ho e0' e1' hbw
      go_upto_region 4 with fail
      rw [← hW0]
      clear hW0 e0 e1
      obtain ⟨x0, x1, xf⟩ := row2 HX.out
      go_wp2_with fail
      refine (show Calls _ _ _ _ _ from HCX.out _).mono ?_
      rintro e w2 ⟨rfl, hb2⟩
      have HB2 : Hid (Grew w1 w2 (.slice KP m KC) _) := HB0.out.trans (Grew.of_below _ hb2)
      have HO2 : Hid (w2.ownsRow bk 9 1 _ (m + j) (xs ++ keyV (es.take j))) := own_keep HO0.out (fun k _ hk => hb2.block k hk)
      clear hb2 x0 x1 xf
      have hba : Below w2.heap.size w2 (w2.alloc (.cells #[.string X] 9)) := (Below.refl _ _).alloc (Nat.le_refl _) _
      have HO3 : Hid ((w2.alloc (.cells #[.string X] 9)).ownsRow bk 9 1 _ (m + j) (xs ++ keyV (es.take j))) := own_keep HO2.out (fun k _ hk => hba.block k hk)
      have HB3 : Hid (Grew w1 (w2.alloc (.cells #[.string X] 9)) (.slice KP m KC) _) := HB2.out.trans (Grew.of_below _ hba)
      have HC3 : Hid ((w2.alloc (.cells #[.string X] 9)).cell? ⟨w2.heap.size, 0, none⟩ = some (.string X)) := (row1 (one_alloc w2 _)).1
      have HS3 : Hid (bk ≤ (w2.alloc (.cells #[.string X] 9)).heap.size) := Nat.le_trans hbk HB3.out.fr.size
      clear hba
      go_wp2_with (at_builtin; go_must (refine wpList_append_own_at _ rfl _ _ 41 rfl bk 9 i0 (.string ⟨#[]⟩) 1 16 Try.underlying41 hi0 hz0 hz1 hz2 rfl (by decide) _ _ _ rfl HO3.out ⟨w2.heap.size, 0, none⟩ 1 1 [.string X] rfl rfl ?t0 ?t1 ?t2 ?t3 HS3.out ?_))
      case t0 =>
        intro q u hq
        match q, hq with
        | 0, hq => simp at hq; subst hq; exact HC3.out
      case t1 => intro u hu; simp at hu; subst hu; rfl
      case t2 => unfold maxLen; omega
      case t3 => omega
      intro v' w4 hown hgr hiff hat
      have HB4 : Hid (Grew w1 w4 (.slice KP m KC) v') := HB3.out.trans ⟨hgr, (by rcases hat with h | h; exact Or.inl h; exact Or.inr ⟨_, h, by simp⟩), fun _ => hiff⟩
      have HO4 : Hid (w4.ownsRow bk 9 1 v' (m + (j + 1)) (xs ++ keyV (es.take (j + 1)))) := by
        show World.ownsRow _ _ _ _ _ _ _
        rw [HSN.out, ← Nat.add_assoc]; exact hown
      clear hown hgr hiff hat
      go_wp2
      go_roundw
      case rel => exact ⟨HB4.out, j + 1, hlt, by simp, HO4.out⟩
      case measure => simp [intOf]; omega
    · have hje : j = es.length := by omega
      subst hje
      clear hb ho
      go_wp2
      go_returns
      refine ⟨_, rfl, ?_, HB.out⟩
      have := HO.out
      rw [List.take_length] at this
      exact this
theorem meet_none (g o B n i : Nat) (hi : i < n) (P : Option Addr) (m kc : Nat) (w : World) (hc : w.cell? ⟨g, o, none⟩ = some (.slice (some ⟨B, 0, none⟩) n n)) (hB : w.cell? ⟨B, i, none⟩ = some (.slice none 0 0)) : Calls Try.prog 57 #[.pointer (some ⟨g, o, none⟩), .slice P m kc, .int .i64 (i : Int)] w fun e w' => e = .returned (.slice P m kc) ∧ w' = w := by
  have HBK : Hid _ := bucket_any g o B n i hi none 0 0 (Nat.le_refl _) w hc hB
  clear hc hB
  go_enter Try.func57, Try.ntmps57
  go_wp2_with fail
  refine (show Calls _ _ _ _ _ from HBK.out).mono ?_
  rintro e w1 ⟨rfl, rfl⟩
  go_wp2
  go_rounds 1
  go_returns
  exact ⟨rfl, rfl⟩
/-- the keys of a bucket of a table. -/
theorem meet_tab (g o B n i : Nat) (bvs : Array Value) (T : List (List Ent)) (hn : n = T.length) (hi : i < T.length) (hl : T[i].length ≤ 4398046511103) (hks : ∀ x ∈ T[i], x.1.size ≤ 281474976710656) (bk m : Nat) (hm : m ≤ 4398046511103) (kv : Value) (xs : List Value) (w : World) (hbk : bk ≤ w.heap.size) (hkv : w.ownsRow bk 9 1 kv m xs) (hc : w.cell? ⟨g, o, none⟩ = some (.slice (some ⟨B, 0, none⟩) n n)) (hT : TabIs w 0 B bvs T) (hap : ∀ q ∈ bblocks bvs, kv.ownBlock ≠ some q) :
    Calls Try.prog 57 #[.pointer (some ⟨g, o, none⟩), kv, .int .i64 (i : Int)] w fun e w' => ∃ r, e = .returned r ∧ w'.ownsRow bk 9 1 r (m + T[i].length) (xs ++ keyV T[i]) ∧ Grew w w' kv r := by
  subst hn
  obtain ⟨bv, h1, h2⟩ := hT.each i hi
  have hB : w.cell? ⟨B, i, none⟩ = some bv := by rw [cell_of_row _ _ _ _ _ _ hT.row]; exact h1
  rcases h2 with ⟨rfl, e⟩ | ⟨E, c, rfl, _, hx⟩
  · obtain ⟨P, c, rfl⟩ := own_form hkv
    refine (meet_none g o B T.length i hi P m c w hc hB).mono ?_
    rintro e' w' ⟨rfl, rfl⟩
    refine ⟨_, rfl, ?_, Grew.refl _ _⟩
    rw [e]
    simpa [keyV] using hkv
  · exact meet_grew g o B T.length i hi E c T[i] hx.le hl hks bk m hm kv xs w hbk (hap E (bblocks_mem h1 rfl)) hx.lt hkv hc hB hx.ents
end Go.Proofs.Ytdemodhjlbkbeab
