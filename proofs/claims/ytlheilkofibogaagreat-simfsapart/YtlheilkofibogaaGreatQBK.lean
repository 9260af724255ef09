import Derived.Test.YtlheilkofibogaaGreatQBJ
import Derived.Test.YtlheilkofibogaaGreatQAJ
namespace Go.Proofs.YtlheilkofibogaaGreat
open Go.RowKit Go.Maps
set_option linter.unusedVariables false
set_option linter.unusedSimpArgs false
set_option maxHeartbeats 1000000 in
/-- List, whether it is up or not. -/
theorem List_all {w0 W : World} {g : Nat} {X : Gh} {F : Fs} {i : Nat} (h : St w0 W g X F i) : Calls Tryz.prog 14 #[ptr (some g)] W fun e w' => ∃ P c, e = .returned (.tuple #[.slice P (listM F).1.length c, .int .i64 (listM F).2]) ∧ w'.ownsRow W.heap.size 9 1 (.slice P (listM F).1.length c) (listM F).1.length (psE.fl (listM F).1) ∧ Below W.heap.size W w' := by
  cases hd : F.down with
  | false =>
    have hl : listM F = (F.dir.map (·.1), 0) := by unfold listM; rw [hd]; rfl
    rw [hl]
    refine (List_any h hd).mono ?_
    rintro e w' ⟨P, c, rfl, ho, hb⟩
    exact ⟨P, c, by rw [List.length_map], by rw [List.length_map]; exact ho, hb⟩
  | true =>
    have hl : listM F = ([], 203) := by unfold listM; rw [hd]; rfl
    rw [hl]
    obtain ⟨c0, _⟩ := h.fs.cells
    rw [hd] at c0
    clear h hd hl
    show Calls Tryz.prog 14 #[.pointer (some ⟨g, 0, none⟩)] W _
    go_enter Tryz.func14, Tryz.ntmps14
    go_wp2
    go_returns
    exact ⟨none, 0, rfl, ⟨rfl, Or.inl ⟨rfl, rfl⟩⟩, Below.refl _ _⟩
end Go.Proofs.YtlheilkofibogaaGreat
namespace Go.Proofs.YtlheilkofibogaaGreat
open Go.RowKit Go.Maps
set_option linter.unusedVariables false
set_option linter.unusedSimpArgs false
theorem Made.wrap {s s' : Fs} {V V' : FV} {w W1 w2 w3 : World} {r2 : Nat} (h : FsAt s V w) (hW : Below w.heap.size w W1) (hM : Made s V W1 s' V' w2) (hr : w.heap.size ≤ r2) (hr2 : r2 < W1.heap.size) (hm : Mod r2 w2 w3) : Made s V w s' V' w3 := by
  have h1 := hM.av (fun k => k = r2) (fun k e => by omega) (h.av.weak (fun k e => by subst e; exact hr))
  exact ⟨hM.at_.mod hm h1, (hW.trans (hM.bel.mono hW.size)).trans (hm.below hr (by have := hM.bel.size; have := hW.size; omega)), fun S hS hA => hM.av S (fun k e => by have := hS k e; have := hW.size; omega) hA⟩
/-- What meant comes to. -/
def MeanP (s : Fs) (V : FV) (w : World) (M : Fs × Int) (e : Ending) (w' : World) : Prop := ∃ V', e = .returned (.tuple #[.agg (fsC M.1 V'), .int .i64 M.2]) ∧ Made s V w M.1 V' w'
set_option maxHeartbeats 8000000 in
set_option maxRecDepth 100000 in
theorem meant_any (s : Fs) (V : FV) (o : Po) (ok : PoOk o) (pv : Value) (hb : Bd s) (hx : ∀ n, findM s.dir n < (s.files.length : Int)) (hfl : s.fails.length ≤ 8796093022000) (w : World) (h : FsAt s V w) (hk : KR inE w pv o.p) :
    Calls Tryz.prog 11 #[.agg (fsC s V), opV o pv] w fun e w' => MeanP s V w (doneM s o) e w' := by
  obtain ⟨Q, c, rfl⟩ := hk.form
  obtain ⟨k, n, t, d, m, a, p⟩ := o
  obtain ⟨on, ot, od, op⟩ := ok
  simp only at on ot od op hk
  obtain ⟨Z, hZ⟩ : ∃ Z, Z = zF := ⟨_, rfl⟩
  have HZZ : Hid (Z = zF) := hZ
  have HZS : Hid (Z.size = 9) := by show _ = _; rw [hZ]; rfl
  clear hZ
  obtain ⟨A1, hA1⟩ : ∃ A1, w.alloc (.cells (fsC s V) 31) = A1 := ⟨_, rfl⟩
  obtain ⟨A2, hA2⟩ : ∃ A2, A1.alloc (.cells #[.int .i64 k, .string n, .string t, .string d, .int .i64 m, .int .i64 a, .slice Q p.length c] 36) = A2 := ⟨_, rfl⟩
  obtain ⟨W1, hW1⟩ : ∃ W1, A2.alloc (.cells Z 31) = W1 := ⟨_, rfl⟩
  have b1 : Below w.heap.size w A1 := by rw [← hA1]; exact (Below.refl _ _).alloc (Nat.le_refl _) _
  have b2 : Below A1.heap.size A1 A2 := by rw [← hA2]; exact (Below.refl _ _).alloc (Nat.le_refl _) _
  have b3 : Below A2.heap.size A2 W1 := by rw [← hW1]; exact (Below.refl _ _).alloc (Nat.le_refl _) _
  obtain ⟨r0, hr0⟩ : ∃ r0, w.heap.size = r0 := ⟨_, rfl⟩
  obtain ⟨r1, hr1⟩ : ∃ r1, A1.heap.size = r1 := ⟨_, rfl⟩
  obtain ⟨r2, hr2⟩ : ∃ r2, A2.heap.size = r2 := ⟨_, rfl⟩
  have q0 : W1.heap[r0]? = some (.cells (fsC s V) 31) := keep_row (keep_row (by rw [← hA1, ← hr0]; exact one_alloc _ _) b2) b3
  have q1 : W1.heap[r1]? = some (.cells #[.int .i64 k, .string n, .string t, .string d, .int .i64 m, .int .i64 a, .slice Q p.length c] 36) := keep_row (by rw [← hA2, ← hr1]; exact one_alloc _ _) b3
  have q2 : W1.heap[r2]? = some (.cells Z 31) := by rw [← hW1, ← hr2]; exact one_alloc _ _
  have hbw : Below w.heap.size w W1 := (b1.trans (b2.mono b1.size)).trans (b3.mono (Nat.le_trans b1.size b2.size))
  have HBW : Hid (Below w.heap.size w W1) := hbw
  have HR2 : Hid (w.heap.size ≤ r2 ∧ r2 < W1.heap.size) := ⟨by have := b1.size; have := b2.size; omega, row_lt q2⟩
  have HQ0 : Hid (W1.heap[r0]? = some (.cells (fsC s V) 31)) := q0
  have HQ2 : Hid (W1.heap[r2]? = some (.cells Z 31)) := q2
  have HAT : Hid (FsAt s V w) := h
  have HA1 : Hid (FsAt s V W1) := h.on hbw
  have HK1 : Hid (KR inE W1 (.slice Q p.length c) p) := hk.on hbw
  have HB : Hid (Bd s) := hb
  have HX : Hid (∀ n, findM s.dir n < (s.files.length : Int)) := hx
  have HFL : Hid (s.fails.length ≤ 8796093022000) := hfl
  obtain ⟨c0, c1, c2, c3, c4, c5, c6⟩ := row7 q1
  have HC1 : Hid ((fsC s V).all (·.oneCell') = true) := fsC_one h
  obtain ⟨C, hC⟩ : ∃ C, fsC s V = C := ⟨_, rfl⟩
  have HC : Hid (fsC s V = C) := hC
  rw [hC] at hA1 HQ0
  clear h hk hb hx hfl b1 b2 b3 q0 q1 q2 hbw hC
  unfold opV doneM
  simp only
  rw [HC.out]
  by_cases e0 : k = 0
  · subst e0
    rw [if_pos rfl]
    have HQ : Hid (Calls Tryz.prog 37 #[.agg C, .string n] W1 fun e w' => ∃ V', e = .returned (.tuple #[.agg (fsC (createM s n).1 V'), .int .i64 (createM s n).2]) ∧ Made s V W1 (createM s n).1 V' w') := by
      have := create_any s V n HB.out on W1 HA1.out
      rw [HC.out] at this
      exact this
    generalize createM s n = M at *
    go_enter Tryz.func11, Tryz.ntmps11
    go_upto_region 1 with (refine alF rfl rfl Z HZZ.out ?_)
    try rw [hA1]
    try rw [hr1]
    try rw [hA2]
    try rw [hW1]
    clear hA1 hA2 hW1
    go_wp2_with (refine ldF C r0 _ rfl rfl rfl HQ0.out (by rw [← HC.out]; rfl) ?_)
    refine (show Calls _ _ _ _ _ from HQ.out).mono ?_
    rintro e w2 ⟨V', rfl, hM⟩
    have hres : w2.heap[r2]? = some (.cells Z 31) := keep_row HQ2.out hM.bel
    have HRS : Hid _ := hres
    have HM : Hid (Made s V W1 M.1 V' w2) := hM
    clear hres hM HQ
    go_wp2_with (refine stF rfl _ _ rfl r2 (fsC M.1 V') Z rfl rfl rfl (fsC_one HM.out.at_) HZS.out HRS.out ?_; intro W7 hr7 hm7)
    have hlv := run_loadVar_mid (P := Tryz.prog) W7 r2 0 31 (fsC M.1 V').toList _ (fun j v hv => by rw [cell_of_row _ _ _ _ _ _ hr7]; simpa using hv) Tryz.underlying31 rfl (by rw [Array.length_toList, fsC_size]; exact i31)
    rw [Array.toArray_toList] at hlv
    refine bodyPost_ret (v := .tuple #[.agg (fsC M.1 V'), .int .i64 M.2]) (by simp [results, Tryz.results11, asAddr, Act.put, hlv, Result.andThen]) rfl ?_
    exact ⟨V', rfl, Made.wrap HAT.out HBW.out HM.out HR2.out.1 HR2.out.2 hm7⟩
  rw [if_neg e0]
  by_cases e1 : k = 1
  · subst e1
    rw [if_pos rfl]
    have HQ : Hid (Calls Tryz.prog 38 #[.agg C, .string n, .string d] W1 fun e w' => ∃ V', e = .returned (.tuple #[.agg (fsC (appendM s n d).1 V'), .int .i64 (appendM s n d).2]) ∧ Made s V W1 (appendM s n d).1 V' w') := by
      have := append_any s V n d HB.out on od (HX.out n) W1 HA1.out
      rw [HC.out] at this
      exact this
    generalize appendM s n d = M at *
    clear e0
    go_enter Tryz.func11, Tryz.ntmps11
    go_upto_region 1 with (refine alF rfl rfl Z HZZ.out ?_)
    try rw [hA1]
    try rw [hr1]
    try rw [hA2]
    try rw [hW1]
    clear hA1 hA2 hW1
    go_wp2_with (refine ldF C r0 _ rfl rfl rfl HQ0.out (by rw [← HC.out]; rfl) ?_)
    refine (show Calls _ _ _ _ _ from HQ.out).mono ?_
    rintro e w2 ⟨V', rfl, hM⟩
    have hres : w2.heap[r2]? = some (.cells Z 31) := keep_row HQ2.out hM.bel
    have HRS : Hid _ := hres
    have HM : Hid (Made s V W1 M.1 V' w2) := hM
    clear hres hM HQ
    go_wp2_with (refine stF rfl _ _ rfl r2 (fsC M.1 V') Z rfl rfl rfl (fsC_one HM.out.at_) HZS.out HRS.out ?_; intro W7 hr7 hm7)
    have hlv := run_loadVar_mid (P := Tryz.prog) W7 r2 0 31 (fsC M.1 V').toList _ (fun j v hv => by rw [cell_of_row _ _ _ _ _ _ hr7]; simpa using hv) Tryz.underlying31 rfl (by rw [Array.length_toList, fsC_size]; exact i31)
    rw [Array.toArray_toList] at hlv
    refine bodyPost_ret (v := .tuple #[.agg (fsC M.1 V'), .int .i64 M.2]) (by simp [results, Tryz.results11, asAddr, Act.put, hlv, Result.andThen]) rfl ?_
    exact ⟨V', rfl, Made.wrap HAT.out HBW.out HM.out HR2.out.1 HR2.out.2 hm7⟩
  rw [if_neg e1]
  by_cases e2 : k = 2
  · subst e2
    rw [if_pos rfl]
    have HQ : Hid (Calls Tryz.prog 39 #[.agg C, .string n] W1 fun e w' => ∃ V', e = .returned (.tuple #[.agg (fsC (syncM s n).1 V'), .int .i64 (syncM s n).2]) ∧ Made s V W1 (syncM s n).1 V' w') := by
      have := r_sync_any s V n HB.out on (HX.out n) W1 HA1.out
      rw [HC.out] at this
      exact this
    generalize syncM s n = M at *
    clear e0
    clear e1
    go_enter Tryz.func11, Tryz.ntmps11
    go_upto_region 1 with (refine alF rfl rfl Z HZZ.out ?_)
    try rw [hA1]
    try rw [hr1]
    try rw [hA2]
    try rw [hW1]
    clear hA1 hA2 hW1
    go_wp2_with (refine ldF C r0 _ rfl rfl rfl HQ0.out (by rw [← HC.out]; rfl) ?_)
    refine (show Calls _ _ _ _ _ from HQ.out).mono ?_
    rintro e w2 ⟨V', rfl, hM⟩
    have hres : w2.heap[r2]? = some (.cells Z 31) := keep_row HQ2.out hM.bel
    have HRS : Hid _ := hres
    have HM : Hid (Made s V W1 M.1 V' w2) := hM
    clear hres hM HQ
    go_wp2_with (refine stF rfl _ _ rfl r2 (fsC M.1 V') Z rfl rfl rfl (fsC_one HM.out.at_) HZS.out HRS.out ?_; intro W7 hr7 hm7)
    have hlv := run_loadVar_mid (P := Tryz.prog) W7 r2 0 31 (fsC M.1 V').toList _ (fun j v hv => by rw [cell_of_row _ _ _ _ _ _ hr7]; simpa using hv) Tryz.underlying31 rfl (by rw [Array.length_toList, fsC_size]; exact i31)
    rw [Array.toArray_toList] at hlv
    refine bodyPost_ret (v := .tuple #[.agg (fsC M.1 V'), .int .i64 M.2]) (by simp [results, Tryz.results11, asAddr, Act.put, hlv, Result.andThen]) rfl ?_
    exact ⟨V', rfl, Made.wrap HAT.out HBW.out HM.out HR2.out.1 HR2.out.2 hm7⟩
  rw [if_neg e2]
  by_cases e3 : k = 3
  · subst e3
    rw [if_pos rfl]
    have HQ : Hid (Calls Tryz.prog 40 #[.agg C, .string n, .string t] W1 fun e w' => ∃ V', e = .returned (.tuple #[.agg (fsC (renameM s n t).1 V'), .int .i64 (renameM s n t).2]) ∧ Made s V W1 (renameM s n t).1 V' w') := by
      have := rename_any s V n t HB.out on ot W1 HA1.out
      rw [HC.out] at this
      exact this
    generalize renameM s n t = M at *
    clear e0
    clear e1
    clear e2
    go_enter Tryz.func11, Tryz.ntmps11
    go_upto_region 1 with (refine alF rfl rfl Z HZZ.out ?_)
    try rw [hA1]
    try rw [hr1]
    try rw [hA2]
    try rw [hW1]
    clear hA1 hA2 hW1
    go_wp2_with (refine ldF C r0 _ rfl rfl rfl HQ0.out (by rw [← HC.out]; rfl) ?_)
    refine (show Calls _ _ _ _ _ from HQ.out).mono ?_
    rintro e w2 ⟨V', rfl, hM⟩
    have hres : w2.heap[r2]? = some (.cells Z 31) := keep_row HQ2.out hM.bel
    have HRS : Hid _ := hres
    have HM : Hid (Made s V W1 M.1 V' w2) := hM
    clear hres hM HQ
    go_wp2_with (refine stF rfl _ _ rfl r2 (fsC M.1 V') Z rfl rfl rfl (fsC_one HM.out.at_) HZS.out HRS.out ?_; intro W7 hr7 hm7)
    have hlv := run_loadVar_mid (P := Tryz.prog) W7 r2 0 31 (fsC M.1 V').toList _ (fun j v hv => by rw [cell_of_row _ _ _ _ _ _ hr7]; simpa using hv) Tryz.underlying31 rfl (by rw [Array.length_toList, fsC_size]; exact i31)
    rw [Array.toArray_toList] at hlv
    refine bodyPost_ret (v := .tuple #[.agg (fsC M.1 V'), .int .i64 M.2]) (by simp [results, Tryz.results11, asAddr, Act.put, hlv, Result.andThen]) rfl ?_
    exact ⟨V', rfl, Made.wrap HAT.out HBW.out HM.out HR2.out.1 HR2.out.2 hm7⟩
  rw [if_neg e3]
  by_cases e4 : k = 4
  · subst e4
    rw [if_pos rfl]
    have HQ : Hid (Calls Tryz.prog 41 #[.agg C] W1 fun e w' => ∃ V', e = .returned (.tuple #[.agg (fsC (syncDirM s).1 V'), .int .i64 (syncDirM s).2]) ∧ Made s V W1 (syncDirM s).1 V' w') := by
      have := syncDir_any s V HB.out W1 HA1.out
      rw [HC.out] at this
      exact this
    generalize syncDirM s = M at *
    clear e0
    clear e1
    clear e2
    clear e3
    go_enter Tryz.func11, Tryz.ntmps11
    go_upto_region 1 with (refine alF rfl rfl Z HZZ.out ?_)
    try rw [hA1]
    try rw [hr1]
    try rw [hA2]
    try rw [hW1]
    clear hA1 hA2 hW1
    go_wp2_with (refine ldF C r0 _ rfl rfl rfl HQ0.out (by rw [← HC.out]; rfl) ?_)
    refine (show Calls _ _ _ _ _ from HQ.out).mono ?_
    rintro e w2 ⟨V', rfl, hM⟩
    have hres : w2.heap[r2]? = some (.cells Z 31) := keep_row HQ2.out hM.bel
    have HRS : Hid _ := hres
    have HM : Hid (Made s V W1 M.1 V' w2) := hM
    clear hres hM HQ
    go_wp2_with (refine stF rfl _ _ rfl r2 (fsC M.1 V') Z rfl rfl rfl (fsC_one HM.out.at_) HZS.out HRS.out ?_; intro W7 hr7 hm7)
    have hlv := run_loadVar_mid (P := Tryz.prog) W7 r2 0 31 (fsC M.1 V').toList _ (fun j v hv => by rw [cell_of_row _ _ _ _ _ _ hr7]; simpa using hv) Tryz.underlying31 rfl (by rw [Array.length_toList, fsC_size]; exact i31)
    rw [Array.toArray_toList] at hlv
    refine bodyPost_ret (v := .tuple #[.agg (fsC M.1 V'), .int .i64 M.2]) (by simp [results, Tryz.results11, asAddr, Act.put, hlv, Result.andThen]) rfl ?_
    exact ⟨V', rfl, Made.wrap HAT.out HBW.out HM.out HR2.out.1 HR2.out.2 hm7⟩
  rw [if_neg e4]
  by_cases e5 : k = 5
  · subst e5
    rw [if_pos rfl]
    have HQ : Hid (Calls Tryz.prog 42 #[.agg C, .string n] W1 fun e w' => ∃ V', e = .returned (.tuple #[.agg (fsC (removeM s n).1 V'), .int .i64 (removeM s n).2]) ∧ Made s V W1 (removeM s n).1 V' w') := by
      have := remove_any s V n HB.out on W1 HA1.out
      rw [HC.out] at this
      exact this
    generalize removeM s n = M at *
    clear e0
    clear e1
    clear e2
    clear e3
    clear e4
    go_enter Tryz.func11, Tryz.ntmps11
    go_upto_region 1 with (refine alF rfl rfl Z HZZ.out ?_)
    try rw [hA1]
    try rw [hr1]
    try rw [hA2]
    try rw [hW1]
    clear hA1 hA2 hW1
    go_wp2_with (refine ldF C r0 _ rfl rfl rfl HQ0.out (by rw [← HC.out]; rfl) ?_)
    refine (show Calls _ _ _ _ _ from HQ.out).mono ?_
    rintro e w2 ⟨V', rfl, hM⟩
    have hres : w2.heap[r2]? = some (.cells Z 31) := keep_row HQ2.out hM.bel
    have HRS : Hid _ := hres
    have HM : Hid (Made s V W1 M.1 V' w2) := hM
    clear hres hM HQ
    go_wp2_with (refine stF rfl _ _ rfl r2 (fsC M.1 V') Z rfl rfl rfl (fsC_one HM.out.at_) HZS.out HRS.out ?_; intro W7 hr7 hm7)
    have hlv := run_loadVar_mid (P := Tryz.prog) W7 r2 0 31 (fsC M.1 V').toList _ (fun j v hv => by rw [cell_of_row _ _ _ _ _ _ hr7]; simpa using hv) Tryz.underlying31 rfl (by rw [Array.length_toList, fsC_size]; exact i31)
    rw [Array.toArray_toList] at hlv
    refine bodyPost_ret (v := .tuple #[.agg (fsC M.1 V'), .int .i64 M.2]) (by simp [results, Tryz.results11, asAddr, Act.put, hlv, Result.andThen]) rfl ?_
    exact ⟨V', rfl, Made.wrap HAT.out HBW.out HM.out HR2.out.1 HR2.out.2 hm7⟩
  rw [if_neg e5]
  by_cases e6 : k = 6
  · subst e6
    rw [if_pos rfl]
    have HQ : Hid (Calls Tryz.prog 43 #[.agg C, .int .i64 m, .int .i64 a] W1 fun e w' => ∃ V', e = .returned (.tuple #[.agg (fsC (failsM s m a).1 V'), .int .i64 (failsM s m a).2]) ∧ Made s V W1 (failsM s m a).1 V' w') := by
      have := fail_any s V m a HB.out HFL.out W1 HA1.out
      rw [HC.out] at this
      exact this
    generalize failsM s m a = M at *
    clear e0
    clear e1
    clear e2
    clear e3
    clear e4
    clear e5
    go_enter Tryz.func11, Tryz.ntmps11
    go_upto_region 1 with (refine alF rfl rfl Z HZZ.out ?_)
    try rw [hA1]
    try rw [hr1]
    try rw [hA2]
    try rw [hW1]
    clear hA1 hA2 hW1
    go_wp2_with (refine ldF C r0 _ rfl rfl rfl HQ0.out (by rw [← HC.out]; rfl) ?_)
    refine (show Calls _ _ _ _ _ from HQ.out).mono ?_
    rintro e w2 ⟨V', rfl, hM⟩
    have hres : w2.heap[r2]? = some (.cells Z 31) := keep_row HQ2.out hM.bel
    have HRS : Hid _ := hres
    have HM : Hid (Made s V W1 M.1 V' w2) := hM
    clear hres hM HQ
    go_wp2_with (refine stF rfl _ _ rfl r2 (fsC M.1 V') Z rfl rfl rfl (fsC_one HM.out.at_) HZS.out HRS.out ?_; intro W7 hr7 hm7)
    have hlv := run_loadVar_mid (P := Tryz.prog) W7 r2 0 31 (fsC M.1 V').toList _ (fun j v hv => by rw [cell_of_row _ _ _ _ _ _ hr7]; simpa using hv) Tryz.underlying31 rfl (by rw [Array.length_toList, fsC_size]; exact i31)
    rw [Array.toArray_toList] at hlv
    refine bodyPost_ret (v := .tuple #[.agg (fsC M.1 V'), .int .i64 M.2]) (by simp [results, Tryz.results11, asAddr, Act.put, hlv, Result.andThen]) rfl ?_
    exact ⟨V', rfl, Made.wrap HAT.out HBW.out HM.out HR2.out.1 HR2.out.2 hm7⟩
  rw [if_neg e6]
  by_cases e7 : k = 7
  · subst e7
    rw [if_pos rfl]
    have HQ : Hid (Calls Tryz.prog 44 #[.agg C, .int .i64 m, .slice Q p.length c] W1 fun e w' => ∃ V', e = .returned (.tuple #[.agg (fsC (crashM s m p).1 V'), .int .i64 (crashM s m p).2]) ∧ Made s V W1 (crashM s m p).1 V' w') := by
      have := crash_any s V m (.slice Q p.length c) p HB.out op W1 HA1.out HK1.out
      rw [HC.out] at this
      exact this
    generalize crashM s m p = M at *
    clear e0
    clear e1
    clear e2
    clear e3
    clear e4
    clear e5
    clear e6
    go_enter Tryz.func11, Tryz.ntmps11
    go_upto_region 1 with (refine alF rfl rfl Z HZZ.out ?_)
    try rw [hA1]
    try rw [hr1]
    try rw [hA2]
    try rw [hW1]
    clear hA1 hA2 hW1
    go_wp2_with (refine ldF C r0 _ rfl rfl rfl HQ0.out (by rw [← HC.out]; rfl) ?_)
    refine (show Calls _ _ _ _ _ from HQ.out).mono ?_
    rintro e w2 ⟨V', rfl, hM⟩
    have hres : w2.heap[r2]? = some (.cells Z 31) := keep_row HQ2.out hM.bel
    have HRS : Hid _ := hres
    have HM : Hid (Made s V W1 M.1 V' w2) := hM
    clear hres hM HQ
    go_wp2_with (refine stF rfl _ _ rfl r2 (fsC M.1 V') Z rfl rfl rfl (fsC_one HM.out.at_) HZS.out HRS.out ?_; intro W7 hr7 hm7)
    have hlv := run_loadVar_mid (P := Tryz.prog) W7 r2 0 31 (fsC M.1 V').toList _ (fun j v hv => by rw [cell_of_row _ _ _ _ _ _ hr7]; simpa using hv) Tryz.underlying31 rfl (by rw [Array.length_toList, fsC_size]; exact i31)
    rw [Array.toArray_toList] at hlv
    refine bodyPost_ret (v := .tuple #[.agg (fsC M.1 V'), .int .i64 M.2]) (by simp [results, Tryz.results11, asAddr, Act.put, hlv, Result.andThen]) rfl ?_
    exact ⟨V', rfl, Made.wrap HAT.out HBW.out HM.out HR2.out.1 HR2.out.2 hm7⟩
  rw [if_neg e7]
  by_cases e8 : k = 8
  · subst e8
    rw [if_pos rfl]
    have HQ : Hid (Calls Tryz.prog 45 #[.agg C] W1 fun e w' => ∃ V', e = .returned (.tuple #[.agg (fsC (startM s).1 V'), .int .i64 (startM s).2]) ∧ Made s V W1 (startM s).1 V' w') := by
      have := start_any s V W1 HA1.out
      rw [HC.out] at this
      exact this
    generalize startM s = M at *
    clear e0
    clear e1
    clear e2
    clear e3
    clear e4
    clear e5
    clear e6
    clear e7
    go_enter Tryz.func11, Tryz.ntmps11
    go_upto_region 1 with (refine alF rfl rfl Z HZZ.out ?_)
    try rw [hA1]
    try rw [hr1]
    try rw [hA2]
    try rw [hW1]
    clear hA1 hA2 hW1
    go_wp2_with (refine ldF C r0 _ rfl rfl rfl HQ0.out (by rw [← HC.out]; rfl) ?_)
    refine (show Calls _ _ _ _ _ from HQ.out).mono ?_
    rintro e w2 ⟨V', rfl, hM⟩
    have hres : w2.heap[r2]? = some (.cells Z 31) := keep_row HQ2.out hM.bel
    have HRS : Hid _ := hres
    have HM : Hid (Made s V W1 M.1 V' w2) := hM
    clear hres hM HQ
    go_wp2_with (refine stF rfl _ _ rfl r2 (fsC M.1 V') Z rfl rfl rfl (fsC_one HM.out.at_) HZS.out HRS.out ?_; intro W7 hr7 hm7)
    have hlv := run_loadVar_mid (P := Tryz.prog) W7 r2 0 31 (fsC M.1 V').toList _ (fun j v hv => by rw [cell_of_row _ _ _ _ _ _ hr7]; simpa using hv) Tryz.underlying31 rfl (by rw [Array.length_toList, fsC_size]; exact i31)
    rw [Array.toArray_toList] at hlv
    refine bodyPost_ret (v := .tuple #[.agg (fsC M.1 V'), .int .i64 M.2]) (by simp [results, Tryz.results11, asAddr, Act.put, hlv, Result.andThen]) rfl ?_
    exact ⟨V', rfl, Made.wrap HAT.out HBW.out HM.out HR2.out.1 HR2.out.2 hm7⟩
  rw [if_neg e8]
  go_enter Tryz.func11, Tryz.ntmps11
  go_upto_region 1 with (refine alF rfl rfl Z HZZ.out ?_)
  clear hA1 hA2 hW1
  go_wp2_with (first
    | (refine ldF C r0 _ rfl rfl rfl HQ0.out (by rw [← HC.out]; rfl) ?_)
    | (refine stF rfl _ _ rfl r2 C Z rfl rfl (by rw [← HC.out]; rfl) (by rw [← HC.out]; exact HC1.out) HZS.out HQ2.out ?_; intro W7 hr7 hm7))
  have hlv := run_loadVar_mid (P := Tryz.prog) W7 r2 0 31 C.toList _ (fun j v hv => by rw [cell_of_row _ _ _ _ _ _ hr7]; simpa using hv) Tryz.underlying31 rfl (by rw [Array.length_toList, ← HC.out, fsC_size]; exact i31)
  rw [Array.toArray_toList] at hlv
  refine bodyPost_ret (v := .tuple #[.agg C, .int .i64 0]) (by simp [results, Tryz.results11, asAddr, Act.put, hlv, Result.andThen]) rfl ?_
  exact ⟨V, by rw [HC.out], Made.wrap HAT.out HBW.out (Made.refl HA1.out (Below.refl _ _)) HR2.out.1 HR2.out.2 hm7⟩
end Go.Proofs.YtlheilkofibogaaGreat
namespace Go.Proofs.YtlheilkofibogaaGreat
open Go.RowKit Go.Maps
set_option linter.unusedVariables false
set_option linter.unusedSimpArgs false
/-- The document's state as law.as holds it: a variable of its own. -/
structure Ac (w0 W : World) (g : Nat) (X : Gh) (F : Fs) (i : Nat) (V : FV) (r : Nat) (C : Array Value) : Prop where
  dv : Dv w0 W g X F i F V
  ro : W.heap[r]? = some (.cells C 31)
theorem Ac.on {w0 W W' : World} {g i r : Nat} {X : Gh} {F : Fs} {V : FV} {C : Array Value} (h : Ac w0 W g X F i V r C) (hb : Below W.heap.size W W') : Ac w0 W' g X F i V r C := ⟨h.dv.on hb, keep_row h.ro hb⟩
theorem rnow_ac {w0 W : World} {g i r nd : Nat} {X : Gh} {F : Fs} {V : FV} {C : Array Value} (h : Ac w0 W g X F i V r C) (hb : Bd F) (hin : ∀ x ∈ F.dir, 0 ≤ x.2 ∧ x.2 < (F.files.length : Int)) (hn : F.dir.length = nd) : Calls Tryz.prog 27 #[.agg (fsC F V)] W fun e w' => ∃ P c, e = .returned (.slice P nd c) ∧ KR pprE w' (.slice P nd c) (nowM F) ∧ Below W.heap.size W w' := by
  refine Calls.mono (now_any F V hb hin W h.dv.dc) ?_
  rintro e w' ⟨v, rfl, hk, _, hbb⟩
  obtain ⟨P, c, rfl⟩ := hk.form
  rw [now_len, hn] at hk ⊢
  exact ⟨P, c, rfl, hk, hbb⟩
theorem rsafe_ac {w0 W : World} {g i r ns : Nat} {X : Gh} {F : Fs} {V : FV} {C : Array Value} (h : Ac w0 W g X F i V r C) (hb : Bd F) (hin : ∀ x ∈ F.sure, 0 ≤ x.2 ∧ x.2 < (F.files.length : Int)) (hn : F.sure.length = ns) : Calls Tryz.prog 28 #[.agg (fsC F V)] W fun e w' => ∃ P c, e = .returned (.slice P ns c) ∧ KR pprE w' (.slice P ns c) (safeM F) ∧ Below W.heap.size W w' := by
  refine Calls.mono (safe_any F V hb (by have := h.dv.st.few.2; omega) hin W h.dv.dc) ?_
  rintro e w' ⟨v, rfl, hk, _, hbb⟩
  obtain ⟨P, c, rfl⟩ := hk.form
  rw [safe_len, hn] at hk ⊢
  exact ⟨P, c, rfl, hk, hbb⟩
theorem same_kr {W : World} {va vb : Value} {l : List (ByteArray × ByteArray)} (hl : l.length ≤ 4611686018427387000) (ha : KR pprE W va l) (hb : KR pprE W vb l) : Calls Tryz.prog 26 #[va, vb] W fun e w' => e = .returned (.bool true) ∧ Below W.heap.size W w' := by
  have := samePairs_any va vb l l hl W ha hb
  simpa using this
theorem texts_ac {W W' : World} {va vb : Value} {F : Fs} (hf : F.dir.length ≤ 64 ∧ F.sure.length ≤ 64) (ha : KR stE W va (listM F).1) (hb : KR stE W vb (listM F).1) (h : Below W.heap.size W W') : Calls Tryz.prog 29 #[va, vb] W' fun e w' => e = .returned (.bool true) ∧ Below W'.heap.size W' w' := by
  have hl : (listM F).1.length ≤ 4611686018427387000 := by
    unfold listM
    split
    · simp
    · show (F.dir.map (·.1)).length ≤ _
      rw [List.length_map]; omega
  have := sameTexts_any va vb _ _ hl W' (ha.on h) (hb.on h)
  simpa using this
set_option maxHeartbeats 8000000 in
set_option maxRecDepth 100000 in
theorem as_any (g : Nat) (X : Gh) (F : Fs) (i : Nat) (V : FV) (n : ByteArray) (w0 w : World) (h : Dv w0 w g X F i F V) (iv : Iv F i) (hi : i ≤ 3298534883000) (hn : n.size ≤ 140737488355328) :
    Calls Tryz.prog 8 #[ptr (some g), .agg (fsC F V), .string n] w fun e w' => e = .returned (.bool true) ∧ Below w.heap.size w w' := by
  have hbd := bd_of h.st iv hi
  have HBD : Hid (Bd F) := hbd
  have HIN : Hid ((∀ x ∈ F.dir, 0 ≤ x.2 ∧ x.2 < (F.files.length : Int)) ∧ ∀ x ∈ F.sure, 0 ≤ x.2 ∧ x.2 < (F.files.length : Int)) := ⟨fun x hx => ⟨h.st.fs.ok.dir.ge x hx, h.st.fs.ok.dir.lt x hx⟩, fun x hx => ⟨h.st.fs.ok.sure.ge x hx, h.st.fs.ok.sure.lt x hx⟩⟩
  have HFL : Hid (findM F.dir n < (F.files.length : Int)) := find_lt h.st n
  have HFW : Hid (F.dir.length ≤ 64 ∧ F.sure.length ≤ 64) := h.st.few
  obtain ⟨r, hr⟩ : ∃ r, w.heap.size = r := ⟨_, rfl⟩
  obtain ⟨C, hC⟩ : ∃ C, fsC F V = C := ⟨_, rfl⟩
  have HC : Hid (fsC F V = C) := hC
  have HCS : Hid (C.size = 9) := by show _ = _; rw [← hC]; rfl
  obtain ⟨W1, hW1⟩ : ∃ W1, w.alloc (.cells C 31) = W1 := ⟨_, rfl⟩
  have hb1 : Below w.heap.size w W1 := by rw [← hW1]; exact (Below.refl _ _).alloc (Nat.le_refl _) _
  have HB1 : Hid (Below w.heap.size w W1) := hb1
  have HA1 : Hid (Ac w0 W1 g X F i V r C) := ⟨h.on hb1, by rw [← hW1, ← hr]; exact one_alloc _ _⟩
  rw [hC]
  clear h hbd hb1 hC iv hi
  have HQ : Hid (Calls Tryz.prog 19 #[.pointer (some ⟨g, 0, none⟩), .string n] W1 fun e w' => e = .returned (.tuple #[.string (readM F n).1, .int .i64 (readM F n).2]) ∧ Below W1.heap.size W1 w') := Read_any g X F n hn W1 HA1.out.dv.st.fs
  show Calls Tryz.prog 8 #[.pointer (some ⟨g, 0, none⟩), .agg C, .string n] w _
  go_enter Tryz.func8, Tryz.ntmps8
  go_upto_region 1 with fail
  clear hW1
  go_wp2_with fail
  refine (show Calls _ _ _ _ _ from HQ.out).mono ?_
  rintro e w2 ⟨rfl, hb2⟩
  have HA2 : Hid (Ac w0 w2 g X F i V r C) := HA1.out.on hb2
  have HB2 : Hid (Below w.heap.size w w2) := HB1.out.trans (hb2.mono HB1.out.size)
  clear hb2 HQ HA1 HB1
  have HQ : Hid (Calls Tryz.prog 24 #[.agg C, .string n] w2 fun e w' => e = .returned (.tuple #[.string (readM F n).1, .int .i64 (readM F n).2]) ∧ Below w2.heap.size w2 w') := by
    have := read_any F V n HBD.out hn HFL.out w2 HA2.out.dv.dc
    rw [HC.out] at this
    exact this
  go_wp2_with (refine ldF C r _ rfl rfl rfl HA2.out.ro HCS.out ?_)
  refine (show Calls _ _ _ _ _ from HQ.out).mono ?_
  rintro e w3 ⟨rfl, hb3⟩
  have HA3 : Hid (Ac w0 w3 g X F i V r C) := HA2.out.on hb3
  have HB3 : Hid (Below w.heap.size w w3) := HB2.out.trans (hb3.mono HB2.out.size)
  clear hb3 HQ HA2 HB2
  have HQ : Hid (Calls Tryz.prog 14 #[.pointer (some ⟨g, 0, none⟩)] w3 fun e w' => ∃ P c, e = .returned (.tuple #[.slice P (listM F).1.length c, .int .i64 (listM F).2]) ∧ w'.ownsRow w3.heap.size 9 1 (.slice P (listM F).1.length c) (listM F).1.length (psE.fl (listM F).1) ∧ Below w3.heap.size w3 w') := List_all HA3.out.dv.st
  go_wp2_with fail
  refine (show Calls _ _ _ _ _ from HQ.out).mono ?_
  rintro e w4 ⟨P4, c4, rfl, ho4, hb4⟩
  have HA4 : Hid (Ac w0 w4 g X F i V r C) := HA3.out.on hb4
  have HB4 : Hid (Below w.heap.size w w4) := HB3.out.trans (hb4.mono HB3.out.size)
  have HL4 : Hid (KR stE w4 (.slice P4 (listM F).1.length c4) (listM F).1) := KR.own (E := stE) ho4 rfl
  clear hb4 ho4 HQ HA3 HB3
  have HQ : Hid (Calls Tryz.prog 25 #[.agg C] w4 fun e w' => ∃ P c, e = .returned (.tuple #[.slice P (listM F).1.length c, .int .i64 (listM F).2]) ∧ KR stE w' (.slice P (listM F).1.length c) (listM F).1 ∧ Below w4.heap.size w4 w') := by
    have := list_any F V HBD.out w4 HA4.out.dv.dc
    rw [HC.out] at this
    refine Calls.mono this ?_
    rintro e w' ⟨v, rfl, hk, _, hb⟩
    obtain ⟨P, c, rfl⟩ := hk.form
    exact ⟨P, c, rfl, hk, hb⟩
  go_wp2_with (refine ldF C r _ rfl rfl rfl HA4.out.ro HCS.out ?_)
  refine (show Calls _ _ _ _ _ from HQ.out).mono ?_
  rintro e w5 ⟨P5, c5, rfl, hk5, hb5⟩
  have HA5 : Hid (Ac w0 w5 g X F i V r C) := HA4.out.on hb5
  have HB5 : Hid (Below w.heap.size w w5) := HB4.out.trans (hb5.mono HB4.out.size)
  have HL4b : Hid (KR stE w5 (.slice P4 (listM F).1.length c4) (listM F).1) := HL4.out.on hb5
  have HL5 : Hid (KR stE w5 (.slice P5 (listM F).1.length c5) (listM F).1) := hk5
  clear hb5 hk5 HQ HA4 HB4 HL4
  have hce := HC.out
  subst hce
  obtain ⟨nd, hnd⟩ : ∃ nd, F.dir.length = nd := ⟨_, rfl⟩
  obtain ⟨ns, hns⟩ : ∃ ns, F.sure.length = ns := ⟨_, rfl⟩
  have HND : Hid (F.dir.length = nd ∧ F.sure.length = ns) := ⟨hnd, hns⟩
  have HNL : Hid ((nowM F).length ≤ 4611686018427387000 ∧ (safeM F).length ≤ 4611686018427387000) := by
    have := HFW.out
    refine ⟨?_, ?_⟩
    · rw [now_len]; omega
    · rw [safe_len]; omega
  clear hnd hns
  have HAD : Hid (Ac w0 w5.drew g X F i V r (fsC F V)) := HA5.out.on (below_dn (Below.refl _ _) 1)
  have HBD5 : Hid (Below w.heap.size w w5.drew) := below_dn HB5.out 1
  have HLD4 : Hid (KR stE w5.drew (.slice P4 (listM F).1.length c4) (listM F).1) := HL4b.out.on (below_dn (Below.refl _ _) 1)
  have HLD5 : Hid (KR stE w5.drew (.slice P5 (listM F).1.length c5) (listM F).1) := HL5.out.on (below_dn (Below.refl _ _) 1)
  have HUP : Hid (Calls Tryz.prog 22 #[.pointer (some ⟨g, 0, none⟩)] w5.drew fun e w' => e = .returned (.bool (!F.down)) ∧ w' = w5.drew) := Up_any g X F w5.drew HAD.out.dv.st.fs
  have HSS : Hid (Calls Tryz.prog 20 #[.pointer (some ⟨g, 0, none⟩)] w5.drew fun e w' => e = .returned (.int .i64 (F.steps : Int)) ∧ w' = w5.drew) := steps_st HAD.out.dv.st rfl
  have HNW : Hid (Calls Tryz.prog 12 #[.pointer (some ⟨g, 0, none⟩)] w5.drew fun e w' => NowP w5.drew (nowM F) nd e w') := now_st HAD.out.dv.st HND.out.1
  obtain ⟨y0, y1, y2, y3, y4, y5, y6, y7, y8, _⟩ := row9 (v0 := .bool F.down) (v1 := .int .i64 (F.steps : Int)) (v2 := V.f) (v3 := V.d) (v4 := V.s) (v5 := V.c) (v6 := V.p) (v7 := .int .i64 F.crash) (v8 := V.k) HAD.out.ro
  clear HA5 HB5 HL4b HL5
  go_upto_region 5 with fail
  go_region_held3 (fun W : World => W.cell? ⟨r, 0, none⟩ = some (.bool F.down) ∧ W.cell? ⟨r, 1, none⟩ = some (.int .i64 (F.steps : Int)) ∧ W.cell? ⟨r, 2, none⟩ = some (V.f) ∧ W.cell? ⟨r, 3, none⟩ = some (V.d) ∧ W.cell? ⟨r, 4, none⟩ = some (V.s) ∧ W.cell? ⟨r, 5, none⟩ = some (V.c) ∧ W.cell? ⟨r, 6, none⟩ = some (V.p) ∧ W.cell? ⟨r, 7, none⟩ = some (.int .i64 F.crash) ∧ W.cell? ⟨r, 8, none⟩ = some (V.k))
    (first | with_reducible exact ⟨q0, q1, q2, q3, q4, q5, q6, q7, q8⟩ | with_reducible exact ⟨y0, y1, y2, y3, y4, y5, y6, y7, y8⟩)
    (first
      | (go_at_call 22; (with_reducible refine (show Calls _ _ _ _ _ from HUP.out).mono ?_); rintro e wz ⟨rfl, rfl⟩)
      | (go_at_call 20; (with_reducible refine (show Calls _ _ _ _ _ from HSS.out).mono ?_); rintro e wz ⟨rfl, rfl⟩)
      | (go_at_call 12; (with_reducible refine (show Calls _ _ _ _ _ from HNW.out).mono ?_); rintro e w6 ⟨P6, c6, rfl, hp6, hb6⟩; have HA6 : Hid (Ac w0 w6 g X F i V r (fsC F V)) := HAD.out.on hb6; have HB6 : Hid (Below w.heap.size w w6) := HBD5.out.trans (hb6.mono HBD5.out.size); obtain ⟨q0, q1, q2, q3, q4, q5, q6, q7, q8, _⟩ := row9 (v0 := .bool F.down) (v1 := .int .i64 (F.steps : Int)) (v2 := V.f) (v3 := V.d) (v4 := V.s) (v5 := V.c) (v6 := V.p) (v7 := .int .i64 F.crash) (v8 := V.k) HA6.out.ro; have HP6 : Hid (PR w6 (.slice P6 nd c6) (nowM F)) := hp6; have HRN : Hid (Calls Tryz.prog 27 #[.agg #[.bool F.down, .int .i64 (F.steps : Int), V.f, V.d, V.s, V.c, V.p, .int .i64 F.crash, V.k]] w6 fun e w' => ∃ P c, e = .returned (.slice P nd c) ∧ KR pprE w' (.slice P nd c) (nowM F) ∧ Below w6.heap.size w6 w') := rnow_ac HA6.out HBD.out HIN.out.1 HND.out.1; clear hp6)
      | (go_at_call 27; (with_reducible refine (show Calls _ _ _ _ _ from HRN.out).mono ?_); rintro e w7 ⟨P7, c7, rfl, hk7, hb7⟩; have HA7 : Hid (Ac w0 w7 g X F i V r (fsC F V)) := HA6.out.on hb7; have HB7 : Hid (Below w.heap.size w w7) := HB6.out.trans (hb7.mono HB6.out.size); obtain ⟨q0, q1, q2, q3, q4, q5, q6, q7, q8, _⟩ := row9 (v0 := .bool F.down) (v1 := .int .i64 (F.steps : Int)) (v2 := V.f) (v3 := V.d) (v4 := V.s) (v5 := V.c) (v6 := V.p) (v7 := .int .i64 F.crash) (v8 := V.k) HA7.out.ro; have HSP : Hid (Calls Tryz.prog 26 #[.slice P6 nd c6, .slice P7 nd c7] w7 fun e w' => e = .returned (.bool true) ∧ Below w7.heap.size w7 w') := same_kr HNL.out.1 (HP6.out.on hb7).kr hk7; clear hk7)
      | (go_at_call 26; (with_reducible refine (show Calls _ _ _ _ _ from HSP.out).mono ?_); rintro e w8 ⟨rfl, hb8⟩; have HA8 : Hid (Ac w0 w8 g X F i V r (fsC F V)) := HA7.out.on hb8; have HB8 : Hid (Below w.heap.size w w8) := HB7.out.trans (hb8.mono HB7.out.size); obtain ⟨q0, q1, q2, q3, q4, q5, q6, q7, q8, _⟩ := row9 (v0 := .bool F.down) (v1 := .int .i64 (F.steps : Int)) (v2 := V.f) (v3 := V.d) (v4 := V.s) (v5 := V.c) (v6 := V.p) (v7 := .int .i64 F.crash) (v8 := V.k) HA8.out.ro; have HSF : Hid (Calls Tryz.prog 13 #[.pointer (some ⟨g, 0, none⟩)] w8 fun e w' => NowP w8 (safeM F) ns e w') := safe_st HA8.out.dv.st HND.out.2; clear HSP)
      | (go_at_call 13; (with_reducible refine (show Calls _ _ _ _ _ from HSF.out).mono ?_); rintro e w9 ⟨P9, c9, rfl, hp9, hb9⟩; have HA9 : Hid (Ac w0 w9 g X F i V r (fsC F V)) := HA8.out.on hb9; have HB9 : Hid (Below w.heap.size w w9) := HB8.out.trans (hb9.mono HB8.out.size); obtain ⟨q0, q1, q2, q3, q4, q5, q6, q7, q8, _⟩ := row9 (v0 := .bool F.down) (v1 := .int .i64 (F.steps : Int)) (v2 := V.f) (v3 := V.d) (v4 := V.s) (v5 := V.c) (v6 := V.p) (v7 := .int .i64 F.crash) (v8 := V.k) HA9.out.ro; have HP9 : Hid (PR w9 (.slice P9 ns c9) (safeM F)) := hp9; have HRS : Hid (Calls Tryz.prog 28 #[.agg #[.bool F.down, .int .i64 (F.steps : Int), V.f, V.d, V.s, V.c, V.p, .int .i64 F.crash, V.k]] w9 fun e w' => ∃ P c, e = .returned (.slice P ns c) ∧ KR pprE w' (.slice P ns c) (safeM F) ∧ Below w9.heap.size w9 w') := rsafe_ac HA9.out HBD.out HIN.out.2 HND.out.2; clear hp9)
      | (go_at_call 28; (with_reducible refine (show Calls _ _ _ _ _ from HRS.out).mono ?_); rintro e w10 ⟨P10, c10, rfl, hk10, hb10⟩; have HA10 : Hid (Ac w0 w10 g X F i V r (fsC F V)) := HA9.out.on hb10; have HB10 : Hid (Below w.heap.size w w10) := HB9.out.trans (hb10.mono HB9.out.size); obtain ⟨q0, q1, q2, q3, q4, q5, q6, q7, q8, _⟩ := row9 (v0 := .bool F.down) (v1 := .int .i64 (F.steps : Int)) (v2 := V.f) (v3 := V.d) (v4 := V.s) (v5 := V.c) (v6 := V.p) (v7 := .int .i64 F.crash) (v8 := V.k) HA10.out.ro; have HSQ : Hid (Calls Tryz.prog 26 #[.slice P9 ns c9, .slice P10 ns c10] w10 fun e w' => e = .returned (.bool true) ∧ Below w10.heap.size w10 w') := same_kr HNL.out.2 (HP9.out.on hb10).kr hk10; clear hk10)
      | (go_at_call 26; (with_reducible refine (show Calls _ _ _ _ _ from HSQ.out).mono ?_); rintro e w11 ⟨rfl, hb11⟩; have HA11 : Hid (Ac w0 w11 g X F i V r (fsC F V)) := HA10.out.on hb11; have HB11 : Hid (Below w.heap.size w w11) := HB10.out.trans (hb11.mono HB10.out.size); obtain ⟨q0, q1, q2, q3, q4, q5, q6, q7, q8, _⟩ := row9 (v0 := .bool F.down) (v1 := .int .i64 (F.steps : Int)) (v2 := V.f) (v3 := V.d) (v4 := V.s) (v5 := V.c) (v6 := V.p) (v7 := .int .i64 F.crash) (v8 := V.k) HA11.out.ro; have HST : Hid (Calls Tryz.prog 29 #[.slice P4 (listM F).1.length c4, .slice P5 (listM F).1.length c5] w11 fun e w' => e = .returned (.bool true) ∧ Below w11.heap.size w11 w') := texts_ac HFW.out HLD4.out HLD5.out (((((hb6.trans (hb7.mono hb6.size)).trans (hb8.mono (Nat.le_trans hb6.size hb7.size))).trans (hb9.mono (Nat.le_trans hb6.size (Nat.le_trans hb7.size hb8.size)))).trans (hb10.mono (Nat.le_trans hb6.size (Nat.le_trans hb7.size (Nat.le_trans hb8.size hb9.size))))).trans (hb11.mono (Nat.le_trans hb6.size (Nat.le_trans hb7.size (Nat.le_trans hb8.size (Nat.le_trans hb9.size hb10.size))))))  )
      | (go_at_call 29; (with_reducible refine (show Calls _ _ _ _ _ from HST.out).mono ?_); rintro e w12 ⟨rfl, hb12⟩; have HA12 : Hid (Ac w0 w12 g X F i V r (fsC F V)) := HA11.out.on hb12; have HB12 : Hid (Below w.heap.size w w12) := HB11.out.trans (hb12.mono HB11.out.size); obtain ⟨q0, q1, q2, q3, q4, q5, q6, q7, q8, _⟩ := row9 (v0 := .bool F.down) (v1 := .int .i64 (F.steps : Int)) (v2 := V.f) (v3 := V.d) (v4 := V.s) (v5 := V.c) (v6 := V.p) (v7 := .int .i64 F.crash) (v8 := V.k) HA12.out.ro))
  clear q0 q1 q2 q3 q4 q5 q6 q7 q8
  go_wp2
  go_returns
  exact ⟨rfl, HB12.out⟩
end Go.Proofs.YtlheilkofibogaaGreat
