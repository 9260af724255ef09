import Derived.Test.YtencjopnbmbhkaaGreatPjP
import Derived.Test.YtencjopnbmbhkaaGreatPjC
import Derived.Test.YtencjopnbmbhkaaGreatPhL
import Derived.Test.YtencjopnbmbhkaaGreatPhJ
import Derived.Test.YtencjopnbmbhkaaGreatPhI
import Derived.Test.YtencjopnbmbhkaaGreatPhG
namespace Go.Proofs.YtencjopnbmbhkaaGreat
open Go.RowKit Go.Maps
set_option linter.unusedVariables false
set_option linter.unusedSimpArgs false
theorem goDownC : GoDownC := fun g X F v p w h hs hp hv => goDown_any g X F v p w h hs hp hv
/-- An op of the script. -/
structure Po where
  k : Int
  n : ByteArray
  t : ByteArray
  d : ByteArray
  m : Int
  a : Int
  p : List Int
def doneM (F : Fs) (o : Po) : Fs × Int :=
  if o.k = 0 then createM F o.n else if o.k = 1 then appendM F o.n o.d else if o.k = 2 then syncM F o.n else if o.k = 3 then renameM F o.n o.t else if o.k = 4 then syncDirM F else if o.k = 5 then removeM F o.n else if o.k = 6 then failsM F o.m o.a else if o.k = 7 then crashM F o.m o.p else if o.k = 8 then startM F else (F, 0)
structure PoOk (o : Po) : Prop where
  n : o.n.size ≤ 140737488355328
  t : o.t.size ≤ 140737488355328
  d : o.d.size ≤ 140737488355328
  p : o.p.length ≤ 17592186044416
def opV (o : Po) (pv : Value) : Value := .agg #[.int .i64 o.k, .string o.n, .string o.t, .string o.d, .int .i64 o.m, .int .i64 o.a, pv]
theorem row7 {W : World} {g T : Nat} {a0 a1 a2 a3 a4 a5 a6 : Value} (h : W.heap[g]? = some (.cells #[a0, a1, a2, a3, a4, a5, a6] T)) : W.cell? ⟨g, 0, none⟩ = some a0 ∧ W.cell? ⟨g, 1, none⟩ = some a1 ∧ W.cell? ⟨g, 2, none⟩ = some a2 ∧ W.cell? ⟨g, 3, none⟩ = some a3 ∧ W.cell? ⟨g, 4, none⟩ = some a4 ∧ W.cell? ⟨g, 5, none⟩ = some a5 ∧ W.cell? ⟨g, 6, none⟩ = some a6 := by
  refine ⟨?_, ?_, ?_, ?_, ?_, ?_, ?_⟩ <;> (rw [cell_of_row _ _ _ _ _ _ h]; rfl)
set_option maxHeartbeats 4000000 in
set_option maxRecDepth 100000 in
theorem done_any (g : Nat) (X : Gh) (F : Fs) (o : Po) (ok : PoOk o) (pv : Value) (w : World) (h : FsP w g X F) (hs : Sm F X) (hs1 : F.steps < 2199023255552) (hs2 : F.files.length < 2199023255552) (hpk : F.picks.length ≤ 17592186044416) (hv : Pks w (Own g F X) pv o.p) :
    Calls Tryz.prog 8 #[ptr (some g), opV o pv] w fun e w' => e = .returned (.int .i64 (doneM F o).2) ∧ ∃ X', Bec w g X F w' X' (doneM F o).1 := by
  obtain ⟨Q, c, rfl⟩ := hv.form
  obtain ⟨k, n, t, d, m, a, p⟩ := o
  obtain ⟨on, ot, od, op⟩ := ok
  simp only at on ot od op hv
  obtain ⟨W0, hW0⟩ : ∃ W0, w.alloc (.cells #[.int .i64 k, .string n, .string t, .string d, .int .i64 m, .int .i64 a, .slice Q p.length c] 30) = W0 := ⟨_, rfl⟩
  obtain ⟨R, hR⟩ : ∃ R, w.heap.size = R := ⟨_, rfl⟩
  have hb0 : Below w.heap.size w W0 := by rw [← hW0]; exact (Below.refl _ _).alloc (Nat.le_refl _) _
  have hr0 : W0.heap[R]? = some (.cells #[.int .i64 k, .string n, .string t, .string d, .int .i64 m, .int .i64 a, .slice Q p.length c] 30) := by rw [← hW0, ← hR]; exact one_alloc _ _
  have h0 := h.on hb0
  have hv0 := hv.on hb0
  obtain ⟨c0, c1, c2, c3, c4, c5, c6⟩ := row7 hr0
  have HB0 : Hid (Below w.heap.size w W0) := hb0
  unfold opV doneM
  simp only
  by_cases e0 : k = 0
  · subst e0
    rw [if_pos rfl]
    have HX : Hid (Calls Tryz.prog 22 #[ptr (some g), .string n] W0 fun e w' => e = .returned (.int .i64 (createM F n).2) ∧ ∃ X', Bec W0 g X F w' X' (createM F n).1) := Create_any goDownC g X F n on W0 h0 hs hs1 hs2 hpk
    generalize createM F n = M at *
    clear h h0 hv hv0 hr0 hb0 hs hs1 hs2 hpk
    unfold ptr at HX ⊢
    go_enter Tryz.func8, Tryz.ntmps8
    go_upto_region 1 with fail
    clear hW0
    go_wp2_with fail
    refine (show Calls _ _ _ _ _ from HX.out).mono ?_
    rintro e w1 ⟨rfl, X1, hB⟩
    have HB : Hid _ := Bec.pre HB0.out hB
    clear hB
    go_wp2
    go_returns
    exact ⟨rfl, X1, HB.out⟩
  rw [if_neg e0]
  by_cases e1 : k = 1
  · subst e1
    rw [if_pos rfl]
    have HX : Hid (Calls Tryz.prog 23 #[ptr (some g), .string n, .string d] W0 fun e w' => e = .returned (.int .i64 (appendM F n d).2) ∧ ∃ X', Bec W0 g X F w' X' (appendM F n d).1) := Append_any goDownC g X F n d on od W0 h0 hs hs1 hpk
    generalize appendM F n d = M at *
    clear e0
    clear h h0 hv hv0 hr0 hb0 hs hs1 hs2 hpk
    unfold ptr at HX ⊢
    go_enter Tryz.func8, Tryz.ntmps8
    go_upto_region 1 with fail
    clear hW0
    go_wp2_with fail
    refine (show Calls _ _ _ _ _ from HX.out).mono ?_
    rintro e w1 ⟨rfl, X1, hB⟩
    have HB : Hid _ := Bec.pre HB0.out hB
    clear hB
    go_wp2
    go_returns
    exact ⟨rfl, X1, HB.out⟩
  rw [if_neg e1]
  by_cases e2 : k = 2
  · subst e2
    rw [if_pos rfl]
    have HX : Hid (Calls Tryz.prog 17 #[ptr (some g), .string n] W0 fun e w' => e = .returned (.int .i64 (syncM F n).2) ∧ ∃ X', Bec W0 g X F w' X' (syncM F n).1) := Sync_any goDownC g X F n on W0 h0 hs hs1 hpk
    generalize syncM F n = M at *
    clear e0
    clear e1
    clear h h0 hv hv0 hr0 hb0 hs hs1 hs2 hpk
    unfold ptr at HX ⊢
    go_enter Tryz.func8, Tryz.ntmps8
    go_upto_region 1 with fail
    clear hW0
    go_wp2_with fail
    refine (show Calls _ _ _ _ _ from HX.out).mono ?_
    rintro e w1 ⟨rfl, X1, hB⟩
    have HB : Hid _ := Bec.pre HB0.out hB
    clear hB
    go_wp2
    go_returns
    exact ⟨rfl, X1, HB.out⟩
  rw [if_neg e2]
  by_cases e3 : k = 3
  · subst e3
    rw [if_pos rfl]
    have HX : Hid (Calls Tryz.prog 26 #[ptr (some g), .string n, .string t] W0 fun e w' => e = .returned (.int .i64 (renameM F n t).2) ∧ ∃ X', Bec W0 g X F w' X' (renameM F n t).1) := Rename_any goDownC g X F n t on ot W0 h0 hs hs1 hpk
    generalize renameM F n t = M at *
    clear e0
    clear e1
    clear e2
    clear h h0 hv hv0 hr0 hb0 hs hs1 hs2 hpk
    unfold ptr at HX ⊢
    go_enter Tryz.func8, Tryz.ntmps8
    go_upto_region 1 with fail
    clear hW0
    go_wp2_with fail
    refine (show Calls _ _ _ _ _ from HX.out).mono ?_
    rintro e w1 ⟨rfl, X1, hB⟩
    have HB : Hid _ := Bec.pre HB0.out hB
    clear hB
    go_wp2
    go_returns
    exact ⟨rfl, X1, HB.out⟩
  rw [if_neg e3]
  by_cases e4 : k = 4
  · subst e4
    rw [if_pos rfl]
    have HX : Hid (Calls Tryz.prog 18 #[ptr (some g)] W0 fun e w' => e = .returned (.int .i64 (syncDirM F).2) ∧ ∃ X', Bec W0 g X F w' X' (syncDirM F).1) := SyncDir_any goDownC g X F W0 h0 hs hs1 hpk
    generalize syncDirM F = M at *
    clear e0
    clear e1
    clear e2
    clear e3
    clear h h0 hv hv0 hr0 hb0 hs hs1 hs2 hpk
    unfold ptr at HX ⊢
    go_enter Tryz.func8, Tryz.ntmps8
    go_upto_region 1 with fail
    clear hW0
    go_wp2_with fail
    refine (show Calls _ _ _ _ _ from HX.out).mono ?_
    rintro e w1 ⟨rfl, X1, hB⟩
    have HB : Hid _ := Bec.pre HB0.out hB
    clear hB
    go_wp2
    go_returns
    exact ⟨rfl, X1, HB.out⟩
  rw [if_neg e4]
  by_cases e5 : k = 5
  · subst e5
    rw [if_pos rfl]
    have HX : Hid (Calls Tryz.prog 27 #[ptr (some g), .string n] W0 fun e w' => e = .returned (.int .i64 (removeM F n).2) ∧ ∃ X', Bec W0 g X F w' X' (removeM F n).1) := Remove_any goDownC g X F n on W0 h0 hs hs1 hpk
    generalize removeM F n = M at *
    clear e0
    clear e1
    clear e2
    clear e3
    clear e4
    clear h h0 hv hv0 hr0 hb0 hs hs1 hs2 hpk
    unfold ptr at HX ⊢
    go_enter Tryz.func8, Tryz.ntmps8
    go_upto_region 1 with fail
    clear hW0
    go_wp2_with fail
    refine (show Calls _ _ _ _ _ from HX.out).mono ?_
    rintro e w1 ⟨rfl, X1, hB⟩
    have HB : Hid _ := Bec.pre HB0.out hB
    clear hB
    go_wp2
    go_returns
    exact ⟨rfl, X1, HB.out⟩
  rw [if_neg e5]
  by_cases e6 : k = 6
  · subst e6
    rw [if_pos rfl]
    have HX : Hid (Calls Tryz.prog 28 #[ptr (some g), .int .i64 m, .int .i64 a] W0 fun e w' => e = .returned (.int .i64 (failsM F m a).2) ∧ ∃ X', Bec W0 g X F w' X' (failsM F m a).1) := Fail_any g X F m a W0 h0 hs
    generalize failsM F m a = M at *
    clear e0
    clear e1
    clear e2
    clear e3
    clear e4
    clear e5
    clear h h0 hv hv0 hr0 hb0 hs hs1 hs2 hpk
    unfold ptr at HX ⊢
    go_enter Tryz.func8, Tryz.ntmps8
    go_upto_region 1 with fail
    clear hW0
    go_wp2_with fail
    refine (show Calls _ _ _ _ _ from HX.out).mono ?_
    rintro e w1 ⟨rfl, X1, hB⟩
    have HB : Hid _ := Bec.pre HB0.out hB
    clear hB
    go_wp2
    go_returns
    exact ⟨rfl, X1, HB.out⟩
  rw [if_neg e6]
  by_cases e7 : k = 7
  · subst e7
    rw [if_pos rfl]
    have HX : Hid (Calls Tryz.prog 13 #[ptr (some g), .int .i64 m, .slice Q p.length c] W0 fun e w' => e = .returned (.int .i64 (crashM F m p).2) ∧ ∃ X', Bec W0 g X F w' X' (crashM F m p).1) := Crash_any g X F m (.slice Q p.length c) p op W0 h0 hs hv0
    generalize crashM F m p = M at *
    clear e0
    clear e1
    clear e2
    clear e3
    clear e4
    clear e5
    clear e6
    clear h h0 hv hv0 hr0 hb0 hs hs1 hs2 hpk
    unfold ptr at HX ⊢
    go_enter Tryz.func8, Tryz.ntmps8
    go_upto_region 1 with fail
    clear hW0
    go_wp2_with fail
    refine (show Calls _ _ _ _ _ from HX.out).mono ?_
    rintro e w1 ⟨rfl, X1, hB⟩
    have HB : Hid _ := Bec.pre HB0.out hB
    clear hB
    go_wp2
    go_returns
    exact ⟨rfl, X1, HB.out⟩
  rw [if_neg e7]
  by_cases e8 : k = 8
  · subst e8
    rw [if_pos rfl]
    have HX : Hid (Calls Tryz.prog 10 #[ptr (some g)] W0 fun e w' => e = .returned (.int .i64 (startM F).2) ∧ ∃ X', Bec W0 g X F w' X' (startM F).1) := (Start_any g X F W0 h0).mono (fun e w' q => ⟨q.1, X, q.2⟩)
    generalize startM F = M at *
    clear e0
    clear e1
    clear e2
    clear e3
    clear e4
    clear e5
    clear e6
    clear e7
    clear h h0 hv hv0 hr0 hb0 hs hs1 hs2 hpk
    unfold ptr at HX ⊢
    go_enter Tryz.func8, Tryz.ntmps8
    go_upto_region 1 with fail
    clear hW0
    go_wp2_with fail
    refine (show Calls _ _ _ _ _ from HX.out).mono ?_
    rintro e w1 ⟨rfl, X1, hB⟩
    have HB : Hid _ := Bec.pre HB0.out hB
    clear hB
    go_wp2
    go_returns
    exact ⟨rfl, X1, HB.out⟩
  rw [if_neg e8]
  have HB : Hid (Bec w g X F W0 X F) := Bec.pre hb0 (Bec.refl h0)
  have n0 : (k == 0) = false := by simpa using e0
  have n1 : (k == 1) = false := by simpa using e1
  have n2 : (k == 2) = false := by simpa using e2
  have n3 : (k == 3) = false := by simpa using e3
  have n4 : (k == 4) = false := by simpa using e4
  have n5 : (k == 5) = false := by simpa using e5
  have n6 : (k == 6) = false := by simpa using e6
  have n7 : (k == 7) = false := by simpa using e7
  have n8 : (k == 8) = false := by simpa using e8
  clear h h0 hv hv0 hr0 hb0 hs hs1 hs2 hpk
  unfold ptr
  go_enter Tryz.func8, Tryz.ntmps8
  go_upto_region 1 with fail
  clear hW0
  go_wp2
  go_returns
  exact ⟨rfl, X, HB.out⟩
end Go.Proofs.YtencjopnbmbhkaaGreat
