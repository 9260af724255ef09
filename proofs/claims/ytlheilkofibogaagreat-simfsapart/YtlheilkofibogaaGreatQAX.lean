import Derived.Test.YtlheilkofibogaaGreatQAS
import Derived.Test.YtlheilkofibogaaGreatShC
import Derived.Test.YtlheilkofibogaaGreatQAW
namespace Go.Proofs.YtlheilkofibogaaGreat
open Go.RowKit Go.Maps
set_option linter.unusedVariables false
set_option linter.unusedSimpArgs false
def chkP (F : Fs) (n least : Int) : Int := if F.down then 203 else if n < least ∨ 1099511627776 < n then 1 else 0
set_option maxHeartbeats 1000000 in
theorem checkPlan_any (g : Nat) (X : Gh) (F : Fs) (n least : Int) (w : World) (h : FsC w g X F) : Calls Tryz.prog 63 #[ptr (some g), .int .i64 n, .int .i64 least] w fun e w' => e = .returned (.int .i64 (chkP F n least)) ∧ w' = w := by
  obtain ⟨c0, _⟩ := h.cells
  clear h
  unfold ptr chkP
  obtain ⟨dn, hdn⟩ : ∃ dn, F.down = dn := ⟨_, rfl⟩
  rw [hdn] at c0 ⊢
  clear hdn
  cases dn with
  | true =>
    go_enter Tryz.func63, Tryz.ntmps63
    go_wp2
    go_ret
    exact ⟨rfl, rfl⟩
  | false =>
    by_cases h1 : n < least
    · rw [if_pos (Or.inl h1)]
      go_enter Tryz.func63, Tryz.ntmps63
      go_wp2
      go_ret
      exact ⟨rfl, rfl⟩
    · by_cases h2 : 1099511627776 < n
      · rw [if_pos (Or.inr h2)]
        go_enter Tryz.func63, Tryz.ntmps63
        go_wp2
        go_ret
        exact ⟨rfl, rfl⟩
      · rw [if_neg (show ¬ (n < least ∨ 1099511627776 < n) by omega)]
        go_enter Tryz.func63, Tryz.ntmps63
        go_wp2
        go_ret
        exact ⟨rfl, rfl⟩
set_option maxHeartbeats 1000000 in
theorem Read_any (g : Nat) (X : Gh) (F : Fs) (n : ByteArray) (hn : n.size ≤ 140737488355328) (w : World) (h : FsP w g X F) :
    Calls Tryz.prog 19 #[ptr (some g), .string n] w fun e w' => e = .returned (.tuple #[.string (readM F n).1, .int .i64 (readM F n).2]) ∧ Below w.heap.size w w' := by
  have HFI : Hid _ := find0_any g X F n hn w h
  by_cases h0 : hasM F n = 0
  · obtain ⟨hd, hnm, hf⟩ := has_zero.1 h0
    obtain ⟨i, hi1, hi2, hi3, hl⟩ := h.named hf
    have hy := fnd_yes (X := X) (os := []) hd (by simpa using hnm) hf
    rw [hy, h0, hi2] at HFI
    have hM : readM F n = ((F.files.getD i ⟨⟨#[]⟩, 0⟩).d, 0) := by
      unfold readM; rw [if_pos h0, hi2]
    rw [hM]
    have HF : Hid (∀ W, Below w.heap.size w W → FileAt W (X.fb i) i (F.files.getD i ⟨⟨#[]⟩, 0⟩) (X.pv i) (X.ps i)) := fun W hb => ((h.on hb).file hl)
    generalize F.files.getD i ⟨⟨#[]⟩, 0⟩ = x at *
    generalize X.fb i = bb at *
    clear h hd hnm hf hi1 hi2 hi3 hl hy h0
    unfold ptr at HFI ⊢
    go_enter Tryz.func19, Tryz.ntmps19
    go_wp2_with fail
    refine (show Calls _ _ _ _ _ from HFI.out).mono ?_
    rintro e w1 ⟨rfl, hb1⟩
    have hf := HF.out w1 hb1
    obtain ⟨d0, d1, d2, d3, df⟩ := file_cells hf.blk
    have HC : Hid _ := hf.first x.d.size (Nat.le_refl _)
    have HE : Hid (x.d.extract 0 x.d.size = x.d) := ext_all _
    have HB1 : Hid (Below w.heap.size w w1) := hb1
    generalize x.d.size = sz at *
    unfold ptr at HC
    clear hb1 hf df
    go_wp2_with fail
    refine (show Calls _ _ _ _ _ from HC.out).mono ?_
    rintro e w2 ⟨rfl, hb⟩
    have HB2 : Hid (Below w1.heap.size w1 w2) := hb
    rw [HE.out]
    clear hb
    go_wp2
    go_returns
    exact ⟨rfl, HB1.out.trans (HB2.out.mono HB1.out.size)⟩
  · have hno := fnd_no (F := F) (X := X) (n := n) (os := []) (fun hh => h0 (has_zero.2 ⟨hh.1, by simpa using hh.2.1, hh.2.2⟩))
    rw [hno.1] at HFI
    have hM : readM F n = (⟨#[]⟩, hasM F n) := by unfold readM; rw [if_neg h0]
    rw [hM]
    obtain ⟨er, her⟩ : ∃ er, hasM F n = er := ⟨_, rfl⟩
    rw [her] at HFI h0 ⊢
    have hne : (er == 0) = false := by simpa using h0
    clear h hno hM her
    unfold ptr at HFI ⊢
    go_enter Tryz.func19, Tryz.ntmps19
    go_wp2_with fail
    refine (show Calls _ _ _ _ _ from HFI.out).mono ?_
    rintro e w1 ⟨rfl, hb1⟩
    have HB1 : Hid (Below w.heap.size w w1) := hb1
    clear hb1
    go_wp2
    go_returns
    exact ⟨rfl, HB1.out⟩
end Go.Proofs.YtlheilkofibogaaGreat
namespace Go.Proofs.YtlheilkofibogaaGreat
open Go.RowKit Go.Maps
set_option linter.unusedVariables false
set_option linter.unusedSimpArgs false
theorem row_ty {W : World} {k : Nat} {cs cs' : Array Value} {t t' : Nat} {fz fz' : Nat × Nat} (h : W.heap[k]? = some (.cells cs t fz)) (h' : W.heap[k]? = some (.cells cs' t' fz')) : t = t' := by
  have := h.symm.trans h'
  injection this with this
  injection this
/-- A failure was laid in. -/
theorem FsP.fail_laid {w W0 w' : World} {g R : Nat} {X : Gh} {F : Fs} {p : Pq} {part : Int} {e : Ending} (h : FsP w g X F) (hb : Below w.heap.size w W0) (hR : W0.heap[R]? = some (.cells #[.int .i64 part] 3)) (hc : p.c = false) (hpb : p.b = R) (hwR : w.heap.size ≤ R) (hs : F.steps < p.s)
    (hL : LayP W0 g (.bool F.down) (.int .i64 (F.steps : Int)) (.int .i64 (F.files.length : Int)) (.map (some X.mn)) (.map (some X.ms)) X.cv X.qv X.qs p e w') : e = .returned (.tuple #[]) ∧ ∃ X', Bec w g X F w' X' { F with fails := F.fails ++ [((p.s : Int), part)] } := by
  obtain ⟨he, qv', qs', hl, hg', hrow', hk', hm'⟩ := hL
  have h0 := h.on hb
  have hf := hl.facts h.pln.srt
  have hkeep : ∀ {k : Nat} {cs : Array Value} {t : Nat} {fz : Nat × Nat}, W0.heap[k]? = some (.cells cs t fz) → ¬ tyOwn t → w'.heap[k]? = W0.heap[k]? := fun {k cs t fz} hk ht => hm'.oth k (row_lt hk) (fun hs => by
    rcases hs with rfl | hs
    · exact ht (by rw [row_ty hk h0.blk]; exact Or.inl rfl)
    · obtain ⟨cur, hc⟩ := h0.row.type hs
      exact ht (by rw [row_ty hk hc]; exact Or.inr (Or.inr (Or.inr (Or.inr rfl)))))
  have hC := h0.toFsC.repl (F' := { F with fails := F.fails ++ [((p.s : Int), part)] }) hm' ⟨rfl, rfl, rfl, rfl⟩ hg' hrow'
  have hP : FsP w' g { X with qv := qv', qs := qs' } { F with fails := F.fails ++ [((p.s : Int), part)] } := by
    refine ⟨hC, h.pln.fail hf hc hs, fun q hq => ?_⟩
    rcases hf.new q hq with rfl | ⟨hq', hn⟩
    · refine ⟨fun h => (by rw [hc] at h; cases h), fun _ => ⟨part, ?_, ?_⟩⟩
      · rw [hpb]; exact (hkeep hR (by unfold tyOwn; decide)).trans hR
      · show failM (F.fails ++ [((q.s : Int), part)]) q.s = some part
        rw [failM_app, if_pos rfl]
    · exact ((h0.hld q hq').fail hc hn).to (fun k cs t fz hk ht => hkeep hk ht)
  exact ⟨he, _, Bec.repl h.toFsC ((ModP.below hb).trans hm') ⟨rfl, rfl, rfl, rfl⟩ hP (fun k hk => (hk' k hk).imp id (fun q => Nat.le_trans hb.size q)) hf.len (fun q hq => (hf.new q hq).symm.imp (fun h6 => h6.1) (fun h6 => by subst h6; exact ⟨by rw [hpb]; exact hwR, fun h7 => by rw [hc] at h7; cases h7⟩))⟩
set_option maxHeartbeats 2000000 in
set_option maxRecDepth 100000 in
theorem Fail_any (g : Nat) (X : Gh) (F : Fs) (n part : Int) (w : World) (h : FsP w g X F) (hs : Sm F X) :
    Calls Tryz.prog 36 #[ptr (some g), .int .i64 n, .int .i64 part] w fun e w' => e = .returned (.int .i64 (failsM F n part).2) ∧ ∃ X', Bec w g X F w' X' (failsM F n part).1 := by
  obtain ⟨W0, hW0⟩ : ∃ W0, w.alloc (.cells #[.int .i64 part] 3) = W0 := ⟨_, rfl⟩
  obtain ⟨R, hR⟩ : ∃ R, w.heap.size = R := ⟨_, rfl⟩
  have hb0 : Below w.heap.size w W0 := by rw [← hW0]; exact (Below.refl _ _).alloc (Nat.le_refl _) _
  have hr0 : W0.heap[R]? = some (.cells #[.int .i64 part] 3) := by rw [← hW0, ← hR]; exact one_alloc _ _
  have h0 := h.on hb0
  have HCK : Hid _ := checkPlan_any g X F n 1 W0 h0.toFsC
  by_cases hck : chkP F n 1 = 0
  · have hdn : F.down = false := by
      unfold chkP at hck
      cases hd : F.down
      · rfl
      · rw [hd] at hck; simp at hck
    have hnn : ¬ (n < 1 ∨ 1099511627776 < n) := fun hh => by
      unfold chkP at hck
      rw [hdn, if_neg (by decide), if_pos hh] at hck; cases hck
    have hst := hs.st
    obtain ⟨s, hsn⟩ : ∃ s : Nat, (s : Int) = (F.steps : Int) + n := ⟨F.steps + n.toNat, by omega⟩
    have hM : failsM F n part = ({ F with fails := F.fails ++ [((s : Int), part)] }, 0) := by
      unfold failsM; rw [hdn, if_neg (by decide), if_neg hnn, hsn]
    have hw : IntKind.i64.wrap ((F.steps : Int) + n) = (s : Int) := by rw [IntKind.wrap_i64] <;> omega
    have HLY : Hid (Calls Tryz.prog 68 #[ptr (some g), agQ ⟨s, false, R⟩] W0 fun e w' => e = .returned (.tuple #[]) ∧ ∃ X', Bec w g X F w' X' { F with fails := F.fails ++ [((s : Int), part)] }) := (layP_any g _ _ _ _ _ _ X.qv X.qs h.pln.srt hs.qs ⟨s, false, R⟩ W0 h0.blk h0.row).mono (fun e w' hL => h.fail_laid (p := ⟨s, false, R⟩) hb0 hr0 rfl rfl (by rw [← hR]; exact Nat.le_refl _) (show F.steps < s by omega) hL)
    obtain ⟨_, c1, _⟩ := h0.cells
    rw [hck] at HCK
    rw [hM]
    unfold ptr agQ meetV at HLY
    simp only [Bool.false_eq_true, if_false, Option.map] at HLY
    clear h h0 hs hck hdn hnn hst hsn hM hr0 hb0
    unfold ptr at HCK ⊢
    go_enter Tryz.func36, Tryz.ntmps36
    go_upto_region 1 with fail
    clear hW0
    go_wp2_with fail
    refine (show Calls _ _ _ _ _ from HCK.out).mono ?_
    rintro e w1 ⟨rfl, rfl⟩
    go_wp2_with fail
    refine (show Calls _ _ _ _ _ from HLY.out).mono ?_
    rintro e w2 ⟨rfl, hB⟩
    have HB : Hid _ := hB
    clear hB
    go_wp2
    go_returns
    exact ⟨rfl, HB.out⟩
  · have hM : failsM F n part = (F, chkP F n 1) := by
      unfold failsM chkP at *
      cases hd : F.down
      · rw [hd] at hck
        simp only [Bool.false_eq_true, if_false] at hck ⊢
        by_cases hh : n < 1 ∨ 1099511627776 < n
        · rw [if_pos hh, if_pos hh]
        · rw [if_neg hh] at hck; exact absurd rfl hck
      · rfl
    rw [hM]
    have HB : Hid (∃ X', Bec w g X F W0 X' F) := ⟨X, (Bec.refl h0).pre hb0⟩
    obtain ⟨er, her⟩ : ∃ er, chkP F n 1 = er := ⟨_, rfl⟩
    rw [her] at HCK hck ⊢
    have hne : (er == 0) = false := by simpa using hck
    clear h h0 hs hM her hr0 hb0
    unfold ptr at HCK ⊢
    go_enter Tryz.func36, Tryz.ntmps36
    go_upto_region 1 with fail
    clear hW0
    go_wp2_with fail
    refine (show Calls _ _ _ _ _ from HCK.out).mono ?_
    rintro e w1 ⟨rfl, rfl⟩
    go_wp2
    go_returns
    exact ⟨rfl, HB.out⟩
end Go.Proofs.YtlheilkofibogaaGreat
namespace Go.Proofs.YtlheilkofibogaaGreat
open Go.RowKit Go.Maps
set_option linter.unusedVariables false
set_option linter.unusedSimpArgs false
set_option maxHeartbeats 2000000 in
set_option maxRecDepth 100000 in
theorem mclone_any (b k : Nat) (f : ByteArray → Option Nat) (w : World) (h : MapIs w b k f) : Calls Tryz.prog 62 #[.map (some b)] w fun e w' => e = .returned (.map (some w.heap.size)) ∧ MapIs w' w.heap.size k f ∧ Below w.heap.size w w' := by
  obtain ⟨D, ⟨es, clock, hb, hF⟩, hm⟩ := h
  have hq := fun w => run_eql_map_nil_sl (P := Tryz.prog) w 51 _ _ (some b) Tryz.underlying51
  have HFIN : Hid (MapIs (w.alloc (.map es clock)) w.heap.size k f) := ⟨D, ⟨es, clock, one_alloc _ _, hF⟩, hm⟩
  clear hF hm
  go_enter Tryz.func62, Tryz.ntmps62
  go_wp2
  rw [run_callFunc_extern Tryz.func93 (by kernel_rfl) (by kernel_rfl) (by kernel_rfl) (e := Extern.MapsClone.clone) (by kernel_rfl), run_maps_clone_sl w 51 hb]
  simp only [Result.andThen]
  rw [Oper.upon_value]
  go_wp2
  rw [run_typeAssert_map_sl _ 51 20 _ _ _ Tryz.underlying51]
  simp only [Result.andThen]
  rw [Oper.upon_value]
  go_wp2
  go_ret
  exact ⟨rfl, HFIN.out, (Below.refl _ _).alloc (Nat.le_refl _) _⟩
end Go.Proofs.YtlheilkofibogaaGreat
