import Derived.Test.YtencjopnbmbhkaaGreatPjK
import Derived.Test.YtencjopnbmbhkaaGreatPjA
namespace Go.Proofs.YtencjopnbmbhkaaGreat
open Go.RowKit Go.Maps
set_option linter.unusedVariables false
set_option linter.unusedSimpArgs false
theorem row_ty {W : World} {k : Nat} {cs cs' : Array Value} {t t' : Nat} {fz fz' : Nat × Nat} (h : W.heap[k]? = some (.cells cs t fz)) (h' : W.heap[k]? = some (.cells cs' t' fz')) : t = t' := by
  have := h.symm.trans h'
  injection this with this
  injection this
/-- A failure was laid in. -/
theorem FsP.fail_laid {w W0 w' : World} {g R : Nat} {X : Gh} {F : Fs} {p : Pq} {part : Int} {e : Ending} (h : FsP w g X F) (hb : Below w.heap.size w W0) (hR : W0.heap[R]? = some (.cells #[.int .i64 part] 3)) (hc : p.c = false) (hpb : p.b = R) (hs : F.steps < p.s)
    (hL : LayP W0 g (.bool F.down) (.int .i64 (F.steps : Int)) (.int .i64 (F.files.length : Int)) (.map (some X.mn)) (.map (some X.ms)) X.cv X.qv X.qs p e w') : e = .returned (.tuple #[]) ∧ ∃ X', Bec w g X F w' X' { F with fails := F.fails ++ [((p.s : Int), part)] } := by
  obtain ⟨he, qv', qs', hl, hg', hrow', hk', hm'⟩ := hL
  have h0 := h.on hb
  have hf := hl.facts h.pln.srt
  have hkeep : ∀ {k : Nat} {cs : Array Value} {t : Nat} {fz : Nat × Nat}, W0.heap[k]? = some (.cells cs t fz) → ¬ tyOwn t → w'.heap[k]? = W0.heap[k]? := fun {k cs t fz} hk ht => hm'.oth k (row_lt hk) (fun hs => by
    rcases hs with rfl | hs
    · exact ht (by rw [row_ty hk h0.blk]; exact Or.inl rfl)
    · obtain ⟨cur, hc⟩ := h0.row.type hs
      exact ht (by rw [row_ty hk hc]; exact Or.inr (Or.inr (Or.inr (Or.inr rfl)))))
  have hC := h0.toFsC.repl (F' := { F with fails := F.fails ++ [((p.s : Int), part)] }) hm' ⟨rfl, rfl, rfl, rfl⟩ hg' hrow'
  have hP : FsP w' g { X with qv := qv', qs := qs' } { F with fails := F.fails ++ [((p.s : Int), part)] } := by
    refine ⟨hC, h.pln.fail hf hc hs, fun q hq => ?_⟩
    rcases hf.new q hq with rfl | ⟨hq', hn⟩
    · refine ⟨fun h => (by rw [hc] at h; cases h), fun _ => ⟨part, ?_, ?_⟩⟩
      · rw [hpb]; exact (hkeep hR (by unfold tyOwn; decide)).trans hR
      · show failM (F.fails ++ [((q.s : Int), part)]) q.s = some part
        rw [failM_app, if_pos rfl]
    · exact ((h0.hld q hq').fail hc hn).to (fun k cs t fz hk ht => hkeep hk ht)
  exact ⟨he, _, Bec.pre hb (Bec.repl h0.toFsC hm' ⟨rfl, rfl, rfl, rfl⟩ hP hk' hf.len)⟩
set_option maxHeartbeats 2000000 in
set_option maxRecDepth 100000 in
theorem Fail_any (g : Nat) (X : Gh) (F : Fs) (n part : Int) (w : World) (h : FsP w g X F) (hs : Sm F X) :
    Calls Tryz.prog 28 #[ptr (some g), .int .i64 n, .int .i64 part] w fun e w' => e = .returned (.int .i64 (failsM F n part).2) ∧ ∃ X', Bec w g X F w' X' (failsM F n part).1 := by
  obtain ⟨W0, hW0⟩ : ∃ W0, w.alloc (.cells #[.int .i64 part] 3) = W0 := ⟨_, rfl⟩
  obtain ⟨R, hR⟩ : ∃ R, w.heap.size = R := ⟨_, rfl⟩
  have hb0 : Below w.heap.size w W0 := by rw [← hW0]; exact (Below.refl _ _).alloc (Nat.le_refl _) _
  have hr0 : W0.heap[R]? = some (.cells #[.int .i64 part] 3) := by rw [← hW0, ← hR]; exact one_alloc _ _
  have h0 := h.on hb0
  have HCK : Hid _ := checkPlan_any g X F n 1 W0 h0.toFsC
  by_cases hck : chkP F n 1 = 0
  · have hdn : F.down = false := by
      unfold chkP at hck
      cases hd : F.down
      · rfl
      · rw [hd] at hck; simp at hck
    have hnn : ¬ (n < 1 ∨ 1099511627776 < n) := fun hh => by
      unfold chkP at hck
      rw [hdn, if_neg (by decide), if_pos hh] at hck; cases hck
    have hst := hs.st
    obtain ⟨s, hsn⟩ : ∃ s : Nat, (s : Int) = (F.steps : Int) + n := ⟨F.steps + n.toNat, by omega⟩
    have hM : failsM F n part = ({ F with fails := F.fails ++ [((s : Int), part)] }, 0) := by
      unfold failsM; rw [hdn, if_neg (by decide), if_neg hnn, hsn]
    have hw : IntKind.i64.wrap ((F.steps : Int) + n) = (s : Int) := by rw [IntKind.wrap_i64] <;> omega
    have HLY : Hid (Calls Tryz.prog 41 #[ptr (some g), agQ ⟨s, false, R⟩] W0 fun e w' => e = .returned (.tuple #[]) ∧ ∃ X', Bec w g X F w' X' { F with fails := F.fails ++ [((s : Int), part)] }) := (layP_any g _ _ _ _ _ _ X.qv X.qs h.pln.srt hs.qs ⟨s, false, R⟩ W0 h0.blk h0.row).mono (fun e w' hL => h.fail_laid (p := ⟨s, false, R⟩) hb0 hr0 rfl rfl (show F.steps < s by omega) hL)
    obtain ⟨_, c1, _⟩ := h0.cells
    rw [hck] at HCK
    rw [hM]
    unfold ptr agQ meetV at HLY
    simp only [Bool.false_eq_true, if_false, Option.map] at HLY
    clear h h0 hs hck hdn hnn hst hsn hM hr0 hb0
    unfold ptr at HCK ⊢
    go_enter Tryz.func28, Tryz.ntmps28
    go_upto_region 1 with fail
    clear hW0
    go_wp2_with fail
    refine (show Calls _ _ _ _ _ from HCK.out).mono ?_
    rintro e w1 ⟨rfl, rfl⟩
    go_wp2_with fail
    refine (show Calls _ _ _ _ _ from HLY.out).mono ?_
    rintro e w2 ⟨rfl, hB⟩
    have HB : Hid _ := hB
    clear hB
    go_wp2
    go_returns
    exact ⟨rfl, HB.out⟩
  · have hM : failsM F n part = (F, chkP F n 1) := by
      unfold failsM chkP at *
      cases hd : F.down
      · rw [hd] at hck
        simp only [Bool.false_eq_true, if_false] at hck ⊢
        by_cases hh : n < 1 ∨ 1099511627776 < n
        · rw [if_pos hh, if_pos hh]
        · rw [if_neg hh] at hck; exact absurd rfl hck
      · rfl
    rw [hM]
    have HB : Hid (∃ X', Bec w g X F W0 X' F) := ⟨X, (Bec.refl h0).pre hb0⟩
    obtain ⟨er, her⟩ : ∃ er, chkP F n 1 = er := ⟨_, rfl⟩
    rw [her] at HCK hck ⊢
    have hne : (er == 0) = false := by simpa using hck
    clear h h0 hs hM her hr0 hb0
    unfold ptr at HCK ⊢
    go_enter Tryz.func28, Tryz.ntmps28
    go_upto_region 1 with fail
    clear hW0
    go_wp2_with fail
    refine (show Calls _ _ _ _ _ from HCK.out).mono ?_
    rintro e w1 ⟨rfl, rfl⟩
    go_wp2
    go_returns
    exact ⟨rfl, HB.out⟩
end Go.Proofs.YtencjopnbmbhkaaGreat
