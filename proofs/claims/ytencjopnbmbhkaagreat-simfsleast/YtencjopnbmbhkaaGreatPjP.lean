import Derived.Test.YtencjopnbmbhkaaGreatPjO
namespace Go.Proofs.YtencjopnbmbhkaaGreat
open Go.RowKit Go.Maps
set_option linter.unusedVariables false
set_option linter.unusedSimpArgs false
def DelP (w : World) (qv : Value) (l : List Pq) (e : Ending) (w' : World) : Prop := ∃ P c, e = .returned (.slice P (l.filter okQ).length c) ∧ PRow w' (.slice P (l.filter okQ).length c) (l.filter okQ) ∧ (∀ k, (Value.slice P (l.filter okQ).length c).ownBlock = some k → qv.ownBlock = some k) ∧ ModP (fun k => qv.ownBlock = some k) w w'
set_option maxHeartbeats 1000000 in
theorem deleteR_any (qv : Value) (l : List Pq) (hl : l.length ≤ 2199023255552) (w : World) (h : PRow w qv l) :
    Calls Tryz.prog 39 #[qv, .func (.func 40) #[] #[]] w fun e w' => DelP w qv l e w' := by
  rcases h.px with ⟨rfl, rfl⟩ | ⟨E, o, c, rfl, hB⟩
  · have HI : Hid _ := indexQ_any (.slice none 0 0) [] (by simp) w KR.nil
    go_enter Tryz.func39, Tryz.ntmps39
    go_wp2_with fail
    refine (show Calls _ _ _ _ _ from HI.out).mono ?_
    rintro e w1 ⟨hb1, ⟨i, hi, _⟩ | ⟨rfl, hall⟩⟩
    · simp at hi
    · have HR : Hid (DelP w (.slice none 0 0) [] (.returned (.slice none 0 0)) w1) := ⟨none, 0, rfl, Or.inl ⟨rfl, rfl⟩, fun k hk => (by cases hk), ModP.below hb1⟩
      clear hb1 hall
      go_wp2
      go_returns
      exact HR.out
  · refine (deleteQ_any E o c l hl w hB).mono ?_
    rintro e w' ⟨rfl, hm, hP⟩
    exact ⟨_, c, rfl, hP.prow, fun k hk => hk, hm.weak (fun k _ e => by rw [e]; rfl)⟩
set_option maxHeartbeats 2000000 in
set_option maxRecDepth 100000 in
theorem Crash_any (g : Nat) (X : Gh) (F : Fs) (n : Int) (v : Value) (p : List Int) (hp : p.length ≤ 17592186044416) (w : World) (h : FsP w g X F) (hs : Sm F X) (hv : Pks w (Own g F X) v p) :
    Calls Tryz.prog 13 #[ptr (some g), .int .i64 n, v] w fun e w' => e = .returned (.int .i64 (crashM F n p).2) ∧ ∃ X', Bec w g X F w' X' (crashM F n p).1 := by
  have HCK : Hid _ := checkPlan_any g X F n 0 w h.toFsC
  by_cases hck : chkP F n 0 = 0
  · have hdn : F.down = false := by
      unfold chkP at hck
      cases hd : F.down
      · rfl
      · rw [hd] at hck; simp at hck
    have hnn : ¬ (n < 0 ∨ 1099511627776 < n) := fun hh => by
      unfold chkP at hck
      rw [hdn, if_neg (by decide), if_pos hh] at hck; cases hck
    rw [hck] at HCK
    by_cases hn0 : n = 0
    · subst hn0
      have hM : crashM F 0 p = (downM F p, 0) := by
        unfold crashM; rw [hdn, if_neg (by decide), if_neg hnn, if_pos rfl]
      rw [hM]
      have HGO : Hid _ := goDown_any g X F v p w h.toFsC hs hp hv
      clear h hs hv hck hdn hnn hM
      unfold ptr at HCK HGO ⊢
      go_enter Tryz.func13, Tryz.ntmps13
      go_wp2_with fail
      refine (show Calls _ _ _ _ _ from HCK.out).mono ?_
      rintro e w1 ⟨rfl, rfl⟩
      go_wp2_with fail
      refine (show Calls _ _ _ _ _ from HGO.out).mono ?_
      rintro e w2 ⟨rfl, hB⟩
      have HB : Hid _ := hB
      clear hB
      go_wp2
      go_returns
      exact ⟨rfl, HB.out⟩
    · have hst := hs.st
      obtain ⟨s, hsn⟩ : ∃ s : Nat, (s : Int) = (F.steps : Int) + n := ⟨F.steps + n.toNat, by omega⟩
      have hM : crashM F n p = ({ F with crash := (s : Int), picks := p }, 0) := by
        unfold crashM; rw [hdn, if_neg (by decide), if_neg hnn, if_neg hn0, hsn]
      rw [hM]
      have hw : IntKind.i64.wrap ((F.steps : Int) + n) = (s : Int) := by rw [IntKind.wrap_i64] <;> omega
      have hne : (n == 0) = false := by simpa using hn0
      have HCL : Hid _ := cloneI_any v p hp w hv.kr
      have HFP : Hid (FsP w g X F) := h
      have HQL : Hid (X.qs.length ≤ 2199023255552) := hs.qs
      have HSS : Hid (F.steps < s) := by show F.steps < s; omega
      obtain ⟨stp, hstp⟩ : ∃ stp, F.steps = stp := ⟨_, rfl⟩
      have HSTP : Hid (F.steps = stp) := hstp
      rw [hstp] at hw
      clear h hs hv hck hdn hnn hM hst hsn hstp
      unfold ptr at HCK ⊢
      go_enter Tryz.func13, Tryz.ntmps13
      go_wp2_with fail
      refine (show Calls _ _ _ _ _ from HCK.out).mono ?_
      rintro e w0 ⟨rfl, rfl⟩
      go_wp2_with fail
      refine (show Calls _ _ _ _ _ from HCL.out).mono ?_
      rintro e w1 ⟨v', rfl, ho1, hb1⟩
      obtain ⟨P1, c1, hf1⟩ := own_form ho1
      subst hf1
      have HO1 : Hid _ := ho1
      have HB1 : Hid (Below w0.heap.size w0 w1) := hb1
      clear ho1 hb1
      go_upto_region 8 with fail
      obtain ⟨W2, hW2⟩ : ∃ W2, w1.alloc (.cells #[.slice P1 p.length c1] 23) = W2 := ⟨_, rfl⟩
      rw [hW2]
      have hB2 : W2.heap[w1.heap.size]? = some (.cells #[.slice P1 p.length c1] 23) := by rw [← hW2]; exact one_alloc w1 _
      have hb12 : Below w1.heap.size w1 W2 := by rw [← hW2]; exact (Below.refl _ w1).alloc (Nat.le_refl _) _
      have hb2 : Below w0.heap.size w0 W2 := bel_to HB1.out hb12 (Nat.le_refl _)
      have ho2 : W2.ownsRow 0 3 1 (.slice P1 p.length c1) p.length (pinE.fl p) := own_bel HO1.out hb12
      have h2 := HFP.out.on hb2
      obtain ⟨_, g1, _, _, _, _, g6, gf⟩ := h2.cells
      have HDL : Hid _ := deleteR_any X.qv X.qs HQL.out W2 h2.row
      have HOB : Hid (W2.heap[w1.heap.size]? = some (.cells #[.slice P1 p.length c1] 23) ∧ W2.ownsRow 0 3 1 (.slice P1 p.length c1) p.length (pinE.fl p) ∧ FsP W2 g X F ∧ Below w0.heap.size w0 W2) := ⟨hB2, ho2, h2, hb2⟩
      clear hW2 hB2 hb12 hb2 ho2 h2 gf
      go_wp2_with fail
      refine (show Calls _ _ _ _ _ from HDL.out).mono ?_
      rintro e w3 ⟨P3, c3, rfl, hr3, hk3, hm3⟩
      have hfs := HOB.out.2.2.1
      have hg3 : w3.heap[g]? = some (.cells #[.bool F.down, .int .i64 (F.steps : Int), .int .i64 (F.files.length : Int), .map (some X.mn), .map (some X.ms), X.cv, X.qv] 60) := (hm3.oth g (row_lt hfs.blk) (fun e => hfs.ne_g.2.2.2.2 g e rfl)).trans hfs.blk
      have hg4 := fs_set hg3 6 (.slice P3 (X.qs.filter okQ).length c3)
      obtain ⟨_, _, _, _, _, _, t6, tfx⟩ := fsC7 hg3
      have tf := tfx 6
      obtain ⟨W4, hW4⟩ : ∃ W4, w3.setCell ⟨g, 6, none⟩ (.slice P3 (X.qs.filter okQ).length c3) = W4 := ⟨_, rfl⟩
      have hg4' : W4.heap[g]? = some (.cells #[.bool F.down, .int .i64 (F.steps : Int), .int .i64 (F.files.length : Int), .map (some X.mn), .map (some X.ms), X.cv, .slice P3 (X.qs.filter okQ).length c3] 60) := by rw [← hW4]; exact hg4.1
      have ho4 : Only w3 W4 g := by rw [← hW4]; exact hg4.2
      have hmW : ModP (fun k => k = g ∨ X.qv.ownBlock = some k) W2 W4 := (hm3.weak (fun k _ e => Or.inr e)).trans (ModP.only ho4 (Or.inl rfl))
      have hmw : ModP (fun k => k = g ∨ X.qv.ownBlock = some k) w0 W4 := (ModP.below HOB.out.2.2.2).trans hmW
      have hkp : ∀ {k : Nat} {cs : Array Value} {t : Nat} {fz : Nat × Nat}, W2.heap[k]? = some (.cells cs t fz) → ¬ tyOwn t → W4.heap[k]? = W2.heap[k]? := fun {k cs t fz} hk ht => hmW.oth k (row_lt hk) (fun hs => by
        rcases hs with rfl | hs
        · exact ht (by rw [row_ty hk hfs.blk]; exact Or.inl rfl)
        · obtain ⟨cur, hc⟩ := hfs.row.type hs
          exact ht (by rw [row_ty hk hc]; exact Or.inr (Or.inr (Or.inr (Or.inr rfl)))))
      have hr4 : PRow W4 (.slice P3 (X.qs.filter okQ).length c3) (X.qs.filter okQ) := hr3.to (fun k hk => ho4.other k (fun e => by subst e; exact hfs.ne_g.2.2.2.2 _ (hk3 _ hk) rfl))
      have hlf := List.length_filter_le okQ X.qs
      have HLY : Hid (Calls Tryz.prog 41 #[ptr (some g), agQ ⟨s, true, w1.heap.size⟩] W4 fun e w' => e = .returned (.tuple #[]) ∧ ∃ X', Bec w0 g X F w' X' { F with crash := (s : Int), picks := p }) := (layP_any g _ _ _ _ _ _ _ (X.qs.filter okQ) (filter_srt HFP.out.pln.srt) (by have := HQL.out; omega) ⟨s, true, w1.heap.size⟩ W4 hg4' hr4).mono (fun e w' hL => FsP.crash_laid (q0 := ⟨s, true, w1.heap.size⟩) HFP.out hmw hg4' hr4 hk3 ((hkp HOB.out.1 (by unfold tyOwn; decide)).trans HOB.out.1) (own_to HOB.out.2.1 (fun k hk => by obtain ⟨cur, hcu⟩ := own_type HOB.out.2.1 hk; exact hkp hcu (by unfold tyOwn; decide))) rfl rfl HSS.out hL)
      obtain ⟨_, s1, _, _, _, _, _, _⟩ := fsC7 hg4'
      rw [HSTP.out] at s1
      unfold ptr agQ meetV at HLY
      simp only [if_true, Option.map] at HLY
      clear hfs hg3 hg4 tfx hg4' ho4 hmW hmw hkp hr4 hlf hr3 hk3 hm3 g1 g6
      go_upto_region 9 with fail
      try rw [hW4]
      clear hW4
      go_wp2_with fail
      refine (show Calls _ _ _ _ _ from HLY.out).mono ?_
      rintro e w5 ⟨rfl, hB⟩
      have HB : Hid _ := hB
      clear hB
      go_wp2
      go_returns
      exact ⟨rfl, HB.out⟩
  · have hM : crashM F n p = (F, chkP F n 0) := by
      unfold crashM chkP at *
      cases hd : F.down
      · rw [hd] at hck
        simp only [Bool.false_eq_true, if_false] at hck ⊢
        by_cases hh : n < 0 ∨ 1099511627776 < n
        · rw [if_pos hh, if_pos hh]
        · rw [if_neg hh] at hck; exact absurd rfl hck
      · rfl
    rw [hM]
    have HB : Hid (∃ X', Bec w g X F w X' F) := ⟨X, Bec.refl h⟩
    obtain ⟨er, her⟩ : ∃ er, chkP F n 0 = er := ⟨_, rfl⟩
    rw [her] at HCK hck ⊢
    have hne : (er == 0) = false := by simpa using hck
    clear h hs hv hM her
    unfold ptr at HCK ⊢
    go_enter Tryz.func13, Tryz.ntmps13
    go_wp2_with fail
    refine (show Calls _ _ _ _ _ from HCK.out).mono ?_
    rintro e w1 ⟨rfl, rfl⟩
    go_wp2
    go_returns
    exact ⟨rfl, HB.out⟩
end Go.Proofs.YtencjopnbmbhkaaGreat
