import Derived.Test.YtlheilkofibogaaGreatQBH
import Derived.Test.YtlheilkofibogaaGreatQBE
namespace Go.Proofs.YtlheilkofibogaaGreat
open Go.RowKit Go.Maps
set_option linter.unusedVariables false
set_option linter.unusedSimpArgs false
theorem own_down {w : World} {b b' e k n : Nat} {v : Value} {xs : List Value} (h : w.ownsRow b e k v n xs) (hb : b' ≤ b) : w.ownsRow b' e k v n xs := by
  obtain ⟨h0, h1 | ⟨g, cap, cur, h1, h2, r⟩⟩ := h
  · exact ⟨h0, Or.inl h1⟩
  · exact ⟨h0, Or.inr ⟨g, cap, cur, h1, Nat.le_trans hb h2, r⟩⟩
theorem KR.below {α : Type} {E : ET α} {W W' : World} {v : Value} {l : List α} (h : KR E W v l) (hb : Below W.heap.size W W') : KR E W' v l := h.on hb
set_option maxHeartbeats 4000000 in
set_option maxRecDepth 100000 in
theorem Clone_any (g : Nat) (X : Gh) (F : Fs) (w : World) (h : FsP w g X F) (hs : Sm F X) : Calls Tryz.prog 9 #[ptr (some g)] w fun e w' => ∃ gl X', e = .returned (ptr (some gl)) ∧ FsP w' gl X' F ∧ ModP (fun _ => False) w w' ∧ (∀ k, Own gl F X' k → w.heap.size ≤ k) ∧ X'.qs = X.qs := by
  obtain ⟨Cv, kc, hcv⟩ := own_form h.chg
  obtain ⟨C, hC⟩ : ∃ C : Array Value, C = #[.bool F.down, .int .i64 (F.steps : Int), .int .i64 (F.files.length : Int), .map (some X.mn), .map (some X.ms), X.cv, X.qv] := ⟨_, rfl⟩
  have HC : Hid (C = #[.bool F.down, .int .i64 (F.steps : Int), .int .i64 (F.files.length : Int), .map (some X.mn), .map (some X.ms), X.cv, X.qv]) := hC
  have HCS : Hid (C.size = 7) := by show _ = _; rw [hC]; rfl
  have hq1 : X.qv.oneCell' = true := by
    rcases h.row with ⟨e, _⟩ | ⟨_, _, _, _, e, _⟩ <;> (rw [e]; rfl)
  have hc1 : X.cv.oneCell' = true := by rw [hcv]; rfl
  have HC1 : Hid (C.all (·.oneCell') = true) := by
    show _ = _
    rw [hC]
    simp only [List.all_toArray, List.all_cons, List.all_nil, Bool.and_true, hq1, hc1]
    rfl
  have HCB : Hid (w.heap[g]? = some (.cells C 55)) := by show _ = _; rw [hC]; exact h.blk
  obtain ⟨Z, hZ⟩ : ∃ Z, Z = zFs := ⟨_, rfl⟩
  have HZ : Hid (Z = zFs) := hZ
  have HZS : Hid (Z.size = 7) := by show _ = _; rw [hZ]; rfl
  have HF : Hid (FsP w g X F) := h
  have HS : Hid (Sm F X) := hs
  have HCV : Hid (X.cv = .slice Cv F.chg.length kc) := hcv
  clear h hs hC hZ hq1 hc1 hcv
  show Calls Tryz.prog 9 #[.pointer (some ⟨g, 0, none⟩)] w _
  go_enter Tryz.func9, Tryz.ntmps9
  go_upto_region 2 with (first
    | (refine ldFs C g _ rfl rfl rfl HCB.out HCS.out ?_)
    | (refine alFs rfl rfl Z HZ.out ?_)
    | (refine stFs rfl _ _ rfl w.heap.size C Z rfl rfl HCS.out HC1.out HZS.out (one_alloc _ _) ?_; intro Wo hro hoo))
  obtain ⟨gl, hgl⟩ : ∃ gl, w.heap.size = gl := ⟨_, rfl⟩
  have HGL : Hid (w.heap.size = gl) := hgl
  have hbo : Below w.heap.size w Wo := ((Below.refl _ w).alloc (Nat.le_refl _) _).trans (hoo.below (Nat.le_refl _))
  rw [hgl] at hro
  rw [hgl]
  obtain ⟨W2, hW2⟩ : ∃ W2, Wo.alloc (.map #[] 0) = W2 := ⟨_, rfl⟩
  obtain ⟨mb, hmb⟩ : ∃ mb, Wo.heap.size = mb := ⟨_, rfl⟩
  have hb2 : Below Wo.heap.size Wo W2 := by rw [← hW2]; exact (Below.refl _ _).alloc (Nat.le_refl _) _
  have hm2 : W2.heap[mb]? = some (.map #[] 0) := by rw [← hW2, ← hmb]; exact one_alloc _ _
  have HC2 : Hid (C3 mb gl X F w [] (.map (some X.mn)) (.map (some X.ms)) X.cv W2) := by
    refine ⟨(ModP.below hbo).trans (ModP.below hb2), ⟨⟨⟨#[], 0, hm2, rfl⟩, fun y hy => (List.not_mem_nil hy).elim⟩, fun q hq => (List.not_mem_nil hq).elim, fun q hq => (List.not_mem_nil hq).elim, fun q hq => (List.not_mem_nil hq).elim, List.Pairwise.nil⟩, ?_, ?_, ?_⟩
    · rw [HC.out] at hro
      exact (hb2.block gl (row_lt hro)).trans hro
    · have := hbo.size; omega
    · omega
  have HMB : Hid (¬ Own g F X mb) := fun ho => by
    have := HF.out.own_lt ho
    have := HC2.out.nb.1
    omega
  have hmm := @run_makeMap Tryz.prog 70
  go_upto_region 3 with fail
  have hg2 := (HC2.out.fs HF.out).blk
  obtain ⟨_, _, _, k3, _⟩ := fsC7 hg2
  have HD1 : Hid _ := dclone_any g mb X.mn w.heap.size F.files.length X F [] F.dir W2 (HC2.out.fs HF.out) HC2.out.tw HC2.out.md.size HF.out.ok.dir (HC2.out.fs HF.out).now_k (fun x hx => Or.inl ⟨x, hx, by have := HF.out.ok.dir.ge x hx; omega⟩) HMB.out (Or.inr (Or.inl rfl))
  clear hro hoo hbo hb2 hm2 hmm hg2 hW2 hmb hgl
  go_wp2_with fail
  refine (show Calls _ _ _ _ _ from HD1.out).mono ?_
  rintro e w3 ⟨E1, R1, rfl, hR1, hne1, hf3, ht3, hq3, hm3, hmd3⟩
  have hc3 := HC2.out.to hmd3 ht3
  have s3 := fs_set hc3.row 3 (.map (some R1))
  obtain ⟨W3, hW3⟩ : ∃ W3, w3.setCell ⟨gl, 3, none⟩ (.map (some R1)) = W3 := ⟨_, rfl⟩
  rw [hW3] at s3
  have HC3 : Hid (C3 mb gl X F w E1 (.map (some R1)) (.map (some X.ms)) X.cv W3) := hc3.put s3.2 s3.1
  have HM3 : Hid (MapIs W3 R1 F.dir.length (dirF F.dir (twB E1))) := hm3.to (s3.2.other R1 (hm3.ne hc3.row))
  have HQ3 : Hid (∀ x ∈ F.dir, ∃ q ∈ E1, q.1 = x.2.toNat) := hq3
  have HR1 : Hid (w.heap.size ≤ R1 ∧ R1 ≠ mb) := ⟨Nat.le_trans HC2.out.md.size hR1, hne1⟩
  obtain ⟨_, _, _, z3, _, _, _, zf⟩ := fsC7 hc3.row
  have zf3 := zf 3
  clear HD1 k3 hR1 hne1 hf3 ht3 hq3 hm3 hmd3 hc3 s3 zf
  go_upto_region 4 with fail
  have hg3 := (HC3.out.fs HF.out).blk
  obtain ⟨_, _, _, _, k4, _⟩ := fsC7 hg3
  have HD2 : Hid _ := dclone_any g mb X.ms w.heap.size F.files.length X F E1 F.sure W3 (HC3.out.fs HF.out) HC3.out.tw HC3.out.md.size HF.out.ok.sure (HC3.out.fs HF.out).safe_k (fun x hx => Or.inr (Or.inl ⟨x, hx, by have := HF.out.ok.sure.ge x hx; omega⟩)) HMB.out (Or.inr (Or.inr (Or.inl rfl)))
  clear hg3 hW3 z3 zf3
  go_wp2_with fail
  refine (show Calls _ _ _ _ _ from HD2.out).mono ?_
  rintro e w4 ⟨E2, R2, rfl, hR2, hne2, hf4, ht4, hq4, hm4, hmd4⟩
  have hc4 := HC3.out.to hmd4 ht4
  have s4 := fs_set hc4.row 4 (.map (some R2))
  obtain ⟨W4, hW4⟩ : ∃ W4, w4.setCell ⟨gl, 4, none⟩ (.map (some R2)) = W4 := ⟨_, rfl⟩
  rw [hW4] at s4
  have HC4 : Hid (C3 mb gl X F w (E1 ++ E2) (.map (some R1)) (.map (some R2)) X.cv W4) := hc4.put s4.2 s4.1
  have hm3b : MapIs w4 R1 F.dir.length (dirF F.dir (twB E1)) := HM3.out.to (hmd4.oth R1 HM3.out.lt HR1.out.2)
  have HM4 : Hid (MapIs W4 R1 F.dir.length (dirF F.dir (twB (E1 ++ E2)))) := by
    show MapIs _ _ _ _
    rw [dirF_eq (h := twB E1) (fun x hx => twB_app (HQ3.out x hx))]
    exact hm3b.to (s4.2.other R1 (hm3b.ne hc4.row))
  have HM5 : Hid (MapIs W4 R2 F.sure.length (dirF F.sure (twB (E1 ++ E2)))) := hm4.to (s4.2.other R2 (hm4.ne hc4.row))
  have HQ4 : Hid ((∀ x ∈ F.dir, ∃ q ∈ E1 ++ E2, q.1 = x.2.toNat) ∧ ∀ x ∈ F.sure, ∃ q ∈ E1 ++ E2, q.1 = x.2.toNat) := ⟨fun x hx => by obtain ⟨q, a, b⟩ := HQ3.out x hx; exact ⟨q, List.mem_append_left _ a, b⟩, hq4⟩
  have HR2 : Hid (w.heap.size ≤ R2 ∧ R2 ≠ mb ∧ R1 ≠ R2) := ⟨Nat.le_trans HC3.out.md.size hR2, hne2, by have := HM3.out.lt; omega⟩
  obtain ⟨_, _, _, _, z4, _, _, zf⟩ := fsC7 hc4.row
  have zf4 := zf 4
  clear HD2 k4 hR2 hne2 hf4 ht4 hq4 hm4 hmd4 hc4 s4 zf hm3b
  go_upto_region 5 with fail
  have hg4 := (HC4.out.fs HF.out).blk
  obtain ⟨_, _, _, _, _, k5, _⟩ := fsC7 hg4
  have hcr : KR pgE W4 X.cv (chgL F X) := KR.own (E := pgE) (by have := (HC4.out.fs HF.out).chg; exact this) (by unfold chgL; rw [List.length_map, List.length_zip, HF.out.ok.cl]; omega)
  have hcl : (chgL F X).length = F.chg.length := by unfold chgL; rw [List.length_map, List.length_zip, HF.out.ok.cl]; omega
  have HD3 : Hid _ := cloneC_any X.cv (chgL F X) (by rw [hcl]; exact HS.out.ch) W4 hcr
  clear hg4 hW4 z4 zf4 hcr
  go_wp2_with fail
  refine (show Calls _ _ _ _ _ from HD3.out).mono ?_
  rintro e w5 ⟨P, c, rfl, ho5, hb5⟩
  rw [hcl] at ho5 ⊢
  have hc5 := HC4.out.on hb5
  have s5 := fs_set hc5.row 5 (.slice P F.chg.length c)
  obtain ⟨W5, hW5⟩ : ∃ W5, w5.setCell ⟨gl, 5, none⟩ (.slice P F.chg.length c) = W5 := ⟨_, rfl⟩
  rw [hW5] at s5
  have HC5 : Hid (CL mb gl R1 R2 c P X F w (E1 ++ E2) 0 W5) := by
    have h5 := hc5.put (b3 := .map (some R1)) (b4 := .map (some R2)) (b5 := .slice P F.chg.length c) s5.2 s5.1
    refine ⟨h5.md, h5.tw, h5.row, ?_, ?_, ?_, HQ4.out.1, HQ4.out.2, fun i hi => ?_, h5.nb.1, h5.nb.2, HR1.out.1, HR2.out.1, HR1.out.2, HR2.out.2.1, HR2.out.2.2⟩
    · have h6 := HM4.out.to (hb5.block R1 HM4.out.lt)
      exact h6.to (s5.2.other R1 (h6.ne hc5.row))
    · have h6 := HM5.out.to (hb5.block R2 HM5.out.lt)
      exact h6.to (s5.2.other R2 (h6.ne hc5.row))
    · rw [chM_zero]
      have h6 := own_down ho5 HC4.out.md.size
      refine own_to h6 (fun k hk => s5.2.other k (fun e => ?_))
      obtain ⟨cu, hcu⟩ := own_type h6 hk
      rw [e, hc5.row] at hcu
      injection hcu with hcu
      injection hcu with _ h7
      exact absurd h7 (by decide)
    · simp at hi
  obtain ⟨_, _, _, _, _, z5, _, zf⟩ := fsC7 hc5.row
  have zf5 := zf 5
  have HLC : Hid (F.chg.length ≤ 3298534883328) := HS.out.ch
  obtain ⟨nc, hnc⟩ : ∃ nc, F.chg.length = nc := ⟨_, rfl⟩
  have HNC : Hid (F.chg.length = nc) := hnc
  rw [hnc] at hW5
  rw [hnc]
  clear HD3 k5 ho5 hb5 hcl hc5 s5 zf hnc
  go_upto_region 6 with fail
  obtain ⟨_, _, _, _, _, y5, _, yf⟩ := fsC7 HC5.out.row
  rw [HNC.out] at y5
  clear hW5 z5 zf5
  go_wp2
  go_loopw [34] (fun ci wr => ∃ (j : Nat) (Q : List (Nat × Nat × Value)), j ≤ nc ∧ ci = .int .i64 (j : Int) ∧ CL mb gl R1 R2 c P X F w Q j wr) (fun ci _ => nc - (intOf ci).toNat)
  case atStart => exact ⟨0, _, by omega, rfl, HC5.out⟩
  case round =>
    obtain ⟨j, Q, hjn, rfl, hcl⟩ := hrel
    have HCL : Hid (CL mb gl R1 R2 c P X F w Q j wr) := hcl
    clear hcl y5 yf
    by_cases hlt : j < nc
    · obtain ⟨o0, ho0⟩ : ∃ o0 : Nat, 0 = o0 := ⟨_, rfl⟩
      have HO0 : Hid (0 = o0) := ho0
      have hj : j < F.chg.length := by rw [HNC.out]; exact hlt
      obtain ⟨gP, hP⟩ : ∃ gP, P = some ⟨gP, o0, none⟩ := by
        rcases HCL.out.ch.2 with ⟨_, h0⟩ | ⟨gP, cap, cur, e, _⟩
        · rw [h0] at hj; exact absurd hj (Nat.not_lt_zero _)
        · refine ⟨gP, ?_⟩
          injection e with e
          rw [e, ho0]
      subst hP
      obtain ⟨i, hi, hat⟩ := chM_at HF.out.ok (twB Q) hj
      have hlc : j < (chM F X (twB Q) j).length := by rw [chM_len HF.out.ok]; exact hj
      obtain ⟨E, o, c', he, hcell⟩ := (KR.own (E := pgE) HCL.out.ch (chM_len HF.out.ok _ _).symm).cell pgOk hlc
      obtain ⟨pc, hpc⟩ : ∃ pc, pcOf F.chg[j] (X.fb i) = pc := ⟨_, rfl⟩
      have hel : (chM F X (twB Q) j)[j] = pc := by
        rw [List.getElem?_eq_getElem hlc] at hat
        injection hat with hat
        rw [hat, hpc]
      rw [hel] at hcell
      have he1 : gP = E ∧ o0 = o := by
        injection he with he _ _
        injection he with he
        injection he with h1 h2
        exact ⟨h1, h2⟩
      obtain ⟨rfl, rfl⟩ := he1
      have x0 : wr.cell? ⟨gP, o0 + j * 3, none⟩ = some (.string pc.n) := hcell 0 _ rfl
      have x1 : wr.cell? ⟨gP, o0 + j * 3 + 1, none⟩ = some (.string pc.t) := hcell 1 _ rfl
      have x2 : wr.cell? ⟨gP, o0 + j * 3 + 2, none⟩ = some (ptr (some pc.b)) := hcell 2 _ rfl
      have hpb : pc.b = X.fb i := by rw [← hpc, pcOf_bb]
      have hz2 : (0 : Int) ≤ (j : Int) := by omega
      have hz3 : (j : Int) < (nc : Int) := by omega
      have hncb : nc ≤ 3298534883328 := by rw [← HNC.out]; exact HLC.out
      have hiw : IntKind.i64.wrap ((j : Int) + 1) = (j : Int) + 1 := by rw [IntKind.wrap_i64] <;> omega
      obtain ⟨V, hV⟩ : ∃ V, wr.heap.size = V := ⟨_, rfl⟩
      obtain ⟨Wv, hWv⟩ : ∃ Wv, wr.alloc (.cells #[.string pc.n, .string pc.t, ptr (some pc.b)] 75) = Wv := ⟨_, rfl⟩
      have hbv : Below wr.heap.size wr Wv := by rw [← hWv]; exact (Below.refl _ _).alloc (Nat.le_refl _) _
      have hv2 : Wv.heap[V]? = some (.cells #[.string pc.n, .string pc.t, ptr (some pc.b)] 75) := by rw [← hWv, ← hV]; exact one_alloc _ _
      have hclv := HCL.out.on hbv
      have hcld : CL mb gl R1 R2 c (some ⟨gP, o0, none⟩) X F w Q j Wv.drew := hclv.on (below_dn (Below.refl _ _) 1)
      have hlive : Live F X i := Or.inr (Or.inr (List.mem_of_getElem? hi))
      have HTW0 : Hid (Calls Tryz.prog 32 #[ptr (some (X.fb i)), .map (some mb)] Wv.drew fun e w' => TwR w.heap.size mb X F Q i Wv.drew e w') := twin_any g i mb w.heap.size X F Q Wv.drew (HF.out.toFsC.mod hcld.md (fun _ q => q.elim)) hcld.tw hcld.md.size hlive
      have HNX : Hid (∀ E w3, ModP (fun k => k = mb) Wv.drew w3 → TwI w.heap.size w3 mb X F (Q ++ E) → (∃ q ∈ Q ++ E, q.1 = i) → (w3.cell? ⟨gl, 5, none⟩ = some (.slice (some ⟨gP, o0, none⟩) nc c) ∧ w3.cell? ⟨V, 2, none⟩ = some (ptr (some pc.b)) ∧ (w3.cell? ⟨gP, o0 + j * 3 + 2, none⟩).isSome = true ∧ w3.frozen? ⟨gP, o0 + j * 3 + 2, none⟩ = false) ∧ CL mb gl R1 R2 c (some ⟨gP, o0, none⟩) X F w (Q ++ E) (j + 1) (w3.setCell ⟨gP, o0 + j * 3 + 2, none⟩ (ptr (some (twB (Q ++ E) i))))) := fun E w3 q1 q2 q3 => by
        refine ⟨⟨?_, ?_, ?_⟩, ?_⟩
        · have := (fsC7 (q1.row hcld.row (hcld.tw.tm.block hcld.row))).2.2.2.2.2.1
          rw [HNC.out] at this
          exact this
        · have hvd : Wv.drew.heap[V]? = some (.cells #[.string pc.n, .string pc.t, ptr (some pc.b)] 75) := hv2
          exact (row3 (q1.row hvd (hcld.tw.tm.block hvd))).2.2.1
        · have hch3 : w3.ownsRow w.heap.size 75 3 (.slice (some ⟨gP, o0, none⟩) F.chg.length c) F.chg.length (pgE.fl (chM F X (twB Q) j)) := own_to hcld.ch (fun k hk => by
            obtain ⟨cur, hc⟩ := own_type hcld.ch hk
            exact q1.oth k (row_lt hc) (hcld.tw.tm.block hc))
          obtain ⟨E', o', c'', he', hcell'⟩ := (KR.own (E := pgE) hch3 (chM_len HF.out.ok _ _).symm).cell pgOk hlc
          rw [hel] at hcell'
          have he2 : gP = E' ∧ o0 = o' := by
            injection he' with he _ _
            injection he with he
            injection he with h1 h2
            exact ⟨h1, h2⟩
          obtain ⟨rfl, rfl⟩ := he2
          have e9 : w3.cell? ⟨gP, o0 + j * 3 + 2, none⟩ = some (ptr (some pc.b)) := hcell' 2 _ rfl
          rw [e9]
          refine ⟨rfl, ?_⟩
          obtain ⟨cu, hcu⟩ := own_type hch3 (k := gP) rfl
          exact frozen_of_row _ _ _ _ _ hcu
        · have h9 := HO0.out
          subst h9
          have := CL.step hcld HF.out.ok hj hi q1 q2 q3
          rw [Nat.zero_add]
          exact this
      have y0 : Wv.drew.cell? ⟨gl, 5, none⟩ = some (.slice (some ⟨gP, o0, none⟩) nc c) := by
        have := (fsC7 hcld.row).2.2.2.2.2.1
        rw [HNC.out] at this
        exact this
      have y1 : Wv.drew.cell? ⟨V, 2, none⟩ = some (.pointer (some ⟨pc.b, 0, none⟩)) := (row3 hv2).2.2.1
      have HTW : Hid (Calls Tryz.prog 32 #[.pointer (some ⟨pc.b, 0, none⟩), .map (some mb)] Wv.drew fun e w' => ∃ E tb, e = .returned (.pointer (some ⟨tb, 0, none⟩)) ∧ ((w'.cell? ⟨gl, 5, none⟩ = some (.slice (some ⟨gP, o0, none⟩) nc c) ∧ w'.cell? ⟨V, 2, none⟩ = some (.pointer (some ⟨pc.b, 0, none⟩)) ∧ (w'.cell? ⟨gP, o0 + j * 3 + 2, none⟩).isSome = true ∧ w'.frozen? ⟨gP, o0 + j * 3 + 2, none⟩ = false) ∧ CL mb gl R1 R2 c (some ⟨gP, o0, none⟩) X F w (Q ++ E) (j + 1) (w'.setCell ⟨gP, o0 + j * 3 + 2, none⟩ (.pointer (some ⟨tb, 0, none⟩))))) := by
        have h9 := HTW0.out
        rw [← hpb] at h9
        refine (show Calls _ _ _ _ _ from h9).mono ?_
        rintro e w' ⟨E, rfl, q2, q3, q1⟩
        exact ⟨E, _, rfl, HNX.out E w' q1 q2 q3⟩
      have hWv' : wr.alloc (.cells #[.string pc.n, .string pc.t, .pointer (some ⟨pc.b, 0, none⟩)] 75) = Wv := hWv
      clear hj hi hat hlc he hcell hel hpb hbv hv2 hclv hcld hlive HTW0 HNX hWv hpc ho0
      generalize pc.n = pn at *
      generalize pc.t = pt at *
      generalize pc.b = pb at *
      unfold ptr at x2
      go_upto_region 9 with (refine ldC gP (o0 + j * 3) (.string pn) (.string pt) (.pointer (some ⟨pb, 0, none⟩)) _ rfl rfl rfl x0 x1 x2 ?_)
      clear x0 x1 x2 hWv'
      go_region_law (first
        | (go_simp; (with_reducible refine (show Calls _ _ _ _ _ from HTW.out).mono ?_); rintro e w3 ⟨E', tb, rfl, ⟨u0, u1, u2, u3⟩, u4⟩; obtain ⟨u5, u6⟩ := Option.isSome_iff_exists.1 u2))
      all_goals
        have HU : Hid (CL mb gl R1 R2 c (some ⟨gP, o0, none⟩) X F w (Q ++ E') (j + 1) (w3.setCell ⟨gP, o0 + j * 3 + 2, none⟩ (.pointer (some ⟨tb, 0, none⟩)))) := u4
        clear u4 u0 u1 u2 u3 u6 y0 y1
        go_wp2
        go_roundw
        case rel => exact ⟨j + 1, _, hlt, rfl, HU.out⟩
        case measure => simp [intOf]; omega
    · have hjn' : j = nc := by omega
      subst hjn'
      clear hlt
      have hfw : FsC wr g X F := HF.out.toFsC.mod HCL.out.md (fun _ q => q.elim)
      have HQL : Hid (X.qs.length ≤ 3298534883328) := HS.out.qs
      have HD4 : Hid _ := cloneQ_any X.qv X.qs HQL.out wr hfw.row.kr
      obtain ⟨_, _, _, _, _, _, k6, _⟩ := fsC7 hfw.blk
      have HCE : Hid (CL mb gl R1 R2 c P X F w Q F.chg.length wr) := by rw [HNC.out]; exact HCL.out
      clear hfw
      go_wp2_with fail
      refine (show Calls _ _ _ _ _ from HD4.out).mono ?_
      rintro e w7 ⟨P7, c7, rfl, ho7, hb7⟩
      have hr7 := (hb7.block gl (row_lt HCE.out.row)).trans HCE.out.row
      obtain ⟨_, _, _, _, _, _, z6, zf⟩ := fsC7 hr7
      have zf6 := zf 6
      have s7 := fs_set hr7 6 (.slice P7 X.qs.length c7)
      obtain ⟨W8, hW8⟩ : ∃ W8, w7.setCell ⟨gl, 6, none⟩ (.slice P7 X.qs.length c7) = W8 := ⟨_, rfl⟩
      rw [hW8] at s7
      have HFIN : Hid (∃ X', FsP W8 gl X' F ∧ ModP (fun _ => False) w W8 ∧ (∀ k, Own gl F X' k → w.heap.size ≤ k) ∧ X'.qs = X.qs) := by
        obtain ⟨r1, r2, r3⟩ := CL.fin HCE.out HF.out hb7 ho7 s7.2 s7.1
        exact ⟨_, r1, r2, r3, rfl⟩
      clear ho7 hb7 hr7 s7 zf HD4 k6
      go_wp2
      go_returns
      obtain ⟨X', r⟩ := HFIN.out
      exact ⟨gl, X', rfl, r⟩
end Go.Proofs.YtlheilkofibogaaGreat
namespace Go.Proofs.YtlheilkofibogaaGreat
open Go.RowKit Go.Maps
set_option linter.unusedVariables false
set_option linter.unusedSimpArgs false
/-- a beginning. -/
def Pre (v u : ByteArray) : Prop := v.size ≤ u.size ∧ u.extract 0 v.size = v
theorem Pre.refl (v : ByteArray) : Pre v v := ⟨Nat.le_refl _, ext_all v⟩
theorem ext_ext (c : ByteArray) (m n : Nat) (h : n ≤ m) : (c.extract 0 m).extract 0 n = c.extract 0 n := by
  refine ByteArray.ext (Array.toList_inj.1 ?_)
  rw [ext_any, ext_any, ext_any]
  simp only [List.drop_zero, Nat.sub_zero]
  rw [List.take_take, Nat.min_eq_left h]
theorem ext_len (c : ByteArray) (m : Nat) : (c.extract 0 m).size = min m c.size := by simp
theorem Pre.trans {a b c : ByteArray} (h : Pre a b) (k : Pre b c) : Pre a c := ⟨Nat.le_trans h.1 k.1, by rw [← ext_ext c b.size a.size h.1, k.2, h.2]⟩
theorem Pre.cut (d : ByteArray) (n : Nat) : Pre (d.extract 0 n) d := by
  refine ⟨by rw [ext_len]; omega, ?_⟩
  rw [ext_len]
  by_cases h : n ≤ d.size
  · rw [Nat.min_eq_left h]
  · rw [Nat.min_eq_right (by omega), ext_all]
    refine (ByteArray.ext (Array.toList_inj.1 ?_)).symm
    rw [ext_any, List.drop_zero, Nat.sub_zero, List.take_of_length_le]
    simp; omega
theorem Pre.cuts (d : ByteArray) (m n : Nat) (h : m ≤ n) : Pre (d.extract 0 m) (d.extract 0 n) := by
  have h1 := Pre.cut (d.extract 0 n) m
  rw [ext_ext d n m h] at h1
  exact h1
/-- Nothing is planned, and the machine is up. -/
structure Calm (F : Fs) : Prop where
  up : F.down = false
  fl : F.fails = []
  cr : F.crash = 0
theorem stepM_calm {F : Fs} (h : Calm F) : stepM F = (up1 F, 0, 0) := by
  unfold stepM
  simp only []
  have hm : failM F.fails (F.steps + 1) = none := by rw [h.fl]; rfl
  rw [if_neg (by rw [h.cr]; omega), hm]
  rfl
/-- What a call makes of what is there. -/
def Mv (o : Po) (F F' : Fs) : Prop := Calm F' ∧
  ((o.k ≠ 4 ∧ F'.dir = F.dir ∧ F'.sure = F.sure ∧ F'.chg = F.chg ∧ F'.files = F.files)
  ∨ (o.k = 4 ∧ F'.dir = F.dir ∧ F'.sure = F.dir ∧ F'.chg = [] ∧ F'.files = F.files)
  ∨ (o.k ≠ 4 ∧ ∃ c more, F'.chg = F.chg ++ [c] ∧ F'.sure = F.sure ∧ F'.files = F.files ++ more)
  ∨ (o.k ≠ 4 ∧ F'.chg = F.chg ∧ F'.sure = F.sure ∧ F'.dir = F.dir ∧ ∃ i x, F'.files = F.files.set i x ∧ ∃ y ∈ F.dir, y.2.toNat = i))
theorem Mv.stay {o : Po} {F : Fs} (h : Calm F) (h4 : o.k ≠ 4) : Mv o F F := ⟨h, Or.inl ⟨h4, rfl, rfl, rfl, rfl⟩⟩
theorem mv_ite {o : Po} {F : Fs} {c : Prop} [Decidable c] {a b : Fs × Int} (ha : c → Mv o F a.1) (hb : ¬ c → Mv o F b.1) : Mv o F (if c then a else b).1 := by
  split
  · rename_i h; exact ha h
  · rename_i h; exact hb h
theorem calm_up {F : Fs} (h : Calm F) : Calm (up1 F) := ⟨h.up, h.fl, h.cr⟩
theorem has_mem {F : Fs} {n : ByteArray} (h : hasM F n = 0) : ∃ y ∈ F.dir, y.2.toNat = (findM F.dir n).toNat := by
  have hf : ¬ findM F.dir n < 0 := fun hn => by
    unfold hasM at h
    rw [if_pos hn] at h
    split at h
    · cases h
    · split at h <;> cases h
  obtain ⟨y, hy, _, e⟩ := findM_mem hf
  exact ⟨y, hy, by rw [e]⟩
theorem createM_mv {o : Po} {F : Fs} (h : Calm F) (h4 : o.k ≠ 4) (n : ByteArray) : Mv o F (createM F n).1 := by
  unfold createM
  refine mv_ite (fun _ => Mv.stay h h4) (fun _ => mv_ite (fun _ => mv_ite (fun _ => Mv.stay h h4) (fun _ => ?_)) (fun _ => Mv.stay h h4))
  simp only [stepM_calm h, if_true]
  exact ⟨⟨h.up, h.fl, h.cr⟩, Or.inr (Or.inr (Or.inl ⟨h4, _, _, rfl, rfl, rfl⟩))⟩
theorem appendM_mv {o : Po} {F : Fs} (h : Calm F) (h4 : o.k ≠ 4) (n d : ByteArray) : Mv o F (appendM F n d).1 := by
  unfold appendM
  refine mv_ite (fun h0 => ?_) (fun _ => Mv.stay h h4)
  refine mv_ite (fun _ => Mv.stay h h4) (fun _ => ?_)
  simp only [stepM_calm h]
  exact ⟨⟨h.up, h.fl, h.cr⟩, Or.inr (Or.inr (Or.inr ⟨h4, rfl, rfl, rfl, _, _, rfl, has_mem h0⟩))⟩
theorem syncM_mv {o : Po} {F : Fs} (h : Calm F) (h4 : o.k ≠ 4) (n : ByteArray) : Mv o F (syncM F n).1 := by
  unfold syncM
  refine mv_ite (fun h0 => ?_) (fun _ => Mv.stay h h4)
  simp only [stepM_calm h, if_true]
  exact ⟨⟨h.up, h.fl, h.cr⟩, Or.inr (Or.inr (Or.inr ⟨h4, rfl, rfl, rfl, _, _, rfl, has_mem h0⟩))⟩
theorem renameM_mv {o : Po} {F : Fs} (h : Calm F) (h4 : o.k ≠ 4) (n t : ByteArray) : Mv o F (renameM F n t).1 := by
  unfold renameM
  refine mv_ite (fun _ => Mv.stay h h4) (fun _ => mv_ite (fun _ => ?_) (fun _ => Mv.stay h h4))
  simp only [stepM_calm h, if_true]
  exact ⟨⟨h.up, h.fl, h.cr⟩, Or.inr (Or.inr (Or.inl ⟨h4, _, [], rfl, rfl, by rw [List.append_nil]; rfl⟩))⟩
theorem removeM_mv {o : Po} {F : Fs} (h : Calm F) (h4 : o.k ≠ 4) (n : ByteArray) : Mv o F (removeM F n).1 := by
  unfold removeM
  refine mv_ite (fun _ => ?_) (fun _ => Mv.stay h h4)
  simp only [stepM_calm h, if_true]
  exact ⟨⟨h.up, h.fl, h.cr⟩, Or.inr (Or.inr (Or.inl ⟨h4, _, [], rfl, rfl, by rw [List.append_nil]; rfl⟩))⟩
theorem syncDirM_mv {o : Po} {F : Fs} (h : Calm F) (h4 : o.k = 4) : Mv o F (syncDirM F).1 := by
  unfold syncDirM
  rw [h.up]
  simp only [stepM_calm h, if_true, Bool.false_eq_true, if_false]
  exact ⟨⟨h.up, h.fl, h.cr⟩, Or.inr (Or.inl ⟨h4, rfl, rfl, rfl, rfl⟩)⟩
theorem startM_mv {o : Po} {F : Fs} (h : Calm F) (h4 : o.k ≠ 4) : Mv o F (startM F).1 := by
  unfold startM
  rw [h.up]
  exact Mv.stay h h4
theorem done_mv {F : Fs} (h : Calm F) (o : Po) (h6 : o.k ≠ 6) (h7 : o.k ≠ 7) : Mv o F (doneM F o).1 := by
  unfold doneM
  refine mv_ite (fun e => createM_mv h (by omega) _) (fun _ => mv_ite (fun e => appendM_mv h (by omega) _ _) (fun _ => mv_ite (fun e => syncM_mv h (by omega) _) (fun _ => mv_ite (fun e => renameM_mv h (by omega) _ _) (fun _ => mv_ite (fun e => syncDirM_mv h e) (fun e4 => mv_ite (fun e => removeM_mv h (by omega) _) (fun _ => mv_ite (fun e => absurd e h6) (fun _ => mv_ite (fun e => absurd e h7) (fun _ => mv_ite (fun e => startM_mv h (by omega)) (fun _ => Mv.stay h e4)))))))))
/-- What there was at some moment since the last SyncDir. -/
def Ev (F : Fs) (E : List (ByteArray × ByteArray)) : Prop := ∀ j, j ≤ F.chg.length → ∀ x ∈ dirK F j, (∃ e ∈ E, e.1 = x.1) ∧ (∃ e ∈ E, Pre (fileAt F x.2.toNat).d e.2)
theorem Ev.mono {F : Fs} {E E' : List (ByteArray × ByteArray)} (h : Ev F E) (hs : ∀ e ∈ E, e ∈ E') : Ev F E' := fun j hj x hx => by
  obtain ⟨⟨e, he, h1⟩, ⟨e', he', h2⟩⟩ := h j hj x hx
  exact ⟨⟨e, hs e he, h1⟩, ⟨e', hs e' he', h2⟩⟩
theorem Ev.new : Ev newM [] := fun j hj x hx => by
  have : j = 0 := by simpa [newM] using hj
  subst this
  simp [dirK, newM] at hx
theorem now_mem {F : Fs} {x : Sl} (h : x ∈ F.dir) : (x.1, (fileAt F x.2.toNat).d) ∈ nowM F := List.mem_map.2 ⟨x, h, rfl⟩
theorem Ev.step {o : Po} {F F' : Fs} {E : List (ByteArray × ByteArray)} {cf cf' : List Nat} (hf : FOk F cf) (hf' : FOk F' cf') (h : Ev F E) (hm : Mv o F F') : Ev F' ((if o.k = 4 then [] else E) ++ nowM F') := by
  intro j hj x hx
  have hdir : x ∈ F'.dir → (∃ e ∈ (if o.k = 4 then [] else E) ++ nowM F', e.1 = x.1) ∧ (∃ e ∈ (if o.k = 4 then [] else E) ++ nowM F', Pre (fileAt F' x.2.toNat).d e.2) := fun hd => ⟨⟨_, List.mem_append_right _ (now_mem hd), rfl⟩, ⟨_, List.mem_append_right _ (now_mem hd), Pre.refl _⟩⟩
  obtain ⟨_, ⟨h4, hd, hs, hc, hfl⟩ | ⟨h4, hd, hs, hc, hfl⟩ | ⟨h4, c, more, hc, hs, hfl⟩ | ⟨h4, hc, hs, hd, i, y, hfl, z, hz, hzi⟩⟩ := hm
  · rw [if_neg h4]
    have hk : dirK F' j = dirK F j := by unfold dirK; rw [hc, hs]
    rw [hk] at hx
    rw [hc] at hj
    obtain ⟨⟨e, he, h1⟩, ⟨e', he', h2⟩⟩ := h j hj x hx
    exact ⟨⟨e, List.mem_append_left _ he, h1⟩, ⟨e', List.mem_append_left _ he', by unfold fileAt at h2 ⊢; rw [hfl]; exact h2⟩⟩
  · rw [hc] at hj
    have hj0 : j = 0 := by simpa using hj
    subst hj0
    refine hdir ?_
    have : dirK F' 0 = F'.sure := rfl
    rw [this, hs] at hx
    rw [hd]; exact hx
  · by_cases hjl : j ≤ F.chg.length
    · rw [if_neg h4]
      have hk : dirK F' j = dirK F j := by unfold dirK; rw [hc, hs, List.take_append_of_le_length hjl]
      rw [hk] at hx
      obtain ⟨⟨e, he, h1⟩, ⟨e', he', h2⟩⟩ := h j hjl x hx
      have hlt := (hf.dirs j hjl).lt x hx
      have hge := (hf.dirs j hjl).ge x hx
      refine ⟨⟨e, List.mem_append_left _ he, h1⟩, ⟨e', List.mem_append_left _ he', ?_⟩⟩
      have : fileAt F' x.2.toNat = fileAt F x.2.toNat := by
        unfold fileAt
        rw [hfl, List.getD_eq_getElem?_getD, List.getD_eq_getElem?_getD, List.getElem?_append_left (by omega)]
      rw [this]; exact h2
    · refine hdir ?_
      have hje : j = F'.chg.length := by
        have : F'.chg.length = F.chg.length + 1 := by rw [hc, List.length_append]; rfl
        omega
      rw [hje, hf'.now] at hx
      exact hx
  · rw [if_neg h4]
    have hk : dirK F' j = dirK F j := by unfold dirK; rw [hc, hs]
    rw [hk] at hx
    rw [hc] at hj
    obtain ⟨⟨e, he, h1⟩, ⟨e', he', h2⟩⟩ := h j hj x hx
    refine ⟨⟨e, List.mem_append_left _ he, h1⟩, ?_⟩
    by_cases hxi : x.2.toNat = i
    · have hzd : z ∈ F'.dir := by rw [hd]; exact hz
      exact ⟨_, List.mem_append_right _ (now_mem hzd), by rw [hzi, ← hxi]; exact Pre.refl _⟩
    · refine ⟨e', List.mem_append_left _ he', ?_⟩
      have : fileAt F' x.2.toNat = fileAt F x.2.toNat := by
        unfold fileAt
        rw [hfl, set_getD, if_neg (fun q => hxi q.1.symm)]
      rw [this]; exact h2
theorem downF_at (p : List Int) : ∀ (l : List Fi) (k i : Nat) (x : Fi), l[i]? = some x → (downF p k l)[i]? = some (cutF x (pickM p (k + i + 1) (x.d.size - x.s)))
  | [], _, _, _, h => by simp at h
  | y :: l, k, 0, x, h => by
    have : y = x := by simpa using h
    subst this
    simp [downF]
  | y :: l, k, i + 1, x, h => by
    have := downF_at p l (k + 1) i x (by simpa using h)
    simp only [downF, List.getElem?_cons_succ]
    rw [this]
    have : k + 1 + i + 1 = k + (i + 1) + 1 := by omega
    rw [this]
theorem down_file {F : Fs} (p : List Int) {i : Nat} (h : i < F.files.length) : fileAt (downM F p) i = cutF (fileAt F i) (pickM p (i + 1) ((fileAt F i).d.size - (fileAt F i).s)) := by
  unfold fileAt downM
  simp only
  have h1 := downF_at p F.files 0 i _ (List.getElem?_eq_getElem h)
  rw [List.getD_eq_getElem?_getD, h1, List.getD_eq_getElem?_getD, List.getElem?_eq_getElem h, Nat.zero_add]
  rfl
/-- What a crash leaves was there. -/
theorem down_was {F : Fs} {cf : List Nat} {E : List (ByteArray × ByteArray)} (hf : FOk F cf) (h : Ev F E) (p : List Int) {y : ByteArray × ByteArray} (hy : y ∈ nowM (downM F p)) : (∃ e ∈ E, e.1 = y.1) ∧ (∃ e ∈ E, Pre y.2 e.2) := by
  obtain ⟨x, hx, rfl⟩ := List.mem_map.1 hy
  have hj : pickM p 0 F.chg.length ≤ F.chg.length := pkM_le p 0 _
  have hx' : x ∈ dirK F (pickM p 0 F.chg.length) := hx
  obtain ⟨h1, e, he, h2⟩ := h _ hj x hx'
  have hlt := (hf.dirs _ hj).lt x hx'
  have hge := (hf.dirs _ hj).ge x hx'
  refine ⟨h1, e, he, Pre.trans ?_ h2⟩
  have := down_file (F := F) p (i := x.2.toNat) (by omega)
  show Pre (fileAt (downM F p) x.2.toNat).d _
  rw [this]
  exact Pre.cut _ _
/-- No change of the directory survives. -/
theorem down_safe {F : Fs} {cf : List Nat} (hf : FOk F cf) (p : List Int) (h0 : pickM p 0 F.chg.length = 0) : (nowM (downM F p)).length = (safeM F).length ∧ ∀ (k : Nat) (x : ByteArray × ByteArray), (safeM F)[k]? = some x → ∃ v, (nowM (downM F p)).find? (fun y => decide (y.1 = x.1)) = some (x.1, v) ∧ Pre x.2 v := by
  have hdir : (downM F p).dir = F.sure := by
    show (F.chg.take (pickM p 0 F.chg.length)).foldl afterM F.sure = F.sure
    rw [h0]; rfl
  refine ⟨by rw [now_len, safe_len, hdir], fun k x hx => ?_⟩
  have hk : k < F.sure.length := by
    have := (List.getElem?_eq_some_iff.1 hx).1
    rwa [safe_len] at this
  have hx' : x = (F.sure[k].1, (fileAt F F.sure[k].2.toNat).d.extract 0 (fileAt F F.sure[k].2.toNat).s) := by
    unfold safeM at hx
    rw [List.getElem?_map, List.getElem?_eq_getElem hk] at hx
    simpa [fileAt] using hx.symm
  have hin : F.sure[k] ∈ F.sure := List.getElem_mem hk
  have hlt := hf.sure.lt _ hin
  have hge := hf.sure.ge _ hin
  refine ⟨(fileAt (downM F p) F.sure[k].2.toNat).d, ?_, ?_⟩
  · have hnow : nowM (downM F p) = F.sure.map (fun y => (y.1, (fileAt (downM F p) y.2.toNat).d)) := by
      unfold nowM; rw [hdir]; rfl
    rw [hnow, hx', List.find?_map]
    have hfd : F.sure.find? ((fun y : ByteArray × ByteArray => decide (y.1 = F.sure[k].1)) ∘ fun y => (y.1, (fileAt (downM F p) y.2.toNat).d)) = some F.sure[k] := by
      show F.sure.find? (fun y => decide (y.1 = F.sure[k].1)) = some F.sure[k]
      have hr := hf.sure.rise
      rcases hq : F.sure.find? (fun y => decide (y.1 = F.sure[k].1)) with _ | z
      · have := List.find?_eq_none.1 hq F.sure[k] hin
        simp at this
      · have hz1 := List.mem_of_find?_eq_some hq
        have hz2 : z.1 = F.sure[k].1 := by simpa using List.find?_some hq
        have e1 := findM_in hr hz1
        have e2 := findM_in hr hin
        rw [hz2] at e1
        have : z = F.sure[k] := Prod.ext hz2 (by rw [← e1, ← e2])
        rw [hq, this]
    rw [hfd]
    rfl
  · rw [hx', down_file p (by omega)]
    exact Pre.cuts _ _ _ (Nat.le_add_right _ _)
end Go.Proofs.YtlheilkofibogaaGreat
namespace Go.Proofs.YtlheilkofibogaaGreat
open Go.RowKit Go.Maps
set_option linter.unusedVariables false
set_option linter.unusedSimpArgs false
/-- Nothing can be lost. -/
structure Tight (F : Fs) : Prop where
  ch : F.chg = []
  su : F.sure = F.dir
  sz : ∀ x ∈ F.dir, (fileAt F x.2.toNat).s = (fileAt F x.2.toNat).d.size
theorem now_fa (F : Fs) : nowM F = F.dir.map fun x => (x.1, (fileAt F x.2.toNat).d) := rfl
theorem safe_fa (F : Fs) : safeM F = F.sure.map fun x => (x.1, (fileAt F x.2.toNat).d.extract 0 (fileAt F x.2.toNat).s) := rfl
theorem Tight.safe {F : Fs} (h : Tight F) : safeM F = nowM F := by
  rw [now_fa, safe_fa, h.su]
  exact List.map_congr_left (fun x hx => by rw [h.sz x hx, ext_all])
theorem cut_size (x : Fi) (k : Nat) (h : x.s + k ≤ x.d.size) : (cutF x k).s = (cutF x k).d.size := by
  show x.s + k = (x.d.extract 0 (x.s + k)).size
  rw [ext_len]; omega
theorem down_dirK (F : Fs) (p : List Int) : (downM F p).dir = dirK F (pickM p 0 F.chg.length) := rfl
theorem down_tight {F : Fs} {cf : List Nat} (hf : FOk F cf) (hs : ∀ j, j ≤ F.chg.length → ∀ x ∈ dirK F j, (fileAt F x.2.toNat).s ≤ (fileAt F x.2.toNat).d.size) (p : List Int) : Tight (downM F p) := by
  have hj : pickM p 0 F.chg.length ≤ F.chg.length := pkM_le p 0 _
  refine ⟨rfl, rfl, fun x hx => ?_⟩
  rw [down_dirK] at hx
  have hlt : x.2.toNat < F.files.length := by
    have := (hf.dirs _ hj).lt x hx
    have := (hf.dirs _ hj).ge x hx
    omega
  rw [down_file p hlt]
  refine cut_size _ _ ?_
  have h1 := hs _ hj x hx
  have h2 := pkM_le p (x.2.toNat + 1) ((fileAt F x.2.toNat).d.size - (fileAt F x.2.toNat).s)
  omega
theorem down_nil {F : Fs} {cf : List Nat} (hf : FOk F cf) : nowM (downM F []) = safeM F := by
  rw [now_fa, safe_fa]
  have hd : (downM F []).dir = F.sure := by
    rw [down_dirK]
    have : pickM [] 0 F.chg.length = 0 := rfl
    rw [this]; rfl
  rw [hd]
  refine List.map_congr_left (fun x hx => ?_)
  have hlt : x.2.toNat < F.files.length := by
    have := hf.sure.lt x hx
    have := hf.sure.ge x hx
    omega
  rw [down_file [] hlt]
  have : pickM [] (x.2.toNat + 1) ((fileAt F x.2.toNat).d.size - (fileAt F x.2.toNat).s) = 0 := rfl
  rw [this]
  rfl
theorem Tight.down {F : Fs} {cf : List Nat} (h : Tight F) (hf : FOk F cf) (p : List Int) : nowM (downM F p) = nowM F := by
  rw [now_fa, now_fa]
  have hd : (downM F p).dir = F.dir := by
    rw [down_dirK, h.ch]
    show (List.take _ F.chg).foldl afterM F.sure = _
    rw [h.ch, h.su]; simp
  rw [hd]
  refine List.map_congr_left (fun x hx => ?_)
  have hlt : x.2.toNat < F.files.length := by
    have := hf.dir.lt x hx
    have := hf.dir.ge x hx
    omega
  rw [down_file p hlt]
  have h1 := h.sz x hx
  have h2 := pkM_le p (x.2.toNat + 1) ((fileAt F x.2.toNat).d.size - (fileAt F x.2.toNat).s)
  have h3 : pickM p (x.2.toNat + 1) ((fileAt F x.2.toNat).d.size - (fileAt F x.2.toNat).s) = 0 := by omega
  rw [h3]
  show (x.1, (fileAt F x.2.toNat).d.extract 0 ((fileAt F x.2.toNat).s + 0)) = _
  rw [Nat.add_zero, h1, ext_all]
theorem Tight.start {F : Fs} (h : Tight F) : Tight (startM F).1 := by
  unfold startM
  split
  · exact ⟨h.ch, h.su, h.sz⟩
  · exact h
theorem now_start (F : Fs) : nowM (startM F).1 = nowM F := by
  unfold startM
  split <;> rfl
/-- Behind Sync of the first k names. -/
def SyP (F : Fs) (k : Nat) : Prop := ∀ x ∈ F.dir.take k, (fileAt F x.2.toNat).s = (fileAt F x.2.toNat).d.size
theorem stepM_zero {F : Fs} (h : (stepM F).2.1 = 0) : (stepM F).1 = up1 F := by
  rcases stepM_cases F with h1 | ⟨h1, _⟩ | ⟨_, h2⟩
  · rw [h1] at h; cases h
  · rw [h1] at h; cases h
  · exact h2
theorem syncM_zero {F : Fs} {n : ByteArray} (h : (syncM F n).2 = 0) : hasM F n = 0 ∧ (syncM F n).1 = { up1 F with files := F.files.set (findM F.dir n).toNat ⟨(fileAt F (findM F.dir n).toNat).d, (fileAt F (findM F.dir n).toNat).d.size⟩ } := by
  unfold syncM at h ⊢
  by_cases h0 : hasM F n = 0
  · rw [if_pos h0] at h ⊢
    by_cases h1 : (stepM F).2.1 = 0
    · simp only [h1, if_true] at h ⊢
      rw [stepM_zero h1]
      exact ⟨h0, rfl⟩
    · simp only [h1, if_false] at h
  · rw [if_neg h0] at h
    exact absurd h h0
theorem SyP.next {F : Fs} {cf : List Nat} {k : Nat} (hf : FOk F cf) (h : SyP F k) (hk : k < F.dir.length) (h0 : (syncM F (F.dir[k]).1).2 = 0) : (syncM F (F.dir[k]).1).1.dir = F.dir ∧ (syncM F (F.dir[k]).1).1.down = F.down ∧ SyP (syncM F (F.dir[k]).1).1 (k + 1) := by
  obtain ⟨h1, h2⟩ := syncM_zero h0
  have hfi := findM_in hf.dir.rise (List.getElem_mem hk)
  have hlt : (F.dir[k]).2.toNat < F.files.length := by
    have := hf.dir.lt _ (List.getElem_mem hk)
    have := hf.dir.ge _ (List.getElem_mem hk)
    omega
  rw [h2, hfi]
  refine ⟨rfl, rfl, fun x hx => ?_⟩
  have hx' : x ∈ F.dir.take (k + 1) := hx
  show ((F.files.set (F.dir[k]).2.toNat _).getD x.2.toNat ⟨⟨#[]⟩, 0⟩).s = ((F.files.set (F.dir[k]).2.toNat _).getD x.2.toNat ⟨⟨#[]⟩, 0⟩).d.size
  rw [set_getD]
  by_cases e : (F.dir[k]).2.toNat = x.2.toNat
  · rw [if_pos ⟨e, hlt⟩]
  · rw [if_neg (fun hh => e hh.1)]
    rw [List.take_succ_eq_append_getElem hk] at hx'
    rcases List.mem_append.1 hx' with h3 | h3
    · exact h x h3
    · have : x = F.dir[k] := by simpa using h3
      exact absurd (by rw [this]) e
theorem SyP.tight {F : Fs} (h : SyP F F.dir.length) (h0 : (syncDirM F).2 = 0) : Tight (syncDirM F).1 ∧ (syncDirM F).1.down = false ∧ (syncDirM F).1.dir = F.dir := by
  unfold syncDirM at h0 ⊢
  by_cases hd : F.down = true
  · rw [if_pos hd] at h0; cases h0
  · rw [if_neg hd] at h0 ⊢
    by_cases h1 : (stepM F).2.1 = 0
    · simp only [h1, if_true]
      rw [stepM_zero h1]
      refine ⟨⟨rfl, rfl, fun x hx => ?_⟩, ?_, rfl⟩
      · exact h x (by rw [List.take_length]; exact hx)
      · show F.down = false
        simpa using hd
    · simp only [h1, if_false] at h0
/-- List, of one that is up. -/
theorem List_any {w0 W : World} {g : Nat} {X : Gh} {F : Fs} {i : Nat} (h : St w0 W g X F i) (hu : F.down = false) : Calls Tryz.prog 14 #[ptr (some g)] W fun e w' => ∃ P c, e = .returned (.tuple #[.slice P F.dir.length c, .int .i64 0]) ∧ w'.ownsRow W.heap.size 9 1 (.slice P F.dir.length c) F.dir.length (psE.fl (F.dir.map (·.1))) ∧ Below W.heap.size W w' := by
  obtain ⟨c0, _, _, c3, _⟩ := h.fs.cells
  rw [hu] at c0
  have HNM : Hid _ := names_any X.mn F.dir.length (dirF F.dir X.fb) (F.dir.map (·.1)) (names_of h.fs.ok.dir X.fb) (by have := h.fs.ok.dir.few; omega) (fun m hm => by
    obtain ⟨x, hx, rfl⟩ := List.mem_map.1 hm
    have := (named_size (h.fs.ok.dir.nam x hx)).2
    omega) W h.fs.now_k
  clear h hu
  show Calls Tryz.prog 14 #[.pointer (some ⟨g, 0, none⟩)] W _
  go_enter Tryz.func14, Tryz.ntmps14
  go_wp2_with fail
  refine (show Calls _ _ _ _ _ from HNM.out).mono ?_
  rintro e w' ⟨v, rfl, ho, hb⟩
  rw [List.length_map] at ho
  obtain ⟨P, c, rfl⟩ := own_form ho
  have HO : Hid (w'.ownsRow W.heap.size 9 1 (.slice P F.dir.length c) F.dir.length (psE.fl (F.dir.map (·.1)))) := ho
  clear ho HNM
  go_wp2
  go_returns
  exact ⟨P, c, rfl, HO.out, hb⟩
end Go.Proofs.YtlheilkofibogaaGreat
