import Derived.Test.YtbgbmfmgdgalbaaGreatDoorM19
import Derived.Test.YtbgbmfmgdgalbaaGreatDoorM16
import Derived.Test.YtbgbmfmgdgalbaaGreatDoorM00
import Derived.Deep.RegionHeld3
import Derived.Deep.MidRow
import Derived.Deep.Cut
namespace Go.Proofs.YtbgbmfmgdgalbaaGreatDoor
open Go.RowKit Go.Maps
set_option linter.unusedVariables false
set_option linter.unusedSimpArgs false
theorem own_down {w:World} {b b' e k n:Nat} {v:Value} {xs:List Value} (h:w.ownsRow b e k v n xs) (hb:b' ≤ b):w.ownsRow b' e k v n xs:=by
  obtain ⟨h0,h1 | ⟨g,cap,cur,h1,h2,r⟩⟩:=h
  · exact ⟨h0,Or.inl h1⟩
  · exact ⟨h0,Or.inr ⟨g,cap,cur,h1,Nat.le_trans hb h2,r⟩⟩
set_option maxHeartbeats 4000000 in
set_option maxRecDepth 100000 in
theorem Clone_any (g:Nat) (X:Gh) (F:Fs) (w:World) (h:FsP w g X F) (hs:Sm F X):Calls Tryz.prog 21 #[ptr (some g)] w fun e w'=>∃ gl X',e=.returned (ptr (some gl))∧FsP w' gl X' F∧ModP (fun _=>False) w w'∧(∀ k,Own gl F X' k → w.heap.size ≤ k)∧X'.qs=X.qs:=by
  obtain ⟨Cv,kc,hcv⟩:=own_form h.chg
  obtain ⟨C,hC⟩:∃ C:Array Value,C=#[.bool F.down,.int .i64 (F.steps:Int),.int .i64 (F.files.length:Int),.map (some X.mn),.map (some X.ms),X.cv,X.qv]:=⟨_,rfl⟩
  have HC:Hid (C=#[.bool F.down,.int .i64 (F.steps:Int),.int .i64 (F.files.length:Int),.map (some X.mn),.map (some X.ms),X.cv,X.qv]):=hC
  have HCS:Hid (C.size=7):=by show _=_; rw [hC]; rfl
  have hq1:X.qv.oneCell'=true:=by
    rcases h.row with ⟨e,_⟩ | ⟨_,_,_,_,e,_⟩ <;> (rw [e]; rfl)
  have hc1:X.cv.oneCell'=true:=by rw [hcv]; rfl
  have HC1:Hid (C.all (·.oneCell')=true):=by
    show _=_
    rw [hC]
    simp only [List.all_toArray,List.all_cons,List.all_nil,Bool.and_true,hq1,hc1]
    rfl
  have HCB:Hid (w.heap[g]?=some (.cells C 74)):=by show _=_; rw [hC]; exact h.blk
  obtain ⟨Z,hZ⟩:∃ Z,Z=zFs:=⟨_,rfl⟩
  have HZ:Hid (Z=zFs):=hZ
  have HZS:Hid (Z.size=7):=by show _=_; rw [hZ]; rfl
  have HF:Hid (FsP w g X F):=h
  have HS:Hid (Sm F X):=hs
  have HCV:Hid (X.cv=.slice Cv F.chg.length kc):=hcv
  clear h hs hC hZ hq1 hc1 hcv
  show Calls Tryz.prog 21 #[.pointer (some ⟨g,0,none⟩)] w _
  go_enter Tryz.func21,Tryz.ntmps21
  go_upto_region 2 with (first
    | (refine ldFs C g _ rfl rfl rfl HCB.out HCS.out ?_)
    | (refine alFs rfl rfl Z HZ.out ?_)
    | (refine stFs rfl _ _ rfl w.heap.size C Z rfl rfl HCS.out HC1.out HZS.out (one_alloc _ _) ?_; intro Wo hro hoo))
  obtain ⟨gl,hgl⟩:∃ gl,w.heap.size=gl:=⟨_,rfl⟩
  have HGL:Hid (w.heap.size=gl):=hgl
  have hbo:Below w.heap.size w Wo:=((Below.refl _ w).alloc (Nat.le_refl _) _).trans (hoo.below (Nat.le_refl _))
  rw [hgl] at hro
  rw [hgl]
  obtain ⟨W2,hW2⟩:∃ W2,Wo.alloc (.map #[] 0)=W2:=⟨_,rfl⟩
  obtain ⟨mb,hmb⟩:∃ mb,Wo.heap.size=mb:=⟨_,rfl⟩
  have hb2:Below Wo.heap.size Wo W2:=by rw [← hW2]; exact (Below.refl _ _).alloc (Nat.le_refl _) _
  have hm2:W2.heap[mb]?=some (.map #[] 0):=by rw [← hW2,← hmb]; exact one_alloc _ _
  have HC2:Hid (C3 mb gl X F w [] (.map (some X.mn)) (.map (some X.ms)) X.cv W2):=by
    refine ⟨(ModP.below hbo).trans (ModP.below hb2),⟨⟨⟨#[],0,hm2,rfl⟩,fun y hy=>(List.not_mem_nil hy).elim⟩,fun q hq=>(List.not_mem_nil hq).elim,fun q hq=>(List.not_mem_nil hq).elim,fun q hq=>(List.not_mem_nil hq).elim,List.Pairwise.nil⟩,?_,?_,?_⟩
    · rw [HC.out] at hro
      exact (hb2.block gl (row_lt hro)).trans hro
    · have:=hbo.size; omega
    · omega
  have HMB:Hid (¬ Own g F X mb):=fun ho=>by
    have:=HF.out.own_lt ho
    have:=HC2.out.nb.1
    omega
  have hmm:=@run_makeMap Tryz.prog 96
  go_upto_region 3 with fail
  have hg2:=(HC2.out.fs HF.out).blk
  obtain ⟨_,_,_,k3,_⟩:=fsC7 hg2
  have HD1:Hid _:=dclone_any g mb X.mn w.heap.size F.files.length X F [] F.dir W2 (HC2.out.fs HF.out) HC2.out.tw HC2.out.md.size HF.out.ok.dir (HC2.out.fs HF.out).now_k (fun x hx=>Or.inl ⟨x,hx,by have:=HF.out.ok.dir.ge x hx; omega⟩) HMB.out (Or.inr (Or.inl rfl))
  clear hro hoo hbo hb2 hm2 hmm hg2 hW2 hmb hgl
  go_wp2_with fail
  refine (show Calls _ _ _ _ _ from HD1.out).mono ?_
  rintro e w3 ⟨E1,R1,rfl,hR1,hne1,hf3,ht3,hq3,hm3,hmd3⟩
  have hc3:=HC2.out.to hmd3 ht3
  have s3:=fs_set hc3.row 3 (.map (some R1))
  obtain ⟨W3,hW3⟩:∃ W3,w3.setCell ⟨gl,3,none⟩ (.map (some R1))=W3:=⟨_,rfl⟩
  rw [hW3] at s3
  have HC3:Hid (C3 mb gl X F w E1 (.map (some R1)) (.map (some X.ms)) X.cv W3):=hc3.put s3.2 s3.1
  have HM3:Hid (MapIs W3 R1 F.dir.length (dirF F.dir (twB E1))):=hm3.to (s3.2.other R1 (hm3.ne hc3.row))
  have HQ3:Hid (∀ x ∈ F.dir,∃ q ∈ E1,q.1=x.2.toNat):=hq3
  have HR1:Hid (w.heap.size ≤ R1∧R1 ≠ mb):=⟨Nat.le_trans HC2.out.md.size hR1,hne1⟩
  obtain ⟨_,_,_,z3,_,_,_,zf⟩:=fsC7 hc3.row
  have zf3:=zf 3
  clear HD1 k3 hR1 hne1 hf3 ht3 hq3 hm3 hmd3 hc3 s3 zf
  go_upto_region 4 with fail
  have hg3:=(HC3.out.fs HF.out).blk
  obtain ⟨_,_,_,_,k4,_⟩:=fsC7 hg3
  have HD2:Hid _:=dclone_any g mb X.ms w.heap.size F.files.length X F E1 F.sure W3 (HC3.out.fs HF.out) HC3.out.tw HC3.out.md.size HF.out.ok.sure (HC3.out.fs HF.out).safe_k (fun x hx=>Or.inr (Or.inl ⟨x,hx,by have:=HF.out.ok.sure.ge x hx; omega⟩)) HMB.out (Or.inr (Or.inr (Or.inl rfl)))
  clear hg3 hW3 z3 zf3
  go_wp2_with fail
  refine (show Calls _ _ _ _ _ from HD2.out).mono ?_
  rintro e w4 ⟨E2,R2,rfl,hR2,hne2,hf4,ht4,hq4,hm4,hmd4⟩
  have hc4:=HC3.out.to hmd4 ht4
  have s4:=fs_set hc4.row 4 (.map (some R2))
  obtain ⟨W4,hW4⟩:∃ W4,w4.setCell ⟨gl,4,none⟩ (.map (some R2))=W4:=⟨_,rfl⟩
  rw [hW4] at s4
  have HC4:Hid (C3 mb gl X F w (E1 ++ E2) (.map (some R1)) (.map (some R2)) X.cv W4):=hc4.put s4.2 s4.1
  have hm3b:MapIs w4 R1 F.dir.length (dirF F.dir (twB E1)):=HM3.out.to (hmd4.oth R1 HM3.out.lt HR1.out.2)
  have HM4:Hid (MapIs W4 R1 F.dir.length (dirF F.dir (twB (E1 ++ E2)))):=by
    show MapIs _ _ _ _
    rw [dirF_eq (h:=twB E1) (fun x hx=>twB_app (HQ3.out x hx))]
    exact hm3b.to (s4.2.other R1 (hm3b.ne hc4.row))
  have HM5:Hid (MapIs W4 R2 F.sure.length (dirF F.sure (twB (E1 ++ E2)))):=hm4.to (s4.2.other R2 (hm4.ne hc4.row))
  have HQ4:Hid ((∀ x ∈ F.dir,∃ q ∈ E1 ++ E2,q.1=x.2.toNat)∧∀ x ∈ F.sure,∃ q ∈ E1 ++ E2,q.1=x.2.toNat):=⟨fun x hx=>by obtain ⟨q,a,b⟩:=HQ3.out x hx; exact ⟨q,List.mem_append_left _ a,b⟩,hq4⟩
  have HR2:Hid (w.heap.size ≤ R2∧R2 ≠ mb∧R1 ≠ R2):=⟨Nat.le_trans HC3.out.md.size hR2,hne2,by have:=HM3.out.lt; omega⟩
  obtain ⟨_,_,_,_,z4,_,_,zf⟩:=fsC7 hc4.row
  have zf4:=zf 4
  clear HD2 k4 hR2 hne2 hf4 ht4 hq4 hm4 hmd4 hc4 s4 zf hm3b
  go_upto_region 5 with fail
  have hg4:=(HC4.out.fs HF.out).blk
  obtain ⟨_,_,_,_,_,k5,_⟩:=fsC7 hg4
  have hcr:KR pgE W4 X.cv (chgL F X):=KR.own (E:=pgE) (by have:=(HC4.out.fs HF.out).chg; exact this) (by unfold chgL; rw [List.length_map,List.length_zip,HF.out.ok.cl]; omega)
  have hcl:(chgL F X).length=F.chg.length:=by unfold chgL; rw [List.length_map,List.length_zip,HF.out.ok.cl]; omega
  have HD3:Hid _:=cloneC_any X.cv (chgL F X) (by rw [hcl]; exact HS.out.ch) W4 hcr
  clear hg4 hW4 z4 zf4 hcr
  go_wp2_with fail
  refine (show Calls _ _ _ _ _ from HD3.out).mono ?_
  rintro e w5 ⟨P,c,rfl,ho5,hb5⟩
  rw [hcl] at ho5 ⊢
  have hc5:=HC4.out.on hb5
  have s5:=fs_set hc5.row 5 (.slice P F.chg.length c)
  obtain ⟨W5,hW5⟩:∃ W5,w5.setCell ⟨gl,5,none⟩ (.slice P F.chg.length c)=W5:=⟨_,rfl⟩
  rw [hW5] at s5
  have HC5:Hid (CL mb gl R1 R2 c P X F w (E1 ++ E2) 0 W5):=by
    have h5:=hc5.put (b3:=.map (some R1)) (b4:=.map (some R2)) (b5:=.slice P F.chg.length c) s5.2 s5.1
    refine ⟨h5.md,h5.tw,h5.row,?_,?_,?_,HQ4.out.1,HQ4.out.2,fun i hi=>?_,h5.nb.1,h5.nb.2,HR1.out.1,HR2.out.1,HR1.out.2,HR2.out.2.1,HR2.out.2.2⟩
    · have h6:=HM4.out.to (hb5.block R1 HM4.out.lt)
      exact h6.to (s5.2.other R1 (h6.ne hc5.row))
    · have h6:=HM5.out.to (hb5.block R2 HM5.out.lt)
      exact h6.to (s5.2.other R2 (h6.ne hc5.row))
    · rw [chM_zero]
      have h6:=own_down ho5 HC4.out.md.size
      refine own_to h6 (fun k hk=>s5.2.other k (fun e=>?_))
      obtain ⟨cu,hcu⟩:=own_type h6 hk
      rw [e,hc5.row] at hcu
      injection hcu with hcu
      injection hcu with _ h7
      exact absurd h7 (by decide)
    · simp at hi
  obtain ⟨_,_,_,_,_,z5,_,zf⟩:=fsC7 hc5.row
  have zf5:=zf 5
  have HLC:Hid (F.chg.length ≤ 3298534883328):=HS.out.ch
  obtain ⟨nc,hnc⟩:∃ nc,F.chg.length=nc:=⟨_,rfl⟩
  have HNC:Hid (F.chg.length=nc):=hnc
  rw [hnc] at hW5
  rw [hnc]
  clear HD3 k5 ho5 hb5 hcl hc5 s5 zf hnc
  go_upto_region 6 with fail
  obtain ⟨_,_,_,_,_,y5,_,yf⟩:=fsC7 HC5.out.row
  rw [HNC.out] at y5
  clear hW5 z5 zf5
  go_wp2
  go_loopw [34] (fun ci wr=>∃ (j:Nat) (Q:List (Nat × Nat × Value)),j ≤ nc∧ci=.int .i64 (j:Int)∧CL mb gl R1 R2 c P X F w Q j wr) (fun ci _=>nc - (intOf ci).toNat)
  case atStart=>exact ⟨0,_,by omega,rfl,HC5.out⟩
  case round =>
    obtain ⟨j,Q,hjn,rfl,hcl⟩:=hrel
    have HCL:Hid (CL mb gl R1 R2 c P X F w Q j wr):=hcl
    clear hcl y5 yf
    by_cases hlt:j < nc
    · obtain ⟨o0,ho0⟩:∃ o0:Nat,0=o0:=⟨_,rfl⟩
      have HO0:Hid (0=o0):=ho0
      have hj:j < F.chg.length:=by rw [HNC.out]; exact hlt
      obtain ⟨gP,hP⟩:∃ gP,P=some ⟨gP,o0,none⟩:=by
        rcases HCL.out.ch.2 with ⟨_,h0⟩ | ⟨gP,cap,cur,e,_⟩
        · rw [h0] at hj; exact absurd hj (Nat.not_lt_zero _)
        · refine ⟨gP,?_⟩
          injection e with e
          rw [e,ho0]
      subst hP
      obtain ⟨i,hi,hat⟩:=chM_at HF.out.ok (twB Q) hj
      have hlc:j < (chM F X (twB Q) j).length:=by rw [chM_len HF.out.ok]; exact hj
      obtain ⟨E,o,c',he,hcell⟩:=(KR.own (E:=pgE) HCL.out.ch (chM_len HF.out.ok _ _).symm).cell pgOk hlc
      obtain ⟨pc,hpc⟩:∃ pc,pcOf F.chg[j] (X.fb i)=pc:=⟨_,rfl⟩
      have hel:(chM F X (twB Q) j)[j]=pc:=by
        rw [List.getElem?_eq_getElem hlc] at hat
        injection hat with hat
        rw [hat,hpc]
      rw [hel] at hcell
      have he1:gP=E∧o0=o:=by
        injection he with he _ _
        injection he with he
        injection he with h1 h2
        exact ⟨h1,h2⟩
      obtain ⟨rfl,rfl⟩:=he1
      have x0:wr.cell? ⟨gP,o0 + j * 3,none⟩=some (.string pc.n):=hcell 0 _ rfl
      have x1:wr.cell? ⟨gP,o0 + j * 3 + 1,none⟩=some (.string pc.t):=hcell 1 _ rfl
      have x2:wr.cell? ⟨gP,o0 + j * 3 + 2,none⟩=some (ptr (some pc.b)):=hcell 2 _ rfl
      have hpb:pc.b=X.fb i:=by rw [← hpc,pcOf_bb]
      have hz2:(0:Int) ≤ (j:Int):=by omega
      have hz3:(j:Int) < (nc:Int):=by omega
      have hncb:nc ≤ 3298534883328:=by rw [← HNC.out]; exact HLC.out
      have hiw:IntKind.i64.wrap ((j:Int) + 1)=(j:Int) + 1:=by rw [IntKind.wrap_i64] <;> omega
      obtain ⟨V,hV⟩:∃ V,wr.heap.size=V:=⟨_,rfl⟩
      obtain ⟨Wv,hWv⟩:∃ Wv,wr.alloc (.cells #[.string pc.n,.string pc.t,ptr (some pc.b)] 100)=Wv:=⟨_,rfl⟩
      have hbv:Below wr.heap.size wr Wv:=by rw [← hWv]; exact (Below.refl _ _).alloc (Nat.le_refl _) _
      have hv2:Wv.heap[V]?=some (.cells #[.string pc.n,.string pc.t,ptr (some pc.b)] 100):=by rw [← hWv,← hV]; exact one_alloc _ _
      have hclv:=HCL.out.on hbv
      have hcld:CL mb gl R1 R2 c (some ⟨gP,o0,none⟩) X F w Q j Wv.drew:=hclv.on (below_dn (Below.refl _ _) 1)
      have hlive:Live F X i:=Or.inr (Or.inr (List.mem_of_getElem? hi))
      have HTW0:Hid (Calls Tryz.prog 48 #[ptr (some (X.fb i)),.map (some mb)] Wv.drew fun e w'=>TwR w.heap.size mb X F Q i Wv.drew e w'):=twin_any g i mb w.heap.size X F Q Wv.drew (HF.out.toFsC.mod hcld.md (fun _ q=>q.elim)) hcld.tw hcld.md.size hlive
      have HNX:Hid (∀ E w3,ModP (fun k=>k=mb) Wv.drew w3 → TwI w.heap.size w3 mb X F (Q ++ E) → (∃ q ∈ Q ++ E,q.1=i) → (w3.cell? ⟨gl,5,none⟩=some (.slice (some ⟨gP,o0,none⟩) nc c)∧w3.cell? ⟨V,2,none⟩=some (ptr (some pc.b))∧(w3.cell? ⟨gP,o0 + j * 3 + 2,none⟩).isSome=true∧w3.frozen? ⟨gP,o0 + j * 3 + 2,none⟩=false)∧CL mb gl R1 R2 c (some ⟨gP,o0,none⟩) X F w (Q ++ E) (j + 1) (w3.setCell ⟨gP,o0 + j * 3 + 2,none⟩ (ptr (some (twB (Q ++ E) i))))):=fun E w3 q1 q2 q3=>by
        refine ⟨⟨?_,?_,?_⟩,?_⟩
        · have:=(fsC7 (q1.row hcld.row (hcld.tw.tm.block hcld.row))).2.2.2.2.2.1
          rw [HNC.out] at this
          exact this
        · have hvd:Wv.drew.heap[V]?=some (.cells #[.string pc.n,.string pc.t,ptr (some pc.b)] 100):=hv2
          exact (row3 (q1.row hvd (hcld.tw.tm.block hvd))).2.2.1
        · have hch3:w3.ownsRow w.heap.size 100 3 (.slice (some ⟨gP,o0,none⟩) F.chg.length c) F.chg.length (pgE.fl (chM F X (twB Q) j)):=own_to hcld.ch (fun k hk=>by
            obtain ⟨cur,hc⟩:=own_type hcld.ch hk
            exact q1.oth k (row_lt hc) (hcld.tw.tm.block hc))
          obtain ⟨E',o',c'',he',hcell'⟩:=(KR.own (E:=pgE) hch3 (chM_len HF.out.ok _ _).symm).cell pgOk hlc
          rw [hel] at hcell'
          have he2:gP=E'∧o0=o':=by
            injection he' with he _ _
            injection he with he
            injection he with h1 h2
            exact ⟨h1,h2⟩
          obtain ⟨rfl,rfl⟩:=he2
          have e9:w3.cell? ⟨gP,o0 + j * 3 + 2,none⟩=some (ptr (some pc.b)):=hcell' 2 _ rfl
          rw [e9]
          refine ⟨rfl,?_⟩
          obtain ⟨cu,hcu⟩:=own_type hch3 (k:=gP) rfl
          exact frozen_of_row _ _ _ _ _ hcu
        · have h9:=HO0.out
          subst h9
          have:=CL.step hcld HF.out.ok hj hi q1 q2 q3
          rw [Nat.zero_add]
          exact this
      have y0:Wv.drew.cell? ⟨gl,5,none⟩=some (.slice (some ⟨gP,o0,none⟩) nc c):=by
        have:=(fsC7 hcld.row).2.2.2.2.2.1
        rw [HNC.out] at this
        exact this
      have y1:Wv.drew.cell? ⟨V,2,none⟩=some (.pointer (some ⟨pc.b,0,none⟩)):=(row3 hv2).2.2.1
      have HTW:Hid (Calls Tryz.prog 48 #[.pointer (some ⟨pc.b,0,none⟩),.map (some mb)] Wv.drew fun e w'=>∃ E tb,e=.returned (.pointer (some ⟨tb,0,none⟩))∧((w'.cell? ⟨gl,5,none⟩=some (.slice (some ⟨gP,o0,none⟩) nc c)∧w'.cell? ⟨V,2,none⟩=some (.pointer (some ⟨pc.b,0,none⟩))∧(w'.cell? ⟨gP,o0 + j * 3 + 2,none⟩).isSome=true∧w'.frozen? ⟨gP,o0 + j * 3 + 2,none⟩=false)∧CL mb gl R1 R2 c (some ⟨gP,o0,none⟩) X F w (Q ++ E) (j + 1) (w'.setCell ⟨gP,o0 + j * 3 + 2,none⟩ (.pointer (some ⟨tb,0,none⟩))))):=by
        have h9:=HTW0.out
        rw [← hpb] at h9
        refine (show Calls _ _ _ _ _ from h9).mono ?_
        rintro e w' ⟨E,rfl,q2,q3,q1⟩
        exact ⟨E,_,rfl,HNX.out E w' q1 q2 q3⟩
      have hWv':wr.alloc (.cells #[.string pc.n,.string pc.t,.pointer (some ⟨pc.b,0,none⟩)] 100)=Wv:=hWv
      clear hj hi hat hlc he hcell hel hpb hbv hv2 hclv hcld hlive HTW0 HNX hWv hpc ho0
      generalize pc.n=pn at *
      generalize pc.t=pt at *
      generalize pc.b=pb at *
      unfold ptr at x2
      go_upto_region 9 with (refine ldC gP (o0 + j * 3) (.string pn) (.string pt) (.pointer (some ⟨pb,0,none⟩)) _ rfl rfl rfl x0 x1 x2 ?_)
      clear x0 x1 x2 hWv'
      go_region_law (first
        | (go_simp; (with_reducible refine (show Calls _ _ _ _ _ from HTW.out).mono ?_); rintro e w3 ⟨E',tb,rfl,⟨u0,u1,u2,u3⟩,u4⟩; obtain ⟨u5,u6⟩:=Option.isSome_iff_exists.1 u2))
      all_goals
        have HU:Hid (CL mb gl R1 R2 c (some ⟨gP,o0,none⟩) X F w (Q ++ E') (j + 1) (w3.setCell ⟨gP,o0 + j * 3 + 2,none⟩ (.pointer (some ⟨tb,0,none⟩)))):=u4
        clear u4 u0 u1 u2 u3 u6 y0 y1
        go_wp2
        go_roundw
        case rel=>exact ⟨j + 1,_,hlt,rfl,HU.out⟩
        case measure=>simp [intOf]; omega
    · have hjn':j=nc:=by omega
      subst hjn'
      clear hlt
      have hfw:FsC wr g X F:=HF.out.toFsC.mod HCL.out.md (fun _ q=>q.elim)
      have HQL:Hid (X.qs.length ≤ 3298534883328):=HS.out.qs
      have HD4:Hid _:=cloneQ_any X.qv X.qs HQL.out wr hfw.row.kr
      obtain ⟨_,_,_,_,_,_,k6,_⟩:=fsC7 hfw.blk
      have HCE:Hid (CL mb gl R1 R2 c P X F w Q F.chg.length wr):=by rw [HNC.out]; exact HCL.out
      clear hfw
      go_wp2_with fail
      refine (show Calls _ _ _ _ _ from HD4.out).mono ?_
      rintro e w7 ⟨P7,c7,rfl,ho7,hb7⟩
      have hr7:=(hb7.block gl (row_lt HCE.out.row)).trans HCE.out.row
      obtain ⟨_,_,_,_,_,_,z6,zf⟩:=fsC7 hr7
      have zf6:=zf 6
      have s7:=fs_set hr7 6 (.slice P7 X.qs.length c7)
      obtain ⟨W8,hW8⟩:∃ W8,w7.setCell ⟨gl,6,none⟩ (.slice P7 X.qs.length c7)=W8:=⟨_,rfl⟩
      rw [hW8] at s7
      have HFIN:Hid (∃ X',FsP W8 gl X' F∧ModP (fun _=>False) w W8∧(∀ k,Own gl F X' k → w.heap.size ≤ k)∧X'.qs=X.qs):=by
        obtain ⟨r1,r2,r3⟩:=CL.fin HCE.out HF.out hb7 ho7 s7.2 s7.1
        exact ⟨_,r1,r2,r3,rfl⟩
      clear ho7 hb7 hr7 s7 zf HD4 k6
      go_wp2
      go_returns
      obtain ⟨X',r⟩:=HFIN.out
      exact ⟨gl,X',rfl,r⟩
end Go.Proofs.YtbgbmfmgdgalbaaGreatDoor
namespace Go.Proofs.YtbgbmfmgdgalbaaGreatDoor
open Go.RowKit Go.Maps
set_option linter.unusedVariables false
set_option linter.unusedSimpArgs false
theorem ext_len (c:ByteArray) (m:Nat):(c.extract 0 m).size=min m c.size:=by simp
structure Calm (F:Fs):Prop where
  up:F.down=false
  fl:F.fails=[]
  cr:F.crash=0
theorem stepM_calm {F:Fs} (h:Calm F):stepM F=(up1 F,0,0):=by
  unfold stepM
  simp only []
  have hm:failM F.fails (F.steps + 1)=none:=by rw [h.fl]; rfl
  rw [if_neg (by rw [h.cr]; omega),hm]
  rfl
theorem downF_at (p:List Int):∀ (l:List Fi) (k i:Nat) (x:Fi),l[i]?=some x → (downF p k l)[i]?=some (cutF x (pickM p (k + i + 1) (x.d.size - x.s)))
  | [],_,_,_,h=>by simp at h
  | y :: l,k,0,x,h=>by
    have:y=x:=by simpa using h
    subst this
    simp [downF]
  | y :: l,k,i + 1,x,h=>by
    have:=downF_at p l (k + 1) i x (by simpa using h)
    simp only [downF,List.getElem?_cons_succ]
    rw [this]
    have:k + 1 + i + 1=k + (i + 1) + 1:=by omega
    rw [this]
theorem down_file {F:Fs} (p:List Int) {i:Nat} (h:i < F.files.length):fileAt (downM F p) i=cutF (fileAt F i) (pickM p (i + 1) ((fileAt F i).d.size - (fileAt F i).s)):=by
  unfold fileAt downM
  simp only
  have h1:=downF_at p F.files 0 i _ (List.getElem?_eq_getElem h)
  rw [List.getD_eq_getElem?_getD,h1,List.getD_eq_getElem?_getD,List.getElem?_eq_getElem h,Nat.zero_add]
  rfl
end Go.Proofs.YtbgbmfmgdgalbaaGreatDoor
namespace Go.Proofs.YtbgbmfmgdgalbaaGreatDoor
open Go.RowKit Go.Maps
set_option linter.unusedVariables false
set_option linter.unusedSimpArgs false
structure Tight (F:Fs):Prop where
  ch:F.chg=[]
  su:F.sure=F.dir
  sz:∀ x ∈ F.dir,(fileAt F x.2.toNat).s=(fileAt F x.2.toNat).d.size
theorem now_fa (F:Fs):nowM F=F.dir.map fun x=>(x.1,(fileAt F x.2.toNat).d):=rfl
theorem safe_fa (F:Fs):safeM F=F.sure.map fun x=>(x.1,(fileAt F x.2.toNat).d.extract 0 (fileAt F x.2.toNat).s):=rfl
theorem Tight.safe {F:Fs} (h:Tight F):safeM F=nowM F:=by
  rw [now_fa,safe_fa,h.su]
  exact List.map_congr_left (fun x hx=>by rw [h.sz x hx,ext_all])
theorem cut_size (x:Fi) (k:Nat) (h:x.s + k ≤ x.d.size):(cutF x k).s=(cutF x k).d.size:=by
  show x.s + k=(x.d.extract 0 (x.s + k)).size
  rw [ext_len]; omega
theorem down_dirK (F:Fs) (p:List Int):(downM F p).dir=dirK F (pickM p 0 F.chg.length):=rfl
theorem down_tight {F:Fs} {cf:List Nat} (hf:FOk F cf) (hs:∀ j,j ≤ F.chg.length → ∀ x ∈ dirK F j,(fileAt F x.2.toNat).s ≤ (fileAt F x.2.toNat).d.size) (p:List Int):Tight (downM F p):=by
  have hj:pickM p 0 F.chg.length ≤ F.chg.length:=pkM_le p 0 _
  refine ⟨rfl,rfl,fun x hx=>?_⟩
  rw [down_dirK] at hx
  have hlt:x.2.toNat < F.files.length:=by
    have:=(hf.dirs _ hj).lt x hx
    have:=(hf.dirs _ hj).ge x hx
    omega
  rw [down_file p hlt]
  refine cut_size _ _ ?_
  have h1:=hs _ hj x hx
  have h2:=pkM_le p (x.2.toNat + 1) ((fileAt F x.2.toNat).d.size - (fileAt F x.2.toNat).s)
  omega
theorem stepM_zero {F:Fs} (h:(stepM F).2.1=0):(stepM F).1=up1 F:=by
  rcases stepM_cases F with h1 | ⟨h1,_⟩ | ⟨_,h2⟩
  · rw [h1] at h; cases h
  · rw [h1] at h; cases h
  · exact h2
theorem syncM_zero {F:Fs} {n:ByteArray} (h:(syncM F n).2=0):hasM F n=0∧(syncM F n).1={ up1 F with files:=F.files.set (findM F.dir n).toNat ⟨(fileAt F (findM F.dir n).toNat).d,(fileAt F (findM F.dir n).toNat).d.size⟩ }:=by
  unfold syncM at h ⊢
  by_cases h0:hasM F n=0
  · rw [if_pos h0] at h ⊢
    by_cases h1:(stepM F).2.1=0
    · simp only [h1,if_true] at h ⊢
      rw [stepM_zero h1]
      exact ⟨h0,rfl⟩
    · simp only [h1,if_false] at h
  · rw [if_neg h0] at h
    exact absurd h h0
theorem List_any {w0 W:World} {g:Nat} {X:Gh} {F:Fs} {i:Nat} (h:St w0 W g X F i) (hu:F.down=false):Calls Tryz.prog 70 #[ptr (some g)] W fun e w'=>∃ P c,e=.returned (.tuple #[.slice P F.dir.length c,.int .i64 0])∧w'.ownsRow W.heap.size 9 1 (.slice P F.dir.length c) F.dir.length (psE.fl (F.dir.map (·.1)))∧Below W.heap.size W w':=by
  obtain ⟨c0,_,_,c3,_⟩:=h.fs.cells
  rw [hu] at c0
  have HNM:Hid _:=names_any X.mn F.dir.length (dirF F.dir X.fb) (F.dir.map (·.1)) (names_of h.fs.ok.dir X.fb) (by have:=h.fs.ok.dir.few; omega) (fun m hm=>by
    obtain ⟨x,hx,rfl⟩:=List.mem_map.1 hm
    have:=(named_size (h.fs.ok.dir.nam x hx)).2
    omega) W h.fs.now_k
  clear h hu
  show Calls Tryz.prog 70 #[.pointer (some ⟨g,0,none⟩)] W _
  go_enter Tryz.func70,Tryz.ntmps70
  go_wp2_with fail
  refine (show Calls _ _ _ _ _ from HNM.out).mono ?_
  rintro e w' ⟨v,rfl,ho,hb⟩
  rw [List.length_map] at ho
  obtain ⟨P,c,rfl⟩:=own_form ho
  have HO:Hid (w'.ownsRow W.heap.size 9 1 (.slice P F.dir.length c) F.dir.length (psE.fl (F.dir.map (·.1)))):=ho
  clear ho HNM
  go_wp2
  go_returns
  exact ⟨P,c,rfl,HO.out,hb⟩
end Go.Proofs.YtbgbmfmgdgalbaaGreatDoor
namespace Go.Proofs.YtbgbmfmgdgalbaaGreatDoor
open Go.RowKit Go.Maps
set_option linter.unusedVariables false
set_option linter.unusedSimpArgs false
def BcP (w0 W:World) (g:Nat) (X:Gh) (F F':Fs) (r:Int) (i:Nat) (e:Ending) (w':World):Prop:=e=.returned (.int .i64 r)∧∃ X',St w0 w' g X' F' (i + 1)∧Bec W g X F w' X' F'
theorem bc_of {w0 W:World} {g i:Nat} {X:Gh} {F F':Fs} {r:Int} {e:Ending} {w':World} (h:St w0 W g X F i) (hg:GrowP 17592186044416 F F') (he:e=.returned (.int .i64 r)) (hB:∃ X',Bec W g X F w' X' F'):BcP w0 W g X F F' r i e w':=by
  obtain ⟨X',hB⟩:=hB
  have g1:=hg.st
  have g2:=hg.fi
  have g3:=hg.ch
  have hst:=h.st
  have hfi:=h.fi
  have hch:=h.ch
  exact ⟨he,X',⟨h.toWk.step hB,by omega,by omega,by omega,hg.pk h.pk⟩,hB⟩
theorem St.sm {w0 W:World} {g i:Nat} {X:Gh} {F:Fs} (h:St w0 W g X F i) (hi:i < 3298534883328):Sm F X:=by
  have hst:=h.st
  have hfi:=h.fi
  have hch:=h.ch
  have hq:=h.q
  exact ⟨by omega,by omega,by omega,by omega⟩
theorem St.aside {w0 W W':World} {g gl i j k:Nat} {X X' Xg:Gh} {F F' Fg:Fs} (hf:St w0 W g X F i) (hf':St w0 W' g X' F' k) (hb:Bec W g X F W' X' F') (hg:St w0 W gl Xg Fg j) (hd:∀ q,Own gl Fg Xg q → ¬ Own g F X q):St w0 W' gl Xg Fg j∧∀ q,Own gl Fg Xg q → ¬ Own g F' X' q:=by
  refine ⟨⟨⟨hg.fs.mod hb.md (fun q hq ho=>hd q ho hq) (fun q cs t fz hq hc=>hf.fs.own_ty hq hc),hg.q,hf'.bel,hg.own⟩,hg.st,hg.fi,hg.ch,hg.pk⟩,fun q ho hq=>?_⟩
  rcases hb.own q hq with h1 | h1
  · exact hd q ho h1
  · have:=hg.fs.own_lt ho
    omega
theorem clone_st {w0 W:World} {g i:Nat} {X:Gh} {F:Fs} (h:St w0 W g X F i) (hi:i < 3298534883328):Calls Tryz.prog 21 #[ptr (some g)] W fun e w'=>∃ gl Xg,e=.returned (ptr (some gl))∧St w0 w' gl Xg F i∧St w0 w' g X F i∧(∀ q,Own gl F Xg q → ¬ Own g F X q)∧Below W.heap.size W w':=by
  refine (Clone_any g X F W h.fs (h.sm hi)).mono ?_
  rintro e w' ⟨gl,Xg,rfl,h1,h2,h3,h4⟩
  have hb:Below W.heap.size W w':=⟨h2.os,h2.tape,h2.output,h2.size,fun q hq=>h2.oth q hq (fun e=>e)⟩
  have hg:=h.on hb
  refine ⟨gl,Xg,rfl,⟨⟨h1,by rw [h4]; exact h.q,hg.bel,fun q hq=>by have:=h3 q hq; have:=h.bel.size; omega⟩,h.st,h.fi,h.ch,h.pk⟩,hg,fun q hq ho=>?_,hb⟩
  have:=h3 q hq
  have:=h.fs.own_lt ho
  omega
end Go.Proofs.YtbgbmfmgdgalbaaGreatDoor
namespace Go.Proofs.YtbgbmfmgdgalbaaGreatDoor
open Go.RowKit Go.Maps
set_option linter.unusedVariables false
set_option linter.unusedSimpArgs false
set_option maxHeartbeats 1000000 in
theorem List_all {w0 W:World} {g:Nat} {X:Gh} {F:Fs} {i:Nat} (h:St w0 W g X F i):Calls Tryz.prog 70 #[ptr (some g)] W fun e w'=>∃ P c,e=.returned (.tuple #[.slice P (listM F).1.length c,.int .i64 (listM F).2])∧w'.ownsRow W.heap.size 9 1 (.slice P (listM F).1.length c) (listM F).1.length (psE.fl (listM F).1)∧Below W.heap.size W w':=by
  cases hd:F.down with
  | false =>
    have hl:listM F=(F.dir.map (·.1),0):=by unfold listM; rw [hd]; rfl
    rw [hl]
    refine (List_any h hd).mono ?_
    rintro e w' ⟨P,c,rfl,ho,hb⟩
    exact ⟨P,c,by rw [List.length_map],by rw [List.length_map]; exact ho,hb⟩
  | true =>
    have hl:listM F=([],203):=by unfold listM; rw [hd]; rfl
    rw [hl]
    obtain ⟨c0,_⟩:=h.fs.cells
    rw [hd] at c0
    clear h hd hl
    show Calls Tryz.prog 70 #[.pointer (some ⟨g,0,none⟩)] W _
    go_enter Tryz.func70,Tryz.ntmps70
    go_wp2
    go_returns
    exact ⟨none,0,rfl,⟨rfl,Or.inl ⟨rfl,rfl⟩⟩,Below.refl _ _⟩
end Go.Proofs.YtbgbmfmgdgalbaaGreatDoor
namespace Go.Proofs.YtbgbmfmgdgalbaaGreatDoor
open Go.RowKit Go.Maps
set_option linter.unusedVariables false
set_option linter.unusedSimpArgs false
theorem Holds.to3 {W W':World} {F:Fs} {q:Pq} (h:Holds W F q) (hk:∀ (k:Nat) (cs:Array Value) (t:Nat) (fz:Nat × Nat),W.heap[k]?=some (.cells cs t fz) → t=3 ∨ t=44 → W'.heap[k]?=W.heap[k]?):Holds W' F q:=by
  refine ⟨fun hc=>?_,fun hc=>?_⟩
  · obtain ⟨h1,v,h2,h4⟩:=h.cr hc
    refine ⟨h1,v,(hk _ _ _ _ h2 (Or.inr rfl)).trans h2,own_to h4 (fun k hk'=>?_)⟩
    obtain ⟨cur,hc⟩:=own_type h4 hk'
    exact hk _ _ _ _ hc (Or.inl rfl)
  · obtain ⟨p,h1,h2⟩:=h.fl hc
    exact ⟨p,(hk _ _ _ _ h1 (Or.inl rfl)).trans h1,h2⟩
theorem FsP.one {W W':World} {g r:Nat} {X:Gh} {F:Fs} {cs:Array Value} {t:Nat} (h:FsP W g X F) (hm:ModP (fun k=>k=r) W W') (hr:W.heap[r]?=some (.cells cs t)) (h1:¬ tyOwn t) (h2:t ≠ 3) (h3:t ≠ 44):FsP W' g X F:=by
  refine ⟨h.toFsC.mod hm (fun k e hk=>?_),h.pln,fun q hq=>(h.hld q hq).to3 (fun k cs' t' fz hk ht=>hm.oth k (row_lt hk) (fun e=>?_))⟩
  · subst e
    exact h1 (h.own_ty hk hr)
  · rw [e,hr] at hk
    injection hk with hk
    injection hk with _ h6 _
    rcases ht with ht | ht
    · exact h2 (h6.trans ht)
    · exact h3 (h6.trans ht)
theorem St.one {w0 W W':World} {g i r:Nat} {X:Gh} {F:Fs} {cs:Array Value} {t:Nat} (h:St w0 W g X F i) (hm:ModP (fun k=>k=r) W W') (hr:W.heap[r]?=some (.cells cs t)) (h1:¬ tyOwn t) (h2:t ≠ 3) (h3:t ≠ 44) (hb:w0.heap.size ≤ r):St w0 W' g X F i:=
  ⟨⟨h.fs.one hm hr h1 h2 h3,h.q,h.bel.trans (hm.bel (fun k hk e=>by omega) h.bel.size),h.own⟩,h.st,h.fi,h.ch,h.pk⟩
end Go.Proofs.YtbgbmfmgdgalbaaGreatDoor
namespace Go.Proofs.YtbgbmfmgdgalbaaGreatDoor
open Go.RowKit Go.Maps
set_option linter.unusedVariables false
set_option linter.unusedSimpArgs false
theorem FsP.atS {W W':World} {S:Nat → Prop} {g:Nat} {X:Gh} {F:Fs} (h:FsP W g X F) (hm:ModP S W W') (hS:∀ k,S k → ¬ Own g F X k) (hT:∀ (k:Nat) (cs:Array Value) (t:Nat) (fz:Nat × Nat),S k → W.heap[k]?=some (.cells cs t fz) → t ≠ 3∧t ≠ 44):FsP W' g X F:=by
  refine ⟨h.toFsC.mod hm hS,h.pln,fun q hq=>(h.hld q hq).to3 (fun k cs' t' fz hk ht=>hm.oth k (row_lt hk) (fun hs=>?_))⟩
  obtain ⟨h1,h2⟩:=hT k _ _ _ hs hk
  rcases ht with ht | ht
  · exact h1 ht
  · exact h2 ht
theorem St.atS {w0 W W':World} {S:Nat → Prop} {g i:Nat} {X:Gh} {F:Fs} (h:St w0 W g X F i) (hm:ModP S W W') (hS:∀ k,S k → ¬ Own g F X k) (hT:∀ (k:Nat) (cs:Array Value) (t:Nat) (fz:Nat × Nat),S k → W.heap[k]?=some (.cells cs t fz) → t ≠ 3∧t ≠ 44) (hb:∀ k,S k → w0.heap.size ≤ k):St w0 W' g X F i:=
  ⟨⟨h.fs.atS hm hS hT,h.q,h.bel.trans (hm.bel (fun k hk e=>by have:=hb k e; omega) h.bel.size),h.own⟩,h.st,h.fi,h.ch,h.pk⟩
end Go.Proofs.YtbgbmfmgdgalbaaGreatDoor
