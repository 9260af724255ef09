import Derived.Test.YtbgbmfmgdgalbaaGreatDoorM12
import Derived.Test.YtbgbmfmgdgalbaaGreatDoorM11
import Derived.Test.YtbgbmfmgdgalbaaGreatDoorShD
namespace Go.Proofs.YtbgbmfmgdgalbaaGreatDoor
open Go.RowKit Go.Maps
set_option linter.unusedVariables false
set_option linter.unusedSimpArgs false
set_option maxHeartbeats 8000000 in
set_option maxRecDepth 100000 in
theorem goDown_any (g:Nat) (X:Gh) (F:Fs) (v:Value) (p:List Int) (w:World) (h:FsC w g X F) (hs:Sm F X) (hp:p.length ≤ 17592186044416) (hv:Pks w (Own g F X) v p):Calls Tryz.prog 41 #[ptr (some g),v] w fun e w'=>e=.returned (.tuple #[])∧∃ X',Bec w g X F w' X' (downM F p):=by
  obtain ⟨P,c,rfl⟩:=hv.form
  obtain ⟨R,hR⟩:∃ R,w.heap.size=R:=⟨_,rfl⟩
  obtain ⟨W0,hW0⟩:∃ W0,w.alloc (.cells #[.slice P p.length c] 44)=W0:=⟨_,rfl⟩
  have n1:W0.heap[R]?=some (.cells #[.slice P p.length c] 44):=by rw [← hW0,← hR]; exact one_alloc _ _
  have n4:Below w.heap.size w W0:=by rw [← hW0]; exact (Below.refl _ _).alloc (Nat.le_refl _) _
  have hF0:FsC W0 g X F:=h.on n4
  have hv0:Pks W0 (Own g F X) (.slice P p.length c) p:=hv.on n4
  obtain ⟨_,_,_,_,c4,c5,_,_⟩:=hF0.cells
  obtain ⟨Q,cc,hcv⟩:=own_form hF0.chg
  rw [hcv] at c5
  have hch:=hs.ch
  obtain ⟨nc,hnc⟩:∃ nc,F.chg.length=nc:=⟨_,rfl⟩
  obtain ⟨k,hk⟩:∃ k,pickM p 0 nc=k:=⟨_,rfl⟩
  have hkn:k ≤ nc:=by rw [← hk]; exact pkM_le p 0 nc
  have HPK:Hid (∀ m,Calls Tryz.prog 84 #[.int .i64 0,.int .i64 (nc:Int),.pointer (some ⟨R,0,none⟩)] (W0.drewN m) fun e w'=>e=.returned (.int .i64 (k:Int))∧∃ n,w'=(W0.drewN m).drewN n):=fun m=>by
    have:=gpick_any (.slice P p.length c) p 0 nc R (by omega) (by omega) (W0.drewN m) n1 (hv0.kr.on (below_dn (Below.refl _ _) m))
    rw [hk] at this
    exact this.mono fun e w' hh=>⟨hh.1,quietN hh.2⟩
  have eG:∀ args w,(callFunc 84 args).run Tryz.prog w=.ok (.enter 84 args) w:=fun args w=>by kernel_rfl
  rw [hnc] at c5
  have hcap:nc ≤ cc:=by
    have:=hF0.chg
    rw [hcv,hnc] at this
    rcases this.2 with ⟨e1,e2⟩ | ⟨g',cap,cur,e1,_,_,e3,_⟩
    · injection e1 with _ _ e3; omega
    · injection e1 with _ _ e4; omega
  have HF0:Hid (FsC W0 g X F):=hF0
  have HV0:Hid (Pks W0 (Own g F X) (.slice P p.length c) p):=hv0
  have HB0:Hid (Below w.heap.size w W0):=n4
  have HN1:Hid (W0.heap[R]?=some (.cells #[.slice P p.length c] 44)):=n1
  have HCV:Hid (X.cv=.slice Q nc cc):=by rw [hcv,hnc]; exact rfl
  have HNC:Hid (F.chg.length=nc):=hnc
  have HK:Hid (pickM p 0 nc=k):=hk
  have HRR:Hid (w.heap.size=R):=hR
  have HH:Hid (FsC w g X F):=h
  have HS:Hid (Sm F X):=hs
  have hz0:(0:Int) ≤ (k:Int):=by omega
  have hz1:(k:Int) ≤ (cc:Int):=by omega
  clear h hs hv n1 n4 hF0 hv0 hcv hnc hk hch
  show Calls Tryz.prog 41 #[.pointer (some ⟨g,0,none⟩),.slice P p.length c] w _
  go_enter Tryz.func41,Tryz.ntmps41
  go_upto_region 2 with fail
  go_quiet ((go_at_call 84; exact Calls.quiet_of (HPK.out _)))
  obtain ⟨Wq,hWq⟩:∃ Wq,W0.drewN nq=Wq:=⟨_,rfl⟩
  have HFq:Hid (FsC Wq g X F):=by
    show FsC _ _ _ _
    rw [← hWq]; exact HF0.out.on (below_dn (Below.refl _ _) _)
  have HNq:Hid (Wq.heap[R]?=some (.cells #[.slice P p.length c] 44)):=by
    show Wq.heap[R]?=_
    rw [← hWq]; exact HN1.out
  have HVq:Hid (Pks Wq (Own g F X) (.slice P p.length c) p):=by
    show Pks _ _ _ _
    rw [← hWq]; exact HV0.out.on (below_dn (Below.refl _ _) _)
  have HBq:Hid (Below w.heap.size w Wq):=by
    show Below _ _ _
    rw [← hWq]; exact below_dn HB0.out _
  rw [hWq]
  clear hWq c4 c5 hW0 HF0 HN1 HV0 HPK
  go_wp2
  go_loopw [23] (fun ci wr=>∃ j:Nat,j ≤ k∧ci=.int .i64 (j:Int)∧GD1 Wq X F j wr) (fun ci _=>k - (intOf ci).toNat)
  case atStart=>exact ⟨0,by omega,rfl,ModP.refl _ _,HFq.out.safe⟩
  case round =>
    obtain ⟨j,hjk,rfl,hgd⟩:=hrel
    have HGD1:Hid (GD1 Wq X F j wr):=hgd
    have hmd:=hgd.1
    have hgms:g ≠ X.ms:=fun e=>HFq.out.ne_g.2.1 e.symm
    have hgr:=hmd.row HFq.out.blk hgms
    clear hgd
    by_cases hlt:j < k
    · have hjn:j < F.chg.length:=by rw [HNC.out]; omega
      obtain ⟨i,hat,qf,qn,qt,qtf,_⟩:=chgL_at HFq.out.ok hjn
      obtain ⟨pc,hpc⟩:∃ pc,pcOf F.chg[j] (X.fb i)=pc:=⟨_,rfl⟩
      have hlen:(chgL F X).length=F.chg.length:=by unfold chgL; rw [List.length_map,List.length_zip,HFq.out.ok.cl]; omega
      have hrow:wr.ownsRow 0 100 3 (.slice Q nc cc) (chgL F X).length (pgE.fl (chgL F X)):=by
        rw [hlen,← HCV.out]
        refine own_to HFq.out.chg (fun q hq=>?_)
        obtain ⟨cur,hc⟩:=own_type HFq.out.chg hq
        exact hmd.oth q (row_lt hc) (fun e=>HFq.out.safe_k.ne hc e.symm)
      have hjl:j < (chgL F X).length:=by rw [hlen]; exact hjn
      obtain ⟨E,o,c',he,hcell⟩:=(KR.own (E:=pgE) hrow rfl).cell pgOk hjl
      have he1:Q=some ⟨E,o,none⟩:=congrArg (fun x:Value=>match x with | .slice a _ _=>a | _=>none) he
      subst he1
      have hel:(chgL F X)[j]=pc:=by
        have:=hat
        rw [List.getElem?_eq_getElem hjl] at this
        injection this with this
        rw [this,hpc]
      rw [hel] at hcell
      have x0:wr.cell? ⟨E,o + j * 3,none⟩=some (.string pc.n):=hcell 0 _ rfl
      have x1:wr.cell? ⟨E,o + j * 3 + 1,none⟩=some (.string pc.t):=hcell 1 _ rfl
      have x2:wr.cell? ⟨E,o + j * 3 + 2,none⟩=some (ptr (some pc.b)):=hcell 2 _ rfl
      have hz2:(0:Int) ≤ (j:Int):=by omega
      have hz3:(j:Int) < (k:Int):=by omega
      have hncb:F.chg.length ≤ 3298534883328:=HS.out.ch
      have hiw:IntKind.i64.wrap ((j:Int) + 1)=(j:Int) + 1:=by rw [IntKind.wrap_i64] <;> omega
      have hpsz:pc.n.size ≤ 64∧pc.t.size ≤ 64:=by
        have hnn:=named_size qn
        rw [← hpc]
        unfold pcOf
        split
        · split
          · exact ⟨hnn.2,Nat.zero_le _⟩
          · exact ⟨Nat.zero_le _,hnn.2⟩
        · rename_i h0
          refine ⟨hnn.2,?_⟩
          rcases qt with h1 | h1
          · exact absurd h1 h0
          · exact (named_size h1).2
      have hMs:=HGD1.out.size HFq.out.ok (by omega:j ≤ F.chg.length)
      have hfew:=(HFq.out.ok.dirs j (by omega)).few
      obtain ⟨V,hV⟩:∃ V,wr.heap.size=V:=⟨_,rfl⟩
      obtain ⟨W2,hW2⟩:∃ W2,wr.alloc (.cells #[.string pc.n,.string pc.t,ptr (some pc.b)] 100)=W2:=⟨_,rfl⟩
      have hb2:Below wr.heap.size wr W2:=by rw [← hW2]; exact (Below.refl _ _).alloc (Nat.le_refl _) _
      have hv2:W2.heap[V]?=some (.cells #[.string pc.n,.string pc.t,ptr (some pc.b)] 100):=by rw [← hW2,← hV]; exact one_alloc _ _
      have hg2:=(hb2.block g (row_lt hgr)).trans hgr
      have HAP:Hid (∀ m,Calls Tryz.prog 85 #[.map (some X.ms),.agg #[.string pc.n,.string pc.t,ptr (some pc.b)]] (W2.drewN m) fun e w'=>e=.returned (.tuple #[])∧ModP (fun q=>q=X.ms) (W2.drewN m) w'∧∃ k',k' ≤ (dirK F j).length + 1∧MapIs w' X.ms k' (apF (dirF (dirK F j) X.fb) pc.n pc.t pc.b)):=fun m=>apply_any X.ms (dirK F j).length _ pc.n pc.t pc.b (by omega) (by omega) (by omega) (W2.drewN m) (hMs.to (hb2.block _ hMs.lt))
      have HNEXT:Hid (∀ m w',ModP (fun q=>q=X.ms) (W2.drewN m) w' → (∃ k',k' ≤ (dirK F j).length + 1∧MapIs w' X.ms k' (apF (dirF (dirK F j) X.fb) pc.n pc.t pc.b)) → GD1 Wq X F (j + 1) w'):=fun m w' hm hk'=>by
        obtain ⟨k',_,hk'⟩:=hk'
        refine HGD1.out.next HFq.out.ok hjn qf qn qt qtf ?_ (by rw [hpc]; exact hk')
        exact (ModP.below hb2).trans ⟨hm.os,hm.tape,hm.output,hm.size,hm.oth⟩
      have HMS2:Hid (MapIs W2 X.ms (dirK F j).length (dirF (dirK F j) X.fb)):=hMs.to (hb2.block _ hMs.lt)
      have y0:W2.drew.cell? ⟨V,0,none⟩=some (.string pc.n):=(row3 hv2).1
      have y1:W2.drew.cell? ⟨V,1,none⟩=some (.string pc.t):=(row3 hv2).2.1
      have y2:W2.drew.cell? ⟨V,2,none⟩=some (.pointer (some ⟨pc.b,0,none⟩)):=(row3 hv2).2.2.1
      have y3:W2.drew.cell? ⟨g,4,none⟩=some (.map (some X.ms)):=(fsC7 hg2).2.2.2.2.1
      have HV2:Hid (W2.heap[V]?=some (.cells #[.string pc.n,.string pc.t,ptr (some pc.b)] 100)):=hv2
      have HG2:Hid _:=hg2
      have HGM:Hid (g ≠ X.ms):=hgms
      have hW2':wr.alloc (.cells #[.string pc.n,.string pc.t,.pointer (some ⟨pc.b,0,none⟩)] 100)=W2:=hW2
      clear hat qf qn qt qtf hlen hrow hjl hel hcell hpsz hMs hfew hb2 hv2 hg2 hmd hgr he hgms hW2 hpc
      generalize pc.n=pn at *
      generalize pc.t=pt at *
      generalize pc.b=pb at *
      unfold ptr at x2 HAP
      go_upto_region 5 with (refine ldC E (o + j * 3) (.string pn) (.string pt) (.pointer (some ⟨pb,0,none⟩)) _ rfl rfl rfl x0 x1 x2 ?_)
      have hVg:V ≠ X.ms:=fun e=>by
        have:=HMS2.out.ne HV2.out
        exact this e.symm
      have HVG:Hid (V ≠ X.ms):=hVg
      clear hVg x0 x1 x2 hW2'
      go_region_held3 (fun W:World=>W.cell? ⟨V,0,none⟩=some (.string pn)∧W.cell? ⟨V,1,none⟩=some (.string pt)∧W.cell? ⟨V,2,none⟩=some (.pointer (some ⟨pb,0,none⟩))∧W.cell? ⟨g,4,none⟩=some (.map (some X.ms)))
        (first | with_reducible exact ⟨y0,y1,y2,y3⟩ | with_reducible exact ⟨q0,q1,q2,q3⟩)
        (first
          | (go_at_call 85; refine (show Calls _ _ _ _ _ from HAP.out 1).mono ?_; rintro e w4 ⟨rfl,hm4,hk4⟩; obtain ⟨q0,q1,q2x,_⟩:=row3 (hm4.row (k:=V) HV2.out HVG.out); have q2:w4.cell? ⟨V,2,none⟩=some (.pointer (some ⟨pb,0,none⟩)):=q2x; obtain ⟨_,_,_,_,q3,_,_,_⟩:=fsC7 (hm4.row (k:=g) HG2.out HGM.out)))
      have HN4:Hid (GD1 Wq X F (j + 1) w4):=HNEXT.out 1 w4 hm4 hk4
      clear hm4 hk4 q0 q1 q2 q2x q3 y0 y1 y2 y3
      go_wp2
      go_roundw
      case rel=>exact ⟨j + 1,hlt,rfl,HN4.out⟩
      case measure=>simp [intOf]; omega
    · have hjk':j=k:=by omega
      subst hjk'
      clear hlt
      obtain ⟨Wb,hWb⟩:∃ Wb,Wb=wr:=⟨_,rfl⟩
      subst hWb
      obtain ⟨_,_,_,_,g4,_,_,gfx⟩:=fsC7 hgr
      have hjn:j ≤ F.chg.length:=by rw [HNC.out]; exact hkn
      have hMs:=HGD1.out.size HFq.out.ok hjn
      have hdok:=HFq.out.ok.dirs j hjn
      have hlive:=dirK_live (X:=X) HFq.out.ok j hjn
      have hfl:∀ x ∈ dirK F j,FileAt Wb (X.fb x.2.toNat) x.2.toNat (F.files.getD x.2.toNat ⟨⟨#[]⟩,0⟩) (X.pv x.2.toNat) (X.ps x.2.toNat):=fun x hx=>by
        have hf:=HFq.out.file (hlive x hx)
        refine hf.to (hmd.oth _ (row_lt hf.blk) (fun e=>HFq.out.safe_k.ne hf.blk e.symm)) (fun q hq=>hmd.oth q (own_lt hf.own hq) (fun e=>?_))
        obtain ⟨cur,hc⟩:=own_type hf.own hq
        exact HFq.out.safe_k.ne hc e.symm
      have HINJ:Hid (∀ x ∈ dirK F j,∀ y ∈ dirK F j,x ≠ y → X.fb x.2.toNat ≠ X.fb y.2.toNat):=fun x hx y hy hne=>(HFq.out.inj _ _ (hlive x hx) (hlive y hy) (fun e=>pair_ne hdok.uni hx hy hne (by have:=hdok.ge x hx; have:=hdok.ge y hy; omega))).1
      have HSEP:Hid (∀ x ∈ dirK F j,∀ y ∈ dirK F j,x ≠ y → ∀ k,(X.pv x.2.toNat).ownBlock=some k → (X.pv y.2.toNat).ownBlock ≠ some k):=fun x hx y hy hne=>(HFq.out.inj _ _ (hlive x hx) (hlive y hy) (fun e=>pair_ne hdok.uni hx hy hne (by have:=hdok.ge x hx; have:=hdok.ge y hy; omega))).2
      have HMD:Hid (ModP (fun q=>q=X.ms) Wq Wb):=hmd
      have HFL:Hid (∀ x ∈ dirK F j,FileAt Wb (X.fb x.2.toNat) x.2.toNat (F.files.getD x.2.toNat ⟨⟨#[]⟩,0⟩) (X.pv x.2.toNat) (X.ps x.2.toNat)):=hfl
      have HDK:Hid (DOk (dirK F j) F.files.length):=hdok
      have HGR:Hid _:=hgr
      have HNR:Hid (Wb.heap[R]?=some (.cells #[.slice P p.length c] 44)):=hmd.row HNq.out (fun e=>HFq.out.safe_k.ne HNq.out e.symm)
      have HVR:Hid (Pks Wb (Own g F X) (.slice P p.length c) p):=HVq.out.keep (fun q hq hn=>hmd.oth q hq (fun e=>hn (Or.inr (Or.inr (Or.inl e)))))
      have HNO:Hid (∀ z ∈ dirK F j,Own g F X (X.fb z.2.toNat)):=fun z hz=>Or.inr (Or.inr (Or.inr (Or.inl ⟨_,hlive z hz,Or.inl rfl⟩)))
      obtain ⟨D0,hown,hDI⟩:=hMs
      have HDI:Hid (DIs D0 (dirK F j).length (dirF (dirK F j) X.fb)):=hDI
      have HWS:Hid (w.heap.size ≤ Wb.heap.size):=by have:=HBq.out.size; have:=hmd.size; show _ ≤ _; omega
      have HGS:Hid (g < Wb.heap.size∧R < Wb.heap.size∧X.ms < Wb.heap.size):=⟨row_lt hgr,row_lt HNR.out,hown.lt⟩
      clear hmd hgr hdok hlive hfl hDI
      go_wp2_with (first
        | (at_range; refine wpList_range_own _ rfl _ 70 rfl 9 83 lawK Tryz.underlying70 _ X.ms (dirK F j).length _ rfl hown ?_; intro w0 hrg0 hg0 hs0)
        | go_in)
      go_frame
      go_loopw [8] (fun _ wi=>∃ left cnt pvf psf,wi.ranges Tryz.prog 9 ptrElem X.ms Wb.heap.size (dirK F j).length D0 left cnt∧GD2 Wb X F (dirK F j) p Wb.heap.size left pvf psf wi) (fun _ wi=>wi.rangeLeft X.ms Wb.heap.size)
      case atStart =>
        refine ⟨_,_,X.pv,X.ps,hrg0,ModP.grown hg0 (fun b hb=>by cases hb),fun x hx=>?_,fun x _=>Or.inl rfl,HSEP.out⟩
        have h1:Maps.has D0 (.string x.1.data.toList)=true:=by
          rw [HDI.out.has]
          exact ((names_of HDK.out X.fb).mem x.1).1 (List.mem_map.2 ⟨x,hx,rfl⟩)
        rw [h1]
        simp only [if_true]
        have hf:=HFL.out x hx
        exact hf.to (hg0.block _ (row_lt hf.blk) (by simp)) (fun q hq=>hg0.block q (own_lt hf.own hq) (by simp))
      case round =>
        obtain ⟨left,cnt,pvf,psf,hrg,hgd⟩:=hrel
        have HGD:Hid (GD2 Wb X F (dirK F j) p Wb.heap.size left pvf psf wr):=hgd
        have HRG:Hid (wr.ranges Tryz.prog 9 ptrElem X.ms Wb.heap.size (dirK F j).length D0 left cnt):=hrg
        clear hrg0 hg0 hs0 hown g4 gfx
        go_wp2_with (first
          | (at_next; refine wpList_next_ranges _ rfl _ rfl 9 lawK ptrElem encStr ptr (fun key kl hk=>by obtain ⟨x,hx,_⟩:=Maps.keyOf_str Tryz.underlying9 hk; exact ⟨x,hx⟩) ptrElem_shape X.ms Wb.heap.size (dirK F j).length _ _ _ rfl hrg ?_ ?_)
          | go_in)
        · intro hc0 hl0
          have hgms':=HFq.out.ne_g.2.1
          have HLF:Hid (∀ kl,left kl=false):=hl0
          have hMr:MapIs wr X.ms (dirK F j).length (dirF (dirK F j) X.fb):=⟨D0,HRG.out.owns,HDI.out⟩
          have hgr:wr.heap[g]?=some (.cells #[.bool F.down,.int .i64 (F.steps:Int),.int .i64 (F.files.length:Int),.map (some X.mn),.map (some X.ms),X.cv,X.qv] 74):=by
            refine (HGD.out.md.oth g HGS.out.1 (fun hs=>?_)).trans HGR.out
            rcases hs with e | ⟨x,hx,e⟩
            · have:=HGS.out.1; omega
            · have hf:=(HFL.out x hx).blk
              rw [← e] at hf
              have:=hf.symm.trans HGR.out
              injection this with this
              injection this with _ h3
              exact absurd h3 (by decide)
          have HMC:Hid _:=mclone_any X.ms (dirK F j).length _ wr hMr
          have HMR:Hid (MapIs wr X.ms (dirK F j).length (dirF (dirK F j) X.fb)):=hMr
          have HGW:Hid (wr.heap[g]?=some (.cells #[.bool F.down,.int .i64 (F.steps:Int),.int .i64 (F.files.length:Int),.map (some X.mn),.map (some X.ms),X.cv,X.qv] 74)):=hgr
          obtain ⟨_,_,_,_,k4,_,_,_⟩:=fsC7 hgr
          clear hrg hgd hgr hMr hl0 hc0
          go_wp2_with fail
          refine (show Calls _ _ _ _ _ from HMC.out).mono ?_
          rintro e w3 ⟨rfl,hm3,hb3⟩
          have hg3:=(hb3.block g (row_lt HGW.out)).trans HGW.out
          obtain ⟨k0,k1,k2,k3,_,k5,k6,kf⟩:=fsC7 hg3
          have f3:=kf 3
          have f5:=kf 5
          have f6:=kf 6
          have f0:=kf 0
          have t1:=fs_set hg3 3 (.map (some wr.heap.size))
          have t1':(w3.setCell ⟨g,3,none⟩ (.map (some wr.heap.size))).heap[g]?=some (.cells #[.bool F.down,.int .i64 (F.steps:Int),.int .i64 (F.files.length:Int),.map (some wr.heap.size),.map (some X.ms),X.cv,X.qv] 74):=t1.1
          have t2:=fs_set t1' 5 (.slice none 0 0)
          have t2':((w3.setCell ⟨g,3,none⟩ (.map (some wr.heap.size))).setCell ⟨g,5,none⟩ (.slice none 0 0)).heap[g]?=some (.cells #[.bool F.down,.int .i64 (F.steps:Int),.int .i64 (F.files.length:Int),.map (some wr.heap.size),.map (some X.ms),.slice none 0 0,X.qv] 74):=t2.1
          have t3:=fs_set t2' 6 (.slice none 0 0)
          have t3':(((w3.setCell ⟨g,3,none⟩ (.map (some wr.heap.size))).setCell ⟨g,5,none⟩ (.slice none 0 0)).setCell ⟨g,6,none⟩ (.slice none 0 0)).heap[g]?=some (.cells #[.bool F.down,.int .i64 (F.steps:Int),.int .i64 (F.files.length:Int),.map (some wr.heap.size),.map (some X.ms),.slice none 0 0,.slice none 0 0] 74):=t3.1
          have t4:=fs_set t3' 0 (.bool true)
          obtain ⟨W7,hW7⟩:∃ W7,(((w3.setCell ⟨g,3,none⟩ (.map (some wr.heap.size))).setCell ⟨g,5,none⟩ (.slice none 0 0)).setCell ⟨g,6,none⟩ (.slice none 0 0)).setCell ⟨g,0,none⟩ (.bool true)=W7:=⟨_,rfl⟩
          have ho7:Only w3 W7 g:=by rw [← hW7]; exact ((t1.2.trans t2.2).trans t3.2).trans t4.2
          have hg7:W7.heap[g]?=some (.cells #[.bool true,.int .i64 (F.steps:Int),.int .i64 (F.files.length:Int),.map (some wr.heap.size),.map (some X.ms),.slice none 0 0,.slice none 0 0] 74):=by rw [← hW7]; exact t4.1
          have hgl:=row_lt HGW.out
          have HFIN:Hid (∃ X',Bec w g X F W7 X' (downM F p)):=by
            refine HGD.out.fin (w:=w) (w':=W7) (mb:=wr.heap.size) HH.out (by rw [HNC.out]; exact HK.out.symm) hjn ((ModP.below HBq.out).trans HMD.out) HWS.out HLF.out HMR.out hg7 (hm3.to (ho7.other _ (by omega))) (Nat.le_refl _) ((ModP.below hb3).trans (ModP.only ho7 rfl))
          clear t1 t1' t2 t2' t3 t3' t4 ho7 hg7 hm3 hb3 hg3 kf k4
          go_wp2
          go_end0
          exact ⟨rfl,HFIN.out⟩
        · intro x o kl yd yp w2 cnt2 hkey hlk hv hat hrg2 hlt2 hg2 hs2 hen
          obtain ⟨x',ex,rfl,_⟩:=Maps.keyOf_str Tryz.underlying9 hkey
          obtain rfl:x=x':=encStr_inj ex
          have hhas:Maps.has D0 (.string x)=true:=has_true_of_atKey hat
          have hnm:(⟨x.toArray⟩:ByteArray).data.toList=x:=by simp
          have hsome:(dirF (dirK F j) X.fb ⟨x.toArray⟩).isSome=true:=by rw [← HDI.out.has,hnm]; exact hhas
          obtain ⟨b,hb⟩:=Option.isSome_iff_exists.1 hsome
          obtain ⟨sl,hsl,hs1,i,hs2',hi,rfl,_⟩:=dirF_some HDK.out hb
          have hsi:sl.2.toNat=i:=by omega
          have hyd:yd=.lit (.int .i64 ((X.fb i:Nat):Int)):=by
            have h1:=HDI.out.at_ ⟨x.toArray⟩ _ hb (.lit (.int .i64 (-1)))
            rw [hnm,hat] at h1
            exact h1
          have ho:o=some (X.fb i):=by
            obtain ⟨o',e1,e2⟩:=ptrElem_inv hv
            have e3:o=o':=by
              rcases o with _ | a <;> rcases o' with _ | a' <;> simp [ptr] at e1 ⊢
              exact e1
            subst e3
            have e4:=congrArg Prod.fst e2
            simp only at e4
            rw [hyd] at e4
            rcases o with _ | a
            · have:((X.fb i:Nat):Int)=-1:=lit_inj e4
              omega
            · have h3:((X.fb i:Nat):Int)=(a:Int):=lit_inj e4
              have:a=X.fb i:=by omega
              rw [this]
          subst ho
          have hiter:∃ a b c e,wr.heap[Wb.heap.size]?=some (.mapIter a b c e):=by
            obtain ⟨es,clock,since,seen,c0,_,_,_,_,hri,_⟩:=HRG.out
            exact ⟨_,_,_,_,hri⟩
          have hgd2:=HGD.out.iter hg2 hiter
          have hfi:=hgd2.fl sl hsl
          have hlx:left (.string sl.1.data.toList)=true:=by rw [hs1,hnm]; exact hlk
          rw [hlx,if_pos rfl,hsi] at hfi
          obtain ⟨y,hy⟩:∃ y,F.files.getD i ⟨⟨#[]⟩,0⟩=y:=⟨_,rfl⟩
          rw [hy] at hfi
          have hdn:dnF F p i=cutF y (pickM p (i + 1) (y.d.size - y.s)):=by unfold dnF; rw [hy]
          have hbig:=hfi.big
          have hsf:=hfi.sf
          obtain ⟨pk,hpk⟩:∃ pk,pickM p (i + 1) (y.d.size - y.s)=pk:=⟨_,rfl⟩
          have hpkl:pk ≤ y.d.size - y.s:=by rw [← hpk]; exact pkM_le _ _ _
          have hfil:F.files.length ≤ 3298534883328:=HS.out.fi
          have hnr:w2.heap[R]?=some (.cells #[.slice P p.length c] 44):=by
            refine (hgd2.md.oth R HGS.out.2.1 (fun hs=>?_)).trans HNR.out
            rcases hs with e | ⟨z,hz,e⟩
            · have:=HGS.out.2.1; omega
            · have hf:=(HFL.out z hz).blk
              rw [← e] at hf
              have:=hf.symm.trans HNR.out
              injection this with this
              injection this with _ h3
              exact absurd h3 (by decide)
          have hvr:Pks w2 (Own g F X) (.slice P p.length c) p:=HVR.out.keep (fun q hq hn=>by
            refine hgd2.md.oth q hq (fun hs=>?_)
            rcases hs with e | ⟨z,hz,e⟩
            · omega
            · exact hn (by rw [e]; exact HNO.out z hz))
          have HPI:Hid (∀ m,Calls Tryz.prog 84 #[.int .i64 ((i + 1:Nat):Int),.int .i64 ((y.d.size - y.s:Nat):Int),.pointer (some ⟨R,0,none⟩)] (w2.drewN m) fun e w'=>e=.returned (.int .i64 (pk:Int))∧w'=w2.drewN m):=fun m=>by
            have:=gpick_any (.slice P p.length c) p (i + 1) (y.d.size - y.s) R (by omega) (by omega) (w2.drewN m) hnr (hvr.kr.on (below_dn (Below.refl _ _) m))
            rw [hpk] at this
            exact this
          have HKE:Hid (∀ m,Calls Tryz.prog 86 #[ptr (some (X.fb i)),.int .i64 (pk:Int)] (w2.drewN m) fun e w'=>e=.returned (.tuple #[])∧∃ pv' ps',FileAt w' (X.fb i) i (cutF y pk) pv' ps'∧ModP (fun q=>q=X.fb i) (w2.drewN m) w'∧Loc (w2.drewN m) (pvf i) pv'):=fun m=>keep_any (X.fb i) i y (pvf i) (psf i) pk (w2.drewN m) (hfi.to rfl (fun _ _=>rfl)) (by omega)
          have HNX:Hid (∀ w',(∃ pv' ps',FileAt w' (X.fb i) i (cutF y pk) pv' ps'∧ModP (fun q=>q=X.fb i) w2 w'∧Loc w2 (pvf i) pv') → (∃ left cnt pvf psf,w'.ranges Tryz.prog 9 ptrElem X.ms Wb.heap.size (dirK F j).length D0 left cnt∧GD2 Wb X F (dirK F j) p Wb.heap.size left pvf psf w')∧w'.rangeLeft X.ms Wb.heap.size=cnt2):=fun w' hh=>by
            obtain ⟨pv',ps',q1,q2,q3⟩:=hh
            have hd2:FileAt w' (X.fb sl.2.toNat) sl.2.toNat (dnF F p sl.2.toNat) pv' ps':=by rw [hsi,hdn,hpk]; exact q1
            have hk2:=hgd2.keep HDK.out HINJ.out hsl hd2 (by rw [hsi]; exact q2) (by rw [hsi]; exact q3)
            have hrgk:w'.ranges Tryz.prog 9 ptrElem X.ms Wb.heap.size (dirK F j).length D0 (fun z=>left z && !z.sameKey (.string x)) cnt2:=by
              refine hrg2.kept (row:=some (X.fb i)) ⟨q2.os,q2.tape,q2.output,q2.size,fun k hk hne=>q2.oth k hk (fun e=>hne (by rw [e]))⟩ (fun e=>?_) (fun e=>?_)
              · injection e with e
                have hmm:MapIs w2 X.ms (dirK F j).length (dirF (dirK F j) X.fb):=⟨D0,hrg2.owns,HDI.out⟩
                exact hmm.ne hfi.blk e
              · injection e with e
                obtain ⟨es,clock,since,seen,c0,_,_,_,_,hri,_⟩:=hrg2
                have:=hfi.blk
                rw [← e,hri] at this; cases this
            rw [hs1,hnm] at hk2
            exact ⟨⟨_,_,_,_,hrgk,hk2⟩,hrgk.left_eq⟩
          have HMEAS:Hid (cnt2 < wr.rangeLeft X.ms Wb.heap.size):=by show _ < _; rw [HRG.out.left_eq]; exact hlt2
          obtain ⟨z0,z1,z2,z3,_⟩:=file_cells hfi.blk
          have hyw:IntKind.i64.wrap ((y.d.size:Int) - (y.s:Int))=((y.d.size - y.s:Nat):Int):=by rw [IntKind.wrap_i64] <;> omega
          obtain ⟨bb,hbb⟩:∃ bb,X.fb i=bb:=⟨_,rfl⟩
          obtain ⟨i1,hi1⟩:∃ i1,i + 1=i1:=⟨_,rfl⟩
          obtain ⟨ys,hys⟩:∃ ys,y.d.size=ys:=⟨_,rfl⟩
          obtain ⟨yf,hyf⟩:∃ yf,y.s=yf:=⟨_,rfl⟩
          rw [hbb] at z0 z1 z2 z3 hen HKE
          rw [hi1] at z0 HPI
          rw [hys] at z2 hyw HPI
          rw [hyf] at z3 hyw HPI
          have HBB:Hid (X.fb i=bb):=hbb
          clear hkey hlk hv hat hrg2 hlt2 hg2 hs2 hhas hsome hb hsl hs1 hs2' hi hsi hyd hiter hgd2 hfi hlx hy hdn hbig hsf hpk hpkl hfil hnr hvr ex hbb hi1 hys hyf hrg hgd
          unfold ptr at HKE hen
          have HPI':Hid (Calls Tryz.prog 84 #[.int .i64 (i1:Int),.int .i64 ((ys - yf:Nat):Int),.pointer (some ⟨R,0,none⟩)] w2.drew fun e w'=>e=.returned (.int .i64 (pk:Int))∧w'=w2.drew):=HPI.out 1
          have HKE':Hid (Calls Tryz.prog 86 #[.pointer (some ⟨bb,0,none⟩),.int .i64 (pk:Int)] w2.drew fun e w'=>e=.returned (.tuple #[])∧∃ pv' ps',FileAt w' (X.fb i) i (cutF y pk) pv' ps'∧ModP (fun q=>q=X.fb i) w2 w'∧Loc w2 (pvf i) pv'):=by
            refine (show Calls _ _ _ _ _ from HKE.out 1).mono ?_
            rintro e w' ⟨h1,pv',ps',h2,h3,h4⟩
            exact ⟨h1,pv',ps',by rw [HBB.out]; exact h2,by rw [HBB.out]; exact ⟨h3.os,h3.tape,h3.output,h3.size,h3.oth⟩,h4⟩
          clear HPI HKE
          go_upto_region 10 with fail
          go_region_law (first
            | (go_simp; with_reducible refine (show Calls _ _ _ _ _ from HPI'.out).mono ?_; rintro e w3 ⟨rfl,rfl⟩)
            | (go_simp; with_reducible refine (show Calls _ _ _ _ _ from HKE'.out).mono ?_; rintro e w4 ⟨rfl,hk4⟩))
          all_goals
            obtain ⟨hrel4,hme4⟩:=HNX.out w4 hk4
            have HREL:Hid (∃ left cnt pvf psf,w4.ranges Tryz.prog 9 ptrElem X.ms Wb.heap.size (dirK F j).length D0 left cnt∧GD2 Wb X F (dirK F j) p Wb.heap.size left pvf psf w4):=hrel4
            have HME4:Hid (w4.rangeLeft X.ms Wb.heap.size=cnt2):=hme4
            clear hk4 hrel4 hme4 z0 z1 z2 z3 hen
            go_wp2
            go_roundw
            case rel=>exact HREL.out
            case measure=>(rw [HME4.out]; exact HMEAS.out)
end Go.Proofs.YtbgbmfmgdgalbaaGreatDoor
namespace Go.Proofs.YtbgbmfmgdgalbaaGreatDoor
open Go.RowKit Go.Maps
set_option linter.unusedVariables false
set_option linter.unusedSimpArgs false
theorem pin_fl (p:List Int):pinE.fl p=p.map (Value.int .i64):=by
  unfold ET.fl
  induction p with
  | nil=>rfl
  | cons x p ih=>rw [List.flatMap_cons,ih]; rfl
theorem own_zero {w:World} {b e k n:Nat} {v:Value} {xs:List Value} (h:w.ownsRow b e k v n xs):w.ownsRow 0 e k v n xs:=by
  obtain ⟨h0,h1 | ⟨g,cap,cur,h1,hb,r⟩⟩:=h
  · exact ⟨h0,Or.inl h1⟩
  · exact ⟨h0,Or.inr ⟨g,cap,cur,h1,Nat.zero_le _,r⟩⟩
theorem cloneI_any (v:Value) (p:List Int) (hp:p.length ≤ 17592186044416) (w:World) (h:KR pinE w v p) :
    Calls Tryz.prog 42 #[v] w fun e w'=>∃ v',e=.returned v'∧w'.ownsRow w.heap.size 3 1 v' p.length (pinE.fl p)∧Below w.heap.size w w':=by
  rw [pin_fl]
  rcases h with ⟨rfl,a,c,rfl,_⟩ | ⟨g,o,c,rfl,hc⟩
  · cases a with
    | none=>exact (Tryz.slices_Clone_int_nil 0 c w).mono (fun e w' h=>⟨_,h.1,⟨rfl,Or.inl ⟨rfl,rfl⟩⟩,by rw [h.2]; exact Below.refl _ _⟩)
    | some a=>exact (Tryz.slices_Clone_int_zero a c w).mono (fun e w' h=>by obtain ⟨v',h1,h2,_,h4⟩:=h; exact ⟨v',h1,h2,h4⟩)
  · refine (Tryz.slices_Clone_int g o p.length c p w (Nat.le_refl _) (by omega) (fun j hj=>?_)).mono (fun e w' h=>?_)
    · refine hc j _ ?_
      rw [pin_fl,List.getElem?_map,List.getElem?_eq_getElem hj]
      simp [List.getD,List.getElem?_eq_getElem hj]
    · obtain ⟨v',h1,h2,_,h4⟩:=h
      rw [List.take_length] at h2
      exact ⟨v',h1,h2,h4⟩
theorem Plans.crash {F:Fs} {qs qs':List Pq} {q0:Pq} {p:List Int} (h:Plans F qs) (hl:LayF (qs.filter okQ) q0 qs') (hc:q0.c=true) (hs:F.steps < q0.s):Plans { F with crash:=(q0.s:Int),picks:=p } qs':=by
  refine ⟨hl.srt,fun q hq=>?_,fun n r hn hf=>?_,fun n hn hf=>?_⟩
  · rcases hl.new q hq with rfl | ⟨hq,_⟩
    · exact hs
    · exact h.ahead q (List.mem_filter.1 hq).1
  · obtain ⟨q,hq,h1,h2⟩:=h.all n r hn hf
    obtain ⟨q',hq',e1,e2⟩:=hl.old q (List.mem_filter.2 ⟨hq,by unfold okQ; rw [h1]; rfl⟩)
    exact ⟨q',hq',e2.trans h1,e1.trans h2⟩
  · have:(q0.s:Int)=(n:Int):=hf
    exact ⟨q0,hl.mem,hc,by omega⟩
theorem filter_srt {qs:List Pq} (h:qs.Pairwise ltQ):(qs.filter okQ).Pairwise ltQ:=h.sublist List.filter_sublist
theorem FsP.crash_laid {w W0 w':World} {g b:Nat} {X:Gh} {F:Fs} {q0:Pq} {p:List Int} {v qv1:Value} {e:Ending} (h:FsP w g X F) (hm0:ModP (fun k=>k=g ∨ X.qv.ownBlock=some k) w W0)
    (hg0:W0.heap[g]?=some (.cells #[.bool F.down,.int .i64 (F.steps:Int),.int .i64 (F.files.length:Int),.map (some X.mn),.map (some X.ms),X.cv,qv1] 74)) (hr0:PRow W0 qv1 (X.qs.filter okQ)) (hq1:∀ k,qv1.ownBlock=some k → X.qv.ownBlock=some k)
    (hb:W0.heap[b]?=some (.cells #[v] 44)) (hv:W0.ownsRow 0 3 1 v p.length (pinE.fl p)) (hc:q0.c=true) (hqb:q0.b=b) (hwb:w.heap.size ≤ b) (hwv:∀ k,v.ownBlock=some k → w.heap.size ≤ k) (hs:F.steps < q0.s)
    (hL:LayP W0 g (.bool F.down) (.int .i64 (F.steps:Int)) (.int .i64 (F.files.length:Int)) (.map (some X.mn)) (.map (some X.ms)) X.cv qv1 (X.qs.filter okQ) q0 e w'):e=.returned (.tuple #[])∧∃ X',Bec w g X F w' X' { F with crash:=(q0.s:Int),picks:=p }:=by
  obtain ⟨he,qv',qs',hl,hg',hrow',hk',hm'⟩:=hL
  have hf:=hl.facts (filter_srt h.pln.srt)
  have hkeep0:∀ {k:Nat} {cs:Array Value} {t:Nat} {fz:Nat × Nat},W0.heap[k]?=some (.cells cs t fz) → ¬ tyOwn t → w'.heap[k]?=W0.heap[k]?:=fun {k cs t fz} hk ht=>hm'.oth k (row_lt hk) (fun hs=>by
    rcases hs with rfl | hs
    · exact ht (by rw [row_ty hk hg0]; exact Or.inl rfl)
    · obtain ⟨cur,hc⟩:=hr0.type hs
      exact ht (by rw [row_ty hk hc]; exact Or.inr (Or.inr (Or.inr (Or.inr rfl)))))
  have hkeepw:∀ {k:Nat} {cs:Array Value} {t:Nat} {fz:Nat × Nat},w.heap[k]?=some (.cells cs t fz) → ¬ tyOwn t → W0.heap[k]?=w.heap[k]?:=fun {k cs t fz} hk ht=>hm0.oth k (row_lt hk) (fun hs=>by
    rcases hs with rfl | hs
    · exact ht (by rw [row_ty hk h.blk]; exact Or.inl rfl)
    · obtain ⟨cur,hc⟩:=h.row.type hs
      exact ht (by rw [row_ty hk hc]; exact Or.inr (Or.inr (Or.inr (Or.inr rfl)))))
  have hmm:ModP (fun k=>k=g ∨ X.qv.ownBlock=some k) w w':=hm0.andThen hm' (fun k _ hk=>hk.imp id (fun e=>hq1 k e))
  have hC:=h.toFsC.repl (F':={ F with crash:=(q0.s:Int),picks:=p }) hmm ⟨rfl,rfl,rfl,rfl⟩ hg' hrow'
  have hP:FsP w' g { X with qv:=qv',qs:=qs' } { F with crash:=(q0.s:Int),picks:=p }:=by
    refine ⟨hC,h.pln.crash hf hc hs,fun q hq=>?_⟩
    rcases hf.new q hq with rfl | ⟨hq',hn⟩
    · refine ⟨fun _=>⟨rfl,v,?_,?_⟩,fun h=>(by rw [hc] at h; cases h)⟩
      · rw [hqb]; exact (hkeep0 hb (by unfold tyOwn; decide)).trans hb
      · exact own_to hv (fun k hk=>by obtain ⟨cur,hcu⟩:=own_type hv hk; exact hkeep0 hcu (by unfold tyOwn; decide))
    · obtain ⟨hq2,hok⟩:=List.mem_filter.1 hq'
      have hcf:q.c=false:=by unfold okQ at hok; simpa using hok
      obtain ⟨r,h1,h2⟩:=(h.hld q hq2).fl hcf
      refine ⟨fun h=>(by rw [hcf] at h; cases h),fun _=>⟨r,?_,h2⟩⟩
      have e1:=(hkeepw h1 (by unfold tyOwn; decide)).trans h1
      exact (hkeep0 e1 (by unfold tyOwn; decide)).trans e1
  refine ⟨he,_,Bec.repl h.toFsC hmm ⟨rfl,rfl,rfl,rfl⟩ hP (fun k hk=>(hk' k hk).imp (hq1 k) (fun q=>Nat.le_trans hm0.size q)) ?_ (fun q hq=>(hf.new q hq).symm.imp (fun h6=>(List.mem_filter.1 h6.1).1) (fun h6=>by subst h6; exact ⟨by rw [hqb]; exact hwb,fun _=>⟨v,by rw [hqb]; exact (hkeep0 hb (by unfold tyOwn; decide)).trans hb,hwv⟩⟩))⟩
  have:=hf.len
  have h2:=List.length_filter_le okQ X.qs
  omega
end Go.Proofs.YtbgbmfmgdgalbaaGreatDoor
