import Derived.Test.YtbgbmfmgdgalbaaGreatDoorM01
namespace Go.Proofs.YtbgbmfmgdgalbaaGreatDoor
open Go.RowKit
set_option linter.unusedVariables false
set_option linter.unusedSimpArgs false
def dirAt (s:Fs) (i:Nat):List Sl:=(s.chg.take i).foldl afterM s.sure
theorem dirAt_succ (s:Fs) (i:Nat) (hi:i < s.chg.length):dirAt s (i + 1)=afterM (dirAt s i) s.chg[i]:=by
  unfold dirAt
  rw [← List.take_append_getElem hi,List.foldl_append]
  rfl
theorem downF_drop (p:List Int) (l:List Fi) (i j:Nat) (hi:i < l.length):downF p (j + i) (l.drop i)=cutF l[i] (pickM p (j + i + 1) (l[i].d.size - l[i].s)) :: downF p (j + (i + 1)) (l.drop (i + 1)):=by
  rw [List.drop_eq_getElem_cons hi]
  rfl
theorem two_rows {w:World} (a b:Obj):Below w.heap.size w ((w.alloc a).alloc b)∧((w.alloc a).alloc b).heap[w.heap.size]?=some a∧((w.alloc a).alloc b).heap[w.heap.size + 1]?=some b:=by
  have b1:Below w.heap.size w (w.alloc a):=(Below.refl _ _).alloc (Nat.le_refl _) _
  have b2:Below (w.alloc a).heap.size (w.alloc a) ((w.alloc a).alloc b):=(Below.refl _ _).alloc (Nat.le_refl _) _
  refine ⟨b1.trans (b2.mono b1.size),keep_row (one_alloc w a) b2,?_⟩
  have:=one_alloc (w.alloc a) b
  simpa [World.size_alloc] using this
structure DnA (s:Fs) (V:FV) (w W1:World) (i:Nat) (dv:Value) (wr:World):Prop where
  kr:KR slE wr dv (dirAt s i)
  bel:Below W1.heap.size W1 wr
  av:∀ S:Nat → Prop,(∀ k,S k → k < w.heap.size) → Av S s V → dirAt s i ≠ [] → NB S dv
  lo:dirAt s i ≠ [] → NB (fun k=>k=w.heap.size + 1) dv
set_option maxHeartbeats 4000000 in
set_option maxRecDepth 20000 in
theorem down_any (s:Fs) (V:FV) (pv:Value) (p:List Int) (hfl:s.files.length ≤ 3298534883328) (hcl:s.chg.length ≤ 3298534883328) (hdl:∀ i,(dirAt s i).length ≤ 1099511627770) (hfz:∀ x ∈ s.files,x.d.size ≤ 1073741824∧x.s ≤ x.d.size) (w:World) (h:FsAt s V w) (hp:KR inE w pv p) :
    Calls Tryz.prog 97 #[.agg (fsC s V),pv] w fun e w'=>∃ V',e=.returned (.agg (fsC (downM s p) V'))∧Made s V w (downM s p) V' w':=by
  obtain ⟨Z,hZ⟩:∃ Z,Z=zF:=⟨_,rfl⟩
  have HZZ:Hid (Z=zF):=hZ
  have HZS:Hid (Z.size=9):=by show _=_; rw [hZ]; rfl
  clear hZ
  obtain ⟨W1,hW1⟩:∃ W1,W1=(w.alloc (.cells (fsC s V) 61)).alloc (.cells Z 61):=⟨_,rfl⟩
  obtain ⟨r,hr⟩:∃ r,w.heap.size=r:=⟨_,rfl⟩
  have HRR:Hid (w.heap.size=r):=hr
  have H2:=two_rows (w:=w) (.cells (fsC s V) 61) (.cells Z 61)
  rw [← hW1,hr] at H2
  obtain ⟨hB1,hR1,hR2⟩:=H2
  have HW1:Hid (W1.heap.size=r + 2):=by show _=_; rw [hW1,← hr]; simp [World.size_alloc]
  have hBw:Below w.heap.size w W1:=by rw [hr]; exact hB1
  have HF:Hid (FsAt s V W1):=h.on hBw
  have HF0:Hid (FsAt s V w):=h
  have HP:Hid (KR inE W1 pv p):=hp.on hBw
  have HB1:Hid (Below r w W1):=hB1
  have HR1:Hid _:=hR1
  have HR2:Hid _:=hR2
  have HLC:Hid (s.chg.length ≤ 3298534883328):=hcl
  have HLF:Hid (s.files.length ≤ 3298534883328):=hfl
  have HLD:Hid (∀ i,(dirAt s i).length ≤ 1099511627770):=hdl
  have HFZ:Hid (∀ x ∈ s.files,x.d.size ≤ 1073741824∧x.s ≤ x.d.size):=hfz
  obtain ⟨n,hn⟩:∃ n,pickM p 0 s.chg.length=n:=⟨_,rfl⟩
  have HN:Hid (pickM p 0 s.chg.length=n):=hn
  have HNL:Hid (n ≤ s.chg.length):=by rw [← hn]; exact pickM_le _ _ _
  have HPK:Hid (∀ (W:World) (i m:Nat),KR inE W pv p → i ≤ 4611686018427387904 → m ≤ 4611686018427387904 → Calls Tryz.prog 136 #[pv,.int .i64 (i:Int),.int .i64 (m:Int)] W fun e w'=>e=.returned (.int .i64 (pickM p i m:Int))∧w'=W):=fun W i m hk hi hm=>pick_any pv p i m hi hm W hk
  have HPK0:Hid (Calls Tryz.prog 136 #[pv,.int .i64 0,.int .i64 (s.chg.length:Int)] W1 fun e w'=>e=.returned (.int .i64 (n:Int))∧w'=W1):=by
    have:=HPK.out W1 0 s.chg.length HP.out (by omega) (by omega)
    rw [hn] at this
    exact this
  clear h hp hB1 hR1 hR2 hr hcl hfl hdl hfz hn hBw
  rw [show fsC s V=#[.bool s.down,.int .i64 (s.steps:Int),V.f,V.d,V.s,V.c,V.p,.int .i64 s.crash,V.k] from rfl] at hW1 HR1
  unfold fsC
  go_enter Tryz.func97,Tryz.ntmps97
  go_upto_region 1 with (refine alF rfl rfl Z HZZ.out ?_)
  rw [← hW1,HRR.out]
  clear hW1
  obtain ⟨x0,x1,x2,x3,x4,x5,x6,x7,x8,xf⟩:=row9 HR1.out
  obtain ⟨Pc,kc,hVc⟩:=HF0.out.qc.form
  obtain ⟨Pf,kf,hVf⟩:=HF0.out.qf.form
  obtain ⟨Ps,ks,hVs⟩:=HF0.out.qs.form
  have HVC:Hid (V.c=.slice Pc s.chg.length kc):=hVc
  have HVF:Hid (V.f=.slice Pf s.files.length kf):=hVf
  have HVS:Hid (V.s=.slice Ps s.sure.length ks):=hVs
  rw [hVc] at x5
  rw [hVf] at x2
  rw [hVs] at x4
  clear hVc hVf hVs
  go_wp2_with fail
  refine (show Calls _ _ _ _ _ from HPK0.out).mono ?_
  rintro e w2 ⟨rfl,hw2⟩
  rw [hw2]
  clear hw2
  go_wp2
  go_loopw [5,7] (fun cd ci wr=>∃ (i:Nat) (Pd:Option Addr) (kd:Nat),i ≤ n∧ci=.int .i64 (i:Int)∧cd=.slice Pd (dirAt s i).length kd∧DnA s V w W1 i (.slice Pd (dirAt s i).length kd) wr) (fun _ ci _=>n - (intOf ci).toNat)
  case atStart=>exact ⟨0,Ps,ks,Nat.zero_le _,rfl,rfl,⟨by show KR slE W1 (.slice Ps s.sure.length ks) s.sure; rw [← HVS.out]; exact HF.out.qs,Below.refl _ _,fun S hS ha hne=>by show NB S (.slice Ps s.sure.length ks); rw [← HVS.out]; exact ha.as_ hne,fun hne=>by show NB _ (.slice Ps s.sure.length ks); rw [← HVS.out]; exact (HF0.out.av.as_ hne).weak (fun k e=>by have:k=w.heap.size + 1:=e; show _ ≤ _; omega)⟩⟩
  case round =>
    obtain ⟨i,Pd,kd,hi,rfl,rfl,hd⟩:=hrel
    have HD:Hid (DnA s V w W1 i (.slice Pd (dirAt s i).length kd) wr):=hd
    have HROW:Hid (wr.heap[r]?=some (.cells #[.bool s.down,.int .i64 (s.steps:Int),V.f,V.d,V.s,V.c,V.p,.int .i64 s.crash,V.k] 61)):=keep_row HR1.out hd.bel
    have HZ2:Hid (wr.heap[r + 1]?=some (.cells Z 61)):=keep_row HR2.out hd.bel
    have HFR:Hid (FsAt s V wr):=HF.out.on hd.bel
    have HPR:Hid (KR inE wr pv p):=HP.out.on hd.bel
    clear hd x0 x1 x2 x3 x4 x5 x6 x7 x8 xf
    obtain ⟨x0,x1,x2,x3,x4,x5,x6,x7,x8,xf⟩:=row9 HROW.out
    rw [HVC.out] at x5
    rw [HVF.out] at x2
    have hiw:IntKind.i64.wrap ((i:Int) + 1)=(i:Int) + 1:=by have:=HNL.out; have:=HLC.out; rw [IntKind.wrap_i64] <;> omega
    by_cases hlt:i < n
    · have hlc:i < s.chg.length:=by have:=HNL.out; omega
      have hk:=HFR.out.qc
      rw [HVC.out] at hk
      obtain ⟨g,o,c',he,hc⟩:=hk.cell chOk hlc
      injection he with he1 _ he2
      subst he1
      have HSU:Hid (dirAt s (i + 1)=afterM (dirAt s i) s.chg[i]):=dirAt_succ s i hlc
      obtain ⟨c,hcc⟩:∃ c,s.chg[i]=c:=⟨_,rfl⟩
      rw [hcc] at hc HSU
      have c0:wr.cell? ⟨g,o + i * 3,none⟩=some (.string c.n):=hc 0 _ rfl
      have c1:wr.cell? ⟨g,o + i * 3 + 1,none⟩=some (.string c.t):=hc 1 _ rfl
      have c2:wr.cell? ⟨g,o + i * 3 + 2,none⟩=some (.int .i64 c.f):=hc 2 _ rfl
      have hz0:(0:Int) ≤ (i:Int):=by omega
      have hz1:(i:Int) < (s.chg.length:Int):=by omega
      have hz2:(i:Int) < (n:Int):=by omega
      have HI:Hid (i + 1 ≤ n):=hlt
      clear hk hc hcc hlt hlc he2
      go_wp2_with fail
      refine (show Calls _ _ _ _ _ from after_any _ (dirAt s i) (HLD.out i) c wr HD.out.kr).mono ?_
      rintro e w3 ⟨v3,rfl,ho3,hb3⟩
      have hK3:KR slE w3 v3 (dirAt s (i + 1)):=by rw [HSU.out]; exact KR.own ho3 rfl
      have hG3:∀ g o n c,v3=.slice (some ⟨g,o,none⟩) n c → wr.heap.size ≤ g:=fun g o n c e=>KR_ge ho3 e
      obtain ⟨P3,k3,hk3⟩:=hK3.form
      subst hk3
      have HD3:Hid (DnA s V w W1 (i + 1) (.slice P3 (dirAt s (i + 1)).length k3) w3):=⟨hK3,HD.out.bel.trans (hb3.mono HD.out.bel.size),fun S hS _ _ g o n c e hg=>by have h1:=hG3 g o n c e; have h2:=hS g hg; have h3:=HD.out.bel.size; have h4:=HW1.out; have h5:=HRR.out; omega,fun _ g o n c e hg=>by have h1:=hG3 g o n c e; have h3:=HD.out.bel.size; have h4:=HW1.out; have h5:=HRR.out; have h6:g=w.heap.size + 1:=hg; omega⟩
      clear ho3 hb3 hK3 hG3 c0 c1 c2
      go_wp2
      go_roundw
      case rel=>exact ⟨i + 1,P3,k3,HI.out,rfl,rfl,HD3.out⟩
      case measure=>have:=HI.out; simp [intOf]; omega
    · have he:i=n:=by omega
      subst he
      clear hlt
      go_wp2
      have HO0:Hid (wr.ownsRow wr.heap.size fiE.T fiE.k (.slice none 0 0) 0 (fiE.fl [])):=⟨rfl,Or.inl ⟨rfl,rfl⟩⟩
      have HRS:Hid (r + 2 ≤ wr.heap.size):=by have:=HD.out.bel.size; rw [HW1.out] at this; exact this
      clear x0 x1 x2 x3 x4 x5 x6 x7 x8 xf hiw
      go_loopw [8,9] (fun cf ci wx=>∃ (j:Nat) (xs:List Fi) (Pv:Option Addr) (cv:Nat),j ≤ s.files.length∧ci=.int .i64 (j:Int)∧cf=.slice Pv xs.length cv∧downF p 0 s.files=xs ++ downF p j (s.files.drop j)∧xs.length=j∧wx.ownsRow wr.heap.size fiE.T fiE.k (.slice Pv xs.length cv) xs.length (fiE.fl xs)∧Below wr.heap.size wr wx) (fun _ ci _=>s.files.length - (intOf ci).toNat)
      case atStart=>exact ⟨0,[],none,0,Nat.zero_le _,rfl,rfl,rfl,rfl,HO0.out,Below.refl _ _⟩
      case round =>
        obtain ⟨j,xs,Pv,cv,hj,rfl,rfl,hdf,hxl,hown,hbx⟩:=hrel
        have HOW:Hid (wr.ownsRow _ fiE.T fiE.k (.slice Pv xs.length cv) xs.length (fiE.fl xs)):=hown
        have HBX:Hid (Below _ _ wr):=hbx
        have hrw:=keep_row HROW.out hbx
        have HRW:Hid (wr.heap[r]?=some (.cells #[.bool s.down,.int .i64 (s.steps:Int),V.f,V.d,V.s,V.c,V.p,.int .i64 s.crash,V.k] 61)):=hrw
        have HZW:Hid (wr.heap[r + 1]?=some (.cells Z 61)):=keep_row HZ2.out hbx
        have HFW:Hid (FsAt s V wr):=HFR.out.on hbx
        have HPW:Hid (KR inE wr pv p):=HPR.out.on hbx
        have HSW:=HBX.out.size
        obtain ⟨x0,x1,x2,x3,x4,x5,x6,x7,x8,xf⟩:=row9 hrw
        rw [HVF.out] at x2
        clear hrw hown hbx HSW
        by_cases hlt:j < s.files.length
        · have hk:=HFW.out.qf
          rw [HVF.out] at hk
          obtain ⟨g,o,c',he,hc⟩:=hk.cell fiOk hlt
          injection he with he1 _ he2
          subst he1
          have hdr:=downF_drop p s.files j 0 hlt
          rw [Nat.zero_add,Nat.zero_add] at hdr
          have hfz:=HFZ.out s.files[j] (List.getElem_mem hlt)
          obtain ⟨x,hxx⟩:∃ x,s.files[j]=x:=⟨_,rfl⟩
          rw [hxx] at hc hdr hfz
          obtain ⟨X,hX⟩:∃ X,x.d=X:=⟨_,rfl⟩
          obtain ⟨S0,hS0⟩:∃ S0,x.s=S0:=⟨_,rfl⟩
          have c0:wr.cell? ⟨g,o + j * 2,none⟩=some (.string X):=by rw [← hX]; exact hc 0 _ rfl
          have c1:wr.cell? ⟨g,o + j * 2 + 1,none⟩=some (.int .i64 (S0:Int)):=by rw [← hS0]; exact hc 1 _ rfl
          rw [hX,hS0] at hdr hfz
          have hcut:∀ k,cutF x k=⟨X.extract 0 (S0 + k),S0 + k⟩:=fun k=>by unfold cutF; rw [hX,hS0]
          rw [hcut] at hdr
          have hdf2:=hdf
          rw [hdr] at hdf2
          obtain ⟨m1,hm1⟩:∃ m1:Nat,j + 1=m1:=⟨_,rfl⟩
          obtain ⟨m2,hm2⟩:∃ m2:Nat,X.size - S0=m2:=⟨_,rfl⟩
          have hp1:=pickM_le p m1 m2
          rw [hm1,hm2] at hdf2
          obtain ⟨pk,hpk⟩:∃ pk:Nat,pickM p m1 m2=pk:=⟨_,rfl⟩
          rw [hpk] at hdf2 hp1
          obtain ⟨k,hkk⟩:∃ k:Nat,S0 + pk=k:=⟨_,rfl⟩
          rw [hkk] at hdf2
          have hlf:=HLF.out
          have hw1:IntKind.i64.wrap ((j:Int) + 1)=(m1:Int):=by rw [IntKind.wrap_i64] <;> omega
          have hw2:IntKind.i64.wrap ((X.size:Int) - (S0:Int))=(m2:Int):=by rw [IntKind.wrap_i64] <;> omega
          have hw3:IntKind.i64.wrap ((S0:Int) + (pk:Int))=(k:Int):=by rw [IntKind.wrap_i64] <;> omega
          have HIW:Hid (IntKind.i64.wrap ((j:Int) + 1)=(j:Int) + 1):=by show _=_; rw [IntKind.wrap_i64] <;> omega
          have HPC:Hid (∀ W,KR inE W pv p → Calls Tryz.prog 136 #[pv,.int .i64 (m1:Int),.int .i64 (m2:Int)] W fun e w'=>e=.returned (.int .i64 (pk:Int))∧w'=W):=fun W hk=>by
            have:=HPK.out W m1 m2 hk (by omega) (by omega)
            rw [hpk] at this
            exact this
          have HDF:Hid (downF p 0 s.files=(xs ++ [⟨X.extract 0 k,k⟩]) ++ downF p (j + 1) (s.files.drop (j + 1))):=by
            show _=_
            rw [hdf2,List.append_assoc,hm1]
            rfl
          have hks:k ≤ X.size:=by omega
          have HXL:Hid (xs.length=j):=hxl
          have hz0:(0:Int) ≤ (j:Int):=by omega
          have hz1:(j:Int) < (s.files.length:Int):=by omega
          have hk0:(0:Int) ≤ (k:Int):=by omega
          have hk1:(k:Int) ≤ (X.size:Int):=by omega
          have HI:Hid (j + 1 ≤ s.files.length):=hlt
          clear hk hc he2 hdr hfz hxx hX hS0 hcut hdf hdf2 hm1 hm2 hp1 hpk hkk hlf hxl
          go_upto_region 12 with fail
          obtain ⟨WA,hWA⟩:∃ WA,WA=wr.alloc (.cells #[.string X,.int .i64 (S0:Int)] 119):=⟨_,rfl⟩
          rw [← hWA]
          have HBA:Hid (Below wr.heap.size wr WA):=by show Below _ _ _; rw [hWA]; exact (Below.refl _ _).alloc (Nat.le_refl _) _
          have HXA:Hid (WA.heap[wr.heap.size]?=some (.cells #[.string X,.int .i64 (S0:Int)] 119)):=by show _=_; rw [hWA]; exact one_alloc _ _
          clear hWA c0 c1 x0 x1 x2 x3 x4 x5 x6 x7 x8 xf
          obtain ⟨q,hq⟩:∃ q,wr.heap.size=q:=⟨_,rfl⟩
          have HQ:Hid (wr.heap.size=q):=hq
          rw [hq] at HXA ⊢
          clear hq
          have hcur:Below WA.heap.size WA WA.drew:=(Below.refl _ WA).drew
          have HKS:Hid (∀ W,Below WA.heap.size WA W → W.cell? ⟨q,0,none⟩=some (.string X)∧W.cell? ⟨q,1,none⟩=some (.int .i64 (S0:Int))):=fun W hW=>by
            obtain ⟨a,b,_⟩:=row2c (keep_row HXA.out hW)
            exact ⟨a,b⟩
          have HPA:Hid (KR inE WA.drew pv p):=(HPW.out.on HBA.out).on hcur
          go_region_held3 (fun W:World=>W.cell? ⟨q,0,none⟩=some (.string X)∧W.cell? ⟨q,1,none⟩=some (.int .i64 (S0:Int)))
            (exact HKS.out _ hcur)
            (first | (go_at_call 136; refine (show Calls _ _ _ _ _ from HPC.out _ HPA.out).mono ?_; rintro e a1 ⟨rfl,rfl⟩))
          have HWB:Hid (Below wr.heap.size wr WA.drew):=HBA.out.trans (hcur.mono HBA.out.size)
          have HXB:Hid (WA.drew.heap[q]?=some (.cells #[.string X,.int .i64 (S0:Int)] 119)):=keep_row HXA.out hcur
          clear hcur hw1 hw2 hw3
          generalize WA.drew=WB at *
          have hiw:=HIW.out
          obtain ⟨y0,y1,yf⟩:=row2c HXB.out
          have hOB:=own_keep HOW.out (fun q _ hq=>HWB.out.block q hq)
          have HOB:Hid (WB.ownsRow _ fiE.T fiE.k (.slice Pv xs.length cv) xs.length (fiE.fl xs)):=hOB
          have HBB:Hid (Below _ _ WB):=HBX.out.trans (HWB.out.mono HBX.out.size)
          clear hOB
          go_wp2_with (at_builtin; go_must (refine wpList_app1 fiOk #[.string (X.extract 0 k),.int .i64 (k:Int)] ⟨X.extract 0 k,k⟩ rfl rfl _ _ rfl _ _ xs _ rfl rfl HOB.out rfl ?a1 ?a2 ?a3 ?_))
          case a1=>have:=HXL.out; have:=HI.out; have:=HLF.out; unfold maxLen; omega
          case a2=>have:=HXL.out; have:=HI.out; have:=HLF.out; show _ * 24 ≤ _; omega
          case a3=>exact HBB.out.size
          intro v5 w5 ho5 hb5
          obtain ⟨P5,k5,hk5⟩:=own_form ho5
          subst hk5
          have HO5:Hid (w5.ownsRow _ fiE.T fiE.k (.slice P5 (xs.length + 1) k5) (xs.length + 1) (fiE.fl (xs ++ [⟨X.extract 0 k,k⟩]))):=ho5
          have HB5:Hid (Below _ _ w5):=HBB.out.trans hb5
          clear ho5 hb5 y0 y1 yf
          go_wp2
          go_roundw
          case rel=>exact ⟨j + 1,xs ++ [⟨X.extract 0 k,k⟩],P5,k5,HI.out,rfl,by simp,HDF.out,by have:=HXL.out; simp; omega,by simpa using HO5.out,HB5.out⟩
          case measure=>have:=HI.out; simp [intOf]; omega
        · have he:j=s.files.length:=by omega
          have hfin:downF p 0 s.files=xs:=by
            rw [hdf,he,List.drop_length]
            simp [downF]
          obtain ⟨Vn,hVn⟩:∃ Vn:FV,Vn=⟨.slice Pv xs.length cv,.slice Pd (dirAt s i).length kd,.slice Pd (dirAt s i).length kd,.slice none 0 0,.slice none 0 0,.slice none 0 0⟩:=⟨_,rfl⟩
          have hDM:downM s p=⟨true,s.steps,xs,dirAt s i,dirAt s i,[],[],0,[]⟩:=by
            unfold downM
            rw [hfin,HN.out]
            rfl
          have hAt:FsAt (downM s p) Vn wr:=by
            rw [hDM,hVn]
            exact ⟨KR.own HOW.out rfl,HD.out.kr.on HBX.out,HD.out.kr.on HBX.out,KR.nil,KR.nil,KR.nil⟩
          have hG:NB (fun k=>k < w.heap.size) (.slice Pv xs.length cv):=fun g o n c e hk=>by
            have h1:=KR_ge HOW.out e
            have h2:=HRS.out
            have h3:=HRR.out
            have h4:g < w.heap.size:=hk
            omega
          have HAV:Hid (∀ S:Nat → Prop,(∀ k,S k → k < w.heap.size) → Av S s V → Av S (downM s p) Vn):=fun S hS ha=>by
            rw [hDM,hVn]
            exact ⟨fun _=>hG.weak hS,fun hne=>HD.out.av S hS ha hne,fun hne=>HD.out.av S hS ha hne,fun hne=>absurd rfl hne,fun hne=>absurd rfl hne,fun hne=>absurd rfl hne⟩
          have HAT:Hid _:=hAt
          have HDN:Hid (dirAt s i ≠ [] → NB (fun k=>k=r + 1) (.slice Pd (dirAt s i).length kd)):=fun hne=>by have:=HD.out.lo hne; rw [HRR.out] at this; exact this
          have hCe:fsC (downM s p) Vn=#[.bool true,.int .i64 (s.steps:Int),.slice Pv xs.length cv,.slice Pd (dirAt s i).length kd,.slice Pd (dirAt s i).length kd,.slice none 0 0,.slice none 0 0,.int .i64 0,.slice none 0 0]:=by rw [hDM,hVn]; rfl
          have HCE:Hid (fsC (downM s p) Vn=#[.bool true,.int .i64 (s.steps:Int),.slice Pv xs.length cv,.slice Pd (dirAt s i).length kd,.slice Pd (dirAt s i).length kd,.slice none 0 0,.slice none 0 0,.int .i64 0,.slice none 0 0]):=hCe
          have HBF:Hid (Below r w wr):=(HB1.out.trans (HD.out.bel.mono (by rw [HW1.out]; omega))).trans (HBX.out.mono (by have:=HRS.out; omega))
          have HSZ:Hid (r + 2 ≤ wr.heap.size):=by have:=HRS.out; have:=HBX.out.size; show _ ≤ _; omega
          have HAVR:Hid (Av (fun k=>k=r + 1) (downM s p) Vn):=by
            rw [hDM,hVn]
            have hg1:NB (fun k=>k=r + 1) (.slice Pv xs.length cv):=fun g o n c e hk=>by
              have h1:=KR_ge HOW.out e
              have h2:=HRS.out
              have h3:g=r + 1:=hk
              omega
            have hg2:dirAt s i ≠ [] → NB (fun k=>k=r + 1) (.slice Pd (dirAt s i).length kd):=fun hne=>HDN.out hne
            exact ⟨fun _=>hg1,hg2,hg2,fun hne=>absurd rfl hne,fun hne=>absurd rfl hne,fun hne=>absurd rfl hne⟩
          clear hVn hDM hAt hG hfin hdf hxl hCe
          subst he
          clear hlt
          try rw [HRR.out]
          have H1:Hid ((#[.bool true,.int .i64 (s.steps:Int),.slice Pv xs.length cv,.slice Pd (dirAt s i).length kd,.slice Pd (dirAt s i).length kd,.slice none 0 0,.slice none 0 0,.int .i64 0,.slice none 0 0]:Array Value).all (·.oneCell')=true):=by show _=_; simp only [List.all_toArray,List.all_cons,List.all_nil,Bool.and_true]; rfl
          go_wp2_with (refine stF rfl _ _ rfl (r + 1) #[.bool true,.int .i64 (s.steps:Int),.slice Pv xs.length cv,.slice Pd (dirAt s i).length kd,.slice Pd (dirAt s i).length kd,.slice none 0 0,.slice none 0 0,.int .i64 0,.slice none 0 0] Z rfl rfl rfl H1.out HZS.out HZW.out ?_; intro W7 hr7 hm7)
          rw [← HCE.out] at hr7
          have hlv:=run_loadVar_mid (P:=Tryz.prog) W7 (r + 1) 0 61 (fsC (downM s p) Vn).toList _ (fun j v hv=>by rw [cell_of_row _ _ _ _ _ _ hr7]; simpa using hv) Tryz.underlying61 rfl (by rw [Array.length_toList,fsC_size]; exact i31)
          rw [Array.toArray_toList] at hlv
          have hb7:Below r wr W7:=hm7.below (by omega) (by have:=HSZ.out; omega)
          have hB7:Below w.heap.size w W7:=by rw [HRR.out]; exact HBF.out.trans hb7
          refine bodyPost_ret (v:=.agg (fsC (downM s p) Vn)) (by simp [results,Tryz.results97,asAddr,Act.put,hlv,Result.andThen]) rfl ?_
          exact ⟨Vn,rfl,⟨HAT.out.mod hm7 HAVR.out,hB7,HAV.out⟩⟩
end Go.Proofs.YtbgbmfmgdgalbaaGreatDoor
