import Derived.Test.YtijambehfobopaaGreatDoorWAQ
import Derived.Test.YtijambehfobopaaGreatDoorQRp
namespace Go.Proofs.YtijambehfobopaaGreatDoor
open Go.RowKit
set_option linter.unusedVariables false
set_option linter.unusedSimpArgs false
section
variable {b0 g rb rc E B:Nat} {S:List RwD} {lv:Value} {ns:List Nd}
theorem cntN_cut (ns:List Nd) (k:Nat):cntN (ns.take k) + cntN (ns.drop k)=cntN ns:=by rw [← cntN_app,List.take_append_drop]
theorem LM.cut {w F:World} {Y o c rb' rc':Nat} (h:LM w b0 g rb rc S lv E B ns) (hlv:lv=.slice (some ⟨Y,o * 3,none⟩) ns.length c) (hn:ns.length=1025)
    (hFg:F.heap[g]?=some (.cells #[.int .i64 (E:Int),.int .i64 (B:Int),.int .i64 ((cntS S + cntN ns:Nat):Int),.slice (some ⟨rb',0,none⟩) (S.length + 2) rc'] 62))
    (hFr:F.ownsRow b0 69 2 (.slice (some ⟨rb',0,none⟩) (S.length + 2) rc') (S.length + 2) (rowsC S ++ [.slice (some ⟨Y,o * 3,none⟩) 512 512,.int .i64 (cntN (ns.take 512):Int),.slice (some ⟨Y,(o + 512) * 3,none⟩) 513 (c - 512),.int .i64 (cntN (ns.drop 512):Int)]))
    (hk:∀ k:Nat,k < w.heap.size → k ≠ g → k ≠ rb → F.heap[k]?=w.heap[k]?) :
    LM F b0 g rb' rc' (S ++ [⟨Y,o,512,ns.take 512⟩]) (.slice (some ⟨Y,(o + 512) * 3,none⟩) 513 (c - 512)) E B (ns.drop 512):=by
  have hld:(ns.drop 512).length=513:=by rw [List.length_drop]; omega
  have hlt:(ns.take 512).length=512:=by rw [List.length_take]; omega
  have hnn:=h.ne.2
  have hlast:=h.last
  rw [hlv] at hlast
  rcases hlast with ⟨e,_⟩ | ⟨Y',o',c',cur,e,h1,h2,h3,h4,h5,h6⟩
  · cases e
  obtain ⟨rfl,rfl,_,rfl⟩:=slice_inj3 e
  obtain ⟨n1,n2⟩:=hnn _ _ h2
  have eY:=hk Y (row_lt h2) n1 n2
  have hsl:(S ++ [(⟨Y,o,512,ns.take 512⟩:RwD)]).length + 1=S.length + 2:=by simp
  have hct:cntS (S ++ [(⟨Y,o,512,ns.take 512⟩:RwD)]) + cntN (ns.drop 512)=cntS S + cntN ns:=by
    rw [cntS_app]
    have:=cntN_cut ns 512
    show cntS S + cntN (ns.take 512) + _=_
    omega
  refine ⟨by rw [hct,hsl]; exact hFg,?_,?_,?_,?_,h.hg⟩
  · have e9:rowsC (S ++ [(⟨Y,o,512,ns.take 512⟩:RwD)]) ++ [.slice (some ⟨Y,(o + 512) * 3,none⟩) 513 (c - 512),.int .i64 (cntN (ns.drop 512):Int)]=rowsC S ++ [.slice (some ⟨Y,o * 3,none⟩) 512 512,.int .i64 (cntN (ns.take 512):Int),.slice (some ⟨Y,(o + 512) * 3,none⟩) 513 (c - 512),.int .i64 (cntN (ns.drop 512):Int)]:=by
      rw [rowsC_app,List.append_assoc]
      show rowsC S ++ ([.slice (some ⟨Y,o * 3,none⟩) (ns.take 512).length 512,.int .i64 (cntN (ns.take 512):Int)] ++ _)=_
      rw [hlt]; rfl
    rw [e9,hsl]; exact hFr
  · intro r hr
    rcases List.mem_append.1 hr with hr | hr
    · obtain ⟨⟨cu,s1⟩,s2,s3,s4⟩:=h.stat r hr
      obtain ⟨m1,m2⟩:=hnn _ _ s1
      have e:=hk r.E (row_lt s1) m1 m2
      exact ⟨⟨cu,e.trans s1⟩,s2,s3.same e,s4⟩
    · rw [List.mem_singleton] at hr
      subst hr
      exact ⟨⟨cur,eY.trans h2⟩,h1,(h6.take 512 (by omega)).same eY,by show 512 ≤ (ns.take 512).length; omega,by show (ns.take 512).length ≤ 1024; omega⟩
  · refine Or.inr ⟨Y,o + 512,c - 512,cur,by rw [hld],h1,eY.trans h2,by rw [h3]; omega,by omega,by omega,(h6.drop 512 (by omega)).same eY⟩
  · intro r hr Y2 o2 c2 he hE
    rw [hld] at he
    obtain ⟨rfl,rfl,_,_⟩:=slice_inj3 he
    rcases List.mem_append.1 hr with hr | hr
    · have:=h.apart r hr _ _ _ hlv hE; omega
    · rw [List.mem_singleton] at hr
      subst hr
      show o + (ns.take 512).length ≤ _; omega
set_option maxHeartbeats 8000000 in
set_option maxRecDepth 100000 in
theorem levelM_cut (hm:S.length ≤ 1073741824) (hn:ns.length=1025) (hcn:cntN ns ≤ 1073741824) (w:World) (h:LM w b0 g rb rc S lv E B ns):Calls Tryz.prog 57 #[ptr g,.int .i64 (S.length:Int)] w fun e w'=>e=.returned (.tuple #[])∧∃ rb' rc' r lv',r.ns=ns.take 512∧LM w' b0 g rb' rc' (S ++ [r]) lv' E B (ns.drop 512)∧Fr w w' (fun k=>k=g ∨ k=rb):=by
  have HL:Hid (LM w b0 g rb rc S lv E B ns):=h
  have hlast:=h.last
  rcases hlast with ⟨e,e2⟩ | ⟨Y,o,c,cur,hlv,h1,h2,h3,h4,h5,h6⟩
  · rw [e2] at hn; simp at hn
  have hct:=cntN_cut ns 512
  have hlt:(ns.take 512).length=512:=by rw [List.length_take]; omega
  have hld:(ns.drop 512).length=513:=by rw [List.length_drop]; omega
  obtain ⟨O,hO⟩:∃ O,o * 3=O:=⟨_,rfl⟩
  obtain ⟨C1,hC1⟩:∃ C,cntN (ns.take 512)=C:=⟨_,rfl⟩
  obtain ⟨C2,hC2⟩:∃ C,cntN (ns.drop 512)=C:=⟨_,rfl⟩
  have HN1:Hid (∀ W,Below w.heap.size w W → Calls Tryz.prog 28 #[.slice (some ⟨Y,O,none⟩) 512 512] W fun e w'=>e=.returned (.agg #[.slice (some ⟨Y,O,none⟩) 512 512,.int .i64 (C1:Int)])∧Below W.heap.size W w'):=fun W hW=>by
    have h9:=newRow_seg Y o 512 (ns.take 512) (by omega) (by omega) W ((h6.take 512 (by omega)).same (hW.block Y (row_lt h2)))
    rw [hlt,hC1,hO] at h9
    exact h9
  have HN2:Hid (∀ W,Below w.heap.size w W → Calls Tryz.prog 28 #[.slice (some ⟨Y,O + 1536,none⟩) 513 (c - 512)] W fun e w'=>e=.returned (.agg #[.slice (some ⟨Y,O + 1536,none⟩) 513 (c - 512),.int .i64 (C2:Int)])∧Below W.heap.size W w'):=fun W hW=>by
    have h9:=newRow_seg Y (o + 512) (c - 512) (ns.drop 512) (by omega) (by omega) W ((h6.drop 512 (by omega)).same (hW.block Y (row_lt h2)))
    rw [hld,hC2,show (o + 512) * 3=O + 1536 by omega] at h9
    exact h9
  obtain ⟨l0,l1,l2,l3,lf⟩:=lrow4 h.hd
  obtain ⟨r0,r1,rf⟩:=h.cells
  rw [hlv,hO,hn] at r0
  obtain ⟨m,hmm⟩:∃ m,S.length=m:=⟨_,rfl⟩
  have HMM:Hid (S.length=m):=hmm
  obtain ⟨M,hM⟩:∃ M,m + 1=M:=⟨_,rfl⟩
  have HM:Hid (m + 1=M):=hM
  have HRR:Hid (∀ (W:World) (X:Nat),Below w.heap.size w W → (∀ j u,[Value.slice (some ⟨Y,O,none⟩) 512 512,.int .i64 (C1:Int),.slice (some ⟨Y,O + 1536,none⟩) 513 (c - 512),.int .i64 (C2:Int)][j]?=some u → W.cell? ((⟨X,0,none⟩:Addr).add j)=some u) → Calls Tryz.prog 96 #[.slice (some ⟨rb,0,none⟩) M rc,.int .i64 (m:Int),.int .i64 (M:Int),.slice (some ⟨X,0,none⟩) 2 2] W fun r w'=>∃ rb' rc',r=.returned (.slice (some ⟨rb',0,none⟩) (m + 2) rc')∧w'.ownsRow b0 69 2 (.slice (some ⟨rb',0,none⟩) (m + 2) rc') (m + 2) (rowsC S ++ [.slice (some ⟨Y,O,none⟩) 512 512,.int .i64 (C1:Int),.slice (some ⟨Y,O + 1536,none⟩) 513 (c - 512),.int .i64 (C2:Int)])∧W.grownBy w' (some rb)):=fun W X hW hX=>by
    have hrows:=(h.on hW).rows
    rw [hmm] at hrows
    have h9:=replR b0 rb rc m X (rowsC S) lv (.int .i64 (cntN ns:Int)) _ _ _ _ (by rw [rowsC_len,hmm]) (by omega) (by simp [Value.oneCell']) W (by have:=(h.lt g (Or.inl rfl)); have:=hW.size; omega) hrows hX
    rw [hM] at h9
    exact h9
  have HFIN:Hid (∀ (a3 a4:World) (rb' rc':Nat),Below w.heap.size w a3 → a3.grownBy a4 (some rb) → a4.ownsRow b0 69 2 (.slice (some ⟨rb',0,none⟩) (m + 2) rc') (m + 2) (rowsC S ++ [.slice (some ⟨Y,O,none⟩) 512 512,.int .i64 (C1:Int),.slice (some ⟨Y,O + 1536,none⟩) 513 (c - 512),.int .i64 (C2:Int)]) →
      ∃ rb2 rc2 r lv',r.ns=ns.take 512∧LM (a4.setCell ⟨g,3,none⟩ (.slice (some ⟨rb',0,none⟩) (m + 2) rc')) b0 g rb2 rc2 (S ++ [r]) lv' E B (ns.drop 512)∧Fr w (a4.setCell ⟨g,3,none⟩ (.slice (some ⟨rb',0,none⟩) (m + 2) rc')) (fun k=>k=g ∨ k=rb)):=fun a3 a4 rb' rc' hb3 hg4 how=>by
    have hgl:=(h.lt g (Or.inl rfl)).1
    have hgr:=h.ne.1
    have eg:a4.heap[g]?=w.heap[g]?:=(hg4.block g (Nat.lt_of_lt_of_le hgl hb3.size) (by simpa using hgr)).trans (hb3.block g hgl)
    have hrg:rb' ≠ g:=by
      rintro rfl
      obtain ⟨_,h2⟩:=how
      rcases h2 with ⟨e,_⟩ | ⟨g',cap,cu,e,_,q,_⟩
      · cases e
      · injection e with e1 _ _
        injection e1 with e1
        injection e1 with e1
        subst e1
        rw [eg,h.hd] at q; simp at q
    have hrow:(a4.setCell ⟨g,3,none⟩ (.slice (some ⟨rb',0,none⟩) (m + 2) rc')).heap[rb']?=a4.heap[rb']?:=heap_setCell_other _ _ _ _ hrg
    refine ⟨rb',rc',⟨Y,o,512,ns.take 512⟩,.slice (some ⟨Y,(o + 512) * 3,none⟩) 513 (c - 512),rfl,h.cut hlv hn ?_ ?_ ?_,?_⟩
    · rw [heap_setCell_same _ _ _ _ _ _ (eg.trans h.hd),hmm]; rfl
    · rw [hO,hC1,hC2,hmm,show (o + 512) * 3=O + 1536 by omega]
      exact ownr_same how hrow
    · intro k hk k1 k2
      rw [heap_setCell_other _ _ _ _ k1,hg4.block k (Nat.lt_of_lt_of_le hk hb3.size) (by simpa using k2)]
      exact hb3.block k hk
    · refine ((Fr.of_below hb3).trans (Fr.of_grown hg4 (fun k e=>by injection e with e; exact Or.inr e.symm))).trans (Fr.set _ _ (Or.inl rfl))
  have HG:Hid (∀ (a3 a4:World),Below w.heap.size w a3 → a3.grownBy a4 (some rb) → (∃ v,a4.cell? ⟨g,3,none⟩=some v)∧a4.frozen? ⟨g,3,none⟩=false):=fun a3 a4 hb3 hg4=>by
    have hgl:=(h.lt g (Or.inl rfl)).1
    have hgr:=h.ne.1
    have eg:a4.heap[g]?=w.heap[g]?:=(hg4.block g (Nat.lt_of_lt_of_le hgl hb3.size) (by simpa using hgr)).trans (hb3.block g hgl)
    obtain ⟨q0,q1,q2,q3,qf⟩:=lrow4 (eg.trans h.hd)
    exact ⟨⟨_,q3⟩,qf 3⟩
  have HK3:Hid (∀ W,Below w.heap.size w W → W.cell? ⟨g,3,none⟩=some (.slice (some ⟨rb,0,none⟩) M rc)):=fun W hW=>by
    have:=cell_on l3 hW
    rw [hmm,hM] at this; exact this
  rw [hmm] at l3 r0 hm ⊢
  rw [hM] at l3
  have hw:IntKind.i64.wrap ((m:Int) + 1)=(M:Int):=by rw [IntKind.wrap_i64] <;> omega
  have hz0:(0:Int) ≤ (m:Int):=by omega
  have hz1:(m:Int) < (M:Int):=by omega
  have hc0:¬ (c=512):=by omega
  have hc1:(512:Int) ≤ (c:Int):=by omega
  have hc2:(1025:Int) ≤ (c:Int):=by omega
  have hc3:512 ≤ c:=by omega
  clear h hmm hM hlv h1 h2 h3 h4 h5 h6 hct hlt hld hO hC1 hC2 hn hcn cur
  have HD:Hid (Below w.heap.size w w.drew):=(Below.refl _ w).drew
  go_enter Tryz.func57,Tryz.ntmps57
  go_upto_region 3 with fail
  have l3d:=HK3.out _ HD.out
  go_region_with (first | (go_at_call 96; refine (show Calls _ _ _ _ _ from HRR.out _ _ (hx2.alloc hx2.size _) (row4_at _ _ _ _ _ _)).mono ?_; rintro e a4 ⟨rb',rc',rfl,how,hgr4⟩; obtain ⟨⟨v3,y3⟩,yf⟩:=HG.out _ _ (hx2.alloc hx2.size _) hgr4; have HF:=HFIN.out _ _ rb' rc' (hx2.alloc hx2.size _) hgr4 how; have HFh:Hid _:=HF) | (go_at_call 28; refine (show Calls _ _ _ _ _ from HN2.out _ hx1).mono ?_; rintro e a2 ⟨rfl,hb2⟩; have hx2:=bel_to hx1 hb2 (Nat.le_refl _); have k2:=HK3.out _ hx2; have k2a:=HK3.out _ (hx2.alloc hx2.size (.cells #[.slice (some ⟨Y,O,none⟩) 512 512,.int .i64 (C1:Int),.slice (some ⟨Y,O + 1536,none⟩) 513 (c - 512),.int .i64 (C2:Int)] 69))) | (go_at_call 28; refine (show Calls _ _ _ _ _ from HN1.out _ HD.out).mono ?_; rintro e a1 ⟨rfl,hb1⟩; have hx1:=bel_to HD.out hb1 (Nat.le_refl _); have k1:=HK3.out _ hx1))
  all_goals
    go_wp2
    go_returns
    exact ⟨rfl,HFh.out⟩
end
end Go.Proofs.YtijambehfobopaaGreatDoor
namespace Go.Proofs.YtijambehfobopaaGreatDoor
open Go.RowKit
set_option linter.unusedVariables false
set_option linter.unusedSimpArgs false
def allN (S:List RwD) (ns:List Nd):List Nd:=(S.map fun r=>r.ns).flatten ++ ns
theorem allN_app (S:List RwD) (r:RwD) (ns:List Nd):allN (S ++ [r]) ns=allN S (r.ns ++ ns):=by simp [allN]
theorem allN_snoc (S:List RwD) (ns:List Nd) (v:Nd):allN S (ns ++ [v])=allN S ns ++ [v]:=by simp [allN]
section
variable {b0 g rb rc E B:Nat} {S:List RwD} {lv:Value} {ns:List Nd}
theorem levelM (hm:S.length ≤ 1073741824) (hn1:1 ≤ ns.length) (hn2:ns.length ≤ 1025) (hcn:cntN ns ≤ 1073741824) (w:World) (h:LM w b0 g rb rc S lv E B ns):Calls Tryz.prog 57 #[ptr g,.int .i64 (S.length:Int)] w fun e w'=>e=.returned (.tuple #[])∧∃ rb' rc' S' lv' ns',LM w' b0 g rb' rc' S' lv' E B ns'∧allN S' ns'=allN S ns∧(1 ≤ ns'.length∧ns'.length ≤ 1024∧S'.length ≤ S.length + 1)∧Fr w w' (fun k=>k=g ∨ k=rb):=by
  by_cases hc:ns.length ≤ 1024
  · refine (levelM_stay hm hn1 hc w h).mono ?_
    rintro e w' ⟨rfl,hb⟩
    exact ⟨rfl,rb,rc,S,lv,ns,h.on hb,rfl,⟨hn1,hc,by omega⟩,Fr.of_below hb⟩
  · have hn:ns.length=1025:=by omega
    refine (levelM_cut hm hn hcn w h).mono ?_
    rintro e w' ⟨rfl,rb',rc',r,lv',hr,hL,hF⟩
    refine ⟨rfl,rb',rc',S ++ [r],lv',ns.drop 512,hL,?_,⟨by rw [List.length_drop]; omega,by rw [List.length_drop]; omega,by simp⟩,hF⟩
    rw [allN_app,hr,List.take_append_drop]
set_option maxHeartbeats 8000000 in
set_option maxRecDepth 100000 in
theorem replaceM (n many X:Nat) (v:Nd) (hn:n=ns.length) (hmany:many=0) (w:World) (h:LM w b0 g rb rc S lv E B ns) (hm:S.length ≤ 1000000000) (hl:ns.length ≤ 1024) (hcnt:cntS S + cntN ns + v.2.1 ≤ 1000000000) (hv1:1 ≤ v.2.1) (hX:NX w X 1 [v]) (hXn:¬ LMb g rb S lv X) :
    Calls Tryz.prog 21 #[ptr g,plR S.length n,.int .i64 (many:Int),.slice (some ⟨X,0,none⟩) 1 1] w fun e w'=>e=.returned (.tuple #[])∧∃ rb' rc' S' lv' ns',LM w' b0 g rb' rc' S' lv' E B ns'∧allN S' ns'=allN S ns ++ [v]∧(1 ≤ ns'.length∧ns'.length ≤ 1024∧S'.length ≤ S.length + 1)∧Fr w w' (fun k=>LMb g rb S lv k ∨ k=X):=by
  have HL:Hid (LM w b0 g rb rc S lv E B ns):=h
  have HX:Hid (NX w X 1 [v]):=hX
  have hgl:=(h.lt g (Or.inl rfl)).1
  have hrl:=(h.lt rb (Or.inr (Or.inl rfl))).1
  have hXl:=hX.lt
  have hXg:X ≠ g:=fun e=>hXn (Or.inl e)
  have hXr:X ≠ rb:=fun e=>hXn (Or.inr (Or.inl e))
  have hgr:g ≠ rb:=h.ne.1
  have hok:[v].filter okN=[v]:=by
    have:okN v=true:=by unfold okN; simp; omega
    simp [this]
  obtain ⟨l0,l1,l2,l3,lf⟩:=lrow4 h.hd
  obtain ⟨m,hmm⟩:∃ m,S.length=m:=⟨_,rfl⟩
  have HMM:Hid (S.length=m):=hmm
  obtain ⟨M,hM⟩:∃ M,m + 1=M:=⟨_,rfl⟩
  rw [hmm,hM] at l3
  rw [hmm] at hm ⊢
  have L3:=cell_a1 l3
  have hi0:(0:Int) ≤ (m:Int):=by omega
  have hi1:(m:Int) < (M:Int):=by omega
  have HN:Hid (n=ns.length):=hn
  have HMA:Hid (many=0):=hmany
  have HM1:Hid (m + 1=M):=hM
  have hnb:n ≤ 1024:=by omega
  have hmb:many ≤ 5:=by omega
  clear h hX hn hmany hM hmm
  go_enter Tryz.func21,Tryz.ntmps21
  go_wp2_with fail
  go_quiet (fail)
  have hb0:Below w.heap.size w ((w.alloc (.cells #[.int .i64 (m:Int),.int .i64 (n:Int),.int .i64 0] 65)).drewN nq):=below_dn ((Below.refl _ w).alloc (Nat.le_refl _) _) _
  have hp:((w.alloc (.cells #[.int .i64 (m:Int),.int .i64 (n:Int),.int .i64 0] 65)).drewN nq).heap[w.heap.size]?=some (.cells #[.int .i64 (m:Int),.int .i64 (n:Int),.int .i64 0] 65):=one_alloc w _
  generalize hw0:(w.alloc (.cells #[.int .i64 (m:Int),.int .i64 (n:Int),.int .i64 0] 65)).drewN nq=w0 at *
  have HB0:Hid (Below w.heap.size w w0):=hb0
  have HL0:Hid (LM w0 b0 g rb rc S lv E B ns):=HL.out.on hb0
  have HX0:Hid (NX w0 X 1 [v]):=HX.out.on hb0
  have HP0:Hid _:=hp
  obtain ⟨p0,p1,p2,pf⟩:=row3 hp
  obtain ⟨r0,r1,rf⟩:=HL0.out.cells
  rw [HMM.out] at r0 r1
  have HEV:Hid (∀ W,Below w0.heap.size w0 W → Calls Tryz.prog 53 #[.slice (some ⟨X,0,none⟩) 1 1] W fun e w'=>e=.returned (.int .i64 (v.2.1:Int))∧Below W.heap.size W w'):=fun W hW=>by
    have h9:=elements_any X 1 [v] 0 (some ⟨X,0,none⟩) (fun _=>by simp) (by simp) (by simp [cntN]; omega) W (fun t ht=>by have:=(HX0.out.on hW).cells t ht; rw [Nat.zero_add]; exact this)
    simpa [cntN] using h9
  clear L3 l0 l1 l2 l3 lf hb0 hw0 HL HX
  obtain ⟨j,hj⟩:∃ j,n + many=j:=⟨_,rfl⟩
  have hw1:IntKind.i64.wrap ((n:Int) + (many:Int))=(j:Int):=by rw [IntKind.wrap_i64] <;> omega
  have hjn:j - n=many:=by omega
  have hnm:(n:Int) ≤ (j:Int):=by omega
  have HJN:Hid (j=n):=by have:=HMA.out; show _=_; omega
  obtain ⟨D,hD⟩:∃ D,cntN ([]:List Nd)=D:=⟨_,rfl⟩
  have hD0:D=0:=by rw [← hD]; rfl
  obtain ⟨V,hV⟩:∃ V,v.2.1=V:=⟨_,rfl⟩
  have HVV:Hid (v.2.1=V):=hV
  have HDD:Hid (D=0):=hD0
  have HEN:Hid (∀ P' C' W,Calls Tryz.prog 53 #[.slice P' many C'] W fun e w'=>e=.returned (.int .i64 (D:Int))∧Below W.heap.size W w'):=fun P' C' W=>by
    have h9:=elements_any 0 C' [] 0 P' (fun h=>absurd rfl h) (by simp) (by simp [cntN]) W (fun t ht=>by simp at ht)
    rw [HMA.out,← hD]; exact h9
  rw [hV] at HEV hcnt hv1
  clear hD hV hj
  have hw2:IntKind.i64.wrap ((V:Int) - (D:Int))=(V:Int) - (D:Int):=by rw [IntKind.wrap_i64] <;> omega
  have HSA:Hid (w0.cell? ⟨rb,m * 2,none⟩=some lv∧w0.cell? ⟨w.heap.size,1,none⟩=some (.int .i64 (n:Int))):=⟨r0,p1⟩
  have HKS:Hid (∀ w':World,Below w0.heap.size w0 w' → w'.cell? ⟨rb,m * 2,none⟩=some lv∧w'.cell? ⟨w.heap.size,1,none⟩=some (.int .i64 (n:Int))):=fun w' hw=>And.intro (cell_on HSA.out.1 hw) (cell_on HSA.out.2 hw)
  clear hD0
  go_wp2_with fail
  go_cut [9] from 17 to 31 (fun s9 wx=>s9=.int .i64 ((V:Int) - (D:Int))∧Below w0.heap.size w0 wx)
  case first =>
    have hlast:=HL0.out.last
    have hn:=HN.out
    have hmany:=HMA.out
    have hjN:=HJN.out
    rcases hlast with ⟨hlv,hns⟩ | ⟨Y,o,cc,cur,hlv,_,_,_,hcc,hmx,_⟩
    · have hn0:n=0:=by rw [hn,hns]; rfl
      subst hlv
      subst hns
      have hj0:j=0:=by omega
      clear hn hjN
      subst hj0; subst hn0; subst hmany
      have hw00:IntKind.i64.wrap (0:Int)=0:=by rw [IntKind.wrap_i64] <;> omega
      have hSB:w0.cell? ⟨rb,m * 2,none⟩=some (.slice none 0 0)∧w0.cell? ⟨w.heap.size,1,none⟩=some (.int .i64 0):=by simpa using HSA.out
      have HKT:Hid (∀ w':World,Below w0.heap.size w0 w' → w'.cell? ⟨rb,m * 2,none⟩=some (.slice none 0 0)∧w'.cell? ⟨w.heap.size,1,none⟩=some (.int .i64 0)):=fun w' hw=>by simpa using HKS.out w' hw
      go_region_held3 (fun w':World=>w'.cell? ⟨rb,m * 2,none⟩=some (.slice none 0 0)∧w'.cell? ⟨w.heap.size,1,none⟩=some (.int .i64 0))
        (first | exact hSB | exact HKT.out _ hw1' | exact HKT.out _ hw2' | (refine HKT.out _ ?_; (repeat (first | exact Below.refl _ _ | refine Below.drew ?_)); done))
        (first | (go_at_call 53; refine (show Calls _ _ _ _ _ from (have:=hw1'; HEN.out _ _ _)).mono ?_; rintro e a2 ⟨rfl,hb2⟩; have hw2':=bel_to hw1' hb2 (Nat.le_refl _)) | (go_at_call 53; refine (show Calls _ _ _ _ _ from HEV.out _ ((Below.refl _ w0).drew)).mono ?_; rintro e a1 ⟨rfl,hb1⟩; have hw1':=bel_to ((Below.refl _ w0).drew) hb1 (Nat.le_refl _)))
      go_wp2_with fail
      go_meet
      exact ⟨rfl,hw2'⟩
    · rw [← hn] at hlv hcc
      clear hn
      obtain ⟨O,hO⟩:∃ O,o * 3=O:=⟨_,rfl⟩
      rw [hO] at hlv
      clear hO
      subst hlv
      have hnl2:(j:Int) ≤ (cc:Int):=by omega
      have hnc:(n:Int) ≤ (cc:Int):=by omega
      have hnl:(j:Int) ≤ (n:Int):=by omega
      by_cases hci:cc=n
      · subst hci
        subst hjN
        subst hmany
        have hwc:IntKind.i64.wrap (j:Int)=(j:Int):=by rw [IntKind.wrap_i64] <;> omega
        have hSA:=HSA.out
        go_region_held3 (fun w':World=>w'.cell? ⟨rb,m * 2,none⟩=some (.slice (some ⟨Y,O,none⟩) j j)∧w'.cell? ⟨w.heap.size,1,none⟩=some (.int .i64 (j:Int)))
          (first | exact hSA | exact HKS.out _ hw1' | exact HKS.out _ hw2' | (refine HKS.out _ ?_; (repeat (first | exact Below.refl _ _ | refine Below.drew ?_)); done))
          (first | (go_at_call 53; refine (show Calls _ _ _ _ _ from (have:=hw1'; HEN.out _ _ _)).mono ?_; rintro e a2 ⟨rfl,hb2⟩; have hw2':=bel_to hw1' hb2 (Nat.le_refl _)) | (go_at_call 53; refine (show Calls _ _ _ _ _ from HEV.out _ ((Below.refl _ w0).drew)).mono ?_; rintro e a1 ⟨rfl,hb1⟩; have hw1':=bel_to ((Below.refl _ w0).drew) hb1 (Nat.le_refl _)))
        go_wp2_with fail
        go_meet
        exact ⟨rfl,hw2'⟩
      · have hSA:=HSA.out
        clear hjN hmany
        go_region_held3 (fun w':World=>w'.cell? ⟨rb,m * 2,none⟩=some (.slice (some ⟨Y,O,none⟩) n cc)∧w'.cell? ⟨w.heap.size,1,none⟩=some (.int .i64 (n:Int)))
          (first | exact hSA | exact HKS.out _ hw1' | exact HKS.out _ hw2' | (refine HKS.out _ ?_; (repeat (first | exact Below.refl _ _ | refine Below.drew ?_)); done))
          (first | (go_at_call 53; refine (show Calls _ _ _ _ _ from (have:=hw1'; HEN.out _ _ _)).mono ?_; rintro e a2 ⟨rfl,hb2⟩; have hw2':=bel_to hw1' hb2 (Nat.le_refl _)) | (go_at_call 53; refine (show Calls _ _ _ _ _ from HEV.out _ ((Below.refl _ w0).drew)).mono ?_; rintro e a1 ⟨rfl,hb1⟩; have hw1':=bel_to ((Below.refl _ w0).drew) hb1 (Nat.le_refl _)))
        go_wp2_with fail
        go_meet
        exact ⟨rfl,hw2'⟩
  case rest =>
    obtain ⟨rfl,hw2'⟩:=hcut
    have HL2:Hid (LM wc b0 g rb rc S lv E B ns):=HL0.out.on hw2'
    have HX2:Hid (NX wc X 1 [v]):=HX0.out.on hw2'
    have hp2:=keep_row HP0.out hw2'
    have HB2:Hid (Below w.heap.size w wc):=bel_to HB0.out hw2' (Nat.le_refl _)
    have HP2:Hid _:=hp2
    have hpl2:=row_lt hp2
    clear hw2' r0 r1 rf p0 p1 p2 pf HEV HEN HP0 HX0 HL0 HB0 HSA HKS
    obtain ⟨p0,p1,p2,pf⟩:=row3 hp2
    obtain ⟨r0,r1,rf⟩:=HL2.out.cells
    have hmm:=HMM.out
    have hn:=HN.out
    have hjN:=HJN.out
    have hM:=HM1.out
    rw [hmm] at r0 r1
    have HDF:Hid (∀ W,NX W X 1 [v] → Calls Tryz.prog 55 #[.slice (some ⟨X,0,none⟩) 1 1,isE] W fun e w'=>e=.returned (.slice (some ⟨X,0,none⟩) 1 1)∧W.grownBy w' (some X)∧NX w' X 1 [v]):=fun W hW=>by
      have h9:=deleteF_any X 1 [v] (by simp) W hW
      rw [hok] at h9
      exact h9
    have HRE:Hid (∀ W,LM W b0 g rb rc S lv E B ns → NX W X 1 [v] → Calls Tryz.prog 54 #[lv,.int .i64 (n:Int),.int .i64 (j:Int),.slice (some ⟨X,0,none⟩) 1 1] W fun r w'=>∃ v',r=.returned v'∧InsP W w' lv ns v v'):=fun W h1 h2=>by
      have h9:=replE b0 X 1 v lv ns (by omega) W h1.last (h2.vx (by omega))
      rw [← hn] at h9
      rw [hjN]; exact h9
    have hnp:∀ k,LMb g rb S lv k → k ≠ X:=fun k hk e=>hXn (e ▸ hk)
    have HL3:Hid (∀ a3,wc.drew.grownBy a3 (some X) → LM a3 b0 g rb rc S lv E B ns):=fun a3 hg3=>HL2.out.same (fun k hk=>hg3.block k (HL2.out.lt k hk).1 (fun e=>hnp k hk (by injection e)))
    have hpn:∀ k,LMb g rb S lv k → k ≠ w.heap.size:=fun k hk e=>by
      subst e
      rcases hk with e | e | ⟨r,hr,e⟩ | e
      · omega
      · omega
      · obtain ⟨⟨cu,q⟩,_⟩:=HL2.out.stat r hr
        rw [← e,hp2] at q; simp at q
      · obtain ⟨_,_,cu,q⟩:=HL2.out.last.lt _ e
        rw [hp2] at q; simp at q
    have HKG:Hid (∀ w':World,wc.drew.grownBy w' (some X) → w'.cell? ⟨rb,m * 2,none⟩=some lv∧w'.cell? ⟨w.heap.size,1,none⟩=some (.int .i64 (n:Int))):=fun w' hw=>And.intro (hw.cell (w:=wc.drew) r0 (by simp; exact fun e=>hXr e.symm)) (hw.cell (w:=wc.drew) p1 (by simp; omega))
    obtain ⟨K,hK⟩:∃ K,cntN ns + v.2.1=K:=⟨_,rfl⟩
    obtain ⟨T,hT⟩:∃ T,cntS S + K=T:=⟨_,rfl⟩
    have hVV:=HVV.out
    have hDD:=HDD.out
    have hw3:IntKind.i64.wrap ((cntN ns:Int) + ((V:Int) - (D:Int)))=(K:Int):=by rw [IntKind.wrap_i64] <;> omega
    have hw4:IntKind.i64.wrap (((cntS S + cntN ns:Nat):Int) + ((V:Int) - (D:Int)))=(T:Int):=by rw [IntKind.wrap_i64] <;> omega
    obtain ⟨T0,hT0⟩:∃ T0,cntS S + cntN ns=T0:=⟨_,rfl⟩
    rw [hT0] at hw4
    have HF2:Hid (∀ (a3 a4:World) (v':Value),wc.drew.grownBy a3 (some X) → InsP a3 a4 lv ns v v' → ∃ (P':Option Addr) (L' c':Nat),v'=.slice P' L' c'∧Fr w a4 (fun k=>LMb g rb S lv k ∨ k=X)∧a4.heap[g]?=some (.cells #[.int .i64 (E:Int),.int .i64 (B:Int),.int .i64 (T0:Int),.slice (some ⟨rb,0,none⟩) M rc] 62)∧(a4.cell? ⟨rb,m * 2,none⟩=some lv∧a4.cell? ⟨rb,m * 2 + 1,none⟩=some (.int .i64 (cntN ns:Int))∧∀ j,a4.frozen? ⟨rb,j,none⟩=false)∧a4.heap[w.heap.size]?=some (.cells #[.int .i64 (m:Int),.int .i64 (n:Int),.int .i64 0] 65) ∧
        LM (((a4.setCell ⟨rb,m * 2,none⟩ (.slice P' L' c')).setCell ⟨rb,m * 2 + 1,none⟩ (.int .i64 (K:Int))).setCell ⟨g,2,none⟩ (.int .i64 (T:Int))) b0 g rb rc S (.slice P' L' c') E B (ns ++ [v])):=fun a3 a4 v' hg3 hp=>by
      have h3:=HL3.out a3 hg3
      obtain ⟨eg,er,hgw,how,hlm⟩:=h3.push hp
      have hbl:b0 ≤ a3.heap.size:=by have:=h3.lt g (Or.inl rfl); omega
      obtain ⟨P',c',hv',_⟩:=(h3.last.push hbl hp).1.form
      subst hv'
      have hs3:wc.drew.heap.size=wc.heap.size:=rfl
      refine ⟨P',_,c',rfl,?_,?_,?_,?_,?_⟩
      · have f1:Fr w wc (fun k=>LMb g rb S lv k ∨ k=X):=Fr.of_below HB2.out
        have f2:=Fr.of_grown (P:=fun k=>LMb g rb S lv k ∨ k=X) hg3 (fun k e=>by injection e with e; exact Or.inr e.symm)
        have f3:=Fr.of_grown (P:=fun k=>LMb g rb S lv k ∨ k=X) hgw (fun k e=>Or.inl (Or.inr (Or.inr (Or.inr e))))
        exact f1.trans (Fr.trans (b:=a3) ⟨f2.os,f2.tape,f2.output,f2.size,f2.block⟩ f3)
      · have h4:=eg.trans h3.hd
        rw [hT0,hmm,hM] at h4
        exact h4
      · obtain ⟨q0,q1,qf⟩:=h3.cells
        rw [hmm] at q0 q1
        exact ⟨(World.cell?_of_block (a:=⟨rb,m * 2,none⟩) er).trans q0,(World.cell?_of_block (a:=⟨rb,m * 2 + 1,none⟩) er).trans q1,fun j=>(World.frozen?_of_block (a:=⟨rb,j,none⟩) er).trans (qf j)⟩
      · have e1:=hg3.block w.heap.size hpl2 (by simp; omega)
        exact (hgw.block w.heap.size (Nat.lt_of_lt_of_le hpl2 hg3.size) (fun e=>hpn _ (Or.inr (Or.inr (Or.inr e.symm))) rfl)).trans (e1.trans hp2)
      · rw [hmm,hK,hT] at hlm
        exact hlm
    have HLV:Hid (∀ (P':Option Addr) (L' c':Nat) W,LM W b0 g rb rc S (.slice P' L' c') E B (ns ++ [v]) → Calls Tryz.prog 57 #[ptr g,.int .i64 (m:Int)] W fun e w'=>e=.returned (.tuple #[])∧∃ rb' rc' S' lv' ns',LM w' b0 g rb' rc' S' lv' E B ns'∧allN S' ns'=allN S (ns ++ [v])∧(1 ≤ ns'.length∧ns'.length ≤ 1024∧S'.length ≤ S.length + 1)∧Fr W w' (fun k=>k=g ∨ k=rb)):=fun P' L' c' W hW=>by
      have h9:=levelM (by omega) (by simp) (by simp; omega) (by rw [cntN_snoc]; omega) W hW
      rw [hmm] at h9 ⊢
      exact h9
    clear hp2 hK hT hT0 hVV hDD HVV HDD hok hM hn hjN hmm
    go_wp2_with fail
    go_cut [] from 32 to 47 (fun wx=>∃ (a4:World) (P':Option Addr) (L' c':Nat),wx=a4.setCell ⟨rb,m * 2,none⟩ (.slice P' L' c')∧Fr w a4 (fun k=>LMb g rb S lv k ∨ k=X)∧a4.heap[g]?=some (.cells #[.int .i64 (E:Int),.int .i64 (B:Int),.int .i64 (T0:Int),.slice (some ⟨rb,0,none⟩) M rc] 62)∧(a4.cell? ⟨rb,m * 2,none⟩=some lv∧a4.cell? ⟨rb,m * 2 + 1,none⟩=some (.int .i64 (cntN ns:Int))∧∀ j,a4.frozen? ⟨rb,j,none⟩=false)∧a4.heap[w.heap.size]?=some (.cells #[.int .i64 (m:Int),.int .i64 (n:Int),.int .i64 0] 65) ∧
        LM (((a4.setCell ⟨rb,m * 2,none⟩ (.slice P' L' c')).setCell ⟨rb,m * 2 + 1,none⟩ (.int .i64 (K:Int))).setCell ⟨g,2,none⟩ (.int .i64 (T:Int))) b0 g rb rc S (.slice P' L' c') E B (ns ++ [v]))
    case first =>
      clear HLV hw3 hw4 hgl hrl hXl hXg hXr hgr hcnt hv1 hw2 hjn hnm HP2 HB2 hpl2 p0 p2 pf r1 rf hnp hpn
      go_region_with (first | (go_at_call 54; refine (show Calls _ _ _ _ _ from HRE.out _ hL3 hN3).mono ?_; rintro e a4 ⟨v',rfl,hins⟩; obtain ⟨P',L',c',hv',hf4,hd4,⟨q0,q1,qf⟩,hp4,hlm4⟩:=HF2.out _ _ _ hg3 hins; subst hv') | (go_at_call 55; refine (show Calls _ _ _ _ _ from HDF.out wc.drew (HX2.out.same rfl)).mono ?_; rintro e a3 ⟨rfl,hg3,hN3⟩; have hL3:=HL3.out _ hg3; have hS3:=(HKG.out _ hg3).1; have hS3p:=(HKG.out _ hg3).2))
      all_goals
        go_wp2_with fail
        go_meet
        exact ⟨a4,P',L',c',rfl,hf4,hd4,⟨q0,q1,qf⟩,hp4,hlm4⟩
    case rest =>
      obtain ⟨a4,P',L',c',rfl,hf4,hd4,⟨q0,q1,qf⟩,hp4,hlm4⟩:=hcut
      have HLS:Hid _:=hlm4
      have HFR:Hid (Fr w (((a4.setCell ⟨rb,m * 2,none⟩ (.slice P' L' c')).setCell ⟨rb,m * 2 + 1,none⟩ (.int .i64 (K:Int))).setCell ⟨g,2,none⟩ (.int .i64 (T:Int))) (fun k=>LMb g rb S lv k ∨ k=X)):=((hf4.trans (Fr.set _ _ (Or.inl (Or.inr (Or.inl rfl))))).trans (Fr.set _ _ (Or.inl (Or.inr (Or.inl rfl))))).trans (Fr.set _ _ (Or.inl (Or.inl rfl)))
      obtain ⟨l0,l1,l2,l3,lf⟩:=lrow4 hd4
      obtain ⟨s0,s1,s2,sf⟩:=row3 hp4
      have hgr2:¬ (g=rb):=hgr
      have hrg2:¬ (rb=g):=fun e=>hgr e.symm
      have hpr:¬ (w.heap.size=rb):=by omega
      have hpg:¬ (w.heap.size=g):=by omega
      clear hf4 hd4 hp4 hlm4 HRE HDF HKG HF2 HX2 HL3 r0 r1 rf p0 p1 p2 pf
      go_wp2_with fail
      refine (show Calls _ _ _ _ _ from HLV.out _ _ _ _ HLS.out).mono ?_
      rintro e w6 ⟨rfl,rb',rc',S',lv',ns',hL6,hA6,hB6,hF6⟩
      have HR6:Hid _:=hL6
      have HA6:Hid (allN S' ns'=allN S ns ++ [v]):=hA6.trans (allN_snoc _ _ _)
      have HQ6:Hid _:=hB6
      have HF6:Hid (Fr w w6 (fun k=>LMb g rb S lv k ∨ k=X)):=HFR.out.trans ⟨hF6.os,hF6.tape,hF6.output,hF6.size,fun k hk hn=>hF6.block k hk (fun e=>hn (by rcases e with e | e; exact Or.inl (Or.inl e); exact Or.inl (Or.inr (Or.inl e))))⟩
      clear hL6 hA6 hB6 hF6
      go_wp2
      go_returns
      have hq:=HQ6.out
      rw [HMM.out] at hq
      exact ⟨rfl,rb',rc',S',lv',ns',HR6.out,HA6.out,hq,HF6.out⟩
end
end Go.Proofs.YtijambehfobopaaGreatDoor
