import Derived.Test.YtbgbmfmgdgalbaaGreatDoorM23
import Derived.Test.YtbgbmfmgdgalbaaGreatDoorM20
namespace Go.Proofs.YtbgbmfmgdgalbaaGreatDoor
open Go.RowKit
set_option linter.unusedVariables false
set_option linter.unusedSimpArgs false
set_option maxHeartbeats 8000000 in
set_option maxRecDepth 20000 in
theorem rkept_any {s:Fs} {V:FV} {i keep:Nat} (hI:Inv s i) (hk1:1 ≤ keep) (hk8:keep ≤ 8) (hi:i + 16400 ≤ 3298534883000) (w:World) (h:FsAt s V w):Calls Tryz.prog 133 #[.agg (fsC s V),.int .i64 (keep:Int)] w (RP s V w (keptM s keep)):=by
  obtain ⟨ot,re,hrd⟩:∃ ot re,readM s liveN=(ot,re):=⟨_,_,rfl⟩
  have HRE:Hid (∀ W,FsAt s V W → Calls Tryz.prog 92 #[.agg (fsC s V),.string { data:=#[100,117,109,112,46,114,100,98] }] W fun e w'=>e=.returned (.tuple #[.string ot,.int .i64 re])∧Below W.heap.size W w'):=fun W hW=>by
    have:=rread_i hI (by omega) liveN (by decide) W hW
    rw [hrd] at this
    exact this
  have hos:ot.size ≤ 1073741824:=by have:=hI.read liveN; rw [hrd] at this; exact this
  have hpl:=pieces_le hos
  obtain ⟨s1,e1,hwr⟩:∃ s1 e1,writtenM s tmpO ot=(s1,e1):=⟨_,_,rfl⟩
  have HWR:Hid (∀ W,FsAt s V W → Calls Tryz.prog 131 #[.agg (fsC s V),.string { data:=#[116,101,109,112,45,111,108,100] },.string ot] W (RP s V W (s1,e1))):=fun W hW=>by
    have:=rwritten_any hI tmpO ot (by omega) (by decide) (by omega) W hW
    rw [hwr] at this
    exact this
  have HI1:Hid (Inv s1 (i + 16386)):=by
    have:=hI.written tmpO ot
    rw [hwr] at this
    exact this.more (by omega)
  have HKR:Hid (keptM s keep=if re=0 then andM (s1,e1) (fun G=>andM (rensM (keep - 1) G) fun G=>renameM G tmpO (oldN 1)) else (s,re)):=by show _=_; unfold keptM; rw [hrd]; simp only [hwr]
  have HIB:Hid (i + 16400 ≤ 3298534883000∧1 ≤ keep∧keep ≤ 8):=⟨hi,hk1,hk8⟩
  clear hI hi hk1 hk8 hrd hwr hos hpl
  obtain ⟨Z,hZ⟩:∃ Z,Z=zF:=⟨_,rfl⟩
  have HZZ:Hid (Z=zF):=hZ
  have HZS:Hid (Z.size=9):=by show _=_; rw [hZ]; rfl
  clear hZ
  obtain ⟨W1,hW1⟩:∃ W1,W1=(w.alloc (.cells (fsC s V) 61)).alloc (.cells Z 61):=⟨_,rfl⟩
  have hls:=LS.start h Z
  rw [← hW1] at hls
  obtain ⟨r,hr⟩:∃ r,w.heap.size=r:=⟨_,rfl⟩
  have HRR:Hid (w.heap.size=r):=hr
  rw [hr] at hls
  clear h hr
  rw [show fsC s V=#[.bool s.down,.int .i64 (s.steps:Int),V.f,V.d,V.s,V.c,V.p,.int .i64 s.crash,V.k] from rfl] at hW1
  rw [show fsC s V=#[.bool s.down,.int .i64 (s.steps:Int),V.f,V.d,V.s,V.c,V.p,.int .i64 s.crash,V.k] from rfl]
  go_enter Tryz.func133,Tryz.ntmps133
  go_upto_region 1 with (refine alF rfl rfl Z HZZ.out ?_)
  try simp only [World.size_alloc]
  rw [← hW1,HRR.out]
  clear hW1
  go_wp2_with (refine ldF (fsC s V) r _ rfl rfl rfl hls.row rfl ?_)
  refine (show Calls _ _ _ _ _ from HRE.out _ hls.at_).mono ?_
  rintro e w2 ⟨rfl,hb2⟩
  have hls:=hls.on hb2
  clear hb2 HRE
  by_cases h0:re=0
  · subst h0
    have HK1:Hid (keptM s keep=andM (s1,e1) (fun G=>andM (rensM (keep - 1) G) fun G=>renameM G tmpO (oldN 1))):=by show _=_; rw [HKR.out]; exact if_pos rfl
    clear HKR
    go_upto_region 4 with fail
    go_wp2_with (refine ldF (fsC s V) r _ rfl rfl rfl hls.row rfl ?_)
    refine (show Calls _ _ _ _ _ from HWR.out _ hls.at_).mono ?_
    rintro e w3 ⟨V1,rfl,hM⟩
    have HM:Hid (Made s V _ s1 V1 w3):=hM
    have HL0:Hid (LS w s V r Z s V _):=hls
    have H1c:Hid ((fsC s1 V1).all (·.oneCell')=true):=fsC_one hM.at_
    have HRW:Hid _:=keep_row hls.row hM.bel
    clear hM hls
    go_upto_region 5 with (refine stF rfl _ _ rfl r (fsC s1 V1) (fsC s V) rfl rfl rfl H1c.out rfl HRW.out ?_; intro W5 hr5 hm5)
    have hls:=HL0.out.made HM.out hr5 hm5
    clear hr5 hm5 HM HL0 H1c HRW
    clear HWR
    by_cases h0:e1=0
    · subst h0
      have HKE:Hid (keptM s keep=andM (rensM (keep - 1) s1) fun G=>renameM G tmpO (oldN 1)):=by show _=_; rw [HK1.out]; exact andM_ok rfl
      have HL1:Hid (LS w s V r Z s1 V1 _):=hls
      have hkw:IntKind.i64.wrap ((keep:Int) - 1)=((keep - 1:Nat):Int):=by have:=HIB.out; rw [IntKind.wrap_i64] <;> omega
      clear hls HK1
      go_wp2
      go_loopw [8] (fun ci wr=>∃ (m:Nat) (s2:Fs) (V2:FV),m ≤ keep - 1∧ci=.int .i64 (m:Int)∧LS w s V r Z s2 V2 wr∧Inv s2 (i + 16386 + (keep - 1 - m))∧rensM (keep - 1) s1=rensM m s2) (fun ci _=>(intOf ci).toNat)
      case atStart=>exact ⟨keep - 1,s1,V1,Nat.le_refl _,rfl,HL1.out,by rw [Nat.sub_self]; exact HI1.out,rfl⟩
      case round =>
        obtain ⟨m,s2,V2,hm,rfl,hls,hI2,heq⟩:=hrel
        clear HL1 hkw
        by_cases hm0:m=0
        · subst hm0
          obtain ⟨s4,e1,hrn⟩:∃ s4 e1,renameM s2 tmpO (oldN 1)=(s4,e1):=⟨_,_,rfl⟩
          have HV:Hid (keptM s keep=(s4,e1)):=by
            show _=_
            rw [HKE.out,heq,← hrn]
            exact andM_ok rfl
          have HRN:Hid (∀ W,Below wr.heap.size wr W → Calls Tryz.prog 134 #[.agg (fsC s2 V2),.string { data:=#[116,101,109,112,45,111,108,100] },.string (oldN 1)] W fun e w'=>∃ V1 C1,C1=fsC s4 V1∧e=.returned (.tuple #[.agg C1,.int .i64 e1])∧Made s2 V2 W s4 V1 w'):=fun W hW=>by
            have:=rrename_i hI2 (by have:=HIB.out; omega) tmpO (oldN 1) (by decide) (by rw [old_size]; decide) W (hls.at_.on hW)
            rw [hrn] at this
            refine Calls.mono this ?_
            rintro e w' ⟨V1,rfl,hM⟩
            exact ⟨V1,_,rfl,rfl,hM⟩
          have HOL1:Hid (∀ W,Calls Tryz.prog 96 #[.int .i64 1] W fun e w'=>e=.returned (.string (oldN 1))∧Below W.heap.size W w'):=fun W=>rolder_any 1 (by omega) (by omega) W
          have HL2:Hid (LS w s V r Z s2 V2 wr):=hls
          obtain ⟨C,hC⟩:∃ C,C=fsC s2 V2:=⟨_,rfl⟩
          have HCS:Hid (C.size=9):=by show _=_; rw [hC]; rfl
          have HRD:Hid (∀ W,Below wr.heap.size wr W → W.heap[r]?=some (.cells C 61)):=fun W hW=>by rw [hC]; exact keep_row hls.row hW
          rw [← hC] at HRN
          clear hC hls hI2 heq hrn hm HKE
          go_wp2_with fail
          have hcur:Below wr.heap.size wr wr.drew:=(Below.refl _ wr).drew
          refine wp_region_held_drew (S:=fun W:World=>W.rangeAt r 0 C.toList) (by kernel_rfl) (range_row (HRD.out _ hcur)) (fun hHeld=>?_)
          refine wpAnyH_take (i:=0) (oi:={ dst:=some 52,op:=Op.load 61 (Operand.tmp 2),type:=61,pos:= "ref.go:119",after:=#[],guard:=none }) (v:=.agg C) rfl (by kernel_rfl) (by kernel_rfl) (by kernel_rfl) (fun _ _ _ h=>h) (ylF C r _ rfl rfl (fun _ h=>h) HCS.out) (by assumption) ?_
          try simp only [Act.put,List.setIfInBounds_toArray,List.set_cons_zero,List.set_cons_succ]
          refine wpAnyH_ready (rs:=[1]) (by kernel_rfl) (by simp) ?_
          refine AllReadyH.cons (o:={ dst:=some 53,op:=Op.call { callee:=Callee.value (Operand.func 96),args:=#[Operand.const (Value.int IntKind.i64 1)],argTypes:=#[3] },type:=9,pos:= "ref.go:119",after:=#[],guard:=none }) rfl (fun K hK=>?_) AllReadyH.nil
          first | (go_at_call 96; refine (show Calls _ _ _ _ _ from HOL1.out _).mono ?_; rintro e wo ⟨rfl,hbo⟩; have hcur:=hcur.trans (hbo.mono hcur.size)) | (go_simp; go_at_call 96; refine (show Calls _ _ _ _ _ from HOL1.out _).mono ?_; rintro e wo ⟨rfl,hbo⟩; have hcur:=hcur.trans (hbo.mono hcur.size))
          refine hK.out _ _ (range_row (HRD.out _ hcur)) (fun hHeld=>?_)
          clear hK K
          try simp only [Act.put,List.setIfInBounds_toArray,List.set_cons_zero,List.set_cons_succ]
          refine wpAnyH_ready (rs:=[2]) (by kernel_rfl) (by simp) ?_
          refine AllReadyH.cons (o:={ dst:=some 54,op:=Op.call { callee:=Callee.value (Operand.func 134),args:=#[Operand.tmp 52,Operand.const (Value.string { data:=#[116,101,109,112,45,111,108,100] }),Operand.tmp 53],argTypes:=#[61,9,9] },type:=103,pos:= "ref.go:119",after:=#[{ on:=0,ground:=Ground.data },{ on:=1,ground:=Ground.data },{ on:=1,ground:=Ground.chain }],guard:=none }) rfl (fun K hK=>?_) AllReadyH.nil
          first | (go_at_call 134; refine (show Calls _ _ _ _ _ from HRN.out _ hcur).mono ?_; rintro e wf ⟨V1,C1,hC1,rfl,hM⟩; have hcuf:=hcur.trans (hM.bel.mono hcur.size)) | (go_simp; go_at_call 134; refine (show Calls _ _ _ _ _ from HRN.out _ hcur).mono ?_; rintro e wf ⟨V1,C1,hC1,rfl,hM⟩; have hcuf:=hcur.trans (hM.bel.mono hcur.size))
          refine hK.out _ _ (range_row (HRD.out _ hcuf)) (fun hHeld=>?_)
          clear hK K
          try simp only [Act.put,List.setIfInBounds_toArray,List.set_cons_zero,List.set_cons_succ]
          refine wpAnyH_take (i:=3) (oi:={ dst:=some 55,op:=Op.extract (Operand.tmp 54) 0,type:=61,pos:= "ref.go:119",after:=#[{ on:=2,ground:=Ground.data }],guard:=none }) (v:=.agg C1) rfl (by kernel_rfl) (by kernel_rfl) (by kernel_rfl) (fun _ _ _ h=>h) (Or.inl ⟨by rfl,?y3⟩) (by assumption) ?_
          case y3=>(intro w hSw; (try dsimp only at hSw); first | (go_simp; done) | (go_simp; with_reducible rfl) | (go_simp; rfl))
          try simp only [Act.put,List.setIfInBounds_toArray,List.set_cons_zero,List.set_cons_succ]
          refine wpAnyH_take (i:=4) (oi:={ dst:=some 56,op:=Op.extract (Operand.tmp 54) 1,type:=3,pos:= "ref.go:119",after:=#[{ on:=2,ground:=Ground.data }],guard:=none }) (v:=.int .i64 e1) rfl (by kernel_rfl) (by kernel_rfl) (by kernel_rfl) (fun _ _ _ h=>h) (Or.inl ⟨by rfl,?y4⟩) (by assumption) ?_
          case y4=>(intro w hSw; (try dsimp only at hSw); first | (go_simp; done) | (go_simp; with_reducible rfl) | (go_simp; rfl))
          try simp only [Act.put,List.setIfInBounds_toArray,List.set_cons_zero,List.set_cons_succ]
          refine wpAnyH_ready (rs:=[5]) (by kernel_rfl) (by simp) ?_
          refine AllReadyH.cons (o:={ dst:=none,op:=Op.store 61 (Operand.tmp 4) (Operand.tmp 55),type:=0,pos:= "ref.go:119",after:=#[{ on:=3,ground:=Ground.data },{ on:=2,ground:=Ground.chain },{ on:=0,ground:=Ground.phase },{ on:=1,ground:=Ground.phase },{ on:=2,ground:=Ground.phase },{ on:=3,ground:=Ground.phase },{ on:=4,ground:=Ground.phase }],guard:=none }) rfl (fun K hK=>?_) AllReadyH.nil
          refine rdF (r + 1) C1 Z _ _ (by rfl) rfl rfl rfl (by rw [hC1]; rfl) (by rw [hC1]; exact fsC_one hM.at_) HZS.out (keep_row HL2.out.res hcuf) ?_; intro W6 hr6 hm6
          refine hK.out _ _ (range_row (hm6.row (HRD.out _ hcuf) (by omega))) (fun hHeld=>?_)
          clear hK K
          try simp only [Act.put,List.setIfInBounds_toArray,List.set_cons_zero,List.set_cons_succ]
          refine wpAnyH_take (i:=6) (oi:={ dst:=some 5,op:=Op.assign (Operand.tmp 56),type:=3,pos:= "ref.go:119",after:=#[{ on:=4,ground:=Ground.data },{ on:=5,ground:=Ground.chain },{ on:=0,ground:=Ground.phase },{ on:=1,ground:=Ground.phase },{ on:=2,ground:=Ground.phase },{ on:=3,ground:=Ground.phase },{ on:=4,ground:=Ground.phase },{ on:=5,ground:=Ground.phase }],guard:=none }) (v:=.int .i64 e1) rfl (by kernel_rfl) (by kernel_rfl) (by kernel_rfl) (fun _ _ _ h=>h) (Or.inl ⟨by rfl,?y6⟩) (by assumption) ?_
          case y6=>(intro w hSw; (try dsimp only at hSw); first | (go_simp; done) | (go_simp; with_reducible rfl) | (go_simp; rfl))
          try simp only [Act.put,List.setIfInBounds_toArray,List.set_cons_zero,List.set_cons_succ]
          refine wpAnyH_done (by kernel_rfl) ?_ _
          rw [hC1] at hr6
          have HMM:Hid (Made s2 V2 _ s4 V1 wf):=hM
          have HM6:Hid (Mod (r + 1) wf W6):=hm6
          have hls:=HL2.out.on hcur
          have hlv:=run_loadVar_mid (P:=Tryz.prog) W6 (r + 1) 0 61 (fsC s4 V1).toList _ (fun j v hv=>by rw [cell_of_row _ _ _ _ _ _ hr6]; simpa using hv) Tryz.underlying61 rfl (by rw [Array.length_toList,fsC_size]; exact i31)
          rw [Array.toArray_toList] at hlv
          clear hC1 hM hr6 hm6 hHeld
          go_wp2
          refine bodyPost_ret (v:=.tuple #[.agg (fsC s4 V1),.int .i64 e1]) (by simp [results,Tryz.results133,asAddr,Act.put,hlv,Result.andThen]) rfl ?_
          rw [HV.out]
          exact ⟨_,rfl,hls.finM HRR.out HMM.out HM6.out⟩
        · obtain ⟨m',hm'⟩:∃ m',m=m' + 1:=⟨m - 1,by omega⟩
          obtain ⟨m1,hm1⟩:∃ m1,m + 1=m1:=⟨_,rfl⟩
          have HMM:Hid (m' ≤ keep - 1∧m' < m):=by show _∧_; omega
          have HMW:Hid (IntKind.i64.wrap ((m:Int) - 1)=(m':Int)):=by have:=HIB.out; show _=_; rw [IntKind.wrap_i64] <;> omega
          have hw1:IntKind.i64.wrap ((m:Int) + 1)=(m1:Int):=by have:=HIB.out; rw [IntKind.wrap_i64] <;> omega
          obtain ⟨th,hth⟩:∃ th,thereM s2 (oldN m)=th:=⟨_,rfl⟩
          obtain ⟨s4,e1,hrn⟩:∃ s4 e1,renameM s2 (oldN m) (oldN m1)=(s4,e1):=⟨_,_,rfl⟩
          have HRS:Hid (rensM (keep - 1) s1=if th=true then andM (s4,e1) (rensM m') else rensM m' s2):=by
            show _=_
            rw [heq,hm']
            have:rensM (m' + 1) s2=if thereM s2 (oldN (m' + 1)) then andM (renameM s2 (oldN (m' + 1)) (oldN (m' + 2))) (rensM m') else rensM m' s2:=rfl
            rw [this,← hth,← hrn,← hm1,hm']
          have HTH:Hid (∀ W,Below wr.heap.size wr W → Calls Tryz.prog 132 #[.agg (fsC s2 V2),.string (oldN m)] W fun e w'=>e=.returned (.bool th)∧Below W.heap.size W w'):=fun W hW=>by
            have:=rthere_any hI2 (by have:=HIB.out; omega) (oldN m) (by rw [old_size]; decide) W (hls.at_.on hW)
            rw [hth] at this
            exact this
          have HI4:Hid (Inv s4 (i + 16386 + (keep - 1 - m'))):=by
            have:=hI2.rename (oldN m) (oldN m1)
            rw [hrn] at this
            exact this.more (by omega)
          have HI2:Hid (Inv s2 (i + 16386 + (keep - 1 - m'))):=hI2.more (by omega)
          have HOL:Hid (∀ W,Calls Tryz.prog 96 #[.int .i64 (m:Int)] W fun e w'=>e=.returned (.string (oldN m))∧Below W.heap.size W w'):=fun W=>rolder_any m (by omega) (by have:=HIB.out; omega) W
          have HOL1:Hid (∀ W,Calls Tryz.prog 96 #[.int .i64 (m1:Int)] W fun e w'=>e=.returned (.string (oldN m1))∧Below W.heap.size W w'):=fun W=>rolder_any m1 (by omega) (by have:=HIB.out; omega) W
          have HRQ:Hid (∀ W,FsAt s2 V2 W → Calls Tryz.prog 134 #[.agg (fsC s2 V2),.string (oldN m),.string (oldN m1)] W fun e w'=>∃ V1 C1,C1=fsC s4 V1∧e=.returned (.tuple #[.agg C1,.int .i64 e1])∧Made s2 V2 W s4 V1 w'):=fun W hW=>by
            have:=rrename_i hI2 (by have:=HIB.out; omega) (oldN m) (oldN m1) (by rw [old_size]; decide) (by rw [old_size]; decide) W hW
            rw [hrn] at this
            refine Calls.mono this ?_
            rintro e w' ⟨V1,rfl,hM⟩
            exact ⟨V1,_,rfl,rfl,hM⟩
          have HL2:Hid (LS w s V r Z s2 V2 wr):=hls
          have hg1:(1:Int) ≤ (m:Int):=by omega
          obtain ⟨C,hC⟩:∃ C,C=fsC s2 V2:=⟨_,rfl⟩
          have HCS:Hid (C.size=9):=by show _=_; rw [hC]; rfl
          have HRD:Hid (∀ W,Below wr.heap.size wr W → W.heap[r]?=some (.cells C 61)):=fun W hW=>by rw [hC]; exact keep_row hls.row hW
          have HCC:Hid (C=fsC s2 V2):=hC
          rw [← hC] at HTH
          clear hC hls hI2 heq hrn hth hm hm' hm1 hm0
          go_wp2_with fail
          have hcur:Below wr.heap.size wr wr.drew:=(Below.refl _ wr).drew
          refine wp_region_held_drew (S:=fun W:World=>W.rangeAt r 0 C.toList) (by kernel_rfl) (range_row (HRD.out _ hcur)) (fun hHeld=>?_)
          refine wpAnyH_take (i:=0) (oi:={ dst:=some 34,op:=Op.load 61 (Operand.tmp 2),type:=61,pos:= "ref.go:112",after:=#[],guard:=none }) (v:=.agg C) rfl (by kernel_rfl) (by kernel_rfl) (by kernel_rfl) (fun _ _ _ h=>h) (ylF C r _ rfl rfl (fun _ h=>h) HCS.out) (by assumption) ?_
          try simp only [Act.put,List.setIfInBounds_toArray,List.set_cons_zero,List.set_cons_succ]
          refine wpAnyH_take (i:=1) (oi:={ dst:=some 35,op:=Op.move (Operand.tmp 8),type:=3,pos:= "ref.go:112",after:=#[],guard:=none }) (v:=.int .i64 (m:Int)) rfl (by kernel_rfl) (by kernel_rfl) (by kernel_rfl) (fun _ _ _ h=>h) (Or.inl ⟨by rfl,?y1⟩) (by assumption) ?_
          case y1=>(intro w hSw; (try dsimp only at hSw); first | (go_simp; done) | (go_simp; with_reducible rfl) | (go_simp; rfl))
          try simp only [Act.put,List.setIfInBounds_toArray,List.set_cons_zero,List.set_cons_succ]
          refine wpAnyH_ready (rs:=[2]) (by kernel_rfl) (by simp) ?_
          refine AllReadyH.cons (o:={ dst:=some 36,op:=Op.call { callee:=Callee.value (Operand.func 96),args:=#[Operand.tmp 35],argTypes:=#[3] },type:=9,pos:= "ref.go:112",after:=#[{ on:=1,ground:=Ground.data }],guard:=none }) rfl (fun K hK=>?_) AllReadyH.nil
          first | (go_at_call 96; refine (show Calls _ _ _ _ _ from HOL.out _).mono ?_; rintro e wo ⟨rfl,hbo⟩; have hcur:=hcur.trans (hbo.mono hcur.size)) | (go_simp; go_at_call 96; refine (show Calls _ _ _ _ _ from HOL.out _).mono ?_; rintro e wo ⟨rfl,hbo⟩; have hcur:=hcur.trans (hbo.mono hcur.size))
          refine hK.out _ _ (range_row (HRD.out _ hcur)) (fun hHeld=>?_)
          clear hK K
          try simp only [Act.put,List.setIfInBounds_toArray,List.set_cons_zero,List.set_cons_succ]
          refine wpAnyH_ready (rs:=[3]) (by kernel_rfl) (by simp) ?_
          refine AllReadyH.cons (o:={ dst:=some 37,op:=Op.call { callee:=Callee.value (Operand.func 132),args:=#[Operand.tmp 34,Operand.tmp 36],argTypes:=#[61,9] },type:=4,pos:= "ref.go:112",after:=#[{ on:=0,ground:=Ground.data },{ on:=2,ground:=Ground.data },{ on:=2,ground:=Ground.chain }],guard:=none }) rfl (fun K hK=>?_) AllReadyH.nil
          first | (go_at_call 132; refine (show Calls _ _ _ _ _ from HTH.out _ hcur).mono ?_; rintro e wo ⟨rfl,hbo⟩; have hcur:=hcur.trans (hbo.mono hcur.size)) | (go_simp; go_at_call 132; refine (show Calls _ _ _ _ _ from HTH.out _ hcur).mono ?_; rintro e wo ⟨rfl,hbo⟩; have hcur:=hcur.trans (hbo.mono hcur.size))
          refine hK.out _ _ (range_row (HRD.out _ hcur)) (fun hHeld=>?_)
          clear hK K
          try simp only [Act.put,List.setIfInBounds_toArray,List.set_cons_zero,List.set_cons_succ]
          refine wpAnyH_done (by kernel_rfl) ?_ _
          have HL3:Hid (LS w s V r Z s2 V2 _):=HL2.out.on hcur
          clear hcur hHeld HL2 HRD HTH
          obtain ⟨W9,hW9⟩:∃ W9,W9=wo:=⟨_,rfl⟩
          rw [← hW9] at HL3 ⊢
          clear hW9
          cases th with
          | false =>
            have HE2:Hid (rensM (keep - 1) s1=rensM m' s2):=by show _=_; rw [HRS.out]; rfl
            have hmw:=HMW.out
            clear HRS
            go_wp2
            go_roundw
            case rel=>exact ⟨m',s2,V2,HMM.out.1,rfl,HL3.out,HI2.out,HE2.out⟩
            case measure=>have:=HMM.out.2; simp [intOf]; omega
          | true =>
            have HST:Hid (rensM (keep - 1) s1=andM (s4,e1) (rensM m')):=by show _=_; rw [HRS.out]; rfl
            have HL2:Hid (LS w s V r Z s2 V2 W9):=HL3.out
            have HRD:Hid (∀ W,Below W9.heap.size W9 W → W.heap[r]?=some (.cells C 61)):=fun W hW=>by rw [HCC.out]; exact keep_row HL3.out.row hW
            have HRN:Hid (∀ W,Below W9.heap.size W9 W → Calls Tryz.prog 134 #[.agg C,.string (oldN m),.string (oldN m1)] W fun e w'=>∃ V1 C1,C1=fsC s4 V1∧e=.returned (.tuple #[.agg C1,.int .i64 e1])∧Made s2 V2 W s4 V1 w'):=fun W hW=>by rw [HCC.out]; exact HRQ.out W (HL3.out.at_.on hW)
            clear HRS HL3 HRQ HCC
            go_wp2_with fail
            have hcur:Below W9.heap.size W9 W9.drew:=(Below.refl _ W9).drew
            refine wp_region_held_drew (S:=fun _:World=>True) (by kernel_rfl) (trivial) (fun hHeld=>?_)
            refine wpAnyH_take (i:=1) (oi:={ dst:=some 40,op:=Op.move (Operand.tmp 8),type:=3,pos:= "ref.go:113",after:=#[],guard:=none }) (v:=.int .i64 (m:Int)) rfl (by kernel_rfl) (by kernel_rfl) (by kernel_rfl) (fun _ _ _ h=>h) (Or.inl ⟨by rfl,?y1⟩) (by assumption) ?_
            case y1=>(intro w hSw; (try dsimp only at hSw); first | (go_simp; done) | (go_simp; with_reducible rfl) | (go_simp; rfl))
            try simp only [Act.put,List.setIfInBounds_toArray,List.set_cons_zero,List.set_cons_succ]
            refine wpAnyH_take (i:=3) (oi:={ dst:=some 42,op:=Op.move (Operand.tmp 8),type:=3,pos:= "ref.go:113",after:=#[],guard:=none }) (v:=.int .i64 (m:Int)) rfl (by kernel_rfl) (by kernel_rfl) (by kernel_rfl) (fun _ _ _ h=>h) (Or.inl ⟨by rfl,?y3⟩) (by assumption) ?_
            case y3=>(intro w hSw; (try dsimp only at hSw); first | (go_simp; done) | (go_simp; with_reducible rfl) | (go_simp; rfl))
            try simp only [Act.put,List.setIfInBounds_toArray,List.set_cons_zero,List.set_cons_succ]
            refine wpAnyH_take (i:=4) (oi:={ dst:=some 43,op:=Op.binOp BinOp.add 3 (Operand.tmp 42) (Operand.const (Value.int IntKind.i64 1)) 3,type:=3,pos:= "ref.go:113",after:=#[{ on:=3,ground:=Ground.data }],guard:=none }) (v:=.int .i64 (m1:Int)) rfl (by kernel_rfl) (by kernel_rfl) (by kernel_rfl) (fun _ _ _ h=>h) (Or.inl ⟨by rfl,?y4⟩) (by assumption) ?_
            case y4=>(intro w hSw; (try dsimp only at hSw); first | (go_simp; done) | (go_simp; with_reducible rfl) | (go_simp; rfl))
            try simp only [Act.put,List.setIfInBounds_toArray,List.set_cons_zero,List.set_cons_succ]
            refine wpAnyH_ready (rs:=[0,2]) (by kernel_rfl) (by simp) ?_
            refine AllReadyH.cons (o:={ dst:=some 39,op:=Op.load 61 (Operand.tmp 2),type:=61,pos:= "ref.go:113",after:=#[],guard:=none }) rfl (fun K hK=>?_) (AllReadyH.cons (o:={ dst:=some 41,op:=Op.call { callee:=Callee.value (Operand.func 96),args:=#[Operand.tmp 40],argTypes:=#[3] },type:=9,pos:= "ref.go:113",after:=#[{ on:=1,ground:=Ground.data }],guard:=none }) rfl (fun K hK=>?_) AllReadyH.nil)
            · refine rdL C r _ (by rfl) rfl rfl (HRD.out _ hcur) HCS.out ?_
              refine hK.out _ _ (trivial) (fun hHeld=>?_)
              clear hK K
              try simp only [Act.put,List.setIfInBounds_toArray,List.set_cons_zero,List.set_cons_succ]
              refine wpAnyH_ready (rs:=[2]) (by kernel_rfl) (by simp) ?_
              refine AllReadyH.cons (o:={ dst:=some 41,op:=Op.call { callee:=Callee.value (Operand.func 96),args:=#[Operand.tmp 40],argTypes:=#[3] },type:=9,pos:= "ref.go:113",after:=#[{ on:=1,ground:=Ground.data }],guard:=none }) rfl (fun K hK=>?_) AllReadyH.nil
              first | (go_at_call 96; refine (show Calls _ _ _ _ _ from HOL.out _).mono ?_; rintro e wo ⟨rfl,hbo⟩; have hcur:=hcur.trans (hbo.mono hcur.size)) | (go_simp; go_at_call 96; refine (show Calls _ _ _ _ _ from HOL.out _).mono ?_; rintro e wo ⟨rfl,hbo⟩; have hcur:=hcur.trans (hbo.mono hcur.size))
              refine hK.out _ _ (trivial) (fun hHeld=>?_)
              clear hK K
              try simp only [Act.put,List.setIfInBounds_toArray,List.set_cons_zero,List.set_cons_succ]
              refine wpAnyH_ready (rs:=[5]) (by kernel_rfl) (by simp) ?_
              refine AllReadyH.cons (o:={ dst:=some 44,op:=Op.call { callee:=Callee.value (Operand.func 96),args:=#[Operand.tmp 43],argTypes:=#[3] },type:=9,pos:= "ref.go:113",after:=#[{ on:=4,ground:=Ground.data },{ on:=2,ground:=Ground.chain }],guard:=none }) rfl (fun K hK=>?_) AllReadyH.nil
              first | (go_at_call 96; refine (show Calls _ _ _ _ _ from HOL1.out _).mono ?_; rintro e wo ⟨rfl,hbo⟩; have hcur:=hcur.trans (hbo.mono hcur.size)) | (go_simp; go_at_call 96; refine (show Calls _ _ _ _ _ from HOL1.out _).mono ?_; rintro e wo ⟨rfl,hbo⟩; have hcur:=hcur.trans (hbo.mono hcur.size))
              refine hK.out _ _ (trivial) (fun hHeld=>?_)
              clear hK K
              try simp only [Act.put,List.setIfInBounds_toArray,List.set_cons_zero,List.set_cons_succ]
              refine wpAnyH_ready (rs:=[6]) (by kernel_rfl) (by simp) ?_
              refine AllReadyH.cons (o:={ dst:=some 45,op:=Op.call { callee:=Callee.value (Operand.func 134),args:=#[Operand.tmp 39,Operand.tmp 41,Operand.tmp 44],argTypes:=#[61,9,9] },type:=103,pos:= "ref.go:113",after:=#[{ on:=0,ground:=Ground.data },{ on:=2,ground:=Ground.data },{ on:=5,ground:=Ground.data },{ on:=5,ground:=Ground.chain }],guard:=none }) rfl (fun K hK=>?_) AllReadyH.nil
              first | (go_at_call 134; refine (show Calls _ _ _ _ _ from HRN.out _ hcur).mono ?_; rintro e wf ⟨V1,C1,hC1,rfl,hM⟩) | (go_simp; go_at_call 134; refine (show Calls _ _ _ _ _ from HRN.out _ hcur).mono ?_; rintro e wf ⟨V1,C1,hC1,rfl,hM⟩)
              refine hK.out _ _ (trivial) (fun hHeld=>?_)
              clear hK K
              try simp only [Act.put,List.setIfInBounds_toArray,List.set_cons_zero,List.set_cons_succ]
              refine wpAnyH_take (i:=7) (oi:={ dst:=some 38,op:=Op.move (Operand.tmp 45),type:=103,pos:= "ref.go:113",after:=#[{ on:=6,ground:=Ground.data }],guard:=none }) (v:=.tuple #[.agg C1,.int .i64 e1]) rfl (by kernel_rfl) (by kernel_rfl) (by kernel_rfl) (fun _ _ _ h=>h) (Or.inl ⟨by rfl,?y7⟩) (by assumption) ?_
              case y7=>(intro w hSw; (try dsimp only at hSw); first | (go_simp; done) | (go_simp; with_reducible rfl) | (go_simp; rfl))
              try simp only [Act.put,List.setIfInBounds_toArray,List.set_cons_zero,List.set_cons_succ]
              refine wpAnyH_take (i:=8) (oi:={ dst:=some 46,op:=Op.extract (Operand.tmp 38) 0,type:=61,pos:= "ref.go:113",after:=#[{ on:=7,ground:=Ground.data }],guard:=none }) (v:=.agg C1) rfl (by kernel_rfl) (by kernel_rfl) (by kernel_rfl) (fun _ _ _ h=>h) (Or.inl ⟨by rfl,?y8⟩) (by assumption) ?_
              case y8=>(intro w hSw; (try dsimp only at hSw); first | (go_simp; done) | (go_simp; with_reducible rfl) | (go_simp; rfl))
              try simp only [Act.put,List.setIfInBounds_toArray,List.set_cons_zero,List.set_cons_succ]
              refine wpAnyH_take (i:=9) (oi:={ dst:=some 47,op:=Op.extract (Operand.tmp 38) 1,type:=3,pos:= "ref.go:113",after:=#[{ on:=7,ground:=Ground.data },{ on:=10,ground:=Ground.gcOnly Departure.lateStores }],guard:=none }) (v:=.int .i64 e1) rfl (by kernel_rfl) (by kernel_rfl) (by kernel_rfl) (fun _ _ _ h=>h) (Or.inl ⟨by rfl,?y9⟩) (by assumption) ?_
              case y9=>(intro w hSw; (try dsimp only at hSw); first | (go_simp; done) | (go_simp; with_reducible rfl) | (go_simp; rfl))
              try simp only [Act.put,List.setIfInBounds_toArray,List.set_cons_zero,List.set_cons_succ]
              refine wpAnyH_ready (rs:=[10]) (by kernel_rfl) (by simp) ?_
              refine AllReadyH.cons (o:={ dst:=none,op:=Op.store 61 (Operand.tmp 2) (Operand.tmp 46),type:=0,pos:= "ref.go:113",after:=#[{ on:=8,ground:=Ground.data },{ on:=6,ground:=Ground.chain },{ on:=0,ground:=Ground.phase },{ on:=1,ground:=Ground.phase },{ on:=2,ground:=Ground.phase },{ on:=3,ground:=Ground.phase },{ on:=4,ground:=Ground.phase },{ on:=5,ground:=Ground.phase },{ on:=6,ground:=Ground.phase },{ on:=7,ground:=Ground.phase },{ on:=8,ground:=Ground.phase },{ on:=9,ground:=Ground.textOnly Departure.lateStores }],guard:=none }) rfl (fun K hK=>?_) AllReadyH.nil
              refine rdF r C1 C _ _ (by rfl) rfl rfl rfl (by rw [hC1]; rfl) (by rw [hC1]; exact fsC_one hM.at_) HCS.out (keep_row (HRD.out _ hcur) hM.bel) ?_; intro W6 hr6 hm6
              refine hK.out _ _ (trivial) (fun hHeld=>?_)
              clear hK K
              try simp only [Act.put,List.setIfInBounds_toArray,List.set_cons_zero,List.set_cons_succ]
              refine wpAnyH_take (i:=11) (oi:={ dst:=some 7,op:=Op.assign (Operand.tmp 47),type:=3,pos:= "ref.go:113",after:=#[{ on:=9,ground:=Ground.data },{ on:=10,ground:=Ground.chain },{ on:=0,ground:=Ground.phase },{ on:=1,ground:=Ground.phase },{ on:=2,ground:=Ground.phase },{ on:=3,ground:=Ground.phase },{ on:=4,ground:=Ground.phase },{ on:=5,ground:=Ground.phase },{ on:=6,ground:=Ground.phase },{ on:=7,ground:=Ground.phase },{ on:=8,ground:=Ground.phase },{ on:=9,ground:=Ground.phase },{ on:=10,ground:=Ground.phase }],guard:=none }) (v:=.int .i64 e1) rfl (by kernel_rfl) (by kernel_rfl) (by kernel_rfl) (fun _ _ _ h=>h) (Or.inl ⟨by rfl,?y11⟩) (by assumption) ?_
              case y11=>(intro w hSw; (try dsimp only at hSw); first | (go_simp; done) | (go_simp; with_reducible rfl) | (go_simp; rfl))
              try simp only [Act.put,List.setIfInBounds_toArray,List.set_cons_zero,List.set_cons_succ]
              refine wpAnyH_done (by kernel_rfl) ?_ _
              rw [hC1] at hr6
              have hls:=(HL2.out.on hcur).made hM hr6 hm6
              clear hC1 hM hr6 hm6 hcur hHeld
              by_cases h1:e1=0
              · subst h1
                have HE2:Hid (rensM (keep - 1) s1=rensM m' s4):=by
                  show _=_
                  rw [HST.out]
                  rfl
                have HLn:Hid (LS w s V r Z s4 V1 _):=hls
                clear hls HST
                have hmw:=HMW.out
                go_wp2
                go_roundw
                case rel=>exact ⟨m',s4,V1,HMM.out.1,rfl,HLn.out,HI4.out,HE2.out⟩
                case measure=>have:=HMM.out.2; simp [intOf]; omega
              · have HV:Hid (keptM s keep=(s4,e1)):=by
                  show _=_
                  have h5:andM (s4,e1) (rensM m')=(s4,e1):=andM_no h1
                  rw [HKE.out,HST.out,h5]
                  exact andM_no h1
                have heb:(e1 != 0)=true:=bne_iff_ne.mpr h1
                clear h1 HST HKE
                go_wp2_with (first | refine ldF (fsC s4 V1) r _ rfl rfl rfl hls.row rfl ?_ | (refine stF rfl _ _ rfl (r + 1) (fsC s4 V1) Z rfl rfl rfl (fsC_one hls.at_) HZS.out hls.res ?_; intro W7 hr7 hm7))
                have hlv:=run_loadVar_mid (P:=Tryz.prog) W7 (r + 1) 0 61 (fsC s4 V1).toList _ (fun j v hv=>by rw [cell_of_row _ _ _ _ _ _ hr7]; simpa using hv) Tryz.underlying61 rfl (by rw [Array.length_toList,fsC_size]; exact i31)
                rw [Array.toArray_toList] at hlv
                refine bodyPost_ret (v:=.tuple #[.agg (fsC s4 V1),.int .i64 e1]) (by simp [results,Tryz.results133,asAddr,Act.put,hlv,Result.andThen]) rfl ?_
                rw [HV.out]
                exact ⟨_,rfl,hls.fin HRR.out hm7⟩
            · first | (go_at_call 96; refine (show Calls _ _ _ _ _ from HOL.out _).mono ?_; rintro e wo ⟨rfl,hbo⟩; have hcur:=hcur.trans (hbo.mono hcur.size)) | (go_simp; go_at_call 96; refine (show Calls _ _ _ _ _ from HOL.out _).mono ?_; rintro e wo ⟨rfl,hbo⟩; have hcur:=hcur.trans (hbo.mono hcur.size))
              refine hK.out _ _ (trivial) (fun hHeld=>?_)
              clear hK K
              try simp only [Act.put,List.setIfInBounds_toArray,List.set_cons_zero,List.set_cons_succ]
              refine wpAnyH_ready (rs:=[0,5]) (by kernel_rfl) (by simp) ?_
              refine AllReadyH.cons (o:={ dst:=some 39,op:=Op.load 61 (Operand.tmp 2),type:=61,pos:= "ref.go:113",after:=#[],guard:=none }) rfl (fun K hK=>?_) (AllReadyH.cons (o:={ dst:=some 44,op:=Op.call { callee:=Callee.value (Operand.func 96),args:=#[Operand.tmp 43],argTypes:=#[3] },type:=9,pos:= "ref.go:113",after:=#[{ on:=4,ground:=Ground.data },{ on:=2,ground:=Ground.chain }],guard:=none }) rfl (fun K hK=>?_) AllReadyH.nil)
              · refine rdL C r _ (by rfl) rfl rfl (HRD.out _ hcur) HCS.out ?_
                refine hK.out _ _ (trivial) (fun hHeld=>?_)
                clear hK K
                try simp only [Act.put,List.setIfInBounds_toArray,List.set_cons_zero,List.set_cons_succ]
                refine wpAnyH_ready (rs:=[5]) (by kernel_rfl) (by simp) ?_
                refine AllReadyH.cons (o:={ dst:=some 44,op:=Op.call { callee:=Callee.value (Operand.func 96),args:=#[Operand.tmp 43],argTypes:=#[3] },type:=9,pos:= "ref.go:113",after:=#[{ on:=4,ground:=Ground.data },{ on:=2,ground:=Ground.chain }],guard:=none }) rfl (fun K hK=>?_) AllReadyH.nil
                first | (go_at_call 96; refine (show Calls _ _ _ _ _ from HOL1.out _).mono ?_; rintro e wo ⟨rfl,hbo⟩; have hcur:=hcur.trans (hbo.mono hcur.size)) | (go_simp; go_at_call 96; refine (show Calls _ _ _ _ _ from HOL1.out _).mono ?_; rintro e wo ⟨rfl,hbo⟩; have hcur:=hcur.trans (hbo.mono hcur.size))
                refine hK.out _ _ (trivial) (fun hHeld=>?_)
                clear hK K
                try simp only [Act.put,List.setIfInBounds_toArray,List.set_cons_zero,List.set_cons_succ]
                refine wpAnyH_ready (rs:=[6]) (by kernel_rfl) (by simp) ?_
                refine AllReadyH.cons (o:={ dst:=some 45,op:=Op.call { callee:=Callee.value (Operand.func 134),args:=#[Operand.tmp 39,Operand.tmp 41,Operand.tmp 44],argTypes:=#[61,9,9] },type:=103,pos:= "ref.go:113",after:=#[{ on:=0,ground:=Ground.data },{ on:=2,ground:=Ground.data },{ on:=5,ground:=Ground.data },{ on:=5,ground:=Ground.chain }],guard:=none }) rfl (fun K hK=>?_) AllReadyH.nil
                first | (go_at_call 134; refine (show Calls _ _ _ _ _ from HRN.out _ hcur).mono ?_; rintro e wf ⟨V1,C1,hC1,rfl,hM⟩) | (go_simp; go_at_call 134; refine (show Calls _ _ _ _ _ from HRN.out _ hcur).mono ?_; rintro e wf ⟨V1,C1,hC1,rfl,hM⟩)
                refine hK.out _ _ (trivial) (fun hHeld=>?_)
                clear hK K
                try simp only [Act.put,List.setIfInBounds_toArray,List.set_cons_zero,List.set_cons_succ]
                refine wpAnyH_take (i:=7) (oi:={ dst:=some 38,op:=Op.move (Operand.tmp 45),type:=103,pos:= "ref.go:113",after:=#[{ on:=6,ground:=Ground.data }],guard:=none }) (v:=.tuple #[.agg C1,.int .i64 e1]) rfl (by kernel_rfl) (by kernel_rfl) (by kernel_rfl) (fun _ _ _ h=>h) (Or.inl ⟨by rfl,?y7⟩) (by assumption) ?_
                case y7=>(intro w hSw; (try dsimp only at hSw); first | (go_simp; done) | (go_simp; with_reducible rfl) | (go_simp; rfl))
                try simp only [Act.put,List.setIfInBounds_toArray,List.set_cons_zero,List.set_cons_succ]
                refine wpAnyH_take (i:=8) (oi:={ dst:=some 46,op:=Op.extract (Operand.tmp 38) 0,type:=61,pos:= "ref.go:113",after:=#[{ on:=7,ground:=Ground.data }],guard:=none }) (v:=.agg C1) rfl (by kernel_rfl) (by kernel_rfl) (by kernel_rfl) (fun _ _ _ h=>h) (Or.inl ⟨by rfl,?y8⟩) (by assumption) ?_
                case y8=>(intro w hSw; (try dsimp only at hSw); first | (go_simp; done) | (go_simp; with_reducible rfl) | (go_simp; rfl))
                try simp only [Act.put,List.setIfInBounds_toArray,List.set_cons_zero,List.set_cons_succ]
                refine wpAnyH_take (i:=9) (oi:={ dst:=some 47,op:=Op.extract (Operand.tmp 38) 1,type:=3,pos:= "ref.go:113",after:=#[{ on:=7,ground:=Ground.data },{ on:=10,ground:=Ground.gcOnly Departure.lateStores }],guard:=none }) (v:=.int .i64 e1) rfl (by kernel_rfl) (by kernel_rfl) (by kernel_rfl) (fun _ _ _ h=>h) (Or.inl ⟨by rfl,?y9⟩) (by assumption) ?_
                case y9=>(intro w hSw; (try dsimp only at hSw); first | (go_simp; done) | (go_simp; with_reducible rfl) | (go_simp; rfl))
                try simp only [Act.put,List.setIfInBounds_toArray,List.set_cons_zero,List.set_cons_succ]
                refine wpAnyH_ready (rs:=[10]) (by kernel_rfl) (by simp) ?_
                refine AllReadyH.cons (o:={ dst:=none,op:=Op.store 61 (Operand.tmp 2) (Operand.tmp 46),type:=0,pos:= "ref.go:113",after:=#[{ on:=8,ground:=Ground.data },{ on:=6,ground:=Ground.chain },{ on:=0,ground:=Ground.phase },{ on:=1,ground:=Ground.phase },{ on:=2,ground:=Ground.phase },{ on:=3,ground:=Ground.phase },{ on:=4,ground:=Ground.phase },{ on:=5,ground:=Ground.phase },{ on:=6,ground:=Ground.phase },{ on:=7,ground:=Ground.phase },{ on:=8,ground:=Ground.phase },{ on:=9,ground:=Ground.textOnly Departure.lateStores }],guard:=none }) rfl (fun K hK=>?_) AllReadyH.nil
                refine rdF r C1 C _ _ (by rfl) rfl rfl rfl (by rw [hC1]; rfl) (by rw [hC1]; exact fsC_one hM.at_) HCS.out (keep_row (HRD.out _ hcur) hM.bel) ?_; intro W6 hr6 hm6
                refine hK.out _ _ (trivial) (fun hHeld=>?_)
                clear hK K
                try simp only [Act.put,List.setIfInBounds_toArray,List.set_cons_zero,List.set_cons_succ]
                refine wpAnyH_take (i:=11) (oi:={ dst:=some 7,op:=Op.assign (Operand.tmp 47),type:=3,pos:= "ref.go:113",after:=#[{ on:=9,ground:=Ground.data },{ on:=10,ground:=Ground.chain },{ on:=0,ground:=Ground.phase },{ on:=1,ground:=Ground.phase },{ on:=2,ground:=Ground.phase },{ on:=3,ground:=Ground.phase },{ on:=4,ground:=Ground.phase },{ on:=5,ground:=Ground.phase },{ on:=6,ground:=Ground.phase },{ on:=7,ground:=Ground.phase },{ on:=8,ground:=Ground.phase },{ on:=9,ground:=Ground.phase },{ on:=10,ground:=Ground.phase }],guard:=none }) (v:=.int .i64 e1) rfl (by kernel_rfl) (by kernel_rfl) (by kernel_rfl) (fun _ _ _ h=>h) (Or.inl ⟨by rfl,?y11⟩) (by assumption) ?_
                case y11=>(intro w hSw; (try dsimp only at hSw); first | (go_simp; done) | (go_simp; with_reducible rfl) | (go_simp; rfl))
                try simp only [Act.put,List.setIfInBounds_toArray,List.set_cons_zero,List.set_cons_succ]
                refine wpAnyH_done (by kernel_rfl) ?_ _
                rw [hC1] at hr6
                have hls:=(HL2.out.on hcur).made hM hr6 hm6
                clear hC1 hM hr6 hm6 hcur hHeld
                by_cases h1:e1=0
                · subst h1
                  have HE2:Hid (rensM (keep - 1) s1=rensM m' s4):=by
                    show _=_
                    rw [HST.out]
                    rfl
                  have HLn:Hid (LS w s V r Z s4 V1 _):=hls
                  clear hls HST
                  have hmw:=HMW.out
                  go_wp2
                  go_roundw
                  case rel=>exact ⟨m',s4,V1,HMM.out.1,rfl,HLn.out,HI4.out,HE2.out⟩
                  case measure=>have:=HMM.out.2; simp [intOf]; omega
                · have HV:Hid (keptM s keep=(s4,e1)):=by
                    show _=_
                    have h5:andM (s4,e1) (rensM m')=(s4,e1):=andM_no h1
                    rw [HKE.out,HST.out,h5]
                    exact andM_no h1
                  have heb:(e1 != 0)=true:=bne_iff_ne.mpr h1
                  clear h1 HST HKE
                  go_wp2_with (first | refine ldF (fsC s4 V1) r _ rfl rfl rfl hls.row rfl ?_ | (refine stF rfl _ _ rfl (r + 1) (fsC s4 V1) Z rfl rfl rfl (fsC_one hls.at_) HZS.out hls.res ?_; intro W7 hr7 hm7))
                  have hlv:=run_loadVar_mid (P:=Tryz.prog) W7 (r + 1) 0 61 (fsC s4 V1).toList _ (fun j v hv=>by rw [cell_of_row _ _ _ _ _ _ hr7]; simpa using hv) Tryz.underlying61 rfl (by rw [Array.length_toList,fsC_size]; exact i31)
                  rw [Array.toArray_toList] at hlv
                  refine bodyPost_ret (v:=.tuple #[.agg (fsC s4 V1),.int .i64 e1]) (by simp [results,Tryz.results133,asAddr,Act.put,hlv,Result.andThen]) rfl ?_
                  rw [HV.out]
                  exact ⟨_,rfl,hls.fin HRR.out hm7⟩
              · first | (go_at_call 96; refine (show Calls _ _ _ _ _ from HOL1.out _).mono ?_; rintro e wo ⟨rfl,hbo⟩; have hcur:=hcur.trans (hbo.mono hcur.size)) | (go_simp; go_at_call 96; refine (show Calls _ _ _ _ _ from HOL1.out _).mono ?_; rintro e wo ⟨rfl,hbo⟩; have hcur:=hcur.trans (hbo.mono hcur.size))
                refine hK.out _ _ (trivial) (fun hHeld=>?_)
                clear hK K
                try simp only [Act.put,List.setIfInBounds_toArray,List.set_cons_zero,List.set_cons_succ]
                refine wpAnyH_ready (rs:=[0]) (by kernel_rfl) (by simp) ?_
                refine AllReadyH.cons (o:={ dst:=some 39,op:=Op.load 61 (Operand.tmp 2),type:=61,pos:= "ref.go:113",after:=#[],guard:=none }) rfl (fun K hK=>?_) AllReadyH.nil
                refine rdL C r _ (by rfl) rfl rfl (HRD.out _ hcur) HCS.out ?_
                refine hK.out _ _ (trivial) (fun hHeld=>?_)
                clear hK K
                try simp only [Act.put,List.setIfInBounds_toArray,List.set_cons_zero,List.set_cons_succ]
                refine wpAnyH_ready (rs:=[6]) (by kernel_rfl) (by simp) ?_
                refine AllReadyH.cons (o:={ dst:=some 45,op:=Op.call { callee:=Callee.value (Operand.func 134),args:=#[Operand.tmp 39,Operand.tmp 41,Operand.tmp 44],argTypes:=#[61,9,9] },type:=103,pos:= "ref.go:113",after:=#[{ on:=0,ground:=Ground.data },{ on:=2,ground:=Ground.data },{ on:=5,ground:=Ground.data },{ on:=5,ground:=Ground.chain }],guard:=none }) rfl (fun K hK=>?_) AllReadyH.nil
                first | (go_at_call 134; refine (show Calls _ _ _ _ _ from HRN.out _ hcur).mono ?_; rintro e wf ⟨V1,C1,hC1,rfl,hM⟩) | (go_simp; go_at_call 134; refine (show Calls _ _ _ _ _ from HRN.out _ hcur).mono ?_; rintro e wf ⟨V1,C1,hC1,rfl,hM⟩)
                refine hK.out _ _ (trivial) (fun hHeld=>?_)
                clear hK K
                try simp only [Act.put,List.setIfInBounds_toArray,List.set_cons_zero,List.set_cons_succ]
                refine wpAnyH_take (i:=7) (oi:={ dst:=some 38,op:=Op.move (Operand.tmp 45),type:=103,pos:= "ref.go:113",after:=#[{ on:=6,ground:=Ground.data }],guard:=none }) (v:=.tuple #[.agg C1,.int .i64 e1]) rfl (by kernel_rfl) (by kernel_rfl) (by kernel_rfl) (fun _ _ _ h=>h) (Or.inl ⟨by rfl,?y7⟩) (by assumption) ?_
                case y7=>(intro w hSw; (try dsimp only at hSw); first | (go_simp; done) | (go_simp; with_reducible rfl) | (go_simp; rfl))
                try simp only [Act.put,List.setIfInBounds_toArray,List.set_cons_zero,List.set_cons_succ]
                refine wpAnyH_take (i:=8) (oi:={ dst:=some 46,op:=Op.extract (Operand.tmp 38) 0,type:=61,pos:= "ref.go:113",after:=#[{ on:=7,ground:=Ground.data }],guard:=none }) (v:=.agg C1) rfl (by kernel_rfl) (by kernel_rfl) (by kernel_rfl) (fun _ _ _ h=>h) (Or.inl ⟨by rfl,?y8⟩) (by assumption) ?_
                case y8=>(intro w hSw; (try dsimp only at hSw); first | (go_simp; done) | (go_simp; with_reducible rfl) | (go_simp; rfl))
                try simp only [Act.put,List.setIfInBounds_toArray,List.set_cons_zero,List.set_cons_succ]
                refine wpAnyH_take (i:=9) (oi:={ dst:=some 47,op:=Op.extract (Operand.tmp 38) 1,type:=3,pos:= "ref.go:113",after:=#[{ on:=7,ground:=Ground.data },{ on:=10,ground:=Ground.gcOnly Departure.lateStores }],guard:=none }) (v:=.int .i64 e1) rfl (by kernel_rfl) (by kernel_rfl) (by kernel_rfl) (fun _ _ _ h=>h) (Or.inl ⟨by rfl,?y9⟩) (by assumption) ?_
                case y9=>(intro w hSw; (try dsimp only at hSw); first | (go_simp; done) | (go_simp; with_reducible rfl) | (go_simp; rfl))
                try simp only [Act.put,List.setIfInBounds_toArray,List.set_cons_zero,List.set_cons_succ]
                refine wpAnyH_ready (rs:=[10]) (by kernel_rfl) (by simp) ?_
                refine AllReadyH.cons (o:={ dst:=none,op:=Op.store 61 (Operand.tmp 2) (Operand.tmp 46),type:=0,pos:= "ref.go:113",after:=#[{ on:=8,ground:=Ground.data },{ on:=6,ground:=Ground.chain },{ on:=0,ground:=Ground.phase },{ on:=1,ground:=Ground.phase },{ on:=2,ground:=Ground.phase },{ on:=3,ground:=Ground.phase },{ on:=4,ground:=Ground.phase },{ on:=5,ground:=Ground.phase },{ on:=6,ground:=Ground.phase },{ on:=7,ground:=Ground.phase },{ on:=8,ground:=Ground.phase },{ on:=9,ground:=Ground.textOnly Departure.lateStores }],guard:=none }) rfl (fun K hK=>?_) AllReadyH.nil
                refine rdF r C1 C _ _ (by rfl) rfl rfl rfl (by rw [hC1]; rfl) (by rw [hC1]; exact fsC_one hM.at_) HCS.out (keep_row (HRD.out _ hcur) hM.bel) ?_; intro W6 hr6 hm6
                refine hK.out _ _ (trivial) (fun hHeld=>?_)
                clear hK K
                try simp only [Act.put,List.setIfInBounds_toArray,List.set_cons_zero,List.set_cons_succ]
                refine wpAnyH_take (i:=11) (oi:={ dst:=some 7,op:=Op.assign (Operand.tmp 47),type:=3,pos:= "ref.go:113",after:=#[{ on:=9,ground:=Ground.data },{ on:=10,ground:=Ground.chain },{ on:=0,ground:=Ground.phase },{ on:=1,ground:=Ground.phase },{ on:=2,ground:=Ground.phase },{ on:=3,ground:=Ground.phase },{ on:=4,ground:=Ground.phase },{ on:=5,ground:=Ground.phase },{ on:=6,ground:=Ground.phase },{ on:=7,ground:=Ground.phase },{ on:=8,ground:=Ground.phase },{ on:=9,ground:=Ground.phase },{ on:=10,ground:=Ground.phase }],guard:=none }) (v:=.int .i64 e1) rfl (by kernel_rfl) (by kernel_rfl) (by kernel_rfl) (fun _ _ _ h=>h) (Or.inl ⟨by rfl,?y11⟩) (by assumption) ?_
                case y11=>(intro w hSw; (try dsimp only at hSw); first | (go_simp; done) | (go_simp; with_reducible rfl) | (go_simp; rfl))
                try simp only [Act.put,List.setIfInBounds_toArray,List.set_cons_zero,List.set_cons_succ]
                refine wpAnyH_done (by kernel_rfl) ?_ _
                rw [hC1] at hr6
                have hls:=(HL2.out.on hcur).made hM hr6 hm6
                clear hC1 hM hr6 hm6 hcur hHeld
                by_cases h1:e1=0
                · subst h1
                  have HE2:Hid (rensM (keep - 1) s1=rensM m' s4):=by
                    show _=_
                    rw [HST.out]
                    rfl
                  have HLn:Hid (LS w s V r Z s4 V1 _):=hls
                  clear hls HST
                  have hmw:=HMW.out
                  go_wp2
                  go_roundw
                  case rel=>exact ⟨m',s4,V1,HMM.out.1,rfl,HLn.out,HI4.out,HE2.out⟩
                  case measure=>have:=HMM.out.2; simp [intOf]; omega
                · have HV:Hid (keptM s keep=(s4,e1)):=by
                    show _=_
                    have h5:andM (s4,e1) (rensM m')=(s4,e1):=andM_no h1
                    rw [HKE.out,HST.out,h5]
                    exact andM_no h1
                  have heb:(e1 != 0)=true:=bne_iff_ne.mpr h1
                  clear h1 HST HKE
                  go_wp2_with (first | refine ldF (fsC s4 V1) r _ rfl rfl rfl hls.row rfl ?_ | (refine stF rfl _ _ rfl (r + 1) (fsC s4 V1) Z rfl rfl rfl (fsC_one hls.at_) HZS.out hls.res ?_; intro W7 hr7 hm7))
                  have hlv:=run_loadVar_mid (P:=Tryz.prog) W7 (r + 1) 0 61 (fsC s4 V1).toList _ (fun j v hv=>by rw [cell_of_row _ _ _ _ _ _ hr7]; simpa using hv) Tryz.underlying61 rfl (by rw [Array.length_toList,fsC_size]; exact i31)
                  rw [Array.toArray_toList] at hlv
                  refine bodyPost_ret (v:=.tuple #[.agg (fsC s4 V1),.int .i64 e1]) (by simp [results,Tryz.results133,asAddr,Act.put,hlv,Result.andThen]) rfl ?_
                  rw [HV.out]
                  exact ⟨_,rfl,hls.fin HRR.out hm7⟩
    · have HV:Hid (keptM s keep=(s1,e1)):=by show _=_; rw [HK1.out]; exact andM_no h0
      have heb:(e1 != 0)=true:=bne_iff_ne.mpr h0
      clear h0 HK1
      go_wp2_with (first | refine ldF (fsC s1 V1) r _ rfl rfl rfl hls.row rfl ?_ | (refine stF rfl _ _ rfl (r + 1) (fsC s1 V1) Z rfl rfl rfl (fsC_one hls.at_) HZS.out hls.res ?_; intro W7 hr7 hm7))
      have hlv:=run_loadVar_mid (P:=Tryz.prog) W7 (r + 1) 0 61 (fsC s1 V1).toList _ (fun j v hv=>by rw [cell_of_row _ _ _ _ _ _ hr7]; simpa using hv) Tryz.underlying61 rfl (by rw [Array.length_toList,fsC_size]; exact i31)
      rw [Array.toArray_toList] at hlv
      refine bodyPost_ret (v:=.tuple #[.agg (fsC s1 V1),.int .i64 e1]) (by simp [results,Tryz.results133,asAddr,Act.put,hlv,Result.andThen]) rfl ?_
      rw [HV.out]
      exact ⟨_,rfl,hls.fin HRR.out hm7⟩
  · have HV:Hid (keptM s keep=(s,re)):=by show _=_; rw [HKR.out]; exact if_neg h0
    have heb:(re != 0)=true:=bne_iff_ne.mpr h0
    clear h0 HKR
    go_wp2_with (first | refine ldF (fsC s V) r _ rfl rfl rfl hls.row rfl ?_ | (refine stF rfl _ _ rfl (r + 1) (fsC s V) Z rfl rfl rfl (fsC_one hls.at_) HZS.out hls.res ?_; intro W7 hr7 hm7))
    have hlv:=run_loadVar_mid (P:=Tryz.prog) W7 (r + 1) 0 61 (fsC s V).toList _ (fun j v hv=>by rw [cell_of_row _ _ _ _ _ _ hr7]; simpa using hv) Tryz.underlying61 rfl (by rw [Array.length_toList,fsC_size]; exact i31)
    rw [Array.toArray_toList] at hlv
    refine bodyPost_ret (v:=.tuple #[.agg (fsC s V),.int .i64 re]) (by simp [results,Tryz.results133,asAddr,Act.put,hlv,Result.andThen]) rfl ?_
    rw [HV.out]
    exact ⟨_,rfl,hls.fin HRR.out hm7⟩
end Go.Proofs.YtbgbmfmgdgalbaaGreatDoor
