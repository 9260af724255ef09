import Derived.Test.YtbgbmfmgdgalbaaGreatDoorM24
namespace Go.Proofs.YtbgbmfmgdgalbaaGreatDoor
open Go.RowKit
set_option linter.unusedVariables false
set_option linter.unusedSimpArgs false
theorem rsyncDir_i {s:Fs} {V:FV} {i:Nat} (h:Inv s i) (hi:i ≤ 3298534883000) (w:World) (ha:FsAt s V w):Calls Tryz.prog 95 #[.agg (fsC s V)] w (RP s V w (syncDirM s)):=syncDir_any s V (h.bd hi) w ha
set_option maxHeartbeats 8000000 in
set_option maxRecDepth 20000 in
theorem rsteps_any {s:Fs} {V:FV} {i keep:Nat} {t:ByteArray} (hI:Inv s i) (hk8:keep ≤ 8) (ht:t.size ≤ 1073741824) (hi:i + 32820 ≤ 3298534883000) (w:World) (h:FsAt s V w):Calls Tryz.prog 90 #[.agg (fsC s V),.string t,.int .i64 (keep:Int)] w (RP s V w (stepsM s t keep)):=by
  have hpl:=pieces_le ht
  obtain ⟨s1,e1,hwr⟩:∃ s1 e1,writtenM s tmpS t=(s1,e1):=⟨_,_,rfl⟩
  have HWR:Hid (∀ W,FsAt s V W → Calls Tryz.prog 131 #[.agg (fsC s V),.string { data:=#[116,101,109,112,45,115,97,118,101] },.string t] W (RP s V W (s1,e1))):=fun W hW=>by
    have:=rwritten_any hI tmpS t (by omega) (by decide) (by omega) W hW
    rw [hwr] at this
    exact this
  have HI1:Hid (Inv s1 (i + 16386)):=by
    have:=hI.written tmpS t
    rw [hwr] at this
    exact this.more (by omega)
  have HKR:Hid (stepsM s t keep=andM (s1,e1) (fun G=>andM (if decide (0 < keep) && thereM G liveN then keptM G keep else (G,0)) (fun G=>andM (renameM G tmpS liveN) fun G=>andM (remsM (8 - keep) G) syncDirM))):=by show _=_; unfold stepsM; rw [hwr]
  have HIB:Hid (i + 32820 ≤ 3298534883000∧keep ≤ 8):=⟨hi,hk8⟩
  clear hI hi hk8 hwr hpl ht
  obtain ⟨Z,hZ⟩:∃ Z,Z=zF:=⟨_,rfl⟩
  have HZZ:Hid (Z=zF):=hZ
  have HZS:Hid (Z.size=9):=by show _=_; rw [hZ]; rfl
  clear hZ
  obtain ⟨W1,hW1⟩:∃ W1,W1=(w.alloc (.cells (fsC s V) 61)).alloc (.cells Z 61):=⟨_,rfl⟩
  have hls:=LS.start h Z
  rw [← hW1] at hls
  obtain ⟨r,hr⟩:∃ r,w.heap.size=r:=⟨_,rfl⟩
  have HRR:Hid (w.heap.size=r):=hr
  rw [hr] at hls
  clear h hr
  rw [show fsC s V=#[.bool s.down,.int .i64 (s.steps:Int),V.f,V.d,V.s,V.c,V.p,.int .i64 s.crash,V.k] from rfl] at hW1
  rw [show fsC s V=#[.bool s.down,.int .i64 (s.steps:Int),V.f,V.d,V.s,V.c,V.p,.int .i64 s.crash,V.k] from rfl]
  go_enter Tryz.func90,Tryz.ntmps90
  go_upto_region 1 with (refine alF rfl rfl Z HZZ.out ?_)
  try simp only [World.size_alloc]
  rw [← hW1,HRR.out]
  clear hW1
  go_wp2_with (refine ldF (fsC s V) r _ rfl rfl rfl hls.row rfl ?_)
  refine (show Calls _ _ _ _ _ from HWR.out _ hls.at_).mono ?_
  rintro e w3 ⟨V1,rfl,hM⟩
  have HM:Hid (Made s V _ s1 V1 w3):=hM
  have HL0:Hid (LS w s V r Z s V _):=hls
  have H1c:Hid ((fsC s1 V1).all (·.oneCell')=true):=fsC_one hM.at_
  have HRW:Hid _:=keep_row hls.row hM.bel
  clear hM hls
  go_upto_region 2 with (refine stF rfl _ _ rfl r (fsC s1 V1) (fsC s V) rfl rfl rfl H1c.out rfl HRW.out ?_; intro W5 hr5 hm5)
  have hls:=HL0.out.made HM.out hr5 hm5
  clear hr5 hm5 HM HL0 H1c HRW
  clear HWR
  by_cases h0:e1=0
  · subst h0
    have HK1:Hid (stepsM s t keep=andM (if decide (0 < keep) && thereM s1 liveN then keptM s1 keep else (s1,0)) (fun G=>andM (renameM G tmpS liveN) fun G=>andM (remsM (8 - keep) G) syncDirM)):=by show _=_; rw [HKR.out]; exact andM_ok rfl
    clear HKR
    obtain ⟨th,hth⟩:∃ th,thereM s1 liveN=th:=⟨_,rfl⟩
    have HTE:Hid (thereM s1 liveN=th):=hth
    have HTH:Hid (∀ W,FsAt s1 V1 W → Calls Tryz.prog 132 #[.agg (fsC s1 V1),.string { data:=#[100,117,109,112,46,114,100,98] }] W fun e w'=>e=.returned (.bool th)∧Below W.heap.size W w'):=fun W hW=>by
      have:=rthere_any HI1.out (by have:=HIB.out; omega) liveN (by decide) W hW
      rw [hth] at this
      exact this
    obtain ⟨Wb,hWb⟩:∃ Wb,Wb=W5:=⟨_,rfl⟩
    rw [← hWb] at hls ⊢
    clear hWb hth
    by_cases hk0:keep=0
    case' pos =>
      have hkz:¬ (0:Int) < (keep:Int):=by omega
      go_upto_region 8 with fail
      have HLK:Hid (∃ sK VK,LS w s V r Z sK VK Wb∧Inv sK (i + 32790)∧stepsM s t keep=(fun G=>andM (renameM G tmpS liveN) fun G=>andM (remsM (8 - keep) G) syncDirM) sK):=⟨s1,V1,hls,HI1.out.more (by omega),by rw [HK1.out,hk0]; exact andM_ok rfl⟩
      obtain ⟨Wc,hWc⟩:∃ Wc,Wc=Wb:=⟨_,rfl⟩
      rw [← hWc] at HLK ⊢
      clear hWc hls
      clear HK1 hk0 hkz HTH HTE HI1
    case' neg =>
      have hkz:(0:Int) < (keep:Int):=by omega
      obtain ⟨q0,q1,q2,q3,q4,q5,q6,q7,q8,_⟩:=row9 (v0:=.bool s1.down) (v1:=.int .i64 (s1.steps:Int)) (v2:=V1.f) (v3:=V1.d) (v4:=V1.s) (v5:=V1.c) (v6:=V1.p) (v7:=.int .i64 s1.crash) (v8:=V1.k) hls.row
      have HQ:Hid (Calls Tryz.prog 132 #[.agg #[.bool s1.down,.int .i64 (s1.steps:Int),V1.f,V1.d,V1.s,V1.c,V1.p,.int .i64 s1.crash,V1.k],.string { data:=#[100,117,109,112,46,114,100,98] }] Wb fun e w'=>e=.returned (.bool th)∧Below Wb.heap.size Wb w'):=HTH.out _ hls.at_
      have HKZ:Hid (¬ keep=0):=hk0
      clear hk0
      go_wp2_with fail
      refine (show Calls _ _ _ _ _ from HQ.out).mono ?_
      rintro e w4 ⟨rfl,hb4⟩
      have hls:=hls.on hb4
      clear hb4 HQ HTH q0 q1 q2 q3 q4 q5 q6 q7 q8
      cases th
      case' false =>
        go_upto_region 8 with fail
        have HLK:Hid (∃ sK VK,LS w s V r Z sK VK w4∧Inv sK (i + 32790)∧stepsM s t keep=(fun G=>andM (renameM G tmpS liveN) fun G=>andM (remsM (8 - keep) G) syncDirM) sK):=⟨s1,V1,hls,HI1.out.more (by omega),by rw [HK1.out,HTE.out,Bool.and_false]; exact andM_ok rfl⟩
        obtain ⟨Wc,hWc⟩:∃ Wc,Wc=w4:=⟨_,rfl⟩
        rw [← hWc] at HLK ⊢
        clear hWc hls
        clear HK1 HKZ hkz HTE HI1
      case' true =>
        obtain ⟨s2,e2,hkp⟩:∃ s2 e2,keptM s1 keep=(s2,e2):=⟨_,_,rfl⟩
        have HKP:Hid (∀ W,FsAt s1 V1 W → Calls Tryz.prog 133 #[.agg (fsC s1 V1),.int .i64 (keep:Int)] W (RP s1 V1 W (s2,e2))):=fun W hW=>by
          have:=rkept_any HI1.out (by have:=HKZ.out; omega) HIB.out.2 (by have:=HIB.out; omega) W hW
          rw [hkp] at this
          exact this
        have HI2:Hid (Inv s2 (i + 32790)):=by
          have:=HI1.out.kept (keep:=keep) HIB.out.2
          rw [hkp] at this
          exact this.more (by omega)
        have HK2:Hid (stepsM s t keep=andM (s2,e2) (fun G=>andM (renameM G tmpS liveN) fun G=>andM (remsM (8 - keep) G) syncDirM)):=by show _=_; rw [HK1.out,HTE.out,if_pos (by have:=HKZ.out; simp; omega),hkp]
        clear HK1 HTE hkp HI1
        go_upto_region 5 with fail
        go_wp2_with (refine ldF (fsC s1 V1) r _ rfl rfl rfl hls.row rfl ?_)
        refine (show Calls _ _ _ _ _ from HKP.out _ hls.at_).mono ?_
        rintro e w5 ⟨V2,rfl,hM⟩
        have HM:Hid (Made s1 V1 _ s2 V2 w5):=hM
        have HL0:Hid (LS w s V r Z s1 V1 _):=hls
        have H1c:Hid ((fsC s2 V2).all (·.oneCell')=true):=fsC_one hM.at_
        have HRW:Hid _:=keep_row hls.row hM.bel
        clear hM hls
        go_upto_region 6 with (refine stF rfl _ _ rfl r (fsC s2 V2) (fsC s1 V1) rfl rfl rfl H1c.out rfl HRW.out ?_; intro W5 hr5 hm5)
        have hls:=HL0.out.made HM.out hr5 hm5
        clear hr5 hm5 HM HL0 H1c HRW
        clear HKP HKZ hkz
        obtain ⟨Wd,hWd⟩:∃ Wd,Wd=W5:=⟨_,rfl⟩
        rw [← hWd] at hls ⊢
        clear hWd
        by_cases h0:e2=0
        case' neg =>
          have HV:Hid (stepsM s t keep=(s2,e2)):=by show _=_; rw [HK2.out]; exact andM_no h0
          have heb:(e2 != 0)=true:=bne_iff_ne.mpr h0
          clear h0 HK2 HI2
          go_wp2_with (first | refine ldF (fsC s2 V2) r _ rfl rfl rfl hls.row rfl ?_ | (refine stF rfl _ _ rfl (r + 1) (fsC s2 V2) Z rfl rfl rfl (fsC_one hls.at_) HZS.out hls.res ?_; intro W7 hr7 hm7))
          have hlv:=run_loadVar_mid (P:=Tryz.prog) W7 (r + 1) 0 61 (fsC s2 V2).toList _ (fun j v hv=>by rw [cell_of_row _ _ _ _ _ _ hr7]; simpa using hv) Tryz.underlying61 rfl (by rw [Array.length_toList,fsC_size]; exact i31)
          rw [Array.toArray_toList] at hlv
          refine bodyPost_ret (v:=.tuple #[.agg (fsC s2 V2),.int .i64 e2]) (by simp [results,Tryz.results90,asAddr,Act.put,hlv,Result.andThen]) rfl ?_
          rw [HV.out]
          exact ⟨_,rfl,hls.fin HRR.out hm7⟩
        case' pos =>
          subst h0
          go_upto_region 8 with fail
          have HLK:Hid (∃ sK VK,LS w s V r Z sK VK Wd∧Inv sK (i + 32790)∧stepsM s t keep=(fun G=>andM (renameM G tmpS liveN) fun G=>andM (remsM (8 - keep) G) syncDirM) sK):=⟨s2,V2,hls,HI2.out,by rw [HK2.out]; exact andM_ok rfl⟩
          obtain ⟨Wc,hWc⟩:∃ Wc,Wc=Wd:=⟨_,rfl⟩
          rw [← hWc] at HLK ⊢
          clear hWc hls
          clear HK2 HI2
    all_goals
      obtain ⟨sK,VK,hls,hIK,hKE⟩:=HLK.out
      have HIK:Hid (Inv sK (i + 32790)):=hIK
      obtain ⟨s3,e3,hrn⟩:∃ s3 e3,renameM sK tmpS liveN=(s3,e3):=⟨_,_,rfl⟩
      have HRN:Hid (∀ W,FsAt sK VK W → Calls Tryz.prog 134 #[.agg (fsC sK VK),.string { data:=#[116,101,109,112,45,115,97,118,101] },.string { data:=#[100,117,109,112,46,114,100,98] }] W (RP sK VK W (s3,e3))):=fun W hW=>by
        have:=rrename_i HIK.out (by have:=HIB.out; omega) tmpS liveN (by decide) (by decide) W hW
        rw [hrn] at this
        exact this
      have HI3:Hid (Inv s3 (i + 32791)):=by
        have:=hIK.rename tmpS liveN
        rw [hrn] at this
        exact this
      have HK3:Hid (stepsM s t keep=andM (s3,e3) fun G=>andM (remsM (8 - keep) G) syncDirM):=by show _=_; rw [hKE]; simp only [hrn]
      clear hIK hKE hrn HLK HIK
      go_wp2_with (refine ldF (fsC sK VK) r _ rfl rfl rfl hls.row rfl ?_)
      refine (show Calls _ _ _ _ _ from HRN.out _ hls.at_).mono ?_
      rintro e w6 ⟨V3,rfl,hM⟩
      have HM:Hid (Made sK VK _ s3 V3 w6):=hM
      have HL0:Hid (LS w s V r Z sK VK _):=hls
      have H1c:Hid ((fsC s3 V3).all (·.oneCell')=true):=fsC_one hM.at_
      have HRW:Hid _:=keep_row hls.row hM.bel
      clear hM hls
      go_upto_region 9 with (refine stF rfl _ _ rfl r (fsC s3 V3) (fsC sK VK) rfl rfl rfl H1c.out rfl HRW.out ?_; intro W5 hr5 hm5)
      have hls:=HL0.out.made HM.out hr5 hm5
      clear hr5 hm5 HM HL0 H1c HRW
      clear HRN
      by_cases h0:e3=0
      · subst h0
        have HKE:Hid (stepsM s t keep=andM (remsM (8 - keep) s3) syncDirM):=by show _=_; rw [HK3.out]; exact andM_ok rfl
        have HL1:Hid (LS w s V r Z s3 V3 _):=hls
        have hkw:IntKind.i64.wrap ((keep:Int) + 1)=((keep + 1:Nat):Int):=by have:=HIB.out; rw [IntKind.wrap_i64] <;> omega
        clear hls HK3
        go_wp2
        go_loopw [9] (fun ci wr=>∃ (m c:Nat) (s8:Fs) (V8:FV),c + m=9∧m ≤ 8 - keep∧ci=.int .i64 (c:Int)∧LS w s V r Z s8 V8 wr∧Inv s8 (i + 32791 + (8 - keep - m))∧remsM (8 - keep) s3=remsM m s8) (fun ci _=>(9 - intOf ci).toNat)
        case atStart=>exact ⟨8 - keep,keep + 1,s3,V3,by have:=HIB.out; omega,Nat.le_refl _,rfl,HL1.out,by rw [Nat.sub_self]; exact HI3.out,rfl⟩
        case round =>
          obtain ⟨m,c,s8,V8,hcm,hm,rfl,hls,hI8,heq⟩:=hrel
          clear HL1 hkw
          by_cases hm0:m=0
          · subst hm0
            obtain ⟨s9,e9,hsd⟩:∃ s9 e9,syncDirM s8=(s9,e9):=⟨_,_,rfl⟩
            have HV:Hid (stepsM s t keep=(s9,e9)):=by
              show _=_
              rw [HKE.out,heq,← hsd]
              exact andM_ok rfl
            have HSY:Hid (∀ W,FsAt s8 V8 W → Calls Tryz.prog 95 #[.agg (fsC s8 V8)] W (RP s8 V8 W (s9,e9))):=fun W hW=>by
              have:=rsyncDir_i hI8 (by have:=HIB.out; omega) W hW
              rw [hsd] at this
              exact this
            have hc9:¬ (c:Int) ≤ 8:=by omega
            have HL2:Hid (LS w s V r Z s8 V8 wr):=hls
            clear hI8 heq hsd hm hcm HKE
            go_wp2_with (refine ldF (fsC s8 V8) r _ rfl rfl rfl hls.row rfl ?_)
            refine (show Calls _ _ _ _ _ from HSY.out _ hls.at_).mono ?_
            rintro e w9 ⟨V9,rfl,hM⟩
            have HMM:Hid (Made s8 V8 _ s9 V9 w9):=hM
            have HZ9:Hid _:=keep_row hls.res hM.bel
            clear hM
            go_wp2_with (refine stF rfl _ _ rfl (r + 1) (fsC s9 V9) Z rfl rfl rfl (fsC_one HMM.out.at_) HZS.out HZ9.out ?_; intro W7 hr7 hm7)
            have hlv:=run_loadVar_mid (P:=Tryz.prog) W7 (r + 1) 0 61 (fsC s9 V9).toList _ (fun j v hv=>by rw [cell_of_row _ _ _ _ _ _ hr7]; simpa using hv) Tryz.underlying61 rfl (by rw [Array.length_toList,fsC_size]; exact i31)
            rw [Array.toArray_toList] at hlv
            refine bodyPost_ret (v:=.tuple #[.agg (fsC s9 V9),.int .i64 e9]) (by simp [results,Tryz.results90,asAddr,Act.put,hlv,Result.andThen]) rfl ?_
            rw [HV.out]
            exact ⟨_,rfl,hls.finM HRR.out HMM.out hm7⟩
          · obtain ⟨m',hm'⟩:∃ m',m=m' + 1:=⟨m - 1,by omega⟩
            obtain ⟨c1,hc1⟩:∃ c1,c + 1=c1:=⟨_,rfl⟩
            have HMM:Hid (c1 + m'=9∧m' ≤ 8 - keep∧c < c1∧c ≤ 8):=by show _∧_∧_∧_; omega
            have HMW:Hid (IntKind.i64.wrap ((c:Int) + 1)=(c1:Int)):=by show _=_; rw [IntKind.wrap_i64] <;> omega
            have e8:8 - m'=c:=by omega
            obtain ⟨th,hth⟩:∃ th,thereM s8 (oldN c)=th:=⟨_,rfl⟩
            obtain ⟨s9,e9,hrn⟩:∃ s9 e9,removeM s8 (oldN c)=(s9,e9):=⟨_,_,rfl⟩
            have HRS:Hid (remsM (8 - keep) s3=if th=true then andM (s9,e9) (remsM m') else remsM m' s8):=by
              show _=_
              rw [heq,hm']
              have:remsM (m' + 1) s8=if thereM s8 (oldN (8 - m')) then andM (removeM s8 (oldN (8 - m'))) (remsM m') else remsM m' s8:=rfl
              rw [this,e8,← hth,← hrn]
            have HTH:Hid (∀ W,Below wr.heap.size wr W → Calls Tryz.prog 132 #[.agg (fsC s8 V8),.string (oldN c)] W fun e w'=>e=.returned (.bool th)∧Below W.heap.size W w'):=fun W hW=>by
              have:=rthere_any hI8 (by have:=HIB.out; omega) (oldN c) (by rw [old_size]; decide) W (hls.at_.on hW)
              rw [hth] at this
              exact this
            have HI9:Hid (Inv s9 (i + 32791 + (8 - keep - m'))):=by
              have:=hI8.remove (oldN c)
              rw [hrn] at this
              exact this.more (by omega)
            have HI8:Hid (Inv s8 (i + 32791 + (8 - keep - m'))):=hI8.more (by omega)
            have HOL:Hid (∀ W,Calls Tryz.prog 96 #[.int .i64 (c:Int)] W fun e w'=>e=.returned (.string (oldN c))∧Below W.heap.size W w'):=fun W=>rolder_any c (by omega) (by omega) W
            have HRQ:Hid (∀ W,FsAt s8 V8 W → Calls Tryz.prog 94 #[.agg (fsC s8 V8),.string (oldN c)] W fun e w'=>∃ V1 C1,C1=fsC s9 V1∧e=.returned (.tuple #[.agg C1,.int .i64 e9])∧Made s8 V8 W s9 V1 w'):=fun W hW=>by
              have:=rremove_i hI8 (by have:=HIB.out; omega) (oldN c) (by rw [old_size]; decide) W hW
              rw [hrn] at this
              refine Calls.mono this ?_
              rintro e w' ⟨V1,rfl,hM⟩
              exact ⟨V1,_,rfl,rfl,hM⟩
            have HL2:Hid (LS w s V r Z s8 V8 wr):=hls
            have hc8:(c:Int) ≤ 8:=by omega
            obtain ⟨C,hC⟩:∃ C,C=fsC s8 V8:=⟨_,rfl⟩
            have HCS:Hid (C.size=9):=by show _=_; rw [hC]; rfl
            have HRD:Hid (∀ W,Below wr.heap.size wr W → W.heap[r]?=some (.cells C 61)):=fun W hW=>by rw [hC]; exact keep_row hls.row hW
            have HCC:Hid (C=fsC s8 V8):=hC
            rw [← hC] at HTH
            clear hC hls hI8 heq hrn hth hm hm' hc1 hm0 e8 hcm
            go_wp2_with fail
            have hcur:Below wr.heap.size wr wr.drew:=(Below.refl _ wr).drew
            refine wp_region_held_drew (S:=fun W:World=>W.rangeAt r 0 C.toList) (by kernel_rfl) (range_row (HRD.out _ hcur)) (fun hHeld=>?_)
            refine wpAnyH_take (i:=0) (oi:={ dst:=some 51,op:=Op.load 61 (Operand.tmp 3),type:=61,pos:= "ref.go:91",after:=#[],guard:=none }) (v:=.agg C) rfl (by kernel_rfl) (by kernel_rfl) (by kernel_rfl) (fun _ _ _ h=>h) (ylF C r _ rfl rfl (fun _ h=>h) HCS.out) (by assumption) ?_
            try simp only [Act.put,List.setIfInBounds_toArray,List.set_cons_zero,List.set_cons_succ]
            refine wpAnyH_take (i:=1) (oi:={ dst:=some 52,op:=Op.move (Operand.tmp 9),type:=3,pos:= "ref.go:91",after:=#[],guard:=none }) (v:=.int .i64 (c:Int)) rfl (by kernel_rfl) (by kernel_rfl) (by kernel_rfl) (fun _ _ _ h=>h) (Or.inl ⟨by rfl,?y1⟩) (by assumption) ?_
            case y1=>(intro w hSw; (try dsimp only at hSw); first | (go_simp; done) | (go_simp; with_reducible rfl) | (go_simp; rfl))
            try simp only [Act.put,List.setIfInBounds_toArray,List.set_cons_zero,List.set_cons_succ]
            refine wpAnyH_ready (rs:=[2]) (by kernel_rfl) (by simp) ?_
            refine AllReadyH.cons (o:={ dst:=some 53,op:=Op.call { callee:=Callee.value (Operand.func 96),args:=#[Operand.tmp 52],argTypes:=#[3] },type:=9,pos:= "ref.go:91",after:=#[{ on:=1,ground:=Ground.data }],guard:=none }) rfl (fun K hK=>?_) AllReadyH.nil
            first | (go_at_call 96; refine (show Calls _ _ _ _ _ from HOL.out _).mono ?_; rintro e wo ⟨rfl,hbo⟩; have hcur:=hcur.trans (hbo.mono hcur.size)) | (go_simp; go_at_call 96; refine (show Calls _ _ _ _ _ from HOL.out _).mono ?_; rintro e wo ⟨rfl,hbo⟩; have hcur:=hcur.trans (hbo.mono hcur.size))
            refine hK.out _ _ (range_row (HRD.out _ hcur)) (fun hHeld=>?_)
            clear hK K
            try simp only [Act.put,List.setIfInBounds_toArray,List.set_cons_zero,List.set_cons_succ]
            refine wpAnyH_ready (rs:=[3]) (by kernel_rfl) (by simp) ?_
            refine AllReadyH.cons (o:={ dst:=some 54,op:=Op.call { callee:=Callee.value (Operand.func 132),args:=#[Operand.tmp 51,Operand.tmp 53],argTypes:=#[61,9] },type:=4,pos:= "ref.go:91",after:=#[{ on:=0,ground:=Ground.data },{ on:=2,ground:=Ground.data },{ on:=2,ground:=Ground.chain }],guard:=none }) rfl (fun K hK=>?_) AllReadyH.nil
            first | (go_at_call 132; refine (show Calls _ _ _ _ _ from HTH.out _ hcur).mono ?_; rintro e wo ⟨rfl,hbo⟩; have hcur:=hcur.trans (hbo.mono hcur.size)) | (go_simp; go_at_call 132; refine (show Calls _ _ _ _ _ from HTH.out _ hcur).mono ?_; rintro e wo ⟨rfl,hbo⟩; have hcur:=hcur.trans (hbo.mono hcur.size))
            refine hK.out _ _ (range_row (HRD.out _ hcur)) (fun hHeld=>?_)
            clear hK K
            try simp only [Act.put,List.setIfInBounds_toArray,List.set_cons_zero,List.set_cons_succ]
            refine wpAnyH_done (by kernel_rfl) ?_ _
            have HL3:Hid (LS w s V r Z s8 V8 _):=HL2.out.on hcur
            clear hcur hHeld HL2 HRD HTH
            obtain ⟨W9,hW9⟩:∃ W9,W9=wo:=⟨_,rfl⟩
            rw [← hW9] at HL3 ⊢
            clear hW9
            cases th with
            | false =>
              have HE2:Hid (remsM (8 - keep) s3=remsM m' s8):=by show _=_; rw [HRS.out]; rfl
              have hmw:=HMW.out
              clear HRS
              go_wp2
              go_roundw
              case rel=>exact ⟨m',c1,s8,V8,HMM.out.1,HMM.out.2.1,rfl,HL3.out,HI8.out,HE2.out⟩
              case measure=>have:=HMM.out.2.2; simp [intOf]; omega
            | true =>
              have HST:Hid (remsM (8 - keep) s3=andM (s9,e9) (remsM m')):=by show _=_; rw [HRS.out]; rfl
              have HL2:Hid (LS w s V r Z s8 V8 W9):=HL3.out
              have HRD:Hid (∀ W,Below W9.heap.size W9 W → W.heap[r]?=some (.cells C 61)):=fun W hW=>by rw [HCC.out]; exact keep_row HL3.out.row hW
              have HRN:Hid (∀ W,Below W9.heap.size W9 W → Calls Tryz.prog 94 #[.agg C,.string (oldN c)] W fun e w'=>∃ V1 C1,C1=fsC s9 V1∧e=.returned (.tuple #[.agg C1,.int .i64 e9])∧Made s8 V8 W s9 V1 w'):=fun W hW=>by rw [HCC.out]; exact HRQ.out W (HL3.out.at_.on hW)
              clear HRS HL3 HRQ HCC
              go_wp2_with fail
              have hcur:Below W9.heap.size W9 W9.drew:=(Below.refl _ W9).drew
              refine wp_region_held_drew (S:=fun _:World=>True) (by kernel_rfl) (trivial) (fun hHeld=>?_)
              refine wpAnyH_take (i:=1) (oi:={ dst:=some 57,op:=Op.move (Operand.tmp 9),type:=3,pos:= "ref.go:92",after:=#[],guard:=none }) (v:=.int .i64 (c:Int)) rfl (by kernel_rfl) (by kernel_rfl) (by kernel_rfl) (fun _ _ _ h=>h) (Or.inl ⟨by rfl,?y1⟩) (by assumption) ?_
              case y1=>(intro w hSw; (try dsimp only at hSw); first | (go_simp; done) | (go_simp; with_reducible rfl) | (go_simp; rfl))
              try simp only [Act.put,List.setIfInBounds_toArray,List.set_cons_zero,List.set_cons_succ]
              refine wpAnyH_ready (rs:=[0,2]) (by kernel_rfl) (by simp) ?_
              refine AllReadyH.cons (o:={ dst:=some 56,op:=Op.load 61 (Operand.tmp 3),type:=61,pos:= "ref.go:92",after:=#[],guard:=none }) rfl (fun K hK=>?_) (AllReadyH.cons (o:={ dst:=some 58,op:=Op.call { callee:=Callee.value (Operand.func 96),args:=#[Operand.tmp 57],argTypes:=#[3] },type:=9,pos:= "ref.go:92",after:=#[{ on:=1,ground:=Ground.data }],guard:=none }) rfl (fun K hK=>?_) AllReadyH.nil)
              · refine rdL C r _ (by rfl) rfl rfl (HRD.out _ hcur) HCS.out ?_
                refine hK.out _ _ (trivial) (fun hHeld=>?_)
                clear hK K
                try simp only [Act.put,List.setIfInBounds_toArray,List.set_cons_zero,List.set_cons_succ]
                refine wpAnyH_ready (rs:=[2]) (by kernel_rfl) (by simp) ?_
                refine AllReadyH.cons (o:={ dst:=some 58,op:=Op.call { callee:=Callee.value (Operand.func 96),args:=#[Operand.tmp 57],argTypes:=#[3] },type:=9,pos:= "ref.go:92",after:=#[{ on:=1,ground:=Ground.data }],guard:=none }) rfl (fun K hK=>?_) AllReadyH.nil
                first | (go_at_call 96; refine (show Calls _ _ _ _ _ from HOL.out _).mono ?_; rintro e wo ⟨rfl,hbo⟩; have hcur:=hcur.trans (hbo.mono hcur.size)) | (go_simp; go_at_call 96; refine (show Calls _ _ _ _ _ from HOL.out _).mono ?_; rintro e wo ⟨rfl,hbo⟩; have hcur:=hcur.trans (hbo.mono hcur.size))
                refine hK.out _ _ (trivial) (fun hHeld=>?_)
                clear hK K
                try simp only [Act.put,List.setIfInBounds_toArray,List.set_cons_zero,List.set_cons_succ]
                refine wpAnyH_ready (rs:=[3]) (by kernel_rfl) (by simp) ?_
                refine AllReadyH.cons (o:={ dst:=some 59,op:=Op.call { callee:=Callee.value (Operand.func 94),args:=#[Operand.tmp 56,Operand.tmp 58],argTypes:=#[61,9] },type:=103,pos:= "ref.go:92",after:=#[{ on:=0,ground:=Ground.data },{ on:=2,ground:=Ground.data },{ on:=2,ground:=Ground.chain }],guard:=none }) rfl (fun K hK=>?_) AllReadyH.nil
                first | (go_at_call 94; refine (show Calls _ _ _ _ _ from HRN.out _ hcur).mono ?_; rintro e wf ⟨V9,C1,hC1,rfl,hM⟩) | (go_simp; go_at_call 94; refine (show Calls _ _ _ _ _ from HRN.out _ hcur).mono ?_; rintro e wf ⟨V9,C1,hC1,rfl,hM⟩)
                refine hK.out _ _ (trivial) (fun hHeld=>?_)
                clear hK K
                try simp only [Act.put,List.setIfInBounds_toArray,List.set_cons_zero,List.set_cons_succ]
                refine wpAnyH_take (i:=4) (oi:={ dst:=some 55,op:=Op.move (Operand.tmp 59),type:=103,pos:= "ref.go:92",after:=#[{ on:=3,ground:=Ground.data }],guard:=none }) (v:=.tuple #[.agg C1,.int .i64 e9]) rfl (by kernel_rfl) (by kernel_rfl) (by kernel_rfl) (fun _ _ _ h=>h) (Or.inl ⟨by rfl,?y4⟩) (by assumption) ?_
                case y4=>(intro w hSw; (try dsimp only at hSw); first | (go_simp; done) | (go_simp; with_reducible rfl) | (go_simp; rfl))
                try simp only [Act.put,List.setIfInBounds_toArray,List.set_cons_zero,List.set_cons_succ]
                refine wpAnyH_take (i:=5) (oi:={ dst:=some 60,op:=Op.extract (Operand.tmp 55) 0,type:=61,pos:= "ref.go:92",after:=#[{ on:=4,ground:=Ground.data }],guard:=none }) (v:=.agg C1) rfl (by kernel_rfl) (by kernel_rfl) (by kernel_rfl) (fun _ _ _ h=>h) (Or.inl ⟨by rfl,?y5⟩) (by assumption) ?_
                case y5=>(intro w hSw; (try dsimp only at hSw); first | (go_simp; done) | (go_simp; with_reducible rfl) | (go_simp; rfl))
                try simp only [Act.put,List.setIfInBounds_toArray,List.set_cons_zero,List.set_cons_succ]
                refine wpAnyH_take (i:=6) (oi:={ dst:=some 61,op:=Op.extract (Operand.tmp 55) 1,type:=3,pos:= "ref.go:92",after:=#[{ on:=4,ground:=Ground.data },{ on:=7,ground:=Ground.gcOnly Departure.lateStores }],guard:=none }) (v:=.int .i64 e9) rfl (by kernel_rfl) (by kernel_rfl) (by kernel_rfl) (fun _ _ _ h=>h) (Or.inl ⟨by rfl,?y6⟩) (by assumption) ?_
                case y6=>(intro w hSw; (try dsimp only at hSw); first | (go_simp; done) | (go_simp; with_reducible rfl) | (go_simp; rfl))
                try simp only [Act.put,List.setIfInBounds_toArray,List.set_cons_zero,List.set_cons_succ]
                refine wpAnyH_ready (rs:=[7]) (by kernel_rfl) (by simp) ?_
                refine AllReadyH.cons (o:={ dst:=none,op:=Op.store 61 (Operand.tmp 3) (Operand.tmp 60),type:=0,pos:= "ref.go:92",after:=#[{ on:=5,ground:=Ground.data },{ on:=3,ground:=Ground.chain },{ on:=0,ground:=Ground.phase },{ on:=1,ground:=Ground.phase },{ on:=2,ground:=Ground.phase },{ on:=3,ground:=Ground.phase },{ on:=4,ground:=Ground.phase },{ on:=5,ground:=Ground.phase },{ on:=6,ground:=Ground.textOnly Departure.lateStores }],guard:=none }) rfl (fun K hK=>?_) AllReadyH.nil
                refine rdF r C1 C _ _ (by rfl) rfl rfl rfl (by rw [hC1]; rfl) (by rw [hC1]; exact fsC_one hM.at_) HCS.out (keep_row (HRD.out _ hcur) hM.bel) ?_; intro W6 hr6 hm6
                refine hK.out _ _ (trivial) (fun hHeld=>?_)
                clear hK K
                try simp only [Act.put,List.setIfInBounds_toArray,List.set_cons_zero,List.set_cons_succ]
                refine wpAnyH_take (i:=8) (oi:={ dst:=some 8,op:=Op.assign (Operand.tmp 61),type:=3,pos:= "ref.go:92",after:=#[{ on:=6,ground:=Ground.data },{ on:=7,ground:=Ground.chain },{ on:=0,ground:=Ground.phase },{ on:=1,ground:=Ground.phase },{ on:=2,ground:=Ground.phase },{ on:=3,ground:=Ground.phase },{ on:=4,ground:=Ground.phase },{ on:=5,ground:=Ground.phase },{ on:=6,ground:=Ground.phase },{ on:=7,ground:=Ground.phase }],guard:=none }) (v:=.int .i64 e9) rfl (by kernel_rfl) (by kernel_rfl) (by kernel_rfl) (fun _ _ _ h=>h) (Or.inl ⟨by rfl,?y8⟩) (by assumption) ?_
                case y8=>(intro w hSw; (try dsimp only at hSw); first | (go_simp; done) | (go_simp; with_reducible rfl) | (go_simp; rfl))
                try simp only [Act.put,List.setIfInBounds_toArray,List.set_cons_zero,List.set_cons_succ]
                refine wpAnyH_done (by kernel_rfl) ?_ _
                rw [hC1] at hr6
                have hls:=(HL2.out.on hcur).made hM hr6 hm6
                clear hC1 hM hr6 hm6 hcur hHeld
                by_cases h1:e9=0
                · subst h1
                  have HE2:Hid (remsM (8 - keep) s3=remsM m' s9):=by
                    show _=_
                    rw [HST.out]
                    rfl
                  have HLn:Hid (LS w s V r Z s9 V9 _):=hls
                  clear hls HST
                  have hmw:=HMW.out
                  go_wp2
                  go_roundw
                  case rel=>exact ⟨m',c1,s9,V9,HMM.out.1,HMM.out.2.1,rfl,HLn.out,HI9.out,HE2.out⟩
                  case measure=>have:=HMM.out.2.2; simp [intOf]; omega
                · have HV:Hid (stepsM s t keep=(s9,e9)):=by
                    show _=_
                    have h5:andM (s9,e9) (remsM m')=(s9,e9):=andM_no h1
                    rw [HKE.out,HST.out,h5]
                    exact andM_no h1
                  have heb:(e9 != 0)=true:=bne_iff_ne.mpr h1
                  clear h1 HST HKE
                  go_wp2_with (first | refine ldF (fsC s9 V9) r _ rfl rfl rfl hls.row rfl ?_ | (refine stF rfl _ _ rfl (r + 1) (fsC s9 V9) Z rfl rfl rfl (fsC_one hls.at_) HZS.out hls.res ?_; intro W7 hr7 hm7))
                  have hlv:=run_loadVar_mid (P:=Tryz.prog) W7 (r + 1) 0 61 (fsC s9 V9).toList _ (fun j v hv=>by rw [cell_of_row _ _ _ _ _ _ hr7]; simpa using hv) Tryz.underlying61 rfl (by rw [Array.length_toList,fsC_size]; exact i31)
                  rw [Array.toArray_toList] at hlv
                  refine bodyPost_ret (v:=.tuple #[.agg (fsC s9 V9),.int .i64 e9]) (by simp [results,Tryz.results90,asAddr,Act.put,hlv,Result.andThen]) rfl ?_
                  rw [HV.out]
                  exact ⟨_,rfl,hls.fin HRR.out hm7⟩
              · first | (go_at_call 96; refine (show Calls _ _ _ _ _ from HOL.out _).mono ?_; rintro e wo ⟨rfl,hbo⟩; have hcur:=hcur.trans (hbo.mono hcur.size)) | (go_simp; go_at_call 96; refine (show Calls _ _ _ _ _ from HOL.out _).mono ?_; rintro e wo ⟨rfl,hbo⟩; have hcur:=hcur.trans (hbo.mono hcur.size))
                refine hK.out _ _ (trivial) (fun hHeld=>?_)
                clear hK K
                try simp only [Act.put,List.setIfInBounds_toArray,List.set_cons_zero,List.set_cons_succ]
                refine wpAnyH_ready (rs:=[0]) (by kernel_rfl) (by simp) ?_
                refine AllReadyH.cons (o:={ dst:=some 56,op:=Op.load 61 (Operand.tmp 3),type:=61,pos:= "ref.go:92",after:=#[],guard:=none }) rfl (fun K hK=>?_) AllReadyH.nil
                refine rdL C r _ (by rfl) rfl rfl (HRD.out _ hcur) HCS.out ?_
                refine hK.out _ _ (trivial) (fun hHeld=>?_)
                clear hK K
                try simp only [Act.put,List.setIfInBounds_toArray,List.set_cons_zero,List.set_cons_succ]
                refine wpAnyH_ready (rs:=[3]) (by kernel_rfl) (by simp) ?_
                refine AllReadyH.cons (o:={ dst:=some 59,op:=Op.call { callee:=Callee.value (Operand.func 94),args:=#[Operand.tmp 56,Operand.tmp 58],argTypes:=#[61,9] },type:=103,pos:= "ref.go:92",after:=#[{ on:=0,ground:=Ground.data },{ on:=2,ground:=Ground.data },{ on:=2,ground:=Ground.chain }],guard:=none }) rfl (fun K hK=>?_) AllReadyH.nil
                first | (go_at_call 94; refine (show Calls _ _ _ _ _ from HRN.out _ hcur).mono ?_; rintro e wf ⟨V9,C1,hC1,rfl,hM⟩) | (go_simp; go_at_call 94; refine (show Calls _ _ _ _ _ from HRN.out _ hcur).mono ?_; rintro e wf ⟨V9,C1,hC1,rfl,hM⟩)
                refine hK.out _ _ (trivial) (fun hHeld=>?_)
                clear hK K
                try simp only [Act.put,List.setIfInBounds_toArray,List.set_cons_zero,List.set_cons_succ]
                refine wpAnyH_take (i:=4) (oi:={ dst:=some 55,op:=Op.move (Operand.tmp 59),type:=103,pos:= "ref.go:92",after:=#[{ on:=3,ground:=Ground.data }],guard:=none }) (v:=.tuple #[.agg C1,.int .i64 e9]) rfl (by kernel_rfl) (by kernel_rfl) (by kernel_rfl) (fun _ _ _ h=>h) (Or.inl ⟨by rfl,?y4⟩) (by assumption) ?_
                case y4=>(intro w hSw; (try dsimp only at hSw); first | (go_simp; done) | (go_simp; with_reducible rfl) | (go_simp; rfl))
                try simp only [Act.put,List.setIfInBounds_toArray,List.set_cons_zero,List.set_cons_succ]
                refine wpAnyH_take (i:=5) (oi:={ dst:=some 60,op:=Op.extract (Operand.tmp 55) 0,type:=61,pos:= "ref.go:92",after:=#[{ on:=4,ground:=Ground.data }],guard:=none }) (v:=.agg C1) rfl (by kernel_rfl) (by kernel_rfl) (by kernel_rfl) (fun _ _ _ h=>h) (Or.inl ⟨by rfl,?y5⟩) (by assumption) ?_
                case y5=>(intro w hSw; (try dsimp only at hSw); first | (go_simp; done) | (go_simp; with_reducible rfl) | (go_simp; rfl))
                try simp only [Act.put,List.setIfInBounds_toArray,List.set_cons_zero,List.set_cons_succ]
                refine wpAnyH_take (i:=6) (oi:={ dst:=some 61,op:=Op.extract (Operand.tmp 55) 1,type:=3,pos:= "ref.go:92",after:=#[{ on:=4,ground:=Ground.data },{ on:=7,ground:=Ground.gcOnly Departure.lateStores }],guard:=none }) (v:=.int .i64 e9) rfl (by kernel_rfl) (by kernel_rfl) (by kernel_rfl) (fun _ _ _ h=>h) (Or.inl ⟨by rfl,?y6⟩) (by assumption) ?_
                case y6=>(intro w hSw; (try dsimp only at hSw); first | (go_simp; done) | (go_simp; with_reducible rfl) | (go_simp; rfl))
                try simp only [Act.put,List.setIfInBounds_toArray,List.set_cons_zero,List.set_cons_succ]
                refine wpAnyH_ready (rs:=[7]) (by kernel_rfl) (by simp) ?_
                refine AllReadyH.cons (o:={ dst:=none,op:=Op.store 61 (Operand.tmp 3) (Operand.tmp 60),type:=0,pos:= "ref.go:92",after:=#[{ on:=5,ground:=Ground.data },{ on:=3,ground:=Ground.chain },{ on:=0,ground:=Ground.phase },{ on:=1,ground:=Ground.phase },{ on:=2,ground:=Ground.phase },{ on:=3,ground:=Ground.phase },{ on:=4,ground:=Ground.phase },{ on:=5,ground:=Ground.phase },{ on:=6,ground:=Ground.textOnly Departure.lateStores }],guard:=none }) rfl (fun K hK=>?_) AllReadyH.nil
                refine rdF r C1 C _ _ (by rfl) rfl rfl rfl (by rw [hC1]; rfl) (by rw [hC1]; exact fsC_one hM.at_) HCS.out (keep_row (HRD.out _ hcur) hM.bel) ?_; intro W6 hr6 hm6
                refine hK.out _ _ (trivial) (fun hHeld=>?_)
                clear hK K
                try simp only [Act.put,List.setIfInBounds_toArray,List.set_cons_zero,List.set_cons_succ]
                refine wpAnyH_take (i:=8) (oi:={ dst:=some 8,op:=Op.assign (Operand.tmp 61),type:=3,pos:= "ref.go:92",after:=#[{ on:=6,ground:=Ground.data },{ on:=7,ground:=Ground.chain },{ on:=0,ground:=Ground.phase },{ on:=1,ground:=Ground.phase },{ on:=2,ground:=Ground.phase },{ on:=3,ground:=Ground.phase },{ on:=4,ground:=Ground.phase },{ on:=5,ground:=Ground.phase },{ on:=6,ground:=Ground.phase },{ on:=7,ground:=Ground.phase }],guard:=none }) (v:=.int .i64 e9) rfl (by kernel_rfl) (by kernel_rfl) (by kernel_rfl) (fun _ _ _ h=>h) (Or.inl ⟨by rfl,?y8⟩) (by assumption) ?_
                case y8=>(intro w hSw; (try dsimp only at hSw); first | (go_simp; done) | (go_simp; with_reducible rfl) | (go_simp; rfl))
                try simp only [Act.put,List.setIfInBounds_toArray,List.set_cons_zero,List.set_cons_succ]
                refine wpAnyH_done (by kernel_rfl) ?_ _
                rw [hC1] at hr6
                have hls:=(HL2.out.on hcur).made hM hr6 hm6
                clear hC1 hM hr6 hm6 hcur hHeld
                by_cases h1:e9=0
                · subst h1
                  have HE2:Hid (remsM (8 - keep) s3=remsM m' s9):=by
                    show _=_
                    rw [HST.out]
                    rfl
                  have HLn:Hid (LS w s V r Z s9 V9 _):=hls
                  clear hls HST
                  have hmw:=HMW.out
                  go_wp2
                  go_roundw
                  case rel=>exact ⟨m',c1,s9,V9,HMM.out.1,HMM.out.2.1,rfl,HLn.out,HI9.out,HE2.out⟩
                  case measure=>have:=HMM.out.2.2; simp [intOf]; omega
                · have HV:Hid (stepsM s t keep=(s9,e9)):=by
                    show _=_
                    have h5:andM (s9,e9) (remsM m')=(s9,e9):=andM_no h1
                    rw [HKE.out,HST.out,h5]
                    exact andM_no h1
                  have heb:(e9 != 0)=true:=bne_iff_ne.mpr h1
                  clear h1 HST HKE
                  go_wp2_with (first | refine ldF (fsC s9 V9) r _ rfl rfl rfl hls.row rfl ?_ | (refine stF rfl _ _ rfl (r + 1) (fsC s9 V9) Z rfl rfl rfl (fsC_one hls.at_) HZS.out hls.res ?_; intro W7 hr7 hm7))
                  have hlv:=run_loadVar_mid (P:=Tryz.prog) W7 (r + 1) 0 61 (fsC s9 V9).toList _ (fun j v hv=>by rw [cell_of_row _ _ _ _ _ _ hr7]; simpa using hv) Tryz.underlying61 rfl (by rw [Array.length_toList,fsC_size]; exact i31)
                  rw [Array.toArray_toList] at hlv
                  refine bodyPost_ret (v:=.tuple #[.agg (fsC s9 V9),.int .i64 e9]) (by simp [results,Tryz.results90,asAddr,Act.put,hlv,Result.andThen]) rfl ?_
                  rw [HV.out]
                  exact ⟨_,rfl,hls.fin HRR.out hm7⟩
      · have HV:Hid (stepsM s t keep=(s3,e3)):=by show _=_; rw [HK3.out]; exact andM_no h0
        have heb:(e3 != 0)=true:=bne_iff_ne.mpr h0
        clear h0 HK3
        go_wp2_with (first | refine ldF (fsC s3 V3) r _ rfl rfl rfl hls.row rfl ?_ | (refine stF rfl _ _ rfl (r + 1) (fsC s3 V3) Z rfl rfl rfl (fsC_one hls.at_) HZS.out hls.res ?_; intro W7 hr7 hm7))
        have hlv:=run_loadVar_mid (P:=Tryz.prog) W7 (r + 1) 0 61 (fsC s3 V3).toList _ (fun j v hv=>by rw [cell_of_row _ _ _ _ _ _ hr7]; simpa using hv) Tryz.underlying61 rfl (by rw [Array.length_toList,fsC_size]; exact i31)
        rw [Array.toArray_toList] at hlv
        refine bodyPost_ret (v:=.tuple #[.agg (fsC s3 V3),.int .i64 e3]) (by simp [results,Tryz.results90,asAddr,Act.put,hlv,Result.andThen]) rfl ?_
        rw [HV.out]
        exact ⟨_,rfl,hls.fin HRR.out hm7⟩
  · have HV:Hid (stepsM s t keep=(s1,e1)):=by show _=_; rw [HKR.out]; exact andM_no h0
    have heb:(e1 != 0)=true:=bne_iff_ne.mpr h0
    clear h0 HKR
    go_wp2_with (first | refine ldF (fsC s1 V1) r _ rfl rfl rfl hls.row rfl ?_ | (refine stF rfl _ _ rfl (r + 1) (fsC s1 V1) Z rfl rfl rfl (fsC_one hls.at_) HZS.out hls.res ?_; intro W7 hr7 hm7))
    have hlv:=run_loadVar_mid (P:=Tryz.prog) W7 (r + 1) 0 61 (fsC s1 V1).toList _ (fun j v hv=>by rw [cell_of_row _ _ _ _ _ _ hr7]; simpa using hv) Tryz.underlying61 rfl (by rw [Array.length_toList,fsC_size]; exact i31)
    rw [Array.toArray_toList] at hlv
    refine bodyPost_ret (v:=.tuple #[.agg (fsC s1 V1),.int .i64 e1]) (by simp [results,Tryz.results90,asAddr,Act.put,hlv,Result.andThen]) rfl ?_
    rw [HV.out]
    exact ⟨_,rfl,hls.fin HRR.out hm7⟩
end Go.Proofs.YtbgbmfmgdgalbaaGreatDoor
