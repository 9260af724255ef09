import Derived.Test.YtbgbmfmgdgalbaaGreatDoorM25
namespace Go.Proofs.YtbgbmfmgdgalbaaGreatDoor
open Go.RowKit
set_option linter.unusedVariables false
set_option linter.unusedSimpArgs false
set_option maxHeartbeats 4000000 in
set_option maxRecDepth 20000 in
theorem rsave_any {s:Fs} {V:FV} {i:Nat} {keep:Int} {t:ByteArray} (hI:Inv s i) (hk:-9223372036854775808 ≤ keep∧keep ≤ 9223372036854775807) (ht:t.size ≤ 140737488355328) (hi:i + 32830 ≤ 3298534883000) (w:World) (h:FsAt s V w):Calls Tryz.prog 51 #[.agg (fsC s V),.string t,.int .i64 keep] w (RP s V w (saveM s t keep)):=by
  have HI:Hid (Inv s i):=hI
  have HIB:Hid (i + 32830 ≤ 3298534883000):=hi
  have HSV:Hid (saveM s t keep=if keep < 0 ∨ 8 < keep then (s,1) else if 1073741824 < t.size then (s,2) else if (stepsM s t keep.toNat).2=0 then stepsM s t keep.toNat else (cleanM (cleanM (stepsM s t keep.toNat).1 tmpS) tmpO,(stepsM s t keep.toNat).2)):=rfl
  clear hI hi hk
  obtain ⟨Z,hZ⟩:∃ Z,Z=zF:=⟨_,rfl⟩
  have HZZ:Hid (Z=zF):=hZ
  have HZS:Hid (Z.size=9):=by show _=_; rw [hZ]; rfl
  clear hZ
  obtain ⟨W1,hW1⟩:∃ W1,W1=(w.alloc (.cells (fsC s V) 61)).alloc (.cells Z 61):=⟨_,rfl⟩
  have hls:=LS.start h Z
  rw [← hW1] at hls
  obtain ⟨r,hr⟩:∃ r,w.heap.size=r:=⟨_,rfl⟩
  have HRR:Hid (w.heap.size=r):=hr
  rw [hr] at hls
  clear h hr
  rw [show fsC s V=#[.bool s.down,.int .i64 (s.steps:Int),V.f,V.d,V.s,V.c,V.p,.int .i64 s.crash,V.k] from rfl] at hW1
  rw [show fsC s V=#[.bool s.down,.int .i64 (s.steps:Int),V.f,V.d,V.s,V.c,V.p,.int .i64 s.crash,V.k] from rfl]
  go_enter Tryz.func51,Tryz.ntmps51
  go_upto_region 1 with (refine alF rfl rfl Z HZZ.out ?_)
  try simp only [World.size_alloc]
  rw [← hW1,HRR.out]
  clear hW1
  by_cases hk:keep < 0 ∨ 8 < keep
  · have HV:Hid (saveM s t keep=(s,1)):=by show _=_; rw [HSV.out,if_pos hk]
    clear HSV
    by_cases hk1:keep < 0
    · clear hk
      go_wp2_with (first | refine ldF (fsC s V) r _ rfl rfl rfl hls.row rfl ?_ | (refine stF rfl _ _ rfl (r + 1) (fsC s V) Z rfl rfl rfl (fsC_one hls.at_) HZS.out hls.res ?_; intro W7 hr7 hm7))
      have hlv:=run_loadVar_mid (P:=Tryz.prog) W7 (r + 1) 0 61 (fsC s V).toList _ (fun j v hv=>by rw [cell_of_row _ _ _ _ _ _ hr7]; simpa using hv) Tryz.underlying61 rfl (by rw [Array.length_toList,fsC_size]; exact i31)
      rw [Array.toArray_toList] at hlv
      refine bodyPost_ret (v:=.tuple #[.agg (fsC s V),.int .i64 1]) (by simp [results,Tryz.results51,asAddr,Act.put,hlv,Result.andThen]) rfl ?_
      rw [HV.out]
      exact ⟨_,rfl,hls.fin HRR.out hm7⟩
    · have hk2:8 < keep:=by omega
      clear hk
      go_wp2_with (first | refine ldF (fsC s V) r _ rfl rfl rfl hls.row rfl ?_ | (refine stF rfl _ _ rfl (r + 1) (fsC s V) Z rfl rfl rfl (fsC_one hls.at_) HZS.out hls.res ?_; intro W7 hr7 hm7))
      have hlv:=run_loadVar_mid (P:=Tryz.prog) W7 (r + 1) 0 61 (fsC s V).toList _ (fun j v hv=>by rw [cell_of_row _ _ _ _ _ _ hr7]; simpa using hv) Tryz.underlying61 rfl (by rw [Array.length_toList,fsC_size]; exact i31)
      rw [Array.toArray_toList] at hlv
      refine bodyPost_ret (v:=.tuple #[.agg (fsC s V),.int .i64 1]) (by simp [results,Tryz.results51,asAddr,Act.put,hlv,Result.andThen]) rfl ?_
      rw [HV.out]
      exact ⟨_,rfl,hls.fin HRR.out hm7⟩
  · have hk1:¬ keep < 0:=by omega
    have hk2:¬ 8 < keep:=by omega
    obtain ⟨kn,hkn⟩:∃ kn:Nat,keep=(kn:Int):=⟨keep.toNat,by omega⟩
    subst hkn
    have HKN:Hid (kn ≤ 8):=by show _ ≤ _; omega
    by_cases hl:1073741824 < t.size
    · have HV:Hid (saveM s t (kn:Int)=(s,2)):=by show _=_; rw [HSV.out,if_neg hk,if_pos hl]
      have hl2:(1073741824:Int) < (t.size:Int):=by omega
      clear hk HSV
      go_wp2_with (first | refine ldF (fsC s V) r _ rfl rfl rfl hls.row rfl ?_ | (refine stF rfl _ _ rfl (r + 1) (fsC s V) Z rfl rfl rfl (fsC_one hls.at_) HZS.out hls.res ?_; intro W7 hr7 hm7))
      have hlv:=run_loadVar_mid (P:=Tryz.prog) W7 (r + 1) 0 61 (fsC s V).toList _ (fun j v hv=>by rw [cell_of_row _ _ _ _ _ _ hr7]; simpa using hv) Tryz.underlying61 rfl (by rw [Array.length_toList,fsC_size]; exact i31)
      rw [Array.toArray_toList] at hlv
      refine bodyPost_ret (v:=.tuple #[.agg (fsC s V),.int .i64 2]) (by simp [results,Tryz.results51,asAddr,Act.put,hlv,Result.andThen]) rfl ?_
      rw [HV.out]
      exact ⟨_,rfl,hls.fin HRR.out hm7⟩
    · have hl2:¬ (1073741824:Int) < (t.size:Int):=by omega
      obtain ⟨s1,e1,hst⟩:∃ s1 e1,stepsM s t kn=(s1,e1):=⟨_,_,rfl⟩
      have HSX:Hid (saveM s t (kn:Int)=if e1=0 then (s1,e1) else (cleanM (cleanM s1 tmpS) tmpO,e1)):=by show _=_; rw [HSV.out,if_neg hk,if_neg hl,Int.toNat_natCast,hst]
      have HST:Hid (∀ W,FsAt s V W → Calls Tryz.prog 90 #[.agg (fsC s V),.string t,.int .i64 (kn:Int)] W (RP s V W (s1,e1))):=fun W hW=>by
        have:=rsteps_any (t:=t) HI.out HKN.out (by omega) (by have:=HIB.out; omega) W hW
        rw [hst] at this
        exact this
      have HI1:Hid (Inv s1 (i + 32820)):=by
        have:=HI.out.steps (keep:=kn) (t:=t) HKN.out (by omega)
        rw [hst] at this
        exact this
      clear hk hl HSV hst
      go_upto_region 5 with fail
      go_wp2_with (refine ldF (fsC s V) r _ rfl rfl rfl hls.row rfl ?_)
      refine (show Calls _ _ _ _ _ from HST.out _ hls.at_).mono ?_
      rintro e w3 ⟨V1,rfl,hM⟩
      have HM:Hid (Made s V _ s1 V1 w3):=hM
      have HL0:Hid (LS w s V r Z s V _):=hls
      have H1c:Hid ((fsC s1 V1).all (·.oneCell')=true):=fsC_one hM.at_
      have HRW:Hid _:=keep_row hls.row hM.bel
      clear hM hls
      go_upto_region 6 with (refine stF rfl _ _ rfl r (fsC s1 V1) (fsC s V) rfl rfl rfl H1c.out rfl HRW.out ?_; intro W5 hr5 hm5)
      have hls:=HL0.out.made HM.out hr5 hm5
      clear hr5 hm5 HM HL0 H1c HRW
      clear HST
      by_cases h0:e1=0
      · have HV:Hid (saveM s t (kn:Int)=(s1,e1)):=by show _=_; rw [HSX.out,if_pos h0]
        subst h0
        clear HSX
        go_wp2_with (first | refine ldF (fsC s1 V1) r _ rfl rfl rfl hls.row rfl ?_ | (refine stF rfl _ _ rfl (r + 1) (fsC s1 V1) Z rfl rfl rfl (fsC_one hls.at_) HZS.out hls.res ?_; intro W7 hr7 hm7))
        have hlv:=run_loadVar_mid (P:=Tryz.prog) W7 (r + 1) 0 61 (fsC s1 V1).toList _ (fun j v hv=>by rw [cell_of_row _ _ _ _ _ _ hr7]; simpa using hv) Tryz.underlying61 rfl (by rw [Array.length_toList,fsC_size]; exact i31)
        rw [Array.toArray_toList] at hlv
        refine bodyPost_ret (v:=.tuple #[.agg (fsC s1 V1),.int .i64 0]) (by simp [results,Tryz.results51,asAddr,Act.put,hlv,Result.andThen]) rfl ?_
        rw [HV.out]
        exact ⟨_,rfl,hls.fin HRR.out hm7⟩
      · have HV:Hid (saveM s t (kn:Int)=(cleanM (cleanM s1 tmpS) tmpO,e1)):=by show _=_; rw [HSX.out,if_neg h0]
        have heb:(e1 != 0)=true:=bne_iff_ne.mpr h0
        obtain ⟨s2,hs2⟩:∃ s2,cleanM s1 tmpS=s2:=⟨_,rfl⟩
        obtain ⟨s3,hs3⟩:∃ s3,cleanM s2 tmpO=s3:=⟨_,rfl⟩
        have HC1:Hid (∀ W,FsAt s1 V1 W → Calls Tryz.prog 91 #[.agg (fsC s1 V1),.string { data:=#[116,101,109,112,45,115,97,118,101] }] W fun e w'=>∃ V',e=.returned (.agg (fsC s2 V'))∧Made s1 V1 W s2 V' w'):=fun W hW=>by
          have:=rclean_any HI1.out (by have:=HIB.out; omega) tmpS (by decide) W hW
          rw [hs2] at this
          exact this
        have HI2:Hid (Inv s2 (i + 32821)):=by
          have:=HI1.out.clean tmpS
          rw [hs2] at this
          exact this
        have HC2:Hid (∀ V2 W,FsAt s2 V2 W → Calls Tryz.prog 91 #[.agg (fsC s2 V2),.string { data:=#[116,101,109,112,45,111,108,100] }] W fun e w'=>∃ V',e=.returned (.agg (fsC s3 V'))∧Made s2 V2 W s3 V' w'):=fun V2 W hW=>by
          have:=rclean_any HI2.out (by have:=HIB.out; omega) tmpO (by decide) W hW
          rw [hs3] at this
          exact this
        have HVV:Hid (saveM s t (kn:Int)=(s3,e1)):=by show _=_; rw [HV.out,hs2,hs3]
        have HV:=HVV
        clear HVV h0 HSX hs2 hs3 HI1
        go_upto_region 7 with fail
        go_wp2_with (refine ldF (fsC s1 V1) r _ rfl rfl rfl hls.row rfl ?_)
        refine (show Calls _ _ _ _ _ from HC1.out _ hls.at_).mono ?_
        rintro e w5 ⟨V2,rfl,hM⟩
        have HM:Hid (Made s1 V1 _ s2 V2 w5):=hM
        have HL0:Hid (LS w s V r Z s1 V1 _):=hls
        have H1c:Hid ((fsC s2 V2).all (·.oneCell')=true):=fsC_one hM.at_
        have HRW:Hid _:=keep_row hls.row hM.bel
        clear hM hls
        go_upto_region 8 with (refine stF rfl _ _ rfl r (fsC s2 V2) (fsC s1 V1) rfl rfl rfl H1c.out rfl HRW.out ?_; intro W5 hr5 hm5)
        have hls:=HL0.out.made HM.out hr5 hm5
        clear hr5 hm5 HM HL0 H1c HRW
        clear HC1
        go_wp2_with (refine ldF (fsC s2 V2) r _ rfl rfl rfl hls.row rfl ?_)
        refine (show Calls _ _ _ _ _ from HC2.out _ _ hls.at_).mono ?_
        rintro e w7 ⟨V3,rfl,hM⟩
        have HM:Hid (Made s2 V2 _ s3 V3 w7):=hM
        have HL0:Hid (LS w s V r Z s2 V2 _):=hls
        have H1c:Hid ((fsC s3 V3).all (·.oneCell')=true):=fsC_one hM.at_
        have HRW:Hid _:=keep_row hls.row hM.bel
        clear hM hls
        go_upto_region 9 with (refine stF rfl _ _ rfl r (fsC s3 V3) (fsC s2 V2) rfl rfl rfl H1c.out rfl HRW.out ?_; intro W5 hr5 hm5)
        have hls:=HL0.out.made HM.out hr5 hm5
        clear hr5 hm5 HM HL0 H1c HRW
        clear HC2
        go_wp2_with (first | refine ldF (fsC s3 V3) r _ rfl rfl rfl hls.row rfl ?_ | (refine stF rfl _ _ rfl (r + 1) (fsC s3 V3) Z rfl rfl rfl (fsC_one hls.at_) HZS.out hls.res ?_; intro W7 hr7 hm7))
        have hlv:=run_loadVar_mid (P:=Tryz.prog) W7 (r + 1) 0 61 (fsC s3 V3).toList _ (fun j v hv=>by rw [cell_of_row _ _ _ _ _ _ hr7]; simpa using hv) Tryz.underlying61 rfl (by rw [Array.length_toList,fsC_size]; exact i31)
        rw [Array.toArray_toList] at hlv
        refine bodyPost_ret (v:=.tuple #[.agg (fsC s3 V3),.int .i64 e1]) (by simp [results,Tryz.results51,asAddr,Act.put,hlv,Result.andThen]) rfl ?_
        rw [HV.out]
        exact ⟨_,rfl,hls.fin HRR.out hm7⟩
end Go.Proofs.YtbgbmfmgdgalbaaGreatDoor
namespace Go.Proofs.YtbgbmfmgdgalbaaGreatDoor
open Go.RowKit
set_option linter.unusedVariables false
set_option linter.unusedSimpArgs false
def RP3 (s:Fs) (V:FV) (w:World) (R:Fs × Int × Int) (e:Ending) (w':World):Prop:=∃ V',e=.returned (.tuple #[.agg (fsC R.1 V'),.int .i64 R.2.1,.int .i64 R.2.2])∧Made s V w R.1 V' w'
theorem tlit:(⟨#[116,101,109,112,45]⟩:ByteArray).toList=[116,101,109,112,45]:=by decide +kernel
theorem rlist_i {s:Fs} {V:FV} {i:Nat} (h:Inv s i) (hi:i ≤ 3298534883000) (w:World) (ha:FsAt s V w):Calls Tryz.prog 93 #[.agg (fsC s V)] w fun e w'=>∃ PP ln lc,e=.returned (.tuple #[.slice PP ln lc,.int .i64 (listM s).2])∧ln=(listM s).1.length∧KR stE w' (.slice PP ln lc) (listM s).1∧NB (fun k=>k < w.heap.size) (.slice PP ln lc)∧Below w.heap.size w w':=by
  refine Calls.mono (list_any s V (h.bd hi) w ha) ?_
  rintro e w' ⟨v,rfl,h1,h2,h3⟩
  obtain ⟨PP,lc,rfl⟩:=h1.form
  exact ⟨PP,_,lc,rfl,rfl,h1,h2,h3⟩
theorem st_at {W:World} {PP:Option Addr} {n c m:Nat} {l:List ByteArray} (h:KR stE W (.slice PP n c) l) (hm:m < l.length):∃ b oo,PP=some ⟨b,oo,none⟩∧W.cell? ⟨b,oo + m,none⟩=some (.string (l[m]'hm)):=by
  obtain ⟨b,oo,c',he,hc⟩:=h.cell stOk hm
  injection he with h1 _ _
  refine ⟨b,oo,h1,?_⟩
  have h0:=hc 0 _ rfl
  have hk1:stE.k=1:=rfl
  rw [hk1,Nat.mul_one,Nat.add_zero] at h0
  exact h0
theorem tidys_step {l:List ByteArray} {j:Nat} (hj:j < l.length) (n:Nat) (F:Fs):tidysM (l.drop j) n F=if isTmp l[j] then (if (removeM F l[j]).2=0 then tidysM (l.drop (j + 1)) (n + 1) (removeM F l[j]).1 else ((removeM F l[j]).1,0,(removeM F l[j]).2)) else tidysM (l.drop (j + 1)) n F:=by
  rw [List.drop_eq_getElem_cons hj]
  rfl
theorem list_names {s:Fs} {i:Nat} (h:Inv s i):∀ x ∈ (listM s).1,x.size ≤ 64:=by
  obtain ⟨cf,hf⟩:=h.ok
  intro x hx
  unfold listM at hx
  split at hx
  · cases hx
  · obtain ⟨y,hy,rfl⟩:=List.mem_map.1 hx
    exact (named_size (hf.dir.nam y hy)).2
set_option maxHeartbeats 8000000 in
set_option maxRecDepth 20000 in
theorem rtidy_any {s:Fs} {V:FV} {i:Nat} (hI:Inv s i) (hi:i + 70 ≤ 3298534883000) (w:World) (h:FsAt s V w):Calls Tryz.prog 53 #[.agg (fsC s V)] w (RP3 s V w (tidyM s)):=by
  obtain ⟨l,el,hle⟩:∃ l el,listM s=(l,el):=⟨_,_,rfl⟩
  have HLI:Hid (∀ W,FsAt s V W → Calls Tryz.prog 93 #[.agg (fsC s V)] W fun e w'=>∃ PP ln lc,e=.returned (.tuple #[.slice PP ln lc,.int .i64 el])∧ln=l.length∧KR stE w' (.slice PP ln lc) l∧NB (fun k=>k < W.heap.size) (.slice PP ln lc)∧Below W.heap.size W w'):=fun W hW=>by
    have:=rlist_i hI (by omega) W hW
    rw [hle] at this
    exact this
  have HFW:Hid (l.length ≤ 64):=by have:=hI.few; rw [hle] at this; exact this
  have HNM:Hid (∀ x ∈ l,x.size ≤ 64):=by have:=list_names hI; rw [hle] at this; exact this
  have HI0:Hid (Inv s i):=hI
  have HTI:Hid (tidyM s=if el=0 then (if (tidysM l 0 s).2.2=0 then (if 0 < (tidysM l 0 s).2.1 then (if (syncDirM (tidysM l 0 s).1).2=0 then ((syncDirM (tidysM l 0 s).1).1,(tidysM l 0 s).2.1,0) else ((syncDirM (tidysM l 0 s).1).1,0,(syncDirM (tidysM l 0 s).1).2)) else tidysM l 0 s) else tidysM l 0 s) else (s,0,el)):=by show _=_; unfold tidyM; rw [hle]
  have HIB:Hid (i + 70 ≤ 3298534883000):=hi
  clear hI hi hle
  obtain ⟨Z,hZ⟩:∃ Z,Z=zF:=⟨_,rfl⟩
  have HZZ:Hid (Z=zF):=hZ
  have HZS:Hid (Z.size=9):=by show _=_; rw [hZ]; rfl
  clear hZ
  obtain ⟨W1,hW1⟩:∃ W1,W1=(w.alloc (.cells (fsC s V) 61)).alloc (.cells Z 61):=⟨_,rfl⟩
  have hls:=LS.start h Z
  rw [← hW1] at hls
  obtain ⟨r,hr⟩:∃ r,w.heap.size=r:=⟨_,rfl⟩
  have HRR:Hid (w.heap.size=r):=hr
  rw [hr] at hls
  clear h hr
  rw [show fsC s V=#[.bool s.down,.int .i64 (s.steps:Int),V.f,V.d,V.s,V.c,V.p,.int .i64 s.crash,V.k] from rfl] at hW1
  rw [show fsC s V=#[.bool s.down,.int .i64 (s.steps:Int),V.f,V.d,V.s,V.c,V.p,.int .i64 s.crash,V.k] from rfl]
  go_enter Tryz.func53,Tryz.ntmps53
  go_upto_region 1 with (refine alF rfl rfl Z HZZ.out ?_)
  try simp only [World.size_alloc]
  rw [← hW1,HRR.out]
  clear hW1
  go_wp2_with (refine ldF (fsC s V) r _ rfl rfl rfl hls.row rfl ?_)
  have HSZ0:Hid (r + 2 ≤ W1.heap.size):=hls.sz
  refine (show Calls _ _ _ _ _ from HLI.out _ hls.at_).mono ?_
  rintro e w2 ⟨PP,ln,lc,rfl,hln,hkr,hnb,hb2⟩
  have hls:=hls.on hb2
  have HKR:Hid (KR stE w2 (.slice PP ln lc) l):=hkr
  have HNB:Hid (NB (fun k=>k < W1.heap.size) (.slice PP ln lc)):=hnb
  have HLN:Hid (ln=l.length):=hln
  clear hb2 HLI hkr hnb hln
  by_cases h0:el=0
  · subst h0
    have HT1:Hid (tidyM s=if (tidysM l 0 s).2.2=0 then (if 0 < (tidysM l 0 s).2.1 then (if (syncDirM (tidysM l 0 s).1).2=0 then ((syncDirM (tidysM l 0 s).1).1,(tidysM l 0 s).2.1,0) else ((syncDirM (tidysM l 0 s).1).1,0,(syncDirM (tidysM l 0 s).1).2)) else tidysM l 0 s) else tidysM l 0 s):=by show _=_; rw [HTI.out]; exact if_pos rfl
    have HL1:Hid (LS w s V r Z s V w2):=hls
    clear hls HTI
    go_wp2
    go_loopw [7,8] (fun nv iv wr=>∃ (j cnt:Nat) (s2:Fs) (V2:FV),j ≤ ln∧cnt ≤ j∧nv=.int .i64 (cnt:Int)∧iv=.int .i64 (j:Int)∧LS w s V r Z s2 V2 wr∧Inv s2 (i + j)∧KR stE wr (.slice PP ln lc) l∧tidysM l 0 s=tidysM (l.drop j) cnt s2) (fun _ iv _=>ln - (intOf iv).toNat)
    case atStart=>exact ⟨0,0,s,V,Nat.zero_le _,Nat.le_refl _,rfl,rfl,HL1.out,HI0.out,HKR.out,by rw [List.drop_zero]⟩
    case round =>
      obtain ⟨j,cnt,s2,V2,hj,hc,rfl,rfl,hls,hI2,hkr,heq⟩:=hrel
      clear HL1 HKR
      by_cases hlt:j < ln
      · have hjl:j < l.length:=by have:=HLN.out; omega
        obtain ⟨x,hx⟩:∃ x,l[j]=x:=⟨_,rfl⟩
        obtain ⟨gb,oo,hP,hcx⟩:=st_at hkr hjl
        subst hP
        rw [hx] at hcx
        obtain ⟨j1,hj1⟩:∃ j1,j + 1=j1:=⟨_,rfl⟩
        obtain ⟨n1,hn1⟩:∃ n1,cnt + 1=n1:=⟨_,rfl⟩
        obtain ⟨s9,e9,hrn⟩:∃ s9 e9,removeM s2 x=(s9,e9):=⟨_,_,rfl⟩
        have HST:Hid (tidysM l 0 s=if isTmp x then (if e9=0 then tidysM (l.drop j1) n1 s9 else (s9,0,e9)) else tidysM (l.drop j1) cnt s2):=by
          show _=_
          rw [heq,tidys_step hjl,hx,hrn,hj1,hn1]
        have HXS:Hid (x.size ≤ 64):=HNM.out x (by rw [← hx]; exact List.getElem_mem hjl)
        have HI9:Hid (Inv s9 (i + j1)):=by
          have:=hI2.remove x
          rw [hrn] at this
          exact this.more (by omega)
        have HI2:Hid (Inv s2 (i + j1)):=hI2.more (by omega)
        have HRN0:Hid (∀ W,Below wr.heap.size wr W → Calls Tryz.prog 94 #[.agg (fsC s2 V2),.string x] W fun e w'=>∃ V1 C1,C1=fsC s9 V1∧e=.returned (.tuple #[.agg C1,.int .i64 e9])∧Made s2 V2 W s9 V1 w'):=fun W hW=>by
          have:=rremove_i hI2 (by have:=HIB.out; have:=HFW.out; have:=HLN.out; omega) x (by have:=HXS.out; omega) W (hls.at_.on hW)
          rw [hrn] at this
          refine Calls.mono this ?_
          rintro e w' ⟨V1,rfl,hM⟩
          exact ⟨V1,_,rfl,rfl,hM⟩
        have HGN:Hid (gb ≠ r):=fun e=>by have:=HNB.out gb oo _ _ rfl; have:=HSZ0.out; omega
        have HL2:Hid (LS w s V r Z s2 V2 wr):=hls
        have HKR:Hid (KR stE wr (.slice (some ⟨gb,oo,none⟩) ln lc) l):=hkr
        have HXD:Hid (∀ W,Below wr.heap.size wr W → W.cell? ⟨gb,oo + j,none⟩=some (.string x)):=fun W hW=>cell_on hcx hW
        have HJ:Hid (j1 ≤ ln∧cnt ≤ j1∧n1 ≤ j1∧j < j1):=by show _∧_∧_∧_; omega
        have hz3:(0:Int) ≤ (j:Int):=by omega
        have hz4:(j:Int) < (ln:Int):=by omega
        have HJW:Hid (IntKind.i64.wrap ((j:Int) + 1)=(j1:Int)):=by have:=HFW.out; have:=HLN.out; show _=_; rw [IntKind.wrap_i64] <;> omega
        have HNW:Hid (IntKind.i64.wrap ((cnt:Int) + 1)=(n1:Int)):=by have:=HFW.out; have:=HLN.out; show _=_; rw [IntKind.wrap_i64] <;> omega
        clear hls hI2 heq hrn hkr hx hj1 hn1 hj hc hlt hjl
        by_cases hs5:x.size < 5
        · have hs6:(x.size:Int) < 5:=by omega
          have hnt:isTmp x=false:=by unfold isTmp; rw [decide_eq_false (by omega)]; rfl
          have HE2:Hid (tidysM l 0 s=tidysM (l.drop j1) cnt s2):=by show _=_; rw [HST.out,hnt]; rfl
          have hjw:=HJW.out
          clear HST
          go_wp2
          go_roundw
          case rel=>exact ⟨j1,cnt,s2,V2,HJ.out.1,HJ.out.2.1,rfl,rfl,HL2.out,HI2.out,HKR.out,HE2.out⟩
          case measure=>have:=HJ.out; simp [intOf]; omega
        · have hs6:¬ (x.size:Int) < 5:=by omega
          have hs7:5 ≤ x.size:=by omega
          obtain ⟨px,hpx⟩:∃ px,x.extract 0 5=px:=⟨_,rfl⟩
          by_cases hpe:px=⟨#[116,101,109,112,45]⟩
          · have hnt:isTmp x=true:=by unfold isTmp; rw [decide_eq_true hs7,hpx,hpe]; rfl
            have hcmp:(px.toList == [116,101,109,112,45])=true:=by rw [← tlit]; exact str_same (by rw [hpe])
            have HTT:Hid (isTmp x=true):=hnt
            clear hnt hpe
            go_wp2_with fail
            have hls:=HL2.out
            obtain ⟨C,hC⟩:∃ C,C=fsC s2 V2:=⟨_,rfl⟩
            have HCS:Hid (C.size=9):=by show _=_; rw [hC]; rfl
            have HRD:Hid (∀ W,Below wr.heap.size wr W → W.heap[r]?=some (.cells C 61)):=fun W hW=>by rw [hC]; exact keep_row hls.row hW
            have HRN:=HRN0
            rw [← hC] at HRN
            clear hC hls HRN0 hcx hcmp hs5 hs6 hpx
            have hcur:Below wr.heap.size wr wr.drew:=(Below.refl _ wr).drew
            refine wp_region_held_drew (S:=fun W:World=>W.cell? ⟨gb,oo + j,none⟩=some (.string x)) (by kernel_rfl) (HXD.out _ hcur) (fun hHeld=>?_)
            refine wpAnyH_take (i:=1) (oi:={ dst:=some 40,op:=Op.move (Operand.tmp 5),type:=22,pos:= "ref.go:133",after:=#[],guard:=none }) (v:=.slice (some ⟨gb,oo,none⟩) ln lc) rfl (by kernel_rfl) (by kernel_rfl) (by kernel_rfl) (fun _ _ _ h=>h) (Or.inl ⟨by rfl,?y1⟩) (by assumption) ?_
            case y1=>(intro w hSw; (try dsimp only at hSw); first | (go_simp; done) | (go_simp; with_reducible rfl) | (go_simp; rfl))
            try simp only [Act.put,List.setIfInBounds_toArray,List.set_cons_zero,List.set_cons_succ]
            refine wpAnyH_take (i:=2) (oi:={ dst:=some 41,op:=Op.move (Operand.tmp 8),type:=3,pos:= "ref.go:133",after:=#[],guard:=none }) (v:=.int .i64 (j:Int)) rfl (by kernel_rfl) (by kernel_rfl) (by kernel_rfl) (fun _ _ _ h=>h) (Or.inl ⟨by rfl,?y2⟩) (by assumption) ?_
            case y2=>(intro w hSw; (try dsimp only at hSw); first | (go_simp; done) | (go_simp; with_reducible rfl) | (go_simp; rfl))
            try simp only [Act.put,List.setIfInBounds_toArray,List.set_cons_zero,List.set_cons_succ]
            refine wpAnyH_take (i:=3) (oi:={ dst:=some 42,op:=Op.indexAddr 22 (Operand.tmp 40) (Operand.tmp 41),type:=0,pos:= "ref.go:133",after:=#[{ on:=1,ground:=Ground.data },{ on:=2,ground:=Ground.data }],guard:=none }) (v:=.pointer (some ⟨gb,oo + j,none⟩)) rfl (by kernel_rfl) (by kernel_rfl) (by kernel_rfl) (fun _ _ _ h=>h) (Or.inl ⟨by rfl,?y3⟩) (by assumption) ?_
            case y3=>(intro w hSw; (try dsimp only at hSw); first | (go_simp; done) | (go_simp; with_reducible rfl) | (go_simp; rfl))
            try simp only [Act.put,List.setIfInBounds_toArray,List.set_cons_zero,List.set_cons_succ]
            refine wpAnyH_take (i:=4) (oi:={ dst:=some 43,op:=Op.load 9 (Operand.tmp 42),type:=9,pos:= "ref.go:133",after:=#[{ on:=3,ground:=Ground.data }],guard:=none }) (v:=.string x) rfl (by kernel_rfl) (by kernel_rfl) (by kernel_rfl) (fun _ _ _ h=>h) (Or.inl ⟨by rfl,?y4⟩) (by assumption) ?_
            case y4=>(intro w hSw; (try dsimp only at hSw); first | (go_simp; done) | (go_simp; with_reducible rfl) | (go_simp; rfl))
            try simp only [Act.put,List.setIfInBounds_toArray,List.set_cons_zero,List.set_cons_succ]
            refine wpAnyH_ready (rs:=[0]) (by kernel_rfl) (by simp) ?_
            refine AllReadyH.cons (o:={ dst:=some 39,op:=Op.load 61 (Operand.tmp 1),type:=61,pos:= "ref.go:133",after:=#[],guard:=none }) rfl (fun K hK=>?_) AllReadyH.nil
            refine rdL C r _ (by rfl) rfl rfl (HRD.out _ hcur) HCS.out ?_
            refine hK.out _ _ (HXD.out _ hcur) (fun hHeld=>?_)
            clear hK K
            try simp only [Act.put,List.setIfInBounds_toArray,List.set_cons_zero,List.set_cons_succ]
            refine wpAnyH_ready (rs:=[5]) (by kernel_rfl) (by simp) ?_
            refine AllReadyH.cons (o:={ dst:=some 44,op:=Op.call { callee:=Callee.value (Operand.func 94),args:=#[Operand.tmp 39,Operand.tmp 43],argTypes:=#[61,9] },type:=103,pos:= "ref.go:133",after:=#[{ on:=0,ground:=Ground.data },{ on:=4,ground:=Ground.data }],guard:=none }) rfl (fun K hK=>?_) AllReadyH.nil
            first | (go_at_call 94; refine (show Calls _ _ _ _ _ from HRN.out _ hcur).mono ?_; rintro e wf ⟨V9,C1,hC1,rfl,hM⟩) | (go_simp; go_at_call 94; refine (show Calls _ _ _ _ _ from HRN.out _ hcur).mono ?_; rintro e wf ⟨V9,C1,hC1,rfl,hM⟩)
            refine hK.out _ _ (HXD.out _ (hcur.trans (hM.bel.mono hcur.size))) (fun hHeld=>?_)
            clear hK K
            try simp only [Act.put,List.setIfInBounds_toArray,List.set_cons_zero,List.set_cons_succ]
            refine wpAnyH_take (i:=6) (oi:={ dst:=some 38,op:=Op.move (Operand.tmp 44),type:=103,pos:= "ref.go:133",after:=#[{ on:=5,ground:=Ground.data }],guard:=none }) (v:=.tuple #[.agg C1,.int .i64 e9]) rfl (by kernel_rfl) (by kernel_rfl) (by kernel_rfl) (fun _ _ _ h=>h) (Or.inl ⟨by rfl,?y6⟩) (by assumption) ?_
            case y6=>(intro w hSw; (try dsimp only at hSw); first | (go_simp; done) | (go_simp; with_reducible rfl) | (go_simp; rfl))
            try simp only [Act.put,List.setIfInBounds_toArray,List.set_cons_zero,List.set_cons_succ]
            refine wpAnyH_take (i:=7) (oi:={ dst:=some 45,op:=Op.extract (Operand.tmp 38) 0,type:=61,pos:= "ref.go:133",after:=#[{ on:=6,ground:=Ground.data }],guard:=none }) (v:=.agg C1) rfl (by kernel_rfl) (by kernel_rfl) (by kernel_rfl) (fun _ _ _ h=>h) (Or.inl ⟨by rfl,?y7⟩) (by assumption) ?_
            case y7=>(intro w hSw; (try dsimp only at hSw); first | (go_simp; done) | (go_simp; with_reducible rfl) | (go_simp; rfl))
            try simp only [Act.put,List.setIfInBounds_toArray,List.set_cons_zero,List.set_cons_succ]
            refine wpAnyH_take (i:=8) (oi:={ dst:=some 46,op:=Op.extract (Operand.tmp 38) 1,type:=3,pos:= "ref.go:133",after:=#[{ on:=6,ground:=Ground.data },{ on:=9,ground:=Ground.gcOnly Departure.lateStores }],guard:=none }) (v:=.int .i64 e9) rfl (by kernel_rfl) (by kernel_rfl) (by kernel_rfl) (fun _ _ _ h=>h) (Or.inl ⟨by rfl,?y8⟩) (by assumption) ?_
            case y8=>(intro w hSw; (try dsimp only at hSw); first | (go_simp; done) | (go_simp; with_reducible rfl) | (go_simp; rfl))
            try simp only [Act.put,List.setIfInBounds_toArray,List.set_cons_zero,List.set_cons_succ]
            refine wpAnyH_ready (rs:=[9]) (by kernel_rfl) (by simp) ?_
            refine AllReadyH.cons (o:={ dst:=none,op:=Op.store 61 (Operand.tmp 1) (Operand.tmp 45),type:=0,pos:= "ref.go:133",after:=#[{ on:=7,ground:=Ground.data },{ on:=5,ground:=Ground.chain },{ on:=0,ground:=Ground.phase },{ on:=1,ground:=Ground.phase },{ on:=2,ground:=Ground.phase },{ on:=3,ground:=Ground.phase },{ on:=4,ground:=Ground.phase },{ on:=5,ground:=Ground.phase },{ on:=6,ground:=Ground.phase },{ on:=7,ground:=Ground.phase },{ on:=8,ground:=Ground.textOnly Departure.lateStores }],guard:=none }) rfl (fun K hK=>?_) AllReadyH.nil
            refine rdF r C1 C _ _ (by rfl) rfl rfl rfl (by rw [hC1]; rfl) (by rw [hC1]; exact fsC_one hM.at_) HCS.out (keep_row (HRD.out _ hcur) hM.bel) ?_; intro W6 hr6 hm6
            refine hK.out _ _ (by rw [cell_same (hm6.oth gb (lt_of_cell (HXD.out _ (hcur.trans (hM.bel.mono hcur.size)))) HGN.out)]; exact HXD.out _ (hcur.trans (hM.bel.mono hcur.size))) (fun hHeld=>?_)
            clear hK K
            try simp only [Act.put,List.setIfInBounds_toArray,List.set_cons_zero,List.set_cons_succ]
            refine wpAnyH_take (i:=10) (oi:={ dst:=some 6,op:=Op.assign (Operand.tmp 46),type:=3,pos:= "ref.go:133",after:=#[{ on:=8,ground:=Ground.data },{ on:=9,ground:=Ground.chain },{ on:=0,ground:=Ground.phase },{ on:=1,ground:=Ground.phase },{ on:=2,ground:=Ground.phase },{ on:=3,ground:=Ground.phase },{ on:=4,ground:=Ground.phase },{ on:=5,ground:=Ground.phase },{ on:=6,ground:=Ground.phase },{ on:=7,ground:=Ground.phase },{ on:=8,ground:=Ground.phase },{ on:=9,ground:=Ground.phase }],guard:=none }) (v:=.int .i64 e9) rfl (by kernel_rfl) (by kernel_rfl) (by kernel_rfl) (fun _ _ _ h=>h) (Or.inl ⟨by rfl,?y10⟩) (by assumption) ?_
            case y10=>(intro w hSw; (try dsimp only at hSw); first | (go_simp; done) | (go_simp; with_reducible rfl) | (go_simp; rfl))
            try simp only [Act.put,List.setIfInBounds_toArray,List.set_cons_zero,List.set_cons_succ]
            refine wpAnyH_done (by kernel_rfl) ?_ _
            rw [hC1] at hr6
            have hls:=(HL2.out.on hcur).made hM hr6 hm6
            have hkr:KR stE W6 (.slice (some ⟨gb,oo,none⟩) ln lc) l:=((HKR.out.on hcur).on hM.bel).modN hm6 (fun _ g o n c e hh=>by injection e with e _ _; injection e with e; injection e with e _ _; exact HGN.out (e.trans hh))
            have HKR6:Hid _:=hkr
            clear hC1 hM hr6 hm6 hcur hHeld hkr HXD HRD HCS HRN
            by_cases h1:e9=0
            · subst h1
              have HE2:Hid (tidysM l 0 s=tidysM (l.drop j1) n1 s9):=by show _=_; rw [HST.out,HTT.out]; rfl
              have HLn:Hid (LS w s V r Z s9 V9 _):=hls
              have hjw:=HJW.out
              have hnw:=HNW.out
              clear hls HST
              go_wp2
              go_roundw
              case rel=>exact ⟨j1,n1,s9,V9,HJ.out.1,HJ.out.2.2.1,rfl,rfl,HLn.out,HI9.out,HKR6.out,HE2.out⟩
              case measure=>have:=HJ.out; simp [intOf]; omega
            · have HV:Hid (tidyM s=(s9,0,e9)):=by
                show _=_
                have h5:tidysM l 0 s=(s9,0,e9):=by rw [HST.out,HTT.out,if_pos rfl,if_neg h1]
                rw [HT1.out,h5,if_neg h1]
              have heb:(e9 != 0)=true:=bne_iff_ne.mpr h1
              clear h1 HST HT1
              go_wp2_with (first | refine ldF (fsC s9 V9) r _ rfl rfl rfl hls.row rfl ?_ | (refine stF rfl _ _ rfl (r + 1) (fsC s9 V9) Z rfl rfl rfl (fsC_one hls.at_) HZS.out hls.res ?_; intro W7 hr7 hm7))
              have hlv:=run_loadVar_mid (P:=Tryz.prog) W7 (r + 1) 0 61 (fsC s9 V9).toList _ (fun j v hv=>by rw [cell_of_row _ _ _ _ _ _ hr7]; simpa using hv) Tryz.underlying61 rfl (by rw [Array.length_toList,fsC_size]; exact i31)
              rw [Array.toArray_toList] at hlv
              refine bodyPost_ret (v:=.tuple #[.agg (fsC s9 V9),.int .i64 0,.int .i64 e9]) (by simp [results,Tryz.results53,asAddr,Act.put,hlv,Result.andThen]) rfl ?_
              rw [HV.out]
              exact ⟨_,rfl,hls.fin HRR.out hm7⟩
          · have hnt:isTmp x=false:=by unfold isTmp; rw [hpx,decide_eq_false hpe,Bool.and_false]
            have hcmp:(px.toList == [116,101,109,112,45])=false:=by rw [← tlit]; exact str_other (fun e=>hpe (ByteArray.ext (Array.toList_inj.1 e)))
            clear hpe
            have HE2:Hid (tidysM l 0 s=tidysM (l.drop j1) cnt s2):=by show _=_; rw [HST.out,hnt]; rfl
            have hjw:=HJW.out
            clear HST
            go_wp2
            go_roundw
            case rel=>exact ⟨j1,cnt,s2,V2,HJ.out.1,HJ.out.2.1,rfl,rfl,HL2.out,HI2.out,HKR.out,HE2.out⟩
            case measure=>have:=HJ.out; simp [intOf]; omega
      · have hjn:j=ln:=by omega
        subst hjn
        have HTE:Hid (tidysM l 0 s=(s2,(cnt:Int),0)):=by
          show _=_
          rw [heq,List.drop_of_length_le (by have:=HLN.out; omega)]
          rfl
        have HT2:Hid (tidyM s=if 0 < (cnt:Int) then (if (syncDirM s2).2=0 then ((syncDirM s2).1,(cnt:Int),0) else ((syncDirM s2).1,0,(syncDirM s2).2)) else (s2,(cnt:Int),0)):=by show _=_; rw [HT1.out,HTE.out]; rfl
        have HI2:Hid (Inv s2 (i + j)):=hI2
        have hls:=hls
        clear HT1 HTE heq hkr hI2 hlt
        by_cases hc0:0 < (cnt:Int)
        · obtain ⟨s9,e9,hsd⟩:∃ s9 e9,syncDirM s2=(s9,e9):=⟨_,_,rfl⟩
          have HSY:Hid (∀ W,FsAt s2 V2 W → Calls Tryz.prog 95 #[.agg (fsC s2 V2)] W (RP s2 V2 W (s9,e9))):=fun W hW=>by
            have:=rsyncDir_i HI2.out (by have:=HIB.out; have:=HFW.out; have:=HLN.out; omega) W hW
            rw [hsd] at this
            exact this
          have HT3:Hid (tidyM s=if e9=0 then (s9,(cnt:Int),0) else (s9,0,e9)):=by show _=_; rw [HT2.out,if_pos hc0,hsd]
          clear HT2 hsd HI2
          go_upto_region 14 with fail
          go_wp2_with (refine ldF (fsC s2 V2) r _ rfl rfl rfl hls.row rfl ?_)
          refine (show Calls _ _ _ _ _ from HSY.out _ hls.at_).mono ?_
          rintro e w9 ⟨V9,rfl,hM⟩
          have HM:Hid (Made s2 V2 _ s9 V9 w9):=hM
          have HL0:Hid (LS w s V r Z s2 V2 _):=hls
          have H1c:Hid ((fsC s9 V9).all (·.oneCell')=true):=fsC_one hM.at_
          have HRW:Hid _:=keep_row hls.row hM.bel
          clear hM hls
          go_upto_region 15 with (refine stF rfl _ _ rfl r (fsC s9 V9) (fsC s2 V2) rfl rfl rfl H1c.out rfl HRW.out ?_; intro W5 hr5 hm5)
          have hls:=HL0.out.made HM.out hr5 hm5
          clear hr5 hm5 HM HL0 H1c HRW
          clear HSY
          by_cases h1:e9=0
          · have HV:Hid (tidyM s=(s9,(cnt:Int),0)):=by show _=_; rw [HT3.out,if_pos h1]
            subst h1
            clear HT3
            go_wp2_with (first | refine ldF (fsC s9 V9) r _ rfl rfl rfl hls.row rfl ?_ | (refine stF rfl _ _ rfl (r + 1) (fsC s9 V9) Z rfl rfl rfl (fsC_one hls.at_) HZS.out hls.res ?_; intro W7 hr7 hm7))
            have hlv:=run_loadVar_mid (P:=Tryz.prog) W7 (r + 1) 0 61 (fsC s9 V9).toList _ (fun j v hv=>by rw [cell_of_row _ _ _ _ _ _ hr7]; simpa using hv) Tryz.underlying61 rfl (by rw [Array.length_toList,fsC_size]; exact i31)
            rw [Array.toArray_toList] at hlv
            refine bodyPost_ret (v:=.tuple #[.agg (fsC s9 V9),.int .i64 (cnt:Int),.int .i64 0]) (by simp [results,Tryz.results53,asAddr,Act.put,hlv,Result.andThen]) rfl ?_
            rw [HV.out]
            exact ⟨_,rfl,hls.fin HRR.out hm7⟩
          · have HV:Hid (tidyM s=(s9,0,e9)):=by show _=_; rw [HT3.out,if_neg h1]
            have heb:(e9 != 0)=true:=bne_iff_ne.mpr h1
            clear h1 HT3
            go_wp2_with (first | refine ldF (fsC s9 V9) r _ rfl rfl rfl hls.row rfl ?_ | (refine stF rfl _ _ rfl (r + 1) (fsC s9 V9) Z rfl rfl rfl (fsC_one hls.at_) HZS.out hls.res ?_; intro W7 hr7 hm7))
            have hlv:=run_loadVar_mid (P:=Tryz.prog) W7 (r + 1) 0 61 (fsC s9 V9).toList _ (fun j v hv=>by rw [cell_of_row _ _ _ _ _ _ hr7]; simpa using hv) Tryz.underlying61 rfl (by rw [Array.length_toList,fsC_size]; exact i31)
            rw [Array.toArray_toList] at hlv
            refine bodyPost_ret (v:=.tuple #[.agg (fsC s9 V9),.int .i64 0,.int .i64 e9]) (by simp [results,Tryz.results53,asAddr,Act.put,hlv,Result.andThen]) rfl ?_
            rw [HV.out]
            exact ⟨_,rfl,hls.fin HRR.out hm7⟩
        · have HV:Hid (tidyM s=(s2,(cnt:Int),0)):=by show _=_; rw [HT2.out,if_neg hc0]
          clear HT2
          go_wp2_with (first | refine ldF (fsC s2 V2) r _ rfl rfl rfl hls.row rfl ?_ | (refine stF rfl _ _ rfl (r + 1) (fsC s2 V2) Z rfl rfl rfl (fsC_one hls.at_) HZS.out hls.res ?_; intro W7 hr7 hm7))
          have hlv:=run_loadVar_mid (P:=Tryz.prog) W7 (r + 1) 0 61 (fsC s2 V2).toList _ (fun j v hv=>by rw [cell_of_row _ _ _ _ _ _ hr7]; simpa using hv) Tryz.underlying61 rfl (by rw [Array.length_toList,fsC_size]; exact i31)
          rw [Array.toArray_toList] at hlv
          refine bodyPost_ret (v:=.tuple #[.agg (fsC s2 V2),.int .i64 (cnt:Int),.int .i64 0]) (by simp [results,Tryz.results53,asAddr,Act.put,hlv,Result.andThen]) rfl ?_
          rw [HV.out]
          exact ⟨_,rfl,hls.fin HRR.out hm7⟩
  · have HV:Hid (tidyM s=(s,0,el)):=by show _=_; rw [HTI.out,if_neg h0]
    have heb:(el != 0)=true:=bne_iff_ne.mpr h0
    clear h0 HTI
    go_wp2_with (first | refine ldF (fsC s V) r _ rfl rfl rfl hls.row rfl ?_ | (refine stF rfl _ _ rfl (r + 1) (fsC s V) Z rfl rfl rfl (fsC_one hls.at_) HZS.out hls.res ?_; intro W7 hr7 hm7))
    have hlv:=run_loadVar_mid (P:=Tryz.prog) W7 (r + 1) 0 61 (fsC s V).toList _ (fun j v hv=>by rw [cell_of_row _ _ _ _ _ _ hr7]; simpa using hv) Tryz.underlying61 rfl (by rw [Array.length_toList,fsC_size]; exact i31)
    rw [Array.toArray_toList] at hlv
    refine bodyPost_ret (v:=.tuple #[.agg (fsC s V),.int .i64 0,.int .i64 el]) (by simp [results,Tryz.results53,asAddr,Act.put,hlv,Result.andThen]) rfl ?_
    rw [HV.out]
    exact ⟨_,rfl,hls.fin HRR.out hm7⟩
end Go.Proofs.YtbgbmfmgdgalbaaGreatDoor
