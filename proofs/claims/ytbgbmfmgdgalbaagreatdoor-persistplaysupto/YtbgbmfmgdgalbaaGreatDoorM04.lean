import Derived.Test.YtbgbmfmgdgalbaaGreatDoorM03
namespace Go.Proofs.YtbgbmfmgdgalbaaGreatDoor
open Go.RowKit
set_option linter.unusedVariables false
set_option linter.unusedSimpArgs false
set_option maxHeartbeats 2000000 in
set_option maxRecDepth 20000 in
theorem syncDir_any (s:Fs) (V:FV) (hb:Bd s) (w:World) (h:FsAt s V w):Calls Tryz.prog 95 #[.agg (fsC s V)] w fun e w'=>∃ V',e=.returned (.tuple #[.agg (fsC (syncDirM s).1 V'),.int .i64 (syncDirM s).2])∧Made s V w (syncDirM s).1 V' w':=by
  obtain ⟨Z,hZ⟩:∃ Z,Z=zF:=⟨_,rfl⟩
  have HZZ:Hid (Z=zF):=hZ
  have HZS:Hid (Z.size=9):=by show _=_; rw [hZ]; rfl
  clear hZ
  obtain ⟨W1,hW1⟩:∃ W1,W1=(w.alloc (.cells (fsC s V) 61)).alloc (.cells Z 61):=⟨_,rfl⟩
  have hls:=LS.start h Z
  rw [← hW1] at hls
  obtain ⟨r,hr⟩:∃ r,w.heap.size=r:=⟨_,rfl⟩
  have HRR:Hid (w.heap.size=r):=hr
  rw [hr] at hls
  have HBD:Hid (Bd s):=hb
  clear hb
  clear h hr
  rw [show fsC s V=#[.bool s.down,.int .i64 (s.steps:Int),V.f,V.d,V.s,V.c,V.p,.int .i64 s.crash,V.k] from rfl] at hW1
  rw [show fsC s V=#[.bool s.down,.int .i64 (s.steps:Int),V.f,V.d,V.s,V.c,V.p,.int .i64 s.crash,V.k] from rfl]
  go_enter Tryz.func95,Tryz.ntmps95
  go_upto_region 1 with (refine alF rfl rfl Z HZZ.out ?_)
  rw [← hW1,HRR.out]
  clear hW1
  obtain ⟨dn,hdn⟩:∃ dn,s.down=dn:=⟨_,rfl⟩
  obtain ⟨x0,x1,x2,x3,x4,x5,x6,x7,x8,xf⟩:=row9 (v0:=.bool s.down) (v1:=.int .i64 (s.steps:Int)) (v2:=V.f) (v3:=V.d) (v4:=V.s) (v5:=V.c) (v6:=V.p) (v7:=.int .i64 s.crash) (v8:=V.k) hls.row
  rw [hdn] at x0
  cases dn with
  | true =>
    have HV:Hid (syncDirM s=(s,203)):=by show _=_; simp [syncDirM,hdn]
    clear hdn
    go_wp2_with (first | refine ldF (fsC s V) r _ rfl rfl rfl hls.row rfl ?_ | (refine stF rfl _ _ rfl (r + 1) (fsC s V) Z rfl rfl rfl (fsC_one hls.at_) HZS.out hls.res ?_; intro W7 hr7 hm7))
    have hlv:=run_loadVar_mid (P:=Tryz.prog) W7 (r + 1) 0 61 (fsC s V).toList _ (fun j v hv=>by rw [cell_of_row _ _ _ _ _ _ hr7]; simpa using hv) Tryz.underlying61 rfl (by rw [Array.length_toList,fsC_size]; exact i31)
    rw [Array.toArray_toList] at hlv
    refine bodyPost_ret (v:=.tuple #[.agg (fsC s V),.int .i64 (203)]) (by simp [results,Tryz.results95,asAddr,Act.put,hlv,Result.andThen]) rfl ?_
    rw [HV.out]
    exact ⟨_,rfl,hls.fin HRR.out hm7⟩
  | false =>
    go_upto_region 3 with fail
    clear x0 x1 x2 x3 x4 x5 x6 x7 x8 xf
    go_wp2_with (refine ldF (fsC s V) r _ rfl rfl rfl hls.row rfl ?_)
    refine (show Calls _ _ _ _ _ from step_b s V HBD.out _ hls.at_).mono ?_
    rintro e w3 ⟨V1,rfl,hM1⟩
    obtain ⟨s1,hs1⟩:∃ s1,(stepM s).1=s1:=⟨_,rfl⟩
    obtain ⟨e1,he1⟩:∃ e1,(stepM s).2.1=e1:=⟨_,rfl⟩
    obtain ⟨p1,hp1⟩:∃ p1,(stepM s).2.2=p1:=⟨_,rfl⟩
    rw [hs1] at hM1 ⊢
    rw [he1,hp1]
    have HS1:Hid ((stepM s).1=s1):=hs1
    have HE1:Hid ((stepM s).2.1=e1):=he1
    have HP1:Hid ((stepM s).2.2=p1):=hp1
    clear hs1 he1 hp1
    have HM1:Hid (Made s V _ s1 V1 w3):=hM1
    have HL0:Hid (LS w s V r Z s V _):=hls
    have H1c:Hid ((fsC s1 V1).all (·.oneCell')=true):=fsC_one hM1.at_
    have HRW:Hid _:=keep_row hls.row hM1.bel
    clear hM1
    go_upto_region 4 with (refine stF rfl _ _ rfl r (fsC s1 V1) (fsC s V) rfl rfl rfl H1c.out rfl HRW.out ?_; intro W5 hr5 hm5)
    have hls:=HL0.out.made HM1.out hr5 hm5
    clear hr5 hm5
    by_cases he1:e1=0
    · subst he1
      obtain ⟨s2,hs2⟩:∃ s2:Fs,s2={ s1 with sure:=s1.dir,chg:=[] }:=⟨_,rfl⟩
      have HV:Hid (syncDirM s=(s2,0)):=by show _=_; unfold syncDirM; rw [hdn]; simp only [HE1.out,HS1.out,hs2]; rfl
      clear hdn
      obtain ⟨V2,hV2⟩:∃ V2:FV,V2=⟨V1.f,V1.d,V1.d,.slice none 0 0,V1.p,V1.k⟩:=⟨_,rfl⟩
      obtain ⟨x0,x1,x2,x3,x4,x5,x6,x7,x8,xf⟩:=row9 (v0:=.bool s1.down) (v1:=.int .i64 (s1.steps:Int)) (v2:=V1.f) (v3:=V1.d) (v4:=V1.s) (v5:=V1.c) (v6:=V1.p) (v7:=.int .i64 s1.crash) (v8:=V1.k) hls.row
      obtain ⟨W6,hW6⟩:∃ W6,W6=(W5.setCell ⟨r,4,none⟩ V1.d).setCell ⟨r,5,none⟩ (.slice none 0 0):=⟨_,rfl⟩
      have hr6:W6.heap[r]?=some (.cells (fsC s2 V2) 61):=by rw [hW6]; exact setC (setRow hls.row _ _) (by rw [hs2,hV2]; rfl)
      have hm6:Mod r W5 W6:=by rw [hW6]; exact Mod.only (((Only.refl _ _).set _ _).set _ _)
      have ha2:FsAt s2 V2 W5:=by rw [hs2,hV2]; exact ⟨hls.at_.qf,hls.at_.qd,hls.at_.qd,KR.nil,hls.at_.qp,hls.at_.qk⟩
      have hav2:∀ S:Nat → Prop,Av S s1 V1 → Av S s2 V2:=fun S hA=>by rw [hs2,hV2]; exact ⟨hA.af,hA.ad,hA.ad,fun hne=>absurd rfl hne,hA.ap,hA.ak⟩
      have hls2:LS w s V r Z s2 V2 W6:=hls.put hr6 hm6 ha2 (hav2 _ hls.lo) (fun S _ hA=>hav2 S hA)
      have hfd:∃ P k n,V1.d=.slice P n k:=by obtain ⟨P,k,h⟩:=hls.at_.qd.form; exact ⟨P,k,_,h⟩
      obtain ⟨Pd,kd,nd,hvd⟩:=hfd
      rw [hvd] at x3 hW6
      clear hr6 hm6 ha2 hav2 hs2 hV2 hvd
      go_upto_region 8 with fail
      rw [← hW6]
      clear hW6 x0 x1 x2 x3 x4 x5 x6 x7 x8 xf
      go_wp2_with (first | refine ldF (fsC s2 V2) r _ rfl rfl rfl hls2.row rfl ?_ | (refine stF rfl _ _ rfl (r + 1) (fsC s2 V2) Z rfl rfl rfl (fsC_one hls2.at_) HZS.out hls2.res ?_; intro W7 hr7 hm7))
      have hlv:=run_loadVar_mid (P:=Tryz.prog) W7 (r + 1) 0 61 (fsC s2 V2).toList _ (fun j v hv=>by rw [cell_of_row _ _ _ _ _ _ hr7]; simpa using hv) Tryz.underlying61 rfl (by rw [Array.length_toList,fsC_size]; exact i31)
      rw [Array.toArray_toList] at hlv
      refine bodyPost_ret (v:=.tuple #[.agg (fsC s2 V2),.int .i64 (0)]) (by simp [results,Tryz.results95,asAddr,Act.put,hlv,Result.andThen]) rfl ?_
      rw [HV.out]
      exact ⟨_,rfl,hls2.fin HRR.out hm7⟩
    · have HV:Hid (syncDirM s=(s1,e1)):=by show _=_; unfold syncDirM; rw [hdn]; simp only [HE1.out,HS1.out]; simp [he1]
      clear hdn
      have heb:(e1 != 0)=true:=bne_iff_ne.mpr he1
      clear he1
      go_wp2_with (first | refine ldF (fsC s1 V1) r _ rfl rfl rfl hls.row rfl ?_ | (refine stF rfl _ _ rfl (r + 1) (fsC s1 V1) Z rfl rfl rfl (fsC_one hls.at_) HZS.out hls.res ?_; intro W7 hr7 hm7))
      have hlv:=run_loadVar_mid (P:=Tryz.prog) W7 (r + 1) 0 61 (fsC s1 V1).toList _ (fun j v hv=>by rw [cell_of_row _ _ _ _ _ _ hr7]; simpa using hv) Tryz.underlying61 rfl (by rw [Array.length_toList,fsC_size]; exact i31)
      rw [Array.toArray_toList] at hlv
      refine bodyPost_ret (v:=.tuple #[.agg (fsC s1 V1),.int .i64 (e1)]) (by simp [results,Tryz.results95,asAddr,Act.put,hlv,Result.andThen]) rfl ?_
      rw [HV.out]
      exact ⟨_,rfl,hls.fin HRR.out hm7⟩
set_option maxHeartbeats 2000000 in
set_option maxRecDepth 20000 in
theorem rename_any (s:Fs) (V:FV) (n tt:ByteArray) (hb:Bd s) (hn:n.size ≤ 140737488355328) (ht:tt.size ≤ 140737488355328) (w:World) (h:FsAt s V w):Calls Tryz.prog 134 #[.agg (fsC s V),.string n,.string tt] w fun e w'=>∃ V',e=.returned (.tuple #[.agg (fsC (renameM s n tt).1 V'),.int .i64 (renameM s n tt).2])∧Made s V w (renameM s n tt).1 V' w':=by
  obtain ⟨Z,hZ⟩:∃ Z,Z=zF:=⟨_,rfl⟩
  have HZZ:Hid (Z=zF):=hZ
  have HZS:Hid (Z.size=9):=by show _=_; rw [hZ]; rfl
  clear hZ
  obtain ⟨W1,hW1⟩:∃ W1,W1=(w.alloc (.cells (fsC s V) 61)).alloc (.cells Z 61):=⟨_,rfl⟩
  have hls:=LS.start h Z
  rw [← hW1] at hls
  obtain ⟨r,hr⟩:∃ r,w.heap.size=r:=⟨_,rfl⟩
  have HRR:Hid (w.heap.size=r):=hr
  rw [hr] at hls
  have HBD:Hid (Bd s):=hb
  have HNS:Hid (n.size ≤ 140737488355328):=hn
  have HTS:Hid (tt.size ≤ 140737488355328):=ht
  clear hb hn ht
  clear h hr
  rw [show fsC s V=#[.bool s.down,.int .i64 (s.steps:Int),V.f,V.d,V.s,V.c,V.p,.int .i64 s.crash,V.k] from rfl] at hW1
  rw [show fsC s V=#[.bool s.down,.int .i64 (s.steps:Int),V.f,V.d,V.s,V.c,V.p,.int .i64 s.crash,V.k] from rfl]
  go_enter Tryz.func134,Tryz.ntmps134
  go_upto_region 1 with (refine alF rfl rfl Z HZZ.out ?_)
  rw [← hW1,HRR.out]
  clear hW1
  obtain ⟨dn,hdn⟩:∃ dn,s.down=dn:=⟨_,rfl⟩
  obtain ⟨x0,x1,x2,x3,x4,x5,x6,x7,x8,xf⟩:=row9 (v0:=.bool s.down) (v1:=.int .i64 (s.steps:Int)) (v2:=V.f) (v3:=V.d) (v4:=V.s) (v5:=V.c) (v6:=V.p) (v7:=.int .i64 s.crash) (v8:=V.k) hls.row
  rw [hdn] at x0
  cases dn with
  | true =>
    have HG:Hid ((!s.down && !namedM tt)=false):=by show _=_; rw [hdn]; rfl
    clear hdn
    go_upto_region 3 with fail
    clear x0 x1 x2 x3 x4 x5 x6 x7 x8 xf
    go_wp2_with (refine ldF (fsC s V) r _ rfl rfl rfl hls.row rfl ?_)
    refine (show Calls _ _ _ _ _ from has_any s V n HBD.out HNS.out _ hls.at_).mono ?_
    rintro e wh ⟨rfl,hbh⟩
    have hls:=hls.on hbh
    clear hbh
    obtain ⟨eh,heh⟩:∃ eh,hasM s n=eh:=⟨_,rfl⟩
    rw [heh]
    by_cases h0:eh=0
    · have HH:Hid (hasM s n=0):=by show _=_; rw [heh,h0]
      subst h0
      clear heh
      obtain ⟨x0,x1,x2,x3,x4,x5,x6,x7,x8,xf⟩:=row9 (v0:=.bool s.down) (v1:=.int .i64 (s.steps:Int)) (v2:=V.f) (v3:=V.d) (v4:=V.s) (v5:=V.c) (v6:=V.p) (v7:=.int .i64 s.crash) (v8:=V.k) hls.row
      go_wp2_with fail
      refine (show Calls _ _ _ _ _ from r_find_any V.d s.dir (by have:=HBD.out.dd; omega) n _ hls.at_.qd).mono ?_
      rintro e wf ⟨rfl,hwf⟩
      rw [hwf]
      clear hwf
      clear x0 x1 x2 x3 x4 x5 x6 x7 x8 xf
      obtain ⟨fi,hfi⟩:∃ fi,findM s.dir n=fi:=⟨_,rfl⟩
      rw [hfi]
      have HFI:Hid (findM s.dir n=fi):=hfi
      clear hfi
      go_upto_region 7 with fail
      go_wp2_with (refine ldF (fsC s V) r _ rfl rfl rfl hls.row rfl ?_)
      refine (show Calls _ _ _ _ _ from step_b s V HBD.out _ hls.at_).mono ?_
      rintro e w3 ⟨V1,rfl,hM1⟩
      obtain ⟨s1,hs1⟩:∃ s1,(stepM s).1=s1:=⟨_,rfl⟩
      obtain ⟨e1,he1⟩:∃ e1,(stepM s).2.1=e1:=⟨_,rfl⟩
      obtain ⟨p1,hp1⟩:∃ p1,(stepM s).2.2=p1:=⟨_,rfl⟩
      rw [hs1] at hM1 ⊢
      rw [he1,hp1]
      have HS1:Hid ((stepM s).1=s1):=hs1
      have HE1:Hid ((stepM s).2.1=e1):=he1
      have HP1:Hid ((stepM s).2.2=p1):=hp1
      clear hs1 he1 hp1
      have HM1:Hid (Made s V _ s1 V1 w3):=hM1
      have HL0:Hid (LS w s V r Z s V _):=hls
      have H1c:Hid ((fsC s1 V1).all (·.oneCell')=true):=fsC_one hM1.at_
      have HRW:Hid _:=keep_row hls.row hM1.bel
      clear hM1
      go_upto_region 8 with (refine stF rfl _ _ rfl r (fsC s1 V1) (fsC s V) rfl rfl rfl H1c.out rfl HRW.out ?_; intro W5 hr5 hm5)
      have hls:=HL0.out.made HM1.out hr5 hm5
      clear hr5 hm5
      by_cases he1:e1=0
      · subst he1
        have hs1':s1={ s with steps:=s.steps + 1 }:=by rw [← HS1.out]; exact stepM_ok HE1.out
        have HD1:Hid (s1.dir.length ≤ 1099511627770):=by rw [hs1']; exact HBD.out.dd
        have HC1:Hid (s1.chg.length ≤ 3298534883328):=by rw [hs1']; have:=HBD.out.cl; show _ ≤ _; simp only; omega
        clear hs1'
        have HV:Hid (renameM s n tt=(changeM s1 ⟨n,tt,fi⟩,0)):=by show _=_; unfold renameM; rw [if_neg (by rw [HG.out]; simp),if_pos HH.out]; simp only [HE1.out,HS1.out,HFI.out]; rfl
        go_upto_region 10 with fail
        go_wp2_with (refine ldF (fsC s1 V1) r _ rfl rfl rfl hls.row rfl ?_)
        refine (show Calls _ _ _ _ _ from r_change_any s1 V1 ⟨n,tt,fi⟩ HD1.out HC1.out _ hls.at_).mono ?_
        rintro e w6 ⟨V2,rfl,hM⟩
        have HMM:Hid _:=hM
        have HZ9:Hid _:=keep_row hls.res hM.bel
        go_wp2_with (refine stF rfl _ _ rfl (r + 1) (fsC (changeM s1 ⟨n,tt,fi⟩) V2) Z rfl rfl rfl (fsC_one HMM.out.at_) HZS.out HZ9.out ?_; intro W7 hr7 hm7)
        have hlv:=run_loadVar_mid (P:=Tryz.prog) W7 (r + 1) 0 61 (fsC (changeM s1 ⟨n,tt,fi⟩) V2).toList _ (fun j v hv=>by rw [cell_of_row _ _ _ _ _ _ hr7]; simpa using hv) Tryz.underlying61 rfl (by rw [Array.length_toList,fsC_size]; exact i31)
        rw [Array.toArray_toList] at hlv
        refine bodyPost_ret (v:=.tuple #[.agg (fsC (changeM s1 ⟨n,tt,fi⟩) V2),.int .i64 0]) (by simp [results,Tryz.results134,asAddr,Act.put,hlv,Result.andThen]) rfl ?_
        rw [HV.out]
        exact ⟨_,rfl,hls.finM HRR.out HMM.out hm7⟩
      · have HV:Hid (renameM s n tt=(s1,e1)):=by show _=_; unfold renameM; rw [if_neg (by rw [HG.out]; simp),if_pos HH.out]; simp only [HE1.out,HS1.out]; rw [if_neg he1]
        have heb:(e1 != 0)=true:=bne_iff_ne.mpr he1
        clear he1
        go_wp2_with (first | refine ldF (fsC s1 V1) r _ rfl rfl rfl hls.row rfl ?_ | (refine stF rfl _ _ rfl (r + 1) (fsC s1 V1) Z rfl rfl rfl (fsC_one hls.at_) HZS.out hls.res ?_; intro W7 hr7 hm7))
        have hlv:=run_loadVar_mid (P:=Tryz.prog) W7 (r + 1) 0 61 (fsC s1 V1).toList _ (fun j v hv=>by rw [cell_of_row _ _ _ _ _ _ hr7]; simpa using hv) Tryz.underlying61 rfl (by rw [Array.length_toList,fsC_size]; exact i31)
        rw [Array.toArray_toList] at hlv
        refine bodyPost_ret (v:=.tuple #[.agg (fsC s1 V1),.int .i64 (e1)]) (by simp [results,Tryz.results134,asAddr,Act.put,hlv,Result.andThen]) rfl ?_
        rw [HV.out]
        exact ⟨_,rfl,hls.fin HRR.out hm7⟩
    · have HV:Hid (renameM s n tt=(s,eh)):=by show _=_; unfold renameM; rw [if_neg (by rw [HG.out]; simp),if_neg (by rw [heh]; exact h0),heh]
      have heb:(eh != 0)=true:=bne_iff_ne.mpr h0
      clear h0 heh
      go_wp2_with (first | refine ldF (fsC s V) r _ rfl rfl rfl hls.row rfl ?_ | (refine stF rfl _ _ rfl (r + 1) (fsC s V) Z rfl rfl rfl (fsC_one hls.at_) HZS.out hls.res ?_; intro W7 hr7 hm7))
      have hlv:=run_loadVar_mid (P:=Tryz.prog) W7 (r + 1) 0 61 (fsC s V).toList _ (fun j v hv=>by rw [cell_of_row _ _ _ _ _ _ hr7]; simpa using hv) Tryz.underlying61 rfl (by rw [Array.length_toList,fsC_size]; exact i31)
      rw [Array.toArray_toList] at hlv
      refine bodyPost_ret (v:=.tuple #[.agg (fsC s V),.int .i64 (eh)]) (by simp [results,Tryz.results134,asAddr,Act.put,hlv,Result.andThen]) rfl ?_
      rw [HV.out]
      exact ⟨_,rfl,hls.fin HRR.out hm7⟩
  | false =>
    go_wp2_with fail
    refine (show Calls _ _ _ _ _ from named_any tt HTS.out _).mono ?_
    rintro e wn ⟨rfl,hwn⟩
    rw [hwn]
    clear hwn
    clear x0 x1 x2 x3 x4 x5 x6 x7 x8 xf
    obtain ⟨nm,hnm⟩:∃ nm,namedM tt=nm:=⟨_,rfl⟩
    rw [hnm]
    cases nm with
    | true =>
      have HG:Hid ((!s.down && !namedM tt)=false):=by show _=_; rw [hdn,hnm]; rfl
      clear hdn hnm
      go_upto_region 3 with fail
      go_wp2_with (refine ldF (fsC s V) r _ rfl rfl rfl hls.row rfl ?_)
      refine (show Calls _ _ _ _ _ from has_any s V n HBD.out HNS.out _ hls.at_).mono ?_
      rintro e wh ⟨rfl,hbh⟩
      have hls:=hls.on hbh
      clear hbh
      obtain ⟨eh,heh⟩:∃ eh,hasM s n=eh:=⟨_,rfl⟩
      rw [heh]
      by_cases h0:eh=0
      · have HH:Hid (hasM s n=0):=by show _=_; rw [heh,h0]
        subst h0
        clear heh
        obtain ⟨x0,x1,x2,x3,x4,x5,x6,x7,x8,xf⟩:=row9 (v0:=.bool s.down) (v1:=.int .i64 (s.steps:Int)) (v2:=V.f) (v3:=V.d) (v4:=V.s) (v5:=V.c) (v6:=V.p) (v7:=.int .i64 s.crash) (v8:=V.k) hls.row
        go_wp2_with fail
        refine (show Calls _ _ _ _ _ from r_find_any V.d s.dir (by have:=HBD.out.dd; omega) n _ hls.at_.qd).mono ?_
        rintro e wf ⟨rfl,hwf⟩
        rw [hwf]
        clear hwf
        clear x0 x1 x2 x3 x4 x5 x6 x7 x8 xf
        obtain ⟨fi,hfi⟩:∃ fi,findM s.dir n=fi:=⟨_,rfl⟩
        rw [hfi]
        have HFI:Hid (findM s.dir n=fi):=hfi
        clear hfi
        go_upto_region 7 with fail
        go_wp2_with (refine ldF (fsC s V) r _ rfl rfl rfl hls.row rfl ?_)
        refine (show Calls _ _ _ _ _ from step_b s V HBD.out _ hls.at_).mono ?_
        rintro e w3 ⟨V1,rfl,hM1⟩
        obtain ⟨s1,hs1⟩:∃ s1,(stepM s).1=s1:=⟨_,rfl⟩
        obtain ⟨e1,he1⟩:∃ e1,(stepM s).2.1=e1:=⟨_,rfl⟩
        obtain ⟨p1,hp1⟩:∃ p1,(stepM s).2.2=p1:=⟨_,rfl⟩
        rw [hs1] at hM1 ⊢
        rw [he1,hp1]
        have HS1:Hid ((stepM s).1=s1):=hs1
        have HE1:Hid ((stepM s).2.1=e1):=he1
        have HP1:Hid ((stepM s).2.2=p1):=hp1
        clear hs1 he1 hp1
        have HM1:Hid (Made s V _ s1 V1 w3):=hM1
        have HL0:Hid (LS w s V r Z s V _):=hls
        have H1c:Hid ((fsC s1 V1).all (·.oneCell')=true):=fsC_one hM1.at_
        have HRW:Hid _:=keep_row hls.row hM1.bel
        clear hM1
        go_upto_region 8 with (refine stF rfl _ _ rfl r (fsC s1 V1) (fsC s V) rfl rfl rfl H1c.out rfl HRW.out ?_; intro W5 hr5 hm5)
        have hls:=HL0.out.made HM1.out hr5 hm5
        clear hr5 hm5
        by_cases he1:e1=0
        · subst he1
          have hs1':s1={ s with steps:=s.steps + 1 }:=by rw [← HS1.out]; exact stepM_ok HE1.out
          have HD1:Hid (s1.dir.length ≤ 1099511627770):=by rw [hs1']; exact HBD.out.dd
          have HC1:Hid (s1.chg.length ≤ 3298534883328):=by rw [hs1']; have:=HBD.out.cl; show _ ≤ _; simp only; omega
          clear hs1'
          have HV:Hid (renameM s n tt=(changeM s1 ⟨n,tt,fi⟩,0)):=by show _=_; unfold renameM; rw [if_neg (by rw [HG.out]; simp),if_pos HH.out]; simp only [HE1.out,HS1.out,HFI.out]; rfl
          go_upto_region 10 with fail
          go_wp2_with (refine ldF (fsC s1 V1) r _ rfl rfl rfl hls.row rfl ?_)
          refine (show Calls _ _ _ _ _ from r_change_any s1 V1 ⟨n,tt,fi⟩ HD1.out HC1.out _ hls.at_).mono ?_
          rintro e w6 ⟨V2,rfl,hM⟩
          have HMM:Hid _:=hM
          have HZ9:Hid _:=keep_row hls.res hM.bel
          go_wp2_with (refine stF rfl _ _ rfl (r + 1) (fsC (changeM s1 ⟨n,tt,fi⟩) V2) Z rfl rfl rfl (fsC_one HMM.out.at_) HZS.out HZ9.out ?_; intro W7 hr7 hm7)
          have hlv:=run_loadVar_mid (P:=Tryz.prog) W7 (r + 1) 0 61 (fsC (changeM s1 ⟨n,tt,fi⟩) V2).toList _ (fun j v hv=>by rw [cell_of_row _ _ _ _ _ _ hr7]; simpa using hv) Tryz.underlying61 rfl (by rw [Array.length_toList,fsC_size]; exact i31)
          rw [Array.toArray_toList] at hlv
          refine bodyPost_ret (v:=.tuple #[.agg (fsC (changeM s1 ⟨n,tt,fi⟩) V2),.int .i64 0]) (by simp [results,Tryz.results134,asAddr,Act.put,hlv,Result.andThen]) rfl ?_
          rw [HV.out]
          exact ⟨_,rfl,hls.finM HRR.out HMM.out hm7⟩
        · have HV:Hid (renameM s n tt=(s1,e1)):=by show _=_; unfold renameM; rw [if_neg (by rw [HG.out]; simp),if_pos HH.out]; simp only [HE1.out,HS1.out]; rw [if_neg he1]
          have heb:(e1 != 0)=true:=bne_iff_ne.mpr he1
          clear he1
          go_wp2_with (first | refine ldF (fsC s1 V1) r _ rfl rfl rfl hls.row rfl ?_ | (refine stF rfl _ _ rfl (r + 1) (fsC s1 V1) Z rfl rfl rfl (fsC_one hls.at_) HZS.out hls.res ?_; intro W7 hr7 hm7))
          have hlv:=run_loadVar_mid (P:=Tryz.prog) W7 (r + 1) 0 61 (fsC s1 V1).toList _ (fun j v hv=>by rw [cell_of_row _ _ _ _ _ _ hr7]; simpa using hv) Tryz.underlying61 rfl (by rw [Array.length_toList,fsC_size]; exact i31)
          rw [Array.toArray_toList] at hlv
          refine bodyPost_ret (v:=.tuple #[.agg (fsC s1 V1),.int .i64 (e1)]) (by simp [results,Tryz.results134,asAddr,Act.put,hlv,Result.andThen]) rfl ?_
          rw [HV.out]
          exact ⟨_,rfl,hls.fin HRR.out hm7⟩
      · have HV:Hid (renameM s n tt=(s,eh)):=by show _=_; unfold renameM; rw [if_neg (by rw [HG.out]; simp),if_neg (by rw [heh]; exact h0),heh]
        have heb:(eh != 0)=true:=bne_iff_ne.mpr h0
        clear h0 heh
        go_wp2_with (first | refine ldF (fsC s V) r _ rfl rfl rfl hls.row rfl ?_ | (refine stF rfl _ _ rfl (r + 1) (fsC s V) Z rfl rfl rfl (fsC_one hls.at_) HZS.out hls.res ?_; intro W7 hr7 hm7))
        have hlv:=run_loadVar_mid (P:=Tryz.prog) W7 (r + 1) 0 61 (fsC s V).toList _ (fun j v hv=>by rw [cell_of_row _ _ _ _ _ _ hr7]; simpa using hv) Tryz.underlying61 rfl (by rw [Array.length_toList,fsC_size]; exact i31)
        rw [Array.toArray_toList] at hlv
        refine bodyPost_ret (v:=.tuple #[.agg (fsC s V),.int .i64 (eh)]) (by simp [results,Tryz.results134,asAddr,Act.put,hlv,Result.andThen]) rfl ?_
        rw [HV.out]
        exact ⟨_,rfl,hls.fin HRR.out hm7⟩
    | false =>
      have HV:Hid (renameM s n tt=(s,202)):=by show _=_; unfold renameM; rw [if_pos (by rw [hdn,hnm]; rfl)]
      clear hdn hnm
      go_wp2_with (first | refine ldF (fsC s V) r _ rfl rfl rfl hls.row rfl ?_ | (refine stF rfl _ _ rfl (r + 1) (fsC s V) Z rfl rfl rfl (fsC_one hls.at_) HZS.out hls.res ?_; intro W7 hr7 hm7))
      have hlv:=run_loadVar_mid (P:=Tryz.prog) W7 (r + 1) 0 61 (fsC s V).toList _ (fun j v hv=>by rw [cell_of_row _ _ _ _ _ _ hr7]; simpa using hv) Tryz.underlying61 rfl (by rw [Array.length_toList,fsC_size]; exact i31)
      rw [Array.toArray_toList] at hlv
      refine bodyPost_ret (v:=.tuple #[.agg (fsC s V),.int .i64 (202)]) (by simp [results,Tryz.results134,asAddr,Act.put,hlv,Result.andThen]) rfl ?_
      rw [HV.out]
      exact ⟨_,rfl,hls.fin HRR.out hm7⟩
end Go.Proofs.YtbgbmfmgdgalbaaGreatDoor
namespace Go.Proofs.YtbgbmfmgdgalbaaGreatDoor
open Go.RowKit
set_option linter.unusedVariables false
set_option linter.unusedSimpArgs false
set_option maxHeartbeats 2000000 in
set_option maxRecDepth 20000 in
theorem create_any (s:Fs) (V:FV) (n:ByteArray) (hb:Bd s) (hn:n.size ≤ 140737488355328) (w:World) (h:FsAt s V w):Calls Tryz.prog 58 #[.agg (fsC s V),.string n] w fun e w'=>∃ V',e=.returned (.tuple #[.agg (fsC (createM s n).1 V'),.int .i64 (createM s n).2])∧Made s V w (createM s n).1 V' w':=by
  obtain ⟨Z,hZ⟩:∃ Z,Z=zF:=⟨_,rfl⟩
  have HZZ:Hid (Z=zF):=hZ
  have HZS:Hid (Z.size=9):=by show _=_; rw [hZ]; rfl
  clear hZ
  obtain ⟨W1,hW1⟩:∃ W1,W1=(w.alloc (.cells (fsC s V) 61)).alloc (.cells Z 61):=⟨_,rfl⟩
  have hls:=LS.start h Z
  rw [← hW1] at hls
  obtain ⟨r,hr⟩:∃ r,w.heap.size=r:=⟨_,rfl⟩
  have HRR:Hid (w.heap.size=r):=hr
  rw [hr] at hls
  have HBD:Hid (Bd s):=hb
  have HNS:Hid (n.size ≤ 140737488355328):=hn
  clear hb hn
  clear h hr
  rw [show fsC s V=#[.bool s.down,.int .i64 (s.steps:Int),V.f,V.d,V.s,V.c,V.p,.int .i64 s.crash,V.k] from rfl] at hW1
  rw [show fsC s V=#[.bool s.down,.int .i64 (s.steps:Int),V.f,V.d,V.s,V.c,V.p,.int .i64 s.crash,V.k] from rfl]
  go_enter Tryz.func58,Tryz.ntmps58
  go_upto_region 1 with (refine alF rfl rfl Z HZZ.out ?_)
  rw [← hW1,HRR.out]
  clear hW1
  obtain ⟨dn,hdn⟩:∃ dn,s.down=dn:=⟨_,rfl⟩
  obtain ⟨x0,x1,x2,x3,x4,x5,x6,x7,x8,xf⟩:=row9 (v0:=.bool s.down) (v1:=.int .i64 (s.steps:Int)) (v2:=V.f) (v3:=V.d) (v4:=V.s) (v5:=V.c) (v6:=V.p) (v7:=.int .i64 s.crash) (v8:=V.k) hls.row
  rw [hdn] at x0
  cases dn with
  | true =>
    have HV:Hid (createM s n=(s,203)):=by show _=_; unfold createM; rw [hdn]; rfl
    clear hdn
    go_wp2_with (first | refine ldF (fsC s V) r _ rfl rfl rfl hls.row rfl ?_ | (refine stF rfl _ _ rfl (r + 1) (fsC s V) Z rfl rfl rfl (fsC_one hls.at_) HZS.out hls.res ?_; intro W7 hr7 hm7))
    have hlv:=run_loadVar_mid (P:=Tryz.prog) W7 (r + 1) 0 61 (fsC s V).toList _ (fun j v hv=>by rw [cell_of_row _ _ _ _ _ _ hr7]; simpa using hv) Tryz.underlying61 rfl (by rw [Array.length_toList,fsC_size]; exact i31)
    rw [Array.toArray_toList] at hlv
    refine bodyPost_ret (v:=.tuple #[.agg (fsC s V),.int .i64 (203)]) (by simp [results,Tryz.results58,asAddr,Act.put,hlv,Result.andThen]) rfl ?_
    rw [HV.out]
    exact ⟨_,rfl,hls.fin HRR.out hm7⟩
  | false =>
    go_wp2_with fail
    refine (show Calls _ _ _ _ _ from named_any n HNS.out _).mono ?_
    rintro e wn ⟨rfl,hwn⟩
    rw [hwn]
    clear hwn
    clear x0 x1 x2 x3 x4 x5 x6 x7 x8 xf
    obtain ⟨nm,hnm⟩:∃ nm,namedM n=nm:=⟨_,rfl⟩
    rw [hnm]
    cases nm with
    | false =>
      have HV:Hid (createM s n=(s,202)):=by show _=_; unfold createM; rw [hdn,hnm]; rfl
      clear hdn hnm
      go_wp2_with (first | refine ldF (fsC s V) r _ rfl rfl rfl hls.row rfl ?_ | (refine stF rfl _ _ rfl (r + 1) (fsC s V) Z rfl rfl rfl (fsC_one hls.at_) HZS.out hls.res ?_; intro W7 hr7 hm7))
      have hlv:=run_loadVar_mid (P:=Tryz.prog) W7 (r + 1) 0 61 (fsC s V).toList _ (fun j v hv=>by rw [cell_of_row _ _ _ _ _ _ hr7]; simpa using hv) Tryz.underlying61 rfl (by rw [Array.length_toList,fsC_size]; exact i31)
      rw [Array.toArray_toList] at hlv
      refine bodyPost_ret (v:=.tuple #[.agg (fsC s V),.int .i64 (202)]) (by simp [results,Tryz.results58,asAddr,Act.put,hlv,Result.andThen]) rfl ?_
      rw [HV.out]
      exact ⟨_,rfl,hls.fin HRR.out hm7⟩
    | true =>
      have HDN:Hid (s.down=false):=hdn
      have HNM:Hid (namedM n=true):=hnm
      clear hdn hnm
      obtain ⟨x0,x1,x2,x3,x4,x5,x6,x7,x8,xf⟩:=row9 (v0:=.bool s.down) (v1:=.int .i64 (s.steps:Int)) (v2:=V.f) (v3:=V.d) (v4:=V.s) (v5:=V.c) (v6:=V.p) (v7:=.int .i64 s.crash) (v8:=V.k) hls.row
      obtain ⟨Pd,kd,hvd⟩:=hls.at_.qd.form
      have HVD:Hid (V.d=.slice Pd s.dir.length kd):=hvd
      have HFD:Hid (∀ W,KR slE W V.d s.dir → Calls Tryz.prog 99 #[.slice Pd s.dir.length kd,.string n] W fun e w'=>e=.returned (.int .i64 (findM s.dir n))∧w'=W):=fun W hk=>by rw [← hvd]; exact r_find_any V.d s.dir (by have:=HBD.out.dd; omega) n W hk
      rw [hvd] at x3
      clear hvd
      go_wp2_with fail
      refine (show Calls _ _ _ _ _ from HFD.out _ hls.at_.qd).mono ?_
      rintro e wf ⟨rfl,hwf⟩
      rw [hwf]
      clear hwf
      obtain ⟨fi,hfi⟩:∃ fi,findM s.dir n=fi:=⟨_,rfl⟩
      rw [hfi]
      by_cases hful:fi < 0∧64 ≤ s.dir.length
      · obtain ⟨q1,q2⟩:=hful
        have q3:(64:Int) ≤ (s.dir.length:Int):=by omega
        have HV:Hid (createM s n=(s,3)):=by show _=_; unfold createM; rw [HDN.out,HNM.out]; simp only [Bool.false_eq_true,if_false,if_true]; rw [if_pos ⟨by rw [hfi]; exact q1,q2⟩]
        clear hfi
        go_wp2_with (first | refine ldF (fsC s V) r _ rfl rfl rfl hls.row rfl ?_ | (refine stF rfl _ _ rfl (r + 1) (fsC s V) Z rfl rfl rfl (fsC_one hls.at_) HZS.out hls.res ?_; intro W7 hr7 hm7))
        have hlv:=run_loadVar_mid (P:=Tryz.prog) W7 (r + 1) 0 61 (fsC s V).toList _ (fun j v hv=>by rw [cell_of_row _ _ _ _ _ _ hr7]; simpa using hv) Tryz.underlying61 rfl (by rw [Array.length_toList,fsC_size]; exact i31)
        rw [Array.toArray_toList] at hlv
        refine bodyPost_ret (v:=.tuple #[.agg (fsC s V),.int .i64 (3)]) (by simp [results,Tryz.results58,asAddr,Act.put,hlv,Result.andThen]) rfl ?_
        rw [HV.out]
        exact ⟨_,rfl,hls.fin HRR.out hm7⟩
      · have HNF:Hid (¬ (findM s.dir n < 0∧64 ≤ s.dir.length)):=by show ¬ _; rw [hfi]; exact hful
        have q4:fi < 0 → ¬ (64:Int) ≤ (s.dir.length:Int):=fun a b=>hful ⟨a,by omega⟩
        clear hful hfi
        by_cases q5:fi < 0
        · have q6:=q4 q5
          clear q4
          go_upto_region 7 with fail
          clear x0 x1 x2 x3 x4 x5 x6 x7 x8 xf q5 q6
          go_wp2_with (refine ldF (fsC s V) r _ rfl rfl rfl hls.row rfl ?_)
          refine (show Calls _ _ _ _ _ from step_b s V HBD.out _ hls.at_).mono ?_
          rintro e w3 ⟨V1,rfl,hM1⟩
          obtain ⟨s1,hs1⟩:∃ s1,(stepM s).1=s1:=⟨_,rfl⟩
          obtain ⟨e1,he1⟩:∃ e1,(stepM s).2.1=e1:=⟨_,rfl⟩
          obtain ⟨p1,hp1⟩:∃ p1,(stepM s).2.2=p1:=⟨_,rfl⟩
          rw [hs1] at hM1 ⊢
          rw [he1,hp1]
          have HS1:Hid ((stepM s).1=s1):=hs1
          have HE1:Hid ((stepM s).2.1=e1):=he1
          have HP1:Hid ((stepM s).2.2=p1):=hp1
          clear hs1 he1 hp1
          have HM1:Hid (Made s V _ s1 V1 w3):=hM1
          have HL0:Hid (LS w s V r Z s V _):=hls
          have H1c:Hid ((fsC s1 V1).all (·.oneCell')=true):=fsC_one hM1.at_
          have HRW:Hid _:=keep_row hls.row hM1.bel
          clear hM1
          go_upto_region 8 with (refine stF rfl _ _ rfl r (fsC s1 V1) (fsC s V) rfl rfl rfl H1c.out rfl HRW.out ?_; intro W5 hr5 hm5)
          have hls:=HL0.out.made HM1.out hr5 hm5
          clear hr5 hm5
          by_cases he1:e1=0
          · subst he1
            have hs1':s1={ s with steps:=s.steps + 1 }:=by rw [← HS1.out]; exact stepM_ok HE1.out
            have HF1:Hid (s1.files.length ≤ 3298534883000):=by rw [hs1']; exact HBD.out.fl
            have HD1:Hid (s1.dir.length ≤ 1099511627770):=by rw [hs1']; exact HBD.out.dd
            have HC1:Hid (s1.chg.length ≤ 3298534883328):=by rw [hs1']; have:=HBD.out.cl; show _ ≤ _; simp only; omega
            clear hs1'
            obtain ⟨s2,hs2⟩:∃ s2:Fs,s2={ s1 with files:=s1.files ++ [⟨⟨#[]⟩,0⟩] }:=⟨_,rfl⟩
            have HV:Hid (createM s n=(changeM s2 ⟨n,⟨#[]⟩,(s1.files.length:Int)⟩,0)):=by show _=_; unfold createM; rw [HDN.out,HNM.out]; simp only [Bool.false_eq_true,if_false,if_true]; rw [if_neg HNF.out]; simp only [HE1.out,HS1.out]; rw [hs2]; rfl
            obtain ⟨x0,x1,x2,x3,x4,x5,x6,x7,x8,xf⟩:=row9 (v0:=.bool s1.down) (v1:=.int .i64 (s1.steps:Int)) (v2:=V1.f) (v3:=V1.d) (v4:=V1.s) (v5:=V1.c) (v6:=V1.p) (v7:=.int .i64 s1.crash) (v8:=V1.k) hls.row
            obtain ⟨Pf,kf,hvf⟩:=hls.at_.qf.form
            have HVF:Hid (V1.f=.slice Pf s1.files.length kf):=hvf
            rw [hvf] at x2
            have HLS:Hid (LS w s V r Z s1 V1 W5):=hls
            have HOa:Hid (W5.ownsRow W5.heap.size fiE.T fiE.k (.slice none 0 0) 0 (fiE.fl [])):=⟨rfl,Or.inl ⟨rfl,rfl⟩⟩
            have HKa:Hid (KR fiE W5 (.slice Pf s1.files.length kf) s1.files):=by show KR fiE W5 (.slice Pf s1.files.length kf) s1.files; rw [← hvf]; exact hls.at_.qf
            go_wp2_with (at_builtin; go_must (refine wpList_appB fiOk rfl _ _ rfl W5.heap.size _ [] 0 rfl rfl HOa.out _ (s1.files) rfl HKa.out (s1.files).length (by simp) ?a1 ?a2 (Nat.le_refl _) ?_))
            case a1=>have:=HF1.out; unfold maxLen; simp; omega
            case a2=>have:=HF1.out; show _ * 24 ≤ _; simp; omega
            intro va wa hoa hba
            obtain ⟨Pa,ka,hka⟩:=own_form hoa
            subst hka
            have HOA:Hid (wa.ownsRow W5.heap.size fiE.T fiE.k (.slice Pa s1.files.length ka) s1.files.length (fiE.fl s1.files)):=hoa
            have HBA:Hid (Below W5.heap.size W5 wa):=hba
            clear x0 x1 x2 x3 x4 x5 x6 x7 x8 xf
            clear hoa hba hvf hls
            go_wp2_with (at_builtin; go_must (refine wpList_app1 fiOk #[.string ⟨#[]⟩,.int .i64 0] ⟨⟨#[]⟩,0⟩ rfl rfl _ _ rfl W5.heap.size _ s1.files s1.files.length rfl rfl HOA.out rfl ?b1 ?b2 ?b3 ?_))
            case b1=>have:=HF1.out; unfold maxLen; omega
            case b2=>have:=HF1.out; show _ * 24 ≤ _; omega
            case b3=>exact HBA.out.size
            intro vb wb hob hbb
            have hls:=HLS.out.on (HBA.out.trans hbb)
            have hkb:=KR.own (E:=fiE) hob (by simp)
            have hgb:∀ g o m c,vb=.slice (some ⟨g,o,none⟩) m c → W5.heap.size ≤ g:=fun g o m c e=>KR_ge hob e
            obtain ⟨Pb,kb,hkf⟩:=own_form hob
            subst hkf
            obtain ⟨Lb,hLb⟩:∃ Lb,s1.files.length + 1=Lb:=⟨_,rfl⟩
            rw [hLb] at hkb hgb ⊢
            obtain ⟨V2,hV2⟩:∃ V2:FV,V2=⟨.slice Pb Lb kb,V1.d,V1.s,V1.c,V1.p,V1.k⟩:=⟨_,rfl⟩
            obtain ⟨W6,hW6⟩:∃ W6,W6=wb.setCell ⟨r,2,none⟩ (.slice Pb Lb kb):=⟨_,rfl⟩
            have hr6:W6.heap[r]?=some (.cells (fsC s2 V2) 61):=by rw [hW6]; exact setC hls.row (by rw [hs2,hV2]; rfl)
            have hm6:Mod r wb W6:=by rw [hW6]; exact setMod _ _
            have ha2:FsAt s2 V2 wb:=by rw [hs2,hV2]; exact ⟨hkb,hls.at_.qd,hls.at_.qs,hls.at_.qc,hls.at_.qp,hls.at_.qk⟩
            have hsz:=HLS.out.sz
            have hls2:LS w s V r Z s2 V2 W6:=hls.put hr6 hm6 ha2 (by rw [hs2,hV2]; exact ⟨fun _ g o m c e hk=>by have:=hgb g o m c e; rcases hk with hk | hk <;> omega,hls.lo.ad,hls.lo.as_,hls.lo.ac,hls.lo.ap,hls.lo.ak⟩) (fun S hS hA=>by rw [hs2,hV2]; exact ⟨fun _ g o m c e hk=>by have:=hgb g o m c e; have:=hS g hk; omega,hA.ad,hA.as_,hA.ac,hA.ap,hA.ak⟩)
            obtain ⟨x0,x1,x2,x3,x4,x5,x6,x7,x8,xf⟩:=row9 (v0:=.bool s1.down) (v1:=.int .i64 (s1.steps:Int)) (v2:=V1.f) (v3:=V1.d) (v4:=V1.s) (v5:=V1.c) (v6:=V1.p) (v7:=.int .i64 s1.crash) (v8:=V1.k) hls.row
            have HD2:Hid (s2.dir.length ≤ 1099511627770):=by rw [hs2]; exact HD1.out
            have HC2:Hid (s2.chg.length ≤ 3298534883328):=by rw [hs2]; exact HC1.out
            have hcell2:W6.cell? ⟨r,2,none⟩=some (.slice Pb Lb kb):=by rw [cellC hr6,hs2,hV2]; rfl
            have HLB:Hid (IntKind.i64.wrap ((Lb:Int) - 1)=(s1.files.length:Int)):=by have:=HF1.out; show _=_; rw [IntKind.wrap_i64] <;> omega
            clear hr6 hm6 ha2 hs2 hV2 hkb hgb hob hbb hsz hLb hls
            go_upto_region 13 with fail
            rw [← hW6]
            clear hW6 x0 x1 x2 x3 x4 x5 x6 x7 x8 xf
            have hlb:=HLB.out
            go_wp2_with (refine ldF (fsC s2 V2) r _ rfl rfl rfl hls2.row rfl ?_)
            refine (show Calls _ _ _ _ _ from r_change_any s2 V2 ⟨n,⟨#[]⟩,(s1.files.length:Int)⟩ HD2.out HC2.out _ hls2.at_).mono ?_
            rintro e w9 ⟨V2_,rfl,hM⟩
            have HMM:Hid _:=hM
            have HZ9:Hid _:=keep_row hls2.res hM.bel
            go_wp2_with (refine stF rfl _ _ rfl (r + 1) (fsC (changeM s2 ⟨n,⟨#[]⟩,(s1.files.length:Int)⟩) V2_) Z rfl rfl rfl (fsC_one HMM.out.at_) HZS.out HZ9.out ?_; intro W7 hr7 hm7)
            have hlv:=run_loadVar_mid (P:=Tryz.prog) W7 (r + 1) 0 61 (fsC (changeM s2 ⟨n,⟨#[]⟩,(s1.files.length:Int)⟩) V2_).toList _ (fun j v hv=>by rw [cell_of_row _ _ _ _ _ _ hr7]; simpa using hv) Tryz.underlying61 rfl (by rw [Array.length_toList,fsC_size]; exact i31)
            rw [Array.toArray_toList] at hlv
            refine bodyPost_ret (v:=.tuple #[.agg (fsC (changeM s2 ⟨n,⟨#[]⟩,(s1.files.length:Int)⟩) V2_),.int .i64 0]) (by simp [results,Tryz.results58,asAddr,Act.put,hlv,Result.andThen]) rfl ?_
            rw [HV.out]
            exact ⟨_,rfl,hls2.finM HRR.out HMM.out hm7⟩
          · have HV:Hid (createM s n=(s1,e1)):=by show _=_; unfold createM; rw [HDN.out,HNM.out]; simp only [Bool.false_eq_true,if_false,if_true]; rw [if_neg HNF.out]; simp only [HE1.out,HS1.out]; rw [if_neg he1]
            have heb:(e1 != 0)=true:=bne_iff_ne.mpr he1
            clear he1
            go_wp2_with (first | refine ldF (fsC s1 V1) r _ rfl rfl rfl hls.row rfl ?_ | (refine stF rfl _ _ rfl (r + 1) (fsC s1 V1) Z rfl rfl rfl (fsC_one hls.at_) HZS.out hls.res ?_; intro W7 hr7 hm7))
            have hlv:=run_loadVar_mid (P:=Tryz.prog) W7 (r + 1) 0 61 (fsC s1 V1).toList _ (fun j v hv=>by rw [cell_of_row _ _ _ _ _ _ hr7]; simpa using hv) Tryz.underlying61 rfl (by rw [Array.length_toList,fsC_size]; exact i31)
            rw [Array.toArray_toList] at hlv
            refine bodyPost_ret (v:=.tuple #[.agg (fsC s1 V1),.int .i64 (e1)]) (by simp [results,Tryz.results58,asAddr,Act.put,hlv,Result.andThen]) rfl ?_
            rw [HV.out]
            exact ⟨_,rfl,hls.fin HRR.out hm7⟩
        · clear q4
          go_upto_region 7 with fail
          clear x0 x1 x2 x3 x4 x5 x6 x7 x8 xf q5
          go_wp2_with (refine ldF (fsC s V) r _ rfl rfl rfl hls.row rfl ?_)
          refine (show Calls _ _ _ _ _ from step_b s V HBD.out _ hls.at_).mono ?_
          rintro e w3 ⟨V1,rfl,hM1⟩
          obtain ⟨s1,hs1⟩:∃ s1,(stepM s).1=s1:=⟨_,rfl⟩
          obtain ⟨e1,he1⟩:∃ e1,(stepM s).2.1=e1:=⟨_,rfl⟩
          obtain ⟨p1,hp1⟩:∃ p1,(stepM s).2.2=p1:=⟨_,rfl⟩
          rw [hs1] at hM1 ⊢
          rw [he1,hp1]
          have HS1:Hid ((stepM s).1=s1):=hs1
          have HE1:Hid ((stepM s).2.1=e1):=he1
          have HP1:Hid ((stepM s).2.2=p1):=hp1
          clear hs1 he1 hp1
          have HM1:Hid (Made s V _ s1 V1 w3):=hM1
          have HL0:Hid (LS w s V r Z s V _):=hls
          have H1c:Hid ((fsC s1 V1).all (·.oneCell')=true):=fsC_one hM1.at_
          have HRW:Hid _:=keep_row hls.row hM1.bel
          clear hM1
          go_upto_region 8 with (refine stF rfl _ _ rfl r (fsC s1 V1) (fsC s V) rfl rfl rfl H1c.out rfl HRW.out ?_; intro W5 hr5 hm5)
          have hls:=HL0.out.made HM1.out hr5 hm5
          clear hr5 hm5
          by_cases he1:e1=0
          · subst he1
            have hs1':s1={ s with steps:=s.steps + 1 }:=by rw [← HS1.out]; exact stepM_ok HE1.out
            have HF1:Hid (s1.files.length ≤ 3298534883000):=by rw [hs1']; exact HBD.out.fl
            have HD1:Hid (s1.dir.length ≤ 1099511627770):=by rw [hs1']; exact HBD.out.dd
            have HC1:Hid (s1.chg.length ≤ 3298534883328):=by rw [hs1']; have:=HBD.out.cl; show _ ≤ _; simp only; omega
            clear hs1'
            obtain ⟨s2,hs2⟩:∃ s2:Fs,s2={ s1 with files:=s1.files ++ [⟨⟨#[]⟩,0⟩] }:=⟨_,rfl⟩
            have HV:Hid (createM s n=(changeM s2 ⟨n,⟨#[]⟩,(s1.files.length:Int)⟩,0)):=by show _=_; unfold createM; rw [HDN.out,HNM.out]; simp only [Bool.false_eq_true,if_false,if_true]; rw [if_neg HNF.out]; simp only [HE1.out,HS1.out]; rw [hs2]; rfl
            obtain ⟨x0,x1,x2,x3,x4,x5,x6,x7,x8,xf⟩:=row9 (v0:=.bool s1.down) (v1:=.int .i64 (s1.steps:Int)) (v2:=V1.f) (v3:=V1.d) (v4:=V1.s) (v5:=V1.c) (v6:=V1.p) (v7:=.int .i64 s1.crash) (v8:=V1.k) hls.row
            obtain ⟨Pf,kf,hvf⟩:=hls.at_.qf.form
            have HVF:Hid (V1.f=.slice Pf s1.files.length kf):=hvf
            rw [hvf] at x2
            have HLS:Hid (LS w s V r Z s1 V1 W5):=hls
            have HOa:Hid (W5.ownsRow W5.heap.size fiE.T fiE.k (.slice none 0 0) 0 (fiE.fl [])):=⟨rfl,Or.inl ⟨rfl,rfl⟩⟩
            have HKa:Hid (KR fiE W5 (.slice Pf s1.files.length kf) s1.files):=by show KR fiE W5 (.slice Pf s1.files.length kf) s1.files; rw [← hvf]; exact hls.at_.qf
            go_wp2_with (at_builtin; go_must (refine wpList_appB fiOk rfl _ _ rfl W5.heap.size _ [] 0 rfl rfl HOa.out _ (s1.files) rfl HKa.out (s1.files).length (by simp) ?c1 ?c2 (Nat.le_refl _) ?_))
            case c1=>have:=HF1.out; unfold maxLen; simp; omega
            case c2=>have:=HF1.out; show _ * 24 ≤ _; simp; omega
            intro va wa hoa hba
            obtain ⟨Pa,ka,hka⟩:=own_form hoa
            subst hka
            have HOA:Hid (wa.ownsRow W5.heap.size fiE.T fiE.k (.slice Pa s1.files.length ka) s1.files.length (fiE.fl s1.files)):=hoa
            have HBA:Hid (Below W5.heap.size W5 wa):=hba
            clear x0 x1 x2 x3 x4 x5 x6 x7 x8 xf
            clear hoa hba hvf hls
            go_wp2_with (at_builtin; go_must (refine wpList_app1 fiOk #[.string ⟨#[]⟩,.int .i64 0] ⟨⟨#[]⟩,0⟩ rfl rfl _ _ rfl W5.heap.size _ s1.files s1.files.length rfl rfl HOA.out rfl ?d1 ?d2 ?d3 ?_))
            case d1=>have:=HF1.out; unfold maxLen; omega
            case d2=>have:=HF1.out; show _ * 24 ≤ _; omega
            case d3=>exact HBA.out.size
            intro vb wb hob hbb
            have hls:=HLS.out.on (HBA.out.trans hbb)
            have hkb:=KR.own (E:=fiE) hob (by simp)
            have hgb:∀ g o m c,vb=.slice (some ⟨g,o,none⟩) m c → W5.heap.size ≤ g:=fun g o m c e=>KR_ge hob e
            obtain ⟨Pb,kb,hkf⟩:=own_form hob
            subst hkf
            obtain ⟨Lb,hLb⟩:∃ Lb,s1.files.length + 1=Lb:=⟨_,rfl⟩
            rw [hLb] at hkb hgb ⊢
            obtain ⟨V2,hV2⟩:∃ V2:FV,V2=⟨.slice Pb Lb kb,V1.d,V1.s,V1.c,V1.p,V1.k⟩:=⟨_,rfl⟩
            obtain ⟨W6,hW6⟩:∃ W6,W6=wb.setCell ⟨r,2,none⟩ (.slice Pb Lb kb):=⟨_,rfl⟩
            have hr6:W6.heap[r]?=some (.cells (fsC s2 V2) 61):=by rw [hW6]; exact setC hls.row (by rw [hs2,hV2]; rfl)
            have hm6:Mod r wb W6:=by rw [hW6]; exact setMod _ _
            have ha2:FsAt s2 V2 wb:=by rw [hs2,hV2]; exact ⟨hkb,hls.at_.qd,hls.at_.qs,hls.at_.qc,hls.at_.qp,hls.at_.qk⟩
            have hsz:=HLS.out.sz
            have hls2:LS w s V r Z s2 V2 W6:=hls.put hr6 hm6 ha2 (by rw [hs2,hV2]; exact ⟨fun _ g o m c e hk=>by have:=hgb g o m c e; rcases hk with hk | hk <;> omega,hls.lo.ad,hls.lo.as_,hls.lo.ac,hls.lo.ap,hls.lo.ak⟩) (fun S hS hA=>by rw [hs2,hV2]; exact ⟨fun _ g o m c e hk=>by have:=hgb g o m c e; have:=hS g hk; omega,hA.ad,hA.as_,hA.ac,hA.ap,hA.ak⟩)
            obtain ⟨x0,x1,x2,x3,x4,x5,x6,x7,x8,xf⟩:=row9 (v0:=.bool s1.down) (v1:=.int .i64 (s1.steps:Int)) (v2:=V1.f) (v3:=V1.d) (v4:=V1.s) (v5:=V1.c) (v6:=V1.p) (v7:=.int .i64 s1.crash) (v8:=V1.k) hls.row
            have HD2:Hid (s2.dir.length ≤ 1099511627770):=by rw [hs2]; exact HD1.out
            have HC2:Hid (s2.chg.length ≤ 3298534883328):=by rw [hs2]; exact HC1.out
            have hcell2:W6.cell? ⟨r,2,none⟩=some (.slice Pb Lb kb):=by rw [cellC hr6,hs2,hV2]; rfl
            have HLB:Hid (IntKind.i64.wrap ((Lb:Int) - 1)=(s1.files.length:Int)):=by have:=HF1.out; show _=_; rw [IntKind.wrap_i64] <;> omega
            clear hr6 hm6 ha2 hs2 hV2 hkb hgb hob hbb hsz hLb hls
            go_upto_region 13 with fail
            rw [← hW6]
            clear hW6 x0 x1 x2 x3 x4 x5 x6 x7 x8 xf
            have hlb:=HLB.out
            go_wp2_with (refine ldF (fsC s2 V2) r _ rfl rfl rfl hls2.row rfl ?_)
            refine (show Calls _ _ _ _ _ from r_change_any s2 V2 ⟨n,⟨#[]⟩,(s1.files.length:Int)⟩ HD2.out HC2.out _ hls2.at_).mono ?_
            rintro e w9 ⟨V2_,rfl,hM⟩
            have HMM:Hid _:=hM
            have HZ9:Hid _:=keep_row hls2.res hM.bel
            go_wp2_with (refine stF rfl _ _ rfl (r + 1) (fsC (changeM s2 ⟨n,⟨#[]⟩,(s1.files.length:Int)⟩) V2_) Z rfl rfl rfl (fsC_one HMM.out.at_) HZS.out HZ9.out ?_; intro W7 hr7 hm7)
            have hlv:=run_loadVar_mid (P:=Tryz.prog) W7 (r + 1) 0 61 (fsC (changeM s2 ⟨n,⟨#[]⟩,(s1.files.length:Int)⟩) V2_).toList _ (fun j v hv=>by rw [cell_of_row _ _ _ _ _ _ hr7]; simpa using hv) Tryz.underlying61 rfl (by rw [Array.length_toList,fsC_size]; exact i31)
            rw [Array.toArray_toList] at hlv
            refine bodyPost_ret (v:=.tuple #[.agg (fsC (changeM s2 ⟨n,⟨#[]⟩,(s1.files.length:Int)⟩) V2_),.int .i64 0]) (by simp [results,Tryz.results58,asAddr,Act.put,hlv,Result.andThen]) rfl ?_
            rw [HV.out]
            exact ⟨_,rfl,hls2.finM HRR.out HMM.out hm7⟩
          · have HV:Hid (createM s n=(s1,e1)):=by show _=_; unfold createM; rw [HDN.out,HNM.out]; simp only [Bool.false_eq_true,if_false,if_true]; rw [if_neg HNF.out]; simp only [HE1.out,HS1.out]; rw [if_neg he1]
            have heb:(e1 != 0)=true:=bne_iff_ne.mpr he1
            clear he1
            go_wp2_with (first | refine ldF (fsC s1 V1) r _ rfl rfl rfl hls.row rfl ?_ | (refine stF rfl _ _ rfl (r + 1) (fsC s1 V1) Z rfl rfl rfl (fsC_one hls.at_) HZS.out hls.res ?_; intro W7 hr7 hm7))
            have hlv:=run_loadVar_mid (P:=Tryz.prog) W7 (r + 1) 0 61 (fsC s1 V1).toList _ (fun j v hv=>by rw [cell_of_row _ _ _ _ _ _ hr7]; simpa using hv) Tryz.underlying61 rfl (by rw [Array.length_toList,fsC_size]; exact i31)
            rw [Array.toArray_toList] at hlv
            refine bodyPost_ret (v:=.tuple #[.agg (fsC s1 V1),.int .i64 (e1)]) (by simp [results,Tryz.results58,asAddr,Act.put,hlv,Result.andThen]) rfl ?_
            rw [HV.out]
            exact ⟨_,rfl,hls.fin HRR.out hm7⟩
end Go.Proofs.YtbgbmfmgdgalbaaGreatDoor
