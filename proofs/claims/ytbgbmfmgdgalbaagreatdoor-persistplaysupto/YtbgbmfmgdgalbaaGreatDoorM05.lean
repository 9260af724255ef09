import Derived.Test.YtbgbmfmgdgalbaaGreatDoorM04
namespace Go.Proofs.YtbgbmfmgdgalbaaGreatDoor
open Go.RowKit
set_option linter.unusedVariables false
set_option linter.unusedSimpArgs false
set_option maxHeartbeats 2000000 in
set_option maxRecDepth 20000 in
theorem fail_any (s:Fs) (V:FV) (n p:Int) (hb:Bd s) (hp:s.fails.length ≤ 8796093022000) (w:World) (h:FsAt s V w):Calls Tryz.prog 55 #[.agg (fsC s V),.int .i64 n,.int .i64 p] w fun e w'=>∃ V',e=.returned (.tuple #[.agg (fsC (failsM s n p).1 V'),.int .i64 (failsM s n p).2])∧Made s V w (failsM s n p).1 V' w':=by
  obtain ⟨Z,hZ⟩:∃ Z,Z=zF:=⟨_,rfl⟩
  have HZZ:Hid (Z=zF):=hZ
  have HZS:Hid (Z.size=9):=by show _=_; rw [hZ]; rfl
  clear hZ
  obtain ⟨W1,hW1⟩:∃ W1,W1=(w.alloc (.cells (fsC s V) 61)).alloc (.cells Z 61):=⟨_,rfl⟩
  have hls:=LS.start h Z
  rw [← hW1] at hls
  obtain ⟨r,hr⟩:∃ r,w.heap.size=r:=⟨_,rfl⟩
  have HRR:Hid (w.heap.size=r):=hr
  rw [hr] at hls
  have HBD:Hid (Bd s):=hb
  have HFL:Hid (s.fails.length ≤ 8796093022000):=hp
  clear hb hp
  clear h hr
  rw [show fsC s V=#[.bool s.down,.int .i64 (s.steps:Int),V.f,V.d,V.s,V.c,V.p,.int .i64 s.crash,V.k] from rfl] at hW1
  rw [show fsC s V=#[.bool s.down,.int .i64 (s.steps:Int),V.f,V.d,V.s,V.c,V.p,.int .i64 s.crash,V.k] from rfl]
  go_enter Tryz.func55,Tryz.ntmps55
  go_upto_region 1 with (refine alF rfl rfl Z HZZ.out ?_)
  rw [← hW1,HRR.out]
  clear hW1
  obtain ⟨dn,hdn⟩:∃ dn,s.down=dn:=⟨_,rfl⟩
  obtain ⟨x0,x1,x2,x3,x4,x5,x6,x7,x8,xf⟩:=row9 (v0:=.bool s.down) (v1:=.int .i64 (s.steps:Int)) (v2:=V.f) (v3:=V.d) (v4:=V.s) (v5:=V.c) (v6:=V.p) (v7:=.int .i64 s.crash) (v8:=V.k) hls.row
  rw [hdn] at x0
  cases dn with
  | true =>
    have HV:Hid (failsM s n p=(s,203)):=by show _=_; unfold failsM; rw [hdn]; rfl
    clear hdn
    go_wp2_with (first | refine ldF (fsC s V) r _ rfl rfl rfl hls.row rfl ?_ | (refine stF rfl _ _ rfl (r + 1) (fsC s V) Z rfl rfl rfl (fsC_one hls.at_) HZS.out hls.res ?_; intro W7 hr7 hm7))
    have hlv:=run_loadVar_mid (P:=Tryz.prog) W7 (r + 1) 0 61 (fsC s V).toList _ (fun j v hv=>by rw [cell_of_row _ _ _ _ _ _ hr7]; simpa using hv) Tryz.underlying61 rfl (by rw [Array.length_toList,fsC_size]; exact i31)
    rw [Array.toArray_toList] at hlv
    refine bodyPost_ret (v:=.tuple #[.agg (fsC s V),.int .i64 (203)]) (by simp [results,Tryz.results55,asAddr,Act.put,hlv,Result.andThen]) rfl ?_
    rw [HV.out]
    exact ⟨_,rfl,hls.fin HRR.out hm7⟩
  | false =>
    have HDN:Hid (s.down=false):=hdn
    clear hdn
    by_cases q1:n < 1
    · have HV:Hid (failsM s n p=(s,1)):=by show _=_; unfold failsM; rw [HDN.out]; simp only [Bool.false_eq_true,if_false]; rw [if_pos (Or.inl q1)]
      go_wp2_with (first | refine ldF (fsC s V) r _ rfl rfl rfl hls.row rfl ?_ | (refine stF rfl _ _ rfl (r + 1) (fsC s V) Z rfl rfl rfl (fsC_one hls.at_) HZS.out hls.res ?_; intro W7 hr7 hm7))
      have hlv:=run_loadVar_mid (P:=Tryz.prog) W7 (r + 1) 0 61 (fsC s V).toList _ (fun j v hv=>by rw [cell_of_row _ _ _ _ _ _ hr7]; simpa using hv) Tryz.underlying61 rfl (by rw [Array.length_toList,fsC_size]; exact i31)
      rw [Array.toArray_toList] at hlv
      refine bodyPost_ret (v:=.tuple #[.agg (fsC s V),.int .i64 (1)]) (by simp [results,Tryz.results55,asAddr,Act.put,hlv,Result.andThen]) rfl ?_
      rw [HV.out]
      exact ⟨_,rfl,hls.fin HRR.out hm7⟩
    · by_cases q2:1099511627776 < n
      · have HV:Hid (failsM s n p=(s,1)):=by show _=_; unfold failsM; rw [HDN.out]; simp only [Bool.false_eq_true,if_false]; rw [if_pos (Or.inr q2)]
        go_wp2_with (first | refine ldF (fsC s V) r _ rfl rfl rfl hls.row rfl ?_ | (refine stF rfl _ _ rfl (r + 1) (fsC s V) Z rfl rfl rfl (fsC_one hls.at_) HZS.out hls.res ?_; intro W7 hr7 hm7))
        have hlv:=run_loadVar_mid (P:=Tryz.prog) W7 (r + 1) 0 61 (fsC s V).toList _ (fun j v hv=>by rw [cell_of_row _ _ _ _ _ _ hr7]; simpa using hv) Tryz.underlying61 rfl (by rw [Array.length_toList,fsC_size]; exact i31)
        rw [Array.toArray_toList] at hlv
        refine bodyPost_ret (v:=.tuple #[.agg (fsC s V),.int .i64 (1)]) (by simp [results,Tryz.results55,asAddr,Act.put,hlv,Result.andThen]) rfl ?_
        rw [HV.out]
        exact ⟨_,rfl,hls.fin HRR.out hm7⟩
      · obtain ⟨s2,hs2⟩:∃ s2:Fs,s2={ s with fails:=s.fails ++ [((s.steps:Int) + n,p)] }:=⟨_,rfl⟩
        have HV:Hid (failsM s n p=(s2,0)):=by show _=_; unfold failsM; rw [if_neg (by rw [HDN.out]; decide),if_neg (by omega),hs2]
        have HWN:Hid (IntKind.i64.wrap ((s.steps:Int) + n)=(s.steps:Int) + n):=by have:=HBD.out.st; show _=_; rw [IntKind.wrap_i64] <;> omega
        obtain ⟨Pp,kp,hvp⟩:=hls.at_.qp.form
        have HLS:Hid (LS w s V r Z s V W1):=hls
        rw [hvp] at x6
        have HOa:Hid (W1.ownsRow W1.heap.size plE.T plE.k (.slice none 0 0) 0 (plE.fl [])):=⟨rfl,Or.inl ⟨rfl,rfl⟩⟩
        have HKa:Hid (KR plE W1 (.slice Pp s.fails.length kp) s.fails):=by show KR plE W1 (.slice Pp s.fails.length kp) s.fails; rw [← hvp]; exact hls.at_.qp
        go_wp2_with (at_builtin; go_must (refine wpList_appB plOk rfl _ _ rfl W1.heap.size _ [] 0 rfl rfl HOa.out _ (s.fails) rfl HKa.out (s.fails).length (by simp) ?a1 ?a2 (Nat.le_refl _) ?_))
        case a1=>have:=HFL.out; unfold maxLen; first | omega | (simp; omega)
        case a2=>have:=HFL.out; show _ * 16 ≤ _; first | omega | (simp; omega)
        intro va wa hoa hba
        obtain ⟨Pa,ka,hka⟩:=own_form hoa
        subst hka
        have HOA:Hid (wa.ownsRow W1.heap.size plE.T plE.k (.slice Pa s.fails.length ka) s.fails.length (plE.fl s.fails)):=hoa
        have HBA:Hid (Below W1.heap.size W1 wa):=hba
        clear x0 x1 x2 x3 x4 x5 x6 x7 x8 xf
        clear hoa hba hvp hls q1 q2
        have hls:=HLS.out.on HBA.out
        obtain ⟨x0,x1,x2,x3,x4,x5,x6,x7,x8,xf⟩:=row9 (v0:=.bool s.down) (v1:=.int .i64 (s.steps:Int)) (v2:=V.f) (v3:=V.d) (v4:=V.s) (v5:=V.c) (v6:=V.p) (v7:=.int .i64 s.crash) (v8:=V.k) hls.row
        clear hls
        have hwn:=HWN.out
        go_wp2_with (at_builtin; go_must (refine wpList_app1 plOk #[.int .i64 ((s.steps:Int) + n),.int .i64 p] ((s.steps:Int) + n,p) rfl rfl _ _ rfl W1.heap.size _ s.fails s.fails.length rfl rfl HOA.out rfl ?b1 ?b2 ?b3 ?_))
        case b1=>have:=HFL.out; unfold maxLen; omega
        case b2=>have:=HFL.out; show _ * 16 ≤ _; omega
        case b3=>exact HBA.out.size
        intro vb wb hob hbb
        clear x0 x1 x2 x3 x4 x5 x6 x7 x8 xf
        have hls:=HLS.out.on (HBA.out.trans hbb)
        have hkb:=KR.own (E:=plE) hob (by simp)
        have hgb:∀ g o m c,vb=.slice (some ⟨g,o,none⟩) m c → W1.heap.size ≤ g:=fun g o m c e=>KR_ge hob e
        obtain ⟨Pb,kb,hkf⟩:=own_form hob
        subst hkf
        obtain ⟨Lb,hLb⟩:∃ Lb,s.fails.length + 1=Lb:=⟨_,rfl⟩
        rw [hLb] at hkb hgb ⊢
        obtain ⟨V2,hV2⟩:∃ V2:FV,V2=⟨V.f,V.d,V.s,V.c,.slice Pb Lb kb,V.k⟩:=⟨_,rfl⟩
        obtain ⟨W6,hW6⟩:∃ W6,W6=wb.setCell ⟨r,6,none⟩ (.slice Pb Lb kb):=⟨_,rfl⟩
        have hr6:W6.heap[r]?=some (.cells (fsC s2 V2) 61):=by rw [hW6]; exact setC hls.row (by rw [hs2,hV2]; rfl)
        have hm6:Mod r wb W6:=by rw [hW6]; exact setMod _ _
        have ha2:FsAt s2 V2 wb:=by rw [hs2,hV2]; exact ⟨hls.at_.qf,hls.at_.qd,hls.at_.qs,hls.at_.qc,hkb,hls.at_.qk⟩
        have hsz:=HLS.out.sz
        have hls2:LS w s V r Z s2 V2 W6:=hls.put hr6 hm6 ha2 (by rw [hs2,hV2]; exact ⟨hls.lo.af,hls.lo.ad,hls.lo.as_,hls.lo.ac,fun _ g o m c e hk=>by have:=hgb g o m c e; rcases hk with hk | hk <;> omega,hls.lo.ak⟩) (fun S hS hA=>by rw [hs2,hV2]; exact ⟨hA.af,hA.ad,hA.as_,hA.ac,fun _ g o m c e hk=>by have:=hgb g o m c e; have:=hS g hk; omega,hA.ak⟩)
        obtain ⟨x0,x1,x2,x3,x4,x5,x6,x7,x8,xf⟩:=row9 (v0:=.bool s.down) (v1:=.int .i64 (s.steps:Int)) (v2:=V.f) (v3:=V.d) (v4:=V.s) (v5:=V.c) (v6:=V.p) (v7:=.int .i64 s.crash) (v8:=V.k) hls.row
        clear hr6 hm6 ha2 hs2 hV2 hkb hgb hob hbb hsz hLb hls hwn
        go_upto_region 8 with fail
        rw [← hW6]
        clear hW6 x0 x1 x2 x3 x4 x5 x6 x7 x8 xf
        go_wp2_with (first | refine ldF (fsC s2 V2) r _ rfl rfl rfl hls2.row rfl ?_ | (refine stF rfl _ _ rfl (r + 1) (fsC s2 V2) Z rfl rfl rfl (fsC_one hls2.at_) HZS.out hls2.res ?_; intro W7 hr7 hm7))
        have hlv:=run_loadVar_mid (P:=Tryz.prog) W7 (r + 1) 0 61 (fsC s2 V2).toList _ (fun j v hv=>by rw [cell_of_row _ _ _ _ _ _ hr7]; simpa using hv) Tryz.underlying61 rfl (by rw [Array.length_toList,fsC_size]; exact i31)
        rw [Array.toArray_toList] at hlv
        refine bodyPost_ret (v:=.tuple #[.agg (fsC s2 V2),.int .i64 (0)]) (by simp [results,Tryz.results55,asAddr,Act.put,hlv,Result.andThen]) rfl ?_
        rw [HV.out]
        exact ⟨_,rfl,hls2.fin HRR.out hm7⟩
set_option maxHeartbeats 2000000 in
set_option maxRecDepth 20000 in
theorem crash_any (s:Fs) (V:FV) (n:Int) (pv:Value) (p:List Int) (hb:Bd s) (hp:p.length ≤ 17592186044416) (w:World) (h:FsAt s V w) (hk:KR inE w pv p):Calls Tryz.prog 56 #[.agg (fsC s V),.int .i64 n,pv] w fun e w'=>∃ V',e=.returned (.tuple #[.agg (fsC (crashM s n p).1 V'),.int .i64 (crashM s n p).2])∧Made s V w (crashM s n p).1 V' w':=by
  obtain ⟨Z,hZ⟩:∃ Z,Z=zF:=⟨_,rfl⟩
  have HZZ:Hid (Z=zF):=hZ
  have HZS:Hid (Z.size=9):=by show _=_; rw [hZ]; rfl
  clear hZ
  obtain ⟨W1,hW1⟩:∃ W1,W1=(w.alloc (.cells (fsC s V) 61)).alloc (.cells Z 61):=⟨_,rfl⟩
  have hls:=LS.start h Z
  rw [← hW1] at hls
  obtain ⟨r,hr⟩:∃ r,w.heap.size=r:=⟨_,rfl⟩
  have HRR:Hid (w.heap.size=r):=hr
  rw [hr] at hls
  have HBD:Hid (Bd s):=hb
  have HPL:Hid (p.length ≤ 17592186044416):=hp
  have HKP:Hid (KR inE w pv p):=hk
  obtain ⟨Pv,kv,hpv⟩:=hk.form
  subst hpv
  clear hb hp hk
  clear h hr
  rw [show fsC s V=#[.bool s.down,.int .i64 (s.steps:Int),V.f,V.d,V.s,V.c,V.p,.int .i64 s.crash,V.k] from rfl] at hW1
  rw [show fsC s V=#[.bool s.down,.int .i64 (s.steps:Int),V.f,V.d,V.s,V.c,V.p,.int .i64 s.crash,V.k] from rfl]
  go_enter Tryz.func56,Tryz.ntmps56
  go_upto_region 1 with (refine alF rfl rfl Z HZZ.out ?_)
  rw [← hW1,HRR.out]
  clear hW1
  obtain ⟨dn,hdn⟩:∃ dn,s.down=dn:=⟨_,rfl⟩
  obtain ⟨x0,x1,x2,x3,x4,x5,x6,x7,x8,xf⟩:=row9 (v0:=.bool s.down) (v1:=.int .i64 (s.steps:Int)) (v2:=V.f) (v3:=V.d) (v4:=V.s) (v5:=V.c) (v6:=V.p) (v7:=.int .i64 s.crash) (v8:=V.k) hls.row
  rw [hdn] at x0
  cases dn with
  | true =>
    have HV:Hid (crashM s n p=(s,203)):=by show _=_; unfold crashM; rw [hdn]; rfl
    clear hdn
    go_wp2_with (first | refine ldF (fsC s V) r _ rfl rfl rfl hls.row rfl ?_ | (refine stF rfl _ _ rfl (r + 1) (fsC s V) Z rfl rfl rfl (fsC_one hls.at_) HZS.out hls.res ?_; intro W7 hr7 hm7))
    have hlv:=run_loadVar_mid (P:=Tryz.prog) W7 (r + 1) 0 61 (fsC s V).toList _ (fun j v hv=>by rw [cell_of_row _ _ _ _ _ _ hr7]; simpa using hv) Tryz.underlying61 rfl (by rw [Array.length_toList,fsC_size]; exact i31)
    rw [Array.toArray_toList] at hlv
    refine bodyPost_ret (v:=.tuple #[.agg (fsC s V),.int .i64 (203)]) (by simp [results,Tryz.results56,asAddr,Act.put,hlv,Result.andThen]) rfl ?_
    rw [HV.out]
    exact ⟨_,rfl,hls.fin HRR.out hm7⟩
  | false =>
    have HDN:Hid (s.down=false):=hdn
    clear hdn
    by_cases q1:n < 0
    · have HV:Hid (crashM s n p=(s,1)):=by show _=_; unfold crashM; rw [HDN.out]; simp only [Bool.false_eq_true,if_false]; rw [if_pos (Or.inl q1)]
      go_wp2_with (first | refine ldF (fsC s V) r _ rfl rfl rfl hls.row rfl ?_ | (refine stF rfl _ _ rfl (r + 1) (fsC s V) Z rfl rfl rfl (fsC_one hls.at_) HZS.out hls.res ?_; intro W7 hr7 hm7))
      have hlv:=run_loadVar_mid (P:=Tryz.prog) W7 (r + 1) 0 61 (fsC s V).toList _ (fun j v hv=>by rw [cell_of_row _ _ _ _ _ _ hr7]; simpa using hv) Tryz.underlying61 rfl (by rw [Array.length_toList,fsC_size]; exact i31)
      rw [Array.toArray_toList] at hlv
      refine bodyPost_ret (v:=.tuple #[.agg (fsC s V),.int .i64 (1)]) (by simp [results,Tryz.results56,asAddr,Act.put,hlv,Result.andThen]) rfl ?_
      rw [HV.out]
      exact ⟨_,rfl,hls.fin HRR.out hm7⟩
    · by_cases q2:1099511627776 < n
      · have HV:Hid (crashM s n p=(s,1)):=by show _=_; unfold crashM; rw [HDN.out]; simp only [Bool.false_eq_true,if_false]; rw [if_pos (Or.inr q2)]
        go_wp2_with (first | refine ldF (fsC s V) r _ rfl rfl rfl hls.row rfl ?_ | (refine stF rfl _ _ rfl (r + 1) (fsC s V) Z rfl rfl rfl (fsC_one hls.at_) HZS.out hls.res ?_; intro W7 hr7 hm7))
        have hlv:=run_loadVar_mid (P:=Tryz.prog) W7 (r + 1) 0 61 (fsC s V).toList _ (fun j v hv=>by rw [cell_of_row _ _ _ _ _ _ hr7]; simpa using hv) Tryz.underlying61 rfl (by rw [Array.length_toList,fsC_size]; exact i31)
        rw [Array.toArray_toList] at hlv
        refine bodyPost_ret (v:=.tuple #[.agg (fsC s V),.int .i64 (1)]) (by simp [results,Tryz.results56,asAddr,Act.put,hlv,Result.andThen]) rfl ?_
        rw [HV.out]
        exact ⟨_,rfl,hls.fin HRR.out hm7⟩
      · by_cases q3:n=0
        · subst q3
          have HV:Hid (crashM s 0 p=(downM s p,0)):=by show _=_; unfold crashM; rw [HDN.out]; simp
          clear q1 q2
          go_upto_region 6 with fail
          clear x0 x1 x2 x3 x4 x5 x6 x7 x8 xf
          go_wp2_with (refine ldF (fsC s V) r _ rfl rfl rfl hls.row rfl ?_)
          refine (show Calls _ _ _ _ _ from down_any s V _ p (by have:=HBD.out.fl; omega) (by have:=HBD.out.cl; omega) HBD.out.dl HBD.out.fz _ hls.at_ (HKP.out.on (by rw [HRR.out]; exact hls.bel))).mono ?_
          rintro e w6 ⟨V2,rfl,hM⟩
          have HMM:Hid _:=hM
          have HZ9:Hid _:=keep_row hls.res hM.bel
          go_wp2_with (refine stF rfl _ _ rfl (r + 1) (fsC (downM s p) V2) Z rfl rfl rfl (fsC_one HMM.out.at_) HZS.out HZ9.out ?_; intro W7 hr7 hm7)
          have hlv:=run_loadVar_mid (P:=Tryz.prog) W7 (r + 1) 0 61 (fsC (downM s p) V2).toList _ (fun j v hv=>by rw [cell_of_row _ _ _ _ _ _ hr7]; simpa using hv) Tryz.underlying61 rfl (by rw [Array.length_toList,fsC_size]; exact i31)
          rw [Array.toArray_toList] at hlv
          refine bodyPost_ret (v:=.tuple #[.agg (fsC (downM s p) V2),.int .i64 0]) (by simp [results,Tryz.results56,asAddr,Act.put,hlv,Result.andThen]) rfl ?_
          rw [HV.out]
          exact ⟨_,rfl,hls.finM HRR.out HMM.out hm7⟩
        · obtain ⟨s1,hs1⟩:∃ s1:Fs,s1={ s with crash:=(s.steps:Int) + n }:=⟨_,rfl⟩
          obtain ⟨s2,hs2⟩:∃ s2:Fs,s2={ s1 with picks:=p }:=⟨_,rfl⟩
          have HV:Hid (crashM s n p=(s2,0)):=by show _=_; unfold crashM; rw [if_neg (by rw [HDN.out]; decide),if_neg (by omega),if_neg q3,hs2,hs1]
          have HWN:Hid (IntKind.i64.wrap ((s.steps:Int) + n)=(s.steps:Int) + n):=by have:=HBD.out.st; show _=_; rw [IntKind.wrap_i64] <;> omega
          have hwn:=HWN.out
          obtain ⟨W2,hW2⟩:∃ W2,W2=W1.setCell ⟨r,7,none⟩ (.int .i64 ((s.steps:Int) + n)):=⟨_,rfl⟩
          have hr2:W2.heap[r]?=some (.cells (fsC s1 V) 61):=by rw [hW2]; exact setC hls.row (by rw [hs1]; rfl)
          have hm2:Mod r W1 W2:=by rw [hW2]; exact setMod _ _
          have sm:s1.files=s.files∧s1.dir=s.dir∧s1.sure=s.sure∧s1.chg=s.chg∧s1.fails=s.fails∧s1.picks=s.picks:=by rw [hs1]; exact ⟨rfl,rfl,rfl,rfl,rfl,rfl⟩
          have hls2:LS w s V r Z s1 V W2:=hls.put hr2 hm2 (hls.at_.same sm.1 sm.2.1 sm.2.2.1 sm.2.2.2.1 sm.2.2.2.2.1 sm.2.2.2.2.2) (hls.lo.same sm.1 sm.2.1 sm.2.2.1 sm.2.2.2.1 sm.2.2.2.2.1 sm.2.2.2.2.2) (fun S _ hA=>hA.same sm.1 sm.2.1 sm.2.2.1 sm.2.2.2.1 sm.2.2.2.2.1 sm.2.2.2.2.2)
          have HLS:Hid (LS w s V r Z s1 V W2):=hls2
          clear hr2 hm2 sm hs1 hls
          go_upto_region 9 with fail
          rw [← hW2]
          clear hW2 hwn q1 q2 q3 x0 x1 x2 x3 x4 x5 x6 x7 x8 xf
          have HOa:Hid (W2.ownsRow W2.heap.size inE.T inE.k (.slice none 0 0) 0 (inE.fl [])):=⟨rfl,Or.inl ⟨rfl,rfl⟩⟩
          have HKa:Hid (KR inE W2 (.slice Pv p.length kv) p):=HKP.out.on (by rw [HRR.out]; exact hls2.bel)
          go_wp2_with (at_builtin; go_must (refine wpList_appB inOk rfl _ _ rfl W2.heap.size _ [] 0 rfl rfl HOa.out _ (p) rfl HKa.out (p).length (by simp) ?a1 ?a2 (Nat.le_refl _) ?_))
          case a1=>have:=HPL.out; unfold maxLen; first | omega | (simp; omega)
          case a2=>have:=HPL.out; show _ * 8 ≤ _; first | omega | (simp; omega)
          intro va wa hoa hba
          obtain ⟨Pa,ka,hka⟩:=own_form hoa
          subst hka
          have hls:=HLS.out.on hba
          have hkb:=KR.own (E:=inE) hoa (by simp)
          have hgb:∀ g o m c,Value.slice Pa p.length ka=.slice (some ⟨g,o,none⟩) m c → W2.heap.size ≤ g:=fun g o m c e=>KR_ge hoa e
          clear hls2 HOa HKa
          obtain ⟨V2,hV2⟩:∃ V2:FV,V2=⟨V.f,V.d,V.s,V.c,V.p,.slice Pa p.length ka⟩:=⟨_,rfl⟩
          obtain ⟨W6,hW6⟩:∃ W6,W6=wa.setCell ⟨r,8,none⟩ (.slice Pa p.length ka):=⟨_,rfl⟩
          have hr6:W6.heap[r]?=some (.cells (fsC s2 V2) 61):=by rw [hW6]; exact setC hls.row (by rw [hs2,hV2]; rfl)
          have hm6:Mod r wa W6:=by rw [hW6]; exact setMod _ _
          have ha2:FsAt s2 V2 wa:=by rw [hs2,hV2]; exact ⟨hls.at_.qf,hls.at_.qd,hls.at_.qs,hls.at_.qc,hls.at_.qp,hkb⟩
          have hsz:=HLS.out.sz
          have hls2:LS w s V r Z s2 V2 W6:=hls.put hr6 hm6 ha2 (by rw [hs2,hV2]; exact ⟨hls.lo.af,hls.lo.ad,hls.lo.as_,hls.lo.ac,hls.lo.ap,fun _ g o m c e hk=>by have:=hgb g o m c e; rcases hk with hk | hk <;> omega⟩) (fun S hS hA=>by rw [hs2,hV2]; exact ⟨hA.af,hA.ad,hA.as_,hA.ac,hA.ap,fun _ g o m c e hk=>by have:=hgb g o m c e; have:=hS g hk; omega⟩)
          obtain ⟨x0,x1,x2,x3,x4,x5,x6,x7,x8,xf⟩:=row9 (v0:=.bool s1.down) (v1:=.int .i64 (s1.steps:Int)) (v2:=V.f) (v3:=V.d) (v4:=V.s) (v5:=V.c) (v6:=V.p) (v7:=.int .i64 s1.crash) (v8:=V.k) hls.row
          clear hr6 hm6 ha2 hs2 hV2 hkb hgb hoa hba hsz hls
          go_upto_region 10 with fail
          rw [← hW6]
          clear hW6 x0 x1 x2 x3 x4 x5 x6 x7 x8 xf
          go_wp2_with (first | refine ldF (fsC s2 V2) r _ rfl rfl rfl hls2.row rfl ?_ | (refine stF rfl _ _ rfl (r + 1) (fsC s2 V2) Z rfl rfl rfl (fsC_one hls2.at_) HZS.out hls2.res ?_; intro W7 hr7 hm7))
          have hlv:=run_loadVar_mid (P:=Tryz.prog) W7 (r + 1) 0 61 (fsC s2 V2).toList _ (fun j v hv=>by rw [cell_of_row _ _ _ _ _ _ hr7]; simpa using hv) Tryz.underlying61 rfl (by rw [Array.length_toList,fsC_size]; exact i31)
          rw [Array.toArray_toList] at hlv
          refine bodyPost_ret (v:=.tuple #[.agg (fsC s2 V2),.int .i64 (0)]) (by simp [results,Tryz.results56,asAddr,Act.put,hlv,Result.andThen]) rfl ?_
          rw [HV.out]
          exact ⟨_,rfl,hls2.fin HRR.out hm7⟩
end Go.Proofs.YtbgbmfmgdgalbaaGreatDoor
namespace Go.Proofs.YtbgbmfmgdgalbaaGreatDoor
open Go.RowKit
set_option linter.unusedVariables false
set_option linter.unusedSimpArgs false
theorem has_pos {s:Fs} {n:ByteArray} (h:hasM s n=0):0 ≤ findM s.dir n:=by
  unfold hasM at h
  split at h
  · cases h
  · split at h
    · split at h
      · cases h
      · omega
    · cases h
theorem getFi {l:List Fi} {i:Nat} {X:ByteArray} {S0:Nat} (hi:i < l.length) (h:l[i]=⟨X,S0⟩):l.getD i ⟨⟨#[]⟩,0⟩=⟨X,S0⟩:=by
  rw [List.getD_eq_getElem?_getD,List.getElem?_eq_getElem hi,h]
  rfl
set_option maxHeartbeats 2000000 in
set_option maxRecDepth 20000 in
theorem r_sync_any (s:Fs) (V:FV) (n:ByteArray) (hb:Bd s) (hn:n.size ≤ 140737488355328) (hx:findM s.dir n < (s.files.length:Int)) (w:World) (h:FsAt s V w):Calls Tryz.prog 160 #[.agg (fsC s V),.string n] w fun e w'=>∃ V',e=.returned (.tuple #[.agg (fsC (syncM s n).1 V'),.int .i64 (syncM s n).2])∧Made s V w (syncM s n).1 V' w':=by
  obtain ⟨Z,hZ⟩:∃ Z,Z=zF:=⟨_,rfl⟩
  have HZZ:Hid (Z=zF):=hZ
  have HZS:Hid (Z.size=9):=by show _=_; rw [hZ]; rfl
  clear hZ
  obtain ⟨W1,hW1⟩:∃ W1,W1=(w.alloc (.cells (fsC s V) 61)).alloc (.cells Z 61):=⟨_,rfl⟩
  have hls:=LS.start h Z
  rw [← hW1] at hls
  obtain ⟨r,hr⟩:∃ r,w.heap.size=r:=⟨_,rfl⟩
  have HRR:Hid (w.heap.size=r):=hr
  rw [hr] at hls
  have HBD:Hid (Bd s):=hb
  have HNS:Hid (n.size ≤ 140737488355328):=hn
  have HIX:Hid (findM s.dir n < (s.files.length:Int)):=hx
  clear hb hn hx
  clear h hr
  rw [show fsC s V=#[.bool s.down,.int .i64 (s.steps:Int),V.f,V.d,V.s,V.c,V.p,.int .i64 s.crash,V.k] from rfl] at hW1
  rw [show fsC s V=#[.bool s.down,.int .i64 (s.steps:Int),V.f,V.d,V.s,V.c,V.p,.int .i64 s.crash,V.k] from rfl]
  go_enter Tryz.func160,Tryz.ntmps160
  go_upto_region 1 with (refine alF rfl rfl Z HZZ.out ?_)
  rw [← hW1,HRR.out]
  clear hW1
  go_wp2_with (refine ldF (fsC s V) r _ rfl rfl rfl hls.row rfl ?_)
  refine (show Calls _ _ _ _ _ from has_any s V n HBD.out HNS.out _ hls.at_).mono ?_
  rintro e wh ⟨rfl,hbh⟩
  have hls:=hls.on hbh
  clear hbh
  obtain ⟨eh,heh⟩:∃ eh,hasM s n=eh:=⟨_,rfl⟩
  rw [heh]
  by_cases h0:eh=0
  · have HH:Hid (hasM s n=0):=by show _=_; rw [heh,h0]
    subst h0
    clear heh
    obtain ⟨x0,x1,x2,x3,x4,x5,x6,x7,x8,xf⟩:=row9 (v0:=.bool s.down) (v1:=.int .i64 (s.steps:Int)) (v2:=V.f) (v3:=V.d) (v4:=V.s) (v5:=V.c) (v6:=V.p) (v7:=.int .i64 s.crash) (v8:=V.k) hls.row
    go_wp2_with fail
    refine (show Calls _ _ _ _ _ from r_find_any V.d s.dir (by have:=HBD.out.dd; omega) n _ hls.at_.qd).mono ?_
    rintro e wf ⟨rfl,hwf⟩
    rw [hwf]
    clear hwf
    clear x0 x1 x2 x3 x4 x5 x6 x7 x8 xf
    obtain ⟨i,hfi⟩:∃ i:Nat,findM s.dir n=(i:Int):=⟨(findM s.dir n).toNat,by have:=has_pos HH.out; omega⟩
    rw [hfi]
    have HFI:Hid (findM s.dir n=(i:Int)):=hfi
    have HIL:Hid (i < s.files.length):=by have:=HIX.out; show _ < _; omega
    clear hfi
    go_upto_region 5 with fail
    go_wp2_with (refine ldF (fsC s V) r _ rfl rfl rfl hls.row rfl ?_)
    refine (show Calls _ _ _ _ _ from step_b s V HBD.out _ hls.at_).mono ?_
    rintro e w3 ⟨V1,rfl,hM1⟩
    obtain ⟨s1,hs1⟩:∃ s1,(stepM s).1=s1:=⟨_,rfl⟩
    obtain ⟨e1,he1⟩:∃ e1,(stepM s).2.1=e1:=⟨_,rfl⟩
    obtain ⟨p1,hp1⟩:∃ p1,(stepM s).2.2=p1:=⟨_,rfl⟩
    rw [hs1] at hM1 ⊢
    rw [he1,hp1]
    have HS1:Hid ((stepM s).1=s1):=hs1
    have HE1:Hid ((stepM s).2.1=e1):=he1
    have HP1:Hid ((stepM s).2.2=p1):=hp1
    clear hs1 he1 hp1
    have HM1:Hid (Made s V _ s1 V1 w3):=hM1
    have HL0:Hid (LS w s V r Z s V _):=hls
    have H1c:Hid ((fsC s1 V1).all (·.oneCell')=true):=fsC_one hM1.at_
    have HRW:Hid _:=keep_row hls.row hM1.bel
    clear hM1
    go_upto_region 6 with (refine stF rfl _ _ rfl r (fsC s1 V1) (fsC s V) rfl rfl rfl H1c.out rfl HRW.out ?_; intro W5 hr5 hm5)
    have hls:=HL0.out.made HM1.out hr5 hm5
    clear hr5 hm5
    by_cases he1:e1=0
    · subst he1
      have hs1':s1={ s with steps:=s.steps + 1 }:=by rw [← HS1.out]; exact stepM_ok HE1.out
      have HF1:Hid (s1.files.length ≤ 3298534883000):=by rw [hs1']; exact HBD.out.fl
      have hi1:i < s1.files.length:=by rw [hs1']; exact HIL.out
      clear hs1'
      have HI1:Hid (i < s1.files.length):=hi1
      obtain ⟨x0,x1,x2,x3,x4,x5,x6,x7,x8,xf⟩:=row9 (v0:=.bool s1.down) (v1:=.int .i64 (s1.steps:Int)) (v2:=V1.f) (v3:=V1.d) (v4:=V1.s) (v5:=V1.c) (v6:=V1.p) (v7:=.int .i64 s1.crash) (v8:=V1.k) hls.row
      obtain ⟨g,o,kf,hvf,hcf⟩:=hls.at_.qf.cell fiOk hi1
      obtain ⟨x,hxx⟩:∃ x,s1.files[i]'hi1=x:=⟨_,rfl⟩
      rw [hxx] at hcf
      obtain ⟨X,S0⟩:=x
      have c0:W5.cell? ⟨g,o + i * 2,none⟩=some (.string X):=hcf 0 _ rfl
      have c1:W5.cell? ⟨g,o + i * 2 + 1,none⟩=some (.int .i64 (S0:Int)):=hcf 1 _ rfl
      have hz0:(0:Int) ≤ (i:Int):=by omega
      have hz1:(i:Int) < (s1.files.length:Int):=by omega
      have HVF:Hid (V1.f=.slice (some ⟨g,o,none⟩) s1.files.length kf):=hvf
      rw [hvf] at x2
      clear hcf hvf
      obtain ⟨s2,hs2⟩:∃ s2:Fs,s2={ s1 with files:=s1.files.set i ⟨X,X.size⟩ }:=⟨_,rfl⟩
      have HV:Hid (syncM s n=(s2,0)):=by show _=_; unfold syncM; rw [if_pos HH.out]; simp only [HE1.out,HS1.out,HFI.out,Int.toNat_natCast,getFi hi1 hxx]; rw [hs2]; rfl
      have HLS:Hid (LS w s V r Z s1 V1 W5):=hls
      clear hls hxx hi1
      go_upto_region 9 with fail
      obtain ⟨WA,hWA⟩:∃ WA,WA=W5.alloc (.cells #[.string X,.int .i64 (S0:Int)] 119):=⟨_,rfl⟩
      rw [← hWA]
      have HBA:Hid (Below W5.heap.size W5 WA):=by show Below _ _ _; rw [hWA]; exact (Below.refl _ _).alloc (Nat.le_refl _) _
      have HXA:Hid (WA.heap[W5.heap.size]?=some (.cells #[.string X,.int .i64 (S0:Int)] 119)):=by show _=_; rw [hWA]; exact one_alloc _ _
      clear hWA c0 c1 hz0 hz1 x0 x1 x2 x3 x4 x5 x6 x7 x8 xf
      obtain ⟨q,hq⟩:∃ q,W5.heap.size=q:=⟨_,rfl⟩
      have HQ:Hid (W5.heap.size=q):=hq
      rw [hq] at HXA ⊢
      clear hq
      obtain ⟨y0,y1,yf⟩:=row2c HXA.out
      obtain ⟨WB,hWB⟩:∃ WB,WB=WA.setCell ⟨q,1,none⟩ (.int .i64 (X.size:Int)):=⟨_,rfl⟩
      have HXB:Hid (WB.heap[q]?=some (.cells #[.string X,.int .i64 (X.size:Int)] 119)):=by show _=_; rw [hWB]; exact setRow HXA.out 1 _
      have HBB:Hid (Below W5.heap.size W5 WB):=by have h1:Mod q WA WB:=(by rw [hWB]; exact setMod _ _); have h2:=HQ.out; have h3:=HBA.out.size; exact HBA.out.trans (h1.below (by omega) h3)
      go_upto_region 10 with fail
      rw [← hWB]
      clear hWB y0 y1 yf
      have hls:=HLS.out.on HBB.out
      obtain ⟨x0,x1,x2,x3,x4,x5,x6,x7,x8,xf⟩:=row9 (v0:=.bool s1.down) (v1:=.int .i64 (s1.steps:Int)) (v2:=V1.f) (v3:=V1.d) (v4:=V1.s) (v5:=V1.c) (v6:=V1.p) (v7:=.int .i64 s1.crash) (v8:=V1.k) hls.row
      obtain ⟨y0,y1,yf⟩:=row2c HXB.out
      obtain ⟨Pf,kff,hvf⟩:=hls.at_.qf.form
      clear hvf
      go_wp2_with fail
      refine (show Calls _ _ _ _ _ from with_any V1.f s1.files (by have:=HF1.out; omega) i HI1.out ⟨X,X.size⟩ _ hls.at_.qf).mono ?_
      rintro e w9 ⟨v9,rfl,hk9,hn9,hb9⟩
      clear y0 y1 yf x0 x1 x2 x3 x4 x5 x6 x7 x8 xf
      have hls:=HLS.out.on (HBB.out.trans (hb9.mono HBB.out.size))
      have hgb:∀ g o m c,v9=.slice (some ⟨g,o,none⟩) m c → W5.heap.size ≤ g:=fun g o m c e=>by have h1:¬ g < WB.heap.size:=hn9 g o m c e; have h2:=HBB.out.size; omega
      obtain ⟨P9,k9,hv9⟩:=hk9.form
      subst hv9
      obtain ⟨L9,hL9⟩:∃ L9,(s1.files.set i ⟨X,X.size⟩).length=L9:=⟨_,rfl⟩
      rw [hL9] at hk9 hgb ⊢
      obtain ⟨V2,hV2⟩:∃ V2:FV,V2=⟨.slice P9 L9 k9,V1.d,V1.s,V1.c,V1.p,V1.k⟩:=⟨_,rfl⟩
      obtain ⟨W6,hW6⟩:∃ W6,W6=w9.setCell ⟨r,2,none⟩ (.slice P9 L9 k9):=⟨_,rfl⟩
      have hr6:W6.heap[r]?=some (.cells (fsC s2 V2) 61):=by rw [hW6]; exact setC hls.row (by rw [hs2,hV2]; rfl)
      have hm6:Mod r w9 W6:=by rw [hW6]; exact setMod _ _
      have ha2:FsAt s2 V2 w9:=by rw [hs2,hV2]; exact ⟨hk9,hls.at_.qd,hls.at_.qs,hls.at_.qc,hls.at_.qp,hls.at_.qk⟩
      have hsz:=HLS.out.sz
      have hls2:LS w s V r Z s2 V2 W6:=hls.put hr6 hm6 ha2 (by rw [hs2,hV2]; exact ⟨fun _ g o m c e hk=>by have:=hgb g o m c e; rcases hk with hk | hk <;> omega,hls.lo.ad,hls.lo.as_,hls.lo.ac,hls.lo.ap,hls.lo.ak⟩) (fun S hS hA=>by rw [hs2,hV2]; exact ⟨fun _ g o m c e hk=>by have:=hgb g o m c e; have:=hS g hk; omega,hA.ad,hA.as_,hA.ac,hA.ap,hA.ak⟩)
      obtain ⟨x0,x1,x2,x3,x4,x5,x6,x7,x8,xf⟩:=row9 (v0:=.bool s1.down) (v1:=.int .i64 (s1.steps:Int)) (v2:=V1.f) (v3:=V1.d) (v4:=V1.s) (v5:=V1.c) (v6:=V1.p) (v7:=.int .i64 s1.crash) (v8:=V1.k) hls.row
      clear hr6 hm6 ha2 hs2 hV2 hk9 hgb hn9 hb9 hsz hL9 hls
      go_upto_region 11 with fail
      rw [← hW6]
      clear hW6 x0 x1 x2 x3 x4 x5 x6 x7 x8 xf
      go_wp2_with (first | refine ldF (fsC s2 V2) r _ rfl rfl rfl hls2.row rfl ?_ | (refine stF rfl _ _ rfl (r + 1) (fsC s2 V2) Z rfl rfl rfl (fsC_one hls2.at_) HZS.out hls2.res ?_; intro W7 hr7 hm7))
      have hlv:=run_loadVar_mid (P:=Tryz.prog) W7 (r + 1) 0 61 (fsC s2 V2).toList _ (fun j v hv=>by rw [cell_of_row _ _ _ _ _ _ hr7]; simpa using hv) Tryz.underlying61 rfl (by rw [Array.length_toList,fsC_size]; exact i31)
      rw [Array.toArray_toList] at hlv
      refine bodyPost_ret (v:=.tuple #[.agg (fsC s2 V2),.int .i64 (0)]) (by simp [results,Tryz.results160,asAddr,Act.put,hlv,Result.andThen]) rfl ?_
      rw [HV.out]
      exact ⟨_,rfl,hls2.fin HRR.out hm7⟩
    · have HV:Hid (syncM s n=(s1,e1)):=by show _=_; unfold syncM; rw [if_pos HH.out]; simp only [HE1.out,HS1.out]; rw [if_neg he1]
      have heb:(e1 != 0)=true:=bne_iff_ne.mpr he1
      clear he1
      go_wp2_with (first | refine ldF (fsC s1 V1) r _ rfl rfl rfl hls.row rfl ?_ | (refine stF rfl _ _ rfl (r + 1) (fsC s1 V1) Z rfl rfl rfl (fsC_one hls.at_) HZS.out hls.res ?_; intro W7 hr7 hm7))
      have hlv:=run_loadVar_mid (P:=Tryz.prog) W7 (r + 1) 0 61 (fsC s1 V1).toList _ (fun j v hv=>by rw [cell_of_row _ _ _ _ _ _ hr7]; simpa using hv) Tryz.underlying61 rfl (by rw [Array.length_toList,fsC_size]; exact i31)
      rw [Array.toArray_toList] at hlv
      refine bodyPost_ret (v:=.tuple #[.agg (fsC s1 V1),.int .i64 (e1)]) (by simp [results,Tryz.results160,asAddr,Act.put,hlv,Result.andThen]) rfl ?_
      rw [HV.out]
      exact ⟨_,rfl,hls.fin HRR.out hm7⟩
  · have HV:Hid (syncM s n=(s,eh)):=by show _=_; unfold syncM; rw [if_neg (by rw [heh]; exact h0),heh]
    have heb:(eh != 0)=true:=bne_iff_ne.mpr h0
    clear h0 heh
    go_wp2_with (first | refine ldF (fsC s V) r _ rfl rfl rfl hls.row rfl ?_ | (refine stF rfl _ _ rfl (r + 1) (fsC s V) Z rfl rfl rfl (fsC_one hls.at_) HZS.out hls.res ?_; intro W7 hr7 hm7))
    have hlv:=run_loadVar_mid (P:=Tryz.prog) W7 (r + 1) 0 61 (fsC s V).toList _ (fun j v hv=>by rw [cell_of_row _ _ _ _ _ _ hr7]; simpa using hv) Tryz.underlying61 rfl (by rw [Array.length_toList,fsC_size]; exact i31)
    rw [Array.toArray_toList] at hlv
    refine bodyPost_ret (v:=.tuple #[.agg (fsC s V),.int .i64 (eh)]) (by simp [results,Tryz.results160,asAddr,Act.put,hlv,Result.andThen]) rfl ?_
    rw [HV.out]
    exact ⟨_,rfl,hls.fin HRR.out hm7⟩
end Go.Proofs.YtbgbmfmgdgalbaaGreatDoor
