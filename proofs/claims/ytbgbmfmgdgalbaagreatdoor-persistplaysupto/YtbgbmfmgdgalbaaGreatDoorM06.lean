import Derived.Test.YtbgbmfmgdgalbaaGreatDoorM05
namespace Go.Proofs.YtbgbmfmgdgalbaaGreatDoor
open Go.RowKit
set_option linter.unusedVariables false
set_option linter.unusedSimpArgs false
theorem LS.aside {w:World} {s0:Fs} {V0:FV} {r:Nat} {Z:Array Value} {s:Fs} {V:FV} {W W':World} {q:Nat} (h:LS w s0 V0 r Z s V W) (hm:Mod q W W') (hq:r + 2 ≤ q) (hl:q < W.heap.size) (ha:Av (fun k=>k=q) s V):LS w s0 V0 r Z s V W':=
  ⟨hm.row h.row (by omega),hm.row h.res (by omega),h.at_.mod hm ha,h.lo,h.bel.trans (hm.below (by omega) (by have:=h.sz; omega)),Nat.le_trans h.sz hm.size,h.av⟩
theorem stepM_kinds (s:Fs):(stepM s).2.1=203 ∨ ((stepM s).2.1=0 ∨ (stepM s).2.1=200)∧(stepM s).1={ s with steps:=s.steps + 1 }:=by
  unfold stepM
  simp only
  split
  · exact Or.inl rfl
  · split
    · exact Or.inr ⟨Or.inr rfl,rfl⟩
    · exact Or.inr ⟨Or.inl rfl,rfl⟩
set_option maxHeartbeats 2000000 in
set_option maxRecDepth 20000 in
theorem append_any (s:Fs) (V:FV) (n dat:ByteArray) (hb:Bd s) (hn:n.size ≤ 140737488355328) (ht:dat.size ≤ 140737488355328) (hx:findM s.dir n < (s.files.length:Int)) (w:World) (h:FsAt s V w):Calls Tryz.prog 59 #[.agg (fsC s V),.string n,.string dat] w fun e w'=>∃ V',e=.returned (.tuple #[.agg (fsC (appendM s n dat).1 V'),.int .i64 (appendM s n dat).2])∧Made s V w (appendM s n dat).1 V' w':=by
  obtain ⟨Z,hZ⟩:∃ Z,Z=zF:=⟨_,rfl⟩
  have HZZ:Hid (Z=zF):=hZ
  have HZS:Hid (Z.size=9):=by show _=_; rw [hZ]; rfl
  clear hZ
  obtain ⟨W1,hW1⟩:∃ W1,W1=(w.alloc (.cells (fsC s V) 61)).alloc (.cells Z 61):=⟨_,rfl⟩
  have hls:=LS.start h Z
  rw [← hW1] at hls
  obtain ⟨r,hr⟩:∃ r,w.heap.size=r:=⟨_,rfl⟩
  have HRR:Hid (w.heap.size=r):=hr
  rw [hr] at hls
  have HBD:Hid (Bd s):=hb
  have HNS:Hid (n.size ≤ 140737488355328):=hn
  have HTS:Hid (dat.size ≤ 140737488355328):=ht
  have HIX:Hid (findM s.dir n < (s.files.length:Int)):=hx
  clear hb hn hx ht
  clear h hr
  rw [show fsC s V=#[.bool s.down,.int .i64 (s.steps:Int),V.f,V.d,V.s,V.c,V.p,.int .i64 s.crash,V.k] from rfl] at hW1
  rw [show fsC s V=#[.bool s.down,.int .i64 (s.steps:Int),V.f,V.d,V.s,V.c,V.p,.int .i64 s.crash,V.k] from rfl]
  go_enter Tryz.func59,Tryz.ntmps59
  go_upto_region 1 with (refine alF rfl rfl Z HZZ.out ?_)
  rw [← hW1,HRR.out]
  clear hW1
  go_wp2_with (refine ldF (fsC s V) r _ rfl rfl rfl hls.row rfl ?_)
  refine (show Calls _ _ _ _ _ from has_any s V n HBD.out HNS.out _ hls.at_).mono ?_
  rintro e wh ⟨rfl,hbh⟩
  have hls:=hls.on hbh
  clear hbh
  obtain ⟨eh,heh⟩:∃ eh,hasM s n=eh:=⟨_,rfl⟩
  rw [heh]
  by_cases h0:eh=0
  · have HH:Hid (hasM s n=0):=by show _=_; rw [heh,h0]
    subst h0
    clear heh
    obtain ⟨x0,x1,x2,x3,x4,x5,x6,x7,x8,xf⟩:=row9 (v0:=.bool s.down) (v1:=.int .i64 (s.steps:Int)) (v2:=V.f) (v3:=V.d) (v4:=V.s) (v5:=V.c) (v6:=V.p) (v7:=.int .i64 s.crash) (v8:=V.k) hls.row
    go_wp2_with fail
    refine (show Calls _ _ _ _ _ from r_find_any V.d s.dir (by have:=HBD.out.dd; omega) n _ hls.at_.qd).mono ?_
    rintro e wf ⟨rfl,hwf⟩
    rw [hwf]
    clear hwf
    clear x0 x1 x2 x3 x4 x5 x6 x7 x8 xf
    obtain ⟨i,hfi⟩:∃ i:Nat,findM s.dir n=(i:Int):=⟨(findM s.dir n).toNat,by have:=has_pos HH.out; omega⟩
    rw [hfi]
    have HFI:Hid (findM s.dir n=(i:Int)):=hfi
    have HIL:Hid (i < s.files.length):=by have:=HIX.out; show _ < _; omega
    clear hfi
    have hi1:i < s.files.length:=HIL.out
    obtain ⟨x0,x1,x2,x3,x4,x5,x6,x7,x8,xf⟩:=row9 (v0:=.bool s.down) (v1:=.int .i64 (s.steps:Int)) (v2:=V.f) (v3:=V.d) (v4:=V.s) (v5:=V.c) (v6:=V.p) (v7:=.int .i64 s.crash) (v8:=V.k) hls.row
    obtain ⟨g,o,kf,hvf,hcf⟩:=hls.at_.qf.cell fiOk hi1
    obtain ⟨x,hxx⟩:∃ x,s.files[i]'hi1=x:=⟨_,rfl⟩
    rw [hxx] at hcf
    obtain ⟨X,S0⟩:=x
    have c0:wh.cell? ⟨g,o + i * 2,none⟩=some (.string X):=hcf 0 _ rfl
    have c1:wh.cell? ⟨g,o + i * 2 + 1,none⟩=some (.int .i64 (S0:Int)):=hcf 1 _ rfl
    have hz0:(0:Int) ≤ (i:Int):=by omega
    have hz1:(i:Int) < (s.files.length:Int):=by omega
    have HVF:Hid (V.f=.slice (some ⟨g,o,none⟩) s.files.length kf):=hvf
    rw [hvf] at x2
    clear hcf hvf
    have HGX:Hid (s.files.getD i ⟨⟨#[]⟩,0⟩=⟨X,S0⟩):=getFi hi1 hxx
    have HXZ:Hid (X.size ≤ 1073741824):=by have:=(HBD.out.fz s.files[i] (List.getElem_mem hi1)).1; rw [hxx] at this; exact this
    clear hxx hi1
    have HLS0:Hid (LS w s V r Z s V wh):=hls
    clear hls
    go_upto_region 6 with fail
    obtain ⟨WA,hWA⟩:∃ WA,WA=wh.alloc (.cells #[.string X,.int .i64 (S0:Int)] 119):=⟨_,rfl⟩
    rw [← hWA]
    have HBA:Hid (Below wh.heap.size wh WA):=by show Below _ _ _; rw [hWA]; exact (Below.refl _ _).alloc (Nat.le_refl _) _
    have HXA:Hid (WA.heap[wh.heap.size]?=some (.cells #[.string X,.int .i64 (S0:Int)] 119)):=by show _=_; rw [hWA]; exact one_alloc _ _
    clear hWA c0 c1 hz0 hz1 x0 x1 x2 x3 x4 x5 x6 x7 x8 xf
    obtain ⟨q,hq⟩:∃ q,wh.heap.size=q:=⟨_,rfl⟩
    have HQ:Hid (wh.heap.size=q):=hq
    have HQR:Hid (r + 2 ≤ q):=by have:=HLS0.out.sz; show _ ≤ _; omega
    rw [hq] at HXA ⊢
    clear hq
    obtain ⟨y0,y1,yf⟩:=row2c HXA.out
    have hls:=HLS0.out.on HBA.out
    obtain ⟨L,hL⟩:∃ L:Nat,X.size + dat.size=L:=⟨_,rfl⟩
    have HLL:Hid (X.size + dat.size=L):=hL
    have hwl:IntKind.i64.wrap ((X.size:Int) + (dat.size:Int))=(L:Int):=by have:=HTS.out; have:=HXZ.out; rw [IntKind.wrap_i64] <;> omega
    clear hL
    by_cases hbig:1073741824 < L
    · have hbi:(1073741824:Int) < (L:Int):=by omega
      have HV:Hid (appendM s n dat=(s,2)):=by show _=_; unfold appendM; rw [if_pos HH.out]; simp only [HFI.out,Int.toNat_natCast,HGX.out,HLL.out]; rw [if_pos hbig]
      clear hbig
      go_wp2_with (first | refine ldF (fsC s V) r _ rfl rfl rfl hls.row rfl ?_ | (refine stF rfl _ _ rfl (r + 1) (fsC s V) Z rfl rfl rfl (fsC_one hls.at_) HZS.out hls.res ?_; intro W7 hr7 hm7))
      have hlv:=run_loadVar_mid (P:=Tryz.prog) W7 (r + 1) 0 61 (fsC s V).toList _ (fun j v hv=>by rw [cell_of_row _ _ _ _ _ _ hr7]; simpa using hv) Tryz.underlying61 rfl (by rw [Array.length_toList,fsC_size]; exact i31)
      rw [Array.toArray_toList] at hlv
      refine bodyPost_ret (v:=.tuple #[.agg (fsC s V),.int .i64 (2)]) (by simp [results,Tryz.results59,asAddr,Act.put,hlv,Result.andThen]) rfl ?_
      rw [HV.out]
      exact ⟨_,rfl,hls.fin HRR.out hm7⟩
    · have hbi:¬ (1073741824:Int) < (L:Int):=by omega
      have HBG:Hid (¬ 1073741824 < L):=hbig
      clear hbig
      go_upto_region 8 with fail
      clear hbi hwl y0 y1 yf
      go_wp2_with (refine ldF (fsC s V) r _ rfl rfl rfl hls.row rfl ?_)
      refine (show Calls _ _ _ _ _ from step_b s V HBD.out _ hls.at_).mono ?_
      rintro e w3 ⟨V1,rfl,hM1⟩
      obtain ⟨s1,hs1⟩:∃ s1,(stepM s).1=s1:=⟨_,rfl⟩
      obtain ⟨e1,he1⟩:∃ e1,(stepM s).2.1=e1:=⟨_,rfl⟩
      obtain ⟨p1,hp1⟩:∃ p1,(stepM s).2.2=p1:=⟨_,rfl⟩
      rw [hs1] at hM1 ⊢
      rw [he1,hp1]
      have HS1:Hid ((stepM s).1=s1):=hs1
      have HE1:Hid ((stepM s).2.1=e1):=he1
      have HP1:Hid ((stepM s).2.2=p1):=hp1
      clear hs1 he1 hp1
      have HM1:Hid (Made s V _ s1 V1 w3):=hM1
      have HL0:Hid (LS w s V r Z s V _):=hls
      have H1c:Hid ((fsC s1 V1).all (·.oneCell')=true):=fsC_one hM1.at_
      have HRW:Hid _:=keep_row hls.row hM1.bel
      clear hM1
      go_upto_region 9 with (refine stF rfl _ _ rfl r (fsC s1 V1) (fsC s V) rfl rfl rfl H1c.out rfl HRW.out ?_; intro W5 hr5 hm5)
      have hls:=HL0.out.made HM1.out hr5 hm5
      have HXW:Hid (W5.heap[q]?=some (.cells #[.string X,.int .i64 (S0:Int)] 119)):=hm5.row (keep_row HXA.out HM1.out.bel) (by have:=HQR.out; omega)
      have HQL:Hid (q < W5.heap.size):=row_lt HXW.out
      have HAQ:Hid (Av (fun k=>k=q) s1 V1):=HM1.out.av _ (fun k e=>by have h1:k=q:=e; have h2:=row_lt HXA.out; omega) (HLS0.out.at_.av.weak (fun k e=>by have h1:k=q:=e; have h2:=HQ.out; show _ ≤ _; omega))
      have HLS:Hid (LS w s V r Z s1 V1 W5):=hls
      clear hr5 hm5
      have hkd:=stepM_kinds s
      rw [HE1.out,HS1.out] at hkd
      by_cases he1:e1=203
      · subst he1
        have HV:Hid (appendM s n dat=(s1,203)):=by show _=_; unfold appendM; rw [if_pos HH.out]; simp only [HFI.out,Int.toNat_natCast,HGX.out,HLL.out]; rw [if_neg HBG.out]; simp only [HE1.out,HS1.out]; rfl
        go_wp2_with (first | refine ldF (fsC s1 V1) r _ rfl rfl rfl hls.row rfl ?_ | (refine stF rfl _ _ rfl (r + 1) (fsC s1 V1) Z rfl rfl rfl (fsC_one hls.at_) HZS.out hls.res ?_; intro W7 hr7 hm7))
        have hlv:=run_loadVar_mid (P:=Tryz.prog) W7 (r + 1) 0 61 (fsC s1 V1).toList _ (fun j v hv=>by rw [cell_of_row _ _ _ _ _ _ hr7]; simpa using hv) Tryz.underlying61 rfl (by rw [Array.length_toList,fsC_size]; exact i31)
        rw [Array.toArray_toList] at hlv
        refine bodyPost_ret (v:=.tuple #[.agg (fsC s1 V1),.int .i64 (203)]) (by simp [results,Tryz.results59,asAddr,Act.put,hlv,Result.andThen]) rfl ?_
        rw [HV.out]
        exact ⟨_,rfl,hls.fin HRR.out hm7⟩
      · have hs1':s1={ s with steps:=s.steps + 1 }:=by rcases hkd with h | h; exact absurd h he1; exact h.2
        have hkk:e1=0 ∨ e1=200:=by rcases hkd with h | h; exact absurd h he1; exact h.1
        have HF1:Hid (s1.files.length ≤ 3298534883000):=by rw [hs1']; exact HBD.out.fl
        have HI1:Hid (i < s1.files.length):=by rw [hs1']; exact HIL.out
        clear hs1' hkd
        by_cases he2:e1=0
        · clear hkk
          subst he2
          clear he1 hls
          have HMX:Hid (dat.size ≤ dat.size):=Nat.le_refl _
          obtain ⟨D,hD⟩:∃ D,X ++ dat=D:=⟨_,rfl⟩
          obtain ⟨s2,hs2⟩:∃ s2:Fs,s2={ s1 with files:=s1.files.set i ⟨D,S0⟩ }:=⟨_,rfl⟩
          have HV:Hid (appendM s n dat=(s2,0)):=by show _=_; unfold appendM; rw [if_pos HH.out]; simp only [HFI.out,Int.toNat_natCast,HGX.out,HLL.out]; rw [if_neg HBG.out]; simp only [HE1.out,HS1.out,HP1.out]; rw [hs2,← hD]; rfl
          obtain ⟨y0,y1,yf⟩:=row2c HXW.out
          have hcc:¬ 9223372036854775807 < X.size + dat.size:=by have:=HXZ.out; have:=HTS.out; have:=HMX.out; omega
          obtain ⟨WB,hWB⟩:∃ WB,WB=W5.setCell ⟨q,0,none⟩ (.string D):=⟨_,rfl⟩
          have HXB:Hid (WB.heap[q]?=some (.cells #[.string D,.int .i64 (S0:Int)] 119)):=by show _=_; rw [hWB]; exact setRow HXW.out 0 _
          have hmB:Mod q W5 WB:=by rw [hWB]; exact setMod _ _
          go_upto_region 14 with fail
          rw [← hWB]
          clear hWB y0 y1 yf hD hcc
          have hls:=HLS.out.aside hmB HQR.out HQL.out HAQ.out
          have HLB:Hid (LS w s V r Z s1 V1 WB):=hls
          clear hmB
          obtain ⟨x0,x1,x2,x3,x4,x5,x6,x7,x8,xf⟩:=row9 (v0:=.bool s1.down) (v1:=.int .i64 (s1.steps:Int)) (v2:=V1.f) (v3:=V1.d) (v4:=V1.s) (v5:=V1.c) (v6:=V1.p) (v7:=.int .i64 s1.crash) (v8:=V1.k) hls.row
          obtain ⟨y0,y1,yf⟩:=row2c HXB.out
          go_wp2_with fail
          refine (show Calls _ _ _ _ _ from with_any V1.f s1.files (by have:=HF1.out; omega) i HI1.out ⟨D,S0⟩ _ hls.at_.qf).mono ?_
          rintro e w9 ⟨v9,rfl,hk9,hn9,hb9⟩
          clear y0 y1 yf x0 x1 x2 x3 x4 x5 x6 x7 x8 xf
          have hls:=HLB.out.on hb9
          have hgb:∀ g o m c,v9=.slice (some ⟨g,o,none⟩) m c → WB.heap.size ≤ g:=fun g o m c e=>by have h1:¬ g < WB.heap.size:=hn9 g o m c e; omega
          obtain ⟨P9,k9,hv9⟩:=hk9.form
          subst hv9
          obtain ⟨L9,hL9⟩:∃ L9,(s1.files.set i ⟨D,S0⟩).length=L9:=⟨_,rfl⟩
          rw [hL9] at hk9 hgb ⊢
          obtain ⟨V2,hV2⟩:∃ V2:FV,V2=⟨.slice P9 L9 k9,V1.d,V1.s,V1.c,V1.p,V1.k⟩:=⟨_,rfl⟩
          obtain ⟨W6,hW6⟩:∃ W6,W6=w9.setCell ⟨r,2,none⟩ (.slice P9 L9 k9):=⟨_,rfl⟩
          have hr6:W6.heap[r]?=some (.cells (fsC s2 V2) 61):=by rw [hW6]; exact setC hls.row (by rw [hs2,hV2]; rfl)
          have hm6:Mod r w9 W6:=by rw [hW6]; exact setMod _ _
          have ha2:FsAt s2 V2 w9:=by rw [hs2,hV2]; exact ⟨hk9,hls.at_.qd,hls.at_.qs,hls.at_.qc,hls.at_.qp,hls.at_.qk⟩
          have hsz:=HLB.out.sz
          have hls2:LS w s V r Z s2 V2 W6:=hls.put hr6 hm6 ha2 (by rw [hs2,hV2]; exact ⟨fun _ g o m c e hk=>by have:=hgb g o m c e; rcases hk with hk | hk <;> omega,hls.lo.ad,hls.lo.as_,hls.lo.ac,hls.lo.ap,hls.lo.ak⟩) (fun S hS hA=>by rw [hs2,hV2]; exact ⟨fun _ g o m c e hk=>by have:=hgb g o m c e; have:=hS g hk; omega,hA.ad,hA.as_,hA.ac,hA.ap,hA.ak⟩)
          obtain ⟨x0,x1,x2,x3,x4,x5,x6,x7,x8,xf⟩:=row9 (v0:=.bool s1.down) (v1:=.int .i64 (s1.steps:Int)) (v2:=V1.f) (v3:=V1.d) (v4:=V1.s) (v5:=V1.c) (v6:=V1.p) (v7:=.int .i64 s1.crash) (v8:=V1.k) hls.row
          clear hr6 hm6 ha2 hs2 hV2 hk9 hgb hn9 hb9 hsz hL9 hls
          go_upto_region 15 with fail
          rw [← hW6]
          clear hW6 x0 x1 x2 x3 x4 x5 x6 x7 x8 xf
          go_wp2_with (first | refine ldF (fsC s2 V2) r _ rfl rfl rfl hls2.row rfl ?_ | (refine stF rfl _ _ rfl (r + 1) (fsC s2 V2) Z rfl rfl rfl (fsC_one hls2.at_) HZS.out hls2.res ?_; intro W7 hr7 hm7))
          have hlv:=run_loadVar_mid (P:=Tryz.prog) W7 (r + 1) 0 61 (fsC s2 V2).toList _ (fun j v hv=>by rw [cell_of_row _ _ _ _ _ _ hr7]; simpa using hv) Tryz.underlying61 rfl (by rw [Array.length_toList,fsC_size]; exact i31)
          rw [Array.toArray_toList] at hlv
          refine bodyPost_ret (v:=.tuple #[.agg (fsC s2 V2),.int .i64 (0)]) (by simp [results,Tryz.results59,asAddr,Act.put,hlv,Result.andThen]) rfl ?_
          rw [HV.out]
          exact ⟨_,rfl,hls2.fin HRR.out hm7⟩
        · have he3:e1=200:=by omega
          subst he3
          clear he1 he2 hls hkk
          by_cases p0:0 < p1
          · by_cases p2:(dat.size:Int) < p1
            · by_cases pz:0 < dat.size
              · have hmm:(max 0 (min p1 (dat.size:Int))).toNat=dat.size:=by omega
                have HME:Hid (dat.extract 0 (max 0 (min p1 (dat.size:Int))).toNat=dat):=by show _=_; rw [hmm]; simp
                have HMX:Hid (dat.size ≤ dat.size):=Nat.le_refl _
                clear hmm
                go_upto_region 13 with fail
                obtain ⟨D,hD⟩:∃ D,X ++ dat=D:=⟨_,rfl⟩
                obtain ⟨s2,hs2⟩:∃ s2:Fs,s2={ s1 with files:=s1.files.set i ⟨D,S0⟩ }:=⟨_,rfl⟩
                have HV:Hid (appendM s n dat=(s2,200)):=by show _=_; unfold appendM; rw [if_pos HH.out]; simp only [HFI.out,Int.toNat_natCast,HGX.out,HLL.out]; rw [if_neg HBG.out]; simp only [HE1.out,HS1.out,HP1.out]; rw [HME.out,hs2,← hD]; rfl
                obtain ⟨y0,y1,yf⟩:=row2c HXW.out
                have hcc:¬ 9223372036854775807 < X.size + dat.size:=by have:=HXZ.out; have:=HTS.out; have:=HMX.out; omega
                obtain ⟨WB,hWB⟩:∃ WB,WB=W5.setCell ⟨q,0,none⟩ (.string D):=⟨_,rfl⟩
                have HXB:Hid (WB.heap[q]?=some (.cells #[.string D,.int .i64 (S0:Int)] 119)):=by show _=_; rw [hWB]; exact setRow HXW.out 0 _
                have hmB:Mod q W5 WB:=by rw [hWB]; exact setMod _ _
                go_upto_region 14 with fail
                rw [← hWB]
                clear hWB y0 y1 yf hD hcc
                have hls:=HLS.out.aside hmB HQR.out HQL.out HAQ.out
                have HLB:Hid (LS w s V r Z s1 V1 WB):=hls
                clear hmB
                obtain ⟨x0,x1,x2,x3,x4,x5,x6,x7,x8,xf⟩:=row9 (v0:=.bool s1.down) (v1:=.int .i64 (s1.steps:Int)) (v2:=V1.f) (v3:=V1.d) (v4:=V1.s) (v5:=V1.c) (v6:=V1.p) (v7:=.int .i64 s1.crash) (v8:=V1.k) hls.row
                obtain ⟨y0,y1,yf⟩:=row2c HXB.out
                go_wp2_with fail
                refine (show Calls _ _ _ _ _ from with_any V1.f s1.files (by have:=HF1.out; omega) i HI1.out ⟨D,S0⟩ _ hls.at_.qf).mono ?_
                rintro e w9 ⟨v9,rfl,hk9,hn9,hb9⟩
                clear y0 y1 yf x0 x1 x2 x3 x4 x5 x6 x7 x8 xf
                have hls:=HLB.out.on hb9
                have hgb:∀ g o m c,v9=.slice (some ⟨g,o,none⟩) m c → WB.heap.size ≤ g:=fun g o m c e=>by have h1:¬ g < WB.heap.size:=hn9 g o m c e; omega
                obtain ⟨P9,k9,hv9⟩:=hk9.form
                subst hv9
                obtain ⟨L9,hL9⟩:∃ L9,(s1.files.set i ⟨D,S0⟩).length=L9:=⟨_,rfl⟩
                rw [hL9] at hk9 hgb ⊢
                obtain ⟨V2,hV2⟩:∃ V2:FV,V2=⟨.slice P9 L9 k9,V1.d,V1.s,V1.c,V1.p,V1.k⟩:=⟨_,rfl⟩
                obtain ⟨W6,hW6⟩:∃ W6,W6=w9.setCell ⟨r,2,none⟩ (.slice P9 L9 k9):=⟨_,rfl⟩
                have hr6:W6.heap[r]?=some (.cells (fsC s2 V2) 61):=by rw [hW6]; exact setC hls.row (by rw [hs2,hV2]; rfl)
                have hm6:Mod r w9 W6:=by rw [hW6]; exact setMod _ _
                have ha2:FsAt s2 V2 w9:=by rw [hs2,hV2]; exact ⟨hk9,hls.at_.qd,hls.at_.qs,hls.at_.qc,hls.at_.qp,hls.at_.qk⟩
                have hsz:=HLB.out.sz
                have hls2:LS w s V r Z s2 V2 W6:=hls.put hr6 hm6 ha2 (by rw [hs2,hV2]; exact ⟨fun _ g o m c e hk=>by have:=hgb g o m c e; rcases hk with hk | hk <;> omega,hls.lo.ad,hls.lo.as_,hls.lo.ac,hls.lo.ap,hls.lo.ak⟩) (fun S hS hA=>by rw [hs2,hV2]; exact ⟨fun _ g o m c e hk=>by have:=hgb g o m c e; have:=hS g hk; omega,hA.ad,hA.as_,hA.ac,hA.ap,hA.ak⟩)
                obtain ⟨x0,x1,x2,x3,x4,x5,x6,x7,x8,xf⟩:=row9 (v0:=.bool s1.down) (v1:=.int .i64 (s1.steps:Int)) (v2:=V1.f) (v3:=V1.d) (v4:=V1.s) (v5:=V1.c) (v6:=V1.p) (v7:=.int .i64 s1.crash) (v8:=V1.k) hls.row
                clear hr6 hm6 ha2 hs2 hV2 hk9 hgb hn9 hb9 hsz hL9 hls
                go_upto_region 15 with fail
                rw [← hW6]
                clear hW6 x0 x1 x2 x3 x4 x5 x6 x7 x8 xf
                go_wp2_with (first | refine ldF (fsC s2 V2) r _ rfl rfl rfl hls2.row rfl ?_ | (refine stF rfl _ _ rfl (r + 1) (fsC s2 V2) Z rfl rfl rfl (fsC_one hls2.at_) HZS.out hls2.res ?_; intro W7 hr7 hm7))
                have hlv:=run_loadVar_mid (P:=Tryz.prog) W7 (r + 1) 0 61 (fsC s2 V2).toList _ (fun j v hv=>by rw [cell_of_row _ _ _ _ _ _ hr7]; simpa using hv) Tryz.underlying61 rfl (by rw [Array.length_toList,fsC_size]; exact i31)
                rw [Array.toArray_toList] at hlv
                refine bodyPost_ret (v:=.tuple #[.agg (fsC s2 V2),.int .i64 (200)]) (by simp [results,Tryz.results59,asAddr,Act.put,hlv,Result.andThen]) rfl ?_
                rw [HV.out]
                exact ⟨_,rfl,hls2.fin HRR.out hm7⟩
              · have pz2:dat.size=0:=by omega
                have hmm:(max 0 (min p1 (dat.size:Int))).toNat=0:=by omega
                have HME0:Hid (dat.extract 0 (max 0 (min p1 (dat.size:Int))).toNat=dat.extract 0 0):=by show _=_; rw [hmm]
                clear hmm pz2
                go_upto_region 13 with fail
                obtain ⟨M,hM⟩:∃ M,ByteArray.empty=M:=⟨_,rfl⟩
                rw [hM]
                have HME:Hid (dat.extract 0 (max 0 (min p1 (dat.size:Int))).toNat=M):=by show _=_; rw [HME0.out,← hM]; simp
                have HMX:Hid (M.size ≤ dat.size):=by show _ ≤ _; rw [← HME.out,ByteArray.size_extract]; omega
                clear hM
                obtain ⟨D,hD⟩:∃ D,X ++ M=D:=⟨_,rfl⟩
                obtain ⟨s2,hs2⟩:∃ s2:Fs,s2={ s1 with files:=s1.files.set i ⟨D,S0⟩ }:=⟨_,rfl⟩
                have HV:Hid (appendM s n dat=(s2,200)):=by show _=_; unfold appendM; rw [if_pos HH.out]; simp only [HFI.out,Int.toNat_natCast,HGX.out,HLL.out]; rw [if_neg HBG.out]; simp only [HE1.out,HS1.out,HP1.out]; rw [HME.out,hs2,← hD]; rfl
                obtain ⟨y0,y1,yf⟩:=row2c HXW.out
                have hcc:¬ 9223372036854775807 < X.size + M.size:=by have:=HXZ.out; have:=HTS.out; have:=HMX.out; omega
                obtain ⟨WB,hWB⟩:∃ WB,WB=W5.setCell ⟨q,0,none⟩ (.string D):=⟨_,rfl⟩
                have HXB:Hid (WB.heap[q]?=some (.cells #[.string D,.int .i64 (S0:Int)] 119)):=by show _=_; rw [hWB]; exact setRow HXW.out 0 _
                have hmB:Mod q W5 WB:=by rw [hWB]; exact setMod _ _
                go_upto_region 14 with fail
                rw [← hWB]
                clear hWB y0 y1 yf hD hcc
                have hls:=HLS.out.aside hmB HQR.out HQL.out HAQ.out
                have HLB:Hid (LS w s V r Z s1 V1 WB):=hls
                clear hmB
                obtain ⟨x0,x1,x2,x3,x4,x5,x6,x7,x8,xf⟩:=row9 (v0:=.bool s1.down) (v1:=.int .i64 (s1.steps:Int)) (v2:=V1.f) (v3:=V1.d) (v4:=V1.s) (v5:=V1.c) (v6:=V1.p) (v7:=.int .i64 s1.crash) (v8:=V1.k) hls.row
                obtain ⟨y0,y1,yf⟩:=row2c HXB.out
                go_wp2_with fail
                refine (show Calls _ _ _ _ _ from with_any V1.f s1.files (by have:=HF1.out; omega) i HI1.out ⟨D,S0⟩ _ hls.at_.qf).mono ?_
                rintro e w9 ⟨v9,rfl,hk9,hn9,hb9⟩
                clear y0 y1 yf x0 x1 x2 x3 x4 x5 x6 x7 x8 xf
                have hls:=HLB.out.on hb9
                have hgb:∀ g o m c,v9=.slice (some ⟨g,o,none⟩) m c → WB.heap.size ≤ g:=fun g o m c e=>by have h1:¬ g < WB.heap.size:=hn9 g o m c e; omega
                obtain ⟨P9,k9,hv9⟩:=hk9.form
                subst hv9
                obtain ⟨L9,hL9⟩:∃ L9,(s1.files.set i ⟨D,S0⟩).length=L9:=⟨_,rfl⟩
                rw [hL9] at hk9 hgb ⊢
                obtain ⟨V2,hV2⟩:∃ V2:FV,V2=⟨.slice P9 L9 k9,V1.d,V1.s,V1.c,V1.p,V1.k⟩:=⟨_,rfl⟩
                obtain ⟨W6,hW6⟩:∃ W6,W6=w9.setCell ⟨r,2,none⟩ (.slice P9 L9 k9):=⟨_,rfl⟩
                have hr6:W6.heap[r]?=some (.cells (fsC s2 V2) 61):=by rw [hW6]; exact setC hls.row (by rw [hs2,hV2]; rfl)
                have hm6:Mod r w9 W6:=by rw [hW6]; exact setMod _ _
                have ha2:FsAt s2 V2 w9:=by rw [hs2,hV2]; exact ⟨hk9,hls.at_.qd,hls.at_.qs,hls.at_.qc,hls.at_.qp,hls.at_.qk⟩
                have hsz:=HLB.out.sz
                have hls2:LS w s V r Z s2 V2 W6:=hls.put hr6 hm6 ha2 (by rw [hs2,hV2]; exact ⟨fun _ g o m c e hk=>by have:=hgb g o m c e; rcases hk with hk | hk <;> omega,hls.lo.ad,hls.lo.as_,hls.lo.ac,hls.lo.ap,hls.lo.ak⟩) (fun S hS hA=>by rw [hs2,hV2]; exact ⟨fun _ g o m c e hk=>by have:=hgb g o m c e; have:=hS g hk; omega,hA.ad,hA.as_,hA.ac,hA.ap,hA.ak⟩)
                obtain ⟨x0,x1,x2,x3,x4,x5,x6,x7,x8,xf⟩:=row9 (v0:=.bool s1.down) (v1:=.int .i64 (s1.steps:Int)) (v2:=V1.f) (v3:=V1.d) (v4:=V1.s) (v5:=V1.c) (v6:=V1.p) (v7:=.int .i64 s1.crash) (v8:=V1.k) hls.row
                clear hr6 hm6 ha2 hs2 hV2 hk9 hgb hn9 hb9 hsz hL9 hls
                go_upto_region 15 with fail
                rw [← hW6]
                clear hW6 x0 x1 x2 x3 x4 x5 x6 x7 x8 xf
                go_wp2_with (first | refine ldF (fsC s2 V2) r _ rfl rfl rfl hls2.row rfl ?_ | (refine stF rfl _ _ rfl (r + 1) (fsC s2 V2) Z rfl rfl rfl (fsC_one hls2.at_) HZS.out hls2.res ?_; intro W7 hr7 hm7))
                have hlv:=run_loadVar_mid (P:=Tryz.prog) W7 (r + 1) 0 61 (fsC s2 V2).toList _ (fun j v hv=>by rw [cell_of_row _ _ _ _ _ _ hr7]; simpa using hv) Tryz.underlying61 rfl (by rw [Array.length_toList,fsC_size]; exact i31)
                rw [Array.toArray_toList] at hlv
                refine bodyPost_ret (v:=.tuple #[.agg (fsC s2 V2),.int .i64 (200)]) (by simp [results,Tryz.results59,asAddr,Act.put,hlv,Result.andThen]) rfl ?_
                rw [HV.out]
                exact ⟨_,rfl,hls2.fin HRR.out hm7⟩
            · obtain ⟨pm,hpm⟩:∃ pm:Nat,p1=(pm:Int):=⟨p1.toNat,by omega⟩
              subst hpm
              have p4:0 < pm:=by omega
              have p5:¬ dat.size < pm:=by omega
              have p6:pm ≤ dat.size:=by omega
              have hmm:(max 0 (min (pm:Int) (dat.size:Int))).toNat=pm:=by omega
              have HME0:Hid (dat.extract 0 (max 0 (min (pm:Int) (dat.size:Int))).toNat=dat.extract 0 pm):=by show _=_; rw [hmm]
              clear hmm
              go_upto_region 13 with fail
              obtain ⟨M,hM⟩:∃ M,dat.extract 0 pm=M:=⟨_,rfl⟩
              rw [hM]
              have HME:Hid (dat.extract 0 (max 0 (min (pm:Int) (dat.size:Int))).toNat=M):=by show _=_; rw [HME0.out,← hM]
              have HMX:Hid (M.size ≤ dat.size):=by show _ ≤ _; rw [← HME.out,ByteArray.size_extract]; omega
              clear hM
              obtain ⟨D,hD⟩:∃ D,X ++ M=D:=⟨_,rfl⟩
              obtain ⟨s2,hs2⟩:∃ s2:Fs,s2={ s1 with files:=s1.files.set i ⟨D,S0⟩ }:=⟨_,rfl⟩
              have HV:Hid (appendM s n dat=(s2,200)):=by show _=_; unfold appendM; rw [if_pos HH.out]; simp only [HFI.out,Int.toNat_natCast,HGX.out,HLL.out]; rw [if_neg HBG.out]; simp only [HE1.out,HS1.out,HP1.out]; rw [HME.out,hs2,← hD]; rfl
              obtain ⟨y0,y1,yf⟩:=row2c HXW.out
              have hcc:¬ 9223372036854775807 < X.size + M.size:=by have:=HXZ.out; have:=HTS.out; have:=HMX.out; omega
              obtain ⟨WB,hWB⟩:∃ WB,WB=W5.setCell ⟨q,0,none⟩ (.string D):=⟨_,rfl⟩
              have HXB:Hid (WB.heap[q]?=some (.cells #[.string D,.int .i64 (S0:Int)] 119)):=by show _=_; rw [hWB]; exact setRow HXW.out 0 _
              have hmB:Mod q W5 WB:=by rw [hWB]; exact setMod _ _
              go_upto_region 14 with fail
              rw [← hWB]
              clear hWB y0 y1 yf hD hcc
              have hls:=HLS.out.aside hmB HQR.out HQL.out HAQ.out
              have HLB:Hid (LS w s V r Z s1 V1 WB):=hls
              clear hmB
              obtain ⟨x0,x1,x2,x3,x4,x5,x6,x7,x8,xf⟩:=row9 (v0:=.bool s1.down) (v1:=.int .i64 (s1.steps:Int)) (v2:=V1.f) (v3:=V1.d) (v4:=V1.s) (v5:=V1.c) (v6:=V1.p) (v7:=.int .i64 s1.crash) (v8:=V1.k) hls.row
              obtain ⟨y0,y1,yf⟩:=row2c HXB.out
              go_wp2_with fail
              refine (show Calls _ _ _ _ _ from with_any V1.f s1.files (by have:=HF1.out; omega) i HI1.out ⟨D,S0⟩ _ hls.at_.qf).mono ?_
              rintro e w9 ⟨v9,rfl,hk9,hn9,hb9⟩
              clear y0 y1 yf x0 x1 x2 x3 x4 x5 x6 x7 x8 xf
              have hls:=HLB.out.on hb9
              have hgb:∀ g o m c,v9=.slice (some ⟨g,o,none⟩) m c → WB.heap.size ≤ g:=fun g o m c e=>by have h1:¬ g < WB.heap.size:=hn9 g o m c e; omega
              obtain ⟨P9,k9,hv9⟩:=hk9.form
              subst hv9
              obtain ⟨L9,hL9⟩:∃ L9,(s1.files.set i ⟨D,S0⟩).length=L9:=⟨_,rfl⟩
              rw [hL9] at hk9 hgb ⊢
              obtain ⟨V2,hV2⟩:∃ V2:FV,V2=⟨.slice P9 L9 k9,V1.d,V1.s,V1.c,V1.p,V1.k⟩:=⟨_,rfl⟩
              obtain ⟨W6,hW6⟩:∃ W6,W6=w9.setCell ⟨r,2,none⟩ (.slice P9 L9 k9):=⟨_,rfl⟩
              have hr6:W6.heap[r]?=some (.cells (fsC s2 V2) 61):=by rw [hW6]; exact setC hls.row (by rw [hs2,hV2]; rfl)
              have hm6:Mod r w9 W6:=by rw [hW6]; exact setMod _ _
              have ha2:FsAt s2 V2 w9:=by rw [hs2,hV2]; exact ⟨hk9,hls.at_.qd,hls.at_.qs,hls.at_.qc,hls.at_.qp,hls.at_.qk⟩
              have hsz:=HLB.out.sz
              have hls2:LS w s V r Z s2 V2 W6:=hls.put hr6 hm6 ha2 (by rw [hs2,hV2]; exact ⟨fun _ g o m c e hk=>by have:=hgb g o m c e; rcases hk with hk | hk <;> omega,hls.lo.ad,hls.lo.as_,hls.lo.ac,hls.lo.ap,hls.lo.ak⟩) (fun S hS hA=>by rw [hs2,hV2]; exact ⟨fun _ g o m c e hk=>by have:=hgb g o m c e; have:=hS g hk; omega,hA.ad,hA.as_,hA.ac,hA.ap,hA.ak⟩)
              obtain ⟨x0,x1,x2,x3,x4,x5,x6,x7,x8,xf⟩:=row9 (v0:=.bool s1.down) (v1:=.int .i64 (s1.steps:Int)) (v2:=V1.f) (v3:=V1.d) (v4:=V1.s) (v5:=V1.c) (v6:=V1.p) (v7:=.int .i64 s1.crash) (v8:=V1.k) hls.row
              clear hr6 hm6 ha2 hs2 hV2 hk9 hgb hn9 hb9 hsz hL9 hls
              go_upto_region 15 with fail
              rw [← hW6]
              clear hW6 x0 x1 x2 x3 x4 x5 x6 x7 x8 xf
              go_wp2_with (first | refine ldF (fsC s2 V2) r _ rfl rfl rfl hls2.row rfl ?_ | (refine stF rfl _ _ rfl (r + 1) (fsC s2 V2) Z rfl rfl rfl (fsC_one hls2.at_) HZS.out hls2.res ?_; intro W7 hr7 hm7))
              have hlv:=run_loadVar_mid (P:=Tryz.prog) W7 (r + 1) 0 61 (fsC s2 V2).toList _ (fun j v hv=>by rw [cell_of_row _ _ _ _ _ _ hr7]; simpa using hv) Tryz.underlying61 rfl (by rw [Array.length_toList,fsC_size]; exact i31)
              rw [Array.toArray_toList] at hlv
              refine bodyPost_ret (v:=.tuple #[.agg (fsC s2 V2),.int .i64 (200)]) (by simp [results,Tryz.results59,asAddr,Act.put,hlv,Result.andThen]) rfl ?_
              rw [HV.out]
              exact ⟨_,rfl,hls2.fin HRR.out hm7⟩
          · have p3:¬ (dat.size:Int) < p1:=by omega
            have hmm:(max 0 (min p1 (dat.size:Int))).toNat=0:=by omega
            have HME0:Hid (dat.extract 0 (max 0 (min p1 (dat.size:Int))).toNat=dat.extract 0 0):=by show _=_; rw [hmm]
            clear hmm
            go_upto_region 13 with fail
            obtain ⟨M,hM⟩:∃ M,ByteArray.empty=M:=⟨_,rfl⟩
            rw [hM]
            have HME:Hid (dat.extract 0 (max 0 (min p1 (dat.size:Int))).toNat=M):=by show _=_; rw [HME0.out,← hM]; simp
            have HMX:Hid (M.size ≤ dat.size):=by show _ ≤ _; rw [← HME.out,ByteArray.size_extract]; omega
            clear hM
            obtain ⟨D,hD⟩:∃ D,X ++ M=D:=⟨_,rfl⟩
            obtain ⟨s2,hs2⟩:∃ s2:Fs,s2={ s1 with files:=s1.files.set i ⟨D,S0⟩ }:=⟨_,rfl⟩
            have HV:Hid (appendM s n dat=(s2,200)):=by show _=_; unfold appendM; rw [if_pos HH.out]; simp only [HFI.out,Int.toNat_natCast,HGX.out,HLL.out]; rw [if_neg HBG.out]; simp only [HE1.out,HS1.out,HP1.out]; rw [HME.out,hs2,← hD]; rfl
            obtain ⟨y0,y1,yf⟩:=row2c HXW.out
            have hcc:¬ 9223372036854775807 < X.size + M.size:=by have:=HXZ.out; have:=HTS.out; have:=HMX.out; omega
            obtain ⟨WB,hWB⟩:∃ WB,WB=W5.setCell ⟨q,0,none⟩ (.string D):=⟨_,rfl⟩
            have HXB:Hid (WB.heap[q]?=some (.cells #[.string D,.int .i64 (S0:Int)] 119)):=by show _=_; rw [hWB]; exact setRow HXW.out 0 _
            have hmB:Mod q W5 WB:=by rw [hWB]; exact setMod _ _
            go_upto_region 14 with fail
            rw [← hWB]
            clear hWB y0 y1 yf hD hcc
            have hls:=HLS.out.aside hmB HQR.out HQL.out HAQ.out
            have HLB:Hid (LS w s V r Z s1 V1 WB):=hls
            clear hmB
            obtain ⟨x0,x1,x2,x3,x4,x5,x6,x7,x8,xf⟩:=row9 (v0:=.bool s1.down) (v1:=.int .i64 (s1.steps:Int)) (v2:=V1.f) (v3:=V1.d) (v4:=V1.s) (v5:=V1.c) (v6:=V1.p) (v7:=.int .i64 s1.crash) (v8:=V1.k) hls.row
            obtain ⟨y0,y1,yf⟩:=row2c HXB.out
            go_wp2_with fail
            refine (show Calls _ _ _ _ _ from with_any V1.f s1.files (by have:=HF1.out; omega) i HI1.out ⟨D,S0⟩ _ hls.at_.qf).mono ?_
            rintro e w9 ⟨v9,rfl,hk9,hn9,hb9⟩
            clear y0 y1 yf x0 x1 x2 x3 x4 x5 x6 x7 x8 xf
            have hls:=HLB.out.on hb9
            have hgb:∀ g o m c,v9=.slice (some ⟨g,o,none⟩) m c → WB.heap.size ≤ g:=fun g o m c e=>by have h1:¬ g < WB.heap.size:=hn9 g o m c e; omega
            obtain ⟨P9,k9,hv9⟩:=hk9.form
            subst hv9
            obtain ⟨L9,hL9⟩:∃ L9,(s1.files.set i ⟨D,S0⟩).length=L9:=⟨_,rfl⟩
            rw [hL9] at hk9 hgb ⊢
            obtain ⟨V2,hV2⟩:∃ V2:FV,V2=⟨.slice P9 L9 k9,V1.d,V1.s,V1.c,V1.p,V1.k⟩:=⟨_,rfl⟩
            obtain ⟨W6,hW6⟩:∃ W6,W6=w9.setCell ⟨r,2,none⟩ (.slice P9 L9 k9):=⟨_,rfl⟩
            have hr6:W6.heap[r]?=some (.cells (fsC s2 V2) 61):=by rw [hW6]; exact setC hls.row (by rw [hs2,hV2]; rfl)
            have hm6:Mod r w9 W6:=by rw [hW6]; exact setMod _ _
            have ha2:FsAt s2 V2 w9:=by rw [hs2,hV2]; exact ⟨hk9,hls.at_.qd,hls.at_.qs,hls.at_.qc,hls.at_.qp,hls.at_.qk⟩
            have hsz:=HLB.out.sz
            have hls2:LS w s V r Z s2 V2 W6:=hls.put hr6 hm6 ha2 (by rw [hs2,hV2]; exact ⟨fun _ g o m c e hk=>by have:=hgb g o m c e; rcases hk with hk | hk <;> omega,hls.lo.ad,hls.lo.as_,hls.lo.ac,hls.lo.ap,hls.lo.ak⟩) (fun S hS hA=>by rw [hs2,hV2]; exact ⟨fun _ g o m c e hk=>by have:=hgb g o m c e; have:=hS g hk; omega,hA.ad,hA.as_,hA.ac,hA.ap,hA.ak⟩)
            obtain ⟨x0,x1,x2,x3,x4,x5,x6,x7,x8,xf⟩:=row9 (v0:=.bool s1.down) (v1:=.int .i64 (s1.steps:Int)) (v2:=V1.f) (v3:=V1.d) (v4:=V1.s) (v5:=V1.c) (v6:=V1.p) (v7:=.int .i64 s1.crash) (v8:=V1.k) hls.row
            clear hr6 hm6 ha2 hs2 hV2 hk9 hgb hn9 hb9 hsz hL9 hls
            go_upto_region 15 with fail
            rw [← hW6]
            clear hW6 x0 x1 x2 x3 x4 x5 x6 x7 x8 xf
            go_wp2_with (first | refine ldF (fsC s2 V2) r _ rfl rfl rfl hls2.row rfl ?_ | (refine stF rfl _ _ rfl (r + 1) (fsC s2 V2) Z rfl rfl rfl (fsC_one hls2.at_) HZS.out hls2.res ?_; intro W7 hr7 hm7))
            have hlv:=run_loadVar_mid (P:=Tryz.prog) W7 (r + 1) 0 61 (fsC s2 V2).toList _ (fun j v hv=>by rw [cell_of_row _ _ _ _ _ _ hr7]; simpa using hv) Tryz.underlying61 rfl (by rw [Array.length_toList,fsC_size]; exact i31)
            rw [Array.toArray_toList] at hlv
            refine bodyPost_ret (v:=.tuple #[.agg (fsC s2 V2),.int .i64 (200)]) (by simp [results,Tryz.results59,asAddr,Act.put,hlv,Result.andThen]) rfl ?_
            rw [HV.out]
            exact ⟨_,rfl,hls2.fin HRR.out hm7⟩
  · have HV:Hid (appendM s n dat=(s,eh)):=by show _=_; unfold appendM; rw [if_neg (by rw [heh]; exact h0),heh]
    have heb:(eh != 0)=true:=bne_iff_ne.mpr h0
    clear h0 heh
    go_wp2_with (first | refine ldF (fsC s V) r _ rfl rfl rfl hls.row rfl ?_ | (refine stF rfl _ _ rfl (r + 1) (fsC s V) Z rfl rfl rfl (fsC_one hls.at_) HZS.out hls.res ?_; intro W7 hr7 hm7))
    have hlv:=run_loadVar_mid (P:=Tryz.prog) W7 (r + 1) 0 61 (fsC s V).toList _ (fun j v hv=>by rw [cell_of_row _ _ _ _ _ _ hr7]; simpa using hv) Tryz.underlying61 rfl (by rw [Array.length_toList,fsC_size]; exact i31)
    rw [Array.toArray_toList] at hlv
    refine bodyPost_ret (v:=.tuple #[.agg (fsC s V),.int .i64 (eh)]) (by simp [results,Tryz.results59,asAddr,Act.put,hlv,Result.andThen]) rfl ?_
    rw [HV.out]
    exact ⟨_,rfl,hls.fin HRR.out hm7⟩
end Go.Proofs.YtbgbmfmgdgalbaaGreatDoor
namespace Go.Proofs.YtbgbmfmgdgalbaaGreatDoor
open Go.RowKit
set_option linter.unusedVariables false
set_option linter.unusedSimpArgs false
set_option maxHeartbeats 2000000 in
set_option maxRecDepth 20000 in
theorem list_any (s:Fs) (V:FV) (hb:Bd s) (w:World) (h:FsAt s V w):Calls Tryz.prog 93 #[.agg (fsC s V)] w fun e w'=>∃ v,e=.returned (.tuple #[v,.int .i64 (listM s).2])∧KR stE w' v (listM s).1∧NB (fun k=>k < w.heap.size) v∧Below w.heap.size w w':=by
  obtain ⟨W0,hW0⟩:∃ W0,W0=w.alloc (.cells (fsC s V) 61):=⟨_,rfl⟩
  have hB0:Below w.heap.size w W0:=by rw [hW0]; exact (Below.refl _ _).alloc (Nat.le_refl _) _
  have hX0:W0.heap[w.heap.size]?=some (.cells (fsC s V) 61):=by rw [hW0]; exact one_alloc _ _
  obtain ⟨r,hr⟩:∃ r,w.heap.size=r:=⟨_,rfl⟩
  have HR:Hid (w.heap.size=r):=hr
  have HB:Hid (Below w.heap.size w W0):=hB0
  have HF:Hid (FsAt s V W0):=h.on hB0
  rw [hr] at hX0
  have HX:Hid (W0.heap[r]?=some (.cells (fsC s V) 61)):=hX0
  have HDL:Hid (s.dir.length ≤ 1099511627770):=hb.dd
  obtain ⟨x0,x1,x2,x3,x4,x5,x6,x7,x8,xf⟩:=row9 (v0:=.bool s.down) (v1:=.int .i64 (s.steps:Int)) (v2:=V.f) (v3:=V.d) (v4:=V.s) (v5:=V.c) (v6:=V.p) (v7:=.int .i64 s.crash) (v8:=V.k) hX0
  rw [show fsC s V=#[.bool s.down,.int .i64 (s.steps:Int),V.f,V.d,V.s,V.c,V.p,.int .i64 s.crash,V.k] from rfl] at hW0
  rw [show fsC s V=#[.bool s.down,.int .i64 (s.steps:Int),V.f,V.d,V.s,V.c,V.p,.int .i64 s.crash,V.k] from rfl]
  obtain ⟨dn,hdn⟩:∃ dn,s.down=dn:=⟨_,rfl⟩
  have HDN:Hid (s.down=dn):=hdn
  rw [hdn] at x0 hW0 ⊢
  clear hX0 hB0 h hb hr hdn
  go_enter Tryz.func93,Tryz.ntmps93
  go_upto_region 1 with fail
  rw [← hW0,HR.out]
  clear hW0
  cases dn with
  | true =>
    have HV:Hid (listM s=([],203)):=by show _=_; unfold listM; rw [if_pos HDN.out]
    go_wp2
    refine bodyPost_ret (v:=.tuple #[.slice none 0 0,.int .i64 203]) (by simp [results,Tryz.results93,asAddr,Act.put,Result.andThen]) rfl ?_
    rw [HV.out]
    exact ⟨_,rfl,KR.nil,(fun g o n c e=>by cases e),HB.out⟩
  | false =>
    have HV:Hid (listM s=(s.dir.map (·.1),0)):=by show _=_; unfold listM; rw [if_neg (by rw [HDN.out]; decide)]
    obtain ⟨Pd,kd,hvd⟩:=HF.out.qd.form
    have HVD:Hid (V.d=.slice Pd s.dir.length kd):=hvd
    clear hvd
    have HO0:Hid (W0.ownsRow W0.heap.size stE.T stE.k (.slice none 0 0) 0 (stE.fl [])):=⟨rfl,Or.inl ⟨rfl,rfl⟩⟩
    go_wp2
    clear x0 x1 x2 x3 x4 x5 x6 x7 x8 xf
    go_loopw [4,5] (fun co ci wx=>∃ (j:Nat) (xs:List ByteArray) (Pv:Option Addr) (cv:Nat),j ≤ s.dir.length∧ci=.int .i64 (j:Int)∧co=.slice Pv xs.length cv∧(s.dir.take j).map (·.1)=xs∧xs.length=j∧wx.ownsRow W0.heap.size stE.T stE.k (.slice Pv xs.length cv) xs.length (stE.fl xs)∧Below W0.heap.size W0 wx) (fun _ ci _=>s.dir.length - (intOf ci).toNat)
    case atStart=>exact ⟨0,[],none,0,Nat.zero_le _,rfl,rfl,rfl,rfl,HO0.out,Below.refl _ _⟩
    case round =>
      obtain ⟨j,xs,Pv,cv,hj,rfl,rfl,hdf,hxl,hown,hbx⟩:=hrel
      have HOW:Hid (wr.ownsRow W0.heap.size stE.T stE.k (.slice Pv xs.length cv) xs.length (stE.fl xs)):=hown
      have HBX:Hid (Below W0.heap.size W0 wr):=hbx
      have hrw:=keep_row HX.out hbx
      obtain ⟨x0,x1,x2,x3,x4,x5,x6,x7,x8,xf⟩:=row9 (v0:=.bool s.down) (v1:=.int .i64 (s.steps:Int)) (v2:=V.f) (v3:=V.d) (v4:=V.s) (v5:=V.c) (v6:=V.p) (v7:=.int .i64 s.crash) (v8:=V.k) hrw
      rw [HVD.out] at x3
      clear hrw hown
      by_cases hlt:j < s.dir.length
      · have hk:=HF.out.qd.on hbx
        rw [HVD.out] at hk
        obtain ⟨g,o,c',he,hc⟩:=hk.cell slOk hlt
        injection he with he1 _ he2
        subst he1
        have htk:(s.dir.take (j + 1)).map (·.1)=xs ++ [(s.dir[j]'hlt).1]:=by rw [← List.take_append_getElem hlt,List.map_append,hdf]; rfl
        obtain ⟨X,hX⟩:∃ X,(s.dir[j]'hlt).1=X:=⟨_,rfl⟩
        have c0:wr.cell? ⟨g,o + j * 2,none⟩=some (.string X):=by rw [← hX]; exact hc 0 _ rfl
        rw [hX] at htk
        have HTK:Hid ((s.dir.take (j + 1)).map (·.1)=xs ++ [X]):=htk
        have hz0:(0:Int) ≤ (j:Int):=by omega
        have hz1:(j:Int) < (s.dir.length:Int):=by omega
        have hdl:=HDL.out
        have hiw:IntKind.i64.wrap ((j:Int) + 1)=(j:Int) + 1:=by rw [IntKind.wrap_i64] <;> omega
        have HI:Hid (j + 1 ≤ s.dir.length):=hlt
        have HXL:Hid (xs.length=j):=hxl
        clear hk hc he2 hdf htk hX hxl hdl hbx
        go_wp2_with (at_builtin; go_must (refine wpList_app1 stOk #[.string X] X rfl rfl _ _ rfl W0.heap.size _ xs _ rfl rfl HOW.out rfl ?a1 ?a2 ?a3 ?_))
        case a1=>have:=HXL.out; have:=HI.out; have:=HDL.out; unfold maxLen; omega
        case a2=>have:=HXL.out; have:=HI.out; have:=HDL.out; show _ * 16 ≤ _; omega
        case a3=>exact HBX.out.size
        intro v5 w5 ho5 hb5
        obtain ⟨P5,k5,hk5⟩:=own_form ho5
        subst hk5
        have HO5:Hid (w5.ownsRow W0.heap.size stE.T stE.k (.slice P5 (xs.length + 1) k5) (xs.length + 1) (stE.fl (xs ++ [X]))):=ho5
        have HB5:Hid (Below W0.heap.size W0 w5):=HBX.out.trans hb5
        clear ho5 hb5 x0 x1 x2 x3 x4 x5 x6 x7 x8 xf
        go_wp2
        go_roundw
        case rel=>exact ⟨j + 1,xs ++ [X],P5,k5,HI.out,rfl,by simp,HTK.out,by have:=HXL.out; simp; omega,by simpa using HO5.out,HB5.out⟩
        case measure=>have:=HI.out; simp [intOf]; omega
      · have he:j=s.dir.length:=by omega
        have HFI:Hid (s.dir.map (·.1)=xs):=by show _=_; rw [← hdf,he,List.take_length]
        subst he
        clear hlt hdf hbx hxl
        go_wp2
        refine bodyPost_ret (v:=.tuple #[.slice Pv xs.length cv,.int .i64 0]) (by simp [results,Tryz.results93,asAddr,Act.put,Result.andThen]) rfl ?_
        rw [HV.out]
        refine ⟨_,rfl,?_,fun g o n c e hk=>?_,?_⟩
        · show KR stE _ _ (s.dir.map (·.1))
          rw [HFI.out]
          exact KR.own HOW.out rfl
        · have h1:=KR_ge HOW.out e
          have h2:=HB.out.size
          have h3:g < w.heap.size:=hk
          omega
        · exact HB.out.trans (HBX.out.mono HB.out.size)
end Go.Proofs.YtbgbmfmgdgalbaaGreatDoor
