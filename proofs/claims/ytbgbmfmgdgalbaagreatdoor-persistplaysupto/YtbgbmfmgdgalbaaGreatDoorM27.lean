import Derived.Test.YtbgbmfmgdgalbaaGreatDoorM26
namespace Go.Proofs.YtbgbmfmgdgalbaaGreatDoor
open Go.RowKit
set_option linter.unusedVariables false
set_option linter.unusedSimpArgs false
def RP4 (s:Fs) (V:FV) (w:World) (R:Fs × ByteArray × Bool × Int) (e:Ending) (w':World):Prop:=∃ V',e=.returned (.tuple #[.agg (fsC R.1 V'),.string R.2.1,.bool R.2.2.1,.int .i64 R.2.2.2])∧Made s V w R.1 V' w'
set_option maxHeartbeats 4000000 in
set_option maxRecDepth 20000 in
theorem rload_any {s:Fs} {V:FV} {i:Nat} (hI:Inv s i) (hi:i + 70 ≤ 3298534883000) (w:World) (h:FsAt s V w):Calls Tryz.prog 52 #[.agg (fsC s V)] w (RP4 s V w (loadM s)):=by
  obtain ⟨s1,n1,e1,htd⟩:∃ s1 n1 e1,tidyM s=(s1,n1,e1):=⟨_,_,_,rfl⟩
  have HTD:Hid (∀ W,FsAt s V W → Calls Tryz.prog 53 #[.agg (fsC s V)] W (RP3 s V W (s1,n1,e1))):=fun W hW=>by
    have:=rtidy_any hI hi W hW
    rw [htd] at this
    exact this
  have HI1:Hid (Inv s1 (i + 65)):=by
    have:=hI.tidy
    rw [htd] at this
    exact this
  have HLD:Hid (loadM s=if e1=0 then (s1,(readM s1 liveN).1,decide ((readM s1 liveN).2=0),0) else (s1,⟨#[]⟩,false,e1)):=by show _=_; unfold loadM; rw [htd]
  have HIB:Hid (i + 70 ≤ 3298534883000):=hi
  clear hI hi htd
  obtain ⟨Z,hZ⟩:∃ Z,Z=zF:=⟨_,rfl⟩
  have HZZ:Hid (Z=zF):=hZ
  have HZS:Hid (Z.size=9):=by show _=_; rw [hZ]; rfl
  clear hZ
  obtain ⟨W1,hW1⟩:∃ W1,W1=(w.alloc (.cells (fsC s V) 61)).alloc (.cells Z 61):=⟨_,rfl⟩
  have hls:=LS.start h Z
  rw [← hW1] at hls
  obtain ⟨r,hr⟩:∃ r,w.heap.size=r:=⟨_,rfl⟩
  have HRR:Hid (w.heap.size=r):=hr
  rw [hr] at hls
  clear h hr
  rw [show fsC s V=#[.bool s.down,.int .i64 (s.steps:Int),V.f,V.d,V.s,V.c,V.p,.int .i64 s.crash,V.k] from rfl] at hW1
  rw [show fsC s V=#[.bool s.down,.int .i64 (s.steps:Int),V.f,V.d,V.s,V.c,V.p,.int .i64 s.crash,V.k] from rfl]
  go_enter Tryz.func52,Tryz.ntmps52
  go_upto_region 1 with (refine alF rfl rfl Z HZZ.out ?_)
  try simp only [World.size_alloc]
  rw [← hW1,HRR.out]
  clear hW1
  go_wp2_with (refine ldF (fsC s V) r _ rfl rfl rfl hls.row rfl ?_)
  refine (show Calls _ _ _ _ _ from HTD.out _ hls.at_).mono ?_
  rintro e w3 ⟨V1,rfl,hM⟩
  have HM:Hid (Made s V _ s1 V1 w3):=hM
  have HL0:Hid (LS w s V r Z s V _):=hls
  have H1c:Hid ((fsC s1 V1).all (·.oneCell')=true):=fsC_one hM.at_
  have HRW:Hid _:=keep_row hls.row hM.bel
  clear hM hls
  go_upto_region 2 with (refine stF rfl _ _ rfl r (fsC s1 V1) (fsC s V) rfl rfl rfl H1c.out rfl HRW.out ?_; intro W5 hr5 hm5)
  have hls:=HL0.out.made HM.out hr5 hm5
  clear hr5 hm5 HM HL0 H1c HRW
  clear HTD
  by_cases h0:e1=0
  · subst h0
    obtain ⟨ot,re,hrd⟩:∃ ot re,readM s1 liveN=(ot,re):=⟨_,_,rfl⟩
    have HRE:Hid (∀ W,FsAt s1 V1 W → Calls Tryz.prog 92 #[.agg (fsC s1 V1),.string { data:=#[100,117,109,112,46,114,100,98] }] W fun e w'=>e=.returned (.tuple #[.string ot,.int .i64 re])∧Below W.heap.size W w'):=fun W hW=>by
      have:=rread_i HI1.out (by have:=HIB.out; omega) liveN (by decide) W hW
      rw [hrd] at this
      exact this
    have HL2:Hid (loadM s=(s1,ot,decide (re=0),0)):=by show _=_; rw [HLD.out,if_pos rfl,hrd]
    clear HLD hrd HI1
    go_upto_region 4 with fail
    go_wp2_with (refine ldF (fsC s1 V1) r _ rfl rfl rfl hls.row rfl ?_)
    refine (show Calls _ _ _ _ _ from HRE.out _ hls.at_).mono ?_
    rintro e w4 ⟨rfl,hb4⟩
    have hls:=hls.on hb4
    clear hb4 HRE
    by_cases h1:re=0
    · have e0:(re == 0)=true:=by simpa using h1
      have HV:Hid (loadM s=(s1,ot,true,0)):=by show _=_; rw [HL2.out,decide_eq_true h1]
      clear HL2
      go_wp2_with (first | refine ldF (fsC s1 V1) r _ rfl rfl rfl hls.row rfl ?_ | (refine stF rfl _ _ rfl (r + 1) (fsC s1 V1) Z rfl rfl rfl (fsC_one hls.at_) HZS.out hls.res ?_; intro W7 hr7 hm7))
      have hlv:=run_loadVar_mid (P:=Tryz.prog) W7 (r + 1) 0 61 (fsC s1 V1).toList _ (fun j v hv=>by rw [cell_of_row _ _ _ _ _ _ hr7]; simpa using hv) Tryz.underlying61 rfl (by rw [Array.length_toList,fsC_size]; exact i31)
      rw [Array.toArray_toList] at hlv
      refine bodyPost_ret (v:=.tuple #[.agg (fsC s1 V1),.string ot,.bool true,.int .i64 0]) (by simp [results,Tryz.results52,asAddr,Act.put,hlv,Result.andThen]) rfl ?_
      rw [HV.out]
      exact ⟨_,rfl,hls.fin HRR.out hm7⟩
    · have e0:(re == 0)=false:=by simpa using h1
      have HV:Hid (loadM s=(s1,ot,false,0)):=by show _=_; rw [HL2.out,decide_eq_false h1]
      clear HL2
      go_wp2_with (first | refine ldF (fsC s1 V1) r _ rfl rfl rfl hls.row rfl ?_ | (refine stF rfl _ _ rfl (r + 1) (fsC s1 V1) Z rfl rfl rfl (fsC_one hls.at_) HZS.out hls.res ?_; intro W7 hr7 hm7))
      have hlv:=run_loadVar_mid (P:=Tryz.prog) W7 (r + 1) 0 61 (fsC s1 V1).toList _ (fun j v hv=>by rw [cell_of_row _ _ _ _ _ _ hr7]; simpa using hv) Tryz.underlying61 rfl (by rw [Array.length_toList,fsC_size]; exact i31)
      rw [Array.toArray_toList] at hlv
      refine bodyPost_ret (v:=.tuple #[.agg (fsC s1 V1),.string ot,.bool false,.int .i64 0]) (by simp [results,Tryz.results52,asAddr,Act.put,hlv,Result.andThen]) rfl ?_
      rw [HV.out]
      exact ⟨_,rfl,hls.fin HRR.out hm7⟩
  · have HV:Hid (loadM s=(s1,⟨#[]⟩,false,e1)):=by show _=_; rw [HLD.out,if_neg h0]
    have heb:(e1 != 0)=true:=bne_iff_ne.mpr h0
    clear h0 HLD
    go_wp2_with (first | refine ldF (fsC s1 V1) r _ rfl rfl rfl hls.row rfl ?_ | (refine stF rfl _ _ rfl (r + 1) (fsC s1 V1) Z rfl rfl rfl (fsC_one hls.at_) HZS.out hls.res ?_; intro W7 hr7 hm7))
    have hlv:=run_loadVar_mid (P:=Tryz.prog) W7 (r + 1) 0 61 (fsC s1 V1).toList _ (fun j v hv=>by rw [cell_of_row _ _ _ _ _ _ hr7]; simpa using hv) Tryz.underlying61 rfl (by rw [Array.length_toList,fsC_size]; exact i31)
    rw [Array.toArray_toList] at hlv
    refine bodyPost_ret (v:=.tuple #[.agg (fsC s1 V1),.string { data:=#[] },.bool false,.int .i64 e1]) (by simp [results,Tryz.results52,asAddr,Act.put,hlv,Result.andThen]) rfl ?_
    rw [HV.out]
    exact ⟨_,rfl,hls.fin HRR.out hm7⟩
def RPO (w:World) (R:List ByteArray × Int) (e:Ending) (w':World):Prop:=∃ v,e=.returned (.tuple #[v,.int .i64 R.2])∧KR stE w' v R.1∧Below w.heap.size w w'
theorem olders_len (s:Fs):∀ m,(oldersM s m).length ≤ m
  | 0=>Nat.le_refl _
  | m + 1=>by
    unfold oldersM
    rw [List.length_append]
    have:=olders_len s m
    split <;> simp <;> omega
set_option maxHeartbeats 4000000 in
set_option maxRecDepth 20000 in
theorem rOlder_any {s:Fs} {V:FV} {i:Nat} (hI:Inv s i) (hi:i ≤ 3298534883000) (w:World) (h:FsAt s V w):Calls Tryz.prog 54 #[.agg (fsC s V)] w (RPO w (olderM s)):=by
  obtain ⟨l,el,hle⟩:∃ l el,listM s=(l,el):=⟨_,_,rfl⟩
  have HLI:Hid (∀ W,FsAt s V W → Calls Tryz.prog 93 #[.agg (fsC s V)] W fun e w'=>∃ PP ln lc,e=.returned (.tuple #[.slice PP ln lc,.int .i64 el])∧ln=l.length∧KR stE w' (.slice PP ln lc) l∧NB (fun k=>k < W.heap.size) (.slice PP ln lc)∧Below W.heap.size W w'):=fun W hW=>by
    have:=rlist_i hI hi W hW
    rw [hle] at this
    exact this
  have HOM:Hid (olderM s=if el=0 then (oldersM s 8,0) else ([],el)):=by show _=_; unfold olderM; rw [hle]
  have HI:Hid (Inv s i∧i ≤ 3298534883000):=⟨hI,hi⟩
  obtain ⟨W0,hW0⟩:∃ W0,W0=w.alloc (.cells (fsC s V) 61):=⟨_,rfl⟩
  have hB0:Below w.heap.size w W0:=by rw [hW0]; exact (Below.refl _ _).alloc (Nat.le_refl _) _
  have hX0:W0.heap[w.heap.size]?=some (.cells (fsC s V) 61):=by rw [hW0]; exact one_alloc _ _
  have hA0:=h.on hB0
  have hS0:W0.heap.size=w.heap.size + 1:=by rw [hW0]; simp [World.size_alloc]
  obtain ⟨r,hr⟩:∃ r,w.heap.size=r:=⟨_,rfl⟩
  have HR:Hid (w.heap.size=r):=hr
  rw [hr] at hX0 hB0 hS0
  have HB:Hid (Below r w W0):=hB0
  have HS0:Hid (W0.heap.size=r + 1):=hS0
  have HX:Hid (W0.heap[r]?=some (.cells (fsC s V) 61)):=hX0
  have HA:Hid (FsAt s V W0):=hA0
  clear hI hi hle h hB0 hX0 hA0 hS0 hr
  rw [show fsC s V=#[.bool s.down,.int .i64 (s.steps:Int),V.f,V.d,V.s,V.c,V.p,.int .i64 s.crash,V.k] from rfl] at hW0
  rw [show fsC s V=#[.bool s.down,.int .i64 (s.steps:Int),V.f,V.d,V.s,V.c,V.p,.int .i64 s.crash,V.k] from rfl]
  go_enter Tryz.func54,Tryz.ntmps54
  go_upto_region 1 with fail
  try simp only [World.size_alloc]
  rw [← hW0,HR.out]
  clear hW0
  go_wp2_with (refine ldF (fsC s V) r _ rfl rfl rfl HX.out rfl ?_)
  refine (show Calls _ _ _ _ _ from HLI.out _ HA.out).mono ?_
  rintro e w2 ⟨PP,ln,lc,rfl,_,_,_,hb2⟩
  have HB2:Hid (Below W0.heap.size W0 w2):=hb2
  clear hb2 HLI
  by_cases h0:el=0
  · subst h0
    have HO1:Hid (olderM s=(oldersM s 8,0)):=by show _=_; rw [HOM.out,if_pos rfl]
    clear HOM
    go_wp2
    go_loopw [4,7] (fun ov iv wr=>∃ (c n:Nat) (P:Option Addr) (k:Nat),1 ≤ c∧c ≤ 9∧iv=.int .i64 (c:Int)∧ov=.slice P n k∧n=(oldersM s (c - 1)).length∧wr.ownsRow (r + 1) 9 1 (.slice P n k) n (stE.fl (oldersM s (c - 1)))∧Below (r + 1) W0 wr) (fun _ iv _=>(9 - intOf iv).toNat)
    case atStart=>exact ⟨1,0,none,0,Nat.le_refl _,by omega,rfl,rfl,rfl,⟨rfl,Or.inl ⟨rfl,rfl⟩⟩,by rw [← HS0.out]; exact HB2.out⟩
    case round =>
      obtain ⟨c,n,P,k,hc1,hc9,rfl,rfl,hn,ho,hb⟩:=hrel
      have HBW:Hid (Below (r + 1) W0 wr):=hb
      have HOW:Hid (wr.ownsRow (r + 1) 9 1 (.slice P n k) n (stE.fl (oldersM s (c - 1)))):=ho
      have HNL:Hid (n=(oldersM s (c - 1)).length):=hn
      clear hb ho hn
      by_cases hlt:c ≤ 8
      · obtain ⟨c1,hcc⟩:∃ c1,c + 1=c1:=⟨_,rfl⟩
        obtain ⟨ot,re,hrd⟩:∃ ot re,readM s (oldN c)=(ot,re):=⟨_,_,rfl⟩
        have HXW:Hid (wr.heap[r]?=some (.cells (fsC s V) 61)):=(HBW.out.block r (by omega)).trans HX.out
        have HAW:Hid (FsAt s V wr):=HA.out.on (by rw [HS0.out]; exact HBW.out)
        have HRE:Hid (∀ W,Below wr.heap.size wr W → Calls Tryz.prog 92 #[.agg (fsC s V),.string (oldN c)] W fun e w'=>e=.returned (.tuple #[.string ot,.int .i64 re])∧Below W.heap.size W w'):=fun W hW=>by
          have:=rread_i HI.out.1 HI.out.2 (oldN c) (by rw [old_size]; decide) W (HAW.out.on hW)
          rw [hrd] at this
          exact this
        have HOL:Hid (∀ W,Calls Tryz.prog 96 #[.int .i64 (c:Int)] W fun e w'=>e=.returned (.string (oldN c))∧Below W.heap.size W w'):=fun W=>rolder_any c hc1 hc9 W
        have HST:Hid (oldersM s c=oldersM s (c - 1) ++ (if re=0 then [ot] else [])):=by
          show _=_
          obtain ⟨c0,hc0⟩:∃ c0,c=c0 + 1:=⟨c - 1,by omega⟩
          subst hc0
          show oldersM s c0 ++ (if thereM s (oldN (c0 + 1)) then [(readM s (oldN (c0 + 1))).1] else [])=_
          unfold thereM
          rw [hrd]
          by_cases hz:re=0
          · rw [if_pos (decide_eq_true hz),if_pos hz]; rfl
          · rw [if_neg (by simpa using hz),if_neg hz]; rfl
        have HCB:Hid (1 ≤ c∧c ≤ 8∧c1=c + 1):=by show _∧_∧_; omega
        have HCW:Hid (IntKind.i64.wrap ((c:Int) + 1)=(c1:Int)):=by show _=_; rw [IntKind.wrap_i64] <;> omega
        have hc8:(c:Int) ≤ 8:=by omega
        obtain ⟨C,hC⟩:∃ C,C=fsC s V:=⟨_,rfl⟩
        have HCS:Hid (C.size=9):=by show _=_; rw [hC]; rfl
        have HRD:Hid (∀ W,Below wr.heap.size wr W → W.heap[r]?=some (.cells C 61)):=fun W hW=>by rw [hC]; exact keep_row HXW.out hW
        rw [← hC] at HRE
        clear hC hrd hcc hc1 hc9 hlt
        go_wp2_with fail
        have hcur:Below wr.heap.size wr wr.drew:=(Below.refl _ wr).drew
        refine wp_region_held_drew (S:=fun W:World=>W.rangeAt r 0 C.toList) (by kernel_rfl) (range_row (HRD.out _ hcur)) (fun hHeld=>?_)
        refine wpAnyH_take (i:=0) (oi:={ dst:=some 23,op:=Op.load 61 (Operand.tmp 1),type:=61,pos:= "ref.go:166",after:=#[],guard:=none }) (v:=.agg C) rfl (by kernel_rfl) (by kernel_rfl) (by kernel_rfl) (fun _ _ _ h=>h) (ylF C r _ rfl rfl (fun _ h=>h) HCS.out) (by assumption) ?_
        try simp only [Act.put,List.setIfInBounds_toArray,List.set_cons_zero,List.set_cons_succ]
        refine wpAnyH_take (i:=1) (oi:={ dst:=some 24,op:=Op.move (Operand.tmp 7),type:=3,pos:= "ref.go:166",after:=#[],guard:=none }) (v:=.int .i64 (c:Int)) rfl (by kernel_rfl) (by kernel_rfl) (by kernel_rfl) (fun _ _ _ h=>h) (Or.inl ⟨by rfl,?y1⟩) (by assumption) ?_
        case y1=>(intro w hSw; (try dsimp only at hSw); first | (go_simp; done) | (go_simp; with_reducible rfl) | (go_simp; rfl))
        try simp only [Act.put,List.setIfInBounds_toArray,List.set_cons_zero,List.set_cons_succ]
        refine wpAnyH_ready (rs:=[2]) (by kernel_rfl) (by simp) ?_
        refine AllReadyH.cons (o:={ dst:=some 25,op:=Op.call { callee:=Callee.value (Operand.func 96),args:=#[Operand.tmp 24],argTypes:=#[3] },type:=9,pos:= "ref.go:166",after:=#[{ on:=1,ground:=Ground.data }],guard:=none }) rfl (fun K hK=>?_) AllReadyH.nil
        first | (go_at_call 96; refine (show Calls _ _ _ _ _ from HOL.out _).mono ?_; rintro e wo ⟨rfl,hbo⟩; have hcur:=hcur.trans (hbo.mono hcur.size)) | (go_simp; go_at_call 96; refine (show Calls _ _ _ _ _ from HOL.out _).mono ?_; rintro e wo ⟨rfl,hbo⟩; have hcur:=hcur.trans (hbo.mono hcur.size))
        refine hK.out _ _ (range_row (HRD.out _ hcur)) (fun hHeld=>?_)
        clear hK K
        try simp only [Act.put,List.setIfInBounds_toArray,List.set_cons_zero,List.set_cons_succ]
        refine wpAnyH_ready (rs:=[3]) (by kernel_rfl) (by simp) ?_
        refine AllReadyH.cons (o:={ dst:=some 26,op:=Op.call { callee:=Callee.value (Operand.func 92),args:=#[Operand.tmp 23,Operand.tmp 25],argTypes:=#[61,9] },type:=148,pos:= "ref.go:166",after:=#[{ on:=0,ground:=Ground.data },{ on:=2,ground:=Ground.data },{ on:=2,ground:=Ground.chain }],guard:=none }) rfl (fun K hK=>?_) AllReadyH.nil
        first | (go_at_call 92; refine (show Calls _ _ _ _ _ from HRE.out _ hcur).mono ?_; rintro e wo ⟨rfl,hbo⟩; have hcur:=hcur.trans (hbo.mono hcur.size)) | (go_simp; go_at_call 92; refine (show Calls _ _ _ _ _ from HRE.out _ hcur).mono ?_; rintro e wo ⟨rfl,hbo⟩; have hcur:=hcur.trans (hbo.mono hcur.size))
        refine hK.out _ _ (range_row (HRD.out _ hcur)) (fun hHeld=>?_)
        clear hK K
        try simp only [Act.put,List.setIfInBounds_toArray,List.set_cons_zero,List.set_cons_succ]
        refine wpAnyH_take (i:=4) (oi:={ dst:=some 22,op:=Op.move (Operand.tmp 26),type:=148,pos:= "ref.go:166",after:=#[{ on:=3,ground:=Ground.data }],guard:=none }) (v:=.tuple #[.string ot,.int .i64 re]) rfl (by kernel_rfl) (by kernel_rfl) (by kernel_rfl) (fun _ _ _ h=>h) (Or.inl ⟨by rfl,?y4⟩) (by assumption) ?_
        case y4=>(intro w hSw; (try dsimp only at hSw); first | (go_simp; done) | (go_simp; with_reducible rfl) | (go_simp; rfl))
        try simp only [Act.put,List.setIfInBounds_toArray,List.set_cons_zero,List.set_cons_succ]
        refine wpAnyH_take (i:=5) (oi:={ dst:=some 27,op:=Op.extract (Operand.tmp 22) 0,type:=9,pos:= "ref.go:166",after:=#[{ on:=4,ground:=Ground.data }],guard:=none }) (v:=.string ot) rfl (by kernel_rfl) (by kernel_rfl) (by kernel_rfl) (fun _ _ _ h=>h) (Or.inl ⟨by rfl,?y5⟩) (by assumption) ?_
        case y5=>(intro w hSw; (try dsimp only at hSw); first | (go_simp; done) | (go_simp; with_reducible rfl) | (go_simp; rfl))
        try simp only [Act.put,List.setIfInBounds_toArray,List.set_cons_zero,List.set_cons_succ]
        refine wpAnyH_take (i:=6) (oi:={ dst:=some 28,op:=Op.extract (Operand.tmp 22) 1,type:=3,pos:= "ref.go:166",after:=#[{ on:=4,ground:=Ground.data },{ on:=7,ground:=Ground.gcOnly Departure.lateStores }],guard:=none }) (v:=.int .i64 re) rfl (by kernel_rfl) (by kernel_rfl) (by kernel_rfl) (fun _ _ _ h=>h) (Or.inl ⟨by rfl,?y6⟩) (by assumption) ?_
        case y6=>(intro w hSw; (try dsimp only at hSw); first | (go_simp; done) | (go_simp; with_reducible rfl) | (go_simp; rfl))
        try simp only [Act.put,List.setIfInBounds_toArray,List.set_cons_zero,List.set_cons_succ]
        refine wpAnyH_take (i:=7) (oi:={ dst:=some 8,op:=Op.assign (Operand.tmp 27),type:=9,pos:= "ref.go:166",after:=#[{ on:=5,ground:=Ground.data },{ on:=3,ground:=Ground.chain },{ on:=0,ground:=Ground.phase },{ on:=1,ground:=Ground.phase },{ on:=2,ground:=Ground.phase },{ on:=3,ground:=Ground.phase },{ on:=4,ground:=Ground.phase },{ on:=5,ground:=Ground.phase },{ on:=6,ground:=Ground.textOnly Departure.lateStores }],guard:=none }) (v:=.string ot) rfl (by kernel_rfl) (by kernel_rfl) (by kernel_rfl) (fun _ _ _ h=>h) (Or.inl ⟨by rfl,?y7⟩) (by assumption) ?_
        case y7=>(intro w hSw; (try dsimp only at hSw); first | (go_simp; done) | (go_simp; with_reducible rfl) | (go_simp; rfl))
        try simp only [Act.put,List.setIfInBounds_toArray,List.set_cons_zero,List.set_cons_succ]
        refine wpAnyH_take (i:=8) (oi:={ dst:=some 9,op:=Op.assign (Operand.tmp 28),type:=3,pos:= "ref.go:166",after:=#[{ on:=6,ground:=Ground.data },{ on:=7,ground:=Ground.chain },{ on:=0,ground:=Ground.phase },{ on:=1,ground:=Ground.phase },{ on:=2,ground:=Ground.phase },{ on:=3,ground:=Ground.phase },{ on:=4,ground:=Ground.phase },{ on:=5,ground:=Ground.phase },{ on:=6,ground:=Ground.phase },{ on:=7,ground:=Ground.phase }],guard:=none }) (v:=.int .i64 re) rfl (by kernel_rfl) (by kernel_rfl) (by kernel_rfl) (fun _ _ _ h=>h) (Or.inl ⟨by rfl,?y8⟩) (by assumption) ?_
        case y8=>(intro w hSw; (try dsimp only at hSw); first | (go_simp; done) | (go_simp; with_reducible rfl) | (go_simp; rfl))
        try simp only [Act.put,List.setIfInBounds_toArray,List.set_cons_zero,List.set_cons_succ]
        refine wpAnyH_done (by kernel_rfl) ?_ _
        have HBo:Hid (Below (r + 1) W0 wo):=HBW.out.trans (hcur.mono (by have:=HBW.out.size; rw [HS0.out] at this; exact this))
        have HOo:Hid (wo.ownsRow (r + 1) 9 1 (.slice P n k) n (stE.fl (oldersM s (c - 1)))):=own_keep HOW.out (fun q _ hq=>hcur.block q hq)
        clear hcur hHeld HBW HOW HRD HRE HOL HXW HAW
        by_cases hz:re=0
        · have hze:(re == 0)=true:=by simpa using hz
          have HLE:Hid ((oldersM s (c - 1)).length ≤ 8):=by have:=olders_len s (c - 1); have:=HCB.out; show _ ≤ _; omega
          have HS2:Hid (oldersM s c=oldersM s (c - 1) ++ [ot]):=by show _=_; rw [HST.out,if_pos hz]
          clear HST hz
          go_wp2_with (at_builtin; go_must (refine wpList_app1 stOk #[.string ot] ot rfl rfl _ _ rfl (r + 1) _ (oldersM s (c - 1)) n HNL.out rfl HOo.out rfl ?g1 ?g2 ?g3 ?_))
          case g1=>have:=HLE.out; unfold maxLen; omega
          case g2=>have:=HLE.out; show _ * 16 ≤ _; omega
          case g3=>have:=HBo.out.size; rw [HS0.out] at this; exact this
          intro v5 w5 ho5 hb5
          obtain ⟨P5,k5,hf5⟩:=own_form ho5
          subst hf5
          obtain ⟨n5,hn5⟩:∃ n5,n + 1=n5:=⟨_,rfl⟩
          rw [hn5] at ho5 ⊢
          have HN5:Hid (n5=(oldersM s c).length):=by show _=_; rw [HS2.out,List.length_append,← HNL.out]; exact hn5.symm
          have HO5:Hid (w5.ownsRow (r + 1) 9 1 (.slice P5 n5 k5) n5 (stE.fl (oldersM s c))):=by rw [HS2.out]; exact ho5
          have HB5:Hid (Below (r + 1) W0 w5):=HBo.out.trans hb5
          have hcw:=HCW.out
          clear ho5 hb5 hn5 HOo HBo HS2 HLE
          go_wp2
          go_roundw
          case rel=>exact ⟨c1,n5,P5,k5,by have:=HCB.out; omega,by have:=HCB.out; omega,rfl,rfl,by rw [HCB.out.2.2,Nat.add_sub_cancel]; exact HN5.out,by rw [HCB.out.2.2,Nat.add_sub_cancel]; exact HO5.out,HB5.out⟩
          case measure=>have:=HCB.out; simp [intOf]; omega
        · have hze:(re == 0)=false:=by simpa using hz
          have HS2:Hid (oldersM s c=oldersM s (c - 1)):=by show _=_; rw [HST.out,if_neg hz,List.append_nil]
          have hcw:=HCW.out
          clear HST hz
          go_wp2
          go_roundw
          case rel=>exact ⟨c1,n,P,k,by have:=HCB.out; omega,by have:=HCB.out; omega,rfl,rfl,by rw [HCB.out.2.2,Nat.add_sub_cancel,HS2.out]; exact HNL.out,by rw [HCB.out.2.2,Nat.add_sub_cancel,HS2.out]; exact HOo.out,HBo.out⟩
          case measure=>have:=HCB.out; simp [intOf]; omega
      · have hc:c=9:=by omega
        subst hc
        clear hlt hc1 hc9
        go_wp2
        go_returns
        rw [HO1.out]
        exact ⟨_,rfl,KR.own (E:=stE) HOW.out HNL.out,by rw [HR.out]; exact HB.out.trans (HBW.out.mono (by omega))⟩
  · have heb:(el != 0)=true:=bne_iff_ne.mpr h0
    have HO1:Hid (olderM s=([],el)):=by show _=_; rw [HOM.out,if_neg h0]
    clear HOM h0
    go_wp2
    go_returns
    rw [HO1.out]
    exact ⟨_,rfl,KR.nil,by rw [HR.out]; exact HB.out.trans (HB2.out.mono (by rw [HS0.out]; omega))⟩
end Go.Proofs.YtbgbmfmgdgalbaaGreatDoor
