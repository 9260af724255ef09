import Derived.Test.YtbgbmfmgdgalbaaGreatDoorM22
namespace Go.Proofs.YtbgbmfmgdgalbaaGreatDoor
open Go.RowKit
set_option linter.unusedVariables false
set_option linter.unusedSimpArgs false
theorem rdL {ops:Array Oper} {op:Oper} {a:Act} {w:World} {K:Act → World → Prop} {Q:Exit → Act → World → Prop} (C:Array Value) (r:Nat) (x:Operand) (hw:Region.wanted op (yielded ops a.tmps)=true) (ho:op.op=.load 61 x) (hx:a.eval x=.pointer (some ⟨r,0,none⟩)) (hc:w.heap[r]?=some (.cells C 61)) (h9:C.size=9) (h:K (a.put op.dst (.agg C)) w) :
    if Region.wanted op (yielded ops a.tmps)=true then Oper.wp Tryz.prog op a w K Q else K (a.put op.dst undef) w:=by
  rw [if_pos hw]
  refine wp_load_mid _ x ho r 0 hx C.toList _ (fun j v hv=>by rw [cellC hc]; simpa using hv) Tryz.underlying61 rfl (by rw [Array.length_toList,h9]; exact i31) ?_
  rw [Array.toArray_toList]
  exact h
set_option maxHeartbeats 2000000 in
set_option maxRecDepth 20000 in
theorem rclean_any {s:Fs} {V:FV} {i:Nat} (hI:Inv s i) (hi:i ≤ 3298534883000) (n:ByteArray) (hn:n.size ≤ 140737488355328) (w:World) (h:FsAt s V w):Calls Tryz.prog 91 #[.agg (fsC s V),.string n] w fun e w'=>∃ V',e=.returned (.agg (fsC (cleanM s n) V'))∧Made s V w (cleanM s n) V' w':=by
  obtain ⟨th,hth⟩:∃ th,thereM s n=th:=⟨_,rfl⟩
  have HTH:Hid (∀ W,FsAt s V W → Calls Tryz.prog 132 #[.agg (fsC s V),.string n] W fun e w'=>e=.returned (.bool th)∧Below W.heap.size W w'):=fun W hW=>by
    have:=rthere_any hI hi n hn W hW
    rw [hth] at this
    exact this
  obtain ⟨s1,e1,hrm⟩:∃ s1 e1,removeM s n=(s1,e1):=⟨_,_,rfl⟩
  have HRM:Hid (∀ W,FsAt s V W → Calls Tryz.prog 94 #[.agg (fsC s V),.string n] W (RP s V W (s1,e1))):=fun W hW=>by
    have:=rremove_i hI hi n hn W hW
    rw [hrm] at this
    exact this
  have HCL:Hid (cleanM s n=if th=true then s1 else s):=by show _=_; unfold cleanM; rw [hth,hrm]
  clear hI hi hn hth hrm
  obtain ⟨Z,hZ⟩:∃ Z,Z=zF:=⟨_,rfl⟩
  have HZZ:Hid (Z=zF):=hZ
  have HZS:Hid (Z.size=9):=by show _=_; rw [hZ]; rfl
  clear hZ
  obtain ⟨W1,hW1⟩:∃ W1,W1=(w.alloc (.cells (fsC s V) 61)).alloc (.cells Z 61):=⟨_,rfl⟩
  have hls:=LS.start h Z
  rw [← hW1] at hls
  obtain ⟨r,hr⟩:∃ r,w.heap.size=r:=⟨_,rfl⟩
  have HRR:Hid (w.heap.size=r):=hr
  rw [hr] at hls
  clear h hr
  rw [show fsC s V=#[.bool s.down,.int .i64 (s.steps:Int),V.f,V.d,V.s,V.c,V.p,.int .i64 s.crash,V.k] from rfl] at hW1
  rw [show fsC s V=#[.bool s.down,.int .i64 (s.steps:Int),V.f,V.d,V.s,V.c,V.p,.int .i64 s.crash,V.k] from rfl]
  go_enter Tryz.func91,Tryz.ntmps91
  go_upto_region 1 with (refine alF rfl rfl Z HZZ.out ?_)
  try simp only [World.size_alloc]
  rw [← hW1,HRR.out]
  clear hW1
  go_wp2_with (refine ldF (fsC s V) r _ rfl rfl rfl hls.row rfl ?_)
  refine (show Calls _ _ _ _ _ from HTH.out _ hls.at_).mono ?_
  rintro e w2 ⟨rfl,hb2⟩
  have hls:=hls.on hb2
  clear hb2 HTH
  cases th with
  | true =>
    have HV:Hid (cleanM s n=s1):=by show _=_; rw [HCL.out]; rfl
    go_wp2_with (refine ldF (fsC s V) r _ rfl rfl rfl hls.row rfl ?_)
    refine (show Calls _ _ _ _ _ from HRM.out _ hls.at_).mono ?_
    rintro e w3 ⟨V1,rfl,hM⟩
    have HM:Hid (Made s V _ s1 V1 w3):=hM
    have HL0:Hid (LS w s V r Z s V _):=hls
    have H1c:Hid ((fsC s1 V1).all (·.oneCell')=true):=fsC_one hM.at_
    have HRW:Hid _:=keep_row hls.row hM.bel
    clear hM hls
    go_upto_region 3 with (refine stF rfl _ _ rfl r (fsC s1 V1) (fsC s V) rfl rfl rfl H1c.out rfl HRW.out ?_; intro W5 hr5 hm5)
    have hls:=HL0.out.made HM.out hr5 hm5
    clear hr5 hm5 HM HL0 H1c HRW
    go_wp2_with (first | refine ldF (fsC s1 V1) r _ rfl rfl rfl hls.row rfl ?_ | (refine stF rfl _ _ rfl (r + 1) (fsC s1 V1) Z rfl rfl rfl (fsC_one hls.at_) HZS.out hls.res ?_; intro W7 hr7 hm7))
    have hlv:=run_loadVar_mid (P:=Tryz.prog) W7 (r + 1) 0 61 (fsC s1 V1).toList _ (fun j v hv=>by rw [cell_of_row _ _ _ _ _ _ hr7]; simpa using hv) Tryz.underlying61 rfl (by rw [Array.length_toList,fsC_size]; exact i31)
    rw [Array.toArray_toList] at hlv
    refine bodyPost_ret (v:=.agg (fsC s1 V1)) (by simp [results,Tryz.results91,asAddr,Act.put,hlv,Result.andThen]) rfl ?_
    rw [HV.out]
    exact ⟨_,rfl,hls.fin HRR.out hm7⟩
  | false =>
    have HV:Hid (cleanM s n=s):=by show _=_; rw [HCL.out]; rfl
    go_wp2_with (first | refine ldF (fsC s V) r _ rfl rfl rfl hls.row rfl ?_ | (refine stF rfl _ _ rfl (r + 1) (fsC s V) Z rfl rfl rfl (fsC_one hls.at_) HZS.out hls.res ?_; intro W7 hr7 hm7))
    have hlv:=run_loadVar_mid (P:=Tryz.prog) W7 (r + 1) 0 61 (fsC s V).toList _ (fun j v hv=>by rw [cell_of_row _ _ _ _ _ _ hr7]; simpa using hv) Tryz.underlying61 rfl (by rw [Array.length_toList,fsC_size]; exact i31)
    rw [Array.toArray_toList] at hlv
    refine bodyPost_ret (v:=.agg (fsC s V)) (by simp [results,Tryz.results91,asAddr,Act.put,hlv,Result.andThen]) rfl ?_
    rw [HV.out]
    exact ⟨_,rfl,hls.fin HRR.out hm7⟩
set_option maxHeartbeats 4000000 in
set_option maxRecDepth 20000 in
theorem rwritten_any {s:Fs} {V:FV} {i:Nat} (hI:Inv s i) (n t:ByteArray) (hi:i + piecesN t.size + 2 ≤ 3298534883000) (hn:n.size ≤ 140737488355328) (ht:t.size ≤ 140737488355328) (w:World) (h:FsAt s V w):Calls Tryz.prog 131 #[.agg (fsC s V),.string n,.string t] w (RP s V w (writtenM s n t)):=by
  obtain ⟨s1,e1,hcr⟩:∃ s1 e1,createM s n=(s1,e1):=⟨_,_,rfl⟩
  have HCR:Hid (∀ W,FsAt s V W → Calls Tryz.prog 58 #[.agg (fsC s V),.string n] W (RP s V W (s1,e1))):=fun W hW=>by
    have:=rcreate_i hI (by omega) n hn W hW
    rw [hcr] at this
    exact this
  have HI1:Hid (Inv s1 (i + 1)):=by
    have:=hI.create n
    rw [hcr] at this
    exact this
  have HWR:Hid (writtenM s n t=andM (s1,e1) fun G=>andM (appsM t.size G n t) fun G=>syncM G n):=by show _=_; unfold writtenM; rw [hcr]
  have HNS:Hid (n.size ≤ 140737488355328):=hn
  have HTS:Hid (t.size ≤ 140737488355328):=ht
  have HIB:Hid (i + piecesN t.size + 2 ≤ 3298534883000):=hi
  clear hI hi hn ht hcr
  obtain ⟨Z,hZ⟩:∃ Z,Z=zF:=⟨_,rfl⟩
  have HZZ:Hid (Z=zF):=hZ
  have HZS:Hid (Z.size=9):=by show _=_; rw [hZ]; rfl
  clear hZ
  obtain ⟨W1,hW1⟩:∃ W1,W1=(w.alloc (.cells (fsC s V) 61)).alloc (.cells Z 61):=⟨_,rfl⟩
  have hls:=LS.start h Z
  rw [← hW1] at hls
  obtain ⟨r,hr⟩:∃ r,w.heap.size=r:=⟨_,rfl⟩
  have HRR:Hid (w.heap.size=r):=hr
  rw [hr] at hls
  clear h hr
  rw [show fsC s V=#[.bool s.down,.int .i64 (s.steps:Int),V.f,V.d,V.s,V.c,V.p,.int .i64 s.crash,V.k] from rfl] at hW1
  rw [show fsC s V=#[.bool s.down,.int .i64 (s.steps:Int),V.f,V.d,V.s,V.c,V.p,.int .i64 s.crash,V.k] from rfl]
  go_enter Tryz.func131,Tryz.ntmps131
  go_upto_region 1 with (refine alF rfl rfl Z HZZ.out ?_)
  try simp only [World.size_alloc]
  rw [← hW1,HRR.out]
  clear hW1
  go_wp2_with (refine ldF (fsC s V) r _ rfl rfl rfl hls.row rfl ?_)
  refine (show Calls _ _ _ _ _ from HCR.out _ hls.at_).mono ?_
  rintro e w3 ⟨V1,rfl,hM⟩
  have HM:Hid (Made s V _ s1 V1 w3):=hM
  have HL0:Hid (LS w s V r Z s V _):=hls
  have H1c:Hid ((fsC s1 V1).all (·.oneCell')=true):=fsC_one hM.at_
  have HRW:Hid _:=keep_row hls.row hM.bel
  clear hM hls
  go_upto_region 2 with (refine stF rfl _ _ rfl r (fsC s1 V1) (fsC s V) rfl rfl rfl H1c.out rfl HRW.out ?_; intro W5 hr5 hm5)
  have hls:=HL0.out.made HM.out hr5 hm5
  clear hr5 hm5 HM HL0 H1c HRW
  clear HCR
  by_cases h0:e1=0
  · subst h0
    have HL1:Hid (LS w s V r Z s1 V1 _):=hls
    have HT0:Hid (writtenM s n t=andM (appsM t.size s1 n t) fun G=>syncM G n):=by show _=_; rw [HWR.out]; exact andM_ok rfl
    clear hls HWR
    go_wp2
    go_loopw [2] (fun cv wr=>∃ (k:Nat) (s2:Fs) (V2:FV) (t2:ByteArray),cv=.string t2∧LS w s V r Z s2 V2 wr∧t2.size ≤ k∧t2.size ≤ t.size∧Inv s2 (i + 1 + (piecesN t.size - piecesN t2.size))∧(andM (appsM t.size s1 n t) fun G=>syncM G n)=(andM (appsM k s2 n t2) fun G=>syncM G n)) (fun cv _=>(match cv with | .string x=>x.size | _=>0))
    case atStart=>exact ⟨t.size,s1,V1,t,rfl,HL1.out,Nat.le_refl _,Nat.le_refl _,by rw [Nat.sub_self]; exact HI1.out,rfl⟩
    case round =>
      obtain ⟨k,s2,V2,t2,rfl,hls,htk,htl,hI2,heq⟩:=hrel
      by_cases h0:t2.size=0
      · have ht0:t2=⟨#[]⟩:=ByteArray.ext (Array.eq_empty_of_size_eq_zero (by have:t2.data.size=t2.size:=rfl; omega))
        have HE:Hid ((andM (appsM t.size s1 n t) fun G=>syncM G n)=syncM s2 n):=by
          show _=_
          rw [heq,ht0]
          have h1:appsM k s2 n ⟨#[]⟩=(s2,0):=by cases k with | zero=>rfl | succ k=>exact if_pos rfl
          rw [h1]
          exact andM_ok rfl
        have HIN:Hid (Inv s2 (i + 1 + (piecesN t.size - piecesN t2.size))):=hI2
        obtain ⟨s3,e3,hsy⟩:∃ s3 e3,syncM s2 n=(s3,e3):=⟨_,_,rfl⟩
        have HSY:Hid (∀ W,FsAt s2 V2 W → Calls Tryz.prog 160 #[.agg (fsC s2 V2),.string n] W (RP s2 V2 W (s3,e3))):=fun W hW=>by
          have:=rsync_i HIN.out (by have:=HIB.out; omega) n HNS.out W hW
          rw [hsy] at this
          exact this
        have HV:Hid (writtenM s n t=(s3,e3)):=by show _=_; rw [HT0.out,HE.out,hsy]
        subst ht0
        clear h0 htk htl hI2 heq hsy HE HIN HT0 HL1
        go_wp2_with (refine ldF (fsC s2 V2) r _ rfl rfl rfl hls.row rfl ?_)
        refine (show Calls _ _ _ _ _ from HSY.out _ hls.at_).mono ?_
        rintro e w9 ⟨V3,rfl,hM⟩
        have HMM:Hid (Made s2 V2 _ s3 V3 w9):=hM
        have HZ9:Hid _:=keep_row hls.res hM.bel
        clear hM
        go_wp2_with (refine stF rfl _ _ rfl (r + 1) (fsC s3 V3) Z rfl rfl rfl (fsC_one HMM.out.at_) HZS.out HZ9.out ?_; intro W7 hr7 hm7)
        have hlv:=run_loadVar_mid (P:=Tryz.prog) W7 (r + 1) 0 61 (fsC s3 V3).toList _ (fun j v hv=>by rw [cell_of_row _ _ _ _ _ _ hr7]; simpa using hv) Tryz.underlying61 rfl (by rw [Array.length_toList,fsC_size]; exact i31)
        rw [Array.toArray_toList] at hlv
        refine bodyPost_ret (v:=.tuple #[.agg (fsC s3 V3),.int .i64 e3]) (by simp [results,Tryz.results131,asAddr,Act.put,hlv,Result.andThen]) rfl ?_
        rw [HV.out]
        exact ⟨_,rfl,hls.finM HRR.out HMM.out hm7⟩
      · obtain ⟨k',hk'⟩:∃ k',k=k' + 1:=⟨k - 1,by omega⟩
        subst hk'
        obtain ⟨pl,hpl⟩:∃ pl,min 65536 t2.size=pl:=⟨_,rfl⟩
        obtain ⟨pc,hpc⟩:∃ pc,t2.extract 0 pl=pc:=⟨_,rfl⟩
        obtain ⟨t3,ht3⟩:∃ t3,t2.extract pl t2.size=t3:=⟨_,rfl⟩
        have hps:pc.size=pl:=by rw [← hpc]; simp; omega
        have ht3s:t3.size=t2.size - pl:=by rw [← ht3]; simp
        obtain ⟨s3,e1,hap⟩:∃ s3 e1,appendM s2 n pc=(s3,e1):=⟨_,_,rfl⟩
        have HST:Hid (appsM (k' + 1) s2 n t2=andM (s3,e1) (fun G=>appsM k' G n t3)):=by
          show _=_
          have h1:appsM (k' + 1) s2 n t2=andM (appendM s2 n (t2.extract 0 (min 65536 t2.size))) (fun G=>appsM k' G n (t2.extract (min 65536 t2.size) t2.size)):=if_neg h0
          rw [h1,hpl,hpc,ht3,hap]
        have HPN:Hid (piecesN t2.size=piecesN t3.size + 1∧piecesN t2.size ≤ piecesN t.size):=by
          show _∧_
          unfold piecesN
          rw [ht3s]
          omega
        have HAP:Hid (∀ W,Below wr.heap.size wr W → Calls Tryz.prog 59 #[.agg (fsC s2 V2),.string n,.string pc] W fun e w'=>∃ V1 C1,C1=fsC s3 V1∧e=.returned (.tuple #[.agg C1,.int .i64 e1])∧Made s2 V2 W s3 V1 w'):=fun W hW=>by
          have:=rappend_i hI2 (by have:=HIB.out; omega) n pc HNS.out (by have:=HTS.out; omega) W (hls.at_.on hW)
          rw [hap] at this
          refine Calls.mono this ?_
          rintro e w' ⟨V1,rfl,hM⟩
          exact ⟨V1,_,rfl,rfl,hM⟩
        have HI3:Hid (Inv s3 (i + 1 + (piecesN t.size - piecesN t3.size))):=by
          have h1:=hI2.append n pc
          rw [hap] at h1
          have h2:=HPN.out
          exact h1.more (by omega)
        have HEQ:Hid ((andM (appsM t.size s1 n t) fun G=>syncM G n)=(andM (appsM (k' + 1) s2 n t2) fun G=>syncM G n)):=heq
        have HSZ:Hid (t3.size ≤ k'∧t3.size ≤ t.size∧t3.size < t2.size):=by show _∧_∧_; omega
        have HL2:Hid (LS w s V r Z s2 V2 wr):=hls
        obtain ⟨C,hC⟩:∃ C,C=fsC s2 V2:=⟨_,rfl⟩
        have HCS:Hid (C.size=9):=by show _=_; rw [hC]; rfl
        have HRD:Hid (∀ W,Below wr.heap.size wr W → W.heap[r]?=some (.cells C 61)):=fun W hW=>by rw [hC]; exact keep_row hls.row hW
        rw [← hC] at HAP
        have hz1:(0:Int) ≤ (pl:Int):=by omega
        have hz2:(pl:Int) ≤ (t2.size:Int):=by omega
        have hz3:(pl:Nat) ≤ t2.size:=by omega
        have hmin:min (65536:Int) (t2.size:Int)=(pl:Int):=by omega
        have he0:t2.toList.isEmpty=false:=str_full h0
        clear hC h0 htk htl hI2 heq hap hpl hps ht3s hls
        go_wp2_with fail
        have hcur:Below wr.heap.size wr wr.drew:=(Below.refl _ wr).drew
        refine wp_region_held_drew (S:=fun _:World=>True) (by kernel_rfl) (trivial) (fun hHeld=>?_)
        refine wpAnyH_take (i:=1) (oi:={ dst:=some 27,op:=Op.move (Operand.tmp 1),type:=9,pos:= "ref.go:41",after:=#[],guard:=none }) (v:=.string n) rfl (by kernel_rfl) (by kernel_rfl) (by kernel_rfl) (fun _ _ _ h=>h) (Or.inl ⟨by rfl,?y1⟩) (by assumption) ?_
        case y1=>(intro w hSw; (try dsimp only at hSw); first | (go_simp; done) | (go_simp; with_reducible rfl) | (go_simp; rfl))
        try simp only [Act.put,List.setIfInBounds_toArray,List.set_cons_zero,List.set_cons_succ]
        refine wpAnyH_take (i:=2) (oi:={ dst:=some 28,op:=Op.move (Operand.tmp 2),type:=9,pos:= "ref.go:41",after:=#[],guard:=none }) (v:=.string t2) rfl (by kernel_rfl) (by kernel_rfl) (by kernel_rfl) (fun _ _ _ h=>h) (Or.inl ⟨by rfl,?y2⟩) (by assumption) ?_
        case y2=>(intro w hSw; (try dsimp only at hSw); first | (go_simp; done) | (go_simp; with_reducible rfl) | (go_simp; rfl))
        try simp only [Act.put,List.setIfInBounds_toArray,List.set_cons_zero,List.set_cons_succ]
        refine wpAnyH_take (i:=3) (oi:={ dst:=some 29,op:=Op.move (Operand.tmp 9),type:=3,pos:= "ref.go:41",after:=#[],guard:=none }) (v:=.int .i64 (pl:Int)) rfl (by kernel_rfl) (by kernel_rfl) (by kernel_rfl) (fun _ _ _ h=>h) (Or.inl ⟨by rfl,?y3⟩) (by assumption) ?_
        case y3=>(intro w hSw; (try dsimp only at hSw); first | (go_simp; done) | (go_simp; with_reducible rfl) | (go_simp; rfl))
        try simp only [Act.put,List.setIfInBounds_toArray,List.set_cons_zero,List.set_cons_succ]
        refine wpAnyH_take (i:=4) (oi:={ dst:=some 30,op:=Op.slice 9 (Operand.tmp 28) none (some (Operand.tmp 29)) none,type:=9,pos:= "ref.go:41",after:=#[{ on:=2,ground:=Ground.data },{ on:=3,ground:=Ground.data }],guard:=none }) (v:=.string pc) rfl (by kernel_rfl) (by kernel_rfl) (by kernel_rfl) (fun _ _ _ h=>h) (Or.inl ⟨by rfl,?y4⟩) (by assumption) ?_
        case y4=>(intro w hSw; (try dsimp only at hSw); first | (go_simp; done) | (go_simp; with_reducible rfl) | (go_simp; rfl))
        try simp only [Act.put,List.setIfInBounds_toArray,List.set_cons_zero,List.set_cons_succ]
        refine wpAnyH_ready (rs:=[0]) (by kernel_rfl) (by simp) ?_
        refine AllReadyH.cons (o:={ dst:=some 26,op:=Op.load 61 (Operand.tmp 3),type:=61,pos:= "ref.go:41",after:=#[],guard:=none }) rfl (fun K hK=>?_) AllReadyH.nil
        refine rdL C r _ (by rfl) rfl rfl (HRD.out _ hcur) HCS.out ?_
        refine hK.out _ _ (trivial) (fun hHeld=>?_)
        clear hK K
        try simp only [Act.put,List.setIfInBounds_toArray,List.set_cons_zero,List.set_cons_succ]
        refine wpAnyH_ready (rs:=[5]) (by kernel_rfl) (by simp) ?_
        refine AllReadyH.cons (o:={ dst:=some 31,op:=Op.call { callee:=Callee.value (Operand.func 59),args:=#[Operand.tmp 26,Operand.tmp 27,Operand.tmp 30],argTypes:=#[61,9,9] },type:=103,pos:= "ref.go:41",after:=#[{ on:=0,ground:=Ground.data },{ on:=1,ground:=Ground.data },{ on:=4,ground:=Ground.data }],guard:=none }) rfl (fun K hK=>?_) AllReadyH.nil
        first | (go_at_call 59; refine (show Calls _ _ _ _ _ from HAP.out _ hcur).mono ?_; rintro e wf ⟨V1,C1,hC1,rfl,hM⟩) | (go_simp; go_at_call 59; refine (show Calls _ _ _ _ _ from HAP.out _ hcur).mono ?_; rintro e wf ⟨V1,C1,hC1,rfl,hM⟩)
        refine hK.out _ _ (trivial) (fun hHeld=>?_)
        clear hK K
        try simp only [Act.put,List.setIfInBounds_toArray,List.set_cons_zero,List.set_cons_succ]
        refine wpAnyH_take (i:=6) (oi:={ dst:=some 25,op:=Op.move (Operand.tmp 31),type:=103,pos:= "ref.go:41",after:=#[{ on:=5,ground:=Ground.data }],guard:=none }) (v:=.tuple #[.agg C1,.int .i64 e1]) rfl (by kernel_rfl) (by kernel_rfl) (by kernel_rfl) (fun _ _ _ h=>h) (Or.inl ⟨by rfl,?y6⟩) (by assumption) ?_
        case y6=>(intro w hSw; (try dsimp only at hSw); first | (go_simp; done) | (go_simp; with_reducible rfl) | (go_simp; rfl))
        try simp only [Act.put,List.setIfInBounds_toArray,List.set_cons_zero,List.set_cons_succ]
        refine wpAnyH_take (i:=7) (oi:={ dst:=some 32,op:=Op.extract (Operand.tmp 25) 0,type:=61,pos:= "ref.go:41",after:=#[{ on:=6,ground:=Ground.data }],guard:=none }) (v:=.agg C1) rfl (by kernel_rfl) (by kernel_rfl) (by kernel_rfl) (fun _ _ _ h=>h) (Or.inl ⟨by rfl,?y7⟩) (by assumption) ?_
        case y7=>(intro w hSw; (try dsimp only at hSw); first | (go_simp; done) | (go_simp; with_reducible rfl) | (go_simp; rfl))
        try simp only [Act.put,List.setIfInBounds_toArray,List.set_cons_zero,List.set_cons_succ]
        refine wpAnyH_take (i:=8) (oi:={ dst:=some 33,op:=Op.extract (Operand.tmp 25) 1,type:=3,pos:= "ref.go:41",after:=#[{ on:=6,ground:=Ground.data },{ on:=9,ground:=Ground.gcOnly Departure.lateStores }],guard:=none }) (v:=.int .i64 e1) rfl (by kernel_rfl) (by kernel_rfl) (by kernel_rfl) (fun _ _ _ h=>h) (Or.inl ⟨by rfl,?y8⟩) (by assumption) ?_
        case y8=>(intro w hSw; (try dsimp only at hSw); first | (go_simp; done) | (go_simp; with_reducible rfl) | (go_simp; rfl))
        try simp only [Act.put,List.setIfInBounds_toArray,List.set_cons_zero,List.set_cons_succ]
        refine wpAnyH_ready (rs:=[9]) (by kernel_rfl) (by simp) ?_
        refine AllReadyH.cons (o:={ dst:=none,op:=Op.store 61 (Operand.tmp 3) (Operand.tmp 32),type:=0,pos:= "ref.go:41",after:=#[{ on:=7,ground:=Ground.data },{ on:=5,ground:=Ground.chain },{ on:=0,ground:=Ground.phase },{ on:=1,ground:=Ground.phase },{ on:=2,ground:=Ground.phase },{ on:=3,ground:=Ground.phase },{ on:=4,ground:=Ground.phase },{ on:=5,ground:=Ground.phase },{ on:=6,ground:=Ground.phase },{ on:=7,ground:=Ground.phase },{ on:=8,ground:=Ground.textOnly Departure.lateStores }],guard:=none }) rfl (fun K hK=>?_) AllReadyH.nil
        refine rdF r C1 C _ _ (by rfl) rfl rfl rfl (by rw [hC1]; rfl) (by rw [hC1]; exact fsC_one hM.at_) HCS.out (keep_row (HRD.out _ hcur) hM.bel) ?_; intro W6 hr6 hm6
        refine hK.out _ _ (trivial) (fun hHeld=>?_)
        clear hK K
        try simp only [Act.put,List.setIfInBounds_toArray,List.set_cons_zero,List.set_cons_succ]
        refine wpAnyH_take (i:=10) (oi:={ dst:=some 8,op:=Op.assign (Operand.tmp 33),type:=3,pos:= "ref.go:41",after:=#[{ on:=8,ground:=Ground.data },{ on:=9,ground:=Ground.chain },{ on:=0,ground:=Ground.phase },{ on:=1,ground:=Ground.phase },{ on:=2,ground:=Ground.phase },{ on:=3,ground:=Ground.phase },{ on:=4,ground:=Ground.phase },{ on:=5,ground:=Ground.phase },{ on:=6,ground:=Ground.phase },{ on:=7,ground:=Ground.phase },{ on:=8,ground:=Ground.phase },{ on:=9,ground:=Ground.phase }],guard:=none }) (v:=.int .i64 e1) rfl (by kernel_rfl) (by kernel_rfl) (by kernel_rfl) (fun _ _ _ h=>h) (Or.inl ⟨by rfl,?y10⟩) (by assumption) ?_
        case y10=>(intro w hSw; (try dsimp only at hSw); first | (go_simp; done) | (go_simp; with_reducible rfl) | (go_simp; rfl))
        try simp only [Act.put,List.setIfInBounds_toArray,List.set_cons_zero,List.set_cons_succ]
        refine wpAnyH_done (by kernel_rfl) ?_ _
        rw [hC1] at hr6
        have hls:=(HL2.out.on hcur).made hM hr6 hm6
        clear hC1 hM hr6 hm6 hcur HRD HCS HAP hHeld HL2
        by_cases h1:e1=0
        · subst h1
          have HE2:Hid ((andM (appsM t.size s1 n t) fun G=>syncM G n)=(andM (appsM k' s3 n t3) fun G=>syncM G n)):=by
            show _=_
            rw [HEQ.out,HST.out]
            rfl
          have HLn:Hid (LS w s V r Z s3 V1 _):=hls
          clear hls HEQ HST
          go_wp2
          go_roundw
          case rel=>exact ⟨k',s3,V1,t3,rfl,HLn.out,HSZ.out.1,HSZ.out.2.1,HI3.out,HE2.out⟩
          case measure=>have:=HSZ.out.2.2; simp; omega
        · have HV:Hid (writtenM s n t=(s3,e1)):=by show _=_; have h5:andM (s3,e1) (fun G=>appsM k' G n t3)=(s3,e1):=andM_no h1; rw [HT0.out,HEQ.out,HST.out,h5]; exact andM_no h1
          have heb:(e1 != 0)=true:=bne_iff_ne.mpr h1
          clear h1 HEQ HST HT0
          go_wp2_with (first | refine ldF (fsC s3 V1) r _ rfl rfl rfl hls.row rfl ?_ | (refine stF rfl _ _ rfl (r + 1) (fsC s3 V1) Z rfl rfl rfl (fsC_one hls.at_) HZS.out hls.res ?_; intro W7 hr7 hm7))
          have hlv:=run_loadVar_mid (P:=Tryz.prog) W7 (r + 1) 0 61 (fsC s3 V1).toList _ (fun j v hv=>by rw [cell_of_row _ _ _ _ _ _ hr7]; simpa using hv) Tryz.underlying61 rfl (by rw [Array.length_toList,fsC_size]; exact i31)
          rw [Array.toArray_toList] at hlv
          refine bodyPost_ret (v:=.tuple #[.agg (fsC s3 V1),.int .i64 e1]) (by simp [results,Tryz.results131,asAddr,Act.put,hlv,Result.andThen]) rfl ?_
          rw [HV.out]
          exact ⟨_,rfl,hls.fin HRR.out hm7⟩
  · have HV:Hid (writtenM s n t=(s1,e1)):=by show _=_; rw [HWR.out]; exact andM_no h0
    have heb:(e1 != 0)=true:=bne_iff_ne.mpr h0
    clear h0 HWR
    go_wp2_with (first | refine ldF (fsC s1 V1) r _ rfl rfl rfl hls.row rfl ?_ | (refine stF rfl _ _ rfl (r + 1) (fsC s1 V1) Z rfl rfl rfl (fsC_one hls.at_) HZS.out hls.res ?_; intro W7 hr7 hm7))
    have hlv:=run_loadVar_mid (P:=Tryz.prog) W7 (r + 1) 0 61 (fsC s1 V1).toList _ (fun j v hv=>by rw [cell_of_row _ _ _ _ _ _ hr7]; simpa using hv) Tryz.underlying61 rfl (by rw [Array.length_toList,fsC_size]; exact i31)
    rw [Array.toArray_toList] at hlv
    refine bodyPost_ret (v:=.tuple #[.agg (fsC s1 V1),.int .i64 e1]) (by simp [results,Tryz.results131,asAddr,Act.put,hlv,Result.andThen]) rfl ?_
    rw [HV.out]
    exact ⟨_,rfl,hls.fin HRR.out hm7⟩
end Go.Proofs.YtbgbmfmgdgalbaaGreatDoor
