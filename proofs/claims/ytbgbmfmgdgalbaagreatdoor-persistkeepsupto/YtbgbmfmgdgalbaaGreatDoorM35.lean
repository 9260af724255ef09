import Derived.Test.YtbgbmfmgdgalbaaGreatDoorM34
namespace Go.Proofs.YtbgbmfmgdgalbaaGreatDoor
open Go.RowKit Go.Maps
set_option linter.unusedVariables false
set_option linter.unusedSimpArgs false
theorem plit5:(⟨#[116,101,109,112,45]⟩:ByteArray).toList=[116,101,109,112,45]:=by rw [ByteArray.toList_eq]
theorem own_base {W:World} {b b' T k n:Nat} {v:Value} {xs:List Value} (h:W.ownsRow b T k v n xs) (hb:b' ≤ b):W.ownsRow b' T k v n xs:=by
  obtain ⟨q1,q | ⟨gg,cap,cur,q2,q3,q4⟩⟩:=h
  · exact ⟨q1,Or.inl q⟩
  · exact ⟨q1,Or.inr ⟨gg,cap,cur,q2,Nat.le_trans hb q3,q4⟩⟩
set_option maxHeartbeats 2000000 in
theorem slHas_any (s:ByteArray) (w:World):Calls Tryz.prog 114 #[.string s,.string ⟨#[116,101,109,112,45]⟩] w fun e w'=>e=.returned (.bool (isTmp s))∧w'=w:=by
  have hp5:(⟨#[116,101,109,112,45]⟩:ByteArray).size=5:=rfl
  by_cases h5:5 ≤ s.size
  · have hz1:(5:Int) ≤ (s.size:Int):=by omega
    have hz2:5 ≤ s.size:=h5
    by_cases he:s.extract 0 5=⟨#[116,101,109,112,45]⟩
    · have HT:Hid (isTmp s=true):=by show _=_; unfold isTmp; rw [decide_eq_true h5,decide_eq_true he]; rfl
      have hq:((s.extract 0 5).toList == [116,101,109,112,45])=true:=by rw [← plit5]; exact str_same (by rw [he])
      clear he
      go_enter Tryz.func114,Tryz.ntmps114
      go_wp2
      go_returns
      exact ⟨by rw [HT.out]; rfl,rfl⟩
    · have HT:Hid (isTmp s=false):=by show _=_; unfold isTmp; rw [decide_eq_false he,Bool.and_false]
      have hq:((s.extract 0 5).toList == [116,101,109,112,45])=false:=by rw [← plit5]; exact str_other (r_ba_ne he)
      clear he
      go_enter Tryz.func114,Tryz.ntmps114
      go_wp2
      go_returns
      exact ⟨by rw [HT.out]; rfl,rfl⟩
  · have hz1:¬ (5:Int) ≤ (s.size:Int):=by omega
    have HT:Hid (isTmp s=false):=by show _=_; unfold isTmp; rw [decide_eq_false h5,Bool.false_and]
    go_enter Tryz.func114,Tryz.ntmps114
    go_wp2
    go_returns
    exact ⟨by rw [HT.out]; rfl,rfl⟩
set_option maxHeartbeats 1000000 in
theorem hasPre_any (s:ByteArray) (w:World):Calls Tryz.prog 71 #[.string s,.string ⟨#[116,101,109,112,45]⟩] w fun e w'=>e=.returned (.bool (isTmp s))∧w'=w:=by
  have HQ:Hid _:=slHas_any s w
  go_enter Tryz.func71,Tryz.ntmps71
  go_wp2_with fail
  refine (show Calls _ _ _ _ _ from HQ.out).mono ?_
  rintro e w1 ⟨rfl,rfl⟩
  clear HQ
  go_wp2
  go_returns
  exact ⟨rfl,rfl⟩
theorem tidyL_take (l:List ByteArray) (j:Nat) (h:j < l.length):tidyL (l.take (j + 1))=tidyL (l.take j) ++ (if isTmp l[j] then [fun G=>removeM G l[j]] else []):=by
  unfold tidyL
  rw [List.take_add_one,List.getElem?_eq_getElem h,List.filter_append,List.map_append]
  congr 1
  show List.map _ (List.filter isTmp [l[j]])=_
  by_cases ht:isTmp l[j]=true
  · rw [if_pos ht,List.filter_cons_of_pos ht]; rfl
  · rw [if_neg ht,List.filter_cons_of_neg ht]; rfl
theorem tidyL_len (l:List ByteArray):(tidyL l).length=(l.filter isTmp).length:=by unfold tidyL; rw [List.length_map]
set_option maxHeartbeats 8000000 in
set_option maxRecDepth 400000 in
theorem tidyC:TidyC:=fun w0 w g X F i h hI hi=>by
  obtain ⟨R,hR⟩:∃ R,w.heap.size=R:=⟨_,rfl⟩
  obtain ⟨W0,hW0⟩:∃ W0,w.alloc (.cells #[.pointer (some ⟨g,0,none⟩)] 25)=W0:=⟨_,rfl⟩
  have hb0:Below w.heap.size w W0:=by rw [← hW0]; exact (Below.refl _ _).alloc (Nat.le_refl _) _
  have r0:W0.heap[R]?=some (.cells #[.pointer (some ⟨g,0,none⟩)] 25):=by rw [← hW0,← hR]; exact one_alloc _ _
  have HB0:Hid (Below w.heap.size w W0):=hb0
  have HR0:Hid (W0.heap[R]?=some (.cells #[.pointer (some ⟨g,0,none⟩)] 25)):=r0
  have HRR:Hid (w.heap.size=R):=hR
  have HST:Hid _:=h
  have HI:Hid _:=hI
  have HIB:Hid (i + 32830 ≤ 3298534883000):=hi
  have HOL:Hid (∀ j,Own g F X j → j < R):=fun j hj=>by have:=h.fs.own_lt hj; omega
  have HLI:Hid (Calls Tryz.prog 70 #[.pointer (some ⟨g,0,none⟩)] W0 fun e w'=>∃ P c,e=.returned (.tuple #[.slice P (listM F).1.length c,.int .i64 (listM F).2])∧w'.ownsRow W0.heap.size 9 1 (.slice P (listM F).1.length c) (listM F).1.length (psE.fl (listM F).1)∧Below W0.heap.size W0 w'):=List_all (h.on hb0)
  have hfew:=h.fs.ok.dir.few
  have c0:=cell1 r0
  clear h hI hi hb0 r0
  show Calls _ _ #[.pointer (some ⟨g,0,none⟩)] _ _
  rcases hd:F.down with _ | _
  · have hl:listM F=(F.dir.map (·.1),0):=by unfold listM; rw [hd]; rfl
    rw [hl] at HLI
    simp only at HLI
    have HTM:Hid (tidyM F=((seqM (tidyAll (F.dir.map (·.1))) F).1,(if (seqM (tidyAll (F.dir.map (·.1))) F).2=0 then (((F.dir.map (·.1)).filter isTmp).length:Int) else 0),(seqM (tidyAll (F.dir.map (·.1))) F).2)):=by show _=_; rw [tidy_eq,hd]; rfl
    obtain ⟨l,hlv⟩:∃ l,F.dir.map (·.1)=l:=⟨_,rfl⟩
    have hll:l.length ≤ 64:=by rw [← hlv,List.length_map]; exact hfew
    have hsz:∀ m ∈ l,m.size ≤ 140737488355328:=fun m hm=>by
      rw [← hlv] at hm
      obtain ⟨x,hx,rfl⟩:=List.mem_map.1 hm
      have:=(named_size (HST.out.fs.ok.dir.nam x hx)).2
      omega
    rw [hlv] at HLI HTM
    have HLL:Hid (l.length ≤ 64):=hll
    have HSZ:Hid (∀ m ∈ l,m.size ≤ 140737488355328):=hsz
    clear hl hd hlv hll hsz hfew
    obtain ⟨F2,e2,hF2⟩:∃ F2 e2,seqM (tidyAll l) F=(F2,e2):=⟨_,_,rfl⟩
    have HSE:Hid (seqM (tidyAll l) F=(F2,e2)):=hF2
    rw [hF2] at HTM
    simp only at HTM
    clear hF2
    go_enter Tryz.func33,Tryz.ntmps33
    go_wp2_with fail
    refine (show Calls _ _ _ _ _ from HLI.out).mono ?_
    rintro e w1 ⟨P0,k0,rfl,ho,hb⟩
    obtain ⟨N0,hN0⟩:∃ N0,l.length=N0:=⟨_,rfl⟩
    rw [hN0] at ho ⊢
    have HN0:Hid (l.length=N0):=hN0
    have HB1:Hid (Below w.heap.size w w1):=bel_to HB0.out hb (Nat.le_refl _)
    have HR1:Hid (w1.heap[R]?=some (.cells #[.pointer (some ⟨g,0,none⟩)] 25)):=keep_row HR0.out hb
    have HNR:Hid (w1.ownsRow R 9 1 (.slice P0 N0 k0) N0 (psE.fl l)):=own_base ho (by have:=HB0.out.size; have:=HRR.out; omega)
    clear hN0 ho hb HLI c0 hW0 hR
    go_wp2
    go_loopw [21,6] (fun ci sv wr=>∃ (j:Nat) (L:List Sp) (P:Option Addr) (c N:Nat),j ≤ N0∧ci=.int .i64 (j:Int)∧sv=.slice P N c∧N=L.length∧Lst (fun _=>False) R wr g (.slice P N c) L∧Below w.heap.size w wr∧wr.heap[R]?=some (.cells #[.pointer (some ⟨g,0,none⟩)] 25)∧wr.ownsRow R 9 1 (.slice P0 N0 k0) N0 (psE.fl l)∧msL L=tidyL (l.take j)∧tot L=N) (fun ci _ _=>N0 - (intOf ci).toNat)
    case atStart=>exact ⟨0,[],none,0,0,by omega,rfl,rfl,rfl,Lst.empty (by have:=HB1.out.size; have:=HRR.out; omega) (fun k hk=>hk.elim),HB1.out,HR1.out,HNR.out,rfl,rfl⟩
    case round =>
      obtain ⟨j,L,P,c,N,hj,rfl,rfl,hN,hl,hb,r0,hnr,hms,htot⟩:=hrel
      have HL:Hid (Lst (fun _=>False) R wr g (.slice P N c) L):=hl
      have HB:Hid (Below w.heap.size w wr):=hb
      have HRr:Hid (wr.heap[R]?=some (.cells #[.pointer (some ⟨g,0,none⟩)] 25)):=r0
      have HNW:Hid (wr.ownsRow R 9 1 (.slice P0 N0 k0) N0 (psE.fl l)):=hnr
      have HMS:Hid (msL L=tidyL (l.take j)):=hms
      have HTOT:Hid (tot L=N):=htot
      have HNL:Hid (N=L.length):=hN
      have HJ:Hid (j ≤ N0):=hj
      clear hl hb r0 hms htot hN hj
      have HRS:Hid (R ≤ wr.heap.size):=by have:=HB.out.size; have:=HRR.out; show _ ≤ _; omega
      have HLM:Hid ((L.map (·.1)).length=N):=by show _=_; rw [List.length_map,← HNL.out]
      have HNF:Hid (N=((l.take j).filter isTmp).length):=by
        have h1:=congrArg List.length HMS.out
        rw [tidyL_len] at h1
        unfold msL at h1
        rw [List.length_map] at h1
        show _=_
        rw [HNL.out,h1]
      have HNB:Hid (N ≤ 64):=by
        have h1:((l.take j).filter isTmp).length ≤ (l.take j).length:=List.length_filter_le ..
        rw [List.length_take] at h1
        have:=HNF.out
        have:=HLL.out
        show _ ≤ _
        omega
      by_cases hlt:j < N0
      · obtain ⟨bg,bo,bc,he,hcell⟩:=(KR.own (E:=psE) (l:=l) HNW.out HN0.out.symm).cell psOk (j:=j) (by have:=HN0.out; omega)
        injection he with he1 he3 he2
        subst he1
        clear he3 he2
        obtain ⟨x,hx⟩:∃ x,l[j]'(by have:=HN0.out; omega)=x:=⟨_,rfl⟩
        have x0:wr.cell? ⟨bg,bo + j * 1,none⟩=some (.string x):=by rw [← hx]; exact hcell 0 _ rfl
        rw [Nat.mul_one] at x0
        have hz0:(0:Int) ≤ (j:Int):=by omega
        have hz1:(j:Int) < (N0:Int):=by omega
        have hiw:IntKind.i64.wrap ((j:Int) + 1)=(j:Int) + 1:=by have:=HN0.out; have:=HLL.out; rw [IntKind.wrap_i64] <;> omega
        have HJL:Hid (j < N0):=hlt
        have HXS:Hid (x.size ≤ 140737488355328):=HSZ.out x (by rw [← hx]; exact List.getElem_mem _)
        have HTK:Hid (tidyL (l.take (j + 1))=tidyL (l.take j) ++ (if isTmp x then [fun G=>removeM G x] else [])):=by
          have:=tidyL_take l j (by have:=HN0.out; omega)
          rw [hx] at this
          exact this
        clear hx hcell
        obtain ⟨Wa,hWa⟩:∃ Wa,wr.alloc (.cells #[.string x] 9)=Wa:=⟨_,rfl⟩
        obtain ⟨q,hq⟩:∃ q,wr.heap.size=q:=⟨_,rfl⟩
        have hba:Below wr.heap.size wr Wa:=by rw [← hWa]; exact (Below.refl _ _).alloc (Nat.le_refl _) _
        have rq:Wa.heap[q]?=some (.cells #[.string x] 9):=by rw [← hWa,← hq]; exact one_alloc _ _
        have HBA:Hid (Below wr.heap.size wr Wa):=hba
        have HRQ:Hid (Wa.heap[q]?=some (.cells #[.string x] 9)):=rq
        have HQR:Hid (R ≤ q):=by have:=HRS.out; show _ ≤ _; omega
        have HRA:Hid (R ≤ Wa.heap.size):=Nat.le_trans HRS.out hba.size
        go_upto_region 8 with fail
        have cq:=cell1 rq
        clear hWa hq hba rq x0
        go_wp2_with fail
        refine (show Calls _ _ _ _ _ from hasPre_any x Wa).mono ?_
        rintro e w2 ⟨rfl,rfl⟩
        clear cq
        cases hb:isTmp x with
        | true =>
          have HTK2:Hid (tidyL (l.take (j + 1))=tidyL (l.take j) ++ [fun G=>removeM G x]):=by have:=HTK.out; rw [hb] at this; exact this
          have HRW:Hid (w2.ownsRow R 160 1 (.slice P N c) N (stpE.fl (L.map (·.1)))):=by
            have:=(HL.out.on HBA.out).row
            rw [← HNL.out] at this
            exact this
          clear hb HTK
          go_wp2_with ((at_builtin; go_loud (refine wpList_one stpOk #[.func (.func 72) #[] #[.pointer (some ⟨R,0,none⟩),.pointer (some ⟨q,0,none⟩)]] (72,#[],#[ptr (some R),ptr (some q)]) rfl rfl _ _ rfl R (.slice P N c) (List.map (fun s:Sp=>s.1) L) N HLM.out.symm rfl HRW.out rfl (by rw [HLM.out]; have:=HNB.out; unfold maxLen; omega) (by rw [HLM.out]; have:=HNB.out; show _ * 8 ≤ _; omega) HRA.out ?_); intro v4 w4 ho4 hg4; obtain ⟨P4,c4,hf4⟩:=own_form ho4; subst hf4))
          obtain ⟨Wb,hWb⟩:∃ Wb,w2.alloc (.cells #[.func (.func 72) #[] #[.pointer (some ⟨R,0,none⟩),.pointer (some ⟨q,0,none⟩)]] 160)=Wb:=⟨_,rfl⟩
          have hbb:Below w2.heap.size w2 Wb:=by rw [← hWb]; exact (Below.refl _ _).alloc (Nat.le_refl _) _
          have hg5:Wb.grownBy w4 (Value.slice P N c).ownBlock:=by rw [← hWb]; exact hg4
          have HBB:Hid (Below wr.heap.size wr Wb):=bel_to HBA.out hbb (Nat.le_refl _)
          have HLB:Hid (Lst (fun _=>False) R Wb g (.slice P N c) L):=HL.out.on HBB.out
          have HRB0:Hid (Wb.heap[R]?=some (.cells #[.pointer (some ⟨g,0,none⟩)] 25)):=keep_row HRr.out HBB.out
          have HRBq:Hid (Wb.heap[q]?=some (.cells #[.string x] 9)):=keep_row HRQ.out hbb
          have HB4:Hid (Below w.heap.size w Wb):=bel_to HB.out HBB.out (Nat.le_refl _)
          have HNWb:Hid (Wb.ownsRow R 9 1 (.slice (some ⟨bg,bo,none⟩) N0 k0) N0 (psE.fl l)):=own_bel HNW.out HBB.out
          have HSB:Hid (StepV Wb (KB (fun _=>False) R Wb) g ((72,#[],#[ptr (some R),ptr (some q)]),(fun G=>removeM G x),1)):=
            tid1_stp (kb_new HRB0.out (Nat.le_refl _) (by decide)) HRB0.out (kb_new HRBq.out HQR.out (by decide)) HRBq.out HXS.out
          have HL4:Hid (Lst (fun _=>False) R w4 g (.slice P4 (N + 1) c4) (L ++ [((72,#[],#[ptr (some R),ptr (some q)]),(fun G=>removeM G x),1)])):=
            HLB.out.grow HSB.out (fun _=>nrr 72 (by decide)) (by rw [← HNL.out]; exact ho4) hg5
          have HB5:Hid (Below w.heap.size w w4):=HB4.out.grown hg5 HB4.out.size (fun j hj=>by have:=(HRW.out.lt j hj).1; have:=HRR.out; omega)
          have HR5:Hid (w4.heap[R]?=some (.cells #[.pointer (some ⟨g,0,none⟩)] 25)):=HLB.out.other hg5 HRB0.out (by decide)
          have HNW5:Hid (w4.ownsRow R 9 1 (.slice (some ⟨bg,bo,none⟩) N0 k0) N0 (psE.fl l)):=own_to HNWb.out (fun k hk=>by
            obtain ⟨cur,hc⟩:=own_type HNWb.out hk
            exact (HLB.out.other hg5 hc (by decide)).trans hc.symm)
          clear hWb hbb ho4 hg4 hg5
          go_wp2
          go_roundw
          case rel =>
            refine ⟨j + 1,_,P4,c4,N + 1,HJL.out,by first | rfl | congr 1,rfl,by rw [List.length_append,← HNL.out]; rfl,HL4.out,HB5.out,HR5.out,HNW5.out,?_,?_⟩
            · rw [HTK2.out,← HMS.out]
              unfold msL
              rw [List.map_append]
              rfl
            · rw [tot_app,tot_one,HTOT.out]
          case measure=>have:=HJL.out; simp [intOf]; omega
        | false =>
          have HTK2:Hid (tidyL (l.take (j + 1))=tidyL (l.take j)):=by have:=HTK.out; rw [hb] at this; show _=_; simpa using this
          clear hb HTK
          go_wp2
          go_roundw
          case rel=>exact ⟨j + 1,L,P,c,N,HJL.out,by first | rfl | congr 1,rfl,HNL.out,HL.out.on HBA.out,bel_to HB.out HBA.out (Nat.le_refl _),keep_row HRr.out HBA.out,own_bel HNW.out HBA.out,by rw [HTK2.out]; exact HMS.out,HTOT.out⟩
          case measure=>have:=HJL.out; simp [intOf]; omega
      · have hjn:j=N0:=by have:=HJ.out; omega
        subst hjn
        have HLT:Hid (l.take j=l):=by show _=_; rw [← HN0.out,List.take_length]
        have HNF2:Hid (N=(l.filter isTmp).length):=by have:=HNF.out; rw [HLT.out] at this; exact this
        have HMS2:Hid (msL L=tidyL l):=by have:=HMS.out; rw [HLT.out] at this; exact this
        rw [← HNF2.out] at HTM
        have hzz:¬ (j:Int) < (j:Int):=by omega
        have c0:=cell1 HRr.out
        by_cases hp:0 < N
        · have hgz:(0:Int) < (N:Int):=by omega
          have HTA:Hid (tidyAll l=tidyL l ++ [syncDirM]):=by show _=_; unfold tidyAll; rw [← HNF2.out,if_pos hp]
          have HRW:Hid (wr.ownsRow R 160 1 (.slice P N c) N (stpE.fl (L.map (·.1)))):=by
            have:=HL.out.row
            rw [← HNL.out] at this
            exact this
          clear hp
          go_upto_region 13 with fail
          go_wp2_with ((at_builtin; go_loud (refine wpList_one stpOk #[.func (.func 67) #[.pointer (some ⟨g,0,none⟩)] #[]] (67,#[ptr (some g)],#[]) rfl rfl _ _ rfl R (.slice P N c) (List.map (fun s:Sp=>s.1) L) N HLM.out.symm rfl HRW.out rfl (by rw [HLM.out]; have:=HNB.out; unfold maxLen; omega) (by rw [HLM.out]; have:=HNB.out; show _ * 8 ≤ _; omega) HRS.out ?_); intro v4 w4 ho4 hg4; obtain ⟨P4,c4,hf4⟩:=own_form ho4; subst hf4))
          obtain ⟨Wb,hWb⟩:∃ Wb,wr.alloc (.cells #[.func (.func 67) #[.pointer (some ⟨g,0,none⟩)] #[]] 160)=Wb:=⟨_,rfl⟩
          have hbb:Below wr.heap.size wr Wb:=by rw [← hWb]; exact (Below.refl _ _).alloc (Nat.le_refl _) _
          have hg5:Wb.grownBy w4 (Value.slice P N c).ownBlock:=by rw [← hWb]; exact hg4
          have HLB:Hid (Lst (fun _=>False) R Wb g (.slice P N c) L):=HL.out.on hbb
          have HB4:Hid (Below w.heap.size w Wb):=bel_to HB.out hbb (Nat.le_refl _)
          have HL4:Hid (Lst (fun _=>False) R w4 g (.slice P4 (N + 1) c4) (L ++ [((67,#[ptr (some g)],#[]),syncDirM,1)])):=
            HLB.out.grow (syncDir_stp _ _ _) (fun _=>nrr 67 (by decide)) (by rw [← HNL.out]; exact ho4) hg5
          have HB5:Hid (Below w.heap.size w w4):=HB4.out.grown hg5 HB4.out.size (fun j hj=>by have:=(HRW.out.lt j hj).1; have:=HRR.out; omega)
          have HTT:Hid (tot (L ++ [((67,#[ptr (some g)],#[]),syncDirM,1)]) ≤ 65):=by rw [tot_app,tot_one]; have:=HTOT.out; have:=HNB.out; show _ + 1 ≤ _; omega
          have HMA:Hid (msL (L ++ [((67,#[ptr (some g)],#[]),syncDirM,1)])=tidyAll l):=by
            show _=_
            rw [HTA.out,← HMS2.out]
            unfold msL
            rw [List.map_append]
            rfl
          have HQ:Hid _:=HL4.out.run (by rw [List.length_append]; have:=HNL.out; have:=HNB.out; simp; omega) (HST.out.on HB5.out) HI.out (by have:=HTT.out; have:=HIB.out; omega) (fun k e=>e.elim) HOL.out
          rw [HMA.out,HSE.out] at HQ
          clear hWb hbb ho4 hg4 hg5 hzz c0
          by_cases h0:e2=0
          · subst h0
            go_wp2_with fail
            refine (show Calls _ _ _ _ _ from HQ.out).mono ?_
            rintro e w5 ⟨rfl,X2,hs2,hb2⟩
            have HS2:Hid _:=hs2
            have HB2:Hid _:=hb2
            clear hs2 hb2 HQ
            go_wp2
            go_returns
            rw [HTM.out]
            exact ⟨rfl,X2,HS2.out.more24 (by have:=HTT.out; omega),Bt.pre HB5.out HB2.out⟩
          · have heb:(e2 == 0)=false:=beq_eq_false_iff_ne.mpr h0
            have hnb:(e2 != 0)=true:=by simp [bne,heb]
            rw [if_neg h0] at HTM
            clear h0
            go_wp2_with fail
            refine (show Calls _ _ _ _ _ from HQ.out).mono ?_
            rintro e w5 ⟨rfl,X2,hs2,hb2⟩
            have HS2:Hid _:=hs2
            have HB2:Hid _:=hb2
            clear hs2 hb2 HQ
            go_wp2
            go_returns
            rw [HTM.out]
            exact ⟨rfl,X2,HS2.out.more24 (by have:=HTT.out; omega),Bt.pre HB5.out HB2.out⟩
        · have hn0:N=0:=by omega
          subst hn0
          have HTA:Hid (tidyAll l=tidyL l):=by show _=_; unfold tidyAll; rw [← HNF2.out,if_neg (by omega)]
          have HQ:Hid _:=HL.out.run (by rw [← HNL.out]; omega) (HST.out.on HB.out) HI.out (by have:=HTOT.out; have:=HIB.out; omega) (fun k e=>e.elim) HOL.out
          rw [HMS2.out,← HTA.out,HSE.out,HTOT.out] at HQ
          simp only [Nat.add_zero] at HQ
          clear HTA hzz hp
          by_cases h0:e2=0
          · subst h0
            go_wp2_with fail
            refine (show Calls _ _ _ _ _ from HQ.out).mono ?_
            rintro e w5 ⟨rfl,X2,hs2,hb2⟩
            have HS2:Hid _:=hs2
            have HB2:Hid _:=hb2
            clear hs2 hb2 HQ c0
            go_wp2
            go_returns
            rw [HTM.out]
            exact ⟨rfl,X2,HS2.out.more24 (by omega),Bt.pre HB.out HB2.out⟩
          · have heb:(e2 == 0)=false:=beq_eq_false_iff_ne.mpr h0
            have hnb:(e2 != 0)=true:=by simp [bne,heb]
            rw [if_neg h0] at HTM
            clear h0
            go_wp2_with fail
            refine (show Calls _ _ _ _ _ from HQ.out).mono ?_
            rintro e w5 ⟨rfl,X2,hs2,hb2⟩
            have HS2:Hid _:=hs2
            have HB2:Hid _:=hb2
            clear hs2 hb2 HQ c0
            go_wp2
            go_returns
            rw [HTM.out]
            exact ⟨rfl,X2,HS2.out.more24 (by omega),Bt.pre HB.out HB2.out⟩
  · have hl:listM F=([],203):=by unfold listM; rw [hd]; rfl
    rw [hl] at HLI
    simp only at HLI
    have HTM:Hid (tidyM F=(F,0,203)):=by show _=_; rw [tidy_eq,hd]; rfl
    clear hl hd hfew
    go_enter Tryz.func33,Tryz.ntmps33
    go_wp2_with fail
    refine (show Calls _ _ _ _ _ from HLI.out).mono ?_
    rintro e w1 ⟨P0,k0,rfl,ho,hb⟩
    have HB1:Hid (Below w.heap.size w w1):=bel_to HB0.out hb (Nat.le_refl _)
    clear ho hb HLI c0 hW0 hR
    go_wp2
    go_returns
    rw [HTM.out]
    exact HST.out.none24 (by omega) HB1.out
end Go.Proofs.YtbgbmfmgdgalbaaGreatDoor
