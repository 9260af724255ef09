import Derived.Test.YtbgbmfmgdgalbaaGreatDoorM34
namespace Go.Proofs.YtbgbmfmgdgalbaaGreatDoor
open Go.RowKit Go.Maps
set_option linter.unusedVariables false
set_option linter.unusedSimpArgs false
set_option maxHeartbeats 4000000 in
set_option maxRecDepth 400000 in
theorem saveC:SaveC:=fun w0 w g X F i t keep h hI hi ht hk=>by
  obtain ⟨k1,k2⟩:=hk
  show Calls _ _ #[.pointer (some ⟨g,0,none⟩),.string t,.int .i64 keep] _ _
  by_cases hk1:keep < 0
  · have HV:Hid (saveM F t keep=(F,1)):=save_no (Or.inl hk1)
    have HST:Hid _:=h
    clear h hI hi ht k1 k2
    go_enter Tryz.func9,Tryz.ntmps9
    go_wp2
    go_returns
    rw [HV.out]
    exact HST.out.none24 (by omega) (Below.refl _ _)
  · by_cases hk2:8 < keep
    · have HV:Hid (saveM F t keep=(F,1)):=save_no (Or.inr hk2)
      have HST:Hid _:=h
      clear h hI hi ht k1 k2
      go_enter Tryz.func9,Tryz.ntmps9
      go_wp2
      go_returns
      rw [HV.out]
      exact HST.out.none24 (by omega) (Below.refl _ _)
    · by_cases hs:1073741824 < t.size
      · have HV:Hid (saveM F t keep=(F,2)):=by show _=_; unfold saveM; rw [if_neg (by omega),if_pos hs]
        have HST:Hid _:=h
        have hs1:(1073741824:Int) < (t.size:Int):=by omega
        clear h hI hi ht k1 k2
        go_enter Tryz.func9,Tryz.ntmps9
        go_wp2
        go_returns
        rw [HV.out]
        exact HST.out.none24 (by omega) (Below.refl _ _)
      · obtain ⟨k,hkk⟩:∃ k:Nat,keep=(k:Int):=⟨keep.toNat,by omega⟩
        subst hkk
        have HV:Hid (saveM F t (k:Int)=svM F t k):=by
          show _=_
          unfold saveM svM
          rw [if_neg (by omega),if_neg hs,Int.toNat_natCast]
        obtain ⟨W1,hW1⟩:∃ W1,w.alloc (.cells #[.pointer (some ⟨g,0,none⟩),.string t,.int .i64 (k:Int)] 77)=W1:=⟨_,rfl⟩
        have hb1:Below w.heap.size w W1:=by rw [← hW1]; exact (Below.refl _ _).alloc (Nat.le_refl _) _
        have r1:W1.heap[w.heap.size]?=some (.cells #[.pointer (some ⟨g,0,none⟩),.string t,.int .i64 (k:Int)] 77):=by rw [← hW1]; exact one_alloc _ _
        have HQ:Hid (Calls Tryz.prog 30 #[.pointer (some ⟨w.heap.size,0,none⟩)] W1 (CalP w0 W1 g X F (svM F t k).1 (i + 32830) (.int .i64 (svM F t k).2))):=prun_any (h.on hb1) hI (by omega) (by omega) hi r1 (fun ho=>by have:=h.fs.own_lt ho; omega)
        have HB1:Hid (Below w.heap.size w W1):=hb1
        have HW1:Hid _:=hW1
        have hs1:¬ (1073741824:Int) < (t.size:Int):=by omega
        have hk8:¬ (8:Int) < (k:Int):=hk2
        have hk0:¬ (k:Int) < 0:=hk1
        clear h hI hi ht k1 k2 hb1 r1 hW1 hs hk1 hk2
        obtain ⟨F2,e2,hm⟩:∃ F2 e2,svM F t k=(F2,e2):=⟨_,_,rfl⟩
        rw [hm] at HQ HV
        simp only at HQ
        clear hm
        go_enter Tryz.func9,Tryz.ntmps9
        go_upto_region 6 with fail
        rw [HW1.out]
        go_wp2_with fail
        refine (show Calls _ _ _ _ _ from HQ.out).mono ?_
        rintro e w5 ⟨rfl,X2,hs2,hb2⟩
        have HS2:Hid _:=hs2
        have HB2:Hid _:=hb2
        clear hs2 hb2 HQ
        go_wp2
        go_returns
        rw [HV.out]
        exact ⟨rfl,X2,HS2.out,Bt.pre HB1.out HB2.out⟩
set_option maxHeartbeats 4000000 in
set_option maxRecDepth 400000 in
theorem loadC:LoadC:=fun w0 w g X F i h hI hi=>by
  have HQ:Hid (Calls Tryz.prog 33 #[.pointer (some ⟨g,0,none⟩)] w (CalP w0 w g X F (tidyM F).1 (i + 65) (.tuple #[.int .i64 (tidyM F).2.1,.int .i64 (tidyM F).2.2]))):=tidyC w0 w g X F i h hI hi
  have HUP:Hid ((tidyM F).2.2=0 → (tidyM F).1.down=false):=tidy_up
  obtain ⟨F1,n1,e1,hm⟩:∃ F1 n1 e1,tidyM F=(F1,n1,e1):=⟨_,_,_,rfl⟩
  have HLM:Hid (loadM F=if e1=0 then (F1,(readM F1 liveN).1,decide ((readM F1 liveN).2=0),0) else (F1,⟨#[]⟩,false,e1)):=by show _=_; unfold loadM; rw [hm]
  rw [hm] at HQ HUP
  simp only at HQ HUP
  clear h hI hi hm
  show Calls _ _ #[.pointer (some ⟨g,0,none⟩)] _ _
  by_cases h0:e1=0
  · subst h0
    have hup:=HUP.out rfl
    have HRD:Hid (∀ W X1 j,St w0 W g X1 F1 j → Calls Tryz.prog 31 #[.pointer (some ⟨g,0,none⟩),.string liveN] W fun e w'=>e=.returned (.tuple #[.string (readM F1 liveN).1,.bool (decide ((readM F1 liveN).2=0)),.int .i64 0])∧Below W.heap.size W w'):=fun W X1 j hs=>by
      have h1:=pread_any hs liveN (by decide)
      have h2:rdT F1 liveN=.tuple #[.string (readM F1 liveN).1,.bool (decide ((readM F1 liveN).2=0)),.int .i64 0]:=by
        rcases read_cases F1 with ⟨hr,hd⟩ | ⟨hr,hd⟩ | ⟨hr,hd⟩
        · rw [hup] at hd; cases hd
        · have h3:(readM F1 liveN).1=⟨#[]⟩:=by
            unfold readM at hr ⊢
            by_cases hh:hasM F1 liveN=0
            · rw [if_pos hh] at hr; exact absurd (show (0:Int)=201 from hr) (by decide)
            · rw [if_neg hh]
          unfold rdT
          rw [hr,if_neg (by decide),if_pos rfl,h3]
          rfl
        · unfold rdT
          rw [hr,if_pos rfl]
          rfl
      rw [h2] at h1
      exact h1
    have HV:Hid (loadM F=(F1,(readM F1 liveN).1,decide ((readM F1 liveN).2=0),0)):=by show _=_; rw [HLM.out,if_pos rfl]
    obtain ⟨tx,htx⟩:∃ tx,(readM F1 liveN).1=tx:=⟨_,rfl⟩
    obtain ⟨bx,hbx⟩:∃ bx,decide ((readM F1 liveN).2=0)=bx:=⟨_,rfl⟩
    rw [htx,hbx] at HV
    rw [htx,hbx] at HRD
    clear hup HUP HLM htx hbx
    go_enter Tryz.func11,Tryz.ntmps11
    go_wp2_with fail
    refine (show Calls _ _ _ _ _ from HQ.out).mono ?_
    rintro e w1 ⟨rfl,X1,hs1,hb1⟩
    have HS1:Hid _:=hs1
    have HB1:Hid _:=hb1
    clear hs1 hb1 HQ
    go_wp2_with fail
    refine (show Calls _ _ _ _ _ from HRD.out _ _ _ HS1.out).mono ?_
    rintro e w2 ⟨rfl,hb2⟩
    have HB2:Hid _:=hb2
    clear hb2 HRD
    go_wp2
    go_returns
    rw [HV.out]
    exact ⟨rfl,X1,HS1.out.on HB2.out,HB1.out.after HB2.out⟩
  · have HV:Hid (loadM F=(F1,⟨#[]⟩,false,e1)):=by show _=_; rw [HLM.out,if_neg h0]
    have heb:(e1 == 0)=false:=beq_eq_false_iff_ne.mpr h0
    have hnb:(e1 != 0)=true:=by simp [bne,heb]
    clear HUP HLM h0
    go_enter Tryz.func11,Tryz.ntmps11
    go_wp2_with fail
    refine (show Calls _ _ _ _ _ from HQ.out).mono ?_
    rintro e w1 ⟨rfl,X1,hs1,hb1⟩
    have HS1:Hid _:=hs1
    have HB1:Hid _:=hb1
    clear hs1 hb1 HQ
    go_wp2
    go_returns
    rw [HV.out]
    exact ⟨rfl,X1,HS1.out,HB1.out⟩
theorem named_oldN (i:Nat) (h:i ≤ 9):namedM (oldN i)=true:=by
  have:∀ x:Fin 10,namedM (oldN x.val)=true:=by decide
  exact this ⟨i,by omega⟩
theorem rd_old {F:Fs} (hd:F.down=false) (j:Nat) (hj:j ≤ 9):rdT F (oldN j)=.tuple #[.string (if thereM F (oldN j) then (readM F (oldN j)).1 else ⟨#[]⟩),.bool (thereM F (oldN j)),.int .i64 0]:=by
  by_cases hf:findM F.dir (oldN j) < 0
  · have hh:hasM F (oldN j)=201:=by unfold hasM; rw [hd,if_neg (by decide),if_pos (named_oldN j hj),if_pos hf]
    have hr:readM F (oldN j)=(⟨#[]⟩,201):=by unfold readM; rw [hh,if_neg (by decide)]
    have ht:thereM F (oldN j)=false:=by unfold thereM; rw [hr]; rfl
    unfold rdT
    rw [ht,hr,if_neg (by decide),if_pos rfl]
    rfl
  · have hh:hasM F (oldN j)=0:=by unfold hasM; rw [hd,if_neg (by decide),if_pos (named_oldN j hj),if_neg hf]
    have hr:(readM F (oldN j)).2=0:=by unfold readM; rw [if_pos hh]
    have ht:thereM F (oldN j)=true:=there_iff.2 hh
    unfold rdT
    rw [ht,if_pos hr]
    rfl
set_option maxHeartbeats 4000000 in
set_option maxRecDepth 400000 in
theorem olderC:OlderC:=fun w0 w g X F i h hI hi=>by
  have HST:Hid _:=h
  have HOLD:Hid (∀ (q:Nat) W,q ≤ 9 → Calls Tryz.prog 32 #[.int .i64 (q:Int)] W fun e w'=>e=.returned (.string (oldN q))∧w'=W):=fun q W hq=>polder_any q hq W
  clear h hI hi
  show Calls _ _ #[.pointer (some ⟨g,0,none⟩)] _ _
  rcases hd:F.down with _ | _
  · have HV:Hid (olderM F=(oldersM F 8,0)):=by show _=_; unfold olderM listM; rw [hd]; rfl
    have HRD:Hid (∀ (q:Nat) W,q ≤ 9 → Below w.heap.size w W → Calls Tryz.prog 31 #[.pointer (some ⟨g,0,none⟩),.string (oldN q)] W fun e w'=>e=.returned (.tuple #[.string (if thereM F (oldN q) then (readM F (oldN q)).1 else ⟨#[]⟩),.bool (thereM F (oldN q)),.int .i64 0])∧Below W.heap.size W w'):=fun q W hq hb=>by
      have h1:=pread_any (HST.out.on hb) (oldN q) (old_sz q)
      rw [rd_old hd q hq] at h1
      exact h1
    clear hd
    go_enter Tryz.func10,Tryz.ntmps10
    go_upto_region 3 with fail
    go_loopw [4,5] (fun sv iv wr=>∃ (j:Nat) (L:List ByteArray) (P:Option Addr) (c N:Nat),j ≤ 8∧iv=.int .i64 ((j + 1:Nat):Int)∧sv=.slice P N c∧N=L.length∧wr.ownsRow w.heap.size 9 1 (.slice P N c) N (psE.fl L)∧Below w.heap.size w wr∧L=oldersM F j∧N ≤ j) (fun _ iv _=>9 - (intOf iv).toNat)
    case atStart=>exact ⟨0,[],none,0,0,by omega,rfl,rfl,rfl,⟨rfl,Or.inl ⟨rfl,rfl⟩⟩,Below.refl _ _,rfl,by omega⟩
    case round =>
      obtain ⟨j,L,P,c,N,hj,rfl,rfl,hN,ho,hb,hL,hNj⟩:=hrel
      have HO:Hid (wr.ownsRow w.heap.size 9 1 (.slice P N c) N (psE.fl L)):=ho
      have HB:Hid (Below w.heap.size w wr):=hb
      have HLL:Hid (L=oldersM F j):=hL
      have HNL:Hid (N=L.length):=hN
      have HNJ:Hid (N ≤ j∧j ≤ 8):=⟨hNj,hj⟩
      clear ho hb hL hN hNj
      obtain ⟨m,hm⟩:∃ m,j + 1=m:=⟨_,rfl⟩
      have HM:Hid (j + 1=m):=hm
      rw [hm]
      clear hm
      by_cases hlt:m ≤ 8
      · have hg0:(m:Int) ≤ 8:=by omega
        have hw2:IntKind.i64.wrap ((m:Int) + 1)=((m + 1:Nat):Int):=by rw [IntKind.wrap_i64] <;> omega
        have HLT:Hid (m ≤ 8):=hlt
        have HLS:Hid (oldersM F m=L ++ (if thereM F (oldN m) then [(readM F (oldN m)).1] else [])):=by show _=_; rw [← HM.out,HLL.out]; rfl
        have HRD2:Hid _:=HRD.out m wr (by omega) HB.out
        obtain ⟨th,hth⟩:∃ th,thereM F (oldN m)=th:=⟨_,rfl⟩
        obtain ⟨tx,htx⟩:∃ tx,(readM F (oldN m)).1=tx:=⟨_,rfl⟩
        rw [hth,htx] at HLS HRD2
        clear hth htx
        go_wp2_with fail
        refine (show Calls _ _ _ _ _ from HOLD.out _ _ (by omega)).mono ?_
        rintro e w1 ⟨rfl,rfl⟩
        go_wp2_with fail
        refine (show Calls _ _ _ _ _ from HRD2.out).mono ?_
        rintro e w2 ⟨rfl,hb2⟩
        have HB2:Hid (Below w1.heap.size w1 w2):=hb2
        have HBW:Hid (Below w.heap.size w w2):=bel_to HB.out hb2 (Nat.le_refl _)
        have HO2:Hid (w2.ownsRow w.heap.size 9 1 (.slice P N c) N (psE.fl L)):=own_bel HO.out hb2
        clear hb2 HRD2
        cases th with
        | true =>
          have HLS2:Hid (oldersM F m=L ++ [tx]):=HLS.out
          rw [if_pos rfl]
          clear HLS
          have HSZ:Hid (w.heap.size ≤ w2.heap.size):=HBW.out.size
          go_wp2_with ((at_builtin; go_loud (refine wpList_one psOk #[.string tx] tx rfl rfl _ _ rfl w.heap.size (.slice P N c) L N HNL.out rfl HO2.out rfl (by have:=HNL.out; have:=HNJ.out; unfold maxLen; omega) (by have:=HNL.out; have:=HNJ.out; show _ * 16 ≤ _; omega) HSZ.out ?_); intro v4 w4 ho4 hg4; obtain ⟨P4,c4,hf4⟩:=own_form ho4; subst hf4))
          go_roundw
          case rel =>
            refine ⟨m,L ++ [tx],P4,c4,N + 1,HLT.out,by first | rfl | congr 1,rfl,by rw [List.length_append,HNL.out]; rfl,ho4,?_,HLS2.out.symm,by have:=HNJ.out; have:=HM.out; omega⟩
            exact (HBW.out.alloc HBW.out.size _).grown hg4 (by have:=HBW.out.size; simp; omega) (fun q hq=>(HO2.out.lt q hq).1)
          case measure=>have:=HLT.out; simp [intOf]; omega
        | false =>
          have HLS2:Hid (oldersM F m=L):=by have:=HLS.out; show _=_; simpa using this
          rw [if_neg (by decide)]
          clear HLS
          go_wp2
          go_roundw
          case rel=>exact ⟨m,L,P,c,N,HLT.out,by first | rfl | congr 1,rfl,HNL.out,HO2.out,HBW.out,HLS2.out.symm,by have:=HNJ.out; have:=HM.out; omega⟩
          case measure=>have:=HLT.out; simp [intOf]; omega
      · have hg0:¬ (m:Int) ≤ 8:=by omega
        have HL8:Hid (L=oldersM F 8):=by have:=HLL.out; show _=_; rw [this]; congr 1; have:=HNJ.out; have:=HM.out; omega
        go_wp2
        go_returns
        rw [HV.out]
        refine ⟨P,c,?_,?_,HB.out⟩
        · rw [← HL8.out,← HNL.out]; rfl
        · have:=HO.out; rw [HNL.out,HL8.out] at this; exact this
  · have HV:Hid (olderM F=([],203)):=by show _=_; unfold olderM listM; rw [hd]; rfl
    have HRD:Hid (∀ W,Below w.heap.size w W → Calls Tryz.prog 31 #[.pointer (some ⟨g,0,none⟩),.string (oldN 1)] W fun e w'=>e=.returned (.tuple #[.string ⟨#[]⟩,.bool false,.int .i64 203])∧Below W.heap.size W w'):=fun W hb=>by
      have h1:=pread_any (HST.out.on hb) (oldN 1) (old_sz 1)
      have h2:rdT F (oldN 1)=.tuple #[.string ⟨#[]⟩,.bool false,.int .i64 203]:=by
        have hr:readM F (oldN 1)=(⟨#[]⟩,203):=by unfold readM; rw [has_down hd,if_neg (by decide)]
        unfold rdT
        rw [hr,if_neg (by decide),if_neg (by decide)]
      rw [h2] at h1
      exact h1
    have HOL1:Hid (∀ W,Calls Tryz.prog 32 #[.int .i64 1] W fun e w'=>e=.returned (.string (oldN 1))∧w'=W):=fun W=>polder_any 1 (by omega) W
    clear hd HOLD
    go_enter Tryz.func10,Tryz.ntmps10
    go_upto_region 3 with fail
    go_loopw [5] (fun iv wr=>iv=.int .i64 1∧wr=w) (fun _ _=>0)
    case atStart=>exact ⟨rfl,rfl⟩
    case round =>
      obtain ⟨rfl,rfl⟩:=hrel
      go_wp2_with fail
      refine (show Calls _ _ _ _ _ from HOL1.out _).mono ?_
      rintro e w1 ⟨rfl,rfl⟩
      go_wp2_with fail
      refine (show Calls _ _ _ _ _ from HRD.out _ (Below.refl _ _)).mono ?_
      rintro e w2 ⟨rfl,hb2⟩
      have HB2:Hid _:=hb2
      clear hb2 HRD
      go_wp2
      go_returns
      rw [HV.out]
      exact ⟨none,0,rfl,⟨rfl,Or.inl ⟨rfl,rfl⟩⟩,HB2.out⟩
end Go.Proofs.YtbgbmfmgdgalbaaGreatDoor
