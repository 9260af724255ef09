import Derived.Test.YtbgbmfmgdgalbaaGreatDoorM30
namespace Go.Proofs.YtbgbmfmgdgalbaaGreatDoor
open Go.RowKit Go.Maps
set_option linter.unusedVariables false
set_option linter.unusedSimpArgs false
theorem old_sz (i:Nat):(oldN i).size ≤ 140737488355328:=by show 10 ≤ _; omega
theorem remS_made {Z:Nat → Prop} {lo S g:Nat} {n:ByteArray} {W w2 w5:World} (hlo:lo ≤ W.heap.size) (hSv:∀ W',Below W.heap.size W W' → Sv W' (KB Z lo W') S g) (hn:n.size ≤ 140737488355328)
    (h2:w2=(W.alloc (.cells #[ptr (some S)] 75)).alloc (.cells #[.string n] 9))
    (h5:w5=((w2.alloc (.cells #[ptr (some S)] 75)).alloc (.cells #[.string n] 9)).alloc (.cells #[fnV (140,#[],#[ptr (some W.heap.size),ptr (some (W.heap.size + 1))])] 160)) :
    StepV w5 (KB Z lo w5) g ((138,#[],#[ptr (some w2.heap.size),ptr (some (w2.heap.size + 1)),ptr (some (w2.heap.size + 2))]),ifThM n (fun G=>removeM G n),1)∧Below W.heap.size W w5:=by
  obtain ⟨a1,a2,a3,a4⟩:=two_new (w:=W) (.cells #[ptr (some S)] 75) (.cells #[.string n] 9)
  rw [← h2] at a1 a2 a3 a4
  obtain ⟨b1,b2,b3,b4,b5⟩:=three_new (w:=w2) (.cells #[ptr (some S)] 75) (.cells #[.string n] 9) (.cells #[fnV (140,#[],#[ptr (some W.heap.size),ptr (some (W.heap.size + 1))])] 160)
  rw [← h5] at b1 b2 b3 b4 b5
  have hb:Below W.heap.size W w5:=bel_to a4 b5 (Nat.le_refl _)
  refine ⟨?_,hb⟩
  have k1:=keep_row a1 b5
  have k2:=keep_row a2 b5
  refine ift1_stp (s:=((140,#[],#[ptr (some W.heap.size),ptr (some (W.heap.size + 1))]),(fun G=>removeM G n),1)) (hSv w5 hb) (kb_new b1 (by omega) (by decide)) b1 (kb_new b2 (by omega) (by decide)) b2 (Or.inr ⟨by omega,row_lt b3,capR_do b3 (Or.inr rfl)⟩) b3 ?_
  exact rem1_stp (hSv w5 hb) (kb_new k1 hlo (by decide)) k1 (kb_new k2 (by omega) (by decide)) k2 hn
theorem renS_made {Z:Nat → Prop} {lo S g:Nat} {n t:ByteArray} {W w2 w5:World} (hlo:lo ≤ W.heap.size) (hSv:∀ W',Below W.heap.size W W' → Sv W' (KB Z lo W') S g) (hn:n.size ≤ 140737488355328) (ht:t.size ≤ 140737488355328)
    (h2:w2=((W.alloc (.cells #[ptr (some S)] 75)).alloc (.cells #[.string n] 9)).alloc (.cells #[.string t] 9))
    (h5:w5=((w2.alloc (.cells #[ptr (some S)] 75)).alloc (.cells #[.string n] 9)).alloc (.cells #[fnV (145,#[],#[ptr (some W.heap.size),ptr (some (W.heap.size + 1)),ptr (some (W.heap.size + 2))])] 160)) :
    StepV w5 (KB Z lo w5) g ((138,#[],#[ptr (some w2.heap.size),ptr (some (w2.heap.size + 1)),ptr (some (w2.heap.size + 2))]),ifThM n (fun G=>renameM G n t),1)∧Below W.heap.size W w5:=by
  obtain ⟨a1,a2,a2',a3,a4⟩:=three_new (w:=W) (.cells #[ptr (some S)] 75) (.cells #[.string n] 9) (.cells #[.string t] 9)
  rw [← h2] at a1 a2 a2' a3 a4
  obtain ⟨b1,b2,b3,b4,b5⟩:=three_new (w:=w2) (.cells #[ptr (some S)] 75) (.cells #[.string n] 9) (.cells #[fnV (145,#[],#[ptr (some W.heap.size),ptr (some (W.heap.size + 1)),ptr (some (W.heap.size + 2))])] 160)
  rw [← h5] at b1 b2 b3 b4 b5
  have hb:Below W.heap.size W w5:=bel_to a4 b5 (Nat.le_refl _)
  refine ⟨?_,hb⟩
  have k1:=keep_row a1 b5
  have k2:=keep_row a2 b5
  have k3:=keep_row a2' b5
  refine ift1_stp (s:=((145,#[],#[ptr (some W.heap.size),ptr (some (W.heap.size + 1)),ptr (some (W.heap.size + 2))]),(fun G=>renameM G n t),1)) (hSv w5 hb) (kb_new b1 (by omega) (by decide)) b1 (kb_new b2 (by omega) (by decide)) b2 (Or.inr ⟨by omega,row_lt b3,capR_do b3 (Or.inl rfl)⟩) b3 ?_
  exact ren1_stp (hSv w5 hb) (kb_new k1 hlo (by decide)) k1 (kb_new k2 (by omega) (by decide)) k2 (kb_new k3 (by omega) (by decide)) k3 hn ht
set_option maxHeartbeats 8000000 in
set_option maxRecDepth 400000 in
theorem pdrop_any {w0 w:World} {g S i k:Nat} {X:Gh} {F:Fs} {t0:ByteArray} (h:St w0 w g X F i) (hI:Inv F i) (hk:k ≤ 8) (hi:i + 10 ≤ 3298534883000) (hS:w.heap[S]?=some (.cells #[ptr (some g),.string t0,.int .i64 (k:Int)] 77)) (hSo:¬ Own g F X S) :
    Calls Tryz.prog 66 #[ptr (some S)] w (CalP w0 w g X F (dropM k F).1 (i + 8) (.int .i64 (dropM k F).2)):=by
  obtain ⟨R,hR⟩:∃ R,w.heap.size=R:=⟨_,rfl⟩
  have hSR:S < R:=by rw [← hR]; exact row_lt hS
  have HSV:Hid (∀ W,Below w.heap.size w W → Sv W (KB (fun k=>k=S) R W) S g):=fun W hb=>⟨Or.inl rfl,t0,(k:Int),keep_row hS hb⟩
  have HZL:Hid (∀ k,k=S → k < R):=fun k e=>by rw [e]; exact hSR
  have HRR:Hid (w.heap.size=R):=hR
  have HST:Hid _:=h
  have HI:Hid _:=hI
  have HSO:Hid (¬ Own g F X S):=hSo
  have HIB:Hid (i + 10 ≤ 3298534883000):=hi
  have HK:Hid (k ≤ 8):=hk
  have hw1:IntKind.i64.wrap ((k:Int) + 1)=((k + 1:Nat):Int):=by rw [IntKind.wrap_i64] <;> omega
  have cS:=(saving_cells (W:=w) hS).2.2
  clear h hI hi hSo hk hS hSR
  show Calls _ _ #[.pointer (some ⟨S,0,none⟩)] _ _
  go_enter Tryz.func66,Tryz.ntmps66
  go_upto_region 3 with fail
  clear cS hw1 hR
  go_loopw [3,4] (fun sv iv wr=>∃ (j:Nat) (L:List Sp) (P:Option Addr) (c:Nat),j ≤ 8 - k∧iv=.int .i64 ((k + 1 + j:Nat):Int)∧sv=.slice P j c∧j=L.length∧Lst (fun k=>k=S) R wr g (.slice P j c) L∧Below w.heap.size w wr∧msL L ++ remsL (8 - k - j)=remsL (8 - k)∧tot L=j) (fun _ iv _=>9 - (intOf iv).toNat)
  case atStart=>exact ⟨0,[],none,0,by omega,rfl,rfl,rfl,Lst.empty (by rw [HRR.out]; exact Nat.le_refl _) HZL.out,Below.refl _ _,rfl,rfl⟩
  case round =>
    obtain ⟨j,L,P,c,hj,rfl,rfl,hN,hl,hb,hms,htot⟩:=hrel
    have HL:Hid (Lst (fun k=>k=S) R wr g (.slice P j c) L):=hl
    have HB:Hid (Below w.heap.size w wr):=hb
    have HMS:Hid (msL L ++ remsL (8 - k - j)=remsL (8 - k)):=hms
    have HTOT:Hid (tot L=j):=htot
    have HNL:Hid (j=L.length):=hN
    have HJ:Hid (j ≤ 8 - k):=hj
    clear hl hb hms htot hN hj
    have HRS:Hid (R ≤ wr.heap.size):=by have:=HB.out.size; have:=HRR.out; show _ ≤ _; omega
    obtain ⟨m,hm⟩:∃ m,k + 1 + j=m:=⟨_,rfl⟩
    have HM:Hid (k + 1 + j=m):=hm
    rw [hm]
    by_cases hlt:m ≤ 8
    · have hg0:(m:Int) ≤ 8:=by omega
      have hw2:IntKind.i64.wrap ((m:Int) + 1)=((m + 1:Nat):Int):=by rw [IntKind.wrap_i64] <;> omega
      have HOL:Hid (∀ W,Calls Tryz.prog 32 #[.int .i64 (m:Int)] W fun e w'=>e=.returned (.string (oldN m))∧w'=W):=fun W=>polder_any m (by omega) W
      have HW2:Hid _:=hw2
      have HLT:Hid (m ≤ 8):=hlt
      clear hw2 hm
      obtain ⟨nm,hnm⟩:∃ nm,oldN m=nm:=⟨_,rfl⟩
      rw [hnm] at HOL
      have HNM:Hid (oldN m=nm):=hnm
      have HNS:Hid (nm.size ≤ 140737488355328):=by rw [← hnm]; exact old_sz m
      clear hnm
      go_wp2_with fail
      refine (show Calls _ _ _ _ _ from HOL.out _).mono ?_
      rintro e w1 ⟨rfl,rfl⟩
      go_wp2_with fail
      refine (show Calls _ _ _ _ _ from HOL.out _).mono ?_
      rintro e w1 ⟨rfl,rfl⟩
      go_wp2_with fail
      refine (show Calls _ _ _ _ _ from premove_any S nm _).mono ?_
      rintro e w2 ⟨rfl,hw2⟩
      have HW2':Hid _:=hw2
      clear hw2
      go_wp2_with fail
      refine (show Calls _ _ _ _ _ from ifThere_any S nm (140,#[],#[ptr (some w1.heap.size),ptr (some (w1.heap.size + 1))]) _).mono ?_
      rintro e w5 ⟨rfl,hw5⟩
      obtain ⟨hst,hb5⟩:=remS_made (Z:=fun k=>k=S) (lo:=R) HRS.out (fun W' hb'=>HSV.out W' (bel_to HB.out hb' (Nat.le_refl _))) HNS.out HW2'.out hw5
      obtain ⟨fr,hfr⟩:∃ fr:Array Value,#[ptr (some w2.heap.size),ptr (some (w2.heap.size + 1)),ptr (some (w2.heap.size + 2))]=fr:=⟨_,rfl⟩
      rw [hfr] at hst ⊢
      obtain ⟨fr0,hfr0⟩:∃ fr0:Array Value,#[ptr (some w1.heap.size),ptr (some (w1.heap.size + 1))]=fr0:=⟨_,rfl⟩
      rw [hfr0]
      have HST5:Hid (StepV w5 (KB (fun k=>k=S) R w5) g ((138,#[],fr),remS m,1)):=by
        rw [← HNM.out] at hst
        exact hst
      have HB5:Hid (Below w1.heap.size w1 w5):=hb5
      have HRW:Hid (w5.ownsRow R 160 1 (.slice P j c) j (stpE.fl (L.map (·.1)))):=by
        have:=(HL.out.on hb5).row
        rw [← HNL.out] at this
        exact this
      have HLM:Hid ((L.map (·.1)).length=j):=by show _=_; rw [List.length_map,← HNL.out]
      have HJ8:Hid (j ≤ 8):=by have:=HJ.out; show _ ≤ _; omega
      have HRA:Hid (R ≤ w5.heap.size):=Nat.le_trans HRS.out hb5.size
      clear hw5 hst hb5 hfr hfr0 HW2'
      go_wp2_with ((at_builtin; go_loud (refine wpList_one stpOk #[.func (.func 138) #[] fr] (138,#[],fr) rfl rfl _ _ rfl R (.slice P j c) (List.map (fun s:Sp=>s.1) L) j HLM.out.symm rfl HRW.out rfl (by rw [HLM.out]; have:=HJ8.out; unfold maxLen; omega) (by rw [HLM.out]; have:=HJ8.out; show _ * 8 ≤ _; omega) HRA.out ?_); intro v4 w4 ho4 hg4; obtain ⟨P4,c4,hf4⟩:=own_form ho4; subst hf4))
      obtain ⟨Wb,hWb⟩:∃ Wb,w5.alloc (.cells #[.func (.func 138) #[] fr] 160)=Wb:=⟨_,rfl⟩
      have hbb:Below w5.heap.size w5 Wb:=by rw [← hWb]; exact (Below.refl _ _).alloc (Nat.le_refl _) _
      have hg5:Wb.grownBy w4 (Value.slice P j c).ownBlock:=by rw [← hWb]; exact hg4
      have HBB:Hid (Below w1.heap.size w1 Wb):=bel_to HB5.out hbb (Nat.le_refl _)
      have HLB:Hid (Lst (fun k=>k=S) R Wb g (.slice P j c) L):=HL.out.on HBB.out
      have HSB:Hid (StepV Wb (KB (fun k=>k=S) R Wb) g ((138,#[],fr),remS m,1)):=HST5.out.more (fun k hk=>by
        have h1:k < w5.heap.size:=by
          rcases hk with hk | ⟨_,hk,_⟩
          · have:=HZL.out k hk; have:=HRA.out; omega
          · exact hk
        exact ⟨hk.to (hbb.block k h1) hbb.size,hbb.block k h1⟩)
      have HL4:Hid (Lst (fun k=>k=S) R w4 g (.slice P4 (j + 1) c4) (L ++ [((138,#[],fr),remS m,1)])):=
        HLB.out.grow HSB.out (fun _=>nrr 138 (by decide)) (by rw [← HNL.out]; exact ho4) hg5
      have HB4:Hid (Below w.heap.size w w4):=(bel_to HB.out HBB.out (Nat.le_refl _)).grown hg5 (bel_to HB.out HBB.out (Nat.le_refl _)).size (fun q hq=>by have:=(HRW.out.lt q hq).1; have:=HRR.out; omega)
      have hw2:=HW2.out
      clear hWb hbb ho4 hg4 hg5
      go_wp2
      go_roundw
      case rel =>
        refine ⟨j + 1,_,P4,c4,by have:=HJ.out; have:=HM.out; have:=HLT.out; omega,?_,rfl,by rw [List.length_append,← HNL.out]; rfl,HL4.out,HB4.out,?_,?_⟩
        · have:=HM.out; first | rfl | (congr 1; omega) | (simp; omega)
        · have h1:8 - k - j=(8 - k - (j + 1)) + 1:=by have:=HM.out; have:=HLT.out; omega
          have h2:=HMS.out
          rw [h1] at h2
          have h3:remsL (8 - k - (j + 1) + 1)=remS m :: remsL (8 - k - (j + 1)):=by
            show remS (8 - (8 - k - (j + 1))) :: _=_
            rw [show 8 - (8 - k - (j + 1))=m from by have:=HM.out; have:=HLT.out; have:=HJ.out; omega]
          rw [h3] at h2
          rw [← h2]
          unfold msL
          rw [List.map_append,List.append_assoc]
          rfl
        · rw [tot_app,tot_one,HTOT.out]
      case measure=>have:=HLT.out; simp [intOf]; omega
    · have hg0:¬ (m:Int) ≤ 8:=by omega
      have HML:Hid (msL L=remsL (8 - k)):=by
        have h2:=HMS.out
        rw [show 8 - k - j=0 from by have:=HM.out; omega] at h2
        show _=_
        rw [← h2]
        exact (List.append_nil _).symm
      have HQ:Hid _:=HL.out.run (by rw [← HNL.out]; have:=HJ.out; omega) (HST.out.on HB.out) HI.out (by have:=HTOT.out; have:=HIB.out; have:=HJ.out; omega) (fun k e=>by rw [e]; exact HSO.out) (fun k hk=>by have:=HST.out.fs.own_lt hk; have:=HRR.out; omega)
      have HDM:Hid (dropM k F=seqM (msL L) F):=by show _=_; rw [HML.out]; rfl
      clear hm HML
      go_wp2_with fail
      refine (show Calls _ _ _ _ _ from HQ.out).mono ?_
      rintro e w5 ⟨rfl,X2,hs2,hb2⟩
      have HS2:Hid _:=hs2
      have HB2:Hid _:=hb2
      clear hs2 hb2 HQ
      go_wp2
      go_returns
      rw [HDM.out]
      exact ⟨rfl,X2,HS2.out.more24 (by have:=HTOT.out; have:=HJ.out; omega),Bt.pre HB.out HB2.out⟩
end Go.Proofs.YtbgbmfmgdgalbaaGreatDoor
