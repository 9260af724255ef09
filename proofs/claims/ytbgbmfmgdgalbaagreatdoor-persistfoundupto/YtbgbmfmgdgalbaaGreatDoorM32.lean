import Derived.Test.YtbgbmfmgdgalbaaGreatDoorM31
namespace Go.Proofs.YtbgbmfmgdgalbaaGreatDoor
open Go.RowKit Go.Maps
set_option linter.unusedVariables false
set_option linter.unusedSimpArgs false
theorem ren_made {Z:Nat → Prop} {lo S g:Nat} {n t:ByteArray} {W w2:World} (hlo:lo ≤ W.heap.size) (hSv:∀ W',Below W.heap.size W W' → Sv W' (KB Z lo W') S g) (hn:n.size ≤ 140737488355328) (ht:t.size ≤ 140737488355328)
    (h2:w2=((W.alloc (.cells #[ptr (some S)] 75)).alloc (.cells #[.string n] 9)).alloc (.cells #[.string t] 9)) :
    StepV w2 (KB Z lo w2) g ((145,#[],#[ptr (some W.heap.size),ptr (some (W.heap.size + 1)),ptr (some (W.heap.size + 2))]),(fun G=>renameM G n t),1)∧Below W.heap.size W w2:=by
  obtain ⟨a1,a2,a2',a3,a4⟩:=three_new (w:=W) (.cells #[ptr (some S)] 75) (.cells #[.string n] 9) (.cells #[.string t] 9)
  rw [← h2] at a1 a2 a2' a3 a4
  exact ⟨ren1_stp (hSv w2 a4) (kb_new a1 hlo (by decide)) a1 (kb_new a2 (by omega) (by decide)) a2 (kb_new a2' (by omega) (by decide)) a2' hn ht,a4⟩
theorem three_bel {W w2:World} {a b c:Obj} (h2:w2=((W.alloc a).alloc b).alloc c):Below W.heap.size W w2:=by rw [h2]; exact (three_new a b c).2.2.2.2
theorem eM_turn1 (args:Array Value) (w:World):(callFunc 107 args).run Tryz.prog w=.ok (.enter 107 args) w:=by kernel_rfl
set_option maxHeartbeats 2000000 in
theorem turn1_stp {B:World} {K:Nat → Prop} {S g b0 b1:Nat} {o:ByteArray} (hS:Sv B K S g) (k0:K b0) (r0:B.heap[b0]?=some (.cells #[ptr (some S)] 75)) (k1:K b1) (r1:B.heap[b1]?=some (.cells #[.string o] 9)) (z1:o.size ≤ 1073741824):StepV B K g ((107,#[],#[ptr (some b0),ptr (some b1)]),(fun G=>writtenM G tmpO o),16400):=by
  refine ⟨eM_turn1,fun F i h=>(h.written tmpO o).more (by have:=pieces_le z1; show _ ≤ i + 16400; omega),fun w0 W X F i h hI hi hC=>?_⟩
  simp only at hi ⊢
  obtain ⟨kS,t0,keep,rS⟩:=hS
  have HQ:Hid (Calls Tryz.prog 106 #[.pointer (some ⟨S,0,none⟩),.string tmpO,.string o] W (CalP w0 W g X F (writtenM F tmpO o).1 (i + 16386) (.int .i64 (writtenM F tmpO o).2))):=pwrite_any h hI tmpO o (by decide) z1 (by omega) (hC.row kS rS) (hC S kS).2
  have c0:W.cell? ⟨b0,0,none⟩=some (.pointer (some ⟨S,0,none⟩)):=cell1 (hC.row k0 r0)
  have c1:=cell1 (hC.row k1 r1)
  obtain ⟨F2,e2,hm⟩:∃ F2 e2,writtenM F tmpO o=(F2,e2):=⟨_,_,rfl⟩
  rw [hm] at HQ ⊢
  simp only at HQ ⊢
  clear h hI hi hC hm k0 r0 k1 r1 kS rS z1
  show Calls _ _ #[.pointer (some ⟨b0,0,none⟩),.pointer (some ⟨b1,0,none⟩)] _ _
  go_enter Tryz.func107,Tryz.ntmps107
  go_wp2_with fail
  refine (show Calls _ _ _ _ _ from HQ.out).mono ?_
  rintro e w1 ⟨rfl,X2,hs2,hb2⟩
  have HS2:Hid _:=hs2
  have HB2:Hid _:=hb2
  clear hs2 hb2 HQ
  go_wp2
  go_returns
  exact ⟨rfl,X2,HS2.out.more24 (by omega),HB2.out⟩
theorem St.none24 {w0 w w':World} {g i j:Nat} {X:Gh} {F:Fs} {r:Value} (h:St w0 w g X F i) (hj:i ≤ j) (hb:Below w.heap.size w w'):CalP w0 w g X F F j r (.returned r) w':=⟨rfl,X,(h.on hb).more24 hj,(Bt.refl _ _ _ _).after hb⟩
set_option maxHeartbeats 8000000 in
set_option maxRecDepth 400000 in
theorem pturn_any {w0 w:World} {g S i k:Nat} {X:Gh} {F:Fs} {t0:ByteArray} (h:St w0 w g X F i) (hI:Inv F i) (hk:k ≤ 8) (hi:i + 16420 ≤ 3298534883000) (hS:w.heap[S]?=some (.cells #[ptr (some g),.string t0,.int .i64 (k:Int)] 77)) (hSo:¬ Own g F X S) :
    Calls Tryz.prog 64 #[ptr (some S)] w (CalP w0 w g X F (turnM k F).1 (i + 16410) (.int .i64 (turnM k F).2)):=by
  obtain ⟨R,hR⟩:∃ R,w.heap.size=R:=⟨_,rfl⟩
  have hSR:S < R:=by rw [← hR]; exact row_lt hS
  have HSV:Hid (∀ W,Below w.heap.size w W → Sv W (KB (fun k=>k=S) R W) S g):=fun W hb=>⟨Or.inl rfl,t0,(k:Int),keep_row hS hb⟩
  have HZL:Hid (∀ k,k=S → k < R):=fun k e=>by rw [e]; exact hSR
  have HRR:Hid (w.heap.size=R):=hR
  have HST:Hid _:=h
  have HI:Hid _:=hI
  have HSO:Hid (¬ Own g F X S):=hSo
  have HIB:Hid (i + 16420 ≤ 3298534883000):=hi
  have HK:Hid (k ≤ 8):=hk
  obtain ⟨W0,hW0⟩:∃ W0,w.alloc (.cells #[.pointer (some ⟨S,0,none⟩)] 75)=W0:=⟨_,rfl⟩
  have hb0:Below w.heap.size w W0:=by rw [← hW0]; exact (Below.refl _ _).alloc (Nat.le_refl _) _
  have r0:W0.heap[R]?=some (.cells #[.pointer (some ⟨S,0,none⟩)] 75):=by rw [← hW0,← hR]; exact one_alloc _ _
  have HB0:Hid (Below w.heap.size w W0):=hb0
  have HR0:Hid (W0.heap[R]?=some (.cells #[.pointer (some ⟨S,0,none⟩)] 75)):=r0
  have HSC:Hid (∀ W,Below w.heap.size w W → W.cell? ⟨S,0,none⟩=some (.pointer (some ⟨g,0,none⟩))∧W.cell? ⟨S,2,none⟩=some (.int .i64 (k:Int))):=fun W hb=>⟨(saving_cells (keep_row hS hb)).1,(saving_cells (keep_row hS hb)).2.2⟩
  have c0:=cell1 r0
  obtain ⟨cS,cK⟩:=HSC.out W0 hb0
  have HRD:Hid (Calls Tryz.prog 31 #[.pointer (some ⟨g,0,none⟩),.string liveN] W0 fun e w'=>e=.returned (rdT F liveN)∧Below W0.heap.size W0 w'):=pread_any (h.on hb0) liveN (by decide)
  clear h hI hi hSo hk hS hSR hb0 r0
  show Calls _ _ #[.pointer (some ⟨S,0,none⟩)] _ _
  by_cases hk0:k=0
  · have HT:Hid (turnM k F=(F,0)):=by show _=_; unfold turnM; rw [if_pos hk0]
    have hkz:(k:Int)=0:=by omega
    rw [hkz] at cK
    clear hkz
    go_enter Tryz.func64,Tryz.ntmps64
    go_wp2
    go_returns
    rw [HT.out]
    exact HST.out.none24 (by omega) HB0.out
  · have hkn:((k:Int) == 0)=false:=by simp; omega
    have HKN:Hid (k ≠ 0):=hk0
    clear hk0
    rcases read_cases F with ⟨hr,hd⟩ | ⟨hr,hd⟩ | ⟨hr,hd⟩
    · have HT:Hid (turnM k F=(F,203)):=by show _=_; unfold turnM; rw [if_neg HKN.out,hr,if_neg (by decide),if_neg (by decide)]
      have e1:rdT F liveN=.tuple #[.string ⟨#[]⟩,.bool false,.int .i64 203]:=by unfold rdT; rw [hr,if_neg (by decide),if_neg (by decide)]
      rw [e1] at HRD
      clear hr hd e1
      go_enter Tryz.func64,Tryz.ntmps64
      go_wp2_with fail
      refine (show Calls _ _ _ _ _ from HRD.out).mono ?_
      rintro e w1 ⟨rfl,hb⟩
      have HB:Hid (Below w.heap.size w w1):=bel_to HB0.out hb (Nat.le_refl _)
      clear hb HRD c0 cS cK
      go_wp2
      go_returns
      rw [HT.out]
      exact HST.out.none24 (by omega) (HB.out.alloc HB.out.size _)
    · have HT:Hid (turnM k F=(F,0)):=by show _=_; unfold turnM; rw [if_neg HKN.out,hr,if_neg (by decide),if_pos rfl]
      have e1:rdT F liveN=.tuple #[.string ⟨#[]⟩,.bool false,.int .i64 0]:=by unfold rdT; rw [hr,if_neg (by decide),if_pos rfl]
      rw [e1] at HRD
      clear hr hd e1
      go_enter Tryz.func64,Tryz.ntmps64
      go_wp2_with fail
      refine (show Calls _ _ _ _ _ from HRD.out).mono ?_
      rintro e w1 ⟨rfl,hb⟩
      have HB:Hid (Below w.heap.size w w1):=bel_to HB0.out hb (Nat.le_refl _)
      clear hb HRD c0 cS cK
      go_wp2
      go_returns
      rw [HT.out]
      exact HST.out.none24 (by omega) (HB.out.alloc HB.out.size _)
    · have HOS:Hid ((readM F liveN).1.size ≤ 1073741824):=HI.out.read liveN
      have HT:Hid (turnM k F=seqM (keptL (readM F liveN).1 k) F):=by show _=_; unfold turnM; rw [if_neg HKN.out,if_pos hr]
      have e1:rdT F liveN=.tuple #[.string (readM F liveN).1,.bool true,.int .i64 0]:=by unfold rdT; rw [if_pos hr]
      rw [e1] at HRD
      obtain ⟨o,ho⟩:∃ o,(readM F liveN).1=o:=⟨_,rfl⟩
      rw [ho] at HRD HT HOS
      clear hr hd e1 ho
      go_enter Tryz.func64,Tryz.ntmps64
      go_wp2_with fail
      refine (show Calls _ _ _ _ _ from HRD.out).mono ?_
      rintro e w1 ⟨rfl,hb⟩
      have HB1:Hid (Below w.heap.size w w1):=bel_to HB0.out hb (Nat.le_refl _)
      have HR1:Hid (w1.heap[R]?=some (.cells #[.pointer (some ⟨S,0,none⟩)] 75)):=keep_row HR0.out hb
      clear hb HRD c0 cS cK
      go_upto_region 7 with fail
      obtain ⟨km,hkm⟩:∃ km,k=km + 1:=⟨k - 1,by have:=HKN.out; omega⟩
      have HKM:Hid (k=km + 1):=hkm
      have hw1:IntKind.i64.wrap ((k:Int) - 1)=(km:Int):=by have:=HK.out; rw [IntKind.wrap_i64] <;> omega
      obtain ⟨q,hq⟩:∃ q,w1.heap.size=q:=⟨_,rfl⟩
      rw [hq]
      obtain ⟨a1,a2,a3,a4⟩:=two_new (w:=w1) (.cells #[.string o] 9) (.cells #[.func (.func 107) #[] #[.pointer (some ⟨R,0,none⟩),.pointer (some ⟨q,0,none⟩)]] 160)
      obtain ⟨W2,hW2⟩:∃ W2,(w1.alloc (.cells #[.string o] 9)).alloc (.cells #[.func (.func 107) #[] #[.pointer (some ⟨R,0,none⟩),.pointer (some ⟨q,0,none⟩)]] 160)=W2:=⟨_,rfl⟩
      rw [hW2] at a1 a2 a3 a4 ⊢
      rw [hq] at a1 a2 a3
      have HB2:Hid (Below w.heap.size w W2):=bel_to HB1.out a4 (Nat.le_refl _)
      have HR2:Hid (W2.heap[R]?=some (.cells #[.pointer (some ⟨S,0,none⟩)] 75)):=keep_row HR1.out a4
      have HQR:Hid (R ≤ q):=by have:=HB1.out.size; have:=HRR.out; show _ ≤ _; omega
      have HL2:Hid (Lst (fun k=>k=S) R W2 g (.slice (some ⟨q + 1,0,none⟩) 1 1) [((107,#[],#[ptr (some R),ptr (some q)]),(fun G=>writtenM G tmpO o),16400)]):=
        Lst.lits (L:=[((107,#[],#[ptr (some R),ptr (some q)]),(fun G=>writtenM G tmpO o),16400)]) (by have:=HQR.out; omega) a2 (fun s hs=>by
          rw [List.mem_singleton] at hs; subst hs
          exact turn1_stp (HSV.out W2 HB2.out) (kb_new HR2.out (Nat.le_refl _) (by decide)) HR2.out (kb_new a1 HQR.out (by decide)) a1 HOS.out) (fun s T e=>by injection e with e1 _; subst e1; exact nrr 107 (by decide)) (by simp) (by simp) HZL.out
      obtain ⟨cS,cK⟩:=HSC.out W2 HB2.out
      have c0:=cell1 HR2.out
      clear hq hW2 a1 a2 a3 a4 hkm
      go_upto_region 8 with fail
      clear c0 cS cK hw1
      go_loopw [6,7] (fun sv iv wr=>∃ (m:Nat) (L:List Sp) (P:Option Addr) (c N:Nat),m ≤ km∧iv=.int .i64 (m:Int)∧sv=.slice P N c∧N=L.length∧Lst (fun k=>k=S) R wr g (.slice P N c) L∧Below w.heap.size w wr∧wr.heap[R]?=some (.cells #[.pointer (some ⟨S,0,none⟩)] 75)∧msL L ++ rensL m=(fun G=>writtenM G tmpO o) :: rensL km∧tot L + m=16400 + km∧N + m=1 + km∧0 < N) (fun _ iv _=>(intOf iv).toNat)
      case atStart=>exact ⟨km,_,_,_,1,Nat.le_refl _,rfl,rfl,rfl,HL2.out,HB2.out,HR2.out,rfl,by rw [tot_one],rfl,by omega⟩
      case round =>
        obtain ⟨m,L,P,c,N,hm,rfl,rfl,hN,hl,hb,r0,hms,htot,hcnt,hpos⟩:=hrel
        have HL:Hid (Lst (fun k=>k=S) R wr g (.slice P N c) L):=hl
        have HB:Hid (Below w.heap.size w wr):=hb
        have HRr:Hid (wr.heap[R]?=some (.cells #[.pointer (some ⟨S,0,none⟩)] 75)):=r0
        have HMS:Hid (msL L ++ rensL m=(fun G=>writtenM G tmpO o) :: rensL km):=hms
        have HTOT:Hid (tot L + m=16400 + km):=htot
        have HCNT:Hid (N + m=1 + km):=hcnt
        have HPOS:Hid (0 < N):=hpos
        have HNL:Hid (N=L.length):=hN
        have HM:Hid (m ≤ km):=hm
        clear hl hb r0 hms htot hcnt hpos hN hm
        have HRS:Hid (R ≤ wr.heap.size):=by have:=HB.out.size; have:=HRR.out; show _ ≤ _; omega
        have HLM:Hid ((L.map (·.1)).length=N):=by show _=_; rw [List.length_map,← HNL.out]
        have HNB:Hid (N ≤ 9):=by have:=HCNT.out; have:=HKM.out; have:=HK.out; show _ ≤ _; omega
        have HOWN:Hid (∀ W,Below wr.heap.size wr W → W.ownsRow R 160 1 (.slice P N c) N (stpE.fl (L.map (·.1)))):=fun W hW=>by
          have:=(HL.out.on hW).row
          rw [← HNL.out] at this
          exact this
        have HKC:Hid (∀ W,Below wr.heap.size wr W → W.cell? ⟨R,0,none⟩=some (.pointer (some ⟨S,0,none⟩))):=fun W hW=>cell1 (keep_row HRr.out hW)
        have HSW:Hid (∀ W',Below wr.heap.size wr W' → Sv W' (KB (fun k=>k=S) R W') S g):=fun W' hb'=>HSV.out W' (bel_to HB.out hb' (Nat.le_refl _))
        have HOLD:Hid (∀ (q:Nat) W,q ≤ 9 → Calls Tryz.prog 32 #[.int .i64 (q:Int)] W fun e w'=>e=.returned (.string (oldN q))∧w'=W):=fun q W hq=>polder_any q hq W
        by_cases hlt:1 ≤ m
        · have hg0:(1:Int) ≤ (m:Int):=by omega
          obtain ⟨m',hm'⟩:∃ m',m=m' + 1:=⟨m - 1,by omega⟩
          obtain ⟨m1,hm1⟩:∃ m1,m + 1=m1:=⟨_,rfl⟩
          have HM':Hid (m=m' + 1):=hm'
          have HM1:Hid (m + 1=m1):=hm1
          have hw2:IntKind.i64.wrap ((m:Int) + 1)=(m1:Int):=by have:=HM.out; have:=HKM.out; have:=HK.out; rw [IntKind.wrap_i64] <;> omega
          have hw3:IntKind.i64.wrap ((m:Int) - 1)=(m':Int):=by have:=HM.out; have:=HKM.out; have:=HK.out; rw [IntKind.wrap_i64] <;> omega
          have hq9:m ≤ 9:=by have:=HM.out; have:=HKM.out; have:=HK.out; omega
          have hq10:m1 ≤ 9:=by have:=HM.out; have:=HKM.out; have:=HK.out; omega
          have HW3:Hid _:=hw3
          clear hm' hm1 hw3
          go_upto_region 10 with fail
          have hcur:Below wr.heap.size wr wr.drew:=(Below.refl _ wr).drew
          go_region_held3 (fun W:World=>W.cell? ⟨R,0,none⟩=some (.pointer (some ⟨S,0,none⟩)))
            (first | exact HKC.out _ hcur | exact HKC.out _ hc2 | exact HKC.out _ hc5 | exact HKC.out _ (hc5.alloc hc5.size _) | exact hk4)
            (first
              | (go_at_call 32; refine (show Calls _ _ _ _ _ from HOLD.out _ _ (by assumption)).mono ?_; rintro e w9 ⟨rfl,rfl⟩)
              | (go_at_call 108; refine (show Calls _ _ _ _ _ from prename_any S (oldN m) (oldN m1) _).mono ?_; rintro e w2 ⟨rfl,hw2'⟩; have hc2:Below wr.heap.size wr w2:=hcur.trans ((three_bel hw2').mono hcur.size); have HW2:Hid _:=hw2'; clear hw2')
              | (go_at_call 104; refine (show Calls _ _ _ _ _ from ifThere_any S (oldN m) (145,#[],_) _).mono ?_; rintro e w5 ⟨rfl,hw5'⟩; have hc5:Below wr.heap.size wr w5:=hc2.trans ((three_bel hw5').mono hc2.size); have HW5:Hid _:=hw5'; clear hw5')
              | (refine step_appS (138,#[],#[ptr (some w2.heap.size),ptr (some (w2.heap.size + 1)),ptr (some (w2.heap.size + 2))]) rfl (.tmp 40) (.tmp 52) rfl R (.slice P N c) N (List.map (fun s:Sp=>s.1) L) HLM.out.symm (by simp [Act.eval,Act.put]) (HOWN.out _ (hc5.alloc hc5.size _)) w5.heap.size (by simp [Act.eval,Act.put]) (one_alloc _ _) (by have:=HNB.out; omega) (Nat.le_trans HRS.out (hc5.alloc hc5.size _).size) ?_; intro v4 w4 ho4 hg4; obtain ⟨P4,c4,hf4⟩:=own_form ho4; subst hf4; have hk4:w4.cell? ⟨R,0,none⟩=some (.pointer (some ⟨S,0,none⟩)):=cell1 ((HL.out.on (hc5.alloc hc5.size _)).other hg4 (keep_row HRr.out (hc5.alloc hc5.size _)) (by decide))))
          obtain ⟨hst,hb5⟩:=renS_made (Z:=fun k=>k=S) (lo:=R) (W:=wr.drew) HRS.out (fun W' hb'=>HSW.out W' (bel_to hcur hb' (Nat.le_refl _))) (old_sz m) (old_sz m1) HW2.out HW5.out
          have HST5:Hid (StepV w5 (KB (fun k=>k=S) R w5) g ((138,#[],#[ptr (some w2.heap.size),ptr (some (w2.heap.size + 1)),ptr (some (w2.heap.size + 2))]),renS m,1)):=by
            have:=HM1.out
            subst this
            exact hst
          obtain ⟨fr,hfr⟩:∃ fr:Array Value,#[ptr (some w2.heap.size),ptr (some (w2.heap.size + 1)),ptr (some (w2.heap.size + 2))]=fr:=⟨_,rfl⟩
          rw [hfr] at HST5 hg4 ho4
          have h56:Below w5.heap.size w5 (w5.alloc (.cells #[.func (.func 138) #[] fr] 160)):=(Below.refl _ _).alloc (Nat.le_refl _) _
          have h16:Below wr.heap.size wr (w5.alloc (.cells #[.func (.func 138) #[] fr] 160)):=hc5.alloc hc5.size _
          obtain ⟨Wb,hWb⟩:∃ Wb,w5.alloc (.cells #[.func (.func 138) #[] fr] 160)=Wb:=⟨_,rfl⟩
          rw [hWb] at h56 h16 hg4
          have HLB:Hid (Lst (fun k=>k=S) R Wb g (.slice P N c) L):=HL.out.on h16
          have HRA:Hid (R ≤ w5.heap.size):=Nat.le_trans HRS.out hc5.size
          have HSB:Hid (StepV Wb (KB (fun k=>k=S) R Wb) g ((138,#[],fr),renS m,1)):=HST5.out.more (fun k hk=>by
            have h1:k < w5.heap.size:=by
              rcases hk with hk | ⟨_,hk,_⟩
              · have:=HZL.out k hk; have:=HRA.out; omega
              · exact hk
            exact ⟨hk.to (h56.block k h1) h56.size,h56.block k h1⟩)
          have HL4:Hid (Lst (fun k=>k=S) R w4 g (.slice P4 (N + 1) c4) (L ++ [((138,#[],fr),renS m,1)])):=
            HLB.out.grow HSB.out (fun e=>by have:=HPOS.out; rw [HNL.out,e] at this; simp at this) (by rw [← HNL.out]; exact ho4) hg4
          have HB4:Hid (Below w.heap.size w w4):=(bel_to HB.out h16 (Nat.le_refl _)).grown hg4 (bel_to HB.out h16 (Nat.le_refl _)).size (fun q hq=>by have:=((HOWN.out wr (Below.refl _ _)).lt q hq).1; have:=HRR.out; omega)
          have HR4:Hid (w4.heap[R]?=some (.cells #[.pointer (some ⟨S,0,none⟩)] 75)):=HLB.out.other hg4 (keep_row HRr.out h16) (by decide)
          have hw3:=HW3.out
          clear hst hb5 hfr hg4 ho4 h56 h16 hWb hcur hc2 hc5 HW2 HW5 hk4 HST5 hw2 hg0
          go_wp2
          go_roundw
          case rel =>
            refine ⟨m',_,P4,c4,N + 1,by have:=HM.out; have:=HM'.out; omega,by first | rfl | congr 1,rfl,by rw [List.length_append,← HNL.out]; rfl,HL4.out,HB4.out,HR4.out,?_,?_,?_,by omega⟩
            · have h2:=HMS.out
              have h3:rensL m=renS m :: rensL m':=by rw [HM'.out]; rfl
              rw [h3] at h2
              rw [← h2]
              unfold msL
              rw [List.map_append,List.append_assoc]
              rfl
            · rw [tot_app,tot_one]; have:=HTOT.out; have:=HM'.out; show _ + 1 + _=_; omega
            · have:=HCNT.out; have:=HM'.out; omega
          case measure=>have:=HM'.out; simp [intOf]; omega
        · have hg0:¬ (1:Int) ≤ (m:Int):=by omega
          have HM0:Hid (m=0):=by show _=_; omega
          obtain ⟨F2,e2,hF2⟩:∃ F2 e2,turnM k F=(F2,e2):=⟨_,_,rfl⟩
          have HTF:Hid (turnM k F=(F2,e2)):=hF2
          have HOL1:Hid (∀ W,Calls Tryz.prog 32 #[.int .i64 1] W fun e w'=>e=.returned (.string (oldN 1))∧w'=W):=fun W=>polder_any 1 (by omega) W
          obtain ⟨xr,hxr⟩:∃ xr:FnV,xr=(145,#[],#[ptr (some wr.heap.size),ptr (some (wr.heap.size + 1)),ptr (some (wr.heap.size + 2))]):=⟨_,rfl⟩
          have HXR:Hid (xr=(145,#[],#[ptr (some wr.heap.size),ptr (some (wr.heap.size + 1)),ptr (some (wr.heap.size + 2))])):=hxr
          have hcur:Below wr.heap.size wr wr.drew:=(Below.refl _ wr).drew
          have HRUN:Hid (∀ (w2 w4:World) (P4:Option Addr) (c4:Nat),w2=((wr.drew.alloc (.cells #[ptr (some S)] 75)).alloc (.cells #[.string tmpO] 9)).alloc (.cells #[.string (oldN 1)] 9) → (w2.alloc (.cells #[fnV xr] 160)).grownBy w4 (Value.slice P N c).ownBlock → w4.ownsRow R 160 1 (.slice P4 (N + 1) c4) (N + 1) (stpE.fl (List.map (fun s:Sp=>s.1) L ++ [xr])) → (Calls Tryz.prog 62 #[.slice P4 (N + 1) c4] w4 (CalP w0 w4 g X F F2 (i + 16409) (.int .i64 e2)))∧Below w.heap.size w w4∧w4.heap[R]?=some (.cells #[.pointer (some ⟨S,0,none⟩)] 75)):=fun w2 w4 P4 c4 hw2 hg4 ho4=>by
            obtain ⟨hst,hb2⟩:=ren_made (Z:=fun k=>k=S) (lo:=R) (W:=wr.drew) HRS.out (fun W' hb'=>HSW.out W' (bel_to hcur hb' (Nat.le_refl _))) (by decide) (old_sz 1) hw2
            have hst':StepV w2 (KB (fun k=>k=S) R w2) g (xr,(fun G=>renameM G tmpO (oldN 1)),1):=by rw [HXR.out]; exact hst
            have h26:Below w2.heap.size w2 (w2.alloc (.cells #[fnV xr] 160)):=(Below.refl _ _).alloc (Nat.le_refl _) _
            have hc2:Below wr.heap.size wr w2:=bel_to hcur hb2 (Nat.le_refl _)
            have h16:Below wr.heap.size wr (w2.alloc (.cells #[fnV xr] 160)):=bel_to hc2 h26 (Nat.le_refl _)
            obtain ⟨Wb,hWb⟩:∃ Wb,w2.alloc (.cells #[fnV xr] 160)=Wb:=⟨_,rfl⟩
            rw [hWb] at h26 h16 hg4
            have hlb:=HL.out.on h16
            have hsb:StepV Wb (KB (fun k=>k=S) R Wb) g (xr,(fun G=>renameM G tmpO (oldN 1)),1):=hst'.more (fun k hk=>by
              have h1:k < w2.heap.size:=by
                rcases hk with hk | ⟨_,hk,_⟩
                · have:=HZL.out k hk; have:=HRS.out; have:=hc2.size; omega
                · exact hk
              exact ⟨hk.to (h26.block k h1) h26.size,h26.block k h1⟩)
            have hl4:Lst (fun k=>k=S) R w4 g (.slice P4 (N + 1) c4) (L ++ [(xr,(fun G=>renameM G tmpO (oldN 1)),1)]):=
              hlb.grow hsb (fun e=>by have:=HPOS.out; rw [HNL.out,e] at this; simp at this) (by rw [← HNL.out]; exact ho4) hg4
            have hb4:Below w.heap.size w w4:=(bel_to HB.out h16 (Nat.le_refl _)).grown hg4 (bel_to HB.out h16 (Nat.le_refl _)).size (fun q hq=>by have:=((HOWN.out wr (Below.refl _ _)).lt q hq).1; have:=HRR.out; omega)
            refine ⟨?_,hb4,hlb.other hg4 (keep_row HRr.out h16) (by decide)⟩
            have htt:tot (L ++ [(xr,(fun G=>renameM G tmpO (oldN 1)),1)]) ≤ 16409:=by rw [tot_app,tot_one]; have:=HTOT.out; have:=HKM.out; have:=HK.out; show _ + 1 ≤ _; omega
            have hms:seqM (msL (L ++ [(xr,(fun G=>renameM G tmpO (oldN 1)),1)])) F=(F2,e2):=by
              rw [← HTF.out,HT.out]
              congr 1
              have h2:=HMS.out
              rw [HM0.out] at h2
              unfold keptL
              rw [show k - 1=km from by have:=HKM.out; omega,← h2]
              unfold msL
              rw [List.map_append]
              show _=_ ++ [] ++ _
              rw [List.append_nil]
              rfl
            have:=hl4.run (by rw [List.length_append]; have:=HNL.out; have:=HNB.out; simp; omega) (HST.out.on hb4) HI.out (by have:=HIB.out; omega) (fun k e=>by rw [e]; exact HSO.out) (fun k hk=>by have:=HST.out.fs.own_lt hk; have:=HRR.out; omega)
            rw [hms] at this
            exact this.mono (fun e w' hh=>cal_more hh (by omega))
          clear hF2
          go_upto_region 11 with fail
          have hNX:fnV xr=.func (.func 145) #[] #[ptr (some wr.heap.size),ptr (some (wr.heap.size + 1)),ptr (some (wr.heap.size + 2))]:=by rw [hxr]; rfl
          have HNX:Hid _:=hNX
          clear hNX
          go_region_held3 (fun W:World=>W.cell? ⟨R,0,none⟩=some (.pointer (some ⟨S,0,none⟩)))
            (first | exact HKC.out _ hcur | exact HKC.out _ hc2 | exact HKC.out _ (hc2.alloc hc2.size _) | exact hk4 | exact hk7)
            (first
              | (go_at_call 32; refine (show Calls _ _ _ _ _ from HOL1.out _).mono ?_; rintro e w9 ⟨rfl,rfl⟩)
              | (go_at_call 108; refine (show Calls _ _ _ _ _ from prename_any S tmpO (oldN 1) _).mono ?_; rintro e w2 ⟨rfl,hw2'⟩; have hc2:Below wr.heap.size wr w2:=hcur.trans ((three_bel hw2').mono hcur.size); have HW2:Hid _:=hw2'; clear hw2')
              | (refine step_appS xr rfl (.tmp 54) (.tmp 58) rfl R (.slice P N c) N (List.map (fun s:Sp=>s.1) L) HLM.out.symm (by simp [Act.eval,Act.put]) (HOWN.out _ (hc2.alloc hc2.size _)) w2.heap.size (by simp [Act.eval,Act.put]) (by rw [HNX.out]; exact one_alloc _ _) (by have:=HNB.out; omega) (Nat.le_trans HRS.out (hc2.alloc hc2.size _).size) ?_; intro v4 w4 ho4 hg4; obtain ⟨P4,c4,hf4⟩:=own_form ho4; subst hf4; rw [← HNX.out] at hg4; obtain ⟨hq4,hb4,hr4⟩:=HRUN.out w2 w4 P4 c4 HW2.out hg4 ho4; have hk4:=cell1 hr4; have HQ4:Hid _:=hq4; have HB4:Hid _:=hb4; have HR4:Hid _:=hr4; clear hq4 hb4 hr4 hg4 ho4)
              | (go_at_call 62; refine (show Calls _ _ _ _ _ from HQ4.out).mono ?_; rintro e w7 ⟨rfl,X2,hs2,hb2⟩; have hk7:w7.cell? ⟨R,0,none⟩=some (.pointer (some ⟨S,0,none⟩)):=cell1 (hb2.md.row HR4.out (fun ho=>by have:=HST.out.fs.own_lt ho; have:=HRR.out; omega)); have HS2:Hid _:=hs2; have HB2':Hid _:=hb2; clear hs2 hb2))
          go_wp2
          go_returns
          rw [HTF.out]
          exact ⟨rfl,X2,HS2.out.more24 (by omega),Bt.pre HB4.out HB2'.out⟩
end Go.Proofs.YtbgbmfmgdgalbaaGreatDoor
