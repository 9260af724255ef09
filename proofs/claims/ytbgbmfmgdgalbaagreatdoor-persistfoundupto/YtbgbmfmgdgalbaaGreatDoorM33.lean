import Derived.Test.YtbgbmfmgdgalbaaGreatDoorM32
import Derived.Defers
namespace Go.Proofs.YtbgbmfmgdgalbaaGreatDoor
open Go.RowKit Go.Maps
set_option linter.unusedVariables false
set_option linter.unusedSimpArgs false
theorem StepV.go {Z:Nat → Prop} {lo g:Nat} {W:World} {s:Sp} (h:StepV W (KB Z lo W) g s) (hzl:∀ k,Z k → k < W.heap.size) {w0:World} {X:Gh} {F:Fs} {i:Nat} (hs:St w0 W g X F i) (hI:Inv F i) (hi:i + s.2.2 + 1 ≤ 3298534883000) (hz:∀ k,Z k → ¬ Own g F X k) (hlo:∀ k,Own g F X k → k < lo):Calls Tryz.prog s.1.1 (s.1.2.1 ++ s.1.2.2) W (CalP w0 W g X F (s.2.1 F).1 (i + s.2.2) (.int .i64 (s.2.1 F).2)):=
  h.run w0 W X F i hs hI hi (fun k hk=>by
    have hlt:k < W.heap.size:=by
      rcases hk with hk | ⟨_,hk,_⟩
      · exact hzl k hk
      · exact hk
    refine ⟨⟨W.heap[k]'hlt,Array.getElem?_eq_getElem hlt,Array.getElem?_eq_getElem hlt⟩,?_⟩
    rcases hk with hk | ⟨a,_,_⟩
    · exact hz k hk
    · intro ho; have:=hlo k ho; omega)
set_option maxHeartbeats 1000000 in
theorem playDown_any {w0 w:World} {g S i:Nat} {X:Gh} {F:Fs} {t:ByteArray} {keep:Int} (h:St w0 w g X F i) (hI:Inv F i) (ht:t.size ≤ 1073741824) (hi:i + 16387 ≤ 3298534883000) (hS:w.heap[S]?=some (.cells #[ptr (some g),.string t,.int .i64 keep] 77)) (hSo:¬ Own g F X S) :
    Calls Tryz.prog 63 #[ptr (some S)] w (CalP w0 w g X F (writtenM F tmpS t).1 (i + 16386) (.int .i64 (writtenM F tmpS t).2)):=by
  have HQ:Hid (Calls Tryz.prog 106 #[.pointer (some ⟨S,0,none⟩),.string tmpS,.string t] w (CalP w0 w g X F (writtenM F tmpS t).1 (i + 16386) (.int .i64 (writtenM F tmpS t).2))):=pwrite_any h hI tmpS t (by decide) ht hi hS hSo
  have c1:=(saving_cells hS).2.1
  obtain ⟨F2,e2,hm⟩:∃ F2 e2,writtenM F tmpS t=(F2,e2):=⟨_,_,rfl⟩
  rw [hm] at HQ ⊢
  simp only at HQ ⊢
  clear h hI hi hm hS hSo ht
  show Calls _ _ #[.pointer (some ⟨S,0,none⟩)] _ _
  go_enter Tryz.func63,Tryz.ntmps63
  go_wp2_with fail
  refine (show Calls _ _ _ _ _ from HQ.out).mono ?_
  rintro e w1 ⟨rfl,X2,hs2,hb2⟩
  have HS2:Hid _:=hs2
  have HB2:Hid _:=hb2
  clear hs2 hb2 HQ
  go_wp2
  go_returns
  exact ⟨rfl,X2,HS2.out,HB2.out⟩
set_option maxHeartbeats 2000000 in
set_option maxRecDepth 400000 in
theorem pexchange_any {w0 w:World} {g S i:Nat} {X:Gh} {F:Fs} {t:ByteArray} {keep:Int} (h:St w0 w g X F i) (hI:Inv F i) (hi:i + 2 ≤ 3298534883000) (hS:w.heap[S]?=some (.cells #[ptr (some g),.string t,.int .i64 keep] 77)) (hSo:¬ Own g F X S) :
    Calls Tryz.prog 65 #[ptr (some S)] w (CalP w0 w g X F (renameM F tmpS liveN).1 (i + 1) (.int .i64 (renameM F tmpS liveN).2)):=by
  have hlt:=row_lt hS
  have HQ:Hid (∀ w2,w2=((w.alloc (.cells #[ptr (some S)] 75)).alloc (.cells #[.string tmpS] 9)).alloc (.cells #[.string liveN] 9) → Calls Tryz.prog 145 (#[] ++ #[ptr (some w.heap.size),ptr (some (w.heap.size + 1)),ptr (some (w.heap.size + 2))]) w2 (CalP w0 w2 g X F (renameM F tmpS liveN).1 (i + 1) (.int .i64 (renameM F tmpS liveN).2))∧Below w.heap.size w w2):=fun w2 h2=>by
    obtain ⟨hst,hb⟩:=ren_made (Z:=fun k=>k=S) (lo:=w.heap.size) (Nat.le_refl _) (fun W' hb'=>⟨Or.inl rfl,t,keep,keep_row hS hb'⟩) (by decide) (by decide) h2
    exact ⟨hst.go (fun k e=>by rw [e]; exact row_lt (keep_row hS hb)) (h.on hb) hI hi (fun k e=>by rw [e]; exact hSo) (fun k hk=>h.fs.own_lt hk),hb⟩
  obtain ⟨F2,e2,hm⟩:∃ F2 e2,renameM F tmpS liveN=(F2,e2):=⟨_,_,rfl⟩
  rw [hm] at HQ ⊢
  simp only at HQ ⊢
  have heF:=eM_ren1
  clear h hI hi hm hS hSo hlt
  show Calls _ _ #[.pointer (some ⟨S,0,none⟩)] _ _
  go_enter Tryz.func65,Tryz.ntmps65
  go_wp2_with fail
  refine (show Calls _ _ _ _ _ from prename_any S tmpS liveN w).mono ?_
  rintro e w2 ⟨rfl,hw2⟩
  obtain ⟨hq,hb⟩:=HQ.out w2 hw2
  have HQ2:Hid _:=hq
  have HB:Hid _:=hb
  clear hq hb hw2 HQ
  obtain ⟨fr,hfr⟩:∃ fr:Array Value,#[ptr (some w.heap.size),ptr (some (w.heap.size + 1)),ptr (some (w.heap.size + 2))]=fr:=⟨_,rfl⟩
  rw [hfr,show (#[] ++ fr:Array Value)=fr from by simp] at HQ2
  rw [hfr]
  clear hfr
  go_wp2_with fail
  refine (show Calls _ _ _ _ _ from HQ2.out).mono ?_
  rintro e w1 ⟨rfl,X2,hs2,hb2⟩
  have HS2:Hid _:=hs2
  have HB2:Hid _:=hb2
  clear hs2 hb2 HQ2
  go_wp2
  go_returns
  exact ⟨rfl,X2,HS2.out,Bt.pre HB.out HB2.out⟩
def nmJ (j:Nat):ByteArray:=if j=0 then tmpS else tmpO
def clJ (F:Fs):Nat → Fs
  | 0=>F
  | j + 1=>cleanM (clJ F j) (nmJ j)
theorem nmJ_sz (j:Nat):(nmJ j).size ≤ 140737488355328:=by unfold nmJ; split <;> decide
set_option maxHeartbeats 4000000 in
set_option maxRecDepth 400000 in
theorem pcleanUp_any {w0 w:World} {g S i:Nat} {X:Gh} {F:Fs} {t:ByteArray} {keep:Int} (h:St w0 w g X F i) (hI:Inv F i) (hi:i + 5 ≤ 3298534883000) (hS:w.heap[S]?=some (.cells #[ptr (some g),.string t,.int .i64 keep] 77)) (hSo:¬ Own g F X S) :
    Calls Tryz.prog 61 #[ptr (some S)] w (CalP w0 w g X F (cleanM (cleanM F tmpS) tmpO) (i + 2) (.tuple #[])):=by
  obtain ⟨q,hq⟩:∃ q,w.heap.size=q:=⟨_,rfl⟩
  obtain ⟨W1,hW1⟩:∃ W1,w.alloc (.cells #[.string tmpS,.string tmpO] 9)=W1:=⟨_,rfl⟩
  have hb1:Below w.heap.size w W1:=by rw [← hW1]; exact (Below.refl _ _).alloc (Nat.le_refl _) _
  have rq:W1.heap[q]?=some (.cells #[.string tmpS,.string tmpO] 9):=by rw [← hW1,← hq]; exact one_alloc _ _
  have HB1:Hid (Below w.heap.size w W1):=hb1
  have HRQ:Hid (W1.heap[q]?=some (.cells #[.string tmpS,.string tmpO] 9)):=rq
  have HRS:Hid (W1.heap[S]?=some (.cells #[ptr (some g),.string t,.int .i64 keep] 77)):=keep_row hS hb1
  have HST:Hid (St w0 W1 g X F i):=h.on hb1
  have HI:Hid (Inv F i):=hI
  have HSO:Hid (¬ Own g F X S):=hSo
  have HQO:Hid (¬ Own g F X q):=fun ho=>by have:=h.fs.own_lt ho; omega
  have HIB:Hid (i + 5 ≤ 3298534883000):=hi
  have HBS:Hid (Bt w g X F W1 X F):=(Bt.refl _ _ _ _).after hb1
  clear h hI hi hS hSo hb1 rq
  show Calls _ _ #[.pointer (some ⟨S,0,none⟩)] _ _
  go_enter Tryz.func61,Tryz.ntmps61
  go_upto_region 1 with fail
  have hW2:w.alloc (.cells #[.string { data:=#[116,101,109,112,45,115,97,118,101] },.string { data:=#[116,101,109,112,45,111,108,100] }] 9)=W1:=hW1
  rw [hW2]
  clear hW1 hW2
  have heF:=eM_ift1
  have HEF:Hid _:=heF
  clear heF hq
  go_loopw [6] (fun iv wr=>∃ j:Nat,j ≤ 2∧iv=.int .i64 (j:Int)∧∃ X',St w0 wr g X' (clJ F j) (i + j)∧Inv (clJ F j) (i + j)∧Bt W1 g X F wr X' (clJ F j)) (fun iv _=>2 - (intOf iv).toNat)
  case atStart=>exact ⟨0,by omega,rfl,X,HST.out,HI.out,Bt.refl _ _ _ _⟩
  case round =>
    obtain ⟨j,hj,rfl,X',hs,hI',hb⟩:=hrel
    have HSJ:Hid _:=hs
    have HIJ:Hid _:=hI'
    have HBJ:Hid (Bt W1 g X F wr X' (clJ F j)):=hb
    clear hs hI' hb
    by_cases hlt:j < 2
    · have hr:=HBJ.out.md.row HRQ.out HQO.out
      have HSR:Hid (wr.heap[S]?=some (.cells #[ptr (some g),.string t,.int .i64 keep] 77)):=HBJ.out.md.row HRS.out HSO.out
      have c0:wr.cell? ⟨q,j,none⟩=some (.string (nmJ j)):=by
        rw [cell_of_row _ _ _ _ _ _ hr]
        have:j=0 ∨ j=1:=by omega
        rcases this with rfl | rfl <;> rfl
      have hz0:(0:Int) ≤ (j:Int):=by omega
      have hz1:(j:Int) < 2:=by omega
      have hiw:IntKind.i64.wrap ((j:Int) + 1)=(j:Int) + 1:=by rw [IntKind.wrap_i64] <;> omega
      have HSN:Hid (¬ Own g (clJ F j) X' S):=fun ho=>by
        rcases HBJ.out.own S ho with ho | ho
        · exact HSO.out ho
        · have:=row_lt HRS.out; omega
      have HCJ:Hid ((ifThM (nmJ j) (fun G=>removeM G (nmJ j)) (clJ F j)).1=clJ F (j + 1)):=ifTh_clean _ _
      have HNJ:Hid ((nmJ j).size ≤ 140737488355328):=nmJ_sz j
      have HRUN:Hid (∀ w2 w5,w2=(wr.alloc (.cells #[ptr (some S)] 75)).alloc (.cells #[.string (nmJ j)] 9) → w5=((w2.alloc (.cells #[ptr (some S)] 75)).alloc (.cells #[.string (nmJ j)] 9)).alloc (.cells #[fnV (140,#[],#[ptr (some wr.heap.size),ptr (some (wr.heap.size + 1))])] 160) → (∃ r,Calls Tryz.prog 138 (#[] ++ #[ptr (some w2.heap.size),ptr (some (w2.heap.size + 1)),ptr (some (w2.heap.size + 2))]) w5 (CalP w0 w5 g X' (clJ F j) (clJ F (j + 1)) (i + j + 1) r))∧Below wr.heap.size wr w5):=fun w2 w5 h2 h5=>by
        obtain ⟨hst,hb5⟩:=remS_made (Z:=fun k=>k=S) (lo:=wr.heap.size) (W:=wr) (Nat.le_refl _) (fun W' hb'=>⟨Or.inl rfl,t,keep,keep_row HSR.out hb'⟩) HNJ.out h2 h5
        have:=hst.go (fun k e=>by rw [e]; exact row_lt (keep_row HSR.out hb5)) (HSJ.out.on hb5) HIJ.out (by have:=HIB.out; show _ + 1 + 1 ≤ _; omega) (fun k e=>by rw [e]; exact HSN.out) (fun k hk=>HSJ.out.fs.own_lt hk)
        simp only at this
        rw [HCJ.out] at this
        exact ⟨⟨_,this⟩,hb5⟩
      have HNI:Hid (Inv (clJ F (j + 1)) (i + (j + 1))):=(HIJ.out.clean (nmJ j)).more (by omega)
      obtain ⟨nm,hnm⟩:∃ nm,nmJ j=nm:=⟨_,rfl⟩
      rw [hnm] at c0 HRUN
      clear hr hnm HCJ HNJ
      go_wp2_with fail
      refine (show Calls _ _ _ _ _ from premove_any S nm _).mono ?_
      rintro e w2 ⟨rfl,hw2⟩
      have HW2:Hid _:=hw2
      clear hw2 c0
      go_wp2_with fail
      refine (show Calls _ _ _ _ _ from ifThere_any S nm (140,#[],#[ptr (some wr.heap.size),ptr (some (wr.heap.size + 1))]) _).mono ?_
      rintro e w5 ⟨rfl,hw5⟩
      obtain ⟨⟨r,hq5⟩,hb5⟩:=HRUN.out w2 w5 HW2.out hw5
      have HQ5:Hid _:=hq5
      have HB5:Hid (Below wr.heap.size wr w5):=hb5
      have heF:=HEF.out
      clear hq5 hb5 hw5 HW2 HRUN
      obtain ⟨fr,hfr⟩:∃ fr:Array Value,#[ptr (some w2.heap.size),ptr (some (w2.heap.size + 1)),ptr (some (w2.heap.size + 2))]=fr:=⟨_,rfl⟩
      rw [hfr,show (#[] ++ fr:Array Value)=fr from by simp] at HQ5
      rw [hfr]
      obtain ⟨fr0,hfr0⟩:∃ fr0:Array Value,#[ptr (some wr.heap.size),ptr (some (wr.heap.size + 1))]=fr0:=⟨_,rfl⟩
      rw [hfr0]
      clear hfr hfr0
      go_wp2_with fail
      refine (show Calls _ _ _ _ _ from HQ5.out).mono ?_
      rintro e w6 ⟨rfl,X2,hs2,hb2⟩
      have HS2:Hid (St w0 w6 g X2 (clJ F (j + 1)) (i + j + 1)):=hs2
      have HB2:Hid (Bt W1 g X F w6 X2 (clJ F (j + 1))):=(HBJ.out.after HB5.out).trans hb2
      clear hs2 hb2 HQ5
      go_wp2
      go_roundw
      case rel=>exact ⟨j + 1,hlt,by first | rfl | congr 1,X2,HS2.out,HNI.out,HB2.out⟩
      case measure=>simp [intOf]; omega
    · have hj2:j=2:=by omega
      subst hj2
      go_wp2
      go_end0
      exact ⟨rfl,X',HSJ.out,HBS.out.trans HBJ.out⟩
end Go.Proofs.YtbgbmfmgdgalbaaGreatDoor
namespace Go.Proofs.YtbgbmfmgdgalbaaGreatDoor
open Go.RowKit Go.Maps
set_option linter.unusedVariables false
set_option linter.unusedSimpArgs false
theorem eM_lay (args:Array Value) (w:World):(callFunc 63 args).run Tryz.prog w=.ok (.enter 63 args) w:=by kernel_rfl
theorem eM_turn (args:Array Value) (w:World):(callFunc 64 args).run Tryz.prog w=.ok (.enter 64 args) w:=by kernel_rfl
theorem eM_exch (args:Array Value) (w:World):(callFunc 65 args).run Tryz.prog w=.ok (.enter 65 args) w:=by kernel_rfl
theorem eM_drop (args:Array Value) (w:World):(callFunc 66 args).run Tryz.prog w=.ok (.enter 66 args) w:=by kernel_rfl
theorem Inv.remsL24:∀ (m:Nat) {F:Fs} {i:Nat},Inv F i → Inv (seqM (remsL m) F).1 (i + m)
  | 0,F,i,h=>h
  | m + 1,F,i,h=>by
    refine inv_and (r:=remS (8 - m) F) (i:=i + 1) (Inv.ifTh (fun F i h=>h.remove _) F i h) (by omega) (fun h2=>(Inv.remsL24 m h2).more (by omega))
theorem Inv.turn24 {F:Fs} {i k:Nat} (h:Inv F i) (hk:k ≤ 8):Inv (turnM k F).1 (i + 16400):=by
  unfold turnM
  split
  · exact h.more (by omega)
  · split
    · rename_i h0 hr
      rw [seq_kept k hr]
      exact h.kept hk
    · split <;> exact h.more (by omega)
def fiveL (S g k:Nat) (t:ByteArray):List Sp:=[((63,#[ptr (some S)],#[]),(fun G=>writtenM G tmpS t),16386),((64,#[ptr (some S)],#[]),turnM k,16419),((65,#[ptr (some S)],#[]),(fun G=>renameM G tmpS liveN),1),((66,#[ptr (some S)],#[]),dropM k,9),((67,#[ptr (some g)],#[]),syncDirM,1)]
theorem five_stp {B:World} {K:Nat → Prop} {S g k:Nat} {t:ByteArray} (kS:K S) (rS:B.heap[S]?=some (.cells #[ptr (some g),.string t,.int .i64 (k:Int)] 77)) (ht:t.size ≤ 1073741824) (hk:k ≤ 8):∀ s ∈ fiveL S g k t,StepV B K g s:=fun s hs=>by
  unfold fiveL at hs
  simp only [List.mem_cons,List.not_mem_nil,or_false] at hs
  rcases hs with rfl | rfl | rfl | rfl | rfl
  · exact ⟨eM_lay,fun F i h=>(h.written tmpS t).more (by have:=pieces_le ht; show _ ≤ i + 16386; omega),fun w0 W X F i h hI hi hC=>playDown_any h hI ht hi (hC.row kS rS) (hC S kS).2⟩
  · exact ⟨eM_turn,fun F i h=>(h.turn24 hk).more (by show _ ≤ i + 16419; omega),fun w0 W X F i h hI hi hC=>(pturn_any h hI hk hi (hC.row kS rS) (hC S kS).2).mono (fun e w' hh=>cal_more hh (by show _ ≤ i + 16419; omega))⟩
  · exact ⟨eM_exch,fun F i h=>h.rename _ _,fun w0 W X F i h hI hi hC=>pexchange_any h hI hi (hC.row kS rS) (hC S kS).2⟩
  · exact ⟨eM_drop,fun F i h=>(h.remsL24 (8 - k)).more (by show _ ≤ i + 9; omega),fun w0 W X F i h hI hi hC=>(pdrop_any h hI hk hi (hC.row kS rS) (hC S kS).2).mono (fun e w' hh=>cal_more hh (by show _ ≤ i + 9; omega))⟩
  · exact syncDir_stp B K g
theorem run1_ok (b2 b1:Nat) (w:World) (h2:w.cell? ⟨b2,0,none⟩=some (.int .i64 0)):CallsD Tryz.prog 60 #[.pointer (some ⟨b2,0,none⟩),.pointer (some ⟨b1,0,none⟩)] .returning w fun e u' w'=>u'=.returning∧e=.returned (.tuple #[])∧w'=w:=by
  go_enter_d Tryz.func60,Tryz.ntmps60
  go_wp2
  go_end0
  exact ⟨rfl,rfl⟩
theorem run1_bad (b2 b1 S:Nat) (er:Int) (h0:er ≠ 0) (Po:World → Prop) (w:World) (h2:w.cell? ⟨b2,0,none⟩=some (.int .i64 er)) (h1:w.cell? ⟨b1,0,none⟩=some (.pointer (some ⟨S,0,none⟩))) (hc:Calls Tryz.prog 61 #[.pointer (some ⟨S,0,none⟩)] w fun e w'=>e=.returned (.tuple #[])∧Po w'):CallsD Tryz.prog 60 #[.pointer (some ⟨b2,0,none⟩),.pointer (some ⟨b1,0,none⟩)] .returning w fun e u' w'=>u'=.returning∧e=.returned (.tuple #[])∧Po w':=by
  have hnb:(er != 0)=true:=by simp [bne,beq_eq_false_iff_ne.mpr h0]
  have HQ:Hid _:=hc
  clear hc h0
  go_enter_d Tryz.func60,Tryz.ntmps60
  go_wp2_with fail
  refine (show Calls _ _ _ _ _ from HQ.out).mono ?_
  rintro e w1 ⟨rfl,hp⟩
  have HP:Hid _:=hp
  clear hp HQ
  go_wp2
  go_end0
  exact ⟨rfl,HP.out⟩
end Go.Proofs.YtbgbmfmgdgalbaaGreatDoor
