import Derived.Test.YtbgbmfmgdgalbaaGreatDoorM09
import Derived.Test.YtbgbmfmgdgalbaaGreatDoorM16
import Derived.Test.YtbgbmfmgdgalbaaGreatDoorM17
import Derived.Test.YtbgbmfmgdgalbaaGreatDoorM14
namespace Go.Proofs.YtbgbmfmgdgalbaaGreatDoor
open Go.RowKit Go.Maps
set_option linter.unusedVariables false
set_option linter.unusedSimpArgs false
theorem eM_app1 (args:Array Value) (w:World):(callFunc 126 args).run Tryz.prog w=.ok (.enter 126 args) w:=by kernel_rfl
theorem eM_app2 (args:Array Value) (w:World):(callFunc 128 args).run Tryz.prog w=.ok (.enter 128 args) w:=by kernel_rfl
set_option maxHeartbeats 1000000 in
theorem Append1_any (b0 b1 T0 T1 fbk i:Nat) (x:Fi) (pv:Value) (ps:List ByteArray) (dat:ByteArray) (w:World) (h0:w.heap[b0]?=some (.cells #[ptr (some fbk)] T0)) (h1:w.heap[b1]?=some (.cells #[.string dat] T1)) (hf:FileAt w fbk i x pv ps) (hd:x.d.size + dat.size ≤ 1073741824) :
    Calls Tryz.prog 126 #[.pointer (some ⟨b0,0,none⟩),.pointer (some ⟨b1,0,none⟩)] w fun e w'=>e=.returned (.tuple #[])∧Lyd w fbk i ⟨x.d ++ dat,x.s⟩ pv w':=by
  have c0:=cell1 h0
  have c1:=cell1 h1
  have HC:Hid _:=lay_any fbk i x pv ps dat w hf hd
  clear h0 h1 hf hd
  unfold ptr at c0 HC
  go_enter Tryz.func126,Tryz.ntmps126
  go_wp2_with fail
  refine (show Calls _ _ _ _ _ from HC.out).mono ?_
  rintro e w1 ⟨rfl,hp⟩
  have HP:Hid _:=hp
  clear hp
  go_wp2
  go_end0
  exact ⟨rfl,HP.out⟩
def clampP (p:Int) (n:Nat):Nat:=(max 0 (min p (n:Int))).toNat
set_option maxHeartbeats 2000000 in
set_option maxRecDepth 100000 in
theorem Append2_any (b0 b1 T0 T1 fbk i:Nat) (x:Fi) (pv:Value) (ps:List ByteArray) (dat:ByteArray) (p:Int) (w:World) (h0:w.heap[b0]?=some (.cells #[ptr (some fbk)] T0)) (h1:w.heap[b1]?=some (.cells #[.string dat] T1)) (hf:FileAt w fbk i x pv ps) (hd:x.d.size + dat.size ≤ 1073741824) (hne:b0 ≠ fbk∧b1 ≠ fbk∧pv.ownBlock ≠ some b0∧pv.ownBlock ≠ some b1) :
    Calls Tryz.prog 128 #[.int .i64 p,.pointer (some ⟨b0,0,none⟩),.pointer (some ⟨b1,0,none⟩)] w fun e w'=>e=.returned (.tuple #[])∧Lyd w fbk i ⟨x.d ++ dat.extract 0 (clampP p dat.size),x.s⟩ pv w':=by
  have c0:w.drew.cell? ⟨b0,0,none⟩=some (.pointer (some ⟨fbk,0,none⟩)):=cell1 h0
  have c1:w.drew.cell? ⟨b1,0,none⟩=some (.string dat):=cell1 h1
  obtain ⟨q,hq⟩:∃ q,clampP p dat.size=q:=⟨_,rfl⟩
  have hqs:q ≤ dat.size:=by rw [← hq]; unfold clampP; omega
  have hmm:min (max p 0) (dat.size:Int)=(q:Int):=by rw [← hq]; unfold clampP; omega
  have HC:Hid (∀ m,Calls Tryz.prog 127 #[ptr (some fbk),.string (dat.extract 0 q)] (w.drewN m) fun e w'=>e=.returned (.tuple #[])∧Lyd (w.drewN m) fbk i ⟨x.d ++ dat.extract 0 q,x.s⟩ pv w'):=fun m=>lay_any fbk i x pv ps (dat.extract 0 q) (w.drewN m) (hf.to rfl (fun k hk=>rfl)) (by rw [ext_size _ _ _ hqs]; omega)
  rw [hq]
  obtain ⟨mx,hmx⟩:∃ mx,max p 0=mx:=⟨_,rfl⟩
  rw [hmx] at hmm
  have H0:Hid (w.heap[b0]?=some (.cells #[ptr (some fbk)] T0)):=h0
  have H1:Hid (w.heap[b1]?=some (.cells #[.string dat] T1)):=h1
  have HNE:Hid (b0 ≠ fbk∧b1 ≠ fbk∧pv.ownBlock ≠ some b0∧pv.ownBlock ≠ some b1):=hne
  clear h0 h1 hf hd hq hne
  unfold ptr at HC
  go_enter Tryz.func128,Tryz.ntmps128
  go_wp2_with fail
  go_region_held3 (fun W:World=>W.cell? ⟨b0,0,none⟩=some (.pointer (some ⟨fbk,0,none⟩))∧W.cell? ⟨b1,0,none⟩=some (.string dat))
    (first | with_reducible exact ⟨c0,c1⟩ | with_reducible exact ⟨q0,q1⟩)
    (first | (go_at_call 127; refine (show Calls _ _ _ _ _ from HC.out 1).mono ?_; rintro e w1 ⟨rfl,hp⟩; have HP:Hid (Lyd (w.drewN 1) fbk i ⟨x.d ++ dat.extract 0 q,x.s⟩ pv w1):=hp; obtain ⟨pv',ps',hF',hM',hL'⟩:=hp; have q0:w1.cell? ⟨b0,0,none⟩=some (.pointer (some ⟨fbk,0,none⟩)):=cell1 (hM'.row (k:=b0) H0.out (by have:=HNE.out; simp [this.1,this.2.2.1])); have q1:w1.cell? ⟨b1,0,none⟩=some (.string dat):=cell1 (hM'.row (k:=b1) H1.out (by have:=HNE.out; simp [this.2.1,this.2.2.2]))))
  go_end0
  obtain ⟨pv2,ps2,f2,m2,l2⟩:=HP.out
  exact ⟨rfl,pv2,ps2,f2,⟨m2.os,m2.tape,m2.output,m2.size,m2.oth⟩,l2⟩
theorem app_fin {F:Fs} {n dat:ByteArray} {i:Nat} (h0:hasM F n=0) (hi:(findM F.dir n).toNat=i) (hl:¬ 1073741824 < (F.files.getD i ⟨⟨#[]⟩,0⟩).d.size + dat.size):((stepM F).2.1=0 → (stepM F).1=up1 F → appendM F n dat=({ up1 F with files:=F.files.set i ⟨(F.files.getD i ⟨⟨#[]⟩,0⟩).d ++ dat,(F.files.getD i ⟨⟨#[]⟩,0⟩).s⟩ },0))∧((stepM F).2.1=200 → (stepM F).1=up1 F → appendM F n dat=({ up1 F with files:=F.files.set i ⟨(F.files.getD i ⟨⟨#[]⟩,0⟩).d ++ dat.extract 0 (clampP (stepM F).2.2 dat.size),(F.files.getD i ⟨⟨#[]⟩,0⟩).s⟩ },200))∧((stepM F).2.1=203 → appendM F n dat=((stepM F).1,203)):=by
  unfold appendM
  rw [if_pos h0,hi]
  simp only []
  rw [if_neg hl]
  refine ⟨fun a b=>?_,fun a b=>?_,fun a=>?_⟩
  · rw [if_neg (by omega),if_neg (by omega),b,a]; rfl
  · rw [if_neg (by omega),if_pos a,b,a]; rfl
  · rw [if_pos a]
set_option maxHeartbeats 2000000 in
set_option maxRecDepth 100000 in
theorem Append_any (HGD:GoDownC) (g:Nat) (X:Gh) (F:Fs) (n dat:ByteArray) (hn:n.size ≤ 140737488355328) (hdt:dat.size ≤ 140737488355328) (w:World) (h:FsP w g X F) (hs:Sm F X) (hs1:F.steps < 3298534883328) (hpk:F.picks.length ≤ 17592186044416) :
    Calls Tryz.prog 83 #[ptr (some g),.string n,.string dat] w fun e w'=>e=.returned (.int .i64 (appendM F n dat).2)∧∃ X',Bec w g X F w' X' (appendM F n dat).1:=by
  obtain ⟨R,hR⟩:∃ R,w.heap.size=R:=⟨_,rfl⟩
  obtain ⟨W0,hW0⟩:∃ W0,w.alloc (.cells #[.string dat] 9)=W0:=⟨_,rfl⟩
  have n1:W0.heap[R]?=some (.cells #[.string dat] 9):=by rw [← hW0,← hR]; exact one_alloc _ _
  have n4:Below w.heap.size w W0:=by rw [← hW0]; exact (Below.refl _ _).alloc (Nat.le_refl _) _
  have hF0:FsP W0 g X F:=h.on n4
  have HFI:Hid _:=find0_any g X F n hn W0 hF0
  have HB0:Hid (Below w.heap.size w W0):=n4
  have HN1:Hid (W0.heap[R]?=some (.cells #[.string dat] 9)):=n1
  have HRR:Hid (w.heap.size=R):=hR
  by_cases h0:hasM F n=0
  · obtain ⟨hd,hnm,hf⟩:=has_zero.1 h0
    obtain ⟨i,hi1,hi2,hi3,hl⟩:=h.named hf
    have hy:=fnd_yes (X:=X) (os:=[]) hd (by simpa using hnm) hf
    rw [hy,h0,hi2] at HFI
    obtain ⟨x,hxx⟩:∃ x,F.files.getD i ⟨⟨#[]⟩,0⟩=x:=⟨_,rfl⟩
    have hxb:x.d.size ≤ 1073741824:=by rw [← hxx]; exact (h.file hl).big
    have HFL:Hid (∀ W,Below w.heap.size w W → FileAt W (X.fb i) i x (X.pv i) (X.ps i)):=fun W hb=>by rw [← hxx]; exact (h.on hb).file hl
    have hfbR:X.fb i < R:=by rw [← hR]; exact h.own_lt (own_file hl)
    have hpvR:∀ k,(X.pv i).ownBlock=some k → k < R:=fun k hk=>by rw [← hR]; exact h.own_lt (Or.inr (Or.inr (Or.inr (Or.inl ⟨i,hl,Or.inr hk⟩))))
    have HFS:Hid (∀ W,Below w.heap.size w W → FsP W g X F):=fun W hb=>h.on hb
    by_cases hlong:1073741824 < x.d.size + dat.size
    · have hM:appendM F n dat=(F,2):=by
        unfold appendM
        rw [if_pos h0]
        simp only []
        rw [hi2,hxx,if_pos hlong]
      rw [hM]
      obtain ⟨sz,hsz⟩:∃ sz,x.d.size=sz:=⟨_,rfl⟩
      rw [hsz] at hlong hxb
      have hw1:IntKind.i64.wrap ((1073741824:Int) - (sz:Int))=((1073741824 - sz:Nat):Int):=by rw [IntKind.wrap_i64] <;> omega
      have hgt:((1073741824 - sz:Nat):Int) < (dat.size:Int):=by omega
      have HSZ:Hid (x.d.size=sz):=hsz
      obtain ⟨bb,hbb⟩:∃ bb,X.fb i=bb:=⟨_,rfl⟩
      rw [hbb] at HFI HFL
      clear h hs hs1 hpk hd hnm hf hi1 hi2 hi3 hl hy h0 n1 n4 hF0 hM hsz hxx hbb hfbR hpvR
      unfold ptr at HFI ⊢
      go_enter Tryz.func83,Tryz.ntmps83
      go_wp2_with fail
      refine (show Calls _ _ _ _ _ from HFI.out).mono ?_
      rintro e w1 ⟨rfl,hb1⟩
      have HB1:Hid (Below w.heap.size w w1):=bel_to HB0.out hb1 (Nat.le_refl _)
      have r1:=keep_row HN1.out hb1
      obtain ⟨W2,hW2⟩:∃ W2,w1.alloc (.cells #[.pointer (some ⟨bb,0,none⟩)] 83)=W2:=⟨_,rfl⟩
      obtain ⟨b,hb⟩:∃ b,w1.heap.size=b:=⟨_,rfl⟩
      have hb2:Below w1.heap.size w1 W2:=by rw [← hW2]; exact (Below.refl _ _).alloc (Nat.le_refl _) _
      have r3:W2.heap[b]?=some (.cells #[.pointer (some ⟨bb,0,none⟩)] 83):=by rw [← hW2,← hb]; exact one_alloc _ _
      have HB2:Hid (Below w.heap.size w W2):=bel_to HB1.out hb2 (Nat.le_refl _)
      have d0:=cell1 (keep_row r1 hb2)
      have d1:=cell1 r3
      obtain ⟨_,_,d2,_,_⟩:=file_cells (HFL.out W2 HB2.out).blk
      rw [HSZ.out] at d2
      clear hb1 r1 r3 hb2 hW0
      go_upto_region 4 with fail
      go_quiet (fail)
      go_wp2
      go_returns
      have hbq:Below w.heap.size w (W2.drewN nq):=below_dn HB2.out _
      exact ⟨rfl,X,(Bec.refl (HFS.out _ hbq)).pre hbq⟩
    · obtain ⟨f1,f2,f3⟩:=app_fin (dat:=dat) h0 hi2 (by rw [hxx]; exact hlong)
      have HST:Hid (∀ W b,Below w.heap.size w W → W.heap[R]?=some (.cells #[.string dat] 9) → R ≤ b → W.heap[b]?=some (.cells #[ptr (some (X.fb i))] 83) → Calls Tryz.prog 125 #[ptr (some g),.func (.func 126) #[] #[.pointer (some ⟨b,0,none⟩),.pointer (some ⟨R,0,none⟩)],.func (.func 128) #[] #[.pointer (some ⟨b,0,none⟩),.pointer (some ⟨R,0,none⟩)]] W fun e w'=>StepP g X F W (fun w1 w'=>Lyd w1 (X.fb i) i ⟨x.d ++ dat,x.s⟩ (X.pv i) w') (fun X1 w1 p w'=>Lyd w1 (X.fb i) i ⟨x.d ++ dat.extract 0 (clampP p dat.size),x.s⟩ (X.pv i) w') e w'):=fun W b hb r1 rb r3=>stepOrPart_any HGD g X F 126 eM_app1 #[] _ 128 eM_app2 #[] _ _ _ W (h.on hb) hs hs1 hpk (fun w1 hm hF=>by
          have hfl:=hF.file hl
          have e:(up1 F).files.getD i ⟨⟨#[]⟩,0⟩=x:=hxx
          rw [e] at hfl
          exact Append1_any b R _ _ (X.fb i) i x _ _ dat w1 (hm.fresh h r3 (by omega)) (hm.fresh h r1 (by omega)) hfl (by omega)) (fun w1 qv qs p hB=>by
          have hfl:=hB.is.file (i:=i) hl
          have e:(up1 F).files.getD i ⟨⟨#[]⟩,0⟩=x:=hxx
          rw [e] at hfl
          exact Append2_any b R _ _ (X.fb i) i x _ _ dat p w1 (hB.md.fresh h r3 (by omega)) (hB.md.fresh h r1 (by omega)) hfl (by omega) ⟨by omega,by omega,fun e1=>by have:=hpvR b e1; omega,fun e1=>by have:=hpvR R e1; omega⟩)
      have HFN:Hid (∀ W w' e,Below w.heap.size w W → StepP g X F W (fun w1 w'=>Lyd w1 (X.fb i) i ⟨x.d ++ dat,x.s⟩ (X.pv i) w') (fun X1 w1 p w'=>Lyd w1 (X.fb i) i ⟨x.d ++ dat.extract 0 (clampP p dat.size),x.s⟩ (X.pv i) w') e w' → e=.returned (.int .i64 (appendM F n dat).2)∧∃ X',Bec w g X F w' X' (appendM F n dat).1):=fun W w' e hb hp=>by
        rw [hxx] at f1 f2
        obtain ⟨he,hc⟩:=hp
        rcases hc with ⟨a,b,w1,c,d,pv',ps',q1,q2,q3⟩ | ⟨a,b,w1,qv,qs,c,pv',ps',q1,q2,q3⟩ | ⟨a,X',c⟩
        · rw [f1 a b,he,a]
          have hB:=d.file_set hl q1 q2 q3
          refine ⟨rfl,_,(Bec.pre (W:=W) hb ⟨hB.is,c.andThen hB.md (fun j _ hj=>hj),fun k hk=>(hB.own k hk).imp id (fun q=>Nat.le_trans c.size q),hB.len,fun q hq=>(hB.nq q hq).imp id (fun h6=>h6.le c.size)⟩)⟩
        · rw [f2 a b,he,a]
          have hB:=c.is.file_set (i:=i) hl q1 q2 q3
          refine ⟨rfl,_,(Bec.pre (W:=W) hb ⟨hB.is,c.md.andThen hB.md (fun j hj hk=>?_),fun k hk=>?_,?_,fun q hq=>?_⟩)⟩
          · rcases c.own j hk with h1 | h1
            · exact h1
            · omega
          · rcases hB.own k hk with h1 | h1
            · exact c.own k h1
            · exact Or.inr (Nat.le_trans c.md.size h1)
          · exact c.len
          · rcases hB.nq q hq with h6 | h6
            · exact (c.nq q h6).imp id (fun h7=>h7.mod c.is.toFsC hB.md)
            · exact Or.inr (h6.le c.md.size)
        · rw [f3 a,he,a]
          exact ⟨rfl,X',c.pre hb⟩
      obtain ⟨sz,hsz⟩:∃ sz,x.d.size=sz:=⟨_,rfl⟩
      rw [hsz] at hlong hxb
      have hw1:IntKind.i64.wrap ((1073741824:Int) - (sz:Int))=((1073741824 - sz:Nat):Int):=by rw [IntKind.wrap_i64] <;> omega
      have hgt:¬ ((1073741824 - sz:Nat):Int) < (dat.size:Int):=by omega
      have HSZ:Hid (x.d.size=sz):=hsz
      obtain ⟨bb,hbb⟩:∃ bb,X.fb i=bb:=⟨_,rfl⟩
      rw [hbb] at HFI HFL HST HFN
      clear h hs hs1 hpk hd hnm hf hi1 hi2 hi3 hl hy h0 n1 n4 hF0 hsz hxx hbb hfbR hpvR f1 f2 f3
      unfold ptr at HFI HST ⊢
      go_enter Tryz.func83,Tryz.ntmps83
      go_wp2_with fail
      refine (show Calls _ _ _ _ _ from HFI.out).mono ?_
      rintro e w1 ⟨rfl,hb1⟩
      have HB1:Hid (Below w.heap.size w w1):=bel_to HB0.out hb1 (Nat.le_refl _)
      have r1:=keep_row HN1.out hb1
      obtain ⟨W2,hW2⟩:∃ W2,w1.alloc (.cells #[.pointer (some ⟨bb,0,none⟩)] 83)=W2:=⟨_,rfl⟩
      obtain ⟨b,hb⟩:∃ b,w1.heap.size=b:=⟨_,rfl⟩
      have hb2:Below w1.heap.size w1 W2:=by rw [← hW2]; exact (Below.refl _ _).alloc (Nat.le_refl _) _
      have r3:W2.heap[b]?=some (.cells #[.pointer (some ⟨bb,0,none⟩)] 83):=by rw [← hW2,← hb]; exact one_alloc _ _
      have HB2:Hid (Below w.heap.size w W2):=bel_to HB1.out hb2 (Nat.le_refl _)
      have HR1:Hid (W2.heap[R]?=some (.cells #[.string dat] 9)):=keep_row r1 hb2
      have HR3:Hid (W2.heap[b]?=some (.cells #[.pointer (some ⟨bb,0,none⟩)] 83)):=r3
      have HBL:Hid (R ≤ b):=by have:=HB1.out.size; have:=HRR.out; show R ≤ b; omega
      have d0:=cell1 (keep_row r1 hb2)
      have d1:=cell1 r3
      obtain ⟨_,_,d2,_,_⟩:=file_cells (HFL.out W2 HB2.out).blk
      rw [HSZ.out] at d2
      clear hb1 r1 r3 hb2 hW0
      go_upto_region 4 with fail
      go_quiet (fail)
      obtain ⟨W3,hW3⟩:∃ W3,W2.drewN nq=W3:=⟨_,rfl⟩
      have HB3:Hid (Below w.heap.size w W3):=by
        show Below _ _ _
        rw [← hW3]; exact below_dn HB2.out _
      have HS3:Hid _:=HST.out W3 b HB3.out (by rw [← hW3]; exact HR1.out) HBL.out (by rw [← hW3]; exact HR3.out)
      rw [hW3]
      clear hW3 d0 d1 d2
      go_wp2_with fail
      refine (show Calls _ _ _ _ _ from HS3.out).mono ?_
      rintro e w4 hp
      obtain ⟨he,hB⟩:=HFN.out W3 w4 e HB3.out hp
      have HBB:Hid _:=hB
      subst he
      clear hp hB
      go_wp2
      go_returns
      exact ⟨rfl,HBB.out⟩
  · have hno:=fnd_no (F:=F) (X:=X) (n:=n) (os:=[]) (fun hh=>h0 (has_zero.2 ⟨hh.1,by simpa using hh.2.1,hh.2.2⟩))
    rw [hno.1] at HFI
    have hM:appendM F n dat=(F,hasM F n):=by unfold appendM; rw [if_neg h0]
    rw [hM]
    have HFP:Hid (FsP W0 g X F):=hF0
    obtain ⟨er,her⟩:∃ er,hasM F n=er:=⟨_,rfl⟩
    rw [her] at HFI h0 ⊢
    have hne:(er == 0)=false:=by simpa using h0
    clear h hs hs1 hpk hno hM her n1 n4 hF0
    unfold ptr at HFI ⊢
    go_enter Tryz.func83,Tryz.ntmps83
    go_wp2_with fail
    refine (show Calls _ _ _ _ _ from HFI.out).mono ?_
    rintro e w1 ⟨rfl,hb1⟩
    have HB1:Hid (Below W0.heap.size W0 w1):=hb1
    clear hb1 hW0
    go_wp2
    go_returns
    refine ⟨rfl,X,?_⟩
    have hb4:Below w1.heap.size w1 (w1.alloc (.cells #[.pointer none] 83)):=(Below.refl _ _).alloc (Nat.le_refl _) _
    exact (Bec.refl ((HFP.out.on HB1.out).on hb4)).pre (bel_to (bel_to HB0.out HB1.out (Nat.le_refl _)) hb4 (Nat.le_refl _))
end Go.Proofs.YtbgbmfmgdgalbaaGreatDoor
namespace Go.Proofs.YtbgbmfmgdgalbaaGreatDoor
open Go.RowKit Go.Maps
set_option linter.unusedVariables false
set_option linter.unusedSimpArgs false
theorem three_new {w:World} (a b c:Obj):(((w.alloc a).alloc b).alloc c).heap[w.heap.size]?=some a∧(((w.alloc a).alloc b).alloc c).heap[w.heap.size + 1]?=some b∧(((w.alloc a).alloc b).alloc c).heap[w.heap.size + 2]?=some c∧(((w.alloc a).alloc b).alloc c).heap.size=w.heap.size + 3∧Below w.heap.size w (((w.alloc a).alloc b).alloc c):=by
  obtain ⟨h1,h2,h3,h4⟩:=two_new (w:=w) a b
  refine ⟨(heap_alloc_old _ _ (by omega)).trans h1,(heap_alloc_old _ _ (by omega)).trans h2,?_,by simp,h4.alloc (by omega) _⟩
  rw [← h3]; exact one_alloc _ _
theorem ren_no {F:Fs} {X:Gh} {n t:ByteArray} (h:¬ (F.down=false∧namedM t=true∧namedM n=true∧¬ findM F.dir n < 0)):(fndM F X n [t]).1=.pointer none∧(fndM F X n [t]).2 ≠ 0∧renameM F n t=(F,(fndM F X n [t]).2):=by
  have h1:=fnd_no (F:=F) (X:=X) (n:=n) (os:=[t]) (fun hh=>h ⟨hh.1,by have:=hh.2.1; simp at this; exact this.1,by have:=hh.2.1; simp at this; exact this.2,hh.2.2⟩)
  refine ⟨h1.1,h1.2,?_⟩
  unfold renameM fndM chkM hasM
  simp only [List.cons_append,List.nil_append,List.all_cons,List.all_nil,Bool.and_true]
  by_cases hd:F.down
  · simp [hd]
  · simp only [hd,if_false,Bool.false_eq_true,Bool.not_false,Bool.true_and]
    by_cases ht:namedM t=true
    · simp only [ht,Bool.not_true,Bool.false_eq_true,if_false,Bool.true_and]
      by_cases hn:namedM n=true
      · simp only [hn,if_true]
        by_cases hf:findM F.dir n < 0
        · simp [hf]
        · exact absurd ⟨by simpa using hd,ht,hn,hf⟩ h
      · simp [hn]
    · simp only [Bool.not_eq_true] at ht
      simp [ht]
set_option maxHeartbeats 2000000 in
set_option maxRecDepth 100000 in
theorem Rename_any (HGD:GoDownC) (g:Nat) (X:Gh) (F:Fs) (n t:ByteArray) (hn:n.size ≤ 140737488355328) (ht:t.size ≤ 140737488355328) (w:World) (h:FsP w g X F) (hs:Sm F X) (hs1:F.steps < 3298534883328) (hpk:F.picks.length ≤ 17592186044416) :
    Calls Tryz.prog 146 #[ptr (some g),.string n,.string t] w fun e w'=>e=.returned (.int .i64 (renameM F n t).2)∧∃ X',Bec w g X F w' X' (renameM F n t).1:=by
  obtain ⟨R,hR⟩:∃ R,w.heap.size=R:=⟨_,rfl⟩
  obtain ⟨n1,n2,n2',n3,n4⟩:=three_new (w:=w) (.cells #[.pointer (some ⟨g,0,none⟩)] 25) (.cells #[.string n] 9) (.cells #[.string t] 9)
  obtain ⟨W0,hW0⟩:∃ W0,((w.alloc (.cells #[.pointer (some ⟨g,0,none⟩)] 25)).alloc (.cells #[.string n] 9)).alloc (.cells #[.string t] 9)=W0:=⟨_,rfl⟩
  rw [hW0] at n1 n2 n2' n3 n4
  rw [hR] at n1 n2 n2' n3
  obtain ⟨W1,hW1⟩:∃ W1,W0.alloc (.cells #[.string t] 9)=W1:=⟨_,rfl⟩
  have m4:Below W0.heap.size W0 W1:=by rw [← hW1]; exact (Below.refl _ _).alloc (Nat.le_refl _) _
  have m1:W1.heap[R + 3]?=some (.cells #[.string t] 9):=by rw [← hW1,← n3]; exact one_alloc _ _
  have hF0:FsP W1 g X F:=(h.on n4).on m4
  have hfr:∀ k,Own g F X k → k < R:=fun k hk=>by have:=h.own_lt hk; omega
  have hfk:∀ k,(Value.slice (some ⟨R + 3,0,none⟩) 1 1).ownBlock=some k → ¬ Own g F X k:=fun k hk ho=>by
    have h1:=hfr k ho
    have e:R + 3=k:=by simpa [Value.ownBlock] using hk
    omega
  have HFI:Hid (Calls Tryz.prog 112 #[ptr (some g),.string n,.slice (some ⟨R + 3,0,none⟩) 1 1] W1 fun e w'=>e=.returned (.tuple #[(fndM F X n [t]).1,.int .i64 (fndM F X n [t]).2])∧ModP (fun k=>k=R + 3) W1 w'∧FsP w' g X F):=by
    refine (find_any g X F n hn (.slice (some ⟨R + 3,0,none⟩) 1 1) [t] (by simp) (fun s hs=>by simp at hs; subst hs; exact ht) W1 hF0 ⟨rfl,Or.inr ⟨R + 3,1,#[.string t],rfl,Nat.zero_le _,m1,Nat.le_refl _,by unfold maxLen; omega,rfl,rfl⟩⟩ hfk).mono ?_
    rintro e w' ⟨rfl,h1,h2⟩
    exact ⟨rfl,h1.weak (fun k _ hk=>by cases hk; rfl),h2⟩
  have HB0:Hid (Below w.heap.size w W1):=bel_to n4 m4 (Nat.le_refl _)
  have HN1:Hid (W1.heap[R]?=some (.cells #[.pointer (some ⟨g,0,none⟩)] 25)):=keep_row n1 m4
  have HN2:Hid (W1.heap[R + 1]?=some (.cells #[.string n] 9)):=keep_row n2 m4
  have HN3:Hid (W1.heap[R + 2]?=some (.cells #[.string t] 9)):=keep_row n2' m4
  have HRR:Hid (w.heap.size=R):=hR
  have HS0:Hid (W0.heap.size=R + 3):=n3
  have c0:=cell1 n1
  have c1:=cell1 n2
  have c2:=cell1 n2'
  by_cases h0:F.down=false∧namedM t=true∧namedM n=true∧¬ findM F.dir n < 0
  · obtain ⟨hd,htm,hnm,hf⟩:=h0
    have h00:hasM F n=0:=has_zero.2 ⟨hd,hnm,hf⟩
    obtain ⟨i,hi1,hi2,hi3,hl⟩:=h.named hf
    have hy:=fnd_yes (X:=X) (os:=[t]) hd (by simp [htm,hnm]) hf
    rw [hy,hi2] at HFI
    have hxi:F.files[i]?=some F.files[i]:=List.getElem?_eq_getElem hi3
    have hck:COk (up1 F) ⟨n,t,(i:Int)⟩ i:=cok_rename (F:=up1 F) h.ok.dir hnm htm hi1 hi3
    have htz:¬ t.size=0:=by have:=(named_size htm).1; omega
    have hpc:pcOf ⟨n,t,(i:Int)⟩ (X.fb i)=⟨n,t,X.fb i⟩:=if_neg htz
    have HST:Hid (∀ W b,Below w.heap.size w W → W.heap[R]?=some (.cells #[ptr (some g)] 25) → W.heap[R + 1]?=some (.cells #[.string n] 9) → W.heap[R + 2]?=some (.cells #[.string t] 9) → R ≤ b → W.heap[b]?=some (.cells #[ptr (some (X.fb i))] 83) → Calls Tryz.prog 110 #[ptr (some g),.func (.func 163) #[] #[.pointer (some ⟨R,0,none⟩),.pointer (some ⟨R + 1,0,none⟩),.pointer (some ⟨R + 2,0,none⟩),.pointer (some ⟨b,0,none⟩)]] W fun e w'=>StepP g X F W (ChgF g X (up1 F) ⟨n,t,(i:Int)⟩ i) (fun _ w1 _ w'=>w'=w1) e w'):=fun W b hb r1 r2 r2' rb r3=>step_any HGD g X F 163 eM_rename #[] _ _ W (h.on hb) hs hs1 hpk (fun w1 hm hF=>by
      refine Rename1_any g R (R + 1) (R + 2) b _ _ _ _ (X.fb i) n t _ w1 (hm.fresh h r1 (by omega)) (hm.fresh h r2 (by omega)) (hm.fresh h r2' (by omega)) (hm.fresh h r3 (by omega)) ?_
      have hch:=changeF_any g X (up1 F) ⟨n,t,(i:Int)⟩ i F.files[i] w1 hF ⟨by show F.steps + 1 ≤ _; omega,hs.fi,hs.ch,hs.qs⟩ hck hxi (hF.fil i _ hl hxi) (fun j hj hne=>hF.inj j i hj hl hne)
      rw [hpc] at hch
      exact hch)
    have HFN:Hid (∀ W w' e,Below w.heap.size w W → StepP g X F W (ChgF g X (up1 F) ⟨n,t,(i:Int)⟩ i) (fun _ w1 _ w'=>w'=w1) e w' → e=.returned (.int .i64 (renameM F n t).2)∧∃ X',Bec w g X F w' X' (renameM F n t).1):=fun W w' e hb hp=>by
      refine hp.fin hb (renameM F n t) (fun a b=>?_) (fun a=>?_)
      · have hM:renameM F n t=(changeM (up1 F) ⟨n,t,(i:Int)⟩,0):=by
          unfold renameM
          rw [if_neg (by simp [hd,htm]),if_pos h00]
          simp only []
          rw [if_pos a,b,hi1]
        rw [hM]
        exact ⟨rfl,fun w1 hm hF hpd=>hpd.bec hl (fun j=>Iff.rfl) hm⟩
      · unfold renameM
        rw [if_neg (by simp [hd,htm]),if_pos h00]
        simp only []
        rw [if_neg a]
    generalize X.fb i=bb at *
    have hs0':=n3
    clear h hs hs1 hpk hd hnm htm hf hi1 hi2 hi3 hl hy h00 n1 n2 n2' n3 n4 m1 m4 hF0 hxi hck htz hpc hfr hfk
    unfold ptr at HFI HST ⊢
    go_enter Tryz.func146,Tryz.ntmps146
    go_wp2_with fail
    refine (show Calls _ _ _ _ _ from HFI.out).mono ?_
    rintro e w1 ⟨rfl,hm1,_⟩
    have HB1:Hid (Below w.heap.size w w1):=HB0.out.trans (hm1.bel (fun k hk e=>by have:=HRR.out; omega) (by have:=HB0.out.size; omega))
    have r1:=hm1.row HN1.out (by omega)
    have r2:=hm1.row HN2.out (by omega)
    have r2':=hm1.row HN3.out (by omega)
    have hs0:=HS0.out
    obtain ⟨W2,hW2⟩:∃ W2,w1.alloc (.cells #[.pointer (some ⟨bb,0,none⟩)] 83)=W2:=⟨_,rfl⟩
    obtain ⟨b,hbb⟩:∃ b,w1.heap.size=b:=⟨_,rfl⟩
    have hb2:Below w1.heap.size w1 W2:=by rw [← hW2]; exact (Below.refl _ _).alloc (Nat.le_refl _) _
    have r3:W2.heap[b]?=some (.cells #[.pointer (some ⟨bb,0,none⟩)] 83):=by rw [← hW2,← hbb]; exact one_alloc _ _
    have HS2:Hid _:=HST.out W2 b (bel_to HB1.out hb2 (Nat.le_refl _)) (keep_row r1 hb2) (keep_row r2 hb2) (keep_row r2' hb2) (by have:=HB1.out.size; have:=HRR.out; omega) r3
    have HB2:Hid (Below w.heap.size w W2):=bel_to HB1.out hb2 (Nat.le_refl _)
    have d0:=cell1 (keep_row r1 hb2)
    clear hm1 r1 r2 r2' r3 hb2 c0 c1 c2 hW0 hW1 hs0
    go_wp2_with fail
    refine (show Calls _ _ _ _ _ from HS2.out).mono ?_
    rintro e w3 hp
    obtain ⟨he,hB⟩:=HFN.out W2 w3 e HB2.out hp
    have HBB:Hid _:=hB
    subst he
    clear hp hB
    go_wp2
    go_returns
    exact ⟨rfl,HBB.out⟩
  · obtain ⟨g1,g2,hM⟩:=ren_no (X:=X) h0
    rw [g1] at HFI
    rw [hM]
    obtain ⟨er,her⟩:∃ er,(fndM F X n [t]).2=er:=⟨_,rfl⟩
    rw [her] at HFI g2 ⊢
    have hne:(er == 0)=false:=by simpa using g2
    have hs0:=n3
    clear h hs hs1 hpk hM her n1 n2 n2' n3 n4 m1 m4 hF0 hfr hfk
    unfold ptr at HFI ⊢
    go_enter Tryz.func146,Tryz.ntmps146
    go_wp2_with fail
    refine (show Calls _ _ _ _ _ from HFI.out).mono ?_
    rintro e w1 ⟨rfl,hm1,hf1⟩
    have HB1:Hid (Below w.heap.size w w1):=HB0.out.trans (hm1.bel (fun k hk e=>by have:=HRR.out; omega) (by have:=HB0.out.size; omega))
    have HFP:Hid (FsP w1 g X F):=hf1
    clear hm1 hf1 hW0 hW1 c0 c1 c2 hs0
    go_wp2
    go_returns
    refine ⟨rfl,X,?_⟩
    have hb4:Below w1.heap.size w1 (w1.alloc (.cells #[.pointer none] 83)):=(Below.refl _ _).alloc (Nat.le_refl _) _
    exact (Bec.refl (HFP.out.on hb4)).pre (bel_to HB1.out hb4 (Nat.le_refl _))
end Go.Proofs.YtbgbmfmgdgalbaaGreatDoor
namespace Go.Proofs.YtbgbmfmgdgalbaaGreatDoor
open Go.RowKit Go.Maps
set_option linter.unusedVariables false
set_option linter.unusedSimpArgs false
theorem goDownC:GoDownC:=fun g X F v p w h hs hp hv=>goDown_any g X F v p w h hs hp hv
structure Po where
  k:Int
  n:ByteArray
  t:ByteArray
  d:ByteArray
  m:Int
  a:Int
  p:List Int
def doneM (F:Fs) (o:Po):Fs × Int:=
  if o.k=0 then createM F o.n else if o.k=1 then appendM F o.n o.d else if o.k=2 then syncM F o.n else if o.k=3 then renameM F o.n o.t else if o.k=4 then syncDirM F else if o.k=5 then removeM F o.n else if o.k=6 then failsM F o.m o.a else if o.k=7 then crashM F o.m o.p else if o.k=8 then startM F else (F,0)
end Go.Proofs.YtbgbmfmgdgalbaaGreatDoor
namespace Go.Proofs.YtbgbmfmgdgalbaaGreatDoor
open Go.RowKit Go.Maps
set_option linter.unusedVariables false
set_option linter.unusedSimpArgs false
structure Wk (w0 w:World) (g:Nat) (X:Gh) (F:Fs) (k:Nat):Prop where
  fs:FsP w g X F
  q:X.qs.length ≤ k
  bel:Below w0.heap.size w0 w
  own:∀ j,Own g F X j → w0.heap.size ≤ j
theorem Wk.step {w0 w w':World} {g:Nat} {X X':Gh} {F F':Fs} {k:Nat} (h:Wk w0 w g X F k) (hb:Bec w g X F w' X' F'):Wk w0 w' g X' F' (k + 1):=by
  refine ⟨hb.is,by have:=hb.len; have:=h.q; omega,h.bel.trans ⟨hb.md.os,hb.md.tape,hb.md.output,hb.md.size,fun j hj=>hb.md.oth j (Nat.lt_of_lt_of_le hj h.bel.size) (fun ho=>by have:=h.own j ho; omega)⟩,fun j hj=>?_⟩
  rcases hb.own j hj with h1 | h1
  · exact h.own j h1
  · exact Nat.le_trans h.bel.size h1
theorem Wk.on {w0 w w':World} {g:Nat} {X:Gh} {F:Fs} {k:Nat} (h:Wk w0 w g X F k) (hb:Below w.heap.size w w'):Wk w0 w' g X F k:=⟨h.fs.on hb,h.q,bel_to h.bel hb (Nat.le_refl _),h.own⟩
end Go.Proofs.YtbgbmfmgdgalbaaGreatDoor
namespace Go.Proofs.YtbgbmfmgdgalbaaGreatDoor
open Go.RowKit Go.Maps
set_option linter.unusedVariables false
set_option linter.unusedSimpArgs false
theorem NewW_any (w:World):Calls Tryz.prog 7 #[] w fun e w'=>∃ g X,e=.returned (.pointer (some ⟨g,0,none⟩))∧Wk w w' g X newM 3298534883328:=(New_any w).mono (fun e w' h=>by
  obtain ⟨g,X,rfl,hf,hsm,hb,hown⟩:=h
  exact ⟨g,X,rfl,hf,hsm.qs,hb,hown⟩)
theorem Wk.low {w0 w:World} {g:Nat} {X:Gh} {F:Fs} {k:Nat} (h:Wk w0 w g X F k) (hq:X.qs=[]):Wk w0 w g X F 0:=⟨h.fs,by rw [hq]; exact Nat.le_refl _,h.bel,h.own⟩
theorem Plans.new {qs:List Pq} (h:Plans newM qs) (hl:∀ q ∈ qs,∃ W,Holds W newM q):qs=[]:=by
  cases qs with
  | nil=>rfl
  | cons q l =>
    obtain ⟨W,hh⟩:=hl q (by simp)
    have ha:=h.ahead q (by simp)
    cases hc:q.c with
    | true=>have:=(hh.cr hc).1; have h0:newM.crash=0:=rfl; have h1:newM.steps=0:=rfl; omega
    | false=>obtain ⟨p,_,hf⟩:=hh.fl hc; simp [newM,failM] at hf
end Go.Proofs.YtbgbmfmgdgalbaaGreatDoor
namespace Go.Proofs.YtbgbmfmgdgalbaaGreatDoor
open Go.RowKit Go.Maps
set_option linter.unusedVariables false
set_option linter.unusedSimpArgs false
theorem ba_ne {a b:ByteArray} (h:a ≠ b):a.data.toList ≠ b.data.toList:=fun h2=>h (by
  cases a with | mk x=>cases b with | mk y=>exact congrArg _ (Array.toList_inj.1 h2))
end Go.Proofs.YtbgbmfmgdgalbaaGreatDoor
