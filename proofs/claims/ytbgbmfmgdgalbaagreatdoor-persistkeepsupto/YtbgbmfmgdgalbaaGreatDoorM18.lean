import Derived.Test.YtbgbmfmgdgalbaaGreatDoorM17
import Derived.Test.YtbgbmfmgdgalbaaGreatDoorM10
namespace Go.Proofs.YtbgbmfmgdgalbaaGreatDoor
open Go.RowKit Go.Maps
set_option linter.unusedVariables false
set_option linter.unusedSimpArgs false
theorem create_cases {F:Fs} {n:ByteArray}:(F.down=true → createM F n=(F,203))∧(F.down=false → namedM n=false → createM F n=(F,202))∧(F.down=false → namedM n=true → (findM F.dir n < 0∧64 ≤ F.dir.length) → createM F n=(F,3))∧(F.down=false → namedM n=true → ¬ (findM F.dir n < 0∧64 ≤ F.dir.length) → ((stepM F).2.1=0 → (stepM F).1=up1 F → createM F n=(changeM (addF (up1 F)) ⟨n,⟨#[]⟩,(F.files.length:Int)⟩,0))∧((stepM F).2.1 ≠ 0 → createM F n=((stepM F).1,(stepM F).2.1))):=by
  unfold createM
  refine ⟨fun h=>by rw [h]; rfl,fun h h1=>by rw [h,h1]; rfl,fun h h1 h2=>?_,fun h h1 h2=>⟨fun a b=>?_,fun a=>?_⟩⟩
  · rw [h,h1,if_pos h2]; rfl
  · rw [h,h1,if_neg h2]
    simp only [Bool.false_eq_true,if_false,if_true]
    rw [if_pos a,b]; rfl
  · rw [h,h1,if_neg h2]
    simp only [Bool.false_eq_true,if_false,if_true]
    rw [if_neg a]
set_option maxHeartbeats 4000000 in
set_option maxRecDepth 100000 in
theorem Create_any (HGD:GoDownC) (g:Nat) (X:Gh) (F:Fs) (n:ByteArray) (hn:n.size ≤ 140737488355328) (w:World) (h:FsP w g X F) (hs:Sm F X) (hs1:F.steps < 3298534883328) (hs2:F.files.length < 3298534883328) (hpk:F.picks.length ≤ 17592186044416) :
    Calls Tryz.prog 82 #[ptr (some g),.string n] w fun e w'=>e=.returned (.int .i64 (createM F n).2)∧∃ X',Bec w g X F w' X' (createM F n).1:=by
  obtain ⟨R,hR⟩:∃ R,w.heap.size=R:=⟨_,rfl⟩
  obtain ⟨n1,n2,n3,n4⟩:=two_new (w:=w) (.cells #[.pointer (some ⟨g,0,none⟩)] 25) (.cells #[.string n] 9)
  obtain ⟨W0,hW0⟩:∃ W0,(w.alloc (.cells #[.pointer (some ⟨g,0,none⟩)] 25)).alloc (.cells #[.string n] 9)=W0:=⟨_,rfl⟩
  rw [hW0] at n1 n2 n3 n4
  rw [hR] at n1 n2 n3
  obtain ⟨W1,hW1⟩:∃ W1,W0.alloc (.cells #[.string n] 9)=W1:=⟨_,rfl⟩
  have m4:Below W0.heap.size W0 W1:=by rw [← hW1]; exact (Below.refl _ _).alloc (Nat.le_refl _) _
  have m1:W1.heap[R + 2]?=some (.cells #[.string n] 9):=by rw [← hW1,← n3]; exact one_alloc _ _
  have hb1:Below w.heap.size w W1:=bel_to n4 m4 (Nat.le_refl _)
  have hF1:FsP W1 g X F:=h.on hb1
  have HCK:Hid _:=check_any g X F (.slice (some ⟨R + 2,0,none⟩) 1 1) [n] (by simp) (fun s hs=>by simp at hs; subst hs; exact hn) W1 hF1 (Or.inr ⟨R + 2,0,1,rfl,fun j u hu=>by
    have:(psE.fl [n])=[.string n]:=rfl
    rw [this] at hu
    rw [cell_of_row _ _ _ _ _ _ m1,Nat.zero_add]; simpa using hu⟩)
  have HB1:Hid (Below w.heap.size w W1):=hb1
  have HN1:Hid (W1.heap[R]?=some (.cells #[.pointer (some ⟨g,0,none⟩)] 25)):=keep_row n1 m4
  have HN2:Hid (W1.heap[R + 1]?=some (.cells #[.string n] 9)):=keep_row n2 m4
  have HF1:Hid (FsP W1 g X F):=hF1
  have HFS:Hid (∀ W,Below w.heap.size w W → FsP W g X F):=fun W hb=>h.on hb
  have c0:=cell1 n1
  have c1:=cell1 n2
  obtain ⟨k1,k2,k3,k4⟩:=create_cases (F:=F) (n:=n)
  have hck:chkM F [n]=if F.down then 203 else if namedM n then 0 else 202:=by unfold chkM; simp
  rw [hck] at HCK
  by_cases hg:F.down=false∧namedM n=true
  · obtain ⟨hd,hnm⟩:=hg
    rw [hd,hnm] at HCK
    obtain ⟨_,_,_,c3',_⟩:=hF1.cells
    have hlk:∀ m,(Instr.lookup 70 (.map (some X.mn)) (.string n) false).run Tryz.prog (W1.drewN m)=.ok (ptr (dirF F.dir X.fb n)) (W1.drewN m):=fun m=>(hF1.now_k.to (W':=W1.drewN m) rfl).look (by unfold maxLen; omega)
    have hln:∀ m ty,(Builtin.len_ #[70] ty #[.map (some X.mn)]).run Tryz.prog (W1.drewN m)=.ok (.int .i64 (F.dir.length:Int)) (W1.drewN m):=fun m ty=>(hF1.now_k.to (W':=W1.drewN m) rfl).len ty
    have d0:=cell1 HN1.out
    have d1:=cell1 HN2.out
    by_cases hfull:findM F.dir n < 0∧64 ≤ F.dir.length
    · rw [k3 hd hnm hfull]
      have e1:dirF F.dir X.fb n=none:=if_pos hfull.1
      rw [e1] at hlk
      have hge:(64:Int) ≤ (F.dir.length:Int):=by omega
      obtain ⟨dl,hdl⟩:∃ dl,F.dir.length=dl:=⟨_,rfl⟩
      rw [hdl] at hge hln
      clear h hs hs1 hs2 hpk hd hnm hfull k1 k2 k3 k4 hck n1 n2 n4 m4 m1 hb1 hF1 e1 hdl
      unfold ptr at HCK hlk ⊢
      go_enter Tryz.func82,Tryz.ntmps82
      go_wp2_with fail
      refine (show Calls _ _ _ _ _ from HCK.out).mono ?_
      rintro e w1 ⟨rfl,rfl⟩
      clear hW0 hW1 c0 c1
      go_upto_region 4 with fail
      go_quiet (fail)
      have hbq:Below w.heap.size w (w1.drewN nq):=below_dn HB1.out _
      go_wp2
      go_returns
      exact ⟨rfl,X,(Bec.refl (HFS.out _ hbq)).pre hbq⟩
    · by_cases hf:findM F.dir n < 0
      · have hlt:¬ (64:Int) ≤ (F.dir.length:Int):=fun h9=>hfull ⟨hf,by omega⟩
        have e1:dirF F.dir X.fb n=none:=if_pos hf
        rw [e1] at hlk
        have HST:Hid (∀ W,Below w.heap.size w W → W.heap[R]?=some (.cells #[ptr (some g)] 25) → W.heap[R + 1]?=some (.cells #[.string n] 9) → Calls Tryz.prog 110 #[ptr (some g),.func (.func 124) #[] #[.pointer (some ⟨R,0,none⟩),.pointer (some ⟨R + 1,0,none⟩)]] W fun e w'=>StepP g X F W (CrP g X (up1 F) n) (fun _ w1 _ w'=>w'=w1) e w'):=fun W hb r1 r2=>step_any HGD g X F 124 eM_create #[] _ _ W (h.on hb) hs hs1 hpk (fun w1 hm hF=>by
          have hgR:g < R:=by rw [← hR]; exact row_lt h.blk
          have hno:∀ k,R ≤ k → ¬ Own g (up1 F) X k:=fun k hk ho=>by have:=h.own_lt (show Own g F X k from ho); omega
          exact Create1_any g R (R + 1) _ _ X (up1 F) n w1 hF ⟨by show F.steps + 1 ≤ _; omega,hs.fi,hs.ch,hs.qs⟩ hs2 hnm hfull (hm.fresh h r1 (by omega)) (hm.fresh h r2 (by omega)) ⟨by omega,by omega,hno R (by omega),hno (R + 1) (by omega)⟩)
        have HFN:Hid (∀ W w' e,Below w.heap.size w W → StepP g X F W (CrP g X (up1 F) n) (fun _ w1 _ w'=>w'=w1) e w' → e=.returned (.int .i64 (createM F n).2)∧∃ X',Bec w g X F w' X' (createM F n).1):=fun W w' e hb hp=>by
          refine hp.fin hb (createM F n) (fun a b=>?_) (fun a=>(k4 hd hnm hfull).2 a)
          rw [(k4 hd hnm hfull).1 a b]
          refine ⟨rfl,fun w1 hm hF hpd=>?_⟩
          obtain ⟨X',hB⟩:=hpd
          exact ⟨X',hB.is,hm.andThen hB.md (fun j _ hj=>hj),fun k hk=>(hB.own k hk).imp id (fun q=>Nat.le_trans hm.size q),hB.len,fun q hq=>(hB.nq q hq).imp id (fun h6=>h6.le hm.size)⟩

        obtain ⟨dl,hdl⟩:∃ dl,F.dir.length=dl:=⟨_,rfl⟩
        rw [hdl] at hlt hln
        clear h hs hs1 hs2 hpk hd hnm hfull hf k1 k2 k3 k4 hck n1 n2 n4 m4 m1 hb1 hF1 e1 hdl
        unfold ptr at HCK HST hlk ⊢
        go_enter Tryz.func82,Tryz.ntmps82
        go_wp2_with fail
        refine (show Calls _ _ _ _ _ from HCK.out).mono ?_
        rintro e w1 ⟨rfl,rfl⟩
        clear hW0 hW1 c0 c1
        go_upto_region 4 with fail
        go_quiet (fail)
        obtain ⟨W3,hW3⟩:∃ W3,w1.drewN nq=W3:=⟨_,rfl⟩
        have HB3:Hid (Below w.heap.size w W3):=by
          show Below _ _ _
          rw [← hW3]; exact below_dn HB1.out _
        have r1:W3.heap[R]?=some (.cells #[.pointer (some ⟨g,0,none⟩)] 25):=by rw [← hW3]; exact HN1.out
        have r2:W3.heap[R + 1]?=some (.cells #[.string n] 9):=by rw [← hW3]; exact HN2.out
        have HS3:Hid _:=HST.out W3 HB3.out r1 r2
        have x0:=cell1 r1
        rw [hW3]
        clear hW3 d0 d1 c3' hlk hln r1 r2
        go_wp2_with fail
        refine (show Calls _ _ _ _ _ from HS3.out).mono ?_
        rintro e w4 hp
        obtain ⟨he,hB⟩:=HFN.out W3 w4 e HB3.out hp
        have HBB:Hid _:=hB
        subst he
        clear hp hB
        go_wp2
        go_returns
        exact ⟨rfl,HBB.out⟩

      · have e1:dirF F.dir X.fb n=some (X.fb (findM F.dir n).toNat):=if_neg hf
        rw [e1] at hlk
        have HST:Hid (∀ W,Below w.heap.size w W → W.heap[R]?=some (.cells #[ptr (some g)] 25) → W.heap[R + 1]?=some (.cells #[.string n] 9) → Calls Tryz.prog 110 #[ptr (some g),.func (.func 124) #[] #[.pointer (some ⟨R,0,none⟩),.pointer (some ⟨R + 1,0,none⟩)]] W fun e w'=>StepP g X F W (CrP g X (up1 F) n) (fun _ w1 _ w'=>w'=w1) e w'):=fun W hb r1 r2=>step_any HGD g X F 124 eM_create #[] _ _ W (h.on hb) hs hs1 hpk (fun w1 hm hF=>by
          have hgR:g < R:=by rw [← hR]; exact row_lt h.blk
          have hno:∀ k,R ≤ k → ¬ Own g (up1 F) X k:=fun k hk ho=>by have:=h.own_lt (show Own g F X k from ho); omega
          exact Create1_any g R (R + 1) _ _ X (up1 F) n w1 hF ⟨by show F.steps + 1 ≤ _; omega,hs.fi,hs.ch,hs.qs⟩ hs2 hnm hfull (hm.fresh h r1 (by omega)) (hm.fresh h r2 (by omega)) ⟨by omega,by omega,hno R (by omega),hno (R + 1) (by omega)⟩)
        have HFN:Hid (∀ W w' e,Below w.heap.size w W → StepP g X F W (CrP g X (up1 F) n) (fun _ w1 _ w'=>w'=w1) e w' → e=.returned (.int .i64 (createM F n).2)∧∃ X',Bec w g X F w' X' (createM F n).1):=fun W w' e hb hp=>by
          refine hp.fin hb (createM F n) (fun a b=>?_) (fun a=>(k4 hd hnm hfull).2 a)
          rw [(k4 hd hnm hfull).1 a b]
          refine ⟨rfl,fun w1 hm hF hpd=>?_⟩
          obtain ⟨X',hB⟩:=hpd
          exact ⟨X',hB.is,hm.andThen hB.md (fun j _ hj=>hj),fun k hk=>(hB.own k hk).imp id (fun q=>Nat.le_trans hm.size q),hB.len,fun q hq=>(hB.nq q hq).imp id (fun h6=>h6.le hm.size)⟩

        generalize X.fb (findM F.dir n).toNat=bb at hlk
        clear h hs hs1 hs2 hpk hd hnm hfull hf k1 k2 k3 k4 hck n1 n2 n4 m4 m1 hb1 hF1 e1
        unfold ptr at HCK HST hlk ⊢
        go_enter Tryz.func82,Tryz.ntmps82
        go_wp2_with fail
        refine (show Calls _ _ _ _ _ from HCK.out).mono ?_
        rintro e w1 ⟨rfl,rfl⟩
        clear hW0 hW1 c0 c1
        go_upto_region 4 with fail
        go_quiet (fail)
        obtain ⟨W3,hW3⟩:∃ W3,w1.drewN nq=W3:=⟨_,rfl⟩
        have HB3:Hid (Below w.heap.size w W3):=by
          show Below _ _ _
          rw [← hW3]; exact below_dn HB1.out _
        have r1:W3.heap[R]?=some (.cells #[.pointer (some ⟨g,0,none⟩)] 25):=by rw [← hW3]; exact HN1.out
        have r2:W3.heap[R + 1]?=some (.cells #[.string n] 9):=by rw [← hW3]; exact HN2.out
        have HS3:Hid _:=HST.out W3 HB3.out r1 r2
        have x0:=cell1 r1
        rw [hW3]
        clear hW3 d0 d1 c3' hlk hln r1 r2
        go_wp2_with fail
        refine (show Calls _ _ _ _ _ from HS3.out).mono ?_
        rintro e w4 hp
        obtain ⟨he,hB⟩:=HFN.out W3 w4 e HB3.out hp
        have HBB:Hid _:=hB
        subst he
        clear hp hB
        go_wp2
        go_returns
        exact ⟨rfl,HBB.out⟩

  · have hM:createM F n=(F,if F.down then 203 else if namedM n then 0 else 202)∧(if F.down then (203:Int) else if namedM n then 0 else 202) ≠ 0:=by
      rcases hd:F.down with _ | _
      · rcases hnm:namedM n with _ | _
        · rw [k2 hd hnm]; exact ⟨rfl,by decide⟩
        · exact absurd ⟨hd,hnm⟩ hg
      · rw [k1 hd]; exact ⟨rfl,by simp⟩
    obtain ⟨er,her⟩:∃ er:Int,(if F.down then (203:Int) else if namedM n then 0 else 202)=er:=⟨_,rfl⟩
    rw [her] at hM HCK
    rw [hM.1]
    have hne:(er == 0)=false:=by simpa using hM.2
    clear h hs hs1 hs2 hpk hg k1 k2 k3 k4 hck n1 n2 n4 m4 m1 hb1 hF1 her hM
    unfold ptr at HCK ⊢
    go_enter Tryz.func82,Tryz.ntmps82
    go_wp2_with fail
    refine (show Calls _ _ _ _ _ from HCK.out).mono ?_
    rintro e w1 ⟨rfl,rfl⟩
    clear hW0 hW1 c0 c1
    go_wp2
    go_returns
    exact ⟨rfl,X,(Bec.refl HF1.out).pre HB1.out⟩
end Go.Proofs.YtbgbmfmgdgalbaaGreatDoor
namespace Go.Proofs.YtbgbmfmgdgalbaaGreatDoor
open Go.RowKit Go.Maps
set_option linter.unusedVariables false
set_option linter.unusedSimpArgs false
theorem eM_app1 (args:Array Value) (w:World):(callFunc 126 args).run Tryz.prog w=.ok (.enter 126 args) w:=by kernel_rfl
theorem eM_app2 (args:Array Value) (w:World):(callFunc 128 args).run Tryz.prog w=.ok (.enter 128 args) w:=by kernel_rfl
set_option maxHeartbeats 1000000 in
theorem Append1_any (b0 b1 T0 T1 fbk i:Nat) (x:Fi) (pv:Value) (ps:List ByteArray) (dat:ByteArray) (w:World) (h0:w.heap[b0]?=some (.cells #[ptr (some fbk)] T0)) (h1:w.heap[b1]?=some (.cells #[.string dat] T1)) (hf:FileAt w fbk i x pv ps) (hd:x.d.size + dat.size ≤ 1073741824) :
    Calls Tryz.prog 126 #[.pointer (some ⟨b0,0,none⟩),.pointer (some ⟨b1,0,none⟩)] w fun e w'=>e=.returned (.tuple #[])∧Lyd w fbk i ⟨x.d ++ dat,x.s⟩ pv w':=by
  have c0:=cell1 h0
  have c1:=cell1 h1
  have HC:Hid _:=lay_any fbk i x pv ps dat w hf hd
  clear h0 h1 hf hd
  unfold ptr at c0 HC
  go_enter Tryz.func126,Tryz.ntmps126
  go_wp2_with fail
  refine (show Calls _ _ _ _ _ from HC.out).mono ?_
  rintro e w1 ⟨rfl,hp⟩
  have HP:Hid _:=hp
  clear hp
  go_wp2
  go_end0
  exact ⟨rfl,HP.out⟩
def clampP (p:Int) (n:Nat):Nat:=(max 0 (min p (n:Int))).toNat
set_option maxHeartbeats 2000000 in
set_option maxRecDepth 100000 in
theorem Append2_any (b0 b1 T0 T1 fbk i:Nat) (x:Fi) (pv:Value) (ps:List ByteArray) (dat:ByteArray) (p:Int) (w:World) (h0:w.heap[b0]?=some (.cells #[ptr (some fbk)] T0)) (h1:w.heap[b1]?=some (.cells #[.string dat] T1)) (hf:FileAt w fbk i x pv ps) (hd:x.d.size + dat.size ≤ 1073741824) (hne:b0 ≠ fbk∧b1 ≠ fbk∧pv.ownBlock ≠ some b0∧pv.ownBlock ≠ some b1) :
    Calls Tryz.prog 128 #[.int .i64 p,.pointer (some ⟨b0,0,none⟩),.pointer (some ⟨b1,0,none⟩)] w fun e w'=>e=.returned (.tuple #[])∧Lyd w fbk i ⟨x.d ++ dat.extract 0 (clampP p dat.size),x.s⟩ pv w':=by
  have c0:w.drew.cell? ⟨b0,0,none⟩=some (.pointer (some ⟨fbk,0,none⟩)):=cell1 h0
  have c1:w.drew.cell? ⟨b1,0,none⟩=some (.string dat):=cell1 h1
  obtain ⟨q,hq⟩:∃ q,clampP p dat.size=q:=⟨_,rfl⟩
  have hqs:q ≤ dat.size:=by rw [← hq]; unfold clampP; omega
  have hmm:min (max p 0) (dat.size:Int)=(q:Int):=by rw [← hq]; unfold clampP; omega
  have HC:Hid (∀ m,Calls Tryz.prog 127 #[ptr (some fbk),.string (dat.extract 0 q)] (w.drewN m) fun e w'=>e=.returned (.tuple #[])∧Lyd (w.drewN m) fbk i ⟨x.d ++ dat.extract 0 q,x.s⟩ pv w'):=fun m=>lay_any fbk i x pv ps (dat.extract 0 q) (w.drewN m) (hf.to rfl (fun k hk=>rfl)) (by rw [ext_size _ _ _ hqs]; omega)
  rw [hq]
  obtain ⟨mx,hmx⟩:∃ mx,max p 0=mx:=⟨_,rfl⟩
  rw [hmx] at hmm
  have H0:Hid (w.heap[b0]?=some (.cells #[ptr (some fbk)] T0)):=h0
  have H1:Hid (w.heap[b1]?=some (.cells #[.string dat] T1)):=h1
  have HNE:Hid (b0 ≠ fbk∧b1 ≠ fbk∧pv.ownBlock ≠ some b0∧pv.ownBlock ≠ some b1):=hne
  clear h0 h1 hf hd hq hne
  unfold ptr at HC
  go_enter Tryz.func128,Tryz.ntmps128
  go_wp2_with fail
  go_region_held3 (fun W:World=>W.cell? ⟨b0,0,none⟩=some (.pointer (some ⟨fbk,0,none⟩))∧W.cell? ⟨b1,0,none⟩=some (.string dat))
    (first | with_reducible exact ⟨c0,c1⟩ | with_reducible exact ⟨q0,q1⟩)
    (first | (go_at_call 127; refine (show Calls _ _ _ _ _ from HC.out 1).mono ?_; rintro e w1 ⟨rfl,hp⟩; have HP:Hid (Lyd (w.drewN 1) fbk i ⟨x.d ++ dat.extract 0 q,x.s⟩ pv w1):=hp; obtain ⟨pv',ps',hF',hM',hL'⟩:=hp; have q0:w1.cell? ⟨b0,0,none⟩=some (.pointer (some ⟨fbk,0,none⟩)):=cell1 (hM'.row (k:=b0) H0.out (by have:=HNE.out; simp [this.1,this.2.2.1])); have q1:w1.cell? ⟨b1,0,none⟩=some (.string dat):=cell1 (hM'.row (k:=b1) H1.out (by have:=HNE.out; simp [this.2.1,this.2.2.2]))))
  go_end0
  obtain ⟨pv2,ps2,f2,m2,l2⟩:=HP.out
  exact ⟨rfl,pv2,ps2,f2,⟨m2.os,m2.tape,m2.output,m2.size,m2.oth⟩,l2⟩
theorem app_fin {F:Fs} {n dat:ByteArray} {i:Nat} (h0:hasM F n=0) (hi:(findM F.dir n).toNat=i) (hl:¬ 1073741824 < (F.files.getD i ⟨⟨#[]⟩,0⟩).d.size + dat.size):((stepM F).2.1=0 → (stepM F).1=up1 F → appendM F n dat=({ up1 F with files:=F.files.set i ⟨(F.files.getD i ⟨⟨#[]⟩,0⟩).d ++ dat,(F.files.getD i ⟨⟨#[]⟩,0⟩).s⟩ },0))∧((stepM F).2.1=200 → (stepM F).1=up1 F → appendM F n dat=({ up1 F with files:=F.files.set i ⟨(F.files.getD i ⟨⟨#[]⟩,0⟩).d ++ dat.extract 0 (clampP (stepM F).2.2 dat.size),(F.files.getD i ⟨⟨#[]⟩,0⟩).s⟩ },200))∧((stepM F).2.1=203 → appendM F n dat=((stepM F).1,203)):=by
  unfold appendM
  rw [if_pos h0,hi]
  simp only []
  rw [if_neg hl]
  refine ⟨fun a b=>?_,fun a b=>?_,fun a=>?_⟩
  · rw [if_neg (by omega),if_neg (by omega),b,a]; rfl
  · rw [if_neg (by omega),if_pos a,b,a]; rfl
  · rw [if_pos a]
set_option maxHeartbeats 2000000 in
set_option maxRecDepth 100000 in
theorem Append_any (HGD:GoDownC) (g:Nat) (X:Gh) (F:Fs) (n dat:ByteArray) (hn:n.size ≤ 140737488355328) (hdt:dat.size ≤ 140737488355328) (w:World) (h:FsP w g X F) (hs:Sm F X) (hs1:F.steps < 3298534883328) (hpk:F.picks.length ≤ 17592186044416) :
    Calls Tryz.prog 83 #[ptr (some g),.string n,.string dat] w fun e w'=>e=.returned (.int .i64 (appendM F n dat).2)∧∃ X',Bec w g X F w' X' (appendM F n dat).1:=by
  obtain ⟨R,hR⟩:∃ R,w.heap.size=R:=⟨_,rfl⟩
  obtain ⟨W0,hW0⟩:∃ W0,w.alloc (.cells #[.string dat] 9)=W0:=⟨_,rfl⟩
  have n1:W0.heap[R]?=some (.cells #[.string dat] 9):=by rw [← hW0,← hR]; exact one_alloc _ _
  have n4:Below w.heap.size w W0:=by rw [← hW0]; exact (Below.refl _ _).alloc (Nat.le_refl _) _
  have hF0:FsP W0 g X F:=h.on n4
  have HFI:Hid _:=find0_any g X F n hn W0 hF0
  have HB0:Hid (Below w.heap.size w W0):=n4
  have HN1:Hid (W0.heap[R]?=some (.cells #[.string dat] 9)):=n1
  have HRR:Hid (w.heap.size=R):=hR
  by_cases h0:hasM F n=0
  · obtain ⟨hd,hnm,hf⟩:=has_zero.1 h0
    obtain ⟨i,hi1,hi2,hi3,hl⟩:=h.named hf
    have hy:=fnd_yes (X:=X) (os:=[]) hd (by simpa using hnm) hf
    rw [hy,h0,hi2] at HFI
    obtain ⟨x,hxx⟩:∃ x,F.files.getD i ⟨⟨#[]⟩,0⟩=x:=⟨_,rfl⟩
    have hxb:x.d.size ≤ 1073741824:=by rw [← hxx]; exact (h.file hl).big
    have HFL:Hid (∀ W,Below w.heap.size w W → FileAt W (X.fb i) i x (X.pv i) (X.ps i)):=fun W hb=>by rw [← hxx]; exact (h.on hb).file hl
    have hfbR:X.fb i < R:=by rw [← hR]; exact h.own_lt (own_file hl)
    have hpvR:∀ k,(X.pv i).ownBlock=some k → k < R:=fun k hk=>by rw [← hR]; exact h.own_lt (Or.inr (Or.inr (Or.inr (Or.inl ⟨i,hl,Or.inr hk⟩))))
    have HFS:Hid (∀ W,Below w.heap.size w W → FsP W g X F):=fun W hb=>h.on hb
    by_cases hlong:1073741824 < x.d.size + dat.size
    · have hM:appendM F n dat=(F,2):=by
        unfold appendM
        rw [if_pos h0]
        simp only []
        rw [hi2,hxx,if_pos hlong]
      rw [hM]
      obtain ⟨sz,hsz⟩:∃ sz,x.d.size=sz:=⟨_,rfl⟩
      rw [hsz] at hlong hxb
      have hw1:IntKind.i64.wrap ((1073741824:Int) - (sz:Int))=((1073741824 - sz:Nat):Int):=by rw [IntKind.wrap_i64] <;> omega
      have hgt:((1073741824 - sz:Nat):Int) < (dat.size:Int):=by omega
      have HSZ:Hid (x.d.size=sz):=hsz
      obtain ⟨bb,hbb⟩:∃ bb,X.fb i=bb:=⟨_,rfl⟩
      rw [hbb] at HFI HFL
      clear h hs hs1 hpk hd hnm hf hi1 hi2 hi3 hl hy h0 n1 n4 hF0 hM hsz hxx hbb hfbR hpvR
      unfold ptr at HFI ⊢
      go_enter Tryz.func83,Tryz.ntmps83
      go_wp2_with fail
      refine (show Calls _ _ _ _ _ from HFI.out).mono ?_
      rintro e w1 ⟨rfl,hb1⟩
      have HB1:Hid (Below w.heap.size w w1):=bel_to HB0.out hb1 (Nat.le_refl _)
      have r1:=keep_row HN1.out hb1
      obtain ⟨W2,hW2⟩:∃ W2,w1.alloc (.cells #[.pointer (some ⟨bb,0,none⟩)] 83)=W2:=⟨_,rfl⟩
      obtain ⟨b,hb⟩:∃ b,w1.heap.size=b:=⟨_,rfl⟩
      have hb2:Below w1.heap.size w1 W2:=by rw [← hW2]; exact (Below.refl _ _).alloc (Nat.le_refl _) _
      have r3:W2.heap[b]?=some (.cells #[.pointer (some ⟨bb,0,none⟩)] 83):=by rw [← hW2,← hb]; exact one_alloc _ _
      have HB2:Hid (Below w.heap.size w W2):=bel_to HB1.out hb2 (Nat.le_refl _)
      have d0:=cell1 (keep_row r1 hb2)
      have d1:=cell1 r3
      obtain ⟨_,_,d2,_,_⟩:=file_cells (HFL.out W2 HB2.out).blk
      rw [HSZ.out] at d2
      clear hb1 r1 r3 hb2 hW0
      go_upto_region 4 with fail
      go_quiet (fail)
      go_wp2
      go_returns
      have hbq:Below w.heap.size w (W2.drewN nq):=below_dn HB2.out _
      exact ⟨rfl,X,(Bec.refl (HFS.out _ hbq)).pre hbq⟩
    · obtain ⟨f1,f2,f3⟩:=app_fin (dat:=dat) h0 hi2 (by rw [hxx]; exact hlong)
      have HST:Hid (∀ W b,Below w.heap.size w W → W.heap[R]?=some (.cells #[.string dat] 9) → R ≤ b → W.heap[b]?=some (.cells #[ptr (some (X.fb i))] 83) → Calls Tryz.prog 125 #[ptr (some g),.func (.func 126) #[] #[.pointer (some ⟨b,0,none⟩),.pointer (some ⟨R,0,none⟩)],.func (.func 128) #[] #[.pointer (some ⟨b,0,none⟩),.pointer (some ⟨R,0,none⟩)]] W fun e w'=>StepP g X F W (fun w1 w'=>Lyd w1 (X.fb i) i ⟨x.d ++ dat,x.s⟩ (X.pv i) w') (fun X1 w1 p w'=>Lyd w1 (X.fb i) i ⟨x.d ++ dat.extract 0 (clampP p dat.size),x.s⟩ (X.pv i) w') e w'):=fun W b hb r1 rb r3=>stepOrPart_any HGD g X F 126 eM_app1 #[] _ 128 eM_app2 #[] _ _ _ W (h.on hb) hs hs1 hpk (fun w1 hm hF=>by
          have hfl:=hF.file hl
          have e:(up1 F).files.getD i ⟨⟨#[]⟩,0⟩=x:=hxx
          rw [e] at hfl
          exact Append1_any b R _ _ (X.fb i) i x _ _ dat w1 (hm.fresh h r3 (by omega)) (hm.fresh h r1 (by omega)) hfl (by omega)) (fun w1 qv qs p hB=>by
          have hfl:=hB.is.file (i:=i) hl
          have e:(up1 F).files.getD i ⟨⟨#[]⟩,0⟩=x:=hxx
          rw [e] at hfl
          exact Append2_any b R _ _ (X.fb i) i x _ _ dat p w1 (hB.md.fresh h r3 (by omega)) (hB.md.fresh h r1 (by omega)) hfl (by omega) ⟨by omega,by omega,fun e1=>by have:=hpvR b e1; omega,fun e1=>by have:=hpvR R e1; omega⟩)
      have HFN:Hid (∀ W w' e,Below w.heap.size w W → StepP g X F W (fun w1 w'=>Lyd w1 (X.fb i) i ⟨x.d ++ dat,x.s⟩ (X.pv i) w') (fun X1 w1 p w'=>Lyd w1 (X.fb i) i ⟨x.d ++ dat.extract 0 (clampP p dat.size),x.s⟩ (X.pv i) w') e w' → e=.returned (.int .i64 (appendM F n dat).2)∧∃ X',Bec w g X F w' X' (appendM F n dat).1):=fun W w' e hb hp=>by
        rw [hxx] at f1 f2
        obtain ⟨he,hc⟩:=hp
        rcases hc with ⟨a,b,w1,c,d,pv',ps',q1,q2,q3⟩ | ⟨a,b,w1,qv,qs,c,pv',ps',q1,q2,q3⟩ | ⟨a,X',c⟩
        · rw [f1 a b,he,a]
          have hB:=d.file_set hl q1 q2 q3
          refine ⟨rfl,_,(Bec.pre (W:=W) hb ⟨hB.is,c.andThen hB.md (fun j _ hj=>hj),fun k hk=>(hB.own k hk).imp id (fun q=>Nat.le_trans c.size q),hB.len,fun q hq=>(hB.nq q hq).imp id (fun h6=>h6.le c.size)⟩)⟩
        · rw [f2 a b,he,a]
          have hB:=c.is.file_set (i:=i) hl q1 q2 q3
          refine ⟨rfl,_,(Bec.pre (W:=W) hb ⟨hB.is,c.md.andThen hB.md (fun j hj hk=>?_),fun k hk=>?_,?_,fun q hq=>?_⟩)⟩
          · rcases c.own j hk with h1 | h1
            · exact h1
            · omega
          · rcases hB.own k hk with h1 | h1
            · exact c.own k h1
            · exact Or.inr (Nat.le_trans c.md.size h1)
          · exact c.len
          · rcases hB.nq q hq with h6 | h6
            · exact (c.nq q h6).imp id (fun h7=>h7.mod c.is.toFsC hB.md)
            · exact Or.inr (h6.le c.md.size)
        · rw [f3 a,he,a]
          exact ⟨rfl,X',c.pre hb⟩
      obtain ⟨sz,hsz⟩:∃ sz,x.d.size=sz:=⟨_,rfl⟩
      rw [hsz] at hlong hxb
      have hw1:IntKind.i64.wrap ((1073741824:Int) - (sz:Int))=((1073741824 - sz:Nat):Int):=by rw [IntKind.wrap_i64] <;> omega
      have hgt:¬ ((1073741824 - sz:Nat):Int) < (dat.size:Int):=by omega
      have HSZ:Hid (x.d.size=sz):=hsz
      obtain ⟨bb,hbb⟩:∃ bb,X.fb i=bb:=⟨_,rfl⟩
      rw [hbb] at HFI HFL HST HFN
      clear h hs hs1 hpk hd hnm hf hi1 hi2 hi3 hl hy h0 n1 n4 hF0 hsz hxx hbb hfbR hpvR f1 f2 f3
      unfold ptr at HFI HST ⊢
      go_enter Tryz.func83,Tryz.ntmps83
      go_wp2_with fail
      refine (show Calls _ _ _ _ _ from HFI.out).mono ?_
      rintro e w1 ⟨rfl,hb1⟩
      have HB1:Hid (Below w.heap.size w w1):=bel_to HB0.out hb1 (Nat.le_refl _)
      have r1:=keep_row HN1.out hb1
      obtain ⟨W2,hW2⟩:∃ W2,w1.alloc (.cells #[.pointer (some ⟨bb,0,none⟩)] 83)=W2:=⟨_,rfl⟩
      obtain ⟨b,hb⟩:∃ b,w1.heap.size=b:=⟨_,rfl⟩
      have hb2:Below w1.heap.size w1 W2:=by rw [← hW2]; exact (Below.refl _ _).alloc (Nat.le_refl _) _
      have r3:W2.heap[b]?=some (.cells #[.pointer (some ⟨bb,0,none⟩)] 83):=by rw [← hW2,← hb]; exact one_alloc _ _
      have HB2:Hid (Below w.heap.size w W2):=bel_to HB1.out hb2 (Nat.le_refl _)
      have HR1:Hid (W2.heap[R]?=some (.cells #[.string dat] 9)):=keep_row r1 hb2
      have HR3:Hid (W2.heap[b]?=some (.cells #[.pointer (some ⟨bb,0,none⟩)] 83)):=r3
      have HBL:Hid (R ≤ b):=by have:=HB1.out.size; have:=HRR.out; show R ≤ b; omega
      have d0:=cell1 (keep_row r1 hb2)
      have d1:=cell1 r3
      obtain ⟨_,_,d2,_,_⟩:=file_cells (HFL.out W2 HB2.out).blk
      rw [HSZ.out] at d2
      clear hb1 r1 r3 hb2 hW0
      go_upto_region 4 with fail
      go_quiet (fail)
      obtain ⟨W3,hW3⟩:∃ W3,W2.drewN nq=W3:=⟨_,rfl⟩
      have HB3:Hid (Below w.heap.size w W3):=by
        show Below _ _ _
        rw [← hW3]; exact below_dn HB2.out _
      have HS3:Hid _:=HST.out W3 b HB3.out (by rw [← hW3]; exact HR1.out) HBL.out (by rw [← hW3]; exact HR3.out)
      rw [hW3]
      clear hW3 d0 d1 d2
      go_wp2_with fail
      refine (show Calls _ _ _ _ _ from HS3.out).mono ?_
      rintro e w4 hp
      obtain ⟨he,hB⟩:=HFN.out W3 w4 e HB3.out hp
      have HBB:Hid _:=hB
      subst he
      clear hp hB
      go_wp2
      go_returns
      exact ⟨rfl,HBB.out⟩
  · have hno:=fnd_no (F:=F) (X:=X) (n:=n) (os:=[]) (fun hh=>h0 (has_zero.2 ⟨hh.1,by simpa using hh.2.1,hh.2.2⟩))
    rw [hno.1] at HFI
    have hM:appendM F n dat=(F,hasM F n):=by unfold appendM; rw [if_neg h0]
    rw [hM]
    have HFP:Hid (FsP W0 g X F):=hF0
    obtain ⟨er,her⟩:∃ er,hasM F n=er:=⟨_,rfl⟩
    rw [her] at HFI h0 ⊢
    have hne:(er == 0)=false:=by simpa using h0
    clear h hs hs1 hpk hno hM her n1 n4 hF0
    unfold ptr at HFI ⊢
    go_enter Tryz.func83,Tryz.ntmps83
    go_wp2_with fail
    refine (show Calls _ _ _ _ _ from HFI.out).mono ?_
    rintro e w1 ⟨rfl,hb1⟩
    have HB1:Hid (Below W0.heap.size W0 w1):=hb1
    clear hb1 hW0
    go_wp2
    go_returns
    refine ⟨rfl,X,?_⟩
    have hb4:Below w1.heap.size w1 (w1.alloc (.cells #[.pointer none] 83)):=(Below.refl _ _).alloc (Nat.le_refl _) _
    exact (Bec.refl ((HFP.out.on HB1.out).on hb4)).pre (bel_to (bel_to HB0.out HB1.out (Nat.le_refl _)) hb4 (Nat.le_refl _))
end Go.Proofs.YtbgbmfmgdgalbaaGreatDoor
