import Derived.Test.YtbgbmfmgdgalbaaGreatDoorM13
import Derived.Test.YtbgbmfmgdgalbaaGreatDoorM15
import Derived.Test.YtbgbmfmgdgalbaaGreatDoorShD
import Derived.Test.YtbgbmfmgdgalbaaGreatDoorM09
namespace Go.Proofs.YtbgbmfmgdgalbaaGreatDoor
open Go.RowKit Go.Maps
set_option linter.unusedVariables false
set_option linter.unusedSimpArgs false
theorem pin_fl (p:List Int):pinE.fl p=p.map (Value.int .i64):=by
  unfold ET.fl
  induction p with
  | nil=>rfl
  | cons x p ih=>rw [List.flatMap_cons,ih]; rfl
theorem own_zero {w:World} {b e k n:Nat} {v:Value} {xs:List Value} (h:w.ownsRow b e k v n xs):w.ownsRow 0 e k v n xs:=by
  obtain ⟨h0,h1 | ⟨g,cap,cur,h1,hb,r⟩⟩:=h
  · exact ⟨h0,Or.inl h1⟩
  · exact ⟨h0,Or.inr ⟨g,cap,cur,h1,Nat.zero_le _,r⟩⟩
theorem cloneI_any (v:Value) (p:List Int) (hp:p.length ≤ 17592186044416) (w:World) (h:KR pinE w v p) :
    Calls Tryz.prog 42 #[v] w fun e w'=>∃ v',e=.returned v'∧w'.ownsRow w.heap.size 3 1 v' p.length (pinE.fl p)∧Below w.heap.size w w':=by
  rw [pin_fl]
  rcases h with ⟨rfl,a,c,rfl,_⟩ | ⟨g,o,c,rfl,hc⟩
  · cases a with
    | none=>exact (Tryz.slices_Clone_int_nil 0 c w).mono (fun e w' h=>⟨_,h.1,⟨rfl,Or.inl ⟨rfl,rfl⟩⟩,by rw [h.2]; exact Below.refl _ _⟩)
    | some a=>exact (Tryz.slices_Clone_int_zero a c w).mono (fun e w' h=>by obtain ⟨v',h1,h2,_,h4⟩:=h; exact ⟨v',h1,h2,h4⟩)
  · refine (Tryz.slices_Clone_int g o p.length c p w (Nat.le_refl _) (by omega) (fun j hj=>?_)).mono (fun e w' h=>?_)
    · refine hc j _ ?_
      rw [pin_fl,List.getElem?_map,List.getElem?_eq_getElem hj]
      simp [List.getD,List.getElem?_eq_getElem hj]
    · obtain ⟨v',h1,h2,_,h4⟩:=h
      rw [List.take_length] at h2
      exact ⟨v',h1,h2,h4⟩
theorem Plans.crash {F:Fs} {qs qs':List Pq} {q0:Pq} {p:List Int} (h:Plans F qs) (hl:LayF (qs.filter okQ) q0 qs') (hc:q0.c=true) (hs:F.steps < q0.s):Plans { F with crash:=(q0.s:Int),picks:=p } qs':=by
  refine ⟨hl.srt,fun q hq=>?_,fun n r hn hf=>?_,fun n hn hf=>?_⟩
  · rcases hl.new q hq with rfl | ⟨hq,_⟩
    · exact hs
    · exact h.ahead q (List.mem_filter.1 hq).1
  · obtain ⟨q,hq,h1,h2⟩:=h.all n r hn hf
    obtain ⟨q',hq',e1,e2⟩:=hl.old q (List.mem_filter.2 ⟨hq,by unfold okQ; rw [h1]; rfl⟩)
    exact ⟨q',hq',e2.trans h1,e1.trans h2⟩
  · have:(q0.s:Int)=(n:Int):=hf
    exact ⟨q0,hl.mem,hc,by omega⟩
theorem filter_srt {qs:List Pq} (h:qs.Pairwise ltQ):(qs.filter okQ).Pairwise ltQ:=h.sublist List.filter_sublist
theorem FsP.crash_laid {w W0 w':World} {g b:Nat} {X:Gh} {F:Fs} {q0:Pq} {p:List Int} {v qv1:Value} {e:Ending} (h:FsP w g X F) (hm0:ModP (fun k=>k=g ∨ X.qv.ownBlock=some k) w W0)
    (hg0:W0.heap[g]?=some (.cells #[.bool F.down,.int .i64 (F.steps:Int),.int .i64 (F.files.length:Int),.map (some X.mn),.map (some X.ms),X.cv,qv1] 74)) (hr0:PRow W0 qv1 (X.qs.filter okQ)) (hq1:∀ k,qv1.ownBlock=some k → X.qv.ownBlock=some k)
    (hb:W0.heap[b]?=some (.cells #[v] 44)) (hv:W0.ownsRow 0 3 1 v p.length (pinE.fl p)) (hc:q0.c=true) (hqb:q0.b=b) (hwb:w.heap.size ≤ b) (hwv:∀ k,v.ownBlock=some k → w.heap.size ≤ k) (hs:F.steps < q0.s)
    (hL:LayP W0 g (.bool F.down) (.int .i64 (F.steps:Int)) (.int .i64 (F.files.length:Int)) (.map (some X.mn)) (.map (some X.ms)) X.cv qv1 (X.qs.filter okQ) q0 e w'):e=.returned (.tuple #[])∧∃ X',Bec w g X F w' X' { F with crash:=(q0.s:Int),picks:=p }:=by
  obtain ⟨he,qv',qs',hl,hg',hrow',hk',hm'⟩:=hL
  have hf:=hl.facts (filter_srt h.pln.srt)
  have hkeep0:∀ {k:Nat} {cs:Array Value} {t:Nat} {fz:Nat × Nat},W0.heap[k]?=some (.cells cs t fz) → ¬ tyOwn t → w'.heap[k]?=W0.heap[k]?:=fun {k cs t fz} hk ht=>hm'.oth k (row_lt hk) (fun hs=>by
    rcases hs with rfl | hs
    · exact ht (by rw [row_ty hk hg0]; exact Or.inl rfl)
    · obtain ⟨cur,hc⟩:=hr0.type hs
      exact ht (by rw [row_ty hk hc]; exact Or.inr (Or.inr (Or.inr (Or.inr rfl)))))
  have hkeepw:∀ {k:Nat} {cs:Array Value} {t:Nat} {fz:Nat × Nat},w.heap[k]?=some (.cells cs t fz) → ¬ tyOwn t → W0.heap[k]?=w.heap[k]?:=fun {k cs t fz} hk ht=>hm0.oth k (row_lt hk) (fun hs=>by
    rcases hs with rfl | hs
    · exact ht (by rw [row_ty hk h.blk]; exact Or.inl rfl)
    · obtain ⟨cur,hc⟩:=h.row.type hs
      exact ht (by rw [row_ty hk hc]; exact Or.inr (Or.inr (Or.inr (Or.inr rfl)))))
  have hmm:ModP (fun k=>k=g ∨ X.qv.ownBlock=some k) w w':=hm0.andThen hm' (fun k _ hk=>hk.imp id (fun e=>hq1 k e))
  have hC:=h.toFsC.repl (F':={ F with crash:=(q0.s:Int),picks:=p }) hmm ⟨rfl,rfl,rfl,rfl⟩ hg' hrow'
  have hP:FsP w' g { X with qv:=qv',qs:=qs' } { F with crash:=(q0.s:Int),picks:=p }:=by
    refine ⟨hC,h.pln.crash hf hc hs,fun q hq=>?_⟩
    rcases hf.new q hq with rfl | ⟨hq',hn⟩
    · refine ⟨fun _=>⟨rfl,v,?_,?_⟩,fun h=>(by rw [hc] at h; cases h)⟩
      · rw [hqb]; exact (hkeep0 hb (by unfold tyOwn; decide)).trans hb
      · exact own_to hv (fun k hk=>by obtain ⟨cur,hcu⟩:=own_type hv hk; exact hkeep0 hcu (by unfold tyOwn; decide))
    · obtain ⟨hq2,hok⟩:=List.mem_filter.1 hq'
      have hcf:q.c=false:=by unfold okQ at hok; simpa using hok
      obtain ⟨r,h1,h2⟩:=(h.hld q hq2).fl hcf
      refine ⟨fun h=>(by rw [hcf] at h; cases h),fun _=>⟨r,?_,h2⟩⟩
      have e1:=(hkeepw h1 (by unfold tyOwn; decide)).trans h1
      exact (hkeep0 e1 (by unfold tyOwn; decide)).trans e1
  refine ⟨he,_,Bec.repl h.toFsC hmm ⟨rfl,rfl,rfl,rfl⟩ hP (fun k hk=>(hk' k hk).imp (hq1 k) (fun q=>Nat.le_trans hm0.size q)) ?_ (fun q hq=>(hf.new q hq).symm.imp (fun h6=>(List.mem_filter.1 h6.1).1) (fun h6=>by subst h6; exact ⟨by rw [hqb]; exact hwb,fun _=>⟨v,by rw [hqb]; exact (hkeep0 hb (by unfold tyOwn; decide)).trans hb,hwv⟩⟩))⟩
  have:=hf.len
  have h2:=List.length_filter_le okQ X.qs
  omega
end Go.Proofs.YtbgbmfmgdgalbaaGreatDoor
namespace Go.Proofs.YtbgbmfmgdgalbaaGreatDoor
open Go.RowKit Go.Maps
set_option linter.unusedVariables false
set_option linter.unusedSimpArgs false
def DelP (w:World) (qv:Value) (l:List Pq) (e:Ending) (w':World):Prop:=∃ P c,e=.returned (.slice P (l.filter okQ).length c)∧PRow w' (.slice P (l.filter okQ).length c) (l.filter okQ)∧(∀ k,(Value.slice P (l.filter okQ).length c).ownBlock=some k → qv.ownBlock=some k)∧ModP (fun k=>qv.ownBlock=some k) w w'
set_option maxHeartbeats 1000000 in
theorem deleteR_any (qv:Value) (l:List Pq) (hl:l.length ≤ 3298534883328) (w:World) (h:PRow w qv l) :
    Calls Tryz.prog 43 #[qv,.func (.func 44) #[] #[]] w fun e w'=>DelP w qv l e w':=by
  rcases h.px with ⟨rfl,rfl⟩ | ⟨E,o,c,rfl,hB⟩
  · have HI:Hid _:=indexQ_any (.slice none 0 0) [] (by simp) w KR.nil
    go_enter Tryz.func43,Tryz.ntmps43
    go_wp2_with fail
    refine (show Calls _ _ _ _ _ from HI.out).mono ?_
    rintro e w1 ⟨hb1,⟨i,hi,_⟩ | ⟨rfl,hall⟩⟩
    · simp at hi
    · have HR:Hid (DelP w (.slice none 0 0) [] (.returned (.slice none 0 0)) w1):=⟨none,0,rfl,Or.inl ⟨rfl,rfl⟩,fun k hk=>(by cases hk),ModP.below hb1⟩
      clear hb1 hall
      go_wp2
      go_returns
      exact HR.out
  · refine (deleteQ_any E o c l hl w hB).mono ?_
    rintro e w' ⟨rfl,hm,hP⟩
    exact ⟨_,c,rfl,hP.prow,fun k hk=>hk,hm.weak (fun k _ e=>by rw [e]; rfl)⟩
set_option maxHeartbeats 2000000 in
set_option maxRecDepth 100000 in
theorem Crash_any (g:Nat) (X:Gh) (F:Fs) (n:Int) (v:Value) (p:List Int) (hp:p.length ≤ 17592186044416) (w:World) (h:FsP w g X F) (hs:Sm F X) (hv:Pks w (Own g F X) v p) :
    Calls Tryz.prog 18 #[ptr (some g),.int .i64 n,v] w fun e w'=>e=.returned (.int .i64 (crashM F n p).2)∧∃ X',Bec w g X F w' X' (crashM F n p).1:=by
  have HCK:Hid _:=checkPlan_any g X F n 0 w h.toFsC
  by_cases hck:chkP F n 0=0
  · have hdn:F.down=false:=by
      unfold chkP at hck
      cases hd:F.down
      · rfl
      · rw [hd] at hck; simp at hck
    have hnn:¬ (n < 0 ∨ 1099511627776 < n):=fun hh=>by
      unfold chkP at hck
      rw [hdn,if_neg (by decide),if_pos hh] at hck; cases hck
    rw [hck] at HCK
    by_cases hn0:n=0
    · subst hn0
      have hM:crashM F 0 p=(downM F p,0):=by
        unfold crashM; rw [hdn,if_neg (by decide),if_neg hnn,if_pos rfl]
      rw [hM]
      have HGO:Hid _:=goDown_any g X F v p w h.toFsC hs hp hv
      clear h hs hv hck hdn hnn hM
      unfold ptr at HCK HGO ⊢
      go_enter Tryz.func18,Tryz.ntmps18
      go_wp2_with fail
      refine (show Calls _ _ _ _ _ from HCK.out).mono ?_
      rintro e w1 ⟨rfl,rfl⟩
      go_wp2_with fail
      refine (show Calls _ _ _ _ _ from HGO.out).mono ?_
      rintro e w2 ⟨rfl,hB⟩
      have HB:Hid _:=hB
      clear hB
      go_wp2
      go_returns
      exact ⟨rfl,HB.out⟩
    · have hst:=hs.st
      obtain ⟨s,hsn⟩:∃ s:Nat,(s:Int)=(F.steps:Int) + n:=⟨F.steps + n.toNat,by omega⟩
      have hM:crashM F n p=({ F with crash:=(s:Int),picks:=p },0):=by
        unfold crashM; rw [hdn,if_neg (by decide),if_neg hnn,if_neg hn0,hsn]
      rw [hM]
      have hw:IntKind.i64.wrap ((F.steps:Int) + n)=(s:Int):=by rw [IntKind.wrap_i64] <;> omega
      have hne:(n == 0)=false:=by simpa using hn0
      have HCL:Hid _:=cloneI_any v p hp w hv.kr
      have HFP:Hid (FsP w g X F):=h
      have HQL:Hid (X.qs.length ≤ 3298534883328):=hs.qs
      have HSS:Hid (F.steps < s):=by show F.steps < s; omega
      obtain ⟨stp,hstp⟩:∃ stp,F.steps=stp:=⟨_,rfl⟩
      have HSTP:Hid (F.steps=stp):=hstp
      rw [hstp] at hw
      clear h hs hv hck hdn hnn hM hst hsn hstp
      unfold ptr at HCK ⊢
      go_enter Tryz.func18,Tryz.ntmps18
      go_wp2_with fail
      refine (show Calls _ _ _ _ _ from HCK.out).mono ?_
      rintro e w0 ⟨rfl,rfl⟩
      go_wp2_with fail
      refine (show Calls _ _ _ _ _ from HCL.out).mono ?_
      rintro e w1 ⟨v',rfl,ho1,hb1⟩
      obtain ⟨P1,c1,hf1⟩:=own_form ho1
      subst hf1
      have HO1:Hid _:=ho1
      have HB1:Hid (Below w0.heap.size w0 w1):=hb1
      clear ho1 hb1
      go_upto_region 8 with fail
      obtain ⟨W2,hW2⟩:∃ W2,w1.alloc (.cells #[.slice P1 p.length c1] 44)=W2:=⟨_,rfl⟩
      rw [hW2]
      have hB2:W2.heap[w1.heap.size]?=some (.cells #[.slice P1 p.length c1] 44):=by rw [← hW2]; exact one_alloc w1 _
      have hb12:Below w1.heap.size w1 W2:=by rw [← hW2]; exact (Below.refl _ w1).alloc (Nat.le_refl _) _
      have hb2:Below w0.heap.size w0 W2:=bel_to HB1.out hb12 (Nat.le_refl _)
      have ho2:W2.ownsRow 0 3 1 (.slice P1 p.length c1) p.length (pinE.fl p):=own_zero (own_bel HO1.out hb12)
      have h2:=HFP.out.on hb2
      obtain ⟨_,g1,_,_,_,_,g6,gf⟩:=h2.cells
      have HDL:Hid _:=deleteR_any X.qv X.qs HQL.out W2 h2.row
      have HOB:Hid (W2.heap[w1.heap.size]?=some (.cells #[.slice P1 p.length c1] 44)∧W2.ownsRow 0 3 1 (.slice P1 p.length c1) p.length (pinE.fl p)∧FsP W2 g X F∧Below w0.heap.size w0 W2):=⟨hB2,ho2,h2,hb2⟩
      clear hW2 hB2 hb12 hb2 ho2 h2 gf
      go_wp2_with fail
      refine (show Calls _ _ _ _ _ from HDL.out).mono ?_
      rintro e w3 ⟨P3,c3,rfl,hr3,hk3,hm3⟩
      have hfs:=HOB.out.2.2.1
      have hg3:w3.heap[g]?=some (.cells #[.bool F.down,.int .i64 (F.steps:Int),.int .i64 (F.files.length:Int),.map (some X.mn),.map (some X.ms),X.cv,X.qv] 74):=(hm3.oth g (row_lt hfs.blk) (fun e=>hfs.ne_g.2.2.2.2 g e rfl)).trans hfs.blk
      have hg4:=fs_set hg3 6 (.slice P3 (X.qs.filter okQ).length c3)
      obtain ⟨_,_,_,_,_,_,t6,tfx⟩:=fsC7 hg3
      have tf:=tfx 6
      obtain ⟨W4,hW4⟩:∃ W4,w3.setCell ⟨g,6,none⟩ (.slice P3 (X.qs.filter okQ).length c3)=W4:=⟨_,rfl⟩
      have hg4':W4.heap[g]?=some (.cells #[.bool F.down,.int .i64 (F.steps:Int),.int .i64 (F.files.length:Int),.map (some X.mn),.map (some X.ms),X.cv,.slice P3 (X.qs.filter okQ).length c3] 74):=by rw [← hW4]; exact hg4.1
      have ho4:Only w3 W4 g:=by rw [← hW4]; exact hg4.2
      have hmW:ModP (fun k=>k=g ∨ X.qv.ownBlock=some k) W2 W4:=(hm3.weak (fun k _ e=>Or.inr e)).trans (ModP.only ho4 (Or.inl rfl))
      have hmw:ModP (fun k=>k=g ∨ X.qv.ownBlock=some k) w0 W4:=(ModP.below HOB.out.2.2.2).trans hmW
      have hkp:∀ {k:Nat} {cs:Array Value} {t:Nat} {fz:Nat × Nat},W2.heap[k]?=some (.cells cs t fz) → ¬ tyOwn t → W4.heap[k]?=W2.heap[k]?:=fun {k cs t fz} hk ht=>hmW.oth k (row_lt hk) (fun hs=>by
        rcases hs with rfl | hs
        · exact ht (by rw [row_ty hk hfs.blk]; exact Or.inl rfl)
        · obtain ⟨cur,hc⟩:=hfs.row.type hs
          exact ht (by rw [row_ty hk hc]; exact Or.inr (Or.inr (Or.inr (Or.inr rfl)))))
      have hr4:PRow W4 (.slice P3 (X.qs.filter okQ).length c3) (X.qs.filter okQ):=hr3.to (fun k hk=>ho4.other k (fun e=>by subst e; exact hfs.ne_g.2.2.2.2 _ (hk3 _ hk) rfl))
      have hlf:=List.length_filter_le okQ X.qs
      have HLY:Hid (Calls Tryz.prog 38 #[ptr (some g),agQ ⟨s,true,w1.heap.size⟩] W4 fun e w'=>e=.returned (.tuple #[])∧∃ X',Bec w0 g X F w' X' { F with crash:=(s:Int),picks:=p }):=(layP_any g _ _ _ _ _ _ _ (X.qs.filter okQ) (filter_srt HFP.out.pln.srt) (by have:=HQL.out; omega) ⟨s,true,w1.heap.size⟩ W4 hg4' hr4).mono (fun e w' hL=>FsP.crash_laid (q0:=⟨s,true,w1.heap.size⟩) HFP.out hmw hg4' hr4 hk3 ((hkp HOB.out.1 (by unfold tyOwn; decide)).trans HOB.out.1) (own_to HOB.out.2.1 (fun k hk=>by obtain ⟨cur,hcu⟩:=own_type HOB.out.2.1 hk; exact hkp hcu (by unfold tyOwn; decide))) rfl rfl HB1.out.size (fun k hk=>(World.ownsRow.lt HO1.out k hk).1) HSS.out hL)
      obtain ⟨_,s1,_,_,_,_,_,_⟩:=fsC7 hg4'
      rw [HSTP.out] at s1
      unfold ptr agQ meetV at HLY
      simp only [if_true,Option.map] at HLY
      clear hfs hg3 hg4 tfx hg4' ho4 hmW hmw hkp hr4 hlf hr3 hk3 hm3 g1 g6
      go_upto_region 9 with fail
      try rw [hW4]
      clear hW4
      go_wp2_with fail
      refine (show Calls _ _ _ _ _ from HLY.out).mono ?_
      rintro e w5 ⟨rfl,hB⟩
      have HB:Hid _:=hB
      clear hB
      go_wp2
      go_returns
      exact ⟨rfl,HB.out⟩
  · have hM:crashM F n p=(F,chkP F n 0):=by
      unfold crashM chkP at *
      cases hd:F.down
      · rw [hd] at hck
        simp only [Bool.false_eq_true,if_false] at hck ⊢
        by_cases hh:n < 0 ∨ 1099511627776 < n
        · rw [if_pos hh,if_pos hh]
        · rw [if_neg hh] at hck; exact absurd rfl hck
      · rfl
    rw [hM]
    have HB:Hid (∃ X',Bec w g X F w X' F):=⟨X,Bec.refl h⟩
    obtain ⟨er,her⟩:∃ er,chkP F n 0=er:=⟨_,rfl⟩
    rw [her] at HCK hck ⊢
    have hne:(er == 0)=false:=by simpa using hck
    clear h hs hv hM her
    unfold ptr at HCK ⊢
    go_enter Tryz.func18,Tryz.ntmps18
    go_wp2_with fail
    refine (show Calls _ _ _ _ _ from HCK.out).mono ?_
    rintro e w1 ⟨rfl,rfl⟩
    go_wp2
    go_returns
    exact ⟨rfl,HB.out⟩
end Go.Proofs.YtbgbmfmgdgalbaaGreatDoor
namespace Go.Proofs.YtbgbmfmgdgalbaaGreatDoor
open Go.RowKit Go.Maps
set_option linter.unusedVariables false
set_option linter.unusedSimpArgs false
theorem newOk:FOk newM []:=⟨fun k hk=>⟨by simp [dirK,newM],by simp [dirK,newM],by simp [dirK,newM],by simp [dirK,newM],by simp [dirK,newM],by simp [dirK,newM]⟩,rfl,rfl,by simp,by simp [newM]⟩
def newX (a b:Nat):Gh:=⟨a,b,fun _=>0,fun _=>.slice none 0 0,fun _=>[],.slice none 0 0,[],.slice none 0 0,[]⟩
theorem newP {W:World} {g a b:Nat} (hab:a ≠ b) (ha:MapIs W a 0 fun _=>none) (hb:MapIs W b 0 fun _=>none) (hg:W.heap[g]?=some (.cells #[.bool false,.int .i64 0,.int .i64 0,.map (some a),.map (some b),.slice none 0 0,.slice none 0 0] 74)):FsP W g (newX a b) newM:=by
  have hd:dirF [] (newX a b).fb=fun _=>none:=by funext m; simp [dirF,findM]
  have hl:∀ i,¬ Live newM (newX a b) i:=fun i hi=>by simp [Live,newM,newX] at hi
  refine ⟨⟨newOk,hg,⟨0,by rw [show newM.dir=[] from rfl,hd]; exact ha⟩,⟨0,by rw [show newM.sure=[] from rfl,hd]; exact hb⟩,hab,⟨rfl,Or.inl ⟨rfl,rfl⟩⟩,Or.inl ⟨rfl,rfl⟩,fun i _ h=>absurd h (hl i),fun i _ h=>absurd h (hl i)⟩,⟨by simp [newX],by simp [newX],fun n p _ h=>by simp [newM,failM] at h,fun n hn h=>by simp [newM] at h hn; omega⟩,by simp [newX]⟩
theorem sm_new (a b:Nat):Sm newM (newX a b):=⟨by simp [newM],by simp [newM],by simp [newM],by simp [newX]⟩
set_option maxHeartbeats 1000000 in
theorem New_any (w:World):Calls Tryz.prog 7 #[] w fun e w'=>∃ g X,e=.returned (ptr (some g))∧FsP w' g X newM∧Sm newM X∧Below w.heap.size w w'∧∀ k,Own g newM X k → w.heap.size ≤ k:=by
  obtain ⟨R,hR⟩:∃ R,w.heap.size=R:=⟨_,rfl⟩
  obtain ⟨W1,hW1⟩:∃ W1,w.alloc (.map #[] 0)=W1:=⟨_,rfl⟩
  obtain ⟨W2,hW2⟩:∃ W2,W1.alloc (.map #[] 0)=W2:=⟨_,rfl⟩
  have s1:W1.heap.size=R + 1:=by rw [← hW1,← hR]; simp
  have s2:W2.heap.size=R + 2:=by rw [← hW2]; simp [s1]
  obtain ⟨W3,hW3⟩:∃ W3,W2.alloc (.cells #[.bool false,.int .i64 0,.int .i64 0,.map (some R),.map (some (R + 1)),.slice none 0 0,.slice none 0 0] 74)=W3:=⟨_,rfl⟩
  have HP:Hid (FsP W3 (R + 2) (newX R (R + 1)) newM):=by
    have m1:MapIs W1 R 0 fun _=>none:=by have:=MapIs.made w; rw [hW1,hR] at this; exact this
    have m2:MapIs W2 (R + 1) 0 fun _=>none:=by have:=MapIs.made W1; rw [hW2,s1] at this; exact this
    have e3:∀ k,k < W2.heap.size → W3.heap[k]?=W2.heap[k]?:=fun k hk=>by rw [← hW3]; exact heap_alloc_old _ _ hk
    have e2:∀ k,k < W1.heap.size → W2.heap[k]?=W1.heap[k]?:=fun k hk=>by rw [← hW2]; exact heap_alloc_old _ _ hk
    refine newP (by omega) (m1.to ((e3 _ (by omega)).trans (e2 _ (by omega)))) (m2.to (e3 _ (by omega))) ?_
    rw [← hW3,← s2]; exact one_alloc _ _
  have HB:Hid (Below R w W3):=by
    show Below _ _ _
    rw [← hW3,← hW2,← hW1]
    exact (((Below.refl _ _).alloc (by omega) _).alloc (by simp; omega) _).alloc (by simp; omega) _
  have HR:Hid (w.heap.size=R):=hR
  have hmm:=@run_makeMap Tryz.prog 70
  go_enter Tryz.func7,Tryz.ntmps7
  go_upto_region 1 with fail
  go_wp2
  go_ret
  refine ⟨R + 2,newX R (R + 1),rfl,HP.out,sm_new _ _,by rw [HR.out]; exact HB.out,?_⟩
  rw [HR.out]
  rintro k (rfl | rfl | rfl | ⟨i,hl,_⟩ | hc | hc)
  · omega
  · exact Nat.le_refl _
  · show R ≤ R + 1; omega
  · simp [Live,newM,newX] at hl
  · cases hc
  · cases hc
end Go.Proofs.YtbgbmfmgdgalbaaGreatDoor
