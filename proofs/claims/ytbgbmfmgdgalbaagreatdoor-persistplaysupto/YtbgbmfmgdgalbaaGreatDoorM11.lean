import Derived.Test.YtbgbmfmgdgalbaaGreatDoorM10
import Derived.Test.YtbgbmfmgdgalbaaGreatDoorM09
import Derived.Test.YtbgbmfmgdgalbaaGreatDoorM08
namespace Go.Proofs.YtbgbmfmgdgalbaaGreatDoor
open Go.RowKit Go.Maps
set_option linter.unusedVariables false
set_option linter.unusedSimpArgs false
theorem fs_up {W:World} {g:Nat} {X:Gh} {F:Fs} (h:FsP W g X F):(W.setCell ⟨g,1,none⟩ (.int .i64 ((F.steps + 1:Nat):Int))).heap[g]?=some (.cells #[.bool F.down,.int .i64 ((F.steps + 1:Nat):Int),.int .i64 (F.files.length:Int),.map (some X.mn),.map (some X.ms),X.cv,X.qv] 74)∧Only W (W.setCell ⟨g,1,none⟩ (.int .i64 ((F.steps + 1:Nat):Int))) g:=fs_set h.blk 1 _
theorem PRow.form0 {W:World} {v:Value} (h:PRow W v []):∃ P c,v=.slice P 0 c:=by
  rcases h with ⟨rfl,_⟩ | ⟨g,o,c,cur,rfl,_⟩
  · exact ⟨_,_,rfl⟩
  · exact ⟨_,_,rfl⟩
theorem PRow.form {W:World} {v:Value} {l:List Pq} (h:PRow W v l):∃ P c,v=.slice P l.length c:=by
  rcases h with ⟨rfl,rfl⟩ | ⟨g,o,c,cur,rfl,_⟩
  · exact ⟨_,_,rfl⟩
  · exact ⟨_,_,rfl⟩
theorem due_no {W:World} {g:Nat} {X:Gh} {F:Fs} (h:FsP W g X F) (hs:F.steps ≤ 3298534883328) (hq:X.qs.length ≤ 3298534883328) (hn:∀ q l,X.qs=q :: l → q.s ≠ F.steps + 1) {W1:World} (ho:Only W W1 g) (hb:W1.heap[g]?=some (.cells #[.bool F.down,.int .i64 ((F.steps + 1:Nat):Int),.int .i64 (F.files.length:Int),.map (some X.mn),.map (some X.ms),X.cv,X.qv] 74)) :
    Calls Tryz.prog 159 #[ptr (some g)] W1 fun e w'=>DueNo W1 e w':=by
  have hp:PRow W1 X.qv X.qs:=h.row.to (fun k hk=>ho.other k (h.ne_g.2.2.2.2 k hk))
  rcases hqs:X.qs with _ | ⟨q,l⟩
  · rw [hqs] at hp
    obtain ⟨P,c,e⟩:=hp.form0
    rw [e] at hb
    exact due_none g _ _ _ _ _ _ P c W1 hb
  · rw [hqs] at hp hq
    exact due_other g _ _ _ _ _ _ (by omega) X.qv q l (hn q l hqs) (by simp at hq; omega) W1 hp hb
set_option maxHeartbeats 4000000 in
set_option maxRecDepth 100000 in
theorem sop_done (g:Nat) (X:Gh) (F:Fs) (D:Nat) (eD:∀ args w,(callFunc D args).run Tryz.prog w=.ok (.enter D args) w) (pre free:Array Value) (fv:Value) (PD:World → World → Prop) (PF:Gh → World → Int → World → Prop) (w:World) (h:FsP w g X F) (hs:Sm F X) (hn:∀ q l,X.qs=q :: l → q.s ≠ F.steps + 1)
    (hdo:∀ w1,ModP (Own g F X) w w1 → FsP w1 g X (up1 F) → Calls Tryz.prog D (pre ++ free) w1 fun e w'=>e=.returned (.tuple #[])∧PD w1 w') :
    Calls Tryz.prog 125 #[ptr (some g),.func (.func D) pre free,fv] w fun e w'=>StepP g X F w PD PF e w':=by
  obtain ⟨h1,h2⟩:=fs_up h
  obtain ⟨hpl,hst⟩:=h.pln.none_due hn
  obtain ⟨_,c1,_,_,_,_,_,cf⟩:=h.cells
  have f1:=cf 1
  have hst1:=hs.st
  have hw1:IntKind.i64.wrap ((F.steps:Int) + 1)=((F.steps + 1:Nat):Int):=by rw [IntKind.wrap_i64] <;> omega
  obtain ⟨W1,hW1⟩:∃ W1,w.setCell ⟨g,1,none⟩ (.int .i64 ((F.steps + 1:Nat):Int))=W1:=⟨_,rfl⟩
  rw [hW1] at h1 h2
  have HDU:Hid (Calls Tryz.prog 159 #[ptr (some g)] W1 fun e w'=>DueNo W1 e w'):=due_no h hs.st hs.qs hn h2 h1
  have hF1:FsP W1 g X (up1 F):=h.flag h2 ⟨rfl,rfl,rfl,rfl⟩ h1 hpl (fun q _ hh=>⟨hh.cr,hh.fl⟩)
  have HF1:Hid (FsP W1 g X (up1 F)):=hF1
  have HM1:Hid (ModP (Own g F X) w W1):=ModP.only h2 (Or.inl rfl)
  have HDO:Hid _:=hdo
  have HST:Hid (stepM F=(up1 F,0,0)):=hst
  obtain ⟨ns,hns⟩:∃ ns,F.steps + 1=ns:=⟨_,rfl⟩
  rw [hns] at hw1 hW1
  clear h h1 h2 hpl hst cf hs hn hF1 hdo hst1 hns
  unfold ptr at HDU ⊢
  go_enter Tryz.func125,Tryz.ntmps125
  go_wp2_with fail
  refine (show Calls _ _ _ _ _ from HDU.out).mono ?_
  rintro e w2 ⟨rfl,hb2⟩
  have HF2:Hid (FsP w2 g X (up1 F)):=HF1.out.on hb2
  have HM2:Hid (ModP (Own g F X) w w2):=HM1.out.trans (ModP.below hb2)
  clear hb2 c1 f1 hW1
  go_wp2_with (refine stP rfl _ _ rfl w2.heap.size 0 (.int .i64 0) (.bool false) .nilFunc #[.int .i64 0,.bool false,.nilFunc] rfl rfl ⟨rfl,rfl,rfl⟩ (one_alloc _ _) (by simp) ?_; intro W3 hr3 ho3)
  have hr3':W3.heap[w2.heap.size]?=some (.cells #[.int .i64 0,.bool false,.nilFunc] 91):=hr3
  have hb3:Below w2.heap.size w2 W3:=((Below.refl _ w2).alloc (Nat.le_refl _) _).trans (ho3.below (Nat.le_refl _))
  have HF3:Hid (FsP W3 g X (up1 F)):=HF2.out.on hb3
  have HM3:Hid (ModP (Own g F X) w W3):=HM2.out.trans (ModP.below hb3)
  clear hr3 hr3' hb3 ho3
  refine (show Calls _ _ _ _ _ from HDO.out W3 HM3.out HF3.out).mono ?_
  rintro e w4 ⟨rfl,hpd⟩
  have HPD:Hid (PD W3 w4):=hpd
  clear hpd
  go_wp2
  go_returns
  refine ⟨by rw [HST.out]; rfl,Or.inl ⟨by rw [HST.out],by rw [HST.out],W3,HM3.out,HF3.out,HPD.out⟩⟩
theorem FsC.repl {W W':World} {g:Nat} {X:Gh} {F F':Fs} {qv:Value} {qs:List Pq} (h:FsC W g X F) (hm:ModP (fun k=>k=g ∨ X.qv.ownBlock=some k) W W') (hF:F'.files=F.files∧F'.dir=F.dir∧F'.sure=F.sure∧F'.chg=F.chg) (hb:W'.heap[g]?=some (.cells #[.bool F'.down,.int .i64 (F'.steps:Int),.int .i64 (F'.files.length:Int),.map (some X.mn),.map (some X.ms),X.cv,qv] 74)) (hr:PRow W' qv qs):FsC W' g { X with qv:=qv,qs:=qs } F':=by
  obtain ⟨n1,n2,n3,n4,n5⟩:=h.ne_g
  obtain ⟨e1,e2,e3,e4⟩:=hF
  have key:∀ {k:Nat} {cs:Array Value} {t:Nat} {fz:Nat × Nat},W.heap[k]?=some (.cells cs t fz) → t ≠ 74 → t ≠ 91 → W'.heap[k]?=W.heap[k]?:=fun {k cs t fz} hk h1 h2=>hm.oth k (row_lt hk) (fun hs=>by
    rcases hs with rfl | hs
    · have:=hk.symm.trans h.blk
      injection this with this
      injection this with _ h3
      exact h1 h3
    · obtain ⟨cur,hc⟩:=h.row.type hs
      have:=hk.symm.trans hc
      injection this with this
      injection this with _ h3
      exact h2 h3)
  have keym:∀ {k n:Nat} {f:ByteArray → Option Nat},MapIs W k n f → W'.heap[k]?=W.heap[k]?:=fun {k n f} hk=>hm.oth k hk.lt (fun hs=>by
    rcases hs with rfl | hs
    · exact hk.ne h.blk rfl
    · obtain ⟨cur,hc⟩:=h.row.type hs
      exact hk.ne hc rfl)
  have eL:∀ i,Live F' { X with qv:=qv,qs:=qs } i ↔ Live F X i:=fun i=>by unfold Live; rw [e2,e3]
  have eo:∀ k,dirK F' k=dirK F k:=fun k=>by unfold dirK; rw [e3,e4]
  have ec:chgL F' { X with qv:=qv,qs:=qs }=chgL F X:=by unfold chgL; rw [e4]
  obtain ⟨k1,hn⟩:=h.now
  obtain ⟨k2,hs⟩:=h.safe
  refine ⟨⟨fun k hk=>?_,?_,?_,?_,?_⟩,hb,⟨k1,?_⟩,⟨k2,?_⟩,h.mne,?_,hr,fun i x hl hx=>?_,fun i j hi hj=>h.inj i j ((eL i).1 hi) ((eL j).1 hj)⟩
  · rw [eo,e1]; exact h.ok.dirs k (by rw [← e4]; exact hk)
  · rw [eo,e2,e4]; exact h.ok.now
  · rw [e4]; exact h.ok.cl
  · rw [e1]; exact h.ok.cfl
  · rw [e4]; exact h.ok.ch
  · rw [e2]; exact hn.to (keym hn)
  · rw [e3]; exact hs.to (keym hs)
  · rw [ec,e4]
    refine own_to h.chg (fun k hk=>?_)
    obtain ⟨cur,hc⟩:=own_type h.chg hk
    exact key hc (by decide) (by decide)
  · rw [e1] at hx
    have hl':=(eL i).1 hl
    have hf:=h.fil i x hl' hx
    refine hf.to (key hf.blk (by decide) (by decide)) (fun k hk=>?_)
    obtain ⟨cur,hc⟩:=own_type hf.own hk
    exact key hc (by decide) (by decide)
theorem Bec.repl {W W':World} {g:Nat} {X:Gh} {F F':Fs} {qv:Value} {qs:List Pq} (h:FsC W g X F) (hm:ModP (fun k=>k=g ∨ X.qv.ownBlock=some k) W W') (hF:F'.files=F.files∧F'.dir=F.dir∧F'.sure=F.sure∧F'.chg=F.chg) (hi:FsP W' g { X with qv:=qv,qs:=qs } F') (hq:∀ k,qv.ownBlock=some k → X.qv.ownBlock=some k ∨ W.heap.size ≤ k) (hl:qs.length ≤ X.qs.length + 1) (hn:∀ q ∈ qs,q ∈ X.qs ∨ Fresh W.heap.size W' q):Bec W g X F W' { X with qv:=qv,qs:=qs } F':=by
  refine ⟨hi,hm.weak (fun k _ hk=>?_),fun k hk=>?_,hl,hn⟩
  · rcases hk with rfl | hk
    · exact Or.inl rfl
    · exact Or.inr (Or.inr (Or.inr (Or.inr (Or.inr hk))))
  · rcases hk with rfl | rfl | rfl | ⟨i,hl',hk⟩ | hk | hk
    · exact Or.inl (Or.inl rfl)
    · exact Or.inl (Or.inr (Or.inl rfl))
    · exact Or.inl (Or.inr (Or.inr (Or.inl rfl)))
    · refine Or.inl (Or.inr (Or.inr (Or.inr (Or.inl ⟨i,?_,hk⟩))))
      unfold Live at *
      rw [hF.2.1,hF.2.2.1] at hl'
      exact hl'
    · exact Or.inl (Or.inr (Or.inr (Or.inr (Or.inr (Or.inl hk)))))
    · rcases hq k hk with h1 | h1
      · exact Or.inl (Or.inr (Or.inr (Or.inr (Or.inr (Or.inr h1)))))
      · exact Or.inr h1
set_option maxHeartbeats 1000000 in
theorem Fail1_any (g b:Nat) (p:Int) (D:Nat) (eD:∀ args w,(callFunc D args).run Tryz.prog w=.ok (.enter D args) w) (pre free:Array Value) (Po:World → Prop) (w:World) (hb:w.heap[b]?=some (.cells #[.int .i64 p] 3)) (hc:Calls Tryz.prog D (pre ++ #[.int .i64 p] ++ free) w fun e w'=>e=.returned (.tuple #[])∧Po w') :
    Calls Tryz.prog 39 #[ptr (some g),.func (.func D) pre free,.pointer (some ⟨b,0,none⟩)] w fun e w'=>e=.returned (.int .i64 200)∧Po w':=by
  have c0:w.cell? ⟨b,0,none⟩=some (.int .i64 p):=by rw [cell_of_row _ _ _ _ _ _ hb]; rfl
  have HC:Hid _:=hc
  clear hc hb
  unfold ptr
  go_enter Tryz.func39,Tryz.ntmps39
  go_wp2_with fail
  refine (show Calls _ _ _ _ _ from HC.out).mono ?_
  rintro e w1 ⟨rfl,hp⟩
  go_wp2
  go_returns
  exact ⟨rfl,hp⟩
set_option maxHeartbeats 1000000 in
theorem Crash2_any (HGD:GoDownC) (g b:Nat) (X:Gh) (F:Fs) (fv v:Value) (w:World) (h:FsC w g X F) (hs:Sm F X) (hp:F.picks.length ≤ 17592186044416) (hb:w.heap[b]?=some (.cells #[v] 44)) (hv:w.ownsRow 0 3 1 v F.picks.length (pinE.fl F.picks)) :
    Calls Tryz.prog 45 #[ptr (some g),fv,.pointer (some ⟨b,0,none⟩)] w fun e w'=>e=.returned (.int .i64 203)∧∃ X',Bec w g X F w' X' (downM F F.picks):=by
  have c0:w.cell? ⟨b,0,none⟩=some v:=by rw [cell_of_row _ _ _ _ _ _ hb]; rfl
  have HC:Hid _:=HGD g X F v F.picks w h hs hp (Pks.own h hv)
  obtain ⟨P,c,rfl⟩:=own_form hv
  clear h hs hp hb hv
  unfold ptr at HC ⊢
  go_enter Tryz.func45,Tryz.ntmps45
  go_wp2_with fail
  refine (show Calls _ _ _ _ _ from HC.out).mono ?_
  rintro e w1 ⟨rfl,hp⟩
  have HP:Hid _:=hp
  clear hp
  go_wp2
  go_returns
  exact ⟨rfl,HP.out⟩
end Go.Proofs.YtbgbmfmgdgalbaaGreatDoor
namespace Go.Proofs.YtbgbmfmgdgalbaaGreatDoor
open Go.RowKit Go.Maps
set_option linter.unusedVariables false
set_option linter.unusedSimpArgs false
structure Dued (w:World) (g:Nat) (X:Gh) (F:Fs) (q:Pq) (l:List Pq) (W:World) (qv:Value):Prop where
  blk:W.heap[g]?=some (.cells #[.bool F.down,.int .i64 ((F.steps + 1:Nat):Int),.int .i64 (F.files.length:Int),.map (some X.mn),.map (some X.ms),X.cv,qv] 74)
  row:PRow W qv l
  md:ModP (fun k=>k=g ∨ X.qv.ownBlock=some k) w W
  ob:∀ k,qv.ownBlock=some k → X.qv.ownBlock=some k
theorem Dued.on {w:World} {g:Nat} {X:Gh} {F:Fs} {q:Pq} {l:List Pq} {W W':World} {qv:Value} (h:Dued w g X F q l W qv) (hb:Below W.heap.size W W'):Dued w g X F q l W' qv:=
  ⟨(hb.block g (row_lt h.blk)).trans h.blk,h.row.to (fun k hk=>by obtain ⟨c,hc⟩:=h.row.type hk; exact hb.block k (row_lt hc)),h.md.trans (ModP.below hb),h.ob⟩
theorem Dued.hold {w:World} {g:Nat} {X:Gh} {F F':Fs} {q:Pq} {l:List Pq} {W:World} {qv:Value} (h:Dued w g X F q l W qv) (hf:FsP w g X F) {x:Pq} (hx:Holds w F' x):Holds W F' x:=by
  refine hx.to (fun k cs t fz hk ht=>h.md.oth k (row_lt hk) (fun hs=>ht ?_))
  rcases hs with rfl | hs
  · have:=hk.symm.trans hf.blk
    injection this with this
    injection this with _ h2
    rw [h2]; exact Or.inl rfl
  · obtain ⟨cur,hc⟩:=hf.row.type hs
    have:=hk.symm.trans hc
    injection this with this
    injection this with _ h2
    rw [h2]; exact Or.inr (Or.inr (Or.inr (Or.inr rfl)))
set_option maxHeartbeats 4000000 in
set_option maxRecDepth 100000 in
theorem sop_due (g:Nat) (X:Gh) (F:Fs) (dv fv:Value) (q:Pq) (l:List Pq) (hq:X.qs=q :: l) (hqs:q.s=F.steps + 1) (M:Nat) (eM:∀ args w,(callFunc M args).run Tryz.prog w=.ok (.enter M args) w) (hM:meetV q=.func (.func M) #[] #[.pointer (some ⟨q.b,0,none⟩)]) (er:Int) (Po:World → World → Prop) (w:World) (h:FsP w g X F) (hs:Sm F X)
    (hmeet:∀ W qv,Dued w g X F q l W qv → Calls Tryz.prog M #[ptr (some g),fv,.pointer (some ⟨q.b,0,none⟩)] W fun e w'=>e=.returned (.int .i64 er)∧Po W w') :
    Calls Tryz.prog 125 #[ptr (some g),dv,fv] w fun e w'=>e=.returned (.int .i64 er)∧∃ W qv,Dued w g X F q l W qv∧Po W w':=by
  obtain ⟨h1,h2⟩:=fs_up h
  obtain ⟨_,c1,_,_,_,_,_,cf⟩:=h.cells
  have f1:=cf 1
  have hst1:=hs.st
  have hw1:IntKind.i64.wrap ((F.steps:Int) + 1)=((F.steps + 1:Nat):Int):=by rw [IntKind.wrap_i64] <;> omega
  obtain ⟨W1,hW1⟩:∃ W1,w.setCell ⟨g,1,none⟩ (.int .i64 ((F.steps + 1:Nat):Int))=W1:=⟨_,rfl⟩
  rw [hW1] at h1 h2
  have hp1:PRow W1 X.qv (q :: l):=by rw [← hq]; exact h.row.to (fun k hk=>h2.other k (h.ne_g.2.2.2.2 k hk))
  have hql:l.length ≤ 3298534883328:=by have:=hs.qs; rw [hq] at this; simp at this; omega
  have HDU:Hid (Calls Tryz.prog 159 #[ptr (some g)] W1 fun e w'=>DueYes W1 g (.bool F.down) (.int .i64 (F.files.length:Int)) (.map (some X.mn)) (.map (some X.ms)) X.cv (F.steps + 1) X.qv q l e w'):=due_yes g _ _ _ _ _ (F.steps + 1) (by omega) X.qv q l hqs hql W1 hp1 h1
  have HM1:Hid (ModP (fun k=>k=g ∨ X.qv.ownBlock=some k) w W1):=ModP.only h2 (Or.inl rfl)
  have HME:Hid _:=hmeet
  obtain ⟨ns,hns⟩:∃ ns,F.steps + 1=ns:=⟨_,rfl⟩
  rw [hns] at hw1 hW1
  have HNS:Hid (F.steps + 1=ns):=hns
  clear h h1 h2 cf hs hp1 hql hmeet hst1 hns hqs
  unfold ptr at HDU ⊢
  go_enter Tryz.func125,Tryz.ntmps125
  go_wp2_with fail
  refine (show Calls _ _ _ _ _ from HDU.out).mono ?_
  rintro e w2 ⟨rfl,qv,hb2,hr2,ho2,hm2⟩
  have HD2:Hid (Dued w g X F q l w2 qv):=⟨hb2,hr2,HM1.out.trans hm2,ho2⟩
  rw [hM]
  clear hb2 hr2 ho2 hm2 c1 f1 hW1
  go_upto_region 4 with (refine stP rfl _ _ rfl w2.heap.size 0 (.int .i64 (q.s:Int)) (.bool q.c) (.func (.func M) #[] #[.pointer (some ⟨q.b,0,none⟩)]) #[.int .i64 0,.bool false,.nilFunc] rfl rfl ⟨rfl,rfl,rfl⟩ (one_alloc _ _) (by simp) ?_; intro W3 hr3 ho3)
  have hr3':W3.heap[w2.heap.size]?=some (.cells #[.int .i64 (q.s:Int),.bool q.c,.func (.func M) #[] #[.pointer (some ⟨q.b,0,none⟩)]] 91):=hr3
  have hb3:Below w2.heap.size w2 W3:=((Below.refl _ w2).alloc (Nat.le_refl _) _).trans (ho3.below (Nat.le_refl _))
  have HD3:Hid (Dued w g X F q l W3 qv):=HD2.out.on hb3
  obtain ⟨_,_,r2,_⟩:=row3 hr3'
  clear hr3 hr3' hb3 ho3
  go_wp2_with fail
  unfold ptr at HME
  refine (show Calls _ _ _ _ _ from HME.out W3 qv HD3.out).mono ?_
  rintro e w4 ⟨rfl,hpo⟩
  have HPO:Hid (Po W3 w4):=hpo
  clear hpo
  go_wp2
  go_returns
  exact ⟨rfl,W3,qv,HD3.out,HPO.out⟩
theorem eM_fail (args:Array Value) (w:World):(callFunc 39 args).run Tryz.prog w=.ok (.enter 39 args) w:=by kernel_rfl
theorem eM_crash (args:Array Value) (w:World):(callFunc 45 args).run Tryz.prog w=.ok (.enter 45 args) w:=by kernel_rfl
theorem Dued.fsp {w:World} {g:Nat} {X:Gh} {F:Fs} {q:Pq} {l:List Pq} {W:World} {qv:Value} (h:Dued w g X F q l W qv) (hf:FsP w g X F) (hq:X.qs=q :: l) (hp:Plans (up1 F) l):Bec w g X F W { X with qv:=qv,qs:=l } (up1 F):=by
  have h1:FsP W g { X with qv:=qv,qs:=l } (up1 F):=⟨hf.toFsC.repl h.md ⟨rfl,rfl,rfl,rfl⟩ h.blk h.row,hp,fun x hx=>by
    have:=hf.hld x (by rw [hq]; exact List.mem_cons_of_mem _ hx)
    exact h.hold hf ⟨this.cr,this.fl⟩⟩
  exact Bec.repl hf.toFsC h.md ⟨rfl,rfl,rfl,rfl⟩ h1 (fun k hk=>Or.inl (h.ob k hk)) (by rw [hq]; simp; omega) (fun x hx=>Or.inl (by rw [hq]; exact List.mem_cons_of_mem _ hx))
theorem Dued.own {w:World} {g:Nat} {X:Gh} {F:Fs} {q:Pq} {l:List Pq} {W:World} {qv:Value} (h:Dued w g X F q l W qv) {k:Nat} (hk:Own g (up1 F) { X with qv:=qv,qs:=l } k):Own g F X k:=by
  rcases hk with rfl | rfl | rfl | hk | hk | hk
  · exact Or.inl rfl
  · exact Or.inr (Or.inl rfl)
  · exact Or.inr (Or.inr (Or.inl rfl))
  · exact Or.inr (Or.inr (Or.inr (Or.inl hk)))
  · exact Or.inr (Or.inr (Or.inr (Or.inr (Or.inl hk))))
  · exact Or.inr (Or.inr (Or.inr (Or.inr (Or.inr (h.ob k hk)))))
theorem stepOrPart_any (HGD:GoDownC) (g:Nat) (X:Gh) (F:Fs) (D:Nat) (eD:∀ args w,(callFunc D args).run Tryz.prog w=.ok (.enter D args) w) (pre free:Array Value) (D2:Nat) (eD2:∀ args w,(callFunc D2 args).run Tryz.prog w=.ok (.enter D2 args) w) (pre2 free2:Array Value) (PD:World → World → Prop) (PF:Gh → World → Int → World → Prop) (w:World) (h:FsP w g X F) (hs:Sm F X) (hs1:F.steps < 3298534883328) (hpk:F.picks.length ≤ 17592186044416)
    (hdo:∀ w1,ModP (Own g F X) w w1 → FsP w1 g X (up1 F) → Calls Tryz.prog D (pre ++ free) w1 fun e w'=>e=.returned (.tuple #[])∧PD w1 w')
    (hfl:∀ w1 qv qs p,Bec w g X F w1 { X with qv:=qv,qs:=qs } (up1 F) → Calls Tryz.prog D2 (pre2 ++ #[.int .i64 p] ++ free2) w1 fun e w'=>e=.returned (.tuple #[])∧PF { X with qv:=qv,qs:=qs } w1 p w') :
    Calls Tryz.prog 125 #[ptr (some g),.func (.func D) pre free,.func (.func D2) pre2 free2] w fun e w'=>StepP g X F w PD PF e w':=by
  by_cases hd:∃ q l,X.qs=q :: l∧q.s=F.steps + 1
  · obtain ⟨q,l,hq,hqs⟩:=hd
    have hld:=h.hld q (by rw [hq]; simp)
    have hpl:Plans F (q :: l):=by rw [← hq]; exact h.pln
    rcases hc:q.c with _ | _
    · obtain ⟨p,hp1,hp2⟩:=hld.fl hc
      obtain ⟨hpl',hst⟩:=hpl.fail_due hqs hc hp2
      have hM:meetV q=.func (.func 39) #[] #[.pointer (some ⟨q.b,0,none⟩)]:=by unfold meetV; rw [hc]; rfl
      refine (sop_due g X F _ _ q l hq hqs 39 eM_fail hM 200 (fun W w'=>∀ qv,Dued w g X F q l W qv → PF { X with qv:=qv,qs:=l } W p w') w h hs (fun W qv hD=>?_)).mono ?_
      · have hb:W.heap[q.b]?=some (.cells #[.int .i64 p] 3):=by
          obtain ⟨p',h1,h2⟩:=(hD.hold h hld).fl hc
          rw [hp2] at h2; cases h2; exact h1
        refine (Fail1_any g q.b p D2 eD2 pre2 free2 _ W hb (hfl W qv l p (hD.fsp h hq hpl'))).mono ?_
        rintro e w' ⟨rfl,hpf⟩
        refine ⟨rfl,fun qv' hD'=>?_⟩
        have e1:qv'=qv:=by
          have:=hD'.blk.symm.trans hD.blk
          injection this with this
          injection this with this
          injection this with this
          simpa using this
        rw [e1]; exact hpf
      · rintro e w' ⟨rfl,W,qv,hD,hpo⟩
        exact ⟨by rw [hst],Or.inr (Or.inl ⟨by rw [hst],by rw [hst],W,qv,l,hD.fsp h hq hpl',by rw [hst]; exact hpo qv hD⟩)⟩
    · obtain ⟨hcr,v,hv1,hv2⟩:=hld.cr hc
      have hst:=crash_due hqs hcr
      have hM:meetV q=.func (.func 45) #[] #[.pointer (some ⟨q.b,0,none⟩)]:=by unfold meetV; rw [hc]; rfl
      refine (sop_due g X F _ _ q l hq hqs 45 eM_crash hM 203 (fun W w'=>∃ X',Bec w g X F w' X' (downM (up1 F) F.picks)) w h hs (fun W qv hD=>?_)).mono ?_
      · have hc2:FsC W g { X with qv:=qv,qs:=l } (up1 F):=h.toFsC.repl hD.md ⟨rfl,rfl,rfl,rfl⟩ hD.blk hD.row
        obtain ⟨_,v',hb1,hb2⟩:=(hD.hold h hld).cr hc
        have hsm:Sm (up1 F) { X with qv:=qv,qs:=l }:=⟨by show F.steps + 1 ≤ _; omega,hs.fi,hs.ch,by have:=hs.qs; rw [hq] at this; simp at this; show l.length ≤ _; omega⟩
        refine (Crash2_any HGD g q.b { X with qv:=qv,qs:=l } (up1 F) _ v' W hc2 hsm hpk hb1 hb2).mono ?_
        rintro e w' ⟨rfl,X',hB⟩
        have hmd:ModP (Own g F X) w W:=hD.md.weak (fun k _ hk=>by
          rcases hk with rfl | hk
          · exact Or.inl rfl
          · exact Or.inr (Or.inr (Or.inr (Or.inr (Or.inr hk)))))
        refine ⟨rfl,X',hB.is,hmd.andThen hB.md (fun j _ hj=>hD.own hj),fun k hk=>?_,?_,fun x hx=>(hB.nq x hx).imp (fun h6=>by rw [hq]; exact List.mem_cons_of_mem _ h6) (fun h6=>h6.le hD.md.size)⟩
        · rcases hB.own k hk with h1 | h1
          · exact Or.inl (hD.own h1)
          · exact Or.inr (Nat.le_trans hD.md.size h1)
        · have h1:=hB.len
          have h2:X.qs.length=l.length + 1:=by rw [hq]; rfl
          have h3:X'.qs.length ≤ l.length + 1:=h1
          omega
      · rintro e w' ⟨rfl,W,qv,hD,hpo⟩
        exact ⟨by rw [hst],Or.inr (Or.inr ⟨by rw [hst],by rw [hst]; exact hpo⟩)⟩
  · have hn:∀ q l,X.qs=q :: l → q.s ≠ F.steps + 1:=fun q l e1 e2=>hd ⟨q,l,e1,e2⟩
    exact sop_done g X F D eD pre free _ PD PF w h hs hn hdo
end Go.Proofs.YtbgbmfmgdgalbaaGreatDoor
namespace Go.Proofs.YtbgbmfmgdgalbaaGreatDoor
open Go.RowKit Go.Maps
set_option linter.unusedVariables false
set_option linter.unusedSimpArgs false
def ChgP (w:World) (g:Nat) (a0 a1 a2 a4 a6:Value) (mn:Nat) (f:ByteArray → Option Nat) (cv:Value) (cs:List Pc) (c:Pc) (w':World):Prop:=∃ cv',w'.heap[g]?=some (.cells #[a0,a1,a2,.map (some mn),a4,cv',a6] 74)∧(∃ k,MapIs w' mn k (apF f c.n c.t c.b))∧w'.ownsRow 0 100 3 cv' (cs.length + 1) (pgE.fl (cs ++ [c]))∧ModP (fun k=>k=g ∨ k=mn ∨ cv.ownBlock=some k) w w'∧(∀ k,cv'.ownBlock=some k → cv.ownBlock=some k ∨ w.heap.size ≤ k)
theorem row3_keep {W W':World} {R T:Nat} {a0 a1 a2:Value} (h:W.heap[R]?=some (.cells #[a0,a1,a2] T)) (hb:Below W.heap.size W W'):W'.heap[R]?=some (.cells #[a0,a1,a2] T):=(hb.block R (row_lt h)).trans h
set_option maxHeartbeats 8000000 in
set_option maxRecDepth 100000 in
theorem change_any (g:Nat) (a0 a1 a2 a4 a6:Value) (mn k0:Nat) (f:ByteArray → Option Nat) (cv:Value) (cs:List Pc) (c:Pc) (hn:c.n.size ≤ 140737488355328) (ht:c.t.size ≤ 140737488355328) (hk:k0 ≤ 1099511627776) (hcs:cs.length ≤ 3298534883328) (w:World) (hg:w.heap[g]?=some (.cells #[a0,a1,a2,.map (some mn),a4,cv,a6] 74)) (hm:MapIs w mn k0 f) (hc:w.ownsRow 0 100 3 cv cs.length (pgE.fl cs)) :
    Calls Tryz.prog 116 #[ptr (some g),.agg #[.string c.n,.string c.t,ptr (some c.b)]] w fun e w'=>e=.returned (.tuple #[])∧ChgP w g a0 a1 a2 a4 a6 mn f cv cs c w':=by
  obtain ⟨n,t,b⟩:=c
  obtain ⟨R,hR⟩:∃ R,w.heap.size=R:=⟨_,rfl⟩
  obtain ⟨W0,hW0⟩:∃ W0,w.alloc (.cells #[.string n,.string t,ptr (some b)] 100)=W0:=⟨_,rfl⟩
  have hb0:Below R w W0:=by rw [← hW0]; exact (Below.refl _ _).alloc (by omega) _
  have hr0:W0.heap[R]?=some (.cells #[.string n,.string t,ptr (some b)] 100):=by rw [← hW0,← hR]; exact one_alloc _ _
  have HCN:Hid (∀ W,Calls Tryz.prog 117 #[.string n] W fun e w'=>e=.returned (.string n)∧Below W.heap.size W w'):=fun W=>clone_any n (by simp at hn; omega) W
  have HCT:Hid (∀ W,Calls Tryz.prog 117 #[.string t] W fun e w'=>e=.returned (.string t)∧Below W.heap.size W w'):=fun W=>clone_any t (by simp at ht; omega) W
  have HRW:Hid (∀ W,Below W0.heap.size W0 W → (W.cell? ⟨R,0,none⟩=some (.string n)∧W.cell? ⟨R,1,none⟩=some (.string t))∧W.frozen? ⟨R,0,none⟩=false∧W.frozen? ⟨R,1,none⟩=false):=fun W hW=>by
    obtain ⟨r0,r1,_,rf⟩:=row3 (row3_keep hr0 hW)
    exact ⟨⟨r0,r1⟩,rf 0,rf 1⟩
  have HST:Hid (∀ W,Below W0.heap.size W0 W → ((W.setCell ⟨R,0,none⟩ (.string n)).cell? ⟨R,0,none⟩=some (.string n)∧(W.setCell ⟨R,0,none⟩ (.string n)).cell? ⟨R,1,none⟩=some (.string t))∧((W.setCell ⟨R,1,none⟩ (.string t)).cell? ⟨R,0,none⟩=some (.string n)∧(W.setCell ⟨R,1,none⟩ (.string t)).cell? ⟨R,1,none⟩=some (.string t))∧(((W.setCell ⟨R,0,none⟩ (.string n)).setCell ⟨R,1,none⟩ (.string t)).cell? ⟨R,0,none⟩=some (.string n)∧((W.setCell ⟨R,0,none⟩ (.string n)).setCell ⟨R,1,none⟩ (.string t)).cell? ⟨R,1,none⟩=some (.string t))∧(((W.setCell ⟨R,1,none⟩ (.string t)).setCell ⟨R,0,none⟩ (.string n)).cell? ⟨R,0,none⟩=some (.string n)∧((W.setCell ⟨R,1,none⟩ (.string t)).setCell ⟨R,0,none⟩ (.string n)).cell? ⟨R,1,none⟩=some (.string t))):=fun W hW=>by
    have h1:=row3_keep hr0 hW
    have h2:(W.setCell ⟨R,0,none⟩ (.string n)).heap[R]?=some (.cells #[.string n,.string t,ptr (some b)] 100):=heap_setCell_same W R 0 _ _ _ h1
    have h3:(W.setCell ⟨R,1,none⟩ (.string t)).heap[R]?=some (.cells #[.string n,.string t,ptr (some b)] 100):=heap_setCell_same W R 1 _ _ _ h1
    have h4:((W.setCell ⟨R,0,none⟩ (.string n)).setCell ⟨R,1,none⟩ (.string t)).heap[R]?=some (.cells #[.string n,.string t,ptr (some b)] 100):=heap_setCell_same _ R 1 _ _ _ h2
    have h5:((W.setCell ⟨R,1,none⟩ (.string t)).setCell ⟨R,0,none⟩ (.string n)).heap[R]?=some (.cells #[.string n,.string t,ptr (some b)] 100):=heap_setCell_same _ R 0 _ _ _ h3
    exact ⟨⟨(row3 h2).1,(row3 h2).2.1⟩,⟨(row3 h3).1,(row3 h3).2.1⟩,⟨(row3 h4).1,(row3 h4).2.1⟩,⟨(row3 h5).1,(row3 h5).2.1⟩⟩
  have HR0:Hid (W0.heap[R]?=some (.cells #[.string n,.string t,ptr (some b)] 100)):=hr0
  have HB0:Hid (Below R w W0):=hb0
  have HG:Hid (w.heap[g]?=some (.cells #[a0,a1,a2,.map (some mn),a4,cv,a6] 74)):=hg
  have HM:Hid (MapIs w mn k0 f):=hm
  have HC:Hid (w.ownsRow 0 100 3 cv cs.length (pgE.fl cs)):=hc
  have HR:Hid (w.heap.size=R):=hR
  clear hb0 hr0 hg hm hc
  obtain ⟨r00,r01,rf0,rf1⟩:(W0.drew.cell? ⟨R,0,none⟩=some (.string n))∧W0.drew.cell? ⟨R,1,none⟩=some (.string t)∧W0.drew.frozen? ⟨R,0,none⟩=false∧W0.drew.frozen? ⟨R,1,none⟩=false:=by
    obtain ⟨⟨x1,x2⟩,x3,x4⟩:=HRW.out _ (Below.refl _ W0)
    exact ⟨x1,x2,x3,x4⟩
  have hx0:Below W0.heap.size W0 W0.drew:=(Below.refl _ _).drew
  have hW0':w.alloc (.cells #[.string n,.string t,.pointer (some ⟨b,0,none⟩)] 100)=W0:=hW0
  clear hW0
  unfold ptr
  go_enter Tryz.func116,Tryz.ntmps116
  go_upto_region 1 with fail
  go_region_held3 (fun W:World=>W.cell? ⟨R,0,none⟩=some (.string n)∧W.cell? ⟨R,1,none⟩=some (.string t))
    (first | with_reducible exact ⟨r00,r01⟩ | with_reducible exact (HRW.out _ hx0).1 | with_reducible exact (HRW.out _ hx1).1 | with_reducible exact (HRW.out _ hx2).1 | with_reducible exact (HST.out _ hx1).1 | with_reducible exact (HST.out _ hx1).2.1 | with_reducible exact (HST.out _ hx1).2.2.1 | with_reducible exact (HST.out _ hx1).2.2.2 | with_reducible exact (HST.out _ hx2).1 | with_reducible exact (HST.out _ hx2).2.1 | with_reducible exact (HST.out _ hx2).2.2.1 | with_reducible exact (HST.out _ hx2).2.2.2)
    (first
      | (go_at_call 117; with_reducible refine (show Calls _ _ _ _ _ from HCN.out _).mono ?_; rintro e w1 ⟨rfl,hy1⟩; have hx1:Below W0.heap.size W0 w1:=(by first | exact bel_to hx0 hy1 (Nat.le_refl _) | exact bel_to hx2 hy1 (Nat.le_refl _)); obtain ⟨⟨_,_⟩,fa1,fb1⟩:=HRW.out _ hx1)
      | (go_at_call 117; with_reducible refine (show Calls _ _ _ _ _ from HCT.out _).mono ?_; rintro e w2 ⟨rfl,hy2⟩; have hx2:Below W0.heap.size W0 w2:=(by first | exact bel_to hx0 hy2 (Nat.le_refl _) | exact bel_to hx1 hy2 (Nat.le_refl _)); obtain ⟨⟨_,_⟩,fa2,fb2⟩:=HRW.out _ hx2))
  obtain ⟨W3,hW3⟩:∃ W3,(w2.setCell ⟨R,0,none⟩ (.string n)).setCell ⟨R,1,none⟩ (.string t)=W3:=⟨_,rfl⟩
  have hr3:W3.heap[R]?=some (.cells #[.string n,.string t,.pointer (some ⟨b,0,none⟩)] 100):=by
    have h1:=row3_keep HR0.out hx2
    have h2:(w2.setCell ⟨R,0,none⟩ (.string n)).heap[R]?=some (.cells #[.string n,.string t,ptr (some b)] 100):=heap_setCell_same w2 R 0 _ _ _ h1
    rw [← hW3]; exact heap_setCell_same _ R 1 _ _ _ h2
  have hsz0:W0.heap.size=R + 1:=by rw [← hW0',← hR]; simp
  have hb3:Below R w W3:=by
    rw [← hW3]
    exact ((HB0.out.trans (hx2.mono (by omega))).setCell (p:=⟨R,0,none⟩) (Nat.le_refl _) _).setCell (p:=⟨R,1,none⟩) (Nat.le_refl _) _
  rw [hW3]
  have HR3:Hid (W3.heap[R]?=some (.cells #[.string n,.string t,.pointer (some ⟨b,0,none⟩)] 100)):=hr3
  have HB3:Hid (Below R w W3):=hb3
  have hb3':Below w.heap.size w W3:=by rw [hR]; exact hb3
  have hg3:=(hb3'.block g (row_lt HG.out)).trans HG.out
  have HG3:Hid (W3.heap[g]?=some (.cells #[a0,a1,a2,.map (some mn),a4,cv,a6] 74)):=hg3
  have HM3:Hid (MapIs W3 mn k0 f):=HM.out.to (hb3'.block mn HM.out.lt)
  have HC3:Hid (W3.ownsRow 0 100 3 cv cs.length (pgE.fl cs)):=own_bel HC.out hb3'
  have HRS:Hid (R < W3.heap.size):=row_lt hr3
  have HGR:Hid (g < R∧mn < R):=⟨by rw [← hR]; exact row_lt HG.out,by rw [← hR]; exact HM.out.lt⟩
  have HAP:Hid (∀ m,Calls Tryz.prog 85 #[.map (some mn),.agg #[.string n,.string t,ptr (some b)]] (W3.drewN m) fun e w'=>e=.returned (.tuple #[])∧ModP (fun j=>j=mn) (W3.drewN m) w'∧∃ k',k' ≤ k0 + 1∧MapIs w' mn k' (apF f n t b)):=fun m=>apply_any mn k0 f n t b hn ht hk (W3.drewN m) HM3.out
  obtain ⟨r0,r1,r2,_⟩:=row3 hr3
  obtain ⟨_,_,_,g3,_,_,_,_⟩:=fsC7 hg3
  clear hW3 hr3 hb3 hb3' hg3 hx0 hx1 hx2 hy1 hy2 fa1 fb1 fa2 fb2 r00 r01 rf0 rf1 hW0' hsz0 HST HRW HCN HCT
  unfold ptr at HAP
  go_wp2_with fail
  have d0:W3.drew.cell? ⟨R,0,none⟩=some (.string n):=r0
  have d1:W3.drew.cell? ⟨R,1,none⟩=some (.string t):=r1
  have d2:W3.drew.cell? ⟨R,2,none⟩=some (.pointer (some ⟨b,0,none⟩)):=r2
  have d3:W3.drew.cell? ⟨g,3,none⟩=some (.map (some mn)):=g3
  go_region_held3 (fun W:World=>W.cell? ⟨R,0,none⟩=some (.string n)∧W.cell? ⟨R,1,none⟩=some (.string t)∧W.cell? ⟨R,2,none⟩=some (.pointer (some ⟨b,0,none⟩))∧W.cell? ⟨g,3,none⟩=some (.map (some mn)))
    (first | with_reducible exact ⟨d0,d1,d2,d3⟩ | with_reducible exact ⟨r0,r1,r2,g3⟩ | with_reducible exact ⟨q0,q1,q2,q3⟩)
    (first
      | (go_at_call 85; refine (show Calls _ _ _ _ _ from HAP.out 1).mono ?_; rintro e w4 ⟨rfl,hm4,hk4⟩; obtain ⟨q0,q1,q2,_⟩:=row3 ((hm4.oth R (by have:=HRS.out; exact this) (by have:=HGR.out; omega)).trans HR3.out); have hg4:=(hm4.oth g (by have:=HRS.out; have:=HGR.out; show g < W3.heap.size; omega) (fun e=>HM3.out.ne HG3.out e.symm)).trans HG3.out; obtain ⟨_,_,_,q3,_,q5,_,qf⟩:=fsC7 hg4))
  obtain ⟨Q,cc,hcv⟩:=own_form HC.out
  subst hcv
  have HCA:Hid (w4.ownsRow 0 100 3 (.slice Q cs.length cc) cs.length (pgE.fl cs)):=own_to HC3.out (fun k hk=>by
    obtain ⟨cur,hc⟩:=own_type HC3.out hk
    exact hm4.oth k (row_lt hc) (fun e=>HM3.out.ne hc e.symm))
  have HM4:Hid (ModP (fun j=>j=mn) W3 w4):=⟨hm4.os,hm4.tape,hm4.output,hm4.size,hm4.oth⟩
  have HK4:Hid (∃ k',k' ≤ k0 + 1∧MapIs w4 mn k' (apF f n t b)):=hk4
  have HG4:Hid (w4.heap[g]?=some (.cells #[a0,a1,a2,.map (some mn),a4,.slice Q cs.length cc,a6] 74)):=hg4
  have HGL:Hid (g < w4.heap.size):=row_lt hg4
  have s5:w4.drew.cell? ⟨g,5,none⟩=some (.slice Q cs.length cc):=q5
  have s0:w4.drew.cell? ⟨R,0,none⟩=some (.string n):=q0
  have s1:w4.drew.cell? ⟨R,1,none⟩=some (.string t):=q1
  have s2:w4.drew.cell? ⟨R,2,none⟩=some (.pointer (some ⟨b,0,none⟩)):=q2
  have s5a:=cell_on q5 ((Below.refl _ w4).alloc (Nat.le_refl _) (.cells #[.string n,.string t,.pointer (some ⟨b,0,none⟩)] 100))
  clear hm4 hk4 hg4 d0 d1 d2 d3 r0 r1 r2 g3 q3 qf
  go_wp2_with fail
  go_region_law (first
    | (refine step_appG pgOk #[.string n,.string t,.pointer (some ⟨b,0,none⟩)] ⟨n,t,b⟩ rfl rfl (.tmp 22) (.tmp 24) rfl (.slice Q cs.length cc) cs rfl (own_alloc (w:=w4) HCA.out _) w4.heap.size rfl (one_alloc _ _) (by unfold maxLen; omega) (by show _ * 40 ≤ _; omega) ?_; intro v5 w5 ho5 hg5 hl5; have hb5:w5.heap[g]?=some (.cells #[a0,a1,a2,.map (some mn),a4,.slice Q cs.length cc,a6] 74):=((hg5.block g (by have:=HGL.out; simp; omega) (fun e=>(by obtain ⟨cur,hc⟩:=own_type HCA.out e.symm; have:=hc.symm.trans HG4.out; injection this with this; injection this with _ h2; exact absurd h2 (by decide)))).trans (heap_alloc_old w4 _ HGL.out)).trans HG4.out; obtain ⟨P5,k5,hf5⟩:=own_form ho5; subst hf5; obtain ⟨_,_,_,_,_,t5,_,tfx⟩:=fsC7 hb5; have tf:=tfx 5))
  all_goals
    go_end0
    refine ⟨rfl,.slice P5 (cs.length + 1) k5,?_,?_,?_,?_,?_⟩
    · exact heap_setCell_same w5 g 5 _ _ _ hb5
    · obtain ⟨k',_,hk'⟩:=HK4.out
      refine ⟨k',hk'.to ?_⟩
      have hmg:mn ≠ g:=HM.out.ne HG.out
      rw [heap_setCell_other _ _ _ _ hmg]
      refine (hg5.block mn (by have:=hk'.lt; simp; omega) (fun e=>?_)).trans (heap_alloc_old w4 _ hk'.lt)
      obtain ⟨cur,hc⟩:=own_type HCA.out e.symm
      exact hk'.ne hc rfl
    · refine own_to ho5 (fun k hk=>?_)
      have hne:k ≠ g:=fun e=>by
        subst e
        obtain ⟨cur,hc⟩:=own_type ho5 hk
        have:=hc.symm.trans hb5
        injection this with this
        injection this with _ h2
        exact absurd h2 (by decide)
      exact heap_setCell_other _ _ _ _ hne
    · have m1:ModP (fun k=>k=g ∨ k=mn ∨ (Value.slice Q cs.length cc).ownBlock=some k) w W3:=ModP.below (by rw [HR.out]; exact HB3.out)
      have m2:ModP (fun k=>k=g ∨ k=mn ∨ (Value.slice Q cs.length cc).ownBlock=some k) W3 w4:=HM4.out.weak (fun k _ e=>Or.inr (Or.inl e))
      have m3:ModP (fun k=>k=g ∨ k=mn ∨ (Value.slice Q cs.length cc).ownBlock=some k) w4 (w4.alloc (.cells #[.string n,.string t,.pointer (some ⟨b,0,none⟩)] 100)):=ModP.below ((Below.refl _ _).alloc (Nat.le_refl _) _)
      have m4:ModP (fun k=>k=g ∨ k=mn ∨ (Value.slice Q cs.length cc).ownBlock=some k) (w4.alloc (.cells #[.string n,.string t,.pointer (some ⟨b,0,none⟩)] 100)) w5:=⟨hg5.os,hg5.tape,hg5.output,hg5.size,fun k hk hn=>hg5.block k hk (fun e=>hn (Or.inr (Or.inr e.symm)))⟩
      exact (((m1.trans m2).trans m3).trans m4).trans (ModP.only ((Only.refl _ _).set _ _) (Or.inl rfl))
    · intro k hk
      rcases hl5 with h1 | h1
      · rw [h1] at hk; exact Or.inl hk
      · rw [h1] at hk
        refine Or.inr ?_
        cases hk
        have h2:=HM4.out.size
        have h3:=HB3.out.size
        simp
        omega
end Go.Proofs.YtbgbmfmgdgalbaaGreatDoor
namespace Go.Proofs.YtbgbmfmgdgalbaaGreatDoor
open Go.RowKit Go.Maps
set_option linter.unusedVariables false
set_option linter.unusedSimpArgs false
theorem findM_cons (x:Sl) (l:List Sl) (m:ByteArray):findM (x :: l) m=if x.1=m then x.2 else findM l m:=by
  unfold findM
  rw [List.find?_cons]
  by_cases h:x.1=m
  · simp [h]
  · simp [h]
theorem boundL_true (n:ByteArray) (f:Int):∀ d,boundL n f true d=(true,d.filter fun x=>decide (x.1 ≠ n))
  | []=>rfl
  | x :: d=>by
    unfold boundL
    simp only [Bool.not_true,Bool.false_and,Bool.or_false]
    rw [boundL_true n f d]
    by_cases h:x.1=n
    · simp [h]
    · simp [h]
theorem bound_del {d:List Sl} {n:ByteArray} {f:Int} (hf:f < 0):boundM d n f=d.filter fun x=>decide (x.1 ≠ n):=by
  unfold boundM
  rw [decide_eq_true hf,boundL_true]
  simp
def below_ (n:ByteArray) (d:List Sl):List Sl:=d.filter fun x=>ltB x.1 n
def above_ (n:ByteArray) (d:List Sl):List Sl:=d.filter fun x=>ltB n x.1
theorem filter_all {α:Type} {p:α → Bool} {l:List α} (h:∀ x ∈ l,p x=true):l.filter p=l:=List.filter_eq_self.2 h
theorem filter_none {α:Type} {p:α → Bool} {l:List α} (h:∀ x ∈ l,p x=false):l.filter p=[]:=by
  rw [List.filter_eq_nil_iff]; intro x hx; simp [h x hx]
theorem boundL_false (n:ByteArray) (f:Int):∀ d:List Sl,(d.Pairwise fun a b=>ltB a.1 b.1=true) → (boundL n f false d).2 ++ (if (boundL n f false d).1 then [] else [(n,f)])=below_ n d ++ (n,f) :: above_ n d
  | [],_=>rfl
  | x :: d,h=>by
    rw [List.pairwise_cons] at h
    unfold boundL
    simp only [Bool.not_false,Bool.true_and,Bool.false_or]
    rcases hx:ltB n x.1 with _ | _
    · have ih:=boundL_false n f d h.2
      simp only [Bool.false_eq_true,if_false,List.nil_append]
      by_cases hn:x.1=n
      · rw [if_pos hn,List.nil_append,ih]
        unfold below_ above_
        rw [List.filter_cons,List.filter_cons,hn,ltB_irr]
        simp
      · have hlt:ltB x.1 n=true:=by
          rcases h2:ltB x.1 n with _ | _
          · exact absurd (ltB_tri h2 hx) hn
          · rfl
        rw [if_neg hn,List.append_assoc,ih]
        unfold below_ above_
        rw [List.filter_cons,List.filter_cons,hlt,hx]
        simp
    · have hne:¬ x.1=n:=fun e=>by rw [e,ltB_irr] at hx; cases hx
      rw [boundL_true]
      simp only [if_true,List.append_nil,if_neg hne]
      have h1:∀ y ∈ d,ltB n y.1=true:=fun y hy=>ltB_trans hx (h.1 y hy)
      have e1:d.filter (fun y=>decide (y.1 ≠ n))=d:=filter_all (fun y hy=>by
        have:=h1 y hy
        simp only [decide_eq_true_eq]
        intro e; rw [e,ltB_irr] at this; cases this)
      have e2:below_ n (x :: d)=[]:=filter_none (fun y hy=>by
        rcases List.mem_cons.1 hy with rfl | hy
        · exact ltB_asym hx
        · exact ltB_asym (h1 y hy))
      have e3:above_ n (x :: d)=x :: d:=filter_all (fun y hy=>by
        rcases List.mem_cons.1 hy with rfl | hy
        · exact hx
        · exact h1 y hy)
      rw [e1,e2,e3]
      rfl
theorem bound_put {d:List Sl} {n:ByteArray} {f:Int} (hf:¬ f < 0) (hd:d.Pairwise fun a b=>ltB a.1 b.1=true):boundM d n f=below_ n d ++ (n,f) :: above_ n d:=by
  unfold boundM
  rw [decide_eq_false hf]
  exact boundL_false n f d hd
theorem find_filter (m:ByteArray) (p:Sl → Bool):∀ d:List Sl,(∀ x ∈ d,x.1=m → p x=true) → findM (d.filter p) m=findM d m
  | [],_=>rfl
  | x :: d,h=>by
    have ih:=find_filter m p d (fun y hy=>h y (List.mem_cons_of_mem _ hy))
    rw [List.filter_cons,findM_cons]
    by_cases hx:x.1=m
    · rw [h x (by simp) hx,if_pos rfl,findM_cons,if_pos hx,if_pos hx]
    · rw [if_neg hx]
      rcases hp:p x with _ | _
      · simpa using ih
      · simp only [if_true]; rw [findM_cons,if_neg hx]; exact ih
theorem findM_app (a b:List Sl) (m:ByteArray) (h:∀ x ∈ a,x.1 ≠ m):findM (a ++ b) m=findM b m:=by
  induction a with
  | nil=>rfl
  | cons x a ih =>
    rw [List.cons_append,findM_cons,if_neg (h x (by simp))]
    exact ih (fun y hy=>h y (List.mem_cons_of_mem _ hy))
theorem findM_del (d:List Sl) (n m:ByteArray) (f:Int) (hf:f < 0):findM (boundM d n f) m=if m=n then -1 else findM d m:=by
  rw [bound_del hf]
  by_cases h:m=n
  · rw [if_pos h]
    refine findM_none (fun x hx=>?_)
    have:=(List.mem_filter.1 hx).2
    simp at this
    rw [h]; exact this
  · rw [if_neg h]
    refine find_filter m _ d (fun x _ hx=>?_)
    simp only [decide_eq_true_eq]
    rw [hx]; exact h
theorem findM_put {d:List Sl} (hd:d.Pairwise fun a b=>ltB a.1 b.1=true) (n m:ByteArray) (f:Int) (hf:¬ f < 0):findM (boundM d n f) m=if m=n then f else findM d m:=by
  rw [bound_put hf hd]
  by_cases h:m=n
  · rw [if_pos h]
    subst h
    rw [findM_app _ _ _ (fun x hx=>by
      have:=(List.mem_filter.1 hx).2
      intro e; rw [e,ltB_irr] at this; cases this),findM_cons,if_pos rfl]
  · rw [if_neg h]
    rcases h2:ltB m n with _ | _
    · have h3:ltB n m=true:=by
        rcases h3:ltB n m with _ | _
        · exact absurd (ltB_tri h2 h3) h
        · rfl
      rw [findM_app _ _ _ (fun x hx=>by
        have:=(List.mem_filter.1 hx).2
        intro e; rw [e,h2] at this; cases this),findM_cons,if_neg (fun e=>h e.symm)]
      exact find_filter m _ d (fun x _ hx=>by rw [hx]; exact h3)
    · have e1:findM (above_ n d) m=-1:=findM_none (fun x hx e=>by
        have:=(List.mem_filter.1 hx).2
        rw [e,ltB_asym h2] at this; cases this)
      have key:∀ l:List Sl,findM l m=findM (below_ n d) m → True:=fun _ _=>trivial
      have e2:findM (below_ n d) m=findM d m:=find_filter m _ d (fun x _ hx=>by rw [hx]; exact h2)
      rw [← e2]
      have:∀ a b:List Sl,findM b m=-1 → findM (a ++ b) m=findM a m:=fun a=>by
        induction a with
        | nil=>intro b hb; exact hb
        | cons x a ih=>intro b hb; rw [List.cons_append,findM_cons,findM_cons,ih b hb]
      exact this _ _ (by rw [findM_cons,if_neg (fun e=>h e.symm)]; exact e1)
theorem len_split (n:ByteArray):∀ d:List Sl,(below_ n d).length + (above_ n d).length + (if d.any (fun x=>decide (x.1=n)) then 1 else 0) ≤ d.length
  | []=>by simp [below_,above_]
  | x :: d=>by
    have ih:=len_split n d
    unfold below_ above_ at *
    rw [List.filter_cons,List.filter_cons,List.any_cons]
    by_cases hn:x.1=n
    · rw [hn,ltB_irr]
      simp only [Bool.false_eq_true,if_false,decide_true,Bool.true_or,if_true,List.length_cons]
      split at ih <;> omega
    · rw [decide_eq_false hn,Bool.false_or]
      generalize (if (d.any fun x=>decide (x.1=n))=true then 1 else 0)=q at *
      rcases h1:ltB x.1 n with _ | _
      · rcases h2:ltB n x.1 with _ | _
        · simp only [Bool.false_eq_true,if_false,List.length_cons]; omega
        · simp only [Bool.false_eq_true,if_false,if_true,List.length_cons]; omega
      · rw [ltB_asym h1]
        simp only [Bool.false_eq_true,if_false,if_true,List.length_cons]; omega
theorem pair_ne {d:List Sl} (h:d.Pairwise fun a b=>a.2 ≠ b.2) {a b:Sl} (ha:a ∈ d) (hb:b ∈ d) (hne:a ≠ b):a.2 ≠ b.2:=by
  induction d with
  | nil=>cases ha
  | cons x d ih =>
    rw [List.pairwise_cons] at h
    rcases List.mem_cons.1 ha with e1 | ha' <;> rcases List.mem_cons.1 hb with e2 | hb'
    · exact absurd (e1.trans e2.symm) hne
    · rw [e1]; exact h.1 b hb'
    · rw [e2]; exact Ne.symm (h.1 a ha')
    · exact ih h.2 ha' hb'
theorem DOk.filter {d:List Sl} {N:Nat} (h:DOk d N) (p:Sl → Bool):DOk (d.filter p) N:=
  ⟨h.rise.filter p,fun x hx=>h.nam x (List.mem_filter.1 hx).1,fun x hx=>h.ge x (List.mem_filter.1 hx).1,fun x hx=>h.lt x (List.mem_filter.1 hx).1,h.uni.filter p,Nat.le_trans (List.length_filter_le _ _) h.few⟩
theorem DOk.mono {d:List Sl} {N N':Nat} (h:DOk d N) (hn:N ≤ N'):DOk d N':=⟨h.rise,h.nam,h.ge,fun x hx=>by have:=h.lt x hx; omega,h.uni,h.few⟩
theorem DOk.del {d:List Sl} {N:Nat} (h:DOk d N) (n:ByteArray) {f:Int} (hf:f < 0):DOk (boundM d n f) N:=by rw [bound_del hf]; exact h.filter _
theorem DOk.put {d:List Sl} {N:Nat} (h:DOk d N) {n:ByteArray} {f:Int} (hn:namedM n=true) (hf:0 ≤ f) (hfN:f < (N:Int)) (hu:∀ x ∈ d,x.1 ≠ n → x.2 ≠ f) (hl:d.length < 64 ∨ ∃ x ∈ d,x.1=n):DOk (boundM d n f) N:=by
  rw [bound_put (by omega) h.rise]
  have hA:∀ x ∈ below_ n d,x ∈ d∧ltB x.1 n=true:=fun x hx=>List.mem_filter.1 hx
  have hB:∀ x ∈ above_ n d,x ∈ d∧ltB n x.1=true:=fun x hx=>List.mem_filter.1 hx
  have nA:∀ x ∈ below_ n d,x.1 ≠ n:=fun x hx e=>by have:=(hA x hx).2; rw [e,ltB_irr] at this; cases this
  have nB:∀ x ∈ above_ n d,x.1 ≠ n:=fun x hx e=>by have:=(hB x hx).2; rw [e,ltB_irr] at this; cases this
  have mem:∀ x ∈ below_ n d ++ (n,f) :: above_ n d,x ∈ d ∨ x=(n,f):=fun x hx=>by
    rcases List.mem_append.1 hx with hx | hx
    · exact Or.inl (hA x hx).1
    · rcases List.mem_cons.1 hx with hx | hx
      · exact Or.inr hx
      · exact Or.inl (hB x hx).1
  refine ⟨?_,fun x hx=>?_,fun x hx=>?_,fun x hx=>?_,?_,?_⟩
  · rw [List.pairwise_append,List.pairwise_cons]
    refine ⟨h.rise.filter _,⟨fun x hx=>(hB x hx).2,h.rise.filter _⟩,fun a ha b hb=>?_⟩
    rcases List.mem_cons.1 hb with rfl | hb
    · exact (hA a ha).2
    · exact ltB_trans (hA a ha).2 (hB b hb).2
  · rcases mem x hx with hx | rfl
    · exact h.nam x hx
    · exact hn
  · rcases mem x hx with hx | rfl
    · exact h.ge x hx
    · exact hf
  · rcases mem x hx with hx | rfl
    · exact h.lt x hx
    · exact hfN
  · rw [List.pairwise_append,List.pairwise_cons]
    refine ⟨h.uni.filter _,⟨fun x hx=>fun e=>hu x (hB x hx).1 (nB x hx) e.symm,h.uni.filter _⟩,fun a ha b hb=>?_⟩
    rcases List.mem_cons.1 hb with rfl | hb
    · exact hu a (hA a ha).1 (nA a ha)
    · intro e
      have:a=b:=Classical.byContradiction (fun hne=>pair_ne h.uni (hA a ha).1 (hB b hb).1 hne e)
      subst this
      have h1:=(hA a ha).2
      rw [ltB_asym (hB a hb).2] at h1; cases h1
  · rw [List.length_append,List.length_cons]
    have h1:=len_split n d
    have h2:=h.few
    rcases hl with hl | ⟨x,hx,e⟩
    · split at h1 <;> omega
    · have:d.any (fun x=>decide (x.1=n))=true:=by rw [List.any_eq_true]; exact ⟨x,hx,by simpa using e⟩
      rw [if_pos this] at h1; omega
end Go.Proofs.YtbgbmfmgdgalbaaGreatDoor
