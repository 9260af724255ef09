import Derived.Test.YtbgbmfmgdgalbaaGreatDoorM05
namespace Go.Proofs.YtbgbmfmgdgalbaaGreatDoor
open Go.RowKit Go.Maps
set_option linter.unusedVariables false
set_option linter.unusedSimpArgs false
theorem fs_up {W:World} {g:Nat} {X:Gh} {F:Fs} (h:FsP W g X F):(W.setCell ⟨g,1,none⟩ (.int .i64 ((F.steps + 1:Nat):Int))).heap[g]?=some (.cells #[.bool F.down,.int .i64 ((F.steps + 1:Nat):Int),.int .i64 (F.files.length:Int),.map (some X.mn),.map (some X.ms),X.cv,X.qv] 74)∧Only W (W.setCell ⟨g,1,none⟩ (.int .i64 ((F.steps + 1:Nat):Int))) g:=fs_set h.blk 1 _
theorem PRow.form0 {W:World} {v:Value} (h:PRow W v []):∃ P c,v=.slice P 0 c:=by
  rcases h with ⟨rfl,_⟩ | ⟨g,o,c,cur,rfl,_⟩
  · exact ⟨_,_,rfl⟩
  · exact ⟨_,_,rfl⟩
theorem PRow.form {W:World} {v:Value} {l:List Pq} (h:PRow W v l):∃ P c,v=.slice P l.length c:=by
  rcases h with ⟨rfl,rfl⟩ | ⟨g,o,c,cur,rfl,_⟩
  · exact ⟨_,_,rfl⟩
  · exact ⟨_,_,rfl⟩
theorem due_no {W:World} {g:Nat} {X:Gh} {F:Fs} (h:FsP W g X F) (hs:F.steps ≤ 3298534883328) (hq:X.qs.length ≤ 3298534883328) (hn:∀ q l,X.qs=q :: l → q.s ≠ F.steps + 1) {W1:World} (ho:Only W W1 g) (hb:W1.heap[g]?=some (.cells #[.bool F.down,.int .i64 ((F.steps + 1:Nat):Int),.int .i64 (F.files.length:Int),.map (some X.mn),.map (some X.ms),X.cv,X.qv] 74)) :
    Calls Tryz.prog 159 #[ptr (some g)] W1 fun e w'=>DueNo W1 e w':=by
  have hp:PRow W1 X.qv X.qs:=h.row.to (fun k hk=>ho.other k (h.ne_g.2.2.2.2 k hk))
  rcases hqs:X.qs with _ | ⟨q,l⟩
  · rw [hqs] at hp
    obtain ⟨P,c,e⟩:=hp.form0
    rw [e] at hb
    exact due_none g _ _ _ _ _ _ P c W1 hb
  · rw [hqs] at hp hq
    exact due_other g _ _ _ _ _ _ (by omega) X.qv q l (hn q l hqs) (by simp at hq; omega) W1 hp hb
set_option maxHeartbeats 4000000 in
set_option maxRecDepth 100000 in
theorem sop_done (g:Nat) (X:Gh) (F:Fs) (D:Nat) (eD:∀ args w,(callFunc D args).run Tryz.prog w=.ok (.enter D args) w) (pre free:Array Value) (fv:Value) (PD:World → World → Prop) (PF:Gh → World → Int → World → Prop) (w:World) (h:FsP w g X F) (hs:Sm F X) (hn:∀ q l,X.qs=q :: l → q.s ≠ F.steps + 1)
    (hdo:∀ w1,ModP (Own g F X) w w1 → FsP w1 g X (up1 F) → Calls Tryz.prog D (pre ++ free) w1 fun e w'=>e=.returned (.tuple #[])∧PD w1 w') :
    Calls Tryz.prog 125 #[ptr (some g),.func (.func D) pre free,fv] w fun e w'=>StepP g X F w PD PF e w':=by
  obtain ⟨h1,h2⟩:=fs_up h
  obtain ⟨hpl,hst⟩:=h.pln.none_due hn
  obtain ⟨_,c1,_,_,_,_,_,cf⟩:=h.cells
  have f1:=cf 1
  have hst1:=hs.st
  have hw1:IntKind.i64.wrap ((F.steps:Int) + 1)=((F.steps + 1:Nat):Int):=by rw [IntKind.wrap_i64] <;> omega
  obtain ⟨W1,hW1⟩:∃ W1,w.setCell ⟨g,1,none⟩ (.int .i64 ((F.steps + 1:Nat):Int))=W1:=⟨_,rfl⟩
  rw [hW1] at h1 h2
  have HDU:Hid (Calls Tryz.prog 159 #[ptr (some g)] W1 fun e w'=>DueNo W1 e w'):=due_no h hs.st hs.qs hn h2 h1
  have hF1:FsP W1 g X (up1 F):=h.flag h2 ⟨rfl,rfl,rfl,rfl⟩ h1 hpl (fun q _ hh=>⟨hh.cr,hh.fl⟩)
  have HF1:Hid (FsP W1 g X (up1 F)):=hF1
  have HM1:Hid (ModP (Own g F X) w W1):=ModP.only h2 (Or.inl rfl)
  have HDO:Hid _:=hdo
  have HST:Hid (stepM F=(up1 F,0,0)):=hst
  obtain ⟨ns,hns⟩:∃ ns,F.steps + 1=ns:=⟨_,rfl⟩
  rw [hns] at hw1 hW1
  clear h h1 h2 hpl hst cf hs hn hF1 hdo hst1 hns
  unfold ptr at HDU ⊢
  go_enter Tryz.func125,Tryz.ntmps125
  go_wp2_with fail
  refine (show Calls _ _ _ _ _ from HDU.out).mono ?_
  rintro e w2 ⟨rfl,hb2⟩
  have HF2:Hid (FsP w2 g X (up1 F)):=HF1.out.on hb2
  have HM2:Hid (ModP (Own g F X) w w2):=HM1.out.trans (ModP.below hb2)
  clear hb2 c1 f1 hW1
  go_wp2_with (refine stP rfl _ _ rfl w2.heap.size 0 (.int .i64 0) (.bool false) .nilFunc #[.int .i64 0,.bool false,.nilFunc] rfl rfl ⟨rfl,rfl,rfl⟩ (one_alloc _ _) (by simp) ?_; intro W3 hr3 ho3)
  have hr3':W3.heap[w2.heap.size]?=some (.cells #[.int .i64 0,.bool false,.nilFunc] 91):=hr3
  have hb3:Below w2.heap.size w2 W3:=((Below.refl _ w2).alloc (Nat.le_refl _) _).trans (ho3.below (Nat.le_refl _))
  have HF3:Hid (FsP W3 g X (up1 F)):=HF2.out.on hb3
  have HM3:Hid (ModP (Own g F X) w W3):=HM2.out.trans (ModP.below hb3)
  clear hr3 hr3' hb3 ho3
  refine (show Calls _ _ _ _ _ from HDO.out W3 HM3.out HF3.out).mono ?_
  rintro e w4 ⟨rfl,hpd⟩
  have HPD:Hid (PD W3 w4):=hpd
  clear hpd
  go_wp2
  go_returns
  refine ⟨by rw [HST.out]; rfl,Or.inl ⟨by rw [HST.out],by rw [HST.out],W3,HM3.out,HF3.out,HPD.out⟩⟩
theorem FsC.repl {W W':World} {g:Nat} {X:Gh} {F F':Fs} {qv:Value} {qs:List Pq} (h:FsC W g X F) (hm:ModP (fun k=>k=g ∨ X.qv.ownBlock=some k) W W') (hF:F'.files=F.files∧F'.dir=F.dir∧F'.sure=F.sure∧F'.chg=F.chg) (hb:W'.heap[g]?=some (.cells #[.bool F'.down,.int .i64 (F'.steps:Int),.int .i64 (F'.files.length:Int),.map (some X.mn),.map (some X.ms),X.cv,qv] 74)) (hr:PRow W' qv qs):FsC W' g { X with qv:=qv,qs:=qs } F':=by
  obtain ⟨n1,n2,n3,n4,n5⟩:=h.ne_g
  obtain ⟨e1,e2,e3,e4⟩:=hF
  have key:∀ {k:Nat} {cs:Array Value} {t:Nat} {fz:Nat × Nat},W.heap[k]?=some (.cells cs t fz) → t ≠ 74 → t ≠ 91 → W'.heap[k]?=W.heap[k]?:=fun {k cs t fz} hk h1 h2=>hm.oth k (row_lt hk) (fun hs=>by
    rcases hs with rfl | hs
    · have:=hk.symm.trans h.blk
      injection this with this
      injection this with _ h3
      exact h1 h3
    · obtain ⟨cur,hc⟩:=h.row.type hs
      have:=hk.symm.trans hc
      injection this with this
      injection this with _ h3
      exact h2 h3)
  have keym:∀ {k n:Nat} {f:ByteArray → Option Nat},MapIs W k n f → W'.heap[k]?=W.heap[k]?:=fun {k n f} hk=>hm.oth k hk.lt (fun hs=>by
    rcases hs with rfl | hs
    · exact hk.ne h.blk rfl
    · obtain ⟨cur,hc⟩:=h.row.type hs
      exact hk.ne hc rfl)
  have eL:∀ i,Live F' { X with qv:=qv,qs:=qs } i ↔ Live F X i:=fun i=>by unfold Live; rw [e2,e3]
  have eo:∀ k,dirK F' k=dirK F k:=fun k=>by unfold dirK; rw [e3,e4]
  have ec:chgL F' { X with qv:=qv,qs:=qs }=chgL F X:=by unfold chgL; rw [e4]
  obtain ⟨k1,hn⟩:=h.now
  obtain ⟨k2,hs⟩:=h.safe
  refine ⟨⟨fun k hk=>?_,?_,?_,?_,?_⟩,hb,⟨k1,?_⟩,⟨k2,?_⟩,h.mne,?_,hr,fun i x hl hx=>?_,fun i j hi hj=>h.inj i j ((eL i).1 hi) ((eL j).1 hj)⟩
  · rw [eo,e1]; exact h.ok.dirs k (by rw [← e4]; exact hk)
  · rw [eo,e2,e4]; exact h.ok.now
  · rw [e4]; exact h.ok.cl
  · rw [e1]; exact h.ok.cfl
  · rw [e4]; exact h.ok.ch
  · rw [e2]; exact hn.to (keym hn)
  · rw [e3]; exact hs.to (keym hs)
  · rw [ec,e4]
    refine own_to h.chg (fun k hk=>?_)
    obtain ⟨cur,hc⟩:=own_type h.chg hk
    exact key hc (by decide) (by decide)
  · rw [e1] at hx
    have hl':=(eL i).1 hl
    have hf:=h.fil i x hl' hx
    refine hf.to (key hf.blk (by decide) (by decide)) (fun k hk=>?_)
    obtain ⟨cur,hc⟩:=own_type hf.own hk
    exact key hc (by decide) (by decide)
theorem Bec.repl {W W':World} {g:Nat} {X:Gh} {F F':Fs} {qv:Value} {qs:List Pq} (h:FsC W g X F) (hm:ModP (fun k=>k=g ∨ X.qv.ownBlock=some k) W W') (hF:F'.files=F.files∧F'.dir=F.dir∧F'.sure=F.sure∧F'.chg=F.chg) (hi:FsP W' g { X with qv:=qv,qs:=qs } F') (hq:∀ k,qv.ownBlock=some k → X.qv.ownBlock=some k ∨ W.heap.size ≤ k) (hl:qs.length ≤ X.qs.length + 1) (hn:∀ q ∈ qs,q ∈ X.qs ∨ Fresh W.heap.size W' q):Bec W g X F W' { X with qv:=qv,qs:=qs } F':=by
  refine ⟨hi,hm.weak (fun k _ hk=>?_),fun k hk=>?_,hl,hn⟩
  · rcases hk with rfl | hk
    · exact Or.inl rfl
    · exact Or.inr (Or.inr (Or.inr (Or.inr (Or.inr hk))))
  · rcases hk with rfl | rfl | rfl | ⟨i,hl',hk⟩ | hk | hk
    · exact Or.inl (Or.inl rfl)
    · exact Or.inl (Or.inr (Or.inl rfl))
    · exact Or.inl (Or.inr (Or.inr (Or.inl rfl)))
    · refine Or.inl (Or.inr (Or.inr (Or.inr (Or.inl ⟨i,?_,hk⟩))))
      unfold Live at *
      rw [hF.2.1,hF.2.2.1] at hl'
      exact hl'
    · exact Or.inl (Or.inr (Or.inr (Or.inr (Or.inr (Or.inl hk)))))
    · rcases hq k hk with h1 | h1
      · exact Or.inl (Or.inr (Or.inr (Or.inr (Or.inr (Or.inr h1)))))
      · exact Or.inr h1
set_option maxHeartbeats 1000000 in
theorem Fail1_any (g b:Nat) (p:Int) (D:Nat) (eD:∀ args w,(callFunc D args).run Tryz.prog w=.ok (.enter D args) w) (pre free:Array Value) (Po:World → Prop) (w:World) (hb:w.heap[b]?=some (.cells #[.int .i64 p] 3)) (hc:Calls Tryz.prog D (pre ++ #[.int .i64 p] ++ free) w fun e w'=>e=.returned (.tuple #[])∧Po w') :
    Calls Tryz.prog 39 #[ptr (some g),.func (.func D) pre free,.pointer (some ⟨b,0,none⟩)] w fun e w'=>e=.returned (.int .i64 200)∧Po w':=by
  have c0:w.cell? ⟨b,0,none⟩=some (.int .i64 p):=by rw [cell_of_row _ _ _ _ _ _ hb]; rfl
  have HC:Hid _:=hc
  clear hc hb
  unfold ptr
  go_enter Tryz.func39,Tryz.ntmps39
  go_wp2_with fail
  refine (show Calls _ _ _ _ _ from HC.out).mono ?_
  rintro e w1 ⟨rfl,hp⟩
  go_wp2
  go_returns
  exact ⟨rfl,hp⟩
set_option maxHeartbeats 1000000 in
theorem Crash2_any (HGD:GoDownC) (g b:Nat) (X:Gh) (F:Fs) (fv v:Value) (w:World) (h:FsC w g X F) (hs:Sm F X) (hp:F.picks.length ≤ 17592186044416) (hb:w.heap[b]?=some (.cells #[v] 44)) (hv:w.ownsRow 0 3 1 v F.picks.length (pinE.fl F.picks)) :
    Calls Tryz.prog 45 #[ptr (some g),fv,.pointer (some ⟨b,0,none⟩)] w fun e w'=>e=.returned (.int .i64 203)∧∃ X',Bec w g X F w' X' (downM F F.picks):=by
  have c0:w.cell? ⟨b,0,none⟩=some v:=by rw [cell_of_row _ _ _ _ _ _ hb]; rfl
  have HC:Hid _:=HGD g X F v F.picks w h hs hp (Pks.own h hv)
  obtain ⟨P,c,rfl⟩:=own_form hv
  clear h hs hp hb hv
  unfold ptr at HC ⊢
  go_enter Tryz.func45,Tryz.ntmps45
  go_wp2_with fail
  refine (show Calls _ _ _ _ _ from HC.out).mono ?_
  rintro e w1 ⟨rfl,hp⟩
  have HP:Hid _:=hp
  clear hp
  go_wp2
  go_returns
  exact ⟨rfl,HP.out⟩
end Go.Proofs.YtbgbmfmgdgalbaaGreatDoor
namespace Go.Proofs.YtbgbmfmgdgalbaaGreatDoor
open Go.RowKit Go.Maps
set_option linter.unusedVariables false
set_option linter.unusedSimpArgs false
structure Dued (w:World) (g:Nat) (X:Gh) (F:Fs) (q:Pq) (l:List Pq) (W:World) (qv:Value):Prop where
  blk:W.heap[g]?=some (.cells #[.bool F.down,.int .i64 ((F.steps + 1:Nat):Int),.int .i64 (F.files.length:Int),.map (some X.mn),.map (some X.ms),X.cv,qv] 74)
  row:PRow W qv l
  md:ModP (fun k=>k=g ∨ X.qv.ownBlock=some k) w W
  ob:∀ k,qv.ownBlock=some k → X.qv.ownBlock=some k
theorem Dued.on {w:World} {g:Nat} {X:Gh} {F:Fs} {q:Pq} {l:List Pq} {W W':World} {qv:Value} (h:Dued w g X F q l W qv) (hb:Below W.heap.size W W'):Dued w g X F q l W' qv:=
  ⟨(hb.block g (row_lt h.blk)).trans h.blk,h.row.to (fun k hk=>by obtain ⟨c,hc⟩:=h.row.type hk; exact hb.block k (row_lt hc)),h.md.trans (ModP.below hb),h.ob⟩
theorem Dued.hold {w:World} {g:Nat} {X:Gh} {F F':Fs} {q:Pq} {l:List Pq} {W:World} {qv:Value} (h:Dued w g X F q l W qv) (hf:FsP w g X F) {x:Pq} (hx:Holds w F' x):Holds W F' x:=by
  refine hx.to (fun k cs t fz hk ht=>h.md.oth k (row_lt hk) (fun hs=>ht ?_))
  rcases hs with rfl | hs
  · have:=hk.symm.trans hf.blk
    injection this with this
    injection this with _ h2
    rw [h2]; exact Or.inl rfl
  · obtain ⟨cur,hc⟩:=hf.row.type hs
    have:=hk.symm.trans hc
    injection this with this
    injection this with _ h2
    rw [h2]; exact Or.inr (Or.inr (Or.inr (Or.inr rfl)))
set_option maxHeartbeats 4000000 in
set_option maxRecDepth 100000 in
theorem sop_due (g:Nat) (X:Gh) (F:Fs) (dv fv:Value) (q:Pq) (l:List Pq) (hq:X.qs=q :: l) (hqs:q.s=F.steps + 1) (M:Nat) (eM:∀ args w,(callFunc M args).run Tryz.prog w=.ok (.enter M args) w) (hM:meetV q=.func (.func M) #[] #[.pointer (some ⟨q.b,0,none⟩)]) (er:Int) (Po:World → World → Prop) (w:World) (h:FsP w g X F) (hs:Sm F X)
    (hmeet:∀ W qv,Dued w g X F q l W qv → Calls Tryz.prog M #[ptr (some g),fv,.pointer (some ⟨q.b,0,none⟩)] W fun e w'=>e=.returned (.int .i64 er)∧Po W w') :
    Calls Tryz.prog 125 #[ptr (some g),dv,fv] w fun e w'=>e=.returned (.int .i64 er)∧∃ W qv,Dued w g X F q l W qv∧Po W w':=by
  obtain ⟨h1,h2⟩:=fs_up h
  obtain ⟨_,c1,_,_,_,_,_,cf⟩:=h.cells
  have f1:=cf 1
  have hst1:=hs.st
  have hw1:IntKind.i64.wrap ((F.steps:Int) + 1)=((F.steps + 1:Nat):Int):=by rw [IntKind.wrap_i64] <;> omega
  obtain ⟨W1,hW1⟩:∃ W1,w.setCell ⟨g,1,none⟩ (.int .i64 ((F.steps + 1:Nat):Int))=W1:=⟨_,rfl⟩
  rw [hW1] at h1 h2
  have hp1:PRow W1 X.qv (q :: l):=by rw [← hq]; exact h.row.to (fun k hk=>h2.other k (h.ne_g.2.2.2.2 k hk))
  have hql:l.length ≤ 3298534883328:=by have:=hs.qs; rw [hq] at this; simp at this; omega
  have HDU:Hid (Calls Tryz.prog 159 #[ptr (some g)] W1 fun e w'=>DueYes W1 g (.bool F.down) (.int .i64 (F.files.length:Int)) (.map (some X.mn)) (.map (some X.ms)) X.cv (F.steps + 1) X.qv q l e w'):=due_yes g _ _ _ _ _ (F.steps + 1) (by omega) X.qv q l hqs hql W1 hp1 h1
  have HM1:Hid (ModP (fun k=>k=g ∨ X.qv.ownBlock=some k) w W1):=ModP.only h2 (Or.inl rfl)
  have HME:Hid _:=hmeet
  obtain ⟨ns,hns⟩:∃ ns,F.steps + 1=ns:=⟨_,rfl⟩
  rw [hns] at hw1 hW1
  have HNS:Hid (F.steps + 1=ns):=hns
  clear h h1 h2 cf hs hp1 hql hmeet hst1 hns hqs
  unfold ptr at HDU ⊢
  go_enter Tryz.func125,Tryz.ntmps125
  go_wp2_with fail
  refine (show Calls _ _ _ _ _ from HDU.out).mono ?_
  rintro e w2 ⟨rfl,qv,hb2,hr2,ho2,hm2⟩
  have HD2:Hid (Dued w g X F q l w2 qv):=⟨hb2,hr2,HM1.out.trans hm2,ho2⟩
  rw [hM]
  clear hb2 hr2 ho2 hm2 c1 f1 hW1
  go_upto_region 4 with (refine stP rfl _ _ rfl w2.heap.size 0 (.int .i64 (q.s:Int)) (.bool q.c) (.func (.func M) #[] #[.pointer (some ⟨q.b,0,none⟩)]) #[.int .i64 0,.bool false,.nilFunc] rfl rfl ⟨rfl,rfl,rfl⟩ (one_alloc _ _) (by simp) ?_; intro W3 hr3 ho3)
  have hr3':W3.heap[w2.heap.size]?=some (.cells #[.int .i64 (q.s:Int),.bool q.c,.func (.func M) #[] #[.pointer (some ⟨q.b,0,none⟩)]] 91):=hr3
  have hb3:Below w2.heap.size w2 W3:=((Below.refl _ w2).alloc (Nat.le_refl _) _).trans (ho3.below (Nat.le_refl _))
  have HD3:Hid (Dued w g X F q l W3 qv):=HD2.out.on hb3
  obtain ⟨_,_,r2,_⟩:=row3 hr3'
  clear hr3 hr3' hb3 ho3
  go_wp2_with fail
  unfold ptr at HME
  refine (show Calls _ _ _ _ _ from HME.out W3 qv HD3.out).mono ?_
  rintro e w4 ⟨rfl,hpo⟩
  have HPO:Hid (Po W3 w4):=hpo
  clear hpo
  go_wp2
  go_returns
  exact ⟨rfl,W3,qv,HD3.out,HPO.out⟩
theorem eM_fail (args:Array Value) (w:World):(callFunc 39 args).run Tryz.prog w=.ok (.enter 39 args) w:=by kernel_rfl
theorem eM_crash (args:Array Value) (w:World):(callFunc 45 args).run Tryz.prog w=.ok (.enter 45 args) w:=by kernel_rfl
theorem Dued.fsp {w:World} {g:Nat} {X:Gh} {F:Fs} {q:Pq} {l:List Pq} {W:World} {qv:Value} (h:Dued w g X F q l W qv) (hf:FsP w g X F) (hq:X.qs=q :: l) (hp:Plans (up1 F) l):Bec w g X F W { X with qv:=qv,qs:=l } (up1 F):=by
  have h1:FsP W g { X with qv:=qv,qs:=l } (up1 F):=⟨hf.toFsC.repl h.md ⟨rfl,rfl,rfl,rfl⟩ h.blk h.row,hp,fun x hx=>by
    have:=hf.hld x (by rw [hq]; exact List.mem_cons_of_mem _ hx)
    exact h.hold hf ⟨this.cr,this.fl⟩⟩
  exact Bec.repl hf.toFsC h.md ⟨rfl,rfl,rfl,rfl⟩ h1 (fun k hk=>Or.inl (h.ob k hk)) (by rw [hq]; simp; omega) (fun x hx=>Or.inl (by rw [hq]; exact List.mem_cons_of_mem _ hx))
theorem Dued.own {w:World} {g:Nat} {X:Gh} {F:Fs} {q:Pq} {l:List Pq} {W:World} {qv:Value} (h:Dued w g X F q l W qv) {k:Nat} (hk:Own g (up1 F) { X with qv:=qv,qs:=l } k):Own g F X k:=by
  rcases hk with rfl | rfl | rfl | hk | hk | hk
  · exact Or.inl rfl
  · exact Or.inr (Or.inl rfl)
  · exact Or.inr (Or.inr (Or.inl rfl))
  · exact Or.inr (Or.inr (Or.inr (Or.inl hk)))
  · exact Or.inr (Or.inr (Or.inr (Or.inr (Or.inl hk))))
  · exact Or.inr (Or.inr (Or.inr (Or.inr (Or.inr (h.ob k hk)))))
theorem stepOrPart_any (HGD:GoDownC) (g:Nat) (X:Gh) (F:Fs) (D:Nat) (eD:∀ args w,(callFunc D args).run Tryz.prog w=.ok (.enter D args) w) (pre free:Array Value) (D2:Nat) (eD2:∀ args w,(callFunc D2 args).run Tryz.prog w=.ok (.enter D2 args) w) (pre2 free2:Array Value) (PD:World → World → Prop) (PF:Gh → World → Int → World → Prop) (w:World) (h:FsP w g X F) (hs:Sm F X) (hs1:F.steps < 3298534883328) (hpk:F.picks.length ≤ 17592186044416)
    (hdo:∀ w1,ModP (Own g F X) w w1 → FsP w1 g X (up1 F) → Calls Tryz.prog D (pre ++ free) w1 fun e w'=>e=.returned (.tuple #[])∧PD w1 w')
    (hfl:∀ w1 qv qs p,Bec w g X F w1 { X with qv:=qv,qs:=qs } (up1 F) → Calls Tryz.prog D2 (pre2 ++ #[.int .i64 p] ++ free2) w1 fun e w'=>e=.returned (.tuple #[])∧PF { X with qv:=qv,qs:=qs } w1 p w') :
    Calls Tryz.prog 125 #[ptr (some g),.func (.func D) pre free,.func (.func D2) pre2 free2] w fun e w'=>StepP g X F w PD PF e w':=by
  by_cases hd:∃ q l,X.qs=q :: l∧q.s=F.steps + 1
  · obtain ⟨q,l,hq,hqs⟩:=hd
    have hld:=h.hld q (by rw [hq]; simp)
    have hpl:Plans F (q :: l):=by rw [← hq]; exact h.pln
    rcases hc:q.c with _ | _
    · obtain ⟨p,hp1,hp2⟩:=hld.fl hc
      obtain ⟨hpl',hst⟩:=hpl.fail_due hqs hc hp2
      have hM:meetV q=.func (.func 39) #[] #[.pointer (some ⟨q.b,0,none⟩)]:=by unfold meetV; rw [hc]; rfl
      refine (sop_due g X F _ _ q l hq hqs 39 eM_fail hM 200 (fun W w'=>∀ qv,Dued w g X F q l W qv → PF { X with qv:=qv,qs:=l } W p w') w h hs (fun W qv hD=>?_)).mono ?_
      · have hb:W.heap[q.b]?=some (.cells #[.int .i64 p] 3):=by
          obtain ⟨p',h1,h2⟩:=(hD.hold h hld).fl hc
          rw [hp2] at h2; cases h2; exact h1
        refine (Fail1_any g q.b p D2 eD2 pre2 free2 _ W hb (hfl W qv l p (hD.fsp h hq hpl'))).mono ?_
        rintro e w' ⟨rfl,hpf⟩
        refine ⟨rfl,fun qv' hD'=>?_⟩
        have e1:qv'=qv:=by
          have:=hD'.blk.symm.trans hD.blk
          injection this with this
          injection this with this
          injection this with this
          simpa using this
        rw [e1]; exact hpf
      · rintro e w' ⟨rfl,W,qv,hD,hpo⟩
        exact ⟨by rw [hst],Or.inr (Or.inl ⟨by rw [hst],by rw [hst],W,qv,l,hD.fsp h hq hpl',by rw [hst]; exact hpo qv hD⟩)⟩
    · obtain ⟨hcr,v,hv1,hv2⟩:=hld.cr hc
      have hst:=crash_due hqs hcr
      have hM:meetV q=.func (.func 45) #[] #[.pointer (some ⟨q.b,0,none⟩)]:=by unfold meetV; rw [hc]; rfl
      refine (sop_due g X F _ _ q l hq hqs 45 eM_crash hM 203 (fun W w'=>∃ X',Bec w g X F w' X' (downM (up1 F) F.picks)) w h hs (fun W qv hD=>?_)).mono ?_
      · have hc2:FsC W g { X with qv:=qv,qs:=l } (up1 F):=h.toFsC.repl hD.md ⟨rfl,rfl,rfl,rfl⟩ hD.blk hD.row
        obtain ⟨_,v',hb1,hb2⟩:=(hD.hold h hld).cr hc
        have hsm:Sm (up1 F) { X with qv:=qv,qs:=l }:=⟨by show F.steps + 1 ≤ _; omega,hs.fi,hs.ch,by have:=hs.qs; rw [hq] at this; simp at this; show l.length ≤ _; omega⟩
        refine (Crash2_any HGD g q.b { X with qv:=qv,qs:=l } (up1 F) _ v' W hc2 hsm hpk hb1 hb2).mono ?_
        rintro e w' ⟨rfl,X',hB⟩
        have hmd:ModP (Own g F X) w W:=hD.md.weak (fun k _ hk=>by
          rcases hk with rfl | hk
          · exact Or.inl rfl
          · exact Or.inr (Or.inr (Or.inr (Or.inr (Or.inr hk)))))
        refine ⟨rfl,X',hB.is,hmd.andThen hB.md (fun j _ hj=>hD.own hj),fun k hk=>?_,?_,fun x hx=>(hB.nq x hx).imp (fun h6=>by rw [hq]; exact List.mem_cons_of_mem _ h6) (fun h6=>h6.le hD.md.size)⟩
        · rcases hB.own k hk with h1 | h1
          · exact Or.inl (hD.own h1)
          · exact Or.inr (Nat.le_trans hD.md.size h1)
        · have h1:=hB.len
          have h2:X.qs.length=l.length + 1:=by rw [hq]; rfl
          have h3:X'.qs.length ≤ l.length + 1:=h1
          omega
      · rintro e w' ⟨rfl,W,qv,hD,hpo⟩
        exact ⟨by rw [hst],Or.inr (Or.inr ⟨by rw [hst],by rw [hst]; exact hpo⟩)⟩
  · have hn:∀ q l,X.qs=q :: l → q.s ≠ F.steps + 1:=fun q l e1 e2=>hd ⟨q,l,e1,e2⟩
    exact sop_done g X F D eD pre free _ PD PF w h hs hn hdo
end Go.Proofs.YtbgbmfmgdgalbaaGreatDoor
