import Derived.Test.YtbgbmfmgdgalbaaGreatDoorM22
namespace Go.Proofs.YtbgbmfmgdgalbaaGreatDoor
open Go.RowKit Go.Maps
set_option linter.unusedVariables false
set_option linter.unusedSimpArgs false
def viewM (F:Fs) (n:ByteArray):Option ByteArray:=if findM F.dir n < 0 then none else some (fileAt F (findM F.dir n).toNat).d
def orNo (o:Option ByteArray):ByteArray × Bool:=match o with
  | some v=>(v,true)
  | none=>(⟨#[]⟩,false)
def lookM (l:List (ByteArray × ByteArray)) (n:ByteArray):ByteArray × Bool:=match l.find? (fun y=>decide (y.1=n)) with
  | some y=>(y.2,true)
  | none=>(⟨#[]⟩,false)
theorem look_map {d:List Sl} {N:Nat} (h:DOk d N) (n:ByteArray) (g:Int → ByteArray):lookM (d.map fun x=>(x.1,g x.2)) n=if findM d n < 0 then (⟨#[]⟩,false) else (g (findM d n),true):=by
  unfold lookM findM
  rw [List.find?_map]
  have e:((fun y:ByteArray × ByteArray=>decide (y.1=n)) ∘ fun x:Sl=>(x.1,g x.2))=fun x:Sl=>decide (x.1=n):=rfl
  rw [e]
  rcases hf:d.find? (fun x=>decide (x.1=n)) with _ | x
  · simp only [hf,Option.map_none,Option.getD_none]
    rw [if_pos (by decide)]
  · have:=h.ge x (List.mem_of_find?_eq_some hf)
    simp only [hf,Option.map_some,Option.getD_some]
    rw [if_neg (by omega)]
theorem look_now {F:Fs} (h:Okf F) (n:ByteArray):lookM (nowM F) n=orNo (viewM F n):=by
  rw [now_fa,look_map h.dk n (fun i=>(fileAt F i.toNat).d)]
  unfold viewM
  split <;> rfl
theorem read_view {F:Fs} (hu:F.down=false) {n:ByteArray} (hn:namedM n=true):(readM F n).1=(orNo (viewM F n)).1∧decide ((readM F n).2=0)=(orNo (viewM F n)).2:=by
  unfold readM viewM
  by_cases hf:findM F.dir n < 0
  · have h1:hasM F n=201:=by unfold hasM; rw [hu,hn,if_pos hf]; rfl
    rw [h1,if_neg (by decide),if_pos hf]
    exact ⟨rfl,rfl⟩
  · have h1:hasM F n=0:=has_zero.2 ⟨hu,hn,hf⟩
    rw [h1,if_pos rfl,if_neg hf]
    exact ⟨rfl,rfl⟩
structure Dw (F:Fs):Prop where
  ok:Okf F
  fz:∀ x ∈ F.files,FiZ x
  dn:F.down=true → Tight F∧F.fails=[]∧F.crash=0
theorem Dw.iv {F:Fs} (h:Dw F):Iv F F.fails.length:=⟨h.fz,Nat.le_refl _⟩
theorem Dw.up {F:Fs} (ho:Okf F) (hz:∀ x ∈ F.files,FiZ x) (hu:F.down=false):Dw F:=⟨ho,hz,fun hd=>by rw [hu] at hd; cases hd⟩
theorem Dw.new:Dw newM:=Dw.up ⟨[],newOk⟩ (fun x hx=>by cases hx) rfl
theorem Dw.down {F:Fs} (h:Dw F) (p:List Int):Dw (downM F p):=by
  obtain ⟨cf,hf⟩:=h.ok
  exact ⟨h.ok.down p,(iv_down h.iv p).fz,fun _=>⟨down_tight hf (fun j _ x _=>(h.iv.fileAt _).2) p,rfl,rfl⟩⟩
theorem Dw.up1 {F:Fs} (h:Dw F) (hu:F.down=false):Dw (up1 F):=Dw.up (h.ok.same (Nat.le_refl _) rfl rfl rfl) h.fz hu
theorem Dw.step {F:Fs} (h:Dw F) (hu:F.down=false):Dw (stepM F).1:=by
  have h1:Dw { F with steps:=F.steps + 1 }:=h.up1 hu
  unfold stepM
  simp only
  split
  · exact h1.down _
  · split <;> exact h1
theorem Dw.of {F F':Fs} (h:Dw F) (ho:Okf F') (hz:∀ x ∈ F'.files,FiZ x) (hs:F'=F ∨ F'.down=false ∨ (F.down=false∧F'=(stepM F).1)):Dw F':=by
  rcases hs with e | e | ⟨hu,e⟩
  · rw [e]; exact h
  · exact Dw.up ho hz e
  · rw [e]; exact h.step hu
def Way (F F':Fs):Prop:=F'=F ∨ F'.down=false ∨ (F.down=false∧F'=(stepM F).1)
theorem way_ite {F:Fs} {c:Prop} [Decidable c] {a b:Fs × Int} (ha:c → Way F a.1) (hb:¬ c → Way F b.1):Way F (if c then a else b).1:=by
  by_cases h:c
  · rw [if_pos h]; exact ha h
  · rw [if_neg h]; exact hb h
theorem not_down {F:Fs} (h:¬ F.down=true):F.down=false:=by simpa using h
theorem Dw.create {F:Fs} (h:Dw F) (n:ByteArray):Dw (createM F n).1:=by
  refine h.of (h.ok.create n) (iv_create h.iv n).fz (show Way _ _ from ?_)
  unfold createM
  refine way_ite (fun _=>Or.inl rfl) (fun hd=>way_ite (fun _=>way_ite (fun _=>Or.inl rfl) (fun _=>way_ite (fun h0=>Or.inr (Or.inl ?_)) (fun _=>Or.inr (Or.inr ⟨not_down hd,rfl⟩)))) (fun _=>Or.inl rfl))
  show (stepM F).1.down=false
  rw [stepM_zero h0]
  exact not_down hd
theorem Dw.append {F:Fs} (h:Dw F) (n d:ByteArray):Dw (appendM F n d).1:=by
  refine h.of (h.ok.append n d) (iv_append h.iv n d).fz (show Way _ _ from ?_)
  unfold appendM
  refine way_ite (fun hh=>way_ite (fun _=>Or.inl rfl) (fun _=>way_ite (fun _=>Or.inr (Or.inr ⟨up_down hh,rfl⟩)) (fun h3=>Or.inr (Or.inl ?_)))) (fun _=>Or.inl rfl)
  show (stepM F).1.down=false
  have hu:(stepM F).1=Go.Proofs.YtbgbmfmgdgalbaaGreatDoor.up1 F:=by
    rcases stepM_cases F with h1 | ⟨_,h1⟩ | ⟨_,h1⟩
    · exact absurd h1 h3
    · exact h1
    · exact h1
  rw [hu]
  exact up_down hh
theorem Dw.sync {F:Fs} (h:Dw F) (n:ByteArray):Dw (syncM F n).1:=by
  refine h.of (h.ok.sync n) (iv_sync h.iv n).fz (show Way _ _ from ?_)
  unfold syncM
  refine way_ite (fun hh=>way_ite (fun h0=>Or.inr (Or.inl ?_)) (fun _=>Or.inr (Or.inr ⟨up_down hh,rfl⟩))) (fun _=>Or.inl rfl)
  show (stepM F).1.down=false
  rw [stepM_zero h0]
  exact up_down hh
theorem Dw.rename {F:Fs} (h:Dw F) (n t:ByteArray):Dw (renameM F n t).1:=by
  refine h.of (h.ok.rename n t) (iv_rename h.iv n t).fz (show Way _ _ from ?_)
  unfold renameM
  refine way_ite (fun _=>Or.inl rfl) (fun _=>way_ite (fun hh=>way_ite (fun h0=>Or.inr (Or.inl ?_)) (fun _=>Or.inr (Or.inr ⟨up_down hh,rfl⟩))) (fun _=>Or.inl rfl))
  show (stepM F).1.down=false
  rw [stepM_zero h0]
  exact up_down hh
theorem Dw.remove {F:Fs} (h:Dw F) (n:ByteArray):Dw (removeM F n).1:=by
  refine h.of (h.ok.remove n) (iv_remove h.iv n).fz (show Way _ _ from ?_)
  unfold removeM
  refine way_ite (fun hh=>way_ite (fun h0=>Or.inr (Or.inl ?_)) (fun _=>Or.inr (Or.inr ⟨up_down hh,rfl⟩))) (fun _=>Or.inl rfl)
  show (stepM F).1.down=false
  rw [stepM_zero h0]
  exact up_down hh
theorem Dw.syncDir {F:Fs} (h:Dw F):Dw (syncDirM F).1:=by
  refine h.of h.ok.syncDir (iv_syncDir h.iv).fz (show Way _ _ from ?_)
  unfold syncDirM
  refine way_ite (fun _=>Or.inl rfl) (fun hd=>way_ite (fun h0=>Or.inr (Or.inl ?_)) (fun _=>Or.inr (Or.inr ⟨not_down hd,rfl⟩)))
  show (stepM F).1.down=false
  rw [stepM_zero h0]
  exact not_down hd
theorem Dw.fails {F:Fs} (h:Dw F) (n p:Int):Dw (failsM F n p).1:=by
  refine h.of (h.ok.fails n p) (iv_fails h.iv n p).fz (show Way _ _ from ?_)
  unfold failsM
  exact way_ite (fun _=>Or.inl rfl) (fun hd=>way_ite (fun _=>Or.inl rfl) (fun _=>Or.inr (Or.inl (not_down hd))))
theorem Dw.crash {F:Fs} (h:Dw F) (n:Int) (p:List Int):Dw (crashM F n p).1:=by
  have ho:=h.ok.crash n p
  have hz:=(iv_crash h.iv n p).fz
  unfold crashM at ho hz ⊢
  by_cases hd:F.down=true
  · rw [if_pos hd]; exact h
  · rw [if_neg hd] at ho hz ⊢
    by_cases h1:n < 0 ∨ 1099511627776 < n
    · rw [if_pos h1]; exact h
    · rw [if_neg h1] at ho hz ⊢
      by_cases h2:n=0
      · rw [if_pos h2]; exact h.down p
      · rw [if_neg h2] at ho hz ⊢; exact Dw.up ho hz (not_down hd)
theorem Dw.start {F:Fs} (h:Dw F):Dw (startM F).1:=by
  refine h.of h.ok.start (iv_start h.iv).fz (show Way _ _ from ?_)
  unfold startM
  exact way_ite (fun _=>Or.inr (Or.inl rfl)) (fun _=>Or.inl rfl)
structure Clo (P:Fs → Prop):Prop where
  create:∀ {F},P F → ∀ n,P (createM F n).1
  append:∀ {F},P F → ∀ n d,P (appendM F n d).1
  sync:∀ {F},P F → ∀ n,P (syncM F n).1
  rename:∀ {F},P F → ∀ n t,P (renameM F n t).1
  remove:∀ {F},P F → ∀ n,P (removeM F n).1
  syncDir:∀ {F},P F → P (syncDirM F).1
theorem clo_and {P:Fs → Prop} {r:Fs × Int} {f:Fs → Fs × Int} (h:P r.1) (hf:P r.1 → P (f r.1).1):P (andM r f).1:=by
  by_cases h0:r.2=0
  · rw [andM_ok h0]; exact hf h
  · rw [andM_no h0]; exact h
theorem Clo.apps {P:Fs → Prop} (c:Clo P) {n:ByteArray}:∀ (k:Nat) {F:Fs} (t:ByteArray),P F → P (appsM k F n t).1
  | 0,F,t,h=>h
  | k + 1,F,t,h=>by
    unfold appsM
    split
    · exact h
    · exact clo_and (c.append h _ _) (fun h2=>c.apps k _ h2)
theorem Clo.written {P:Fs → Prop} (c:Clo P) {F:Fs} (h:P F) (n t:ByteArray):P (writtenM F n t).1:=by
  unfold writtenM
  exact clo_and (c.create h n) (fun h2=>clo_and (c.apps _ t h2) (fun h3=>c.sync h3 n))
theorem Clo.clean {P:Fs → Prop} (c:Clo P) {F:Fs} (h:P F) (n:ByteArray):P (cleanM F n):=by
  unfold cleanM
  split
  · exact c.remove h n
  · exact h
theorem Clo.rens {P:Fs → Prop} (c:Clo P):∀ (m:Nat) {F:Fs},P F → P (rensM m F).1
  | 0,F,h=>h
  | m + 1,F,h=>by
    unfold rensM
    split
    · exact clo_and (c.rename h _ _) (fun h2=>c.rens m h2)
    · exact c.rens m h
theorem Clo.rems {P:Fs → Prop} (c:Clo P):∀ (m:Nat) {F:Fs},P F → P (remsM m F).1
  | 0,F,h=>h
  | m + 1,F,h=>by
    unfold remsM
    split
    · exact clo_and (c.remove h _) (fun h2=>c.rems m h2)
    · exact c.rems m h
theorem Clo.kept {P:Fs → Prop} (c:Clo P) {F:Fs} (h:P F) (keep:Nat):P (keptM F keep).1:=by
  unfold keptM
  split
  · exact clo_and (c.written h _ _) (fun h2=>clo_and (c.rens _ h2) (fun h3=>c.rename h3 _ _))
  · exact h
theorem Clo.steps {P:Fs → Prop} (c:Clo P) {F:Fs} (h:P F) (t:ByteArray) (keep:Nat):P (stepsM F t keep).1:=by
  unfold stepsM
  refine clo_and (c.written h _ _) (fun h2=>?_)
  have h3:P (if decide (0 < keep) && thereM (writtenM F tmpS t).1 liveN then keptM (writtenM F tmpS t).1 keep else ((writtenM F tmpS t).1,0)).1:=by
    split
    · exact c.kept h2 keep
    · exact h2
  exact clo_and h3 (fun h4=>clo_and (c.rename h4 _ _) (fun h5=>clo_and (c.rems _ h5) (fun h6=>c.syncDir h6)))
theorem Clo.save {P:Fs → Prop} (c:Clo P) {F:Fs} (h:P F) (t:ByteArray) (keep:Int):P (saveM F t keep).1:=by
  unfold saveM
  split
  · exact h
  · split
    · exact h
    · simp only
      split
      · exact c.steps h t _
      · exact c.clean (c.clean (c.steps h t _) _) _
theorem Clo.tidys {P:Fs → Prop} (c:Clo P):∀ (l:List ByteArray) (n:Nat) {F:Fs},P F → P (tidysM l n F).1
  | [],n,F,h=>h
  | x :: l,n,F,h=>by
    unfold tidysM
    split
    · simp only
      split
      · exact c.tidys l (n + 1) (c.remove h x)
      · exact c.remove h x
    · exact c.tidys l n h
theorem Clo.tidy {P:Fs → Prop} (c:Clo P) {F:Fs} (h:P F):P (tidyM F).1:=by
  have h1:=c.tidys (listM F).1 0 h
  unfold tidyM
  split
  · simp only
    split
    · split
      · split <;> exact c.syncDir h1
      · exact h1
    · exact h1
  · exact h
theorem Clo.load {P:Fs → Prop} (c:Clo P) {F:Fs} (h:P F):P (loadM F).1:=by
  unfold loadM
  simp only
  split <;> exact c.tidy h
theorem dwClo:Clo Dw:=⟨fun h=>h.create,fun h=>h.append,fun h=>h.sync,fun h=>h.rename,fun h=>h.remove,fun h=>h.syncDir⟩
/-! What Load finds. -/
theorem remove_calm {F:Fs} (h:Calm F) {n:ByteArray} (hn:namedM n=true) (hf:¬ findM F.dir n < 0):removeM F n=(changeM (up1 F) ⟨n,⟨#[]⟩,-1⟩,0):=by
  unfold removeM
  rw [if_pos (has_zero.2 ⟨h.up,hn,hf⟩)]
  simp only [stepM_calm h,if_true]
open Classical in
theorem tidys_calm:∀ (l:List ByteArray) (n:Nat) {F:Fs},Calm F → Okf F → l.Nodup → (∀ x ∈ l,¬ findM F.dir x < 0∧namedM x=true) → ∃ (G:Fs) (m:Nat),tidysM l n F=(G,((n + m:Nat):Int),0)∧Calm G∧Okf G∧G.files=F.files∧(∀ y,findM G.dir y=if y ∈ l∧isTmp y=true then -1 else findM F.dir y)∧(m=0 → G=F)
  | [],n,F,hc,ho,_,_=>⟨F,0,rfl,hc,ho,rfl,fun y=>by rw [if_neg (fun h=>by cases h.1)],fun _=>rfl⟩
  | x :: l,n,F,hc,ho,hd,hl=>by
    obtain ⟨hx,hdl⟩:=List.nodup_cons.1 hd
    unfold tidysM
    by_cases ht:isTmp x=true
    · rw [if_pos ht]
      obtain ⟨h1,h2⟩:=hl x (List.mem_cons_self ..)
      have e:=remove_calm hc h2 h1
      have ho2:=ho.remove x
      rw [e] at ho2
      have hfd:∀ y,findM (changeM (up1 F) ⟨x,⟨#[]⟩,-1⟩).dir y=if y=x then -1 else findM F.dir y:=fun y=>by
        have e2:afterM F.dir ⟨x,⟨#[]⟩,-1⟩=boundM F.dir x (-1):=if_pos rfl
        show findM (afterM F.dir ⟨x,⟨#[]⟩,-1⟩) y=_
        rw [e2,findM_del _ _ _ _ (by decide)]
      obtain ⟨G,m,e3,hcG,hoG,hfG,hdG,_⟩:=tidys_calm l (n + 1) (F:=changeM (up1 F) ⟨x,⟨#[]⟩,-1⟩) ⟨hc.up,hc.fl,hc.cr⟩ ho2 hdl (fun y hy=>by
        obtain ⟨h3,h4⟩:=hl y (List.mem_cons_of_mem _ hy)
        rw [hfd,if_neg (fun h:y=x=>hx (h ▸ hy))]
        exact ⟨h3,h4⟩)
      simp only [e,if_true]
      refine ⟨G,m + 1,?_,hcG,hoG,hfG,fun y=>?_,fun h=>by cases h⟩
      · rw [e3,show n + 1 + m=n + (m + 1) by omega]
      · rw [hdG,hfd]
        by_cases hy:y=x
        · subst hy
          rw [if_pos (rfl:y=y),if_pos (show y ∈ y :: l∧isTmp y=true from ⟨List.mem_cons_self ..,ht⟩)]
          split <;> rfl
        · rw [if_neg hy]
          by_cases h5:y ∈ l∧isTmp y=true
          · rw [if_pos h5,if_pos (show y ∈ x :: l∧isTmp y=true from ⟨List.mem_cons_of_mem _ h5.1,h5.2⟩)]
          · rw [if_neg h5,if_neg (fun h:y ∈ x :: l∧isTmp y=true=>h5 ⟨(List.mem_cons.1 h.1).resolve_left hy,h.2⟩)]
    · rw [if_neg ht]
      obtain ⟨G,m,e3,hcG,hoG,hfG,hdG,hm⟩:=tidys_calm l n hc ho hdl (fun y hy=>hl y (List.mem_cons_of_mem _ hy))
      refine ⟨G,m,e3,hcG,hoG,hfG,fun y=>?_,hm⟩
      rw [hdG]
      by_cases h5:y ∈ l∧isTmp y=true
      · rw [if_pos h5,if_pos (show y ∈ x :: l∧isTmp y=true from ⟨List.mem_cons_of_mem _ h5.1,h5.2⟩)]
      · rw [if_neg h5,if_neg (fun h:y ∈ x :: l∧isTmp y=true=>h5 ⟨(List.mem_cons.1 h.1).resolve_left (fun e=>ht (by rw [← e]; exact h.2)),h.2⟩)]
theorem names_nodup {d:List Sl} {N:Nat} (h:DOk d N):(d.map (·.1)).Nodup:=by
  unfold List.Nodup
  rw [List.pairwise_map]
  refine h.rise.imp (fun {a b} hab e=>?_)
  rw [e,ltB_irr] at hab
  cases hab
theorem load_calm {F:Fs} (hc:Calm F) (ho:Okf F) (ht:Tight F):∃ H,loadM F=(H,(orNo (viewM F liveN)).1,(orNo (viewM F liveN)).2,0)∧Calm H∧Okf H∧Tight H∧(∀ x ∈ H.dir,isTmp x.1=false)∧(∀ n,isTmp n=false → viewM H n=viewM F n):=by
  have hdk:=ho.dk
  have hL:listM F=(F.dir.map (·.1),0):=by unfold listM; rw [hc.up]; rfl
  obtain ⟨G,m,e3,hcG,hoG,hfG,hdG,hm⟩:=tidys_calm (F.dir.map (·.1)) 0 hc ho (names_nodup hdk) (fun x hx=>by
    obtain ⟨y,hy,rfl⟩:=List.mem_map.1 hx
    rw [findM_in hdk.rise hy]
    have:=hdk.ge y hy
    exact ⟨by omega,hdk.nam y hy⟩)
  have hdir:∀ x ∈ G.dir,isTmp x.1=false∧∃ y ∈ F.dir,y.2=x.2:=fun x hx=>by
    have h1:=findM_in hoG.dk.rise hx
    have h2:=hoG.dk.ge x hx
    rw [hdG] at h1
    by_cases h3:x.1 ∈ F.dir.map (·.1)∧isTmp x.1=true
    · rw [if_pos h3] at h1; omega
    · rw [if_neg h3] at h1
      obtain ⟨y,hy,e1,e2⟩:=findM_mem (d:=F.dir) (n:=x.1) (by omega)
      refine ⟨?_,y,hy,by omega⟩
      have:x.1 ∈ F.dir.map (·.1):=List.mem_map.2 ⟨y,hy,e1⟩
      cases hT:isTmp x.1 with
      | false=>rfl
      | true=>exact absurd ⟨this,hT⟩ h3
  have hview:∀ H:Fs,H.dir=G.dir → H.files=G.files → ∀ n,isTmp n=false → viewM H n=viewM F n:=fun H e1 e2 n hn=>by
    have h4:findM H.dir n=findM F.dir n:=by
      rw [e1,hdG,if_neg (fun h=>by rw [hn] at h; cases h.2)]
    unfold viewM fileAt
    rw [h4,e2,hfG]
  have htight:∀ H:Fs,H.dir=G.dir → H.files=G.files → H.chg=[] → H.sure=H.dir → Tight H:=fun H e1 e2 e4 e5=>by
    refine ⟨e4,e5,fun x hx=>?_⟩
    rw [e1] at hx
    obtain ⟨_,y,hy,e6⟩:=hdir x hx
    have:=ht.sz y hy
    unfold fileAt at this ⊢
    rw [e2,hfG,← e6]
    exact this
  have hnl:namedM liveN=true:=by decide
  have hfin:∀ H:Fs,Calm H → H.dir=G.dir → H.files=G.files → ((readM H liveN).1,decide ((readM H liveN).2=0))=((orNo (viewM F liveN)).1,(orNo (viewM F liveN)).2):=fun H hH e1 e2=>by
    obtain ⟨r1,r2⟩:=read_view hH.up hnl
    rw [r1,r2,hview H e1 e2 liveN (by decide)]
  by_cases h0:m=0
  · have eG:=hm h0
    subst h0
    have e4:tidyM F=(G,0,0):=by
      unfold tidyM
      simp only [hL,if_true,e3]
      rfl
    have e5:=hfin G hcG rfl rfl
    refine ⟨G,?_,hcG,hoG,htight G rfl rfl (by rw [eG]; exact ht.ch) (by rw [eG]; exact ht.su),fun x hx=>(hdir x hx).1,hview G rfl rfl⟩
    unfold loadM
    simp only [e4,if_true]
    rw [Prod.mk.injEq] at e5
    rw [e5.1,e5.2]
  · have e6:syncDirM G=({ up1 G with sure:=G.dir,chg:=[] },0):=by
      unfold syncDirM
      rw [hcG.up]
      simp only [stepM_calm hcG,if_true,Bool.false_eq_true,if_false]
      rfl
    have e4:tidyM F=({ up1 G with sure:=G.dir,chg:=[] },((0 + m:Nat):Int),0):=by
      unfold tidyM
      simp only [hL,if_true,e3]
      rw [if_pos (by omega)]
      simp only [e6,if_true]
    have hcH:Calm { up1 G with sure:=G.dir,chg:=[] }:=⟨hcG.up,hcG.fl,hcG.cr⟩
    have hoH:=hoG.syncDir
    rw [e6] at hoH
    have e5:=hfin _ hcH rfl rfl
    refine ⟨_,?_,hcH,hoH,htight _ rfl rfl rfl rfl,fun x hx=>(hdir x hx).1,hview _ rfl rfl⟩
    unfold loadM
    simp only [e4,if_true]
    rw [Prod.mk.injEq] at e5
    rw [e5.1,e5.2]
theorem found {F:Fs} (h:Dw F) (p q:List Int):(startM (crashM F 0 p).1).2=0∧Calm (startM (crashM F 0 p).1).1∧∃ H,loadM (startM (crashM F 0 p).1).1=(H,(orNo (viewM (startM (crashM F 0 p).1).1 liveN)).1,(orNo (viewM (startM (crashM F 0 p).1).1 liveN)).2,0)∧Calm H∧crashM H 0 q=(downM H q,0)∧(∀ x ∈ nowM (downM H q),isTmp x.1=false)∧lookM (nowM (downM H q)) liveN=orNo (viewM (startM (crashM F 0 p).1).1 liveN):=by
  obtain ⟨A,hA⟩:∃ A,(crashM F 0 p).1=A:=⟨_,rfl⟩
  have hD:=h.crash 0 p
  have hdn:(crashM F 0 p).1.down=true:=by
    unfold crashM
    by_cases hd:F.down=true
    · rw [if_pos hd]; exact hd
    · rw [if_neg hd,if_neg (by omega),if_pos rfl]; rfl
  rw [hA] at hD hdn ⊢
  obtain ⟨ht,hfl,hcr⟩:=hD.dn hdn
  have eS:startM A=({ A with down:=false },0):=by unfold startM; rw [if_pos hdn]
  have hoS:=hD.ok.start
  have htS:=ht.start
  rw [eS] at hoS htS ⊢
  have hc:Calm { A with down:=false }:=⟨rfl,hfl,hcr⟩
  refine ⟨rfl,hc,?_⟩
  obtain ⟨H,e,hcH,hoH,htH,htm,hv⟩:=load_calm hc hoS htS
  obtain ⟨cf,hf⟩:=hoH
  have hn:=htH.down hf q
  refine ⟨H,e,hcH,?_,?_,?_⟩
  · unfold crashM
    rw [hcH.up]
    rfl
  · rw [hn,now_fa]
    intro x hx
    obtain ⟨y,hy,rfl⟩:=List.mem_map.1 hx
    exact htm y hy
  · rw [hn,look_now ⟨cf,hf⟩,hv liveN (by decide)]
end Go.Proofs.YtbgbmfmgdgalbaaGreatDoor
