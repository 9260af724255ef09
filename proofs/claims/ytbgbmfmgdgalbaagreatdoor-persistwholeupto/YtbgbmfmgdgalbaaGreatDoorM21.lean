import Derived.Test.YtbgbmfmgdgalbaaGreatDoorM20
namespace Go.Proofs.YtbgbmfmgdgalbaaGreatDoor
open Go.RowKit Go.Maps
set_option linter.unusedVariables false
set_option linter.unusedSimpArgs false
def Okf (F:Fs):Prop:=∃ cf,FOk F cf
theorem DOk.more {d:List Sl} {n m:Nat} (h:DOk d n) (hm:n ≤ m):DOk d m:=⟨h.rise,h.nam,h.ge,fun x hx=>by have:=h.lt x hx; omega,h.uni,h.few⟩
theorem Okf.same {F F':Fs} (h:Okf F) (e1:F.files.length ≤ F'.files.length) (e2:F'.dir=F.dir) (e3:F'.sure=F.sure) (e4:F'.chg=F.chg):Okf F':=by
  obtain ⟨cf,h⟩:=h
  have hk:∀ k,dirK F' k=dirK F k:=fun k=>by unfold dirK; rw [e3,e4]
  exact ⟨cf,fun k hk'=>by rw [hk]; exact (h.dirs k (by rw [← e4]; exact hk')).more e1,by rw [hk,e4,e2]; exact h.now,by rw [e4]; exact h.cl,fun i hi=>Nat.lt_of_lt_of_le (h.cfl i hi) e1,by rw [e4]; exact h.ch⟩
theorem Okf.down {F:Fs} (h:Okf F) (p:List Int):Okf (downM F p):=by
  obtain ⟨cf,h⟩:=h
  have hj:pickM p 0 F.chg.length ≤ F.chg.length:=pickM_le p 0 _
  refine ⟨[],fun k hk=>?_,rfl,rfl,(fun i hi=>by cases hi),(fun x hx=>by cases hx)⟩
  have e:dirK (downM F p) k=dirK F (pickM p 0 F.chg.length):=by
    show (([]:List Ch).take k).foldl afterM _=_
    rw [List.take_nil]; rfl
  rw [e]
  show DOk _ (downF p 0 F.files).length
  rw [down_len]
  exact h.dirs _ hj
theorem Okf.step {F:Fs} (h:Okf F):Okf (stepM F).1:=by
  have h1:Okf { F with steps:=F.steps + 1 }:=h.same (Nat.le_refl _) rfl rfl rfl
  unfold stepM
  simp only
  split
  · exact h1.down _
  · split <;> exact h1
theorem okf_ite {c:Prop} [Decidable c] {a b:Fs × Int} (ha:c → Okf a.1) (hb:¬ c → Okf b.1):Okf (if c then a else b).1:=by
  by_cases h:c
  · rw [if_pos h]; exact ha h
  · rw [if_neg h]; exact hb h
theorem Okf.create {F:Fs} (h:Okf F) (n:ByteArray):Okf (createM F n).1:=by
  unfold createM
  refine okf_ite (fun _=>h) (fun _=>okf_ite (fun hn=>okf_ite (fun _=>h) (fun hl=>okf_ite (fun h0=>?_) (fun _=>h.step))) (fun _=>h))
  obtain ⟨cf,hf⟩:=h
  have hu:=stepM_zero h0
  have h1:Okf (up1 F):=Okf.same ⟨cf,hf⟩ (Nat.le_refl _) rfl rfl rfl
  have hc:=cok_create (F:=up1 F) hf.dir hn hl
  have h2:Okf (addF (up1 F)):=h1.same (by unfold addF; simp) rfl rfl rfl
  obtain ⟨cf2,hf2⟩:=h2
  show Okf (changeM { (stepM F).1 with files:=(stepM F).1.files ++ [⟨⟨#[]⟩,0⟩] } ⟨n,⟨#[]⟩,((stepM F).1.files.length:Int)⟩)
  rw [hu]
  exact ⟨_,hf2.change hc (by unfold addF; simp)⟩
theorem Okf.append {F:Fs} (h:Okf F) (n d:ByteArray):Okf (appendM F n d).1:=by
  unfold appendM
  refine okf_ite (fun _=>okf_ite (fun _=>h) (fun _=>okf_ite (fun _=>h.step) (fun _=>?_))) (fun _=>h)
  exact h.step.same (by simp) rfl rfl rfl
theorem Okf.sync {F:Fs} (h:Okf F) (n:ByteArray):Okf (syncM F n).1:=by
  unfold syncM
  refine okf_ite (fun _=>okf_ite (fun _=>?_) (fun _=>h.step)) (fun _=>h)
  exact h.step.same (by simp) rfl rfl rfl
theorem Okf.syncDir {F:Fs} (h:Okf F):Okf (syncDirM F).1:=by
  unfold syncDirM
  refine okf_ite (fun _=>h) (fun _=>okf_ite (fun _=>?_) (fun _=>h.step))
  obtain ⟨cf,hf⟩:=h.step
  refine ⟨[],fun k hk=>?_,rfl,rfl,(fun i hi=>by cases hi),(fun x hx=>by cases hx)⟩
  show DOk (([]:List Ch).take k |>.foldl afterM (stepM F).1.dir) _
  rw [List.take_nil]
  exact hf.dir
theorem Okf.remove {F:Fs} (h:Okf F) (n:ByteArray):Okf (removeM F n).1:=by
  unfold removeM
  refine okf_ite (fun hh=>okf_ite (fun h0=>?_) (fun _=>h.step)) (fun _=>h)
  have hu:=stepM_zero h0
  obtain ⟨_,hn,hf⟩:=has_zero.1 hh
  have h1:Okf (up1 F):=h.same (Nat.le_refl _) rfl rfl rfl
  obtain ⟨cf,hf1⟩:=h1
  obtain ⟨x,hx,_,e2⟩:=findM_mem hf
  have hlt:(findM F.dir n).toNat < (up1 F).files.length:=by
    have h3:=hf1.dir.lt x hx
    have h4:=hf1.dir.ge x hx
    rw [e2] at h3 h4
    omega
  show Okf (changeM (stepM F).1 ⟨n,⟨#[]⟩,-1⟩)
  rw [hu]
  exact ⟨_,hf1.change (cok_remove hf1.dir hn (findM F.dir n).toNat) hlt⟩
theorem Okf.rename {F:Fs} (h:Okf F) (n t:ByteArray):Okf (renameM F n t).1:=by
  unfold renameM
  refine okf_ite (fun _=>h) (fun ht=>okf_ite (fun hh=>okf_ite (fun h0=>?_) (fun _=>h.step)) (fun _=>h))
  have hu:=stepM_zero h0
  obtain ⟨hd,hn,hf⟩:=has_zero.1 hh
  have htn:namedM t=true:=by
    rw [hd] at ht
    simpa using ht
  have h1:Okf (up1 F):=h.same (Nat.le_refl _) rfl rfl rfl
  obtain ⟨cf,hf1⟩:=h1
  obtain ⟨x,hx,_,e2⟩:=findM_mem hf
  have h3:=hf1.dir.lt x hx
  have h4:=hf1.dir.ge x hx
  rw [e2] at h3 h4
  have hi:findM (up1 F).dir n=((findM F.dir n).toNat:Int):=by
    show findM F.dir n=_
    omega
  have hlt:(findM F.dir n).toNat < (up1 F).files.length:=by omega
  show Okf (changeM (stepM F).1 ⟨n,t,findM F.dir n⟩)
  rw [hu]
  have e:findM F.dir n=((findM F.dir n).toNat:Int):=hi
  rw [e]
  exact ⟨_,hf1.change (cok_rename hf1.dir hn htn hi hlt) hlt⟩
theorem Okf.fails {F:Fs} (h:Okf F) (n p:Int):Okf (failsM F n p).1:=by
  unfold failsM
  exact okf_ite (fun _=>h) (fun _=>okf_ite (fun _=>h) (fun _=>h.same (Nat.le_refl _) rfl rfl rfl))
theorem Okf.crash {F:Fs} (h:Okf F) (n:Int) (p:List Int):Okf (crashM F n p).1:=by
  unfold crashM
  exact okf_ite (fun _=>h) (fun _=>okf_ite (fun _=>h) (fun _=>okf_ite (fun _=>h.down p) (fun _=>h.same (Nat.le_refl _) rfl rfl rfl)))
theorem Okf.start {F:Fs} (h:Okf F):Okf (startM F).1:=by
  unfold startM
  exact okf_ite (fun _=>h.same (Nat.le_refl _) rfl rfl rfl) (fun _=>h)
theorem Okf.done {F:Fs} (h:Okf F) (o:Po):Okf (doneM F o).1:=by
  unfold doneM
  exact okf_ite (fun _=>h.create _) (fun _=>okf_ite (fun _=>h.append _ _) (fun _=>okf_ite (fun _=>h.sync _) (fun _=>okf_ite (fun _=>h.rename _ _) (fun _=>okf_ite (fun _=>h.syncDir) (fun _=>okf_ite (fun _=>h.remove _) (fun _=>okf_ite (fun _=>h.fails _ _) (fun _=>okf_ite (fun _=>h.crash _ _) (fun _=>okf_ite (fun _=>h.start) (fun _=>h)))))))))
structure Inv (F:Fs) (i:Nat):Prop where
  ok:Okf F
  iv:Iv F i
  st:F.steps ≤ i
  fi:F.files.length ≤ i
  ch:F.chg.length ≤ i
  pk:F.picks.length ≤ 17592186044416
theorem Inv.more {F:Fs} {i j:Nat} (h:Inv F i) (hj:i ≤ j):Inv F j:=⟨h.ok,h.iv.more hj,Nat.le_trans h.st hj,Nat.le_trans h.fi hj,Nat.le_trans h.ch hj,h.pk⟩
theorem Inv.new:Inv newM 0:=⟨⟨[],newOk⟩,Iv.new,Nat.le_refl _,Nat.le_refl _,Nat.le_refl _,Nat.zero_le _⟩
theorem Inv.of {F F':Fs} {i:Nat} (h:Inv F i) (ho:Okf F') (hi:Iv F' (i + 1)) (hg:GrowP 17592186044416 F F'):Inv F' (i + 1):=by
  have h1:=hg.st
  have h2:=hg.fi
  have h3:=hg.ch
  have h4:=h.st
  have h5:=h.fi
  have h6:=h.ch
  exact ⟨ho,hi,by omega,by omega,by omega,hg.pk h.pk⟩
theorem Inv.done {F:Fs} {i:Nat} (h:Inv F i) (o:Po) (hp:o.p.length ≤ 17592186044416):Inv (doneM F o).1 (i + 1):=h.of (h.ok.done o) (iv_done h.iv o) (done_gp _ F o hp)
end Go.Proofs.YtbgbmfmgdgalbaaGreatDoor
namespace Go.Proofs.YtbgbmfmgdgalbaaGreatDoor
open Go.RowKit Go.Maps
set_option linter.unusedVariables false
set_option linter.unusedSimpArgs false
def liveN:ByteArray:=⟨#[100,117,109,112,46,114,100,98]⟩
def tmpS:ByteArray:=⟨#[116,101,109,112,45,115,97,118,101]⟩
def tmpO:ByteArray:=⟨#[116,101,109,112,45,111,108,100]⟩
def oldN (i:Nat):ByteArray:=⟨#[100,117,109,112,46,114,100,98,46,UInt8.ofNat (48 + i)]⟩
def isTmp (n:ByteArray):Bool:=decide (5 ≤ n.size) && decide (n.extract 0 5=⟨#[116,101,109,112,45]⟩)
def andM (r:Fs × Int) (f:Fs → Fs × Int):Fs × Int:=if r.2=0 then f r.1 else r
theorem andM_ok {r:Fs × Int} {f:Fs → Fs × Int} (h:r.2=0):andM r f=f r.1:=if_pos h
theorem andM_no {r:Fs × Int} {f:Fs → Fs × Int} (h:r.2 ≠ 0):andM r f=r:=if_neg h
def thereM (F:Fs) (n:ByteArray):Bool:=decide ((readM F n).2=0)
def appsM:Nat → Fs → ByteArray → ByteArray → Fs × Int
  | 0,F,_,_=>(F,0)
  | k + 1,F,n,t=>if t.size=0 then (F,0) else andM (appendM F n (t.extract 0 (min 65536 t.size))) (fun G=>appsM k G n (t.extract (min 65536 t.size) t.size))
def writtenM (F:Fs) (n t:ByteArray):Fs × Int:=andM (createM F n) fun G=>andM (appsM t.size G n t) fun G=>syncM G n
def cleanM (F:Fs) (n:ByteArray):Fs:=if thereM F n then (removeM F n).1 else F
def rensM:Nat → Fs → Fs × Int
  | 0,F=>(F,0)
  | i + 1,F=>if thereM F (oldN (i + 1)) then andM (renameM F (oldN (i + 1)) (oldN (i + 2))) (rensM i) else rensM i F
def keptM (F:Fs) (keep:Nat):Fs × Int:=if (readM F liveN).2=0 then andM (writtenM F tmpO (readM F liveN).1) fun G=>andM (rensM (keep - 1) G) fun G=>renameM G tmpO (oldN 1) else (F,(readM F liveN).2)
def remsM:Nat → Fs → Fs × Int
  | 0,F=>(F,0)
  | m + 1,F=>if thereM F (oldN (8 - m)) then andM (removeM F (oldN (8 - m))) (remsM m) else remsM m F
def stepsM (F:Fs) (t:ByteArray) (keep:Nat):Fs × Int:=andM (writtenM F tmpS t) fun G=>andM (if decide (0 < keep) && thereM G liveN then keptM G keep else (G,0)) fun G=>andM (renameM G tmpS liveN) fun G=>andM (remsM (8 - keep) G) syncDirM
def saveM (F:Fs) (t:ByteArray) (keep:Int):Fs × Int:=if keep < 0 ∨ 8 < keep then (F,1) else if 1073741824 < t.size then (F,2) else
  let r:=stepsM F t keep.toNat
  if r.2=0 then r else (cleanM (cleanM r.1 tmpS) tmpO,r.2)
def tidysM:List ByteArray → Nat → Fs → Fs × Int × Int
  | [],n,F=>(F,(n:Int),0)
  | x :: l,n,F=>if isTmp x then (let r:=removeM F x; if r.2=0 then tidysM l (n + 1) r.1 else (r.1,0,r.2)) else tidysM l n F
def tidyM (F:Fs):Fs × Int × Int:=if (listM F).2=0 then
    let r:=tidysM (listM F).1 0 F
    if r.2.2=0 then (if 0 < r.2.1 then (let q:=syncDirM r.1; if q.2=0 then (q.1,r.2.1,0) else (q.1,0,q.2)) else r) else r
  else (F,0,(listM F).2)
def loadM (F:Fs):Fs × ByteArray × Bool × Int:=
  let r:=tidyM F
  if r.2.2=0 then (r.1,(readM r.1 liveN).1,decide ((readM r.1 liveN).2=0),0) else (r.1,⟨#[]⟩,false,r.2.2)
def oldersM (F:Fs):Nat → List ByteArray
  | 0=>[]
  | m + 1=>oldersM F m ++ (if thereM F (oldN (m + 1)) then [(readM F (oldN (m + 1))).1] else [])
def olderM (F:Fs):List ByteArray × Int:=if (listM F).2=0 then (oldersM F 8,0) else ([],(listM F).2)
/-! What every state keeps. -/
theorem Inv.create {F:Fs} {i:Nat} (h:Inv F i) (n:ByteArray):Inv (createM F n).1 (i + 1):=by
  have:=h.done ⟨0,n,⟨#[]⟩,⟨#[]⟩,0,0,[]⟩ (Nat.zero_le _)
  exact this
theorem Inv.append {F:Fs} {i:Nat} (h:Inv F i) (n d:ByteArray):Inv (appendM F n d).1 (i + 1):=by
  have:=h.done ⟨1,n,⟨#[]⟩,d,0,0,[]⟩ (Nat.zero_le _)
  exact this
theorem Inv.sync {F:Fs} {i:Nat} (h:Inv F i) (n:ByteArray):Inv (syncM F n).1 (i + 1):=by
  have:=h.done ⟨2,n,⟨#[]⟩,⟨#[]⟩,0,0,[]⟩ (Nat.zero_le _)
  exact this
theorem Inv.rename {F:Fs} {i:Nat} (h:Inv F i) (n t:ByteArray):Inv (renameM F n t).1 (i + 1):=by
  have:=h.done ⟨3,n,t,⟨#[]⟩,0,0,[]⟩ (Nat.zero_le _)
  exact this
theorem Inv.syncDir {F:Fs} {i:Nat} (h:Inv F i):Inv (syncDirM F).1 (i + 1):=by
  have:=h.done ⟨4,⟨#[]⟩,⟨#[]⟩,⟨#[]⟩,0,0,[]⟩ (Nat.zero_le _)
  exact this
theorem Inv.remove {F:Fs} {i:Nat} (h:Inv F i) (n:ByteArray):Inv (removeM F n).1 (i + 1):=by
  have:=h.done ⟨5,n,⟨#[]⟩,⟨#[]⟩,0,0,[]⟩ (Nat.zero_le _)
  exact this
theorem inv_and {r:Fs × Int} {f:Fs → Fs × Int} {i j:Nat} (h:Inv r.1 i) (hj:i ≤ j) (hf:Inv r.1 i → Inv (f r.1).1 j):Inv (andM r f).1 j:=by
  by_cases h0:r.2=0
  · rw [andM_ok h0]; exact hf h
  · rw [andM_no h0]; exact h.more hj
def piecesN (k:Nat):Nat:=(k + 65535) / 65536
theorem ext_rest (t:ByteArray):(t.extract (min 65536 t.size) t.size).size=t.size - min 65536 t.size:=by simp
theorem Inv.apps {n:ByteArray}:∀ (k:Nat) {F:Fs} {i:Nat} (t:ByteArray),Inv F i → Inv (appsM k F n t).1 (i + piecesN t.size)
  | 0,F,i,t,h=>h.more (Nat.le_add_right _ _)
  | k + 1,F,i,t,h=>by
    unfold appsM
    by_cases h0:t.size=0
    · rw [if_pos h0]; exact h.more (Nat.le_add_right _ _)
    · rw [if_neg h0]
      have h1:piecesN t.size=piecesN (t.extract (min 65536 t.size) t.size).size + 1:=by
        rw [ext_rest]
        unfold piecesN
        omega
      rw [h1]
      refine inv_and (i:=i + 1) (h.append _ _) (by omega) (fun h2=>?_)
      have:=Inv.apps (n:=n) k (t.extract (min 65536 t.size) t.size) h2
      exact this.more (by omega)
theorem Inv.written {F:Fs} {i:Nat} (h:Inv F i) (n t:ByteArray):Inv (writtenM F n t).1 (i + piecesN t.size + 2):=by
  unfold writtenM
  refine inv_and (i:=i + 1) (h.create n) (by omega) (fun h2=>?_)
  refine inv_and (i:=i + 1 + piecesN t.size) (h2.apps _ t) (by omega) (fun h3=>?_)
  exact (h3.sync n).more (by omega)
theorem Inv.clean {F:Fs} {i:Nat} (h:Inv F i) (n:ByteArray):Inv (cleanM F n) (i + 1):=by
  unfold cleanM
  split
  · exact h.remove n
  · exact h.more (Nat.le_succ _)
theorem Inv.rens:∀ (m:Nat) {F:Fs} {i:Nat},Inv F i → Inv (rensM m F).1 (i + m)
  | 0,F,i,h=>h
  | m + 1,F,i,h=>by
    unfold rensM
    split
    · exact inv_and (i:=i + 1) (h.rename _ _) (by omega) (fun h2=>(Inv.rens m h2).more (by omega))
    · exact (Inv.rens m h).more (by omega)
theorem Inv.rems:∀ (m:Nat) {F:Fs} {i:Nat},Inv F i → Inv (remsM m F).1 (i + m)
  | 0,F,i,h=>h
  | m + 1,F,i,h=>by
    unfold remsM
    split
    · exact inv_and (i:=i + 1) (h.remove _) (by omega) (fun h2=>(Inv.rems m h2).more (by omega))
    · exact (Inv.rems m h).more (by omega)
theorem Inv.read {F:Fs} {i:Nat} (h:Inv F i) (n:ByteArray):(readM F n).1.size ≤ 1073741824:=by
  unfold readM
  split
  · exact (h.iv.fileAt _).1
  · show (0:Nat) ≤ _; omega
theorem pieces_le {k:Nat} (h:k ≤ 1073741824):piecesN k ≤ 16384:=by unfold piecesN; omega
theorem Inv.kept {F:Fs} {i keep:Nat} (h:Inv F i) (hk:keep ≤ 8):Inv (keptM F keep).1 (i + 16400):=by
  unfold keptM
  split
  · have h1:=h.written tmpO (readM F liveN).1
    have h2:=pieces_le (h.read liveN)
    refine inv_and h1 (by omega) (fun h3=>?_)
    refine inv_and (Inv.rens (keep - 1) h3) (by omega) (fun h4=>?_)
    exact (h4.rename _ _).more (by omega)
  · exact h.more (by omega)
theorem Inv.steps {F:Fs} {i keep:Nat} {t:ByteArray} (h:Inv F i) (hk:keep ≤ 8) (ht:t.size ≤ 1073741824):Inv (stepsM F t keep).1 (i + 32820):=by
  unfold stepsM
  have h1:=h.written tmpS t
  have h2:=pieces_le ht
  refine inv_and h1 (by omega) (fun h3=>?_)
  have h4:Inv (if decide (0 < keep) && thereM (writtenM F tmpS t).1 liveN then keptM (writtenM F tmpS t).1 keep else ((writtenM F tmpS t).1,0)).1 (i + piecesN t.size + 2 + 16400):=by
    split
    · exact h3.kept hk
    · exact h3.more (by omega)
  refine inv_and h4 (by omega) (fun h5=>?_)
  refine inv_and (h5.rename _ _) (by omega) (fun h6=>?_)
  refine inv_and (Inv.rems (8 - keep) h6) (by omega) (fun h7=>?_)
  exact h7.syncDir.more (by omega)
theorem Inv.save {F:Fs} {i:Nat} (h:Inv F i) (t:ByteArray) (keep:Int):Inv (saveM F t keep).1 (i + 32822):=by
  unfold saveM
  split
  · exact h.more (by omega)
  · rename_i hk
    split
    · exact h.more (by omega)
    · rename_i ht
      have h1:Inv (stepsM F t keep.toNat).1 (i + 32820):=h.steps (by omega) (by omega)
      simp only
      split
      · exact h1.more (by omega)
      · exact (h1.clean _).clean _
theorem Inv.tidys:∀ (l:List ByteArray) (n:Nat) {F:Fs} {i:Nat},Inv F i → Inv (tidysM l n F).1 (i + l.length)
  | [],n,F,i,h=>h
  | x :: l,n,F,i,h=>by
    unfold tidysM
    split
    · simp only
      split
      · exact (Inv.tidys l (n + 1) (h.remove x)).more (by simp; omega)
      · exact (h.remove x).more (by simp)
    · exact (Inv.tidys l n h).more (by simp)
theorem Inv.few {F:Fs} {i:Nat} (h:Inv F i):(listM F).1.length ≤ 64:=by
  obtain ⟨cf,hf⟩:=h.ok
  unfold listM
  split
  · simp
  · show (F.dir.map (·.1)).length ≤ 64
    rw [List.length_map]; exact hf.dir.few
theorem Inv.tidy {F:Fs} {i:Nat} (h:Inv F i):Inv (tidyM F).1 (i + 65):=by
  have h0:=h.few
  have h1:=Inv.tidys (listM F).1 0 h
  unfold tidyM
  split
  · simp only
    split
    · split
      · split
        · exact h1.syncDir.more (by omega)
        · exact h1.syncDir.more (by omega)
      · exact h1.more (by omega)
    · exact h1.more (by omega)
  · exact h.more (by omega)
theorem Inv.load {F:Fs} {i:Nat} (h:Inv F i):Inv (loadM F).1 (i + 65):=by
  unfold loadM
  simp only
  split <;> exact h.tidy
end Go.Proofs.YtbgbmfmgdgalbaaGreatDoor
namespace Go.Proofs.YtbgbmfmgdgalbaaGreatDoor
open Go.RowKit Go.Maps
set_option linter.unusedVariables false
set_option linter.unusedSimpArgs false
def liveI (d:List Sl):Int:=findM d liveN
def pastM (F:Fs) (d:List Sl):ByteArray × Bool:=if liveI d < 0 then (⟨#[]⟩,false) else ((fileAt F (liveI d).toNat).d,true)
structure Wh (F:Fs) (M:ByteArray × Bool → Prop):Prop where
  ok:Okf F
  w:∀ j,j ≤ F.chg.length → M (pastM F (dirK F j))∧(¬ liveI (dirK F j) < 0 → (fileAt F (liveI (dirK F j)).toNat).s=(fileAt F (liveI (dirK F j)).toNat).d.size)
  d:∀ j,j ≤ F.chg.length → ¬ liveI (dirK F j) < 0 → ∀ n,n ≠ liveN → findM F.dir n ≠ liveI (dirK F j)
  dn:F.down=true → F.chg=[]∧F.sure=F.dir
theorem Wh.weak {F:Fs} {M M':ByteArray × Bool → Prop} (h:Wh F M) (hm:∀ x,M x → M' x):Wh F M':=⟨h.ok,fun j hj=>⟨hm _ (h.w j hj).1,(h.w j hj).2⟩,h.d,h.dn⟩
theorem Okf.dirs {F:Fs} (h:Okf F) {j:Nat} (hj:j ≤ F.chg.length):DOk (dirK F j) F.files.length:=by obtain ⟨cf,h⟩:=h; exact h.dirs j hj
theorem Okf.now {F:Fs} (h:Okf F):dirK F F.chg.length=F.dir:=by obtain ⟨cf,h⟩:=h; exact h.now
theorem find_in {d:List Sl} {N:Nat} (h:DOk d N) {n:ByteArray} (hn:¬ findM d n < 0):(findM d n).toNat < N∧((findM d n).toNat:Int)=findM d n:=by
  obtain ⟨x,hx,_,e⟩:=findM_mem hn
  have h1:=h.lt x hx
  have h2:=h.ge x hx
  rw [e] at h1 h2
  exact ⟨by omega,by omega⟩
theorem find_inj {d:List Sl} {N:Nat} (h:DOk d N) {a b:ByteArray} (hb:¬ findM d b < 0) (e:findM d a=findM d b):a=b:=by
  obtain ⟨x,hx,ex,e1⟩:=findM_mem hb
  obtain ⟨y,hy,ey,e2⟩:=findM_mem (d:=d) (n:=a) (by rw [e]; exact hb)
  by_cases hxy:x=y
  · rw [← ex,← ey,hxy]
  · exact absurd (by rw [e1,e2,e]) (pair_ne h.uni hx hy hxy)
theorem Wh.same {F F':Fs} {M:ByteArray × Bool → Prop} (h:Wh F M) (ho:Okf F') (e2:F'.dir=F.dir) (e3:F'.sure=F.sure) (e4:F'.chg=F.chg) (hf:∀ j,j ≤ F.chg.length → ¬ liveI (dirK F j) < 0 → fileAt F' (liveI (dirK F j)).toNat=fileAt F (liveI (dirK F j)).toNat) (hd:F'.down=true → F.chg=[]∧F.sure=F.dir):Wh F' M:=by
  have hk:∀ k,dirK F' k=dirK F k:=fun k=>by unfold dirK; rw [e3,e4]
  refine ⟨ho,fun j hj=>?_,fun j hj hl n hn=>?_,fun hh=>by rw [e2,e3,e4]; exact hd hh⟩
  · rw [e4] at hj
    rw [hk]
    obtain ⟨h1,h2⟩:=h.w j hj
    by_cases hl:liveI (dirK F j) < 0
    · refine ⟨?_,fun hh=>absurd hl hh⟩
      unfold pastM at h1 ⊢
      rw [if_pos hl] at h1 ⊢
      exact h1
    · rw [hf j hj hl]
      refine ⟨?_,h2⟩
      unfold pastM at h1 ⊢
      rw [if_neg hl] at h1 ⊢
      rw [hf j hj hl]
      exact h1
  · rw [e4] at hj
    rw [hk] at hl ⊢
    rw [e2]
    exact h.d j hj hl n hn
theorem Wh.up {F:Fs} {M:ByteArray × Bool → Prop} (h:Wh F M):Wh (up1 F) M:=h.same (h.ok.same (Nat.le_refl _) rfl rfl rfl) rfl rfl rfl (fun _ _ _=>rfl) h.dn
theorem cut_full {x:Fi} (h:x.s=x.d.size) (p:List Int) (k:Nat):cutF x (pickM p k (x.d.size - x.s))=x:=by
  have h1:=pickM_le p k (x.d.size - x.s)
  have h2:pickM p k (x.d.size - x.s)=0:=by omega
  rw [h2]
  unfold cutF
  rw [Nat.add_zero,h,ext_all]
  cases x
  simp_all
theorem Wh.down {F:Fs} {M:ByteArray × Bool → Prop} (h:Wh F M) (p:List Int):Wh (downM F p) M:=by
  have hj:pickM p 0 F.chg.length ≤ F.chg.length:=pickM_le p 0 _
  have hdk:=h.ok.dirs hj
  have e:∀ k,dirK (downM F p) k=dirK F (pickM p 0 F.chg.length):=fun k=>by
    show (([]:List Ch).take k).foldl afterM _=_
    rw [List.take_nil]; rfl
  have hfa:¬ liveI (dirK F (pickM p 0 F.chg.length)) < 0 → fileAt (downM F p) (liveI (dirK F (pickM p 0 F.chg.length))).toNat=fileAt F (liveI (dirK F (pickM p 0 F.chg.length))).toNat:=fun hl=>by
    exact (down_file p (i:=(liveI (dirK F (pickM p 0 F.chg.length))).toNat) (find_in hdk hl).1).trans (cut_full ((h.w _ hj).2 hl) p _)
  refine ⟨h.ok.down p,fun j _=>?_,fun j _ hl n hn=>?_,fun _=>⟨rfl,rfl⟩⟩
  · rw [e]
    obtain ⟨h1,h2⟩:=h.w _ hj
    by_cases hl:liveI (dirK F (pickM p 0 F.chg.length)) < 0
    · refine ⟨?_,fun hh=>absurd hl hh⟩
      unfold pastM at h1 ⊢
      rw [if_pos hl] at h1 ⊢
      exact h1
    · rw [hfa hl]
      refine ⟨?_,h2⟩
      unfold pastM at h1 ⊢
      rw [if_neg hl] at h1 ⊢
      rw [hfa hl]
      exact h1
  · rw [e] at hl ⊢
    exact fun hh=>hn (find_inj hdk hl hh)
theorem Wh.step {F:Fs} {M:ByteArray × Bool → Prop} (h:Wh F M):Wh (stepM F).1 M:=by
  have h1:Wh { F with steps:=F.steps + 1 } M:=h.up
  unfold stepM
  simp only
  split
  · exact h1.down _
  · split <;> exact h1
theorem wh_ite {M:ByteArray × Bool → Prop} {c:Prop} [Decidable c] {a b:Fs × Int} (ha:c → Wh a.1 M) (hb:¬ c → Wh b.1 M):Wh (if c then a else b).1 M:=by
  by_cases h:c
  · rw [if_pos h]; exact ha h
  · rw [if_neg h]; exact hb h
theorem dirK_change (F:Fs) (c:Ch) {k:Nat} (hk:k ≤ F.chg.length):dirK (changeM F c) k=dirK F k:=by
  unfold dirK changeM
  simp only []
  rw [List.take_append_of_le_length hk]
theorem dirK_new {F:Fs} (h:Okf F) (c:Ch):dirK (changeM F c) (F.chg.length + 1)=afterM F.dir c:=by
  have:=h.now
  unfold dirK at this ⊢
  unfold changeM
  simp only []
  rw [List.take_of_length_le (by simp),List.foldl_append]
  rw [List.take_of_length_le (Nat.le_refl _)] at this
  rw [this]
  rfl
theorem Wh.change {F:Fs} {M:ByteArray × Bool → Prop} (h:Wh F M) {c:Ch} (ho:Okf (changeM F c)) (hl:liveI (afterM F.dir c)=liveI F.dir) (hd:∀ n,n ≠ liveN → ∀ j,j ≤ F.chg.length → ¬ liveI (dirK F j) < 0 → findM (afterM F.dir c) n ≠ liveI (dirK F j)) (hu:F.down=false):Wh (changeM F c) M:=by
  have hlen:(changeM F c).chg.length=F.chg.length + 1:=by unfold changeM; simp
  have hn:=h.ok.now
  have hsel:∀ j,j ≤ F.chg.length + 1 → ∃ k,k ≤ F.chg.length∧liveI (dirK (changeM F c) j)=liveI (dirK F k):=fun j hj=>by
    by_cases e:j ≤ F.chg.length
    · exact ⟨j,e,by rw [dirK_change F c e]⟩
    · have e1:j=F.chg.length + 1:=by omega
      refine ⟨F.chg.length,Nat.le_refl _,?_⟩
      rw [e1,dirK_new h.ok c,hl,hn]
  refine ⟨ho,fun j hj=>?_,fun j hj hlj n hne=>?_,fun hh=>?_⟩
  · rw [hlen] at hj
    obtain ⟨k,hk,e⟩:=hsel j hj
    obtain ⟨h1,h2⟩:=h.w k hk
    unfold pastM at h1 ⊢
    rw [e]
    exact ⟨h1,h2⟩
  · rw [hlen] at hj
    obtain ⟨k,hk,e⟩:=hsel j hj
    rw [e] at hlj ⊢
    exact hd n hne k hk hlj
  · have:F.down=true:=hh
    rw [hu] at this
    cases this
theorem up_down {F:Fs} {n:ByteArray} (h:hasM F n=0):F.down=false:=(has_zero.1 h).1
theorem fileAt_add (F:Fs) {k:Nat} (hk:k < F.files.length):fileAt (addF F) k=fileAt F k:=by
  unfold fileAt addF
  simp only []
  rw [List.getD_eq_getElem?_getD,List.getD_eq_getElem?_getD,List.getElem?_append_left hk]
theorem Wh.create {F:Fs} {M:ByteArray × Bool → Prop} (h:Wh F M) {n:ByteArray} (hn:n ≠ liveN):Wh (createM F n).1 M:=by
  have ho:=h.ok.create n
  unfold createM at ho ⊢
  refine wh_ite (fun _=>h) (fun hdn=>wh_ite (fun hnm=>wh_ite (fun _=>h) (fun hl=>wh_ite (fun h0=>?_) (fun _=>h.step))) (fun _=>h))
  rw [if_neg hdn,if_pos hnm,if_neg hl,if_pos h0] at ho
  have hu:=stepM_zero h0
  have ho2:Okf (changeM { (stepM F).1 with files:=(stepM F).1.files ++ [⟨⟨#[]⟩,0⟩] } ⟨n,⟨#[]⟩,((stepM F).1.files.length:Int)⟩):=ho
  show Wh (changeM { (stepM F).1 with files:=(stepM F).1.files ++ [⟨⟨#[]⟩,0⟩] } ⟨n,⟨#[]⟩,((stepM F).1.files.length:Int)⟩) M
  rw [hu] at ho2 ⊢
  have h1:=h.up
  have h2:Wh (addF (up1 F)) M:=h1.same (h1.ok.same (by unfold addF; simp) rfl rfl rfl) rfl rfl rfl (fun j hj hl=>fileAt_add _ (find_in (h1.ok.dirs hj) hl).1) h1.dn
  have hup:F.down=false:=by simpa using hdn
  have hrise:=(h.ok.dirs (Nat.le_refl _)).rise
  rw [h.ok.now] at hrise
  have e:afterM (addF (up1 F)).dir ⟨n,⟨#[]⟩,((up1 F).files.length:Int)⟩=boundM F.dir n (F.files.length:Int):=if_pos rfl
  refine h2.change ho2 ?_ (fun m hm j hj hlj=>?_) hup
  · unfold liveI
    rw [e,findM_put hrise n liveN _ (by omega),if_neg (fun q=>hn q.symm)]
    rfl
  · rw [e,findM_put hrise n m _ (by omega)]
    by_cases hmn:m=n
    · rw [if_pos hmn]
      have:=find_in (h.ok.dirs (F:=F) (j:=j) hj) hlj
      intro hh
      have h5:liveI (dirK (addF (up1 F)) j)=findM (dirK F j) liveN:=rfl
      rw [h5] at hh
      omega
    · rw [if_neg hmn]
      exact h.d j hj hlj m hm
theorem Wh.remove {F:Fs} {M:ByteArray × Bool → Prop} (h:Wh F M) {n:ByteArray} (hn:n ≠ liveN):Wh (removeM F n).1 M:=by
  have ho:=h.ok.remove n
  unfold removeM at ho ⊢
  refine wh_ite (fun hh=>wh_ite (fun h0=>?_) (fun _=>h.step)) (fun _=>h)
  rw [if_pos hh] at ho
  simp only [h0,if_true] at ho
  have hu:=stepM_zero h0
  show Wh (changeM (stepM F).1 ⟨n,⟨#[]⟩,-1⟩) M
  rw [hu] at ho ⊢
  have e:afterM (up1 F).dir ⟨n,⟨#[]⟩,-1⟩=boundM F.dir n (-1):=if_pos rfl
  refine h.up.change ho ?_ (fun m hm j hj hlj=>?_) (up_down hh)
  · unfold liveI
    rw [e,findM_del _ _ _ _ (by decide),if_neg (fun q=>hn q.symm)]
    rfl
  · rw [e,findM_del _ _ _ _ (by decide)]
    by_cases hmn:m=n
    · rw [if_pos hmn]
      intro hh2
      rw [← hh2] at hlj
      exact hlj (by decide)
    · rw [if_neg hmn]
      exact h.d j hj hlj m hm
theorem find_ren {d:List Sl} {N:Nat} (hd:DOk d N) {n t:ByteArray} (ht:t.size ≠ 0) (hf:¬ findM d n < 0) (m:ByteArray):findM (afterM d ⟨n,t,findM d n⟩) m=if m=t then findM d n else if m=n then -1 else findM d m:=by
  have e:afterM d ⟨n,t,findM d n⟩=boundM (boundM d n (-1)) t (findM d n):=if_neg ht
  rw [e,findM_put (hd.del n (f:=-1) (by decide)).rise t m _ hf,findM_del _ _ _ _ (by decide)]
theorem Wh.rename {F:Fs} {M:ByteArray × Bool → Prop} (h:Wh F M) {n t:ByteArray} (hn:n ≠ liveN) (ht:t ≠ liveN):Wh (renameM F n t).1 M:=by
  have ho:=h.ok.rename n t
  unfold renameM at ho ⊢
  refine wh_ite (fun _=>h) (fun hx=>wh_ite (fun hh=>wh_ite (fun h0=>?_) (fun _=>h.step)) (fun _=>h))
  rw [if_neg hx,if_pos hh] at ho
  simp only [h0,if_true] at ho
  have hu:=stepM_zero h0
  have hup:=up_down hh
  have htn:namedM t=true:=by
    rw [hup] at hx
    simpa using hx
  have hts:t.size ≠ 0:=by have:=(named_size htn).1; omega
  have hf:=(has_zero.1 hh).2.2
  have hdk:=h.ok.dirs (Nat.le_refl _)
  rw [h.ok.now] at hdk
  show Wh (changeM (stepM F).1 ⟨n,t,findM F.dir n⟩) M
  rw [hu] at ho ⊢
  refine h.up.change ho ?_ (fun m hm j hj hlj=>?_) hup
  · show findM (afterM F.dir ⟨n,t,findM F.dir n⟩) liveN=findM F.dir liveN
    rw [find_ren hdk hts hf,if_neg (fun q=>ht q.symm),if_neg (fun q=>hn q.symm)]
  · show findM (afterM F.dir ⟨n,t,findM F.dir n⟩) m ≠ _
    rw [find_ren hdk hts hf]
    by_cases hmt:m=t
    · rw [if_pos hmt]
      exact h.d j hj hlj n hn
    · rw [if_neg hmt]
      by_cases hmn:m=n
      · rw [if_pos hmn]
        intro hh2
        rw [← hh2] at hlj
        exact hlj (by decide)
      · rw [if_neg hmn]
        exact h.d j hj hlj m hm
theorem fileAt_set (F:Fs) (i:Nat) (x:Fi) {k:Nat} (hk:k ≠ i):fileAt { F with files:=F.files.set i x } k=fileAt F k:=by
  unfold fileAt
  simp only []
  rw [set_getD,if_neg (fun h=>hk h.1.symm)]
theorem Wh.file {F:Fs} {M:ByteArray × Bool → Prop} (h:Wh F M) {n:ByteArray} (hn:n ≠ liveN) (hf:¬ findM F.dir n < 0) (x:Fi):Wh { F with files:=F.files.set (findM F.dir n).toNat x } M:=by
  refine h.same (h.ok.same (by simp) rfl rfl rfl) rfl rfl rfl (fun j hj hl=>fileAt_set F _ x (fun e=>h.d j hj hl n hn ?_)) h.dn
  have h1:=(find_in (h.ok.dirs hj) hl).2
  have hdk:=h.ok.dirs (Nat.le_refl _)
  rw [h.ok.now] at hdk
  have h2:=(find_in hdk hf).2
  unfold liveI at e ⊢
  omega
theorem Wh.append {F:Fs} {M:ByteArray × Bool → Prop} (h:Wh F M) {n:ByteArray} (hn:n ≠ liveN) (d:ByteArray):Wh (appendM F n d).1 M:=by
  unfold appendM
  refine wh_ite (fun hh=>wh_ite (fun _=>h) (fun _=>wh_ite (fun _=>h.step) (fun h3=>?_))) (fun _=>h)
  have hu:(stepM F).1=up1 F:=by
    rcases stepM_cases F with h1 | ⟨_,h1⟩ | ⟨_,h1⟩
    · exact absurd h1 h3
    · exact h1
    · exact h1
  rw [hu]
  exact h.up.file (n:=n) hn (has_zero.1 hh).2.2 _
theorem Wh.sync {F:Fs} {M:ByteArray × Bool → Prop} (h:Wh F M) {n:ByteArray} (hn:n ≠ liveN):Wh (syncM F n).1 M:=by
  unfold syncM
  refine wh_ite (fun hh=>wh_ite (fun h0=>?_) (fun _=>h.step)) (fun _=>h)
  have hu:=stepM_zero h0
  rw [hu]
  exact h.up.file (n:=n) hn (has_zero.1 hh).2.2 _
theorem Wh.syncDir {F:Fs} {M:ByteArray × Bool → Prop} (h:Wh F M):Wh (syncDirM F).1 M:=by
  have ho:=h.ok.syncDir
  unfold syncDirM at ho ⊢
  refine wh_ite (fun _=>h) (fun hd=>wh_ite (fun h0=>?_) (fun _=>h.step))
  rw [if_neg hd] at ho
  simp only [h0,if_true] at ho
  have hu:=stepM_zero h0
  rw [hu] at ho ⊢
  have e:∀ k,dirK { up1 F with sure:=(up1 F).dir,chg:=[] } k=dirK F F.chg.length:=fun k=>by
    rw [h.ok.now]
    show (([]:List Ch).take k).foldl afterM _=_
    rw [List.take_nil]; rfl
  refine ⟨ho,fun j _=>?_,fun j _ hl n hn=>?_,fun hh=>absurd hh hd⟩
  · rw [e]
    exact h.w _ (Nat.le_refl _)
  · rw [e] at hl ⊢
    exact h.d _ (Nat.le_refl _) hl n hn
theorem Wh.fails {F:Fs} {M:ByteArray × Bool → Prop} (h:Wh F M) (n p:Int):Wh (failsM F n p).1 M:=by
  unfold failsM
  exact wh_ite (fun _=>h) (fun _=>wh_ite (fun _=>h) (fun _=>h.same (h.ok.same (Nat.le_refl _) rfl rfl rfl) rfl rfl rfl (fun _ _ _=>rfl) h.dn))
theorem Wh.crash {F:Fs} {M:ByteArray × Bool → Prop} (h:Wh F M) (n:Int) (p:List Int):Wh (crashM F n p).1 M:=by
  unfold crashM
  exact wh_ite (fun _=>h) (fun _=>wh_ite (fun _=>h) (fun _=>wh_ite (fun _=>h.down p) (fun _=>h.same (h.ok.same (Nat.le_refl _) rfl rfl rfl) rfl rfl rfl (fun _ _ _=>rfl) h.dn)))
theorem Wh.start {F:Fs} {M:ByteArray × Bool → Prop} (h:Wh F M):Wh (startM F).1 M:=by
  unfold startM
  exact wh_ite (fun _=>h.same (h.ok.same (Nat.le_refl _) rfl rfl rfl) rfl rfl rfl (fun _ _ _=>rfl) (fun hh=>by cases hh)) (fun _=>h)
theorem Wh.new {M:ByteArray × Bool → Prop} (hm:M (⟨#[]⟩,false)):Wh newM M:=by
  refine ⟨⟨[],newOk⟩,fun j hj=>⟨?_,fun hh=>absurd (show liveI (dirK newM j) < 0 from ?_) hh⟩,fun j hj hl=>absurd (show liveI (dirK newM j) < 0 from ?_) hl,fun hh=>by cases hh⟩
  all_goals
    have e:dirK newM j=[]:=by
      show (([]:List Ch).take j).foldl afterM []=_
      rw [List.take_nil]; rfl
    rw [e]
    first | exact hm | decide
end Go.Proofs.YtbgbmfmgdgalbaaGreatDoor
