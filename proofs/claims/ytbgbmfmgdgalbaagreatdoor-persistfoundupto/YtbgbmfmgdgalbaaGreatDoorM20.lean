import Derived.Test.YtbgbmfmgdgalbaaGreatDoorM19
namespace Go.Proofs.YtbgbmfmgdgalbaaGreatDoor
open Go.RowKit Go.Maps
set_option linter.unusedVariables false
set_option linter.unusedSimpArgs false
def Okf (F:Fs):Prop:=∃ cf,FOk F cf
theorem DOk.more {d:List Sl} {n m:Nat} (h:DOk d n) (hm:n ≤ m):DOk d m:=⟨h.rise,h.nam,h.ge,fun x hx=>by have:=h.lt x hx; omega,h.uni,h.few⟩
theorem Okf.same {F F':Fs} (h:Okf F) (e1:F.files.length ≤ F'.files.length) (e2:F'.dir=F.dir) (e3:F'.sure=F.sure) (e4:F'.chg=F.chg):Okf F':=by
  obtain ⟨cf,h⟩:=h
  have hk:∀ k,dirK F' k=dirK F k:=fun k=>by unfold dirK; rw [e3,e4]
  exact ⟨cf,fun k hk'=>by rw [hk]; exact (h.dirs k (by rw [← e4]; exact hk')).more e1,by rw [hk,e4,e2]; exact h.now,by rw [e4]; exact h.cl,fun i hi=>Nat.lt_of_lt_of_le (h.cfl i hi) e1,by rw [e4]; exact h.ch⟩
theorem Okf.down {F:Fs} (h:Okf F) (p:List Int):Okf (downM F p):=by
  obtain ⟨cf,h⟩:=h
  have hj:pickM p 0 F.chg.length ≤ F.chg.length:=pickM_le p 0 _
  refine ⟨[],fun k hk=>?_,rfl,rfl,(fun i hi=>by cases hi),(fun x hx=>by cases hx)⟩
  have e:dirK (downM F p) k=dirK F (pickM p 0 F.chg.length):=by
    show (([]:List Ch).take k).foldl afterM _=_
    rw [List.take_nil]; rfl
  rw [e]
  show DOk _ (downF p 0 F.files).length
  rw [down_len]
  exact h.dirs _ hj
theorem Okf.step {F:Fs} (h:Okf F):Okf (stepM F).1:=by
  have h1:Okf { F with steps:=F.steps + 1 }:=h.same (Nat.le_refl _) rfl rfl rfl
  unfold stepM
  simp only
  split
  · exact h1.down _
  · split <;> exact h1
theorem okf_ite {c:Prop} [Decidable c] {a b:Fs × Int} (ha:c → Okf a.1) (hb:¬ c → Okf b.1):Okf (if c then a else b).1:=by
  by_cases h:c
  · rw [if_pos h]; exact ha h
  · rw [if_neg h]; exact hb h
theorem Okf.create {F:Fs} (h:Okf F) (n:ByteArray):Okf (createM F n).1:=by
  unfold createM
  refine okf_ite (fun _=>h) (fun _=>okf_ite (fun hn=>okf_ite (fun _=>h) (fun hl=>okf_ite (fun h0=>?_) (fun _=>h.step))) (fun _=>h))
  obtain ⟨cf,hf⟩:=h
  have hu:=stepM_zero h0
  have h1:Okf (up1 F):=Okf.same ⟨cf,hf⟩ (Nat.le_refl _) rfl rfl rfl
  have hc:=cok_create (F:=up1 F) hf.dir hn hl
  have h2:Okf (addF (up1 F)):=h1.same (by unfold addF; simp) rfl rfl rfl
  obtain ⟨cf2,hf2⟩:=h2
  show Okf (changeM { (stepM F).1 with files:=(stepM F).1.files ++ [⟨⟨#[]⟩,0⟩] } ⟨n,⟨#[]⟩,((stepM F).1.files.length:Int)⟩)
  rw [hu]
  exact ⟨_,hf2.change hc (by unfold addF; simp)⟩
theorem Okf.append {F:Fs} (h:Okf F) (n d:ByteArray):Okf (appendM F n d).1:=by
  unfold appendM
  refine okf_ite (fun _=>okf_ite (fun _=>h) (fun _=>okf_ite (fun _=>h.step) (fun _=>?_))) (fun _=>h)
  exact h.step.same (by simp) rfl rfl rfl
theorem Okf.sync {F:Fs} (h:Okf F) (n:ByteArray):Okf (syncM F n).1:=by
  unfold syncM
  refine okf_ite (fun _=>okf_ite (fun _=>?_) (fun _=>h.step)) (fun _=>h)
  exact h.step.same (by simp) rfl rfl rfl
theorem Okf.syncDir {F:Fs} (h:Okf F):Okf (syncDirM F).1:=by
  unfold syncDirM
  refine okf_ite (fun _=>h) (fun _=>okf_ite (fun _=>?_) (fun _=>h.step))
  obtain ⟨cf,hf⟩:=h.step
  refine ⟨[],fun k hk=>?_,rfl,rfl,(fun i hi=>by cases hi),(fun x hx=>by cases hx)⟩
  show DOk (([]:List Ch).take k |>.foldl afterM (stepM F).1.dir) _
  rw [List.take_nil]
  exact hf.dir
theorem Okf.remove {F:Fs} (h:Okf F) (n:ByteArray):Okf (removeM F n).1:=by
  unfold removeM
  refine okf_ite (fun hh=>okf_ite (fun h0=>?_) (fun _=>h.step)) (fun _=>h)
  have hu:=stepM_zero h0
  obtain ⟨_,hn,hf⟩:=has_zero.1 hh
  have h1:Okf (up1 F):=h.same (Nat.le_refl _) rfl rfl rfl
  obtain ⟨cf,hf1⟩:=h1
  obtain ⟨x,hx,_,e2⟩:=findM_mem hf
  have hlt:(findM F.dir n).toNat < (up1 F).files.length:=by
    have h3:=hf1.dir.lt x hx
    have h4:=hf1.dir.ge x hx
    rw [e2] at h3 h4
    omega
  show Okf (changeM (stepM F).1 ⟨n,⟨#[]⟩,-1⟩)
  rw [hu]
  exact ⟨_,hf1.change (cok_remove hf1.dir hn (findM F.dir n).toNat) hlt⟩
theorem Okf.rename {F:Fs} (h:Okf F) (n t:ByteArray):Okf (renameM F n t).1:=by
  unfold renameM
  refine okf_ite (fun _=>h) (fun ht=>okf_ite (fun hh=>okf_ite (fun h0=>?_) (fun _=>h.step)) (fun _=>h))
  have hu:=stepM_zero h0
  obtain ⟨hd,hn,hf⟩:=has_zero.1 hh
  have htn:namedM t=true:=by
    rw [hd] at ht
    simpa using ht
  have h1:Okf (up1 F):=h.same (Nat.le_refl _) rfl rfl rfl
  obtain ⟨cf,hf1⟩:=h1
  obtain ⟨x,hx,_,e2⟩:=findM_mem hf
  have h3:=hf1.dir.lt x hx
  have h4:=hf1.dir.ge x hx
  rw [e2] at h3 h4
  have hi:findM (up1 F).dir n=((findM F.dir n).toNat:Int):=by
    show findM F.dir n=_
    omega
  have hlt:(findM F.dir n).toNat < (up1 F).files.length:=by omega
  show Okf (changeM (stepM F).1 ⟨n,t,findM F.dir n⟩)
  rw [hu]
  have e:findM F.dir n=((findM F.dir n).toNat:Int):=hi
  rw [e]
  exact ⟨_,hf1.change (cok_rename hf1.dir hn htn hi hlt) hlt⟩
theorem Okf.fails {F:Fs} (h:Okf F) (n p:Int):Okf (failsM F n p).1:=by
  unfold failsM
  exact okf_ite (fun _=>h) (fun _=>okf_ite (fun _=>h) (fun _=>h.same (Nat.le_refl _) rfl rfl rfl))
theorem Okf.crash {F:Fs} (h:Okf F) (n:Int) (p:List Int):Okf (crashM F n p).1:=by
  unfold crashM
  exact okf_ite (fun _=>h) (fun _=>okf_ite (fun _=>h) (fun _=>okf_ite (fun _=>h.down p) (fun _=>h.same (Nat.le_refl _) rfl rfl rfl)))
theorem Okf.start {F:Fs} (h:Okf F):Okf (startM F).1:=by
  unfold startM
  exact okf_ite (fun _=>h.same (Nat.le_refl _) rfl rfl rfl) (fun _=>h)
theorem Okf.done {F:Fs} (h:Okf F) (o:Po):Okf (doneM F o).1:=by
  unfold doneM
  exact okf_ite (fun _=>h.create _) (fun _=>okf_ite (fun _=>h.append _ _) (fun _=>okf_ite (fun _=>h.sync _) (fun _=>okf_ite (fun _=>h.rename _ _) (fun _=>okf_ite (fun _=>h.syncDir) (fun _=>okf_ite (fun _=>h.remove _) (fun _=>okf_ite (fun _=>h.fails _ _) (fun _=>okf_ite (fun _=>h.crash _ _) (fun _=>okf_ite (fun _=>h.start) (fun _=>h)))))))))
structure Inv (F:Fs) (i:Nat):Prop where
  ok:Okf F
  iv:Iv F i
  st:F.steps ≤ i
  fi:F.files.length ≤ i
  ch:F.chg.length ≤ i
  pk:F.picks.length ≤ 17592186044416
theorem Inv.more {F:Fs} {i j:Nat} (h:Inv F i) (hj:i ≤ j):Inv F j:=⟨h.ok,h.iv.more hj,Nat.le_trans h.st hj,Nat.le_trans h.fi hj,Nat.le_trans h.ch hj,h.pk⟩
theorem Inv.new:Inv newM 0:=⟨⟨[],newOk⟩,Iv.new,Nat.le_refl _,Nat.le_refl _,Nat.le_refl _,Nat.zero_le _⟩
theorem Inv.of {F F':Fs} {i:Nat} (h:Inv F i) (ho:Okf F') (hi:Iv F' (i + 1)) (hg:GrowP 17592186044416 F F'):Inv F' (i + 1):=by
  have h1:=hg.st
  have h2:=hg.fi
  have h3:=hg.ch
  have h4:=h.st
  have h5:=h.fi
  have h6:=h.ch
  exact ⟨ho,hi,by omega,by omega,by omega,hg.pk h.pk⟩
theorem Inv.done {F:Fs} {i:Nat} (h:Inv F i) (o:Po) (hp:o.p.length ≤ 17592186044416):Inv (doneM F o).1 (i + 1):=h.of (h.ok.done o) (iv_done h.iv o) (done_gp _ F o hp)
end Go.Proofs.YtbgbmfmgdgalbaaGreatDoor
namespace Go.Proofs.YtbgbmfmgdgalbaaGreatDoor
open Go.RowKit Go.Maps
set_option linter.unusedVariables false
set_option linter.unusedSimpArgs false
def liveN:ByteArray:=⟨#[100,117,109,112,46,114,100,98]⟩
def tmpS:ByteArray:=⟨#[116,101,109,112,45,115,97,118,101]⟩
def tmpO:ByteArray:=⟨#[116,101,109,112,45,111,108,100]⟩
def oldN (i:Nat):ByteArray:=⟨#[100,117,109,112,46,114,100,98,46,UInt8.ofNat (48 + i)]⟩
def isTmp (n:ByteArray):Bool:=decide (5 ≤ n.size) && decide (n.extract 0 5=⟨#[116,101,109,112,45]⟩)
def andM (r:Fs × Int) (f:Fs → Fs × Int):Fs × Int:=if r.2=0 then f r.1 else r
theorem andM_ok {r:Fs × Int} {f:Fs → Fs × Int} (h:r.2=0):andM r f=f r.1:=if_pos h
theorem andM_no {r:Fs × Int} {f:Fs → Fs × Int} (h:r.2 ≠ 0):andM r f=r:=if_neg h
def thereM (F:Fs) (n:ByteArray):Bool:=decide ((readM F n).2=0)
def appsM:Nat → Fs → ByteArray → ByteArray → Fs × Int
  | 0,F,_,_=>(F,0)
  | k + 1,F,n,t=>if t.size=0 then (F,0) else andM (appendM F n (t.extract 0 (min 65536 t.size))) (fun G=>appsM k G n (t.extract (min 65536 t.size) t.size))
def writtenM (F:Fs) (n t:ByteArray):Fs × Int:=andM (createM F n) fun G=>andM (appsM t.size G n t) fun G=>syncM G n
def cleanM (F:Fs) (n:ByteArray):Fs:=if thereM F n then (removeM F n).1 else F
def rensM:Nat → Fs → Fs × Int
  | 0,F=>(F,0)
  | i + 1,F=>if thereM F (oldN (i + 1)) then andM (renameM F (oldN (i + 1)) (oldN (i + 2))) (rensM i) else rensM i F
def keptM (F:Fs) (keep:Nat):Fs × Int:=if (readM F liveN).2=0 then andM (writtenM F tmpO (readM F liveN).1) fun G=>andM (rensM (keep - 1) G) fun G=>renameM G tmpO (oldN 1) else (F,(readM F liveN).2)
def remsM:Nat → Fs → Fs × Int
  | 0,F=>(F,0)
  | m + 1,F=>if thereM F (oldN (8 - m)) then andM (removeM F (oldN (8 - m))) (remsM m) else remsM m F
def stepsM (F:Fs) (t:ByteArray) (keep:Nat):Fs × Int:=andM (writtenM F tmpS t) fun G=>andM (if decide (0 < keep) && thereM G liveN then keptM G keep else (G,0)) fun G=>andM (renameM G tmpS liveN) fun G=>andM (remsM (8 - keep) G) syncDirM
def saveM (F:Fs) (t:ByteArray) (keep:Int):Fs × Int:=if keep < 0 ∨ 8 < keep then (F,1) else if 1073741824 < t.size then (F,2) else
  let r:=stepsM F t keep.toNat
  if r.2=0 then r else (cleanM (cleanM r.1 tmpS) tmpO,r.2)
def tidysM:List ByteArray → Nat → Fs → Fs × Int × Int
  | [],n,F=>(F,(n:Int),0)
  | x :: l,n,F=>if isTmp x then (let r:=removeM F x; if r.2=0 then tidysM l (n + 1) r.1 else (r.1,0,r.2)) else tidysM l n F
def tidyM (F:Fs):Fs × Int × Int:=if (listM F).2=0 then
    let r:=tidysM (listM F).1 0 F
    if r.2.2=0 then (if 0 < r.2.1 then (let q:=syncDirM r.1; if q.2=0 then (q.1,r.2.1,0) else (q.1,0,q.2)) else r) else r
  else (F,0,(listM F).2)
def loadM (F:Fs):Fs × ByteArray × Bool × Int:=
  let r:=tidyM F
  if r.2.2=0 then (r.1,(readM r.1 liveN).1,decide ((readM r.1 liveN).2=0),0) else (r.1,⟨#[]⟩,false,r.2.2)
def oldersM (F:Fs):Nat → List ByteArray
  | 0=>[]
  | m + 1=>oldersM F m ++ (if thereM F (oldN (m + 1)) then [(readM F (oldN (m + 1))).1] else [])
def olderM (F:Fs):List ByteArray × Int:=if (listM F).2=0 then (oldersM F 8,0) else ([],(listM F).2)
/-! What every state keeps. -/
theorem Inv.create {F:Fs} {i:Nat} (h:Inv F i) (n:ByteArray):Inv (createM F n).1 (i + 1):=by
  have:=h.done ⟨0,n,⟨#[]⟩,⟨#[]⟩,0,0,[]⟩ (Nat.zero_le _)
  exact this
theorem Inv.append {F:Fs} {i:Nat} (h:Inv F i) (n d:ByteArray):Inv (appendM F n d).1 (i + 1):=by
  have:=h.done ⟨1,n,⟨#[]⟩,d,0,0,[]⟩ (Nat.zero_le _)
  exact this
theorem Inv.sync {F:Fs} {i:Nat} (h:Inv F i) (n:ByteArray):Inv (syncM F n).1 (i + 1):=by
  have:=h.done ⟨2,n,⟨#[]⟩,⟨#[]⟩,0,0,[]⟩ (Nat.zero_le _)
  exact this
theorem Inv.rename {F:Fs} {i:Nat} (h:Inv F i) (n t:ByteArray):Inv (renameM F n t).1 (i + 1):=by
  have:=h.done ⟨3,n,t,⟨#[]⟩,0,0,[]⟩ (Nat.zero_le _)
  exact this
theorem Inv.syncDir {F:Fs} {i:Nat} (h:Inv F i):Inv (syncDirM F).1 (i + 1):=by
  have:=h.done ⟨4,⟨#[]⟩,⟨#[]⟩,⟨#[]⟩,0,0,[]⟩ (Nat.zero_le _)
  exact this
theorem Inv.remove {F:Fs} {i:Nat} (h:Inv F i) (n:ByteArray):Inv (removeM F n).1 (i + 1):=by
  have:=h.done ⟨5,n,⟨#[]⟩,⟨#[]⟩,0,0,[]⟩ (Nat.zero_le _)
  exact this
theorem inv_and {r:Fs × Int} {f:Fs → Fs × Int} {i j:Nat} (h:Inv r.1 i) (hj:i ≤ j) (hf:Inv r.1 i → Inv (f r.1).1 j):Inv (andM r f).1 j:=by
  by_cases h0:r.2=0
  · rw [andM_ok h0]; exact hf h
  · rw [andM_no h0]; exact h.more hj
def piecesN (k:Nat):Nat:=(k + 65535) / 65536
theorem ext_rest (t:ByteArray):(t.extract (min 65536 t.size) t.size).size=t.size - min 65536 t.size:=by simp
theorem Inv.apps {n:ByteArray}:∀ (k:Nat) {F:Fs} {i:Nat} (t:ByteArray),Inv F i → Inv (appsM k F n t).1 (i + piecesN t.size)
  | 0,F,i,t,h=>h.more (Nat.le_add_right _ _)
  | k + 1,F,i,t,h=>by
    unfold appsM
    by_cases h0:t.size=0
    · rw [if_pos h0]; exact h.more (Nat.le_add_right _ _)
    · rw [if_neg h0]
      have h1:piecesN t.size=piecesN (t.extract (min 65536 t.size) t.size).size + 1:=by
        rw [ext_rest]
        unfold piecesN
        omega
      rw [h1]
      refine inv_and (i:=i + 1) (h.append _ _) (by omega) (fun h2=>?_)
      have:=Inv.apps (n:=n) k (t.extract (min 65536 t.size) t.size) h2
      exact this.more (by omega)
theorem Inv.written {F:Fs} {i:Nat} (h:Inv F i) (n t:ByteArray):Inv (writtenM F n t).1 (i + piecesN t.size + 2):=by
  unfold writtenM
  refine inv_and (i:=i + 1) (h.create n) (by omega) (fun h2=>?_)
  refine inv_and (i:=i + 1 + piecesN t.size) (h2.apps _ t) (by omega) (fun h3=>?_)
  exact (h3.sync n).more (by omega)
theorem Inv.clean {F:Fs} {i:Nat} (h:Inv F i) (n:ByteArray):Inv (cleanM F n) (i + 1):=by
  unfold cleanM
  split
  · exact h.remove n
  · exact h.more (Nat.le_succ _)
theorem Inv.rens:∀ (m:Nat) {F:Fs} {i:Nat},Inv F i → Inv (rensM m F).1 (i + m)
  | 0,F,i,h=>h
  | m + 1,F,i,h=>by
    unfold rensM
    split
    · exact inv_and (i:=i + 1) (h.rename _ _) (by omega) (fun h2=>(Inv.rens m h2).more (by omega))
    · exact (Inv.rens m h).more (by omega)
theorem Inv.rems:∀ (m:Nat) {F:Fs} {i:Nat},Inv F i → Inv (remsM m F).1 (i + m)
  | 0,F,i,h=>h
  | m + 1,F,i,h=>by
    unfold remsM
    split
    · exact inv_and (i:=i + 1) (h.remove _) (by omega) (fun h2=>(Inv.rems m h2).more (by omega))
    · exact (Inv.rems m h).more (by omega)
theorem Inv.read {F:Fs} {i:Nat} (h:Inv F i) (n:ByteArray):(readM F n).1.size ≤ 1073741824:=by
  unfold readM
  split
  · exact (h.iv.fileAt _).1
  · show (0:Nat) ≤ _; omega
theorem pieces_le {k:Nat} (h:k ≤ 1073741824):piecesN k ≤ 16384:=by unfold piecesN; omega
theorem Inv.kept {F:Fs} {i keep:Nat} (h:Inv F i) (hk:keep ≤ 8):Inv (keptM F keep).1 (i + 16400):=by
  unfold keptM
  split
  · have h1:=h.written tmpO (readM F liveN).1
    have h2:=pieces_le (h.read liveN)
    refine inv_and h1 (by omega) (fun h3=>?_)
    refine inv_and (Inv.rens (keep - 1) h3) (by omega) (fun h4=>?_)
    exact (h4.rename _ _).more (by omega)
  · exact h.more (by omega)
theorem Inv.steps {F:Fs} {i keep:Nat} {t:ByteArray} (h:Inv F i) (hk:keep ≤ 8) (ht:t.size ≤ 1073741824):Inv (stepsM F t keep).1 (i + 32820):=by
  unfold stepsM
  have h1:=h.written tmpS t
  have h2:=pieces_le ht
  refine inv_and h1 (by omega) (fun h3=>?_)
  have h4:Inv (if decide (0 < keep) && thereM (writtenM F tmpS t).1 liveN then keptM (writtenM F tmpS t).1 keep else ((writtenM F tmpS t).1,0)).1 (i + piecesN t.size + 2 + 16400):=by
    split
    · exact h3.kept hk
    · exact h3.more (by omega)
  refine inv_and h4 (by omega) (fun h5=>?_)
  refine inv_and (h5.rename _ _) (by omega) (fun h6=>?_)
  refine inv_and (Inv.rems (8 - keep) h6) (by omega) (fun h7=>?_)
  exact h7.syncDir.more (by omega)
theorem Inv.save {F:Fs} {i:Nat} (h:Inv F i) (t:ByteArray) (keep:Int):Inv (saveM F t keep).1 (i + 32822):=by
  unfold saveM
  split
  · exact h.more (by omega)
  · rename_i hk
    split
    · exact h.more (by omega)
    · rename_i ht
      have h1:Inv (stepsM F t keep.toNat).1 (i + 32820):=h.steps (by omega) (by omega)
      simp only
      split
      · exact h1.more (by omega)
      · exact (h1.clean _).clean _
theorem Inv.tidys:∀ (l:List ByteArray) (n:Nat) {F:Fs} {i:Nat},Inv F i → Inv (tidysM l n F).1 (i + l.length)
  | [],n,F,i,h=>h
  | x :: l,n,F,i,h=>by
    unfold tidysM
    split
    · simp only
      split
      · exact (Inv.tidys l (n + 1) (h.remove x)).more (by simp; omega)
      · exact (h.remove x).more (by simp)
    · exact (Inv.tidys l n h).more (by simp)
theorem Inv.few {F:Fs} {i:Nat} (h:Inv F i):(listM F).1.length ≤ 64:=by
  obtain ⟨cf,hf⟩:=h.ok
  unfold listM
  split
  · simp
  · show (F.dir.map (·.1)).length ≤ 64
    rw [List.length_map]; exact hf.dir.few
theorem Inv.tidy {F:Fs} {i:Nat} (h:Inv F i):Inv (tidyM F).1 (i + 65):=by
  have h0:=h.few
  have h1:=Inv.tidys (listM F).1 0 h
  unfold tidyM
  split
  · simp only
    split
    · split
      · split
        · exact h1.syncDir.more (by omega)
        · exact h1.syncDir.more (by omega)
      · exact h1.more (by omega)
    · exact h1.more (by omega)
  · exact h.more (by omega)
theorem Inv.load {F:Fs} {i:Nat} (h:Inv F i):Inv (loadM F).1 (i + 65):=by
  unfold loadM
  simp only
  split <;> exact h.tidy
end Go.Proofs.YtbgbmfmgdgalbaaGreatDoor
