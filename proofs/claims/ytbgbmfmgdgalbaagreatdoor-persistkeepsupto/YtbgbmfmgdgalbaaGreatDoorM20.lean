import Derived.Test.YtbgbmfmgdgalbaaGreatDoorM19
import Derived.Test.YtbgbmfmgdgalbaaGreatDoorM01
import Derived.Test.YtbgbmfmgdgalbaaGreatDoorM02
import Derived.Test.YtbgbmfmgdgalbaaGreatDoorShE
import Derived.LaidEqlPtr
import Derived.Deep.MidRow
import Derived.Test.YtbgbmfmgdgalbaaGreatDoorM16
import Derived.Test.YtbgbmfmgdgalbaaGreatDoorM00
import Derived.Deep.RegionHeld3
namespace Go.Proofs.YtbgbmfmgdgalbaaGreatDoor
open Go.RowKit Go.Maps
set_option linter.unusedVariables false
set_option linter.unusedSimpArgs false
def FiZ (x:Fi):Prop:=x.d.size ≤ 1073741824∧x.s ≤ x.d.size
structure Iv (F:Fs) (i:Nat):Prop where
  fz:∀ x ∈ F.files,FiZ x
  fl:F.fails.length ≤ i
theorem Iv.more {F:Fs} {i j:Nat} (h:Iv F i) (hj:i ≤ j):Iv F j:=⟨h.fz,Nat.le_trans h.fl hj⟩
theorem Iv.new:Iv newM 0:=⟨fun x hx=>by simp [newM] at hx,Nat.le_refl _⟩
theorem Iv.same {F F':Fs} {i:Nat} (h:Iv F i) (e1:F'.files=F.files) (e2:F'.fails=F.fails):Iv F' i:=⟨by rw [e1]; exact h.fz,by rw [e2]; exact h.fl⟩
theorem fiZ0:FiZ ⟨⟨#[]⟩,0⟩:=⟨by decide,by decide⟩
theorem Iv.fileAt {F:Fs} {i:Nat} (h:Iv F i) (j:Nat):FiZ (F.files.getD j ⟨⟨#[]⟩,0⟩):=by
  rw [List.getD_eq_getElem?_getD]
  cases hq:F.files[j]? with
  | none=>exact fiZ0
  | some x=>exact h.fz x (List.mem_of_getElem? hq)
theorem Iv.set {F F':Fs} {i j:Nat} {x:Fi} (h:Iv F i) (hx:FiZ x) (e1:F'.files=F.files.set j x) (e2:F'.fails=F.fails):Iv F' i:=by
  refine ⟨fun y hy=>?_,by rw [e2]; exact h.fl⟩
  rw [e1] at hy
  rcases List.mem_or_eq_of_mem_set hy with h1 | h1
  · exact h.fz y h1
  · rw [h1]; exact hx
theorem iv_downF (p:List Int):∀ (l:List Fi) (k:Nat),(∀ x ∈ l,FiZ x) → ∀ x ∈ downF p k l,FiZ x
  | [],_,_,x,hx=>by simp [downF] at hx
  | y :: l,k,h,x,hx=>by
    simp only [downF,List.mem_cons] at hx
    rcases hx with rfl | hx
    · obtain ⟨h1,h2⟩:=h y (List.mem_cons_self ..)
      have h3:=pkM_le p (k + 1) (y.d.size - y.s)
      have h4:(y.d.extract 0 (y.s + pickM p (k + 1) (y.d.size - y.s))).size=min (y.s + pickM p (k + 1) (y.d.size - y.s)) y.d.size:=by simp
      show (y.d.extract 0 _).size ≤ _∧y.s + _ ≤ (y.d.extract 0 _).size
      rw [h4]
      omega
    · exact iv_downF p l (k + 1) (fun z hz=>h z (List.mem_cons_of_mem _ hz)) x hx
theorem iv_down {F:Fs} {i:Nat} (h:Iv F i) (p:List Int):Iv (downM F p) i:=⟨iv_downF p F.files 0 h.fz,Nat.zero_le _⟩
theorem iv_step {F:Fs} {i:Nat} (h:Iv F i):Iv (stepM F).1 i:=by
  have h1:Iv { F with steps:=F.steps + 1 } i:=h.same rfl rfl
  unfold stepM
  simp only
  split
  · exact iv_down h1 _
  · split <;> exact h1
theorem iv_ite {i:Nat} {c:Prop} [Decidable c] {a b:Fs × Int} (ha:c → Iv a.1 i) (hb:¬ c → Iv b.1 i):Iv (if c then a else b).1 i:=by
  by_cases h:c
  · rw [if_pos h]; exact ha h
  · rw [if_neg h]; exact hb h
theorem iv_change {F:Fs} {i:Nat} {c:Ch} (h:Iv F i):Iv (changeM F c) i:=h.same rfl rfl
theorem iv_create {F:Fs} {i:Nat} (h:Iv F i) (n:ByteArray):Iv (createM F n).1 i:=by
  unfold createM
  refine iv_ite (fun _=>h) (fun _=>iv_ite (fun _=>iv_ite (fun _=>h) (fun _=>?_)) (fun _=>h))
  refine iv_ite (fun _=>iv_change ?_) (fun _=>iv_step h)
  have h1:=iv_step h
  refine ⟨fun x hx=>?_,h1.fl⟩
  rcases List.mem_append.1 hx with h2 | h2
  · exact h1.fz x h2
  · have:x=⟨⟨#[]⟩,0⟩:=by simpa using h2
    rw [this]
    exact fiZ0
theorem ba_ext_size (d:ByteArray) (k:Nat):(d.extract 0 k).size=min k d.size:=by simp
theorem iv_append {F:Fs} {i:Nat} (h:Iv F i) (n d:ByteArray):Iv (appendM F n d).1 i:=by
  unfold appendM
  refine iv_ite (fun _=>?_) (fun _=>h)
  refine iv_ite (fun _=>h) (fun h0=>?_)
  refine iv_ite (fun _=>iv_step h) (fun h3=>?_)
  have hu:(stepM F).1=up1 F:=by
    rcases stepM_cases F with h1 | ⟨_,h1⟩ | ⟨_,h1⟩
    · exact absurd h1 h3
    · exact h1
    · exact h1
  have hx:=h.fileAt (findM F.dir n).toNat
  have key:∀ m:ByteArray,m.size ≤ d.size → Iv { (stepM F).1 with files:=(stepM F).1.files.set (findM F.dir n).toNat ⟨(F.files.getD (findM F.dir n).toNat ⟨⟨#[]⟩,0⟩).d ++ m,(F.files.getD (findM F.dir n).toNat ⟨⟨#[]⟩,0⟩).s⟩ } i:=fun m hm=>by
    refine (iv_step h).set (j:=(findM F.dir n).toNat) (x:=⟨(F.files.getD (findM F.dir n).toNat ⟨⟨#[]⟩,0⟩).d ++ m,(F.files.getD (findM F.dir n).toNat ⟨⟨#[]⟩,0⟩).s⟩) ⟨?_,?_⟩ rfl rfl
    · show ((F.files.getD (findM F.dir n).toNat ⟨⟨#[]⟩,0⟩).d ++ m).size ≤ _
      rw [ByteArray.size_append]
      have h0':¬ 1073741824 < (F.files.getD (findM F.dir n).toNat ⟨⟨#[]⟩,0⟩).d.size + d.size:=h0
      omega
    · show (F.files.getD (findM F.dir n).toNat ⟨⟨#[]⟩,0⟩).s ≤ ((F.files.getD (findM F.dir n).toNat ⟨⟨#[]⟩,0⟩).d ++ m).size
      rw [ByteArray.size_append]
      have:=hx.2
      omega
  refine key _ ?_
  split
  · rw [ba_ext_size]
    omega
  · exact Nat.le_refl _
theorem iv_sync {F:Fs} {i:Nat} (h:Iv F i) (n:ByteArray):Iv (syncM F n).1 i:=by
  unfold syncM
  refine iv_ite (fun _=>?_) (fun _=>h)
  refine iv_ite (fun _=>?_) (fun _=>iv_step h)
  have hx:=(iv_step h).fileAt (findM F.dir n).toNat
  exact (iv_step h).set (j:=(findM F.dir n).toNat) (x:=⟨((stepM F).1.files.getD (findM F.dir n).toNat ⟨⟨#[]⟩,0⟩).d,((stepM F).1.files.getD (findM F.dir n).toNat ⟨⟨#[]⟩,0⟩).d.size⟩) ⟨hx.1,Nat.le_refl _⟩ rfl rfl
theorem iv_rename {F:Fs} {i:Nat} (h:Iv F i) (n t:ByteArray):Iv (renameM F n t).1 i:=by
  unfold renameM
  exact iv_ite (fun _=>h) (fun _=>iv_ite (fun _=>iv_ite (fun _=>iv_change (iv_step h)) (fun _=>iv_step h)) (fun _=>h))
theorem iv_remove {F:Fs} {i:Nat} (h:Iv F i) (n:ByteArray):Iv (removeM F n).1 i:=by
  unfold removeM
  exact iv_ite (fun _=>iv_ite (fun _=>iv_change (iv_step h)) (fun _=>iv_step h)) (fun _=>h)
theorem iv_syncDir {F:Fs} {i:Nat} (h:Iv F i):Iv (syncDirM F).1 i:=by
  unfold syncDirM
  exact iv_ite (fun _=>h) (fun _=>iv_ite (fun _=>(iv_step h).same rfl rfl) (fun _=>iv_step h))
theorem iv_fails {F:Fs} {i:Nat} (h:Iv F i) (n p:Int):Iv (failsM F n p).1 (i + 1):=by
  unfold failsM
  refine iv_ite (fun _=>h.more (Nat.le_succ _)) (fun _=>iv_ite (fun _=>h.more (Nat.le_succ _)) (fun _=>⟨h.fz,?_⟩))
  show (F.fails ++ [_]).length ≤ _
  rw [List.length_append]
  have:=h.fl
  simp; omega
theorem iv_crash {F:Fs} {i:Nat} (h:Iv F i) (n:Int) (p:List Int):Iv (crashM F n p).1 i:=by
  unfold crashM
  exact iv_ite (fun _=>h) (fun _=>iv_ite (fun _=>h) (fun _=>iv_ite (fun _=>iv_down h p) (fun _=>h.same rfl rfl)))
theorem iv_start {F:Fs} {i:Nat} (h:Iv F i):Iv (startM F).1 i:=by
  unfold startM
  exact iv_ite (fun _=>h.same rfl rfl) (fun _=>h)
theorem iv_done {F:Fs} {i:Nat} (h:Iv F i) (o:Po):Iv (doneM F o).1 (i + 1):=by
  unfold doneM
  exact iv_ite (fun _=>(iv_create h _).more (Nat.le_succ _)) (fun _=>iv_ite (fun _=>(iv_append h _ _).more (Nat.le_succ _)) (fun _=>iv_ite (fun _=>(iv_sync h _).more (Nat.le_succ _)) (fun _=>iv_ite (fun _=>(iv_rename h _ _).more (Nat.le_succ _)) (fun _=>iv_ite (fun _=>(iv_syncDir h).more (Nat.le_succ _)) (fun _=>iv_ite (fun _=>(iv_remove h _).more (Nat.le_succ _)) (fun _=>iv_ite (fun _=>iv_fails h _ _) (fun _=>iv_ite (fun _=>(iv_crash h _ _).more (Nat.le_succ _)) (fun _=>iv_ite (fun _=>(iv_start h).more (Nat.le_succ _)) (fun _=>h.more (Nat.le_succ _))))))))))
end Go.Proofs.YtbgbmfmgdgalbaaGreatDoor
namespace Go.Proofs.YtbgbmfmgdgalbaaGreatDoor
open Go.RowKit Go.Maps
set_option linter.unusedVariables false
set_option linter.unusedSimpArgs false
theorem ps_fl (ps:List ByteArray):psE.fl ps=ps.map Value.string:=by
  unfold ET.fl
  induction ps with
  | nil=>rfl
  | cons x p ih=>rw [List.flatMap_cons,ih]; rfl
end Go.Proofs.YtbgbmfmgdgalbaaGreatDoor
namespace Go.Proofs.YtbgbmfmgdgalbaaGreatDoor
open Go.RowKit Go.Maps
set_option linter.unusedVariables false
set_option linter.unusedSimpArgs false
theorem ext_len (c:ByteArray) (m:Nat):(c.extract 0 m).size=min m c.size:=by simp
structure Calm (F:Fs):Prop where
  up:F.down=false
  fl:F.fails=[]
  cr:F.crash=0
theorem stepM_calm {F:Fs} (h:Calm F):stepM F=(up1 F,0,0):=by
  unfold stepM
  simp only []
  have hm:failM F.fails (F.steps + 1)=none:=by rw [h.fl]; rfl
  rw [if_neg (by rw [h.cr]; omega),hm]
  rfl
theorem downF_at (p:List Int):∀ (l:List Fi) (k i:Nat) (x:Fi),l[i]?=some x → (downF p k l)[i]?=some (cutF x (pickM p (k + i + 1) (x.d.size - x.s)))
  | [],_,_,_,h=>by simp at h
  | y :: l,k,0,x,h=>by
    have:y=x:=by simpa using h
    subst this
    simp [downF]
  | y :: l,k,i + 1,x,h=>by
    have:=downF_at p l (k + 1) i x (by simpa using h)
    simp only [downF,List.getElem?_cons_succ]
    rw [this]
    have:k + 1 + i + 1=k + (i + 1) + 1:=by omega
    rw [this]
theorem down_file {F:Fs} (p:List Int) {i:Nat} (h:i < F.files.length):fileAt (downM F p) i=cutF (fileAt F i) (pickM p (i + 1) ((fileAt F i).d.size - (fileAt F i).s)):=by
  unfold fileAt downM
  simp only
  have h1:=downF_at p F.files 0 i _ (List.getElem?_eq_getElem h)
  rw [List.getD_eq_getElem?_getD,h1,List.getD_eq_getElem?_getD,List.getElem?_eq_getElem h,Nat.zero_add]
  rfl
end Go.Proofs.YtbgbmfmgdgalbaaGreatDoor
namespace Go.Proofs.YtbgbmfmgdgalbaaGreatDoor
open Go.RowKit Go.Maps
set_option linter.unusedVariables false
set_option linter.unusedSimpArgs false
theorem now_fa (F:Fs):nowM F=F.dir.map fun x=>(x.1,(fileAt F x.2.toNat).d):=rfl
theorem stepM_zero {F:Fs} (h:(stepM F).2.1=0):(stepM F).1=up1 F:=by
  rcases stepM_cases F with h1 | ⟨h1,_⟩ | ⟨_,h2⟩
  · rw [h1] at h; cases h
  · rw [h1] at h; cases h
  · exact h2
theorem syncM_zero {F:Fs} {n:ByteArray} (h:(syncM F n).2=0):hasM F n=0∧(syncM F n).1={ up1 F with files:=F.files.set (findM F.dir n).toNat ⟨(fileAt F (findM F.dir n).toNat).d,(fileAt F (findM F.dir n).toNat).d.size⟩ }:=by
  unfold syncM at h ⊢
  by_cases h0:hasM F n=0
  · rw [if_pos h0] at h ⊢
    by_cases h1:(stepM F).2.1=0
    · simp only [h1,if_true] at h ⊢
      rw [stepM_zero h1]
      exact ⟨h0,rfl⟩
    · simp only [h1,if_false] at h
  · rw [if_neg h0] at h
    exact absurd h h0
theorem List_any {w0 W:World} {g:Nat} {X:Gh} {F:Fs} {i:Nat} (h:St w0 W g X F i) (hu:F.down=false):Calls Tryz.prog 70 #[ptr (some g)] W fun e w'=>∃ P c,e=.returned (.tuple #[.slice P F.dir.length c,.int .i64 0])∧w'.ownsRow W.heap.size 9 1 (.slice P F.dir.length c) F.dir.length (psE.fl (F.dir.map (·.1)))∧Below W.heap.size W w':=by
  obtain ⟨c0,_,_,c3,_⟩:=h.fs.cells
  rw [hu] at c0
  have HNM:Hid _:=names_any X.mn F.dir.length (dirF F.dir X.fb) (F.dir.map (·.1)) (names_of h.fs.ok.dir X.fb) (by have:=h.fs.ok.dir.few; omega) (fun m hm=>by
    obtain ⟨x,hx,rfl⟩:=List.mem_map.1 hm
    have:=(named_size (h.fs.ok.dir.nam x hx)).2
    omega) W h.fs.now_k
  clear h hu
  show Calls Tryz.prog 70 #[.pointer (some ⟨g,0,none⟩)] W _
  go_enter Tryz.func70,Tryz.ntmps70
  go_wp2_with fail
  refine (show Calls _ _ _ _ _ from HNM.out).mono ?_
  rintro e w' ⟨v,rfl,ho,hb⟩
  rw [List.length_map] at ho
  obtain ⟨P,c,rfl⟩:=own_form ho
  have HO:Hid (w'.ownsRow W.heap.size 9 1 (.slice P F.dir.length c) F.dir.length (psE.fl (F.dir.map (·.1)))):=ho
  clear ho HNM
  go_wp2
  go_returns
  exact ⟨P,c,rfl,HO.out,hb⟩
end Go.Proofs.YtbgbmfmgdgalbaaGreatDoor
namespace Go.Proofs.YtbgbmfmgdgalbaaGreatDoor
open Go.RowKit Go.Maps
set_option linter.unusedVariables false
set_option linter.unusedSimpArgs false
def BcP (w0 W:World) (g:Nat) (X:Gh) (F F':Fs) (r:Int) (i:Nat) (e:Ending) (w':World):Prop:=e=.returned (.int .i64 r)∧∃ X',St w0 w' g X' F' (i + 1)∧Bec W g X F w' X' F'
theorem bc_of {w0 W:World} {g i:Nat} {X:Gh} {F F':Fs} {r:Int} {e:Ending} {w':World} (h:St w0 W g X F i) (hg:GrowP 17592186044416 F F') (he:e=.returned (.int .i64 r)) (hB:∃ X',Bec W g X F w' X' F'):BcP w0 W g X F F' r i e w':=by
  obtain ⟨X',hB⟩:=hB
  have g1:=hg.st
  have g2:=hg.fi
  have g3:=hg.ch
  have hst:=h.st
  have hfi:=h.fi
  have hch:=h.ch
  exact ⟨he,X',⟨h.toWk.step hB,by omega,by omega,by omega,hg.pk h.pk⟩,hB⟩
theorem St.sm {w0 W:World} {g i:Nat} {X:Gh} {F:Fs} (h:St w0 W g X F i) (hi:i < 3298534883328):Sm F X:=by
  have hst:=h.st
  have hfi:=h.fi
  have hch:=h.ch
  have hq:=h.q
  exact ⟨by omega,by omega,by omega,by omega⟩
end Go.Proofs.YtbgbmfmgdgalbaaGreatDoor
namespace Go.Proofs.YtbgbmfmgdgalbaaGreatDoor
open Go.RowKit Go.Maps
set_option linter.unusedVariables false
set_option linter.unusedSimpArgs false
theorem KR.modP {α:Type} {E:ET α} {S:Nat → Prop} {w w':World} {v:Value} {l:List α} (h:KR E w v l) (hm:ModP S w w') (hn:l ≠ [] → NB S v):KR E w' v l:=by
  by_cases hl:l=[]
  · subst hl
    rcases h with h | ⟨g,o,cap,rfl,hc⟩
    · exact Or.inl h
    · exact Or.inr ⟨g,o,cap,rfl,fun j u hu=>by simp [ET.fl] at hu⟩
  · rcases h with ⟨h,_⟩ | ⟨g,o,cap,rfl,hc⟩
    · exact absurd h hl
    · refine Or.inr ⟨g,o,cap,rfl,fun j u hu=>?_⟩
      have h1:=hc j u hu
      have h2:=hm.oth g (lt_of_cell h1) (hn hl g o _ _ rfl)
      rw [← h1]
      unfold World.cell?
      simp only [h2]
end Go.Proofs.YtbgbmfmgdgalbaaGreatDoor
namespace Go.Proofs.YtbgbmfmgdgalbaaGreatDoor
open Go.RowKit Go.Maps
set_option linter.unusedVariables false
set_option linter.unusedSimpArgs false
set_option maxHeartbeats 1000000 in
theorem List_all {w0 W:World} {g:Nat} {X:Gh} {F:Fs} {i:Nat} (h:St w0 W g X F i):Calls Tryz.prog 70 #[ptr (some g)] W fun e w'=>∃ P c,e=.returned (.tuple #[.slice P (listM F).1.length c,.int .i64 (listM F).2])∧w'.ownsRow W.heap.size 9 1 (.slice P (listM F).1.length c) (listM F).1.length (psE.fl (listM F).1)∧Below W.heap.size W w':=by
  cases hd:F.down with
  | false =>
    have hl:listM F=(F.dir.map (·.1),0):=by unfold listM; rw [hd]; rfl
    rw [hl]
    refine (List_any h hd).mono ?_
    rintro e w' ⟨P,c,rfl,ho,hb⟩
    exact ⟨P,c,by rw [List.length_map],by rw [List.length_map]; exact ho,hb⟩
  | true =>
    have hl:listM F=([],203):=by unfold listM; rw [hd]; rfl
    rw [hl]
    obtain ⟨c0,_⟩:=h.fs.cells
    rw [hd] at c0
    clear h hd hl
    show Calls Tryz.prog 70 #[.pointer (some ⟨g,0,none⟩)] W _
    go_enter Tryz.func70,Tryz.ntmps70
    go_wp2
    go_returns
    exact ⟨none,0,rfl,⟨rfl,Or.inl ⟨rfl,rfl⟩⟩,Below.refl _ _⟩
end Go.Proofs.YtbgbmfmgdgalbaaGreatDoor
namespace Go.Proofs.YtbgbmfmgdgalbaaGreatDoor
open Go.RowKit Go.Maps
set_option linter.unusedVariables false
set_option linter.unusedSimpArgs false
theorem Holds.to3 {W W':World} {F:Fs} {q:Pq} (h:Holds W F q) (hk:∀ (k:Nat) (cs:Array Value) (t:Nat) (fz:Nat × Nat),W.heap[k]?=some (.cells cs t fz) → t=3 ∨ t=44 → W'.heap[k]?=W.heap[k]?):Holds W' F q:=by
  refine ⟨fun hc=>?_,fun hc=>?_⟩
  · obtain ⟨h1,v,h2,h4⟩:=h.cr hc
    refine ⟨h1,v,(hk _ _ _ _ h2 (Or.inr rfl)).trans h2,own_to h4 (fun k hk'=>?_)⟩
    obtain ⟨cur,hc⟩:=own_type h4 hk'
    exact hk _ _ _ _ hc (Or.inl rfl)
  · obtain ⟨p,h1,h2⟩:=h.fl hc
    exact ⟨p,(hk _ _ _ _ h1 (Or.inl rfl)).trans h1,h2⟩
theorem FsP.one {W W':World} {g r:Nat} {X:Gh} {F:Fs} {cs:Array Value} {t:Nat} (h:FsP W g X F) (hm:ModP (fun k=>k=r) W W') (hr:W.heap[r]?=some (.cells cs t)) (h1:¬ tyOwn t) (h2:t ≠ 3) (h3:t ≠ 44):FsP W' g X F:=by
  refine ⟨h.toFsC.mod hm (fun k e hk=>?_),h.pln,fun q hq=>(h.hld q hq).to3 (fun k cs' t' fz hk ht=>hm.oth k (row_lt hk) (fun e=>?_))⟩
  · subst e
    exact h1 (h.own_ty hk hr)
  · rw [e,hr] at hk
    injection hk with hk
    injection hk with _ h6 _
    rcases ht with ht | ht
    · exact h2 (h6.trans ht)
    · exact h3 (h6.trans ht)
theorem St.one {w0 W W':World} {g i r:Nat} {X:Gh} {F:Fs} {cs:Array Value} {t:Nat} (h:St w0 W g X F i) (hm:ModP (fun k=>k=r) W W') (hr:W.heap[r]?=some (.cells cs t)) (h1:¬ tyOwn t) (h2:t ≠ 3) (h3:t ≠ 44) (hb:w0.heap.size ≤ r):St w0 W' g X F i:=
  ⟨⟨h.fs.one hm hr h1 h2 h3,h.q,h.bel.trans (hm.bel (fun k hk e=>by omega) h.bel.size),h.own⟩,h.st,h.fi,h.ch,h.pk⟩
end Go.Proofs.YtbgbmfmgdgalbaaGreatDoor
namespace Go.Proofs.YtbgbmfmgdgalbaaGreatDoor
open Go.RowKit Go.Maps
set_option linter.unusedVariables false
set_option linter.unusedSimpArgs false
def Okf (F:Fs):Prop:=∃ cf,FOk F cf
theorem DOk.more {d:List Sl} {n m:Nat} (h:DOk d n) (hm:n ≤ m):DOk d m:=⟨h.rise,h.nam,h.ge,fun x hx=>by have:=h.lt x hx; omega,h.uni,h.few⟩
theorem Okf.same {F F':Fs} (h:Okf F) (e1:F.files.length ≤ F'.files.length) (e2:F'.dir=F.dir) (e3:F'.sure=F.sure) (e4:F'.chg=F.chg):Okf F':=by
  obtain ⟨cf,h⟩:=h
  have hk:∀ k,dirK F' k=dirK F k:=fun k=>by unfold dirK; rw [e3,e4]
  exact ⟨cf,fun k hk'=>by rw [hk]; exact (h.dirs k (by rw [← e4]; exact hk')).more e1,by rw [hk,e4,e2]; exact h.now,by rw [e4]; exact h.cl,fun i hi=>Nat.lt_of_lt_of_le (h.cfl i hi) e1,by rw [e4]; exact h.ch⟩
theorem Okf.down {F:Fs} (h:Okf F) (p:List Int):Okf (downM F p):=by
  obtain ⟨cf,h⟩:=h
  have hj:pickM p 0 F.chg.length ≤ F.chg.length:=pickM_le p 0 _
  refine ⟨[],fun k hk=>?_,rfl,rfl,(fun i hi=>by cases hi),(fun x hx=>by cases hx)⟩
  have e:dirK (downM F p) k=dirK F (pickM p 0 F.chg.length):=by
    show (([]:List Ch).take k).foldl afterM _=_
    rw [List.take_nil]; rfl
  rw [e]
  show DOk _ (downF p 0 F.files).length
  rw [down_len]
  exact h.dirs _ hj
theorem Okf.step {F:Fs} (h:Okf F):Okf (stepM F).1:=by
  have h1:Okf { F with steps:=F.steps + 1 }:=h.same (Nat.le_refl _) rfl rfl rfl
  unfold stepM
  simp only
  split
  · exact h1.down _
  · split <;> exact h1
theorem okf_ite {c:Prop} [Decidable c] {a b:Fs × Int} (ha:c → Okf a.1) (hb:¬ c → Okf b.1):Okf (if c then a else b).1:=by
  by_cases h:c
  · rw [if_pos h]; exact ha h
  · rw [if_neg h]; exact hb h
theorem Okf.create {F:Fs} (h:Okf F) (n:ByteArray):Okf (createM F n).1:=by
  unfold createM
  refine okf_ite (fun _=>h) (fun _=>okf_ite (fun hn=>okf_ite (fun _=>h) (fun hl=>okf_ite (fun h0=>?_) (fun _=>h.step))) (fun _=>h))
  obtain ⟨cf,hf⟩:=h
  have hu:=stepM_zero h0
  have h1:Okf (up1 F):=Okf.same ⟨cf,hf⟩ (Nat.le_refl _) rfl rfl rfl
  have hc:=cok_create (F:=up1 F) hf.dir hn hl
  have h2:Okf (addF (up1 F)):=h1.same (by unfold addF; simp) rfl rfl rfl
  obtain ⟨cf2,hf2⟩:=h2
  show Okf (changeM { (stepM F).1 with files:=(stepM F).1.files ++ [⟨⟨#[]⟩,0⟩] } ⟨n,⟨#[]⟩,((stepM F).1.files.length:Int)⟩)
  rw [hu]
  exact ⟨_,hf2.change hc (by unfold addF; simp)⟩
theorem Okf.append {F:Fs} (h:Okf F) (n d:ByteArray):Okf (appendM F n d).1:=by
  unfold appendM
  refine okf_ite (fun _=>okf_ite (fun _=>h) (fun _=>okf_ite (fun _=>h.step) (fun _=>?_))) (fun _=>h)
  exact h.step.same (by simp) rfl rfl rfl
theorem Okf.sync {F:Fs} (h:Okf F) (n:ByteArray):Okf (syncM F n).1:=by
  unfold syncM
  refine okf_ite (fun _=>okf_ite (fun _=>?_) (fun _=>h.step)) (fun _=>h)
  exact h.step.same (by simp) rfl rfl rfl
theorem Okf.syncDir {F:Fs} (h:Okf F):Okf (syncDirM F).1:=by
  unfold syncDirM
  refine okf_ite (fun _=>h) (fun _=>okf_ite (fun _=>?_) (fun _=>h.step))
  obtain ⟨cf,hf⟩:=h.step
  refine ⟨[],fun k hk=>?_,rfl,rfl,(fun i hi=>by cases hi),(fun x hx=>by cases hx)⟩
  show DOk (([]:List Ch).take k |>.foldl afterM (stepM F).1.dir) _
  rw [List.take_nil]
  exact hf.dir
theorem Okf.remove {F:Fs} (h:Okf F) (n:ByteArray):Okf (removeM F n).1:=by
  unfold removeM
  refine okf_ite (fun hh=>okf_ite (fun h0=>?_) (fun _=>h.step)) (fun _=>h)
  have hu:=stepM_zero h0
  obtain ⟨_,hn,hf⟩:=has_zero.1 hh
  have h1:Okf (up1 F):=h.same (Nat.le_refl _) rfl rfl rfl
  obtain ⟨cf,hf1⟩:=h1
  obtain ⟨x,hx,_,e2⟩:=findM_mem hf
  have hlt:(findM F.dir n).toNat < (up1 F).files.length:=by
    have h3:=hf1.dir.lt x hx
    have h4:=hf1.dir.ge x hx
    rw [e2] at h3 h4
    omega
  show Okf (changeM (stepM F).1 ⟨n,⟨#[]⟩,-1⟩)
  rw [hu]
  exact ⟨_,hf1.change (cok_remove hf1.dir hn (findM F.dir n).toNat) hlt⟩
theorem Okf.rename {F:Fs} (h:Okf F) (n t:ByteArray):Okf (renameM F n t).1:=by
  unfold renameM
  refine okf_ite (fun _=>h) (fun ht=>okf_ite (fun hh=>okf_ite (fun h0=>?_) (fun _=>h.step)) (fun _=>h))
  have hu:=stepM_zero h0
  obtain ⟨hd,hn,hf⟩:=has_zero.1 hh
  have htn:namedM t=true:=by
    rw [hd] at ht
    simpa using ht
  have h1:Okf (up1 F):=h.same (Nat.le_refl _) rfl rfl rfl
  obtain ⟨cf,hf1⟩:=h1
  obtain ⟨x,hx,_,e2⟩:=findM_mem hf
  have h3:=hf1.dir.lt x hx
  have h4:=hf1.dir.ge x hx
  rw [e2] at h3 h4
  have hi:findM (up1 F).dir n=((findM F.dir n).toNat:Int):=by
    show findM F.dir n=_
    omega
  have hlt:(findM F.dir n).toNat < (up1 F).files.length:=by omega
  show Okf (changeM (stepM F).1 ⟨n,t,findM F.dir n⟩)
  rw [hu]
  have e:findM F.dir n=((findM F.dir n).toNat:Int):=hi
  rw [e]
  exact ⟨_,hf1.change (cok_rename hf1.dir hn htn hi hlt) hlt⟩
theorem Okf.fails {F:Fs} (h:Okf F) (n p:Int):Okf (failsM F n p).1:=by
  unfold failsM
  exact okf_ite (fun _=>h) (fun _=>okf_ite (fun _=>h) (fun _=>h.same (Nat.le_refl _) rfl rfl rfl))
theorem Okf.crash {F:Fs} (h:Okf F) (n:Int) (p:List Int):Okf (crashM F n p).1:=by
  unfold crashM
  exact okf_ite (fun _=>h) (fun _=>okf_ite (fun _=>h) (fun _=>okf_ite (fun _=>h.down p) (fun _=>h.same (Nat.le_refl _) rfl rfl rfl)))
theorem Okf.start {F:Fs} (h:Okf F):Okf (startM F).1:=by
  unfold startM
  exact okf_ite (fun _=>h.same (Nat.le_refl _) rfl rfl rfl) (fun _=>h)
theorem Okf.done {F:Fs} (h:Okf F) (o:Po):Okf (doneM F o).1:=by
  unfold doneM
  exact okf_ite (fun _=>h.create _) (fun _=>okf_ite (fun _=>h.append _ _) (fun _=>okf_ite (fun _=>h.sync _) (fun _=>okf_ite (fun _=>h.rename _ _) (fun _=>okf_ite (fun _=>h.syncDir) (fun _=>okf_ite (fun _=>h.remove _) (fun _=>okf_ite (fun _=>h.fails _ _) (fun _=>okf_ite (fun _=>h.crash _ _) (fun _=>okf_ite (fun _=>h.start) (fun _=>h)))))))))
structure Inv (F:Fs) (i:Nat):Prop where
  ok:Okf F
  iv:Iv F i
  st:F.steps ≤ i
  fi:F.files.length ≤ i
  ch:F.chg.length ≤ i
  pk:F.picks.length ≤ 17592186044416
theorem Inv.more {F:Fs} {i j:Nat} (h:Inv F i) (hj:i ≤ j):Inv F j:=⟨h.ok,h.iv.more hj,Nat.le_trans h.st hj,Nat.le_trans h.fi hj,Nat.le_trans h.ch hj,h.pk⟩
theorem Inv.new:Inv newM 0:=⟨⟨[],newOk⟩,Iv.new,Nat.le_refl _,Nat.le_refl _,Nat.le_refl _,Nat.zero_le _⟩
theorem Inv.of {F F':Fs} {i:Nat} (h:Inv F i) (ho:Okf F') (hi:Iv F' (i + 1)) (hg:GrowP 17592186044416 F F'):Inv F' (i + 1):=by
  have h1:=hg.st
  have h2:=hg.fi
  have h3:=hg.ch
  have h4:=h.st
  have h5:=h.fi
  have h6:=h.ch
  exact ⟨ho,hi,by omega,by omega,by omega,hg.pk h.pk⟩
theorem Inv.done {F:Fs} {i:Nat} (h:Inv F i) (o:Po) (hp:o.p.length ≤ 17592186044416):Inv (doneM F o).1 (i + 1):=h.of (h.ok.done o) (iv_done h.iv o) (done_gp _ F o hp)
end Go.Proofs.YtbgbmfmgdgalbaaGreatDoor
