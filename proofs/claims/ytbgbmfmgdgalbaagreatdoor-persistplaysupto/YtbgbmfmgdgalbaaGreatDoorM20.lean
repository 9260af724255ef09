import Derived.Test.YtbgbmfmgdgalbaaGreatDoorM19
namespace Go.Proofs.YtbgbmfmgdgalbaaGreatDoor
open Go.RowKit Go.Maps
set_option linter.unusedVariables false
set_option linter.unusedSimpArgs false
def liveI (d:List Sl):Int:=findM d liveN
def pastM (F:Fs) (d:List Sl):ByteArray × Bool:=if liveI d < 0 then (⟨#[]⟩,false) else ((fileAt F (liveI d).toNat).d,true)
structure Wh (F:Fs) (M:ByteArray × Bool → Prop):Prop where
  ok:Okf F
  w:∀ j,j ≤ F.chg.length → M (pastM F (dirK F j))∧(¬ liveI (dirK F j) < 0 → (fileAt F (liveI (dirK F j)).toNat).s=(fileAt F (liveI (dirK F j)).toNat).d.size)
  d:∀ j,j ≤ F.chg.length → ¬ liveI (dirK F j) < 0 → ∀ n,n ≠ liveN → findM F.dir n ≠ liveI (dirK F j)
  dn:F.down=true → F.chg=[]∧F.sure=F.dir
theorem Wh.weak {F:Fs} {M M':ByteArray × Bool → Prop} (h:Wh F M) (hm:∀ x,M x → M' x):Wh F M':=⟨h.ok,fun j hj=>⟨hm _ (h.w j hj).1,(h.w j hj).2⟩,h.d,h.dn⟩
theorem Okf.dirs {F:Fs} (h:Okf F) {j:Nat} (hj:j ≤ F.chg.length):DOk (dirK F j) F.files.length:=by obtain ⟨cf,h⟩:=h; exact h.dirs j hj
theorem Okf.now {F:Fs} (h:Okf F):dirK F F.chg.length=F.dir:=by obtain ⟨cf,h⟩:=h; exact h.now
theorem find_in {d:List Sl} {N:Nat} (h:DOk d N) {n:ByteArray} (hn:¬ findM d n < 0):(findM d n).toNat < N∧((findM d n).toNat:Int)=findM d n:=by
  obtain ⟨x,hx,_,e⟩:=findM_mem hn
  have h1:=h.lt x hx
  have h2:=h.ge x hx
  rw [e] at h1 h2
  exact ⟨by omega,by omega⟩
theorem find_inj {d:List Sl} {N:Nat} (h:DOk d N) {a b:ByteArray} (hb:¬ findM d b < 0) (e:findM d a=findM d b):a=b:=by
  obtain ⟨x,hx,ex,e1⟩:=findM_mem hb
  obtain ⟨y,hy,ey,e2⟩:=findM_mem (d:=d) (n:=a) (by rw [e]; exact hb)
  by_cases hxy:x=y
  · rw [← ex,← ey,hxy]
  · exact absurd (by rw [e1,e2,e]) (pair_ne h.uni hx hy hxy)
theorem Wh.same {F F':Fs} {M:ByteArray × Bool → Prop} (h:Wh F M) (ho:Okf F') (e2:F'.dir=F.dir) (e3:F'.sure=F.sure) (e4:F'.chg=F.chg) (hf:∀ j,j ≤ F.chg.length → ¬ liveI (dirK F j) < 0 → fileAt F' (liveI (dirK F j)).toNat=fileAt F (liveI (dirK F j)).toNat) (hd:F'.down=true → F.chg=[]∧F.sure=F.dir):Wh F' M:=by
  have hk:∀ k,dirK F' k=dirK F k:=fun k=>by unfold dirK; rw [e3,e4]
  refine ⟨ho,fun j hj=>?_,fun j hj hl n hn=>?_,fun hh=>by rw [e2,e3,e4]; exact hd hh⟩
  · rw [e4] at hj
    rw [hk]
    obtain ⟨h1,h2⟩:=h.w j hj
    by_cases hl:liveI (dirK F j) < 0
    · refine ⟨?_,fun hh=>absurd hl hh⟩
      unfold pastM at h1 ⊢
      rw [if_pos hl] at h1 ⊢
      exact h1
    · rw [hf j hj hl]
      refine ⟨?_,h2⟩
      unfold pastM at h1 ⊢
      rw [if_neg hl] at h1 ⊢
      rw [hf j hj hl]
      exact h1
  · rw [e4] at hj
    rw [hk] at hl ⊢
    rw [e2]
    exact h.d j hj hl n hn
theorem Wh.up {F:Fs} {M:ByteArray × Bool → Prop} (h:Wh F M):Wh (up1 F) M:=h.same (h.ok.same (Nat.le_refl _) rfl rfl rfl) rfl rfl rfl (fun _ _ _=>rfl) h.dn
theorem cut_full {x:Fi} (h:x.s=x.d.size) (p:List Int) (k:Nat):cutF x (pickM p k (x.d.size - x.s))=x:=by
  have h1:=pickM_le p k (x.d.size - x.s)
  have h2:pickM p k (x.d.size - x.s)=0:=by omega
  rw [h2]
  unfold cutF
  rw [Nat.add_zero,h,ext_all]
  cases x
  simp_all
theorem Wh.down {F:Fs} {M:ByteArray × Bool → Prop} (h:Wh F M) (p:List Int):Wh (downM F p) M:=by
  have hj:pickM p 0 F.chg.length ≤ F.chg.length:=pickM_le p 0 _
  have hdk:=h.ok.dirs hj
  have e:∀ k,dirK (downM F p) k=dirK F (pickM p 0 F.chg.length):=fun k=>by
    show (([]:List Ch).take k).foldl afterM _=_
    rw [List.take_nil]; rfl
  have hfa:¬ liveI (dirK F (pickM p 0 F.chg.length)) < 0 → fileAt (downM F p) (liveI (dirK F (pickM p 0 F.chg.length))).toNat=fileAt F (liveI (dirK F (pickM p 0 F.chg.length))).toNat:=fun hl=>by
    exact (down_file p (i:=(liveI (dirK F (pickM p 0 F.chg.length))).toNat) (find_in hdk hl).1).trans (cut_full ((h.w _ hj).2 hl) p _)
  refine ⟨h.ok.down p,fun j _=>?_,fun j _ hl n hn=>?_,fun _=>⟨rfl,rfl⟩⟩
  · rw [e]
    obtain ⟨h1,h2⟩:=h.w _ hj
    by_cases hl:liveI (dirK F (pickM p 0 F.chg.length)) < 0
    · refine ⟨?_,fun hh=>absurd hl hh⟩
      unfold pastM at h1 ⊢
      rw [if_pos hl] at h1 ⊢
      exact h1
    · rw [hfa hl]
      refine ⟨?_,h2⟩
      unfold pastM at h1 ⊢
      rw [if_neg hl] at h1 ⊢
      rw [hfa hl]
      exact h1
  · rw [e] at hl ⊢
    exact fun hh=>hn (find_inj hdk hl hh)
theorem Wh.step {F:Fs} {M:ByteArray × Bool → Prop} (h:Wh F M):Wh (stepM F).1 M:=by
  have h1:Wh { F with steps:=F.steps + 1 } M:=h.up
  unfold stepM
  simp only
  split
  · exact h1.down _
  · split <;> exact h1
theorem wh_ite {M:ByteArray × Bool → Prop} {c:Prop} [Decidable c] {a b:Fs × Int} (ha:c → Wh a.1 M) (hb:¬ c → Wh b.1 M):Wh (if c then a else b).1 M:=by
  by_cases h:c
  · rw [if_pos h]; exact ha h
  · rw [if_neg h]; exact hb h
theorem dirK_change (F:Fs) (c:Ch) {k:Nat} (hk:k ≤ F.chg.length):dirK (changeM F c) k=dirK F k:=by
  unfold dirK changeM
  simp only []
  rw [List.take_append_of_le_length hk]
theorem dirK_new {F:Fs} (h:Okf F) (c:Ch):dirK (changeM F c) (F.chg.length + 1)=afterM F.dir c:=by
  have:=h.now
  unfold dirK at this ⊢
  unfold changeM
  simp only []
  rw [List.take_of_length_le (by simp),List.foldl_append]
  rw [List.take_of_length_le (Nat.le_refl _)] at this
  rw [this]
  rfl
theorem Wh.change {F:Fs} {M:ByteArray × Bool → Prop} (h:Wh F M) {c:Ch} (ho:Okf (changeM F c)) (hl:liveI (afterM F.dir c)=liveI F.dir) (hd:∀ n,n ≠ liveN → ∀ j,j ≤ F.chg.length → ¬ liveI (dirK F j) < 0 → findM (afterM F.dir c) n ≠ liveI (dirK F j)) (hu:F.down=false):Wh (changeM F c) M:=by
  have hlen:(changeM F c).chg.length=F.chg.length + 1:=by unfold changeM; simp
  have hn:=h.ok.now
  have hsel:∀ j,j ≤ F.chg.length + 1 → ∃ k,k ≤ F.chg.length∧liveI (dirK (changeM F c) j)=liveI (dirK F k):=fun j hj=>by
    by_cases e:j ≤ F.chg.length
    · exact ⟨j,e,by rw [dirK_change F c e]⟩
    · have e1:j=F.chg.length + 1:=by omega
      refine ⟨F.chg.length,Nat.le_refl _,?_⟩
      rw [e1,dirK_new h.ok c,hl,hn]
  refine ⟨ho,fun j hj=>?_,fun j hj hlj n hne=>?_,fun hh=>?_⟩
  · rw [hlen] at hj
    obtain ⟨k,hk,e⟩:=hsel j hj
    obtain ⟨h1,h2⟩:=h.w k hk
    unfold pastM at h1 ⊢
    rw [e]
    exact ⟨h1,h2⟩
  · rw [hlen] at hj
    obtain ⟨k,hk,e⟩:=hsel j hj
    rw [e] at hlj ⊢
    exact hd n hne k hk hlj
  · have:F.down=true:=hh
    rw [hu] at this
    cases this
theorem up_down {F:Fs} {n:ByteArray} (h:hasM F n=0):F.down=false:=(has_zero.1 h).1
theorem fileAt_add (F:Fs) {k:Nat} (hk:k < F.files.length):fileAt (addF F) k=fileAt F k:=by
  unfold fileAt addF
  simp only []
  rw [List.getD_eq_getElem?_getD,List.getD_eq_getElem?_getD,List.getElem?_append_left hk]
theorem Wh.create {F:Fs} {M:ByteArray × Bool → Prop} (h:Wh F M) {n:ByteArray} (hn:n ≠ liveN):Wh (createM F n).1 M:=by
  have ho:=h.ok.create n
  unfold createM at ho ⊢
  refine wh_ite (fun _=>h) (fun hdn=>wh_ite (fun hnm=>wh_ite (fun _=>h) (fun hl=>wh_ite (fun h0=>?_) (fun _=>h.step))) (fun _=>h))
  rw [if_neg hdn,if_pos hnm,if_neg hl,if_pos h0] at ho
  have hu:=stepM_zero h0
  have ho2:Okf (changeM { (stepM F).1 with files:=(stepM F).1.files ++ [⟨⟨#[]⟩,0⟩] } ⟨n,⟨#[]⟩,((stepM F).1.files.length:Int)⟩):=ho
  show Wh (changeM { (stepM F).1 with files:=(stepM F).1.files ++ [⟨⟨#[]⟩,0⟩] } ⟨n,⟨#[]⟩,((stepM F).1.files.length:Int)⟩) M
  rw [hu] at ho2 ⊢
  have h1:=h.up
  have h2:Wh (addF (up1 F)) M:=h1.same (h1.ok.same (by unfold addF; simp) rfl rfl rfl) rfl rfl rfl (fun j hj hl=>fileAt_add _ (find_in (h1.ok.dirs hj) hl).1) h1.dn
  have hup:F.down=false:=by simpa using hdn
  have hrise:=(h.ok.dirs (Nat.le_refl _)).rise
  rw [h.ok.now] at hrise
  have e:afterM (addF (up1 F)).dir ⟨n,⟨#[]⟩,((up1 F).files.length:Int)⟩=boundM F.dir n (F.files.length:Int):=if_pos rfl
  refine h2.change ho2 ?_ (fun m hm j hj hlj=>?_) hup
  · unfold liveI
    rw [e,findM_put hrise n liveN _ (by omega),if_neg (fun q=>hn q.symm)]
    rfl
  · rw [e,findM_put hrise n m _ (by omega)]
    by_cases hmn:m=n
    · rw [if_pos hmn]
      have:=find_in (h.ok.dirs (F:=F) (j:=j) hj) hlj
      intro hh
      have h5:liveI (dirK (addF (up1 F)) j)=findM (dirK F j) liveN:=rfl
      rw [h5] at hh
      omega
    · rw [if_neg hmn]
      exact h.d j hj hlj m hm
theorem Wh.remove {F:Fs} {M:ByteArray × Bool → Prop} (h:Wh F M) {n:ByteArray} (hn:n ≠ liveN):Wh (removeM F n).1 M:=by
  have ho:=h.ok.remove n
  unfold removeM at ho ⊢
  refine wh_ite (fun hh=>wh_ite (fun h0=>?_) (fun _=>h.step)) (fun _=>h)
  rw [if_pos hh] at ho
  simp only [h0,if_true] at ho
  have hu:=stepM_zero h0
  show Wh (changeM (stepM F).1 ⟨n,⟨#[]⟩,-1⟩) M
  rw [hu] at ho ⊢
  have e:afterM (up1 F).dir ⟨n,⟨#[]⟩,-1⟩=boundM F.dir n (-1):=if_pos rfl
  refine h.up.change ho ?_ (fun m hm j hj hlj=>?_) (up_down hh)
  · unfold liveI
    rw [e,findM_del _ _ _ _ (by decide),if_neg (fun q=>hn q.symm)]
    rfl
  · rw [e,findM_del _ _ _ _ (by decide)]
    by_cases hmn:m=n
    · rw [if_pos hmn]
      intro hh2
      rw [← hh2] at hlj
      exact hlj (by decide)
    · rw [if_neg hmn]
      exact h.d j hj hlj m hm
theorem find_ren {d:List Sl} {N:Nat} (hd:DOk d N) {n t:ByteArray} (ht:t.size ≠ 0) (hf:¬ findM d n < 0) (m:ByteArray):findM (afterM d ⟨n,t,findM d n⟩) m=if m=t then findM d n else if m=n then -1 else findM d m:=by
  have e:afterM d ⟨n,t,findM d n⟩=boundM (boundM d n (-1)) t (findM d n):=if_neg ht
  rw [e,findM_put (hd.del n (f:=-1) (by decide)).rise t m _ hf,findM_del _ _ _ _ (by decide)]
theorem Wh.rename {F:Fs} {M:ByteArray × Bool → Prop} (h:Wh F M) {n t:ByteArray} (hn:n ≠ liveN) (ht:t ≠ liveN):Wh (renameM F n t).1 M:=by
  have ho:=h.ok.rename n t
  unfold renameM at ho ⊢
  refine wh_ite (fun _=>h) (fun hx=>wh_ite (fun hh=>wh_ite (fun h0=>?_) (fun _=>h.step)) (fun _=>h))
  rw [if_neg hx,if_pos hh] at ho
  simp only [h0,if_true] at ho
  have hu:=stepM_zero h0
  have hup:=up_down hh
  have htn:namedM t=true:=by
    rw [hup] at hx
    simpa using hx
  have hts:t.size ≠ 0:=by have:=(named_size htn).1; omega
  have hf:=(has_zero.1 hh).2.2
  have hdk:=h.ok.dirs (Nat.le_refl _)
  rw [h.ok.now] at hdk
  show Wh (changeM (stepM F).1 ⟨n,t,findM F.dir n⟩) M
  rw [hu] at ho ⊢
  refine h.up.change ho ?_ (fun m hm j hj hlj=>?_) hup
  · show findM (afterM F.dir ⟨n,t,findM F.dir n⟩) liveN=findM F.dir liveN
    rw [find_ren hdk hts hf,if_neg (fun q=>ht q.symm),if_neg (fun q=>hn q.symm)]
  · show findM (afterM F.dir ⟨n,t,findM F.dir n⟩) m ≠ _
    rw [find_ren hdk hts hf]
    by_cases hmt:m=t
    · rw [if_pos hmt]
      exact h.d j hj hlj n hn
    · rw [if_neg hmt]
      by_cases hmn:m=n
      · rw [if_pos hmn]
        intro hh2
        rw [← hh2] at hlj
        exact hlj (by decide)
      · rw [if_neg hmn]
        exact h.d j hj hlj m hm
theorem fileAt_set (F:Fs) (i:Nat) (x:Fi) {k:Nat} (hk:k ≠ i):fileAt { F with files:=F.files.set i x } k=fileAt F k:=by
  unfold fileAt
  simp only []
  rw [set_getD,if_neg (fun h=>hk h.1.symm)]
theorem Wh.file {F:Fs} {M:ByteArray × Bool → Prop} (h:Wh F M) {n:ByteArray} (hn:n ≠ liveN) (hf:¬ findM F.dir n < 0) (x:Fi):Wh { F with files:=F.files.set (findM F.dir n).toNat x } M:=by
  refine h.same (h.ok.same (by simp) rfl rfl rfl) rfl rfl rfl (fun j hj hl=>fileAt_set F _ x (fun e=>h.d j hj hl n hn ?_)) h.dn
  have h1:=(find_in (h.ok.dirs hj) hl).2
  have hdk:=h.ok.dirs (Nat.le_refl _)
  rw [h.ok.now] at hdk
  have h2:=(find_in hdk hf).2
  unfold liveI at e ⊢
  omega
theorem Wh.append {F:Fs} {M:ByteArray × Bool → Prop} (h:Wh F M) {n:ByteArray} (hn:n ≠ liveN) (d:ByteArray):Wh (appendM F n d).1 M:=by
  unfold appendM
  refine wh_ite (fun hh=>wh_ite (fun _=>h) (fun _=>wh_ite (fun _=>h.step) (fun h3=>?_))) (fun _=>h)
  have hu:(stepM F).1=up1 F:=by
    rcases stepM_cases F with h1 | ⟨_,h1⟩ | ⟨_,h1⟩
    · exact absurd h1 h3
    · exact h1
    · exact h1
  rw [hu]
  exact h.up.file (n:=n) hn (has_zero.1 hh).2.2 _
theorem Wh.sync {F:Fs} {M:ByteArray × Bool → Prop} (h:Wh F M) {n:ByteArray} (hn:n ≠ liveN):Wh (syncM F n).1 M:=by
  unfold syncM
  refine wh_ite (fun hh=>wh_ite (fun h0=>?_) (fun _=>h.step)) (fun _=>h)
  have hu:=stepM_zero h0
  rw [hu]
  exact h.up.file (n:=n) hn (has_zero.1 hh).2.2 _
theorem Wh.syncDir {F:Fs} {M:ByteArray × Bool → Prop} (h:Wh F M):Wh (syncDirM F).1 M:=by
  have ho:=h.ok.syncDir
  unfold syncDirM at ho ⊢
  refine wh_ite (fun _=>h) (fun hd=>wh_ite (fun h0=>?_) (fun _=>h.step))
  rw [if_neg hd] at ho
  simp only [h0,if_true] at ho
  have hu:=stepM_zero h0
  rw [hu] at ho ⊢
  have e:∀ k,dirK { up1 F with sure:=(up1 F).dir,chg:=[] } k=dirK F F.chg.length:=fun k=>by
    rw [h.ok.now]
    show (([]:List Ch).take k).foldl afterM _=_
    rw [List.take_nil]; rfl
  refine ⟨ho,fun j _=>?_,fun j _ hl n hn=>?_,fun hh=>absurd hh hd⟩
  · rw [e]
    exact h.w _ (Nat.le_refl _)
  · rw [e] at hl ⊢
    exact h.d _ (Nat.le_refl _) hl n hn
theorem Wh.new {M:ByteArray × Bool → Prop} (hm:M (⟨#[]⟩,false)):Wh newM M:=by
  refine ⟨⟨[],newOk⟩,fun j hj=>⟨?_,fun hh=>absurd (show liveI (dirK newM j) < 0 from ?_) hh⟩,fun j hj hl=>absurd (show liveI (dirK newM j) < 0 from ?_) hl,fun hh=>by cases hh⟩
  all_goals
    have e:dirK newM j=[]:=by
      show (([]:List Ch).take j).foldl afterM []=_
      rw [List.take_nil]; rfl
    rw [e]
    first | exact hm | decide
end Go.Proofs.YtbgbmfmgdgalbaaGreatDoor
namespace Go.Proofs.YtbgbmfmgdgalbaaGreatDoor
open Go.RowKit Go.Maps
set_option linter.unusedVariables false
set_option linter.unusedSimpArgs false
theorem ne_TS:tmpS ≠ liveN:=by decide
theorem ne_TO:tmpO ≠ liveN:=by decide
theorem ne_SO:tmpS ≠ tmpO:=by decide
theorem old_size (i:Nat):(oldN i).size=10:=rfl
theorem ne_old {n:ByteArray} (i:Nat) (h:n.size ≠ 10):n ≠ oldN i:=fun e=>h (by rw [e]; rfl)
theorem ne_oldL (i:Nat):oldN i ≠ liveN:=fun e=>by have:=congrArg ByteArray.size e; rw [old_size] at this; exact absurd this (by decide)
theorem ne_oldS (i:Nat):tmpS ≠ oldN i:=ne_old i (by decide)
theorem wh_and {M:ByteArray × Bool → Prop} {r:Fs × Int} {f:Fs → Fs × Int} (h:Wh r.1 M) (hf:r.2=0 → Wh r.1 M → Wh (f r.1).1 M):Wh (andM r f).1 M:=by
  by_cases h0:r.2=0
  · rw [andM_ok h0]; exact hf h0 h
  · rw [andM_no h0]; exact h
theorem and_zero {r:Fs × Int} {f:Fs → Fs × Int} (h:(andM r f).2=0):r.2=0∧andM r f=f r.1:=by
  by_cases h0:r.2=0
  · exact ⟨h0,andM_ok h0⟩
  · rw [andM_no h0] at h
    exact absurd h h0
theorem Wh.apps {M:ByteArray × Bool → Prop} {n:ByteArray} (hn:n ≠ liveN):∀ (k:Nat) {F:Fs} (t:ByteArray),Wh F M → Wh (appsM k F n t).1 M
  | 0,F,t,h=>h
  | k + 1,F,t,h=>by
    unfold appsM
    exact wh_ite (fun _=>h) (fun _=>wh_and (h.append hn _) (fun _ h2=>Wh.apps hn k _ h2))
theorem Wh.written {M:ByteArray × Bool → Prop} {F:Fs} (h:Wh F M) {n:ByteArray} (hn:n ≠ liveN) (t:ByteArray):Wh (writtenM F n t).1 M:=by
  unfold writtenM
  exact wh_and (h.create hn) (fun _ h2=>wh_and (h2.apps hn _ t) (fun _ h3=>h3.sync hn))
theorem Wh.clean {M:ByteArray × Bool → Prop} {F:Fs} (h:Wh F M) {n:ByteArray} (hn:n ≠ liveN):Wh (cleanM F n) M:=by
  unfold cleanM
  split
  · exact h.remove hn
  · exact h
theorem Wh.rens {M:ByteArray × Bool → Prop}:∀ (m:Nat) {F:Fs},Wh F M → Wh (rensM m F).1 M
  | 0,F,h=>h
  | m + 1,F,h=>by
    unfold rensM
    exact wh_ite (fun _=>wh_and (h.rename (ne_oldL _) (ne_oldL _)) (fun _ h2=>Wh.rens m h2)) (fun _=>Wh.rens m h)
theorem Wh.rems {M:ByteArray × Bool → Prop}:∀ (m:Nat) {F:Fs},Wh F M → Wh (remsM m F).1 M
  | 0,F,h=>h
  | m + 1,F,h=>by
    unfold remsM
    exact wh_ite (fun _=>wh_and (h.remove (ne_oldL _)) (fun _ h2=>Wh.rems m h2)) (fun _=>Wh.rems m h)
theorem Wh.kept {M:ByteArray × Bool → Prop} {F:Fs} (h:Wh F M) (keep:Nat):Wh (keptM F keep).1 M:=by
  unfold keptM
  exact wh_ite (fun _=>wh_and (h.written ne_TO _) (fun _ h2=>wh_and (h2.rens _) (fun _ h3=>h3.rename ne_TO (ne_oldL _)))) (fun _=>h)
/-! What a call that was done leaves. -/
theorem createM_zero {F:Fs} {n:ByteArray} (h:(createM F n).2=0):F.down=false∧namedM n=true∧¬ (findM F.dir n < 0∧64 ≤ F.dir.length)∧(createM F n).1=changeM (addF (up1 F)) ⟨n,⟨#[]⟩,(F.files.length:Int)⟩:=by
  unfold createM at h ⊢
  by_cases hd:F.down=true
  · rw [if_pos hd] at h; cases h
  · rw [if_neg hd] at h ⊢
    by_cases hn:namedM n=true
    · rw [if_pos hn] at h ⊢
      by_cases hl:findM F.dir n < 0∧64 ≤ F.dir.length
      · rw [if_pos hl] at h; cases h
      · rw [if_neg hl] at h ⊢
        by_cases h0:(stepM F).2.1=0
        · simp only [h0,if_true]
          rw [stepM_zero h0]
          exact ⟨by simpa using hd,hn,hl,rfl⟩
        · simp only [h0,if_false] at h
    · rw [if_neg hn] at h; cases h
theorem appendM_zero {F:Fs} {n d:ByteArray} (h:(appendM F n d).2=0):hasM F n=0∧(appendM F n d).1={ up1 F with files:=F.files.set (findM F.dir n).toNat ⟨(fileAt F (findM F.dir n).toNat).d ++ d,(fileAt F (findM F.dir n).toNat).s⟩ }:=by
  unfold appendM at h ⊢
  by_cases hh:hasM F n=0
  · rw [if_pos hh] at h ⊢
    refine ⟨hh,?_⟩
    simp only at h ⊢
    split at h
    · cases h
    · rename_i hb
      rw [if_neg hb]
      split at h
      · cases h
      · rename_i h3
        rw [if_neg h3]
        have h0:(stepM F).2.1=0:=h
        rw [if_neg (by rw [h0]; decide),stepM_zero h0]
        rfl
  · rw [if_neg hh] at h
    exact absurd h hh
theorem renameM_zero {F:Fs} {n t:ByteArray} (h:(renameM F n t).2=0):hasM F n=0∧namedM t=true∧(renameM F n t).1=changeM (up1 F) ⟨n,t,findM F.dir n⟩:=by
  unfold renameM at h ⊢
  by_cases hx:(!F.down && !namedM t)=true
  · rw [if_pos hx] at h; cases h
  · rw [if_neg hx] at h ⊢
    by_cases hh:hasM F n=0
    · rw [if_pos hh] at h ⊢
      have hup:=up_down hh
      have htn:namedM t=true:=by
        rw [hup] at hx
        simpa using hx
      by_cases h0:(stepM F).2.1=0
      · simp only [h0,if_true]
        rw [stepM_zero h0]
        exact ⟨hh,htn,rfl⟩
      · simp only [h0,if_false] at h
    · rw [if_neg hh] at h
      exact absurd h hh
theorem removeM_zero {F:Fs} {n:ByteArray} (h:(removeM F n).2=0):hasM F n=0∧(removeM F n).1=changeM (up1 F) ⟨n,⟨#[]⟩,-1⟩:=by
  unfold removeM at h ⊢
  by_cases hh:hasM F n=0
  · rw [if_pos hh] at h ⊢
    by_cases h0:(stepM F).2.1=0
    · simp only [h0,if_true]
      rw [stepM_zero h0]
      exact ⟨hh,rfl⟩
    · simp only [h0,if_false] at h
  · rw [if_neg hh] at h
    exact absurd h hh
theorem syncDirM_zero {F:Fs} (h:(syncDirM F).2=0):F.down=false∧(syncDirM F).1={ up1 F with sure:=F.dir,chg:=[] }:=by
  unfold syncDirM at h ⊢
  by_cases hd:F.down=true
  · rw [if_pos hd] at h; cases h
  · rw [if_neg hd] at h ⊢
    by_cases h0:(stepM F).2.1=0
    · simp only [h0,if_true]
      rw [stepM_zero h0]
      exact ⟨by simpa using hd,rfl⟩
    · simp only [h0,if_false] at h
structure Wr (F:Fs) (n t:ByteArray):Prop where
  f:¬ findM F.dir n < 0
  d:fileAt F (findM F.dir n).toNat=⟨t,t.size⟩
theorem Okf.dk {F:Fs} (h:Okf F):DOk F.dir F.files.length:=by
  have:=h.dirs (Nat.le_refl _)
  rw [h.now] at this
  exact this
theorem find_create {F:Fs} (h:Okf F) {n m:ByteArray} (hm:m ≠ n) (hc:(createM F n).2=0):findM (createM F n).1.dir m=findM F.dir m∧(¬ findM F.dir m < 0 → fileAt (createM F n).1 (findM F.dir m).toNat=fileAt F (findM F.dir m).toNat):=by
  obtain ⟨_,_,_,e⟩:=createM_zero hc
  rw [e]
  have e2:afterM F.dir ⟨n,⟨#[]⟩,(F.files.length:Int)⟩=boundM F.dir n (F.files.length:Int):=if_pos rfl
  refine ⟨?_,fun hf=>?_⟩
  · show findM (afterM F.dir ⟨n,⟨#[]⟩,(F.files.length:Int)⟩) m=_
    rw [e2,findM_put h.dk.rise n m _ (by omega),if_neg hm]
  · exact fileAt_add (up1 F) (find_in h.dk hf).1
theorem find_remove {F:Fs} {n m:ByteArray} (hm:m ≠ n) (hc:(removeM F n).2=0):findM (removeM F n).1.dir m=findM F.dir m∧∀ k,fileAt (removeM F n).1 k=fileAt F k:=by
  obtain ⟨_,e⟩:=removeM_zero hc
  rw [e]
  have e2:afterM F.dir ⟨n,⟨#[]⟩,-1⟩=boundM F.dir n (-1):=if_pos rfl
  refine ⟨?_,fun k=>rfl⟩
  show findM (afterM F.dir ⟨n,⟨#[]⟩,-1⟩) m=_
  rw [e2,findM_del _ _ _ _ (by decide),if_neg hm]
theorem find_rename {F:Fs} (h:Okf F) {n t m:ByteArray} (hn:m ≠ n) (ht:m ≠ t) (hc:(renameM F n t).2=0):findM (renameM F n t).1.dir m=findM F.dir m∧∀ k,fileAt (renameM F n t).1 k=fileAt F k:=by
  obtain ⟨hh,htn,e⟩:=renameM_zero hc
  rw [e]
  refine ⟨?_,fun k=>rfl⟩
  show findM (afterM F.dir ⟨n,t,findM F.dir n⟩) m=_
  rw [find_ren h.dk (by have:=(named_size htn).1; omega) (has_zero.1 hh).2.2,if_neg ht,if_neg hn]
theorem find_file {F:Fs} (h:Okf F) {n m:ByteArray} (hm:m ≠ n) (hn:¬ findM F.dir n < 0) (hf:¬ findM F.dir m < 0) (x:Fi):fileAt { up1 F with files:=F.files.set (findM F.dir n).toNat x } (findM F.dir m).toNat=fileAt F (findM F.dir m).toNat:=by
  refine fileAt_set F _ x (fun e=>hm ?_)
  have h1:=(find_in h.dk hn).2
  have h2:=(find_in h.dk hf).2
  exact find_inj h.dk hn (by omega)
theorem Wr.create {F:Fs} {m t n:ByteArray} (h:Wr F m t) (ho:Okf F) (hm:m ≠ n) (hc:(createM F n).2=0):Wr (createM F n).1 m t:=by
  obtain ⟨h1,h2⟩:=find_create ho hm hc
  exact ⟨by rw [h1]; exact h.f,by rw [h1,h2 h.f]; exact h.d⟩
theorem Wr.remove {F:Fs} {m t n:ByteArray} (h:Wr F m t) (hm:m ≠ n) (hc:(removeM F n).2=0):Wr (removeM F n).1 m t:=by
  obtain ⟨h1,h2⟩:=find_remove hm hc
  exact ⟨by rw [h1]; exact h.f,by rw [h1,h2]; exact h.d⟩
theorem Wr.rename {F:Fs} {m t a b:ByteArray} (h:Wr F m t) (ho:Okf F) (ha:m ≠ a) (hb:m ≠ b) (hc:(renameM F a b).2=0):Wr (renameM F a b).1 m t:=by
  obtain ⟨h1,h2⟩:=find_rename ho ha hb hc
  exact ⟨by rw [h1]; exact h.f,by rw [h1,h2]; exact h.d⟩
theorem Wr.append {F:Fs} {m t n d:ByteArray} (h:Wr F m t) (ho:Okf F) (hm:m ≠ n) (hc:(appendM F n d).2=0):Wr (appendM F n d).1 m t:=by
  obtain ⟨hh,e⟩:=appendM_zero hc
  rw [e]
  exact ⟨h.f,(find_file ho hm (has_zero.1 hh).2.2 h.f _).trans h.d⟩
theorem Wr.sync {F:Fs} {m t n:ByteArray} (h:Wr F m t) (ho:Okf F) (hm:m ≠ n) (hc:(syncM F n).2=0):Wr (syncM F n).1 m t:=by
  obtain ⟨hh,e⟩:=syncM_zero hc
  rw [e]
  exact ⟨h.f,(find_file ho hm (has_zero.1 hh).2.2 h.f _).trans h.d⟩
theorem Okf.apps {n:ByteArray}:∀ (k:Nat) {F:Fs} (t:ByteArray),Okf F → Okf (appsM k F n t).1
  | 0,F,t,h=>h
  | k + 1,F,t,h=>by
    unfold appsM
    split
    · exact h
    · by_cases h0:(appendM F n (t.extract 0 (min 65536 t.size))).2=0
      · rw [andM_ok h0]; exact Okf.apps k _ (h.append _ _)
      · rw [andM_no h0]; exact h.append _ _
theorem Wr.apps {m t n:ByteArray} (hm:m ≠ n):∀ (k:Nat) {F:Fs} (u:ByteArray),Wr F m t → Okf F → (appsM k F n u).2=0 → Wr (appsM k F n u).1 m t
  | 0,F,u,h,_,_=>h
  | k + 1,F,u,h,ho,hc=>by
    unfold appsM at hc ⊢
    split
    · exact h
    · rename_i h0
      rw [if_neg h0] at hc
      obtain ⟨h1,h2⟩:=and_zero hc
      rw [h2] at hc ⊢
      exact Wr.apps hm k _ (h.append ho hm h1) (ho.append _ _) hc
theorem Okf.written {F:Fs} (h:Okf F) (n t:ByteArray):Okf (writtenM F n t).1:=by
  unfold writtenM
  by_cases h0:(createM F n).2=0
  · rw [andM_ok h0]
    by_cases h1:(appsM t.size (createM F n).1 n t).2=0
    · rw [andM_ok h1]; exact ((h.create n).apps _ t).sync n
    · rw [andM_no h1]; exact (h.create n).apps _ t
  · rw [andM_no h0]; exact h.create n
theorem Wr.written {F:Fs} {m t n u:ByteArray} (h:Wr F m t) (ho:Okf F) (hm:m ≠ n) (hc:(writtenM F n u).2=0):Wr (writtenM F n u).1 m t:=by
  unfold writtenM at hc ⊢
  obtain ⟨h1,e1⟩:=and_zero hc
  rw [e1] at hc ⊢
  obtain ⟨h2,e2⟩:=and_zero hc
  rw [e2] at hc ⊢
  exact ((h.create ho hm h1).apps hm _ u (ho.create n) h2).sync ((ho.create n).apps _ u) hm hc
theorem Okf.rens:∀ (m:Nat) {F:Fs},Okf F → Okf (rensM m F).1
  | 0,F,h=>h
  | m + 1,F,h=>by
    unfold rensM
    split
    · by_cases h0:(renameM F (oldN (m + 1)) (oldN (m + 2))).2=0
      · rw [andM_ok h0]; exact Okf.rens m (h.rename _ _)
      · rw [andM_no h0]; exact h.rename _ _
    · exact Okf.rens m h
theorem Wr.rens {n t:ByteArray} (hn:n.size ≠ 10):∀ (m:Nat) {F:Fs},Wr F n t → Okf F → (rensM m F).2=0 → Wr (rensM m F).1 n t
  | 0,F,h,_,_=>h
  | m + 1,F,h,ho,hc=>by
    unfold rensM at hc ⊢
    split
    · rename_i ht
      rw [if_pos ht] at hc
      obtain ⟨h1,e1⟩:=and_zero hc
      rw [e1] at hc ⊢
      exact Wr.rens hn m (h.rename ho (ne_old _ hn) (ne_old _ hn) h1) (ho.rename _ _) hc
    · rename_i ht
      rw [if_neg ht] at hc
      exact Wr.rens hn m h ho hc
theorem Wr.rems {n t:ByteArray} (hn:n.size ≠ 10):∀ (m:Nat) {F:Fs},Wr F n t → (remsM m F).2=0 → Wr (remsM m F).1 n t
  | 0,F,h,_=>h
  | m + 1,F,h,hc=>by
    unfold remsM at hc ⊢
    split
    · rename_i ht
      rw [if_pos ht] at hc
      obtain ⟨h1,e1⟩:=and_zero hc
      rw [e1] at hc ⊢
      exact Wr.rems hn m (h.remove (ne_old _ hn) h1) hc
    · rename_i ht
      rw [if_neg ht] at hc
      exact Wr.rems hn m h hc
theorem Wr.kept {F:Fs} {t:ByteArray} (h:Wr F tmpS t) (ho:Okf F) {keep:Nat} (hc:(keptM F keep).2=0):Wr (keptM F keep).1 tmpS t:=by
  unfold keptM at hc ⊢
  split
  · rename_i hr
    rw [if_pos hr] at hc
    obtain ⟨h1,e1⟩:=and_zero hc
    rw [e1] at hc ⊢
    obtain ⟨h2,e2⟩:=and_zero hc
    rw [e2] at hc ⊢
    have hw:=h.written ho ne_SO h1
    have how:=ho.written tmpO (readM F liveN).1
    exact (hw.rens (by decide) _ how h2).rename (how.rens _) ne_SO (ne_oldS 1) hc
  · exact h
theorem ext_join (u:ByteArray) (m:Nat):u.extract 0 m ++ u.extract m u.size=u:=by
  by_cases hm:m ≤ u.size
  · rw [ByteArray.extract_append_extract]
    simp
  · have h1:u.extract m u.size=ByteArray.empty:=by
      apply ByteArray.ext
      simp [Array.extract_eq_empty_iff] 
      omega
    rw [h1,ByteArray.append_empty]
    apply ByteArray.ext
    simp
    omega
theorem apps_holds {n:ByteArray}:∀ (k:Nat) {F:Fs} (u pre:ByteArray),u.size ≤ k → Okf F → ¬ findM F.dir n < 0 → (fileAt F (findM F.dir n).toNat).d=pre → (appsM k F n u).2=0 → (appsM k F n u).1.dir=F.dir∧(fileAt (appsM k F n u).1 (findM F.dir n).toNat).d=pre ++ u
  | 0,F,u,pre,hk,ho,hf,hd,hc=>by
    have:u=ByteArray.empty:=ByteArray.ext (Array.eq_empty_of_size_eq_zero (by have:u.data.size=u.size:=rfl; omega))
    rw [this,ByteArray.append_empty]
    exact ⟨rfl,hd⟩
  | k + 1,F,u,pre,hk,ho,hf,hd,hc=>by
    unfold appsM at hc ⊢
    by_cases h0:u.size=0
    · rw [if_pos h0]
      have:u=ByteArray.empty:=ByteArray.ext (Array.eq_empty_of_size_eq_zero (by have:u.data.size=u.size:=rfl; omega))
      rw [this,ByteArray.append_empty]
      exact ⟨rfl,hd⟩
    · rw [if_neg h0] at hc ⊢
      obtain ⟨h1,e1⟩:=and_zero hc
      rw [e1] at hc ⊢
      obtain ⟨hh,e⟩:=appendM_zero h1
      have hlt:=(find_in ho.dk hf).1
      have hdir:(appendM F n (u.extract 0 (min 65536 u.size))).1.dir=F.dir:=by rw [e]; rfl
      have hfi:(fileAt (appendM F n (u.extract 0 (min 65536 u.size))).1 (findM F.dir n).toNat).d=pre ++ u.extract 0 (min 65536 u.size):=by
        rw [e]
        show ((F.files.set _ _).getD _ _).d=_
        rw [set_getD,if_pos ⟨rfl,hlt⟩,hd]
      have:=apps_holds k (u.extract (min 65536 u.size) u.size) (pre ++ u.extract 0 (min 65536 u.size)) (by rw [ext_rest]; omega) (ho.append _ _) (by rw [hdir]; exact hf) (by rw [hdir]; exact hfi) hc
      rw [hdir] at this
      refine ⟨this.1,?_⟩
      rw [this.2,ByteArray.append_assoc,ext_join]
theorem written_holds {F:Fs} (ho:Okf F) {n t:ByteArray} (hc:(writtenM F n t).2=0):Wr (writtenM F n t).1 n t:=by
  unfold writtenM at hc ⊢
  obtain ⟨h1,e1⟩:=and_zero hc
  rw [e1] at hc ⊢
  obtain ⟨h2,e2⟩:=and_zero hc
  rw [e2] at hc ⊢
  obtain ⟨_,_,_,ec⟩:=createM_zero h1
  have ho1:=ho.create n
  have e3:afterM F.dir ⟨n,⟨#[]⟩,(F.files.length:Int)⟩=boundM F.dir n (F.files.length:Int):=if_pos rfl
  have hfi:findM (createM F n).1.dir n=(F.files.length:Int):=by
    rw [ec]
    show findM (afterM F.dir ⟨n,⟨#[]⟩,(F.files.length:Int)⟩) n=_
    rw [e3,findM_put ho.dk.rise n n _ (by omega),if_pos rfl]
  have hf0:(fileAt (createM F n).1 (findM (createM F n).1.dir n).toNat).d=⟨#[]⟩:=by
    rw [hfi,ec]
    show ((F.files ++ [(⟨⟨#[]⟩,0⟩:Fi)]).getD F.files.length ⟨⟨#[]⟩,0⟩).d=_
    rw [List.getD_eq_getElem?_getD]
    simp
  obtain ⟨a1,a2⟩:=apps_holds t.size t ⟨#[]⟩ (Nat.le_refl _) ho1 (by rw [hfi]; omega) hf0 h2
  have ho2:=ho1.apps (n:=n) t.size t
  obtain ⟨hh,es⟩:=syncM_zero hc
  have hnn:¬ findM (appsM t.size (createM F n).1 n t).1.dir n < 0:=(has_zero.1 hh).2.2
  have hlt:=(find_in ho2.dk hnn).1
  have hd:(fileAt (appsM t.size (createM F n).1 n t).1 (findM (appsM t.size (createM F n).1 n t).1.dir n).toNat).d=t:=by
    rw [a1,a2]
    exact ByteArray.empty_append
  rw [es]
  refine ⟨hnn,?_⟩
  show (((appsM t.size (createM F n).1 n t).1.files.set _ _).getD _ _)=_
  rw [set_getD,if_pos ⟨rfl,hlt⟩,hd]
end Go.Proofs.YtbgbmfmgdgalbaaGreatDoor
namespace Go.Proofs.YtbgbmfmgdgalbaaGreatDoor
open Go.RowKit Go.Maps
set_option linter.unusedVariables false
set_option linter.unusedSimpArgs false
theorem Wh.golive {F:Fs} {M:ByteArray × Bool → Prop} {t:ByteArray} (h:Wh F M) (ht:M (t,true)) (hw:Wr F tmpS t):Wh (renameM F tmpS liveN).1 M:=by
  have ho:=h.ok.rename tmpS liveN
  unfold renameM at ho ⊢
  refine wh_ite (fun _=>h) (fun hx=>wh_ite (fun hh=>wh_ite (fun h0=>?_) (fun _=>h.step)) (fun _=>h))
  rw [if_neg hx,if_pos hh] at ho
  simp only [h0,if_true] at ho
  have hu:=stepM_zero h0
  have hup:=up_down hh
  have hdk:=h.ok.dk
  have h1:=h.up
  show Wh (changeM (stepM F).1 ⟨tmpS,liveN,findM F.dir tmpS⟩) M
  rw [hu] at ho ⊢
  have hren:=find_ren hdk (n:=tmpS) (t:=liveN) (by decide) hw.f
  have hlen:(changeM (up1 F) ⟨tmpS,liveN,findM F.dir tmpS⟩).chg.length=F.chg.length + 1:=by unfold changeM up1; simp
  have hnew:dirK (changeM (up1 F) ⟨tmpS,liveN,findM F.dir tmpS⟩) (F.chg.length + 1)=afterM F.dir ⟨tmpS,liveN,findM F.dir tmpS⟩:=dirK_new h1.ok _
  have hlv:liveI (afterM F.dir ⟨tmpS,liveN,findM F.dir tmpS⟩)=findM F.dir tmpS:=by
    unfold liveI
    rw [hren,if_pos rfl]
  refine ⟨ho,fun j hj=>?_,fun j hj hlj n hne=>?_,fun hh2=>?_⟩
  · rw [hlen] at hj
    by_cases e:j ≤ F.chg.length
    · rw [dirK_change (up1 F) _ e]
      exact h1.w j e
    · have e1:j=F.chg.length + 1:=by omega
      subst e1
      rw [hnew]
      unfold pastM
      rw [hlv,if_neg hw.f]
      have hd:fileAt (changeM (up1 F) ⟨tmpS,liveN,findM F.dir tmpS⟩) (findM F.dir tmpS).toNat=⟨t,t.size⟩:=hw.d
      rw [hd]
      exact ⟨ht,fun _=>rfl⟩
  · rw [hlen] at hj
    show findM (afterM F.dir ⟨tmpS,liveN,findM F.dir tmpS⟩) n ≠ _
    rw [hren,if_neg hne]
    by_cases e:j ≤ F.chg.length
    · rw [dirK_change (up1 F) _ e] at hlj ⊢
      by_cases hn:n=tmpS
      · rw [if_pos hn]
        intro hh2
        rw [← hh2] at hlj
        exact hlj (by decide)
      · rw [if_neg hn]
        exact h.d j e hlj n hne
    · have e1:j=F.chg.length + 1:=by omega
      subst e1
      rw [hnew,hlv] at hlj ⊢
      by_cases hn:n=tmpS
      · rw [if_pos hn]
        intro hh2
        rw [← hh2] at hlj
        exact hlj (by decide)
      · rw [if_neg hn]
        exact fun hh2=>hn (find_inj hdk hw.f hh2)
  · have:F.down=true:=hh2
    rw [hup] at this
    cases this
theorem golive_lv {F:Fs} {t:ByteArray} (ho:Okf F) (hw:Wr F tmpS t) (hc:(renameM F tmpS liveN).2=0):Wr (renameM F tmpS liveN).1 liveN t:=by
  obtain ⟨hh,htn,e⟩:=renameM_zero hc
  have hren:=find_ren ho.dk (n:=tmpS) (t:=liveN) (by decide) hw.f
  rw [e]
  have e1:findM (changeM (up1 F) ⟨tmpS,liveN,findM F.dir tmpS⟩).dir liveN=findM F.dir tmpS:=by
    show findM (afterM F.dir ⟨tmpS,liveN,findM F.dir tmpS⟩) liveN=_
    rw [hren,if_pos rfl]
  exact ⟨by rw [e1]; exact hw.f,by rw [e1]; exact hw.d⟩
theorem Wh.sure {F:Fs} {M:ByteArray × Bool → Prop} {t:ByteArray} (h:Wh F M) (hw:Wr F liveN t) (hc:(syncDirM F).2=0):Wh (syncDirM F).1 (fun x=>x=(t,true)):=by
  obtain ⟨hd,e⟩:=syncDirM_zero hc
  have ho:=h.ok.syncDir
  rw [e] at ho ⊢
  have ek:∀ k,dirK { up1 F with sure:=F.dir,chg:=[] } k=F.dir:=fun k=>by
    show (([]:List Ch).take k).foldl afterM _=_
    rw [List.take_nil]; rfl
  refine ⟨ho,fun j _=>?_,fun j _ hl n hn=>?_,fun hh=>?_⟩
  · rw [ek]
    unfold pastM
    have hlv:¬ liveI F.dir < 0:=hw.f
    rw [if_neg hlv]
    have hd2:fileAt { up1 F with sure:=F.dir,chg:=[] } (liveI F.dir).toNat=⟨t,t.size⟩:=hw.d
    rw [hd2]
    exact ⟨rfl,fun _=>rfl⟩
  · rw [ek] at hl ⊢
    exact fun hh2=>hn (find_inj h.ok.dk hl hh2)
  · have:F.down=true:=hh
    rw [hd] at this
    cases this
theorem Wh.steps {F:Fs} {M:ByteArray × Bool → Prop} {t:ByteArray} (h:Wh F M) (ht:M (t,true)) (keep:Nat):Wh (stepsM F t keep).1 M∧((stepsM F t keep).2=0 → Wh (stepsM F t keep).1 (fun x=>x=(t,true))):=by
  unfold stepsM
  by_cases h1:(writtenM F tmpS t).2=0
  · rw [andM_ok h1]
    have w1:=h.written ne_TS t
    have r1:=written_holds h.ok h1
    obtain ⟨K,hK⟩:∃ K,(if decide (0 < keep) && thereM (writtenM F tmpS t).1 liveN then keptM (writtenM F tmpS t).1 keep else ((writtenM F tmpS t).1,0))=K:=⟨_,rfl⟩
    rw [hK]
    have w2:Wh K.1 M:=by
      rw [← hK]
      split
      · exact w1.kept keep
      · exact w1
    have r2:K.2=0 → Wr K.1 tmpS t:=fun hc=>by
      rw [← hK] at hc ⊢
      split
      · rename_i hh
        rw [if_pos hh] at hc
        exact r1.kept w1.ok hc
      · exact r1
    by_cases h2:K.2=0
    · rw [andM_ok h2]
      have w3:=w2.golive ht (r2 h2)
      by_cases h3:(renameM K.1 tmpS liveN).2=0
      · rw [andM_ok h3]
        have r3:=golive_lv w2.ok (r2 h2) h3
        have w4:=Wh.rems (8 - keep) w3
        by_cases h4:(remsM (8 - keep) (renameM K.1 tmpS liveN).1).2=0
        · rw [andM_ok h4]
          have r4:=r3.rems (by decide) (8 - keep) h4
          exact ⟨w4.syncDir,fun hc=>w4.sure r4 hc⟩
        · rw [andM_no h4]
          exact ⟨w4,fun hc=>absurd hc h4⟩
      · rw [andM_no h3]
        exact ⟨w3,fun hc=>absurd hc h3⟩
    · rw [andM_no h2]
      exact ⟨w2,fun hc=>absurd hc h2⟩
  · rw [andM_no h1]
    exact ⟨h.written ne_TS t,fun hc=>absurd hc h1⟩
theorem Wh.save {F:Fs} {M:ByteArray × Bool → Prop} {t:ByteArray} {keep:Int} (h:Wh F M) (ht:¬ (keep < 0 ∨ 8 < keep) → M (t,true)):Wh (saveM F t keep).1 M∧((saveM F t keep).2=0 → Wh (saveM F t keep).1 (fun x=>x=(t,true))):=by
  unfold saveM
  by_cases hk:keep < 0 ∨ 8 < keep
  · rw [if_pos hk]
    exact ⟨h,fun hc=>by cases hc⟩
  · rw [if_neg hk]
    by_cases hl:1073741824 < t.size
    · rw [if_pos hl]
      exact ⟨h,fun hc=>by cases hc⟩
    · rw [if_neg hl]
      obtain ⟨h1,h2⟩:=h.steps (ht hk) keep.toNat
      simp only
      by_cases h0:(stepsM F t keep.toNat).2=0
      · rw [if_pos h0]
        exact ⟨h1,fun _=>h2 h0⟩
      · rw [if_neg h0]
        exact ⟨(h1.clean ne_TS).clean ne_TO,fun hc=>absurd hc h0⟩
end Go.Proofs.YtbgbmfmgdgalbaaGreatDoor
namespace Go.Proofs.YtbgbmfmgdgalbaaGreatDoor
open Go.RowKit Go.Maps
set_option linter.unusedVariables false
set_option linter.unusedSimpArgs false
def viewM (F:Fs) (n:ByteArray):Option ByteArray:=if findM F.dir n < 0 then none else some (fileAt F (findM F.dir n).toNat).d
def orNo (o:Option ByteArray):ByteArray × Bool:=match o with
  | some v=>(v,true)
  | none=>(⟨#[]⟩,false)
theorem read_view {F:Fs} (hu:F.down=false) {n:ByteArray} (hn:namedM n=true):(readM F n).1=(orNo (viewM F n)).1∧decide ((readM F n).2=0)=(orNo (viewM F n)).2:=by
  unfold readM viewM
  by_cases hf:findM F.dir n < 0
  · have h1:hasM F n=201:=by unfold hasM; rw [hu,hn,if_pos hf]; rfl
    rw [h1,if_neg (by decide),if_pos hf]
    exact ⟨rfl,rfl⟩
  · have h1:hasM F n=0:=has_zero.2 ⟨hu,hn,hf⟩
    rw [h1,if_pos rfl,if_neg hf]
    exact ⟨rfl,rfl⟩
structure Clo (P:Fs → Prop):Prop where
  create:∀ {F},P F → ∀ n,P (createM F n).1
  append:∀ {F},P F → ∀ n d,P (appendM F n d).1
  sync:∀ {F},P F → ∀ n,P (syncM F n).1
  rename:∀ {F},P F → ∀ n t,P (renameM F n t).1
  remove:∀ {F},P F → ∀ n,P (removeM F n).1
  syncDir:∀ {F},P F → P (syncDirM F).1
theorem clo_and {P:Fs → Prop} {r:Fs × Int} {f:Fs → Fs × Int} (h:P r.1) (hf:P r.1 → P (f r.1).1):P (andM r f).1:=by
  by_cases h0:r.2=0
  · rw [andM_ok h0]; exact hf h
  · rw [andM_no h0]; exact h
theorem Clo.apps {P:Fs → Prop} (c:Clo P) {n:ByteArray}:∀ (k:Nat) {F:Fs} (t:ByteArray),P F → P (appsM k F n t).1
  | 0,F,t,h=>h
  | k + 1,F,t,h=>by
    unfold appsM
    split
    · exact h
    · exact clo_and (c.append h _ _) (fun h2=>c.apps k _ h2)
theorem Clo.written {P:Fs → Prop} (c:Clo P) {F:Fs} (h:P F) (n t:ByteArray):P (writtenM F n t).1:=by
  unfold writtenM
  exact clo_and (c.create h n) (fun h2=>clo_and (c.apps _ t h2) (fun h3=>c.sync h3 n))
theorem Clo.clean {P:Fs → Prop} (c:Clo P) {F:Fs} (h:P F) (n:ByteArray):P (cleanM F n):=by
  unfold cleanM
  split
  · exact c.remove h n
  · exact h
theorem Clo.rens {P:Fs → Prop} (c:Clo P):∀ (m:Nat) {F:Fs},P F → P (rensM m F).1
  | 0,F,h=>h
  | m + 1,F,h=>by
    unfold rensM
    split
    · exact clo_and (c.rename h _ _) (fun h2=>c.rens m h2)
    · exact c.rens m h
theorem Clo.rems {P:Fs → Prop} (c:Clo P):∀ (m:Nat) {F:Fs},P F → P (remsM m F).1
  | 0,F,h=>h
  | m + 1,F,h=>by
    unfold remsM
    split
    · exact clo_and (c.remove h _) (fun h2=>c.rems m h2)
    · exact c.rems m h
theorem Clo.kept {P:Fs → Prop} (c:Clo P) {F:Fs} (h:P F) (keep:Nat):P (keptM F keep).1:=by
  unfold keptM
  split
  · exact clo_and (c.written h _ _) (fun h2=>clo_and (c.rens _ h2) (fun h3=>c.rename h3 _ _))
  · exact h
theorem Clo.steps {P:Fs → Prop} (c:Clo P) {F:Fs} (h:P F) (t:ByteArray) (keep:Nat):P (stepsM F t keep).1:=by
  unfold stepsM
  refine clo_and (c.written h _ _) (fun h2=>?_)
  have h3:P (if decide (0 < keep) && thereM (writtenM F tmpS t).1 liveN then keptM (writtenM F tmpS t).1 keep else ((writtenM F tmpS t).1,0)).1:=by
    split
    · exact c.kept h2 keep
    · exact h2
  exact clo_and h3 (fun h4=>clo_and (c.rename h4 _ _) (fun h5=>clo_and (c.rems _ h5) (fun h6=>c.syncDir h6)))
theorem Clo.save {P:Fs → Prop} (c:Clo P) {F:Fs} (h:P F) (t:ByteArray) (keep:Int):P (saveM F t keep).1:=by
  unfold saveM
  split
  · exact h
  · split
    · exact h
    · simp only
      split
      · exact c.steps h t _
      · exact c.clean (c.clean (c.steps h t _) _) _
/-! What Load finds. -/
theorem names_nodup {d:List Sl} {N:Nat} (h:DOk d N):(d.map (·.1)).Nodup:=by
  unfold List.Nodup
  rw [List.pairwise_map]
  refine h.rise.imp (fun {a b} hab e=>?_)
  rw [e,ltB_irr] at hab
  cases hab
end Go.Proofs.YtbgbmfmgdgalbaaGreatDoor
