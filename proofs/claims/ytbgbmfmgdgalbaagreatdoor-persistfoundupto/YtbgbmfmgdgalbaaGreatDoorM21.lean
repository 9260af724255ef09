import Derived.Test.YtbgbmfmgdgalbaaGreatDoorM20
namespace Go.Proofs.YtbgbmfmgdgalbaaGreatDoor
open Go.RowKit Go.Maps
set_option linter.unusedVariables false
set_option linter.unusedSimpArgs false
def liveI (d:List Sl):Int:=findM d liveN
def pastM (F:Fs) (d:List Sl):ByteArray × Bool:=if liveI d < 0 then (⟨#[]⟩,false) else ((fileAt F (liveI d).toNat).d,true)
structure Wh (F:Fs) (M:ByteArray × Bool → Prop):Prop where
  ok:Okf F
  w:∀ j,j ≤ F.chg.length → M (pastM F (dirK F j))∧(¬ liveI (dirK F j) < 0 → (fileAt F (liveI (dirK F j)).toNat).s=(fileAt F (liveI (dirK F j)).toNat).d.size)
  d:∀ j,j ≤ F.chg.length → ¬ liveI (dirK F j) < 0 → ∀ n,n ≠ liveN → findM F.dir n ≠ liveI (dirK F j)
  dn:F.down=true → F.chg=[]∧F.sure=F.dir
theorem Wh.weak {F:Fs} {M M':ByteArray × Bool → Prop} (h:Wh F M) (hm:∀ x,M x → M' x):Wh F M':=⟨h.ok,fun j hj=>⟨hm _ (h.w j hj).1,(h.w j hj).2⟩,h.d,h.dn⟩
theorem Okf.dirs {F:Fs} (h:Okf F) {j:Nat} (hj:j ≤ F.chg.length):DOk (dirK F j) F.files.length:=by obtain ⟨cf,h⟩:=h; exact h.dirs j hj
theorem Okf.now {F:Fs} (h:Okf F):dirK F F.chg.length=F.dir:=by obtain ⟨cf,h⟩:=h; exact h.now
theorem find_in {d:List Sl} {N:Nat} (h:DOk d N) {n:ByteArray} (hn:¬ findM d n < 0):(findM d n).toNat < N∧((findM d n).toNat:Int)=findM d n:=by
  obtain ⟨x,hx,_,e⟩:=findM_mem hn
  have h1:=h.lt x hx
  have h2:=h.ge x hx
  rw [e] at h1 h2
  exact ⟨by omega,by omega⟩
theorem find_inj {d:List Sl} {N:Nat} (h:DOk d N) {a b:ByteArray} (hb:¬ findM d b < 0) (e:findM d a=findM d b):a=b:=by
  obtain ⟨x,hx,ex,e1⟩:=findM_mem hb
  obtain ⟨y,hy,ey,e2⟩:=findM_mem (d:=d) (n:=a) (by rw [e]; exact hb)
  by_cases hxy:x=y
  · rw [← ex,← ey,hxy]
  · exact absurd (by rw [e1,e2,e]) (pair_ne h.uni hx hy hxy)
theorem Wh.same {F F':Fs} {M:ByteArray × Bool → Prop} (h:Wh F M) (ho:Okf F') (e2:F'.dir=F.dir) (e3:F'.sure=F.sure) (e4:F'.chg=F.chg) (hf:∀ j,j ≤ F.chg.length → ¬ liveI (dirK F j) < 0 → fileAt F' (liveI (dirK F j)).toNat=fileAt F (liveI (dirK F j)).toNat) (hd:F'.down=true → F.chg=[]∧F.sure=F.dir):Wh F' M:=by
  have hk:∀ k,dirK F' k=dirK F k:=fun k=>by unfold dirK; rw [e3,e4]
  refine ⟨ho,fun j hj=>?_,fun j hj hl n hn=>?_,fun hh=>by rw [e2,e3,e4]; exact hd hh⟩
  · rw [e4] at hj
    rw [hk]
    obtain ⟨h1,h2⟩:=h.w j hj
    by_cases hl:liveI (dirK F j) < 0
    · refine ⟨?_,fun hh=>absurd hl hh⟩
      unfold pastM at h1 ⊢
      rw [if_pos hl] at h1 ⊢
      exact h1
    · rw [hf j hj hl]
      refine ⟨?_,h2⟩
      unfold pastM at h1 ⊢
      rw [if_neg hl] at h1 ⊢
      rw [hf j hj hl]
      exact h1
  · rw [e4] at hj
    rw [hk] at hl ⊢
    rw [e2]
    exact h.d j hj hl n hn
theorem Wh.up {F:Fs} {M:ByteArray × Bool → Prop} (h:Wh F M):Wh (up1 F) M:=h.same (h.ok.same (Nat.le_refl _) rfl rfl rfl) rfl rfl rfl (fun _ _ _=>rfl) h.dn
theorem cut_full {x:Fi} (h:x.s=x.d.size) (p:List Int) (k:Nat):cutF x (pickM p k (x.d.size - x.s))=x:=by
  have h1:=pickM_le p k (x.d.size - x.s)
  have h2:pickM p k (x.d.size - x.s)=0:=by omega
  rw [h2]
  unfold cutF
  rw [Nat.add_zero,h,ext_all]
  cases x
  simp_all
theorem Wh.down {F:Fs} {M:ByteArray × Bool → Prop} (h:Wh F M) (p:List Int):Wh (downM F p) M:=by
  have hj:pickM p 0 F.chg.length ≤ F.chg.length:=pickM_le p 0 _
  have hdk:=h.ok.dirs hj
  have e:∀ k,dirK (downM F p) k=dirK F (pickM p 0 F.chg.length):=fun k=>by
    show (([]:List Ch).take k).foldl afterM _=_
    rw [List.take_nil]; rfl
  have hfa:¬ liveI (dirK F (pickM p 0 F.chg.length)) < 0 → fileAt (downM F p) (liveI (dirK F (pickM p 0 F.chg.length))).toNat=fileAt F (liveI (dirK F (pickM p 0 F.chg.length))).toNat:=fun hl=>by
    exact (down_file p (i:=(liveI (dirK F (pickM p 0 F.chg.length))).toNat) (find_in hdk hl).1).trans (cut_full ((h.w _ hj).2 hl) p _)
  refine ⟨h.ok.down p,fun j _=>?_,fun j _ hl n hn=>?_,fun _=>⟨rfl,rfl⟩⟩
  · rw [e]
    obtain ⟨h1,h2⟩:=h.w _ hj
    by_cases hl:liveI (dirK F (pickM p 0 F.chg.length)) < 0
    · refine ⟨?_,fun hh=>absurd hl hh⟩
      unfold pastM at h1 ⊢
      rw [if_pos hl] at h1 ⊢
      exact h1
    · rw [hfa hl]
      refine ⟨?_,h2⟩
      unfold pastM at h1 ⊢
      rw [if_neg hl] at h1 ⊢
      rw [hfa hl]
      exact h1
  · rw [e] at hl ⊢
    exact fun hh=>hn (find_inj hdk hl hh)
theorem Wh.step {F:Fs} {M:ByteArray × Bool → Prop} (h:Wh F M):Wh (stepM F).1 M:=by
  have h1:Wh { F with steps:=F.steps + 1 } M:=h.up
  unfold stepM
  simp only
  split
  · exact h1.down _
  · split <;> exact h1
theorem wh_ite {M:ByteArray × Bool → Prop} {c:Prop} [Decidable c] {a b:Fs × Int} (ha:c → Wh a.1 M) (hb:¬ c → Wh b.1 M):Wh (if c then a else b).1 M:=by
  by_cases h:c
  · rw [if_pos h]; exact ha h
  · rw [if_neg h]; exact hb h
theorem dirK_change (F:Fs) (c:Ch) {k:Nat} (hk:k ≤ F.chg.length):dirK (changeM F c) k=dirK F k:=by
  unfold dirK changeM
  simp only []
  rw [List.take_append_of_le_length hk]
theorem dirK_new {F:Fs} (h:Okf F) (c:Ch):dirK (changeM F c) (F.chg.length + 1)=afterM F.dir c:=by
  have:=h.now
  unfold dirK at this ⊢
  unfold changeM
  simp only []
  rw [List.take_of_length_le (by simp),List.foldl_append]
  rw [List.take_of_length_le (Nat.le_refl _)] at this
  rw [this]
  rfl
theorem Wh.change {F:Fs} {M:ByteArray × Bool → Prop} (h:Wh F M) {c:Ch} (ho:Okf (changeM F c)) (hl:liveI (afterM F.dir c)=liveI F.dir) (hd:∀ n,n ≠ liveN → ∀ j,j ≤ F.chg.length → ¬ liveI (dirK F j) < 0 → findM (afterM F.dir c) n ≠ liveI (dirK F j)) (hu:F.down=false):Wh (changeM F c) M:=by
  have hlen:(changeM F c).chg.length=F.chg.length + 1:=by unfold changeM; simp
  have hn:=h.ok.now
  have hsel:∀ j,j ≤ F.chg.length + 1 → ∃ k,k ≤ F.chg.length∧liveI (dirK (changeM F c) j)=liveI (dirK F k):=fun j hj=>by
    by_cases e:j ≤ F.chg.length
    · exact ⟨j,e,by rw [dirK_change F c e]⟩
    · have e1:j=F.chg.length + 1:=by omega
      refine ⟨F.chg.length,Nat.le_refl _,?_⟩
      rw [e1,dirK_new h.ok c,hl,hn]
  refine ⟨ho,fun j hj=>?_,fun j hj hlj n hne=>?_,fun hh=>?_⟩
  · rw [hlen] at hj
    obtain ⟨k,hk,e⟩:=hsel j hj
    obtain ⟨h1,h2⟩:=h.w k hk
    unfold pastM at h1 ⊢
    rw [e]
    exact ⟨h1,h2⟩
  · rw [hlen] at hj
    obtain ⟨k,hk,e⟩:=hsel j hj
    rw [e] at hlj ⊢
    exact hd n hne k hk hlj
  · have:F.down=true:=hh
    rw [hu] at this
    cases this
theorem up_down {F:Fs} {n:ByteArray} (h:hasM F n=0):F.down=false:=(has_zero.1 h).1
theorem fileAt_add (F:Fs) {k:Nat} (hk:k < F.files.length):fileAt (addF F) k=fileAt F k:=by
  unfold fileAt addF
  simp only []
  rw [List.getD_eq_getElem?_getD,List.getD_eq_getElem?_getD,List.getElem?_append_left hk]
theorem Wh.create {F:Fs} {M:ByteArray × Bool → Prop} (h:Wh F M) {n:ByteArray} (hn:n ≠ liveN):Wh (createM F n).1 M:=by
  have ho:=h.ok.create n
  unfold createM at ho ⊢
  refine wh_ite (fun _=>h) (fun hdn=>wh_ite (fun hnm=>wh_ite (fun _=>h) (fun hl=>wh_ite (fun h0=>?_) (fun _=>h.step))) (fun _=>h))
  rw [if_neg hdn,if_pos hnm,if_neg hl,if_pos h0] at ho
  have hu:=stepM_zero h0
  have ho2:Okf (changeM { (stepM F).1 with files:=(stepM F).1.files ++ [⟨⟨#[]⟩,0⟩] } ⟨n,⟨#[]⟩,((stepM F).1.files.length:Int)⟩):=ho
  show Wh (changeM { (stepM F).1 with files:=(stepM F).1.files ++ [⟨⟨#[]⟩,0⟩] } ⟨n,⟨#[]⟩,((stepM F).1.files.length:Int)⟩) M
  rw [hu] at ho2 ⊢
  have h1:=h.up
  have h2:Wh (addF (up1 F)) M:=h1.same (h1.ok.same (by unfold addF; simp) rfl rfl rfl) rfl rfl rfl (fun j hj hl=>fileAt_add _ (find_in (h1.ok.dirs hj) hl).1) h1.dn
  have hup:F.down=false:=by simpa using hdn
  have hrise:=(h.ok.dirs (Nat.le_refl _)).rise
  rw [h.ok.now] at hrise
  have e:afterM (addF (up1 F)).dir ⟨n,⟨#[]⟩,((up1 F).files.length:Int)⟩=boundM F.dir n (F.files.length:Int):=if_pos rfl
  refine h2.change ho2 ?_ (fun m hm j hj hlj=>?_) hup
  · unfold liveI
    rw [e,findM_put hrise n liveN _ (by omega),if_neg (fun q=>hn q.symm)]
    rfl
  · rw [e,findM_put hrise n m _ (by omega)]
    by_cases hmn:m=n
    · rw [if_pos hmn]
      have:=find_in (h.ok.dirs (F:=F) (j:=j) hj) hlj
      intro hh
      have h5:liveI (dirK (addF (up1 F)) j)=findM (dirK F j) liveN:=rfl
      rw [h5] at hh
      omega
    · rw [if_neg hmn]
      exact h.d j hj hlj m hm
theorem Wh.remove {F:Fs} {M:ByteArray × Bool → Prop} (h:Wh F M) {n:ByteArray} (hn:n ≠ liveN):Wh (removeM F n).1 M:=by
  have ho:=h.ok.remove n
  unfold removeM at ho ⊢
  refine wh_ite (fun hh=>wh_ite (fun h0=>?_) (fun _=>h.step)) (fun _=>h)
  rw [if_pos hh] at ho
  simp only [h0,if_true] at ho
  have hu:=stepM_zero h0
  show Wh (changeM (stepM F).1 ⟨n,⟨#[]⟩,-1⟩) M
  rw [hu] at ho ⊢
  have e:afterM (up1 F).dir ⟨n,⟨#[]⟩,-1⟩=boundM F.dir n (-1):=if_pos rfl
  refine h.up.change ho ?_ (fun m hm j hj hlj=>?_) (up_down hh)
  · unfold liveI
    rw [e,findM_del _ _ _ _ (by decide),if_neg (fun q=>hn q.symm)]
    rfl
  · rw [e,findM_del _ _ _ _ (by decide)]
    by_cases hmn:m=n
    · rw [if_pos hmn]
      intro hh2
      rw [← hh2] at hlj
      exact hlj (by decide)
    · rw [if_neg hmn]
      exact h.d j hj hlj m hm
theorem find_ren {d:List Sl} {N:Nat} (hd:DOk d N) {n t:ByteArray} (ht:t.size ≠ 0) (hf:¬ findM d n < 0) (m:ByteArray):findM (afterM d ⟨n,t,findM d n⟩) m=if m=t then findM d n else if m=n then -1 else findM d m:=by
  have e:afterM d ⟨n,t,findM d n⟩=boundM (boundM d n (-1)) t (findM d n):=if_neg ht
  rw [e,findM_put (hd.del n (f:=-1) (by decide)).rise t m _ hf,findM_del _ _ _ _ (by decide)]
theorem Wh.rename {F:Fs} {M:ByteArray × Bool → Prop} (h:Wh F M) {n t:ByteArray} (hn:n ≠ liveN) (ht:t ≠ liveN):Wh (renameM F n t).1 M:=by
  have ho:=h.ok.rename n t
  unfold renameM at ho ⊢
  refine wh_ite (fun _=>h) (fun hx=>wh_ite (fun hh=>wh_ite (fun h0=>?_) (fun _=>h.step)) (fun _=>h))
  rw [if_neg hx,if_pos hh] at ho
  simp only [h0,if_true] at ho
  have hu:=stepM_zero h0
  have hup:=up_down hh
  have htn:namedM t=true:=by
    rw [hup] at hx
    simpa using hx
  have hts:t.size ≠ 0:=by have:=(named_size htn).1; omega
  have hf:=(has_zero.1 hh).2.2
  have hdk:=h.ok.dirs (Nat.le_refl _)
  rw [h.ok.now] at hdk
  show Wh (changeM (stepM F).1 ⟨n,t,findM F.dir n⟩) M
  rw [hu] at ho ⊢
  refine h.up.change ho ?_ (fun m hm j hj hlj=>?_) hup
  · show findM (afterM F.dir ⟨n,t,findM F.dir n⟩) liveN=findM F.dir liveN
    rw [find_ren hdk hts hf,if_neg (fun q=>ht q.symm),if_neg (fun q=>hn q.symm)]
  · show findM (afterM F.dir ⟨n,t,findM F.dir n⟩) m ≠ _
    rw [find_ren hdk hts hf]
    by_cases hmt:m=t
    · rw [if_pos hmt]
      exact h.d j hj hlj n hn
    · rw [if_neg hmt]
      by_cases hmn:m=n
      · rw [if_pos hmn]
        intro hh2
        rw [← hh2] at hlj
        exact hlj (by decide)
      · rw [if_neg hmn]
        exact h.d j hj hlj m hm
theorem fileAt_set (F:Fs) (i:Nat) (x:Fi) {k:Nat} (hk:k ≠ i):fileAt { F with files:=F.files.set i x } k=fileAt F k:=by
  unfold fileAt
  simp only []
  rw [set_getD,if_neg (fun h=>hk h.1.symm)]
theorem Wh.file {F:Fs} {M:ByteArray × Bool → Prop} (h:Wh F M) {n:ByteArray} (hn:n ≠ liveN) (hf:¬ findM F.dir n < 0) (x:Fi):Wh { F with files:=F.files.set (findM F.dir n).toNat x } M:=by
  refine h.same (h.ok.same (by simp) rfl rfl rfl) rfl rfl rfl (fun j hj hl=>fileAt_set F _ x (fun e=>h.d j hj hl n hn ?_)) h.dn
  have h1:=(find_in (h.ok.dirs hj) hl).2
  have hdk:=h.ok.dirs (Nat.le_refl _)
  rw [h.ok.now] at hdk
  have h2:=(find_in hdk hf).2
  unfold liveI at e ⊢
  omega
theorem Wh.append {F:Fs} {M:ByteArray × Bool → Prop} (h:Wh F M) {n:ByteArray} (hn:n ≠ liveN) (d:ByteArray):Wh (appendM F n d).1 M:=by
  unfold appendM
  refine wh_ite (fun hh=>wh_ite (fun _=>h) (fun _=>wh_ite (fun _=>h.step) (fun h3=>?_))) (fun _=>h)
  have hu:(stepM F).1=up1 F:=by
    rcases stepM_cases F with h1 | ⟨_,h1⟩ | ⟨_,h1⟩
    · exact absurd h1 h3
    · exact h1
    · exact h1
  rw [hu]
  exact h.up.file (n:=n) hn (has_zero.1 hh).2.2 _
theorem Wh.sync {F:Fs} {M:ByteArray × Bool → Prop} (h:Wh F M) {n:ByteArray} (hn:n ≠ liveN):Wh (syncM F n).1 M:=by
  unfold syncM
  refine wh_ite (fun hh=>wh_ite (fun h0=>?_) (fun _=>h.step)) (fun _=>h)
  have hu:=stepM_zero h0
  rw [hu]
  exact h.up.file (n:=n) hn (has_zero.1 hh).2.2 _
theorem Wh.syncDir {F:Fs} {M:ByteArray × Bool → Prop} (h:Wh F M):Wh (syncDirM F).1 M:=by
  have ho:=h.ok.syncDir
  unfold syncDirM at ho ⊢
  refine wh_ite (fun _=>h) (fun hd=>wh_ite (fun h0=>?_) (fun _=>h.step))
  rw [if_neg hd] at ho
  simp only [h0,if_true] at ho
  have hu:=stepM_zero h0
  rw [hu] at ho ⊢
  have e:∀ k,dirK { up1 F with sure:=(up1 F).dir,chg:=[] } k=dirK F F.chg.length:=fun k=>by
    rw [h.ok.now]
    show (([]:List Ch).take k).foldl afterM _=_
    rw [List.take_nil]; rfl
  refine ⟨ho,fun j _=>?_,fun j _ hl n hn=>?_,fun hh=>absurd hh hd⟩
  · rw [e]
    exact h.w _ (Nat.le_refl _)
  · rw [e] at hl ⊢
    exact h.d _ (Nat.le_refl _) hl n hn
theorem Wh.new {M:ByteArray × Bool → Prop} (hm:M (⟨#[]⟩,false)):Wh newM M:=by
  refine ⟨⟨[],newOk⟩,fun j hj=>⟨?_,fun hh=>absurd (show liveI (dirK newM j) < 0 from ?_) hh⟩,fun j hj hl=>absurd (show liveI (dirK newM j) < 0 from ?_) hl,fun hh=>by cases hh⟩
  all_goals
    have e:dirK newM j=[]:=by
      show (([]:List Ch).take j).foldl afterM []=_
      rw [List.take_nil]; rfl
    rw [e]
    first | exact hm | decide
end Go.Proofs.YtbgbmfmgdgalbaaGreatDoor
