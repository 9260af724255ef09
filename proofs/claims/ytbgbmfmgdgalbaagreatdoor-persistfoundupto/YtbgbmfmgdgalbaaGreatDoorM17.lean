import Derived.Test.YtbgbmfmgdgalbaaGreatDoorM09
namespace Go.Proofs.YtbgbmfmgdgalbaaGreatDoor
open Go.RowKit Go.Maps
set_option linter.unusedVariables false
set_option linter.unusedSimpArgs false
theorem eM_create (args:Array Value) (w:World):(callFunc 124 args).run Tryz.prog w=.ok (.enter 124 args) w:=by kernel_rfl
def addX (X:Gh) (i B:Nat):Gh:={ X with fb:=fun j=>if j=i then B else X.fb j,pv:=fun j=>if j=i then .slice none 0 0 else X.pv j,ps:=fun j=>if j=i then [] else X.ps j }
def addF (F:Fs):Fs:={ F with files:=F.files ++ [⟨⟨#[]⟩,0⟩] }
theorem dirF_congr {d:List Sl} {N:Nat} (hd:DOk d N) {fb fb':Nat → Nat} (h:∀ j,j < N → fb' j=fb j):dirF d fb'=dirF d fb:=by
  funext m
  unfold dirF
  by_cases hf:findM d m < 0
  · rw [if_pos hf,if_pos hf]
  · rw [if_neg hf,if_neg hf]
    obtain ⟨x,hx,_,e⟩:=findM_mem hf
    have:=hd.lt x hx
    rw [h _ (by omega)]
theorem FsP.added {w w':World} {g:Nat} {X:Gh} {F:Fs} {B:Nat} (h:FsP w g X F) (hB:w.heap.size ≤ B) (hm:ModP (fun k=>k=g) w w') (hg:w'.heap[g]?=some (.cells #[.bool F.down,.int .i64 (F.steps:Int),.int .i64 ((F.files.length + 1:Nat):Int),.map (some X.mn),.map (some X.ms),X.cv,X.qv] 74)) (hb:w'.heap[B]?=some (.cells #[.int .i64 ((F.files.length + 1:Nat):Int),.slice none 0 0,.int .i64 0,.int .i64 0] 85)) :
    FsP w' g (addX X F.files.length B) (addF F)∧FileAt w' B F.files.length ⟨⟨#[]⟩,0⟩ (.slice none 0 0) []∧(∀ j,Live F X j → (addX X F.files.length B).fb j=X.fb j∧(addX X F.files.length B).pv j=X.pv j∧X.fb j ≠ B)∧∀ k,Own g (addF F) (addX X F.files.length B) k → Own g F X k:=by
  obtain ⟨n1,n2,n3,n4,n5⟩:=h.ne_g
  have hlt:∀ j,Live F X j → j ≠ F.files.length:=fun j hj e=>by have:=h.live_lt hj; omega
  have efb:∀ j,j < F.files.length → (addX X F.files.length B).fb j=X.fb j:=fun j hj=>if_neg (by omega)
  have hfile:FileAt w' B F.files.length ⟨⟨#[]⟩,0⟩ (.slice none 0 0) []:=⟨hb,⟨rfl,Or.inl ⟨rfl,rfl⟩⟩,rfl,Nat.zero_le _,by show (0:Nat) ≤ _; omega,Nat.le_refl _⟩
  have hcongr:∀ j,Live F X j → (addX X F.files.length B).fb j=X.fb j∧(addX X F.files.length B).pv j=X.pv j∧X.fb j ≠ B:=fun j hj=>⟨if_neg (hlt j hj),if_neg (hlt j hj),fun e=>by have:=h.own_lt (own_file hj); omega⟩
  obtain ⟨k1,hn⟩:=h.now
  obtain ⟨k2,hs⟩:=h.safe
  have hcl:chgL (addF F) (addX X F.files.length B)=chgL F X:=by
    unfold chgL
    refine List.map_congr_left (fun x hx=>?_)
    have:=h.ok.cfl x.2 (List.of_mem_zip hx).2
    rw [efb _ this]
  have hlen:(addF F).files.length=F.files.length + 1:=by unfold addF; simp
  refine ⟨⟨⟨⟨fun k hk=>?_,h.ok.now,h.ok.cl,fun i hi=>?_,h.ok.ch⟩,?_,⟨k1,?_⟩,⟨k2,?_⟩,h.mne,?_,h.row.to (fun k hk=>by obtain ⟨cur,hc⟩:=h.row.type hk; exact hm.oth k (row_lt hc) (n5 k hk)),fun i x hl hx=>?_,fun i j hi hj hne=>?_⟩,⟨h.pln.srt,h.pln.ahead,h.pln.all,h.pln.cr⟩,fun q hq=>?_⟩,hfile,hcongr,fun k hk=>?_⟩
  · rw [hlen]; exact (h.ok.dirs k hk).mono (by omega)
  · rw [hlen]; have:=h.ok.cfl i hi; omega
  · rw [hlen]; exact hg
  · have e:dirF (addF F).dir (addX X F.files.length B).fb=dirF F.dir X.fb:=dirF_congr h.ok.dir efb
    rw [e]; exact hn.to (hm.oth _ hn.lt n1)
  · have e:dirF (addF F).sure (addX X F.files.length B).fb=dirF F.sure X.fb:=dirF_congr h.ok.sure efb
    rw [e]; exact hs.to (hm.oth _ hs.lt n2)
  · rw [hcl]
    exact own_to h.chg (fun k hk=>by obtain ⟨cur,hc⟩:=own_type h.chg hk; exact hm.oth k (row_lt hc) (n4 k hk))
  · have hl':Live F X i:=hl
    have hi:=h.live_lt hl'
    have e2:(addX X F.files.length B).ps i=X.ps i:=if_neg (hlt i hl')
    rw [(hcongr i hl').1,(hcongr i hl').2.1,e2]
    have hx':F.files[i]?=some x:=by
      have:(addF F).files[i]?=F.files[i]?:=by unfold addF; simp only []; rw [List.getElem?_append_left hi]
      rw [← this]; exact hx
    have hf:=h.fil i x hl' hx'
    exact hf.to (hm.oth _ (row_lt hf.blk) (n3 i hl').1) (fun k hk=>hm.oth k (own_lt hf.own hk) ((n3 i hl').2 k hk))
  · have hi':Live F X i:=hi
    have hj':Live F X j:=hj
    rw [(hcongr i hi').1,(hcongr j hj').1,(hcongr i hi').2.1,(hcongr j hj').2.1]
    exact h.inj i j hi' hj' hne
  · have:=h.hld q hq
    refine (show Holds w (addF F) q from ⟨this.cr,this.fl⟩).to (fun j cs t fz hj ht=>hm.oth j (row_lt hj) (fun e=>ht ?_))
    subst e
    have h1:=hj.symm.trans h.blk
    injection h1 with h1
    injection h1 with _ h2
    rw [h2]; exact Or.inl rfl
  · rcases hk with rfl | rfl | rfl | ⟨i,hl,hk⟩ | hk | hk
    · exact Or.inl rfl
    · exact Or.inr (Or.inl rfl)
    · exact Or.inr (Or.inr (Or.inl rfl))
    · have hl':Live F X i:=hl
      rw [(hcongr i hl').1,(hcongr i hl').2.1] at hk
      exact Or.inr (Or.inr (Or.inr (Or.inl ⟨i,hl',hk⟩)))
    · exact Or.inr (Or.inr (Or.inr (Or.inr (Or.inl hk))))
    · exact Or.inr (Or.inr (Or.inr (Or.inr (Or.inr hk))))
theorem cok_create {F:Fs} (hd:DOk F.dir F.files.length) {n:ByteArray} (hn:namedM n=true) (hl:¬ (findM F.dir n < 0∧64 ≤ F.dir.length)):COk (addF F) ⟨n,⟨#[]⟩,(F.files.length:Int)⟩ F.files.length:=by
  refine ⟨Or.inr rfl,hn,Or.inl rfl,fun h=>absurd rfl h,?_⟩
  have e:afterM (addF F).dir ⟨n,⟨#[]⟩,(F.files.length:Int)⟩=boundM F.dir n (F.files.length:Int):=if_pos rfl
  have e2:(addF F).files.length=F.files.length + 1:=by unfold addF; simp
  rw [e,e2]
  refine (hd.mono (Nat.le_succ _)).put hn (by omega) (by omega) (fun x hx _ e3=>by have:=hd.lt x hx; omega) ?_
  by_cases hf:findM F.dir n < 0
  · left
    rcases Nat.lt_or_ge F.dir.length 64 with h1 | h1
    · exact h1
    · exact absurd ⟨hf,h1⟩ hl
  · obtain ⟨x,hx,e3,_⟩:=findM_mem hf
    exact Or.inr ⟨x,hx,e3⟩
def CrP (g:Nat) (X:Gh) (F:Fs) (n:ByteArray) (w w':World):Prop:=∃ X',Bec w g X F w' X' (changeM (addF F) ⟨n,⟨#[]⟩,(F.files.length:Int)⟩)
set_option maxHeartbeats 2000000 in
set_option maxRecDepth 100000 in
theorem Create1_any (g b0 b1 T0 T1:Nat) (X:Gh) (F:Fs) (n:ByteArray) (w:World) (h:FsP w g X F) (hs:Sm F X) (hs2:F.files.length < 3298534883328) (hn:namedM n=true) (hl:¬ (findM F.dir n < 0∧64 ≤ F.dir.length)) (h0:w.heap[b0]?=some (.cells #[ptr (some g)] T0)) (h1:w.heap[b1]?=some (.cells #[.string n] T1)) (hne:b0 ≠ g∧b1 ≠ g∧¬ Own g F X b0∧¬ Own g F X b1) :
    Calls Tryz.prog 124 #[.pointer (some ⟨b0,0,none⟩),.pointer (some ⟨b1,0,none⟩)] w fun e w'=>e=.returned (.tuple #[])∧CrP g X F n w w':=by
  obtain ⟨R,hR⟩:∃ R,w.heap.size=R:=⟨_,rfl⟩
  have c0:=cell1 h0
  obtain ⟨_,_,c2,_,_,_,_,cf⟩:=fsC7 h.blk
  have f2:=cf 2
  have hw1:IntKind.i64.wrap ((F.files.length:Int) + 1)=((F.files.length + 1:Nat):Int):=by rw [IntKind.wrap_i64] <;> omega
  have hg1:=fs_set h.blk 2 (.int .i64 ((F.files.length + 1:Nat):Int))
  obtain ⟨W1,hW1⟩:∃ W1,w.setCell ⟨g,2,none⟩ (.int .i64 ((F.files.length + 1:Nat):Int))=W1:=⟨_,rfl⟩
  rw [hW1] at hg1
  have hg1':W1.heap[g]?=some (.cells #[.bool F.down,.int .i64 (F.steps:Int),.int .i64 ((F.files.length + 1:Nat):Int),.map (some X.mn),.map (some X.ms),X.cv,X.qv] 74):=hg1.1
  have r0:=(hg1.2.other b0 hne.1).trans h0
  have r1:=(hg1.2.other b1 hne.2.1).trans h1
  have s1:W1.heap.size=R:=by rw [hg1.2.size]; exact hR
  obtain ⟨nf,hnf⟩:∃ nf,F.files.length=nf:=⟨_,rfl⟩
  obtain ⟨W2,hW2⟩:∃ W2,W1.alloc (.cells #[.int .i64 ((nf + 1:Nat):Int),.slice none 0 0,.int .i64 0,.int .i64 0] 85)=W2:=⟨_,rfl⟩
  have hb2:Below W1.heap.size W1 W2:=by rw [← hW2]; exact (Below.refl _ _).alloc (Nat.le_refl _) _
  have hnew:W2.heap[R]?=some (.cells #[.int .i64 ((nf + 1:Nat):Int),.slice none 0 0,.int .i64 0,.int .i64 0] 85):=by rw [← hW2,← s1]; exact one_alloc _ _
  have hm2:ModP (fun k=>k=g) w W2:=(ModP.only (S:=fun k=>k=g) hg1.2 rfl).trans (ModP.below hb2)
  have hg2:=(hb2.block g (row_lt hg1')).trans hg1'
  rw [← hnf] at hnew
  have HADD:Hid (∀ m,FsP (W2.drewN m) g (addX X F.files.length R) (addF F)∧FileAt (W2.drewN m) R F.files.length ⟨⟨#[]⟩,0⟩ (.slice none 0 0) []∧(∀ j,Live F X j → (addX X F.files.length R).fb j=X.fb j∧(addX X F.files.length R).pv j=X.pv j∧X.fb j ≠ R)∧∀ k,Own g (addF F) (addX X F.files.length R) k → Own g F X k):=fun m=>h.added (by omega) (hm2.dn m) hg2 hnew
  have hck:=cok_create h.ok.dir hn hl
  have hnz:¬ n.size=0:=by have:=(named_size hn).1; omega
  have HCH:Hid (∀ m,Calls Tryz.prog 116 #[ptr (some g),.agg #[.string ⟨#[]⟩,.string n,ptr (some R)]] (W2.drewN m) fun e w'=>e=.returned (.tuple #[])∧ChgF g (addX X F.files.length R) (addF F) ⟨n,⟨#[]⟩,(F.files.length:Int)⟩ F.files.length (W2.drewN m) w'):=fun m=>by
    obtain ⟨a1,a2,a3,a4⟩:=HADD.out m
    have efb:(addX X F.files.length R).fb F.files.length=R:=if_pos rfl
    have epv:(addX X F.files.length R).pv F.files.length=.slice none 0 0:=if_pos rfl
    have eps:(addX X F.files.length R).ps F.files.length=[]:=if_pos rfl
    have hpc:pcOf ⟨n,⟨#[]⟩,(F.files.length:Int)⟩ R=⟨⟨#[]⟩,n,R⟩:=by
      show (if (0:Nat)=0 then (if (F.files.length:Int) < 0 then (⟨n,⟨#[]⟩,R⟩:Pc) else ⟨⟨#[]⟩,n,R⟩) else _)=_
      rw [if_pos rfl,if_neg (by omega)]
    have hch:=changeF_any g (addX X F.files.length R) (addF F) ⟨n,⟨#[]⟩,(F.files.length:Int)⟩ F.files.length ⟨⟨#[]⟩,0⟩ (W2.drewN m) a1 ⟨hs.st,by unfold addF; simp; omega,hs.ch,hs.qs⟩ hck (by unfold addF; simp) (by rw [efb,epv,eps]; exact a2) (fun j hj hji=>by
      have hj':Live F X j:=hj
      obtain ⟨b1,b2,b3⟩:=a3 j hj'
      rw [b1,b2,efb,epv]
      exact ⟨b3,fun k _ hk=>by cases hk⟩)
    have earg:#[ptr (some g),Value.agg #[.string (pcOf ⟨n,⟨#[]⟩,(F.files.length:Int)⟩ ((addX X F.files.length R).fb F.files.length)).n,.string (pcOf ⟨n,⟨#[]⟩,(F.files.length:Int)⟩ ((addX X F.files.length R).fb F.files.length)).t,ptr (some ((addX X F.files.length R).fb F.files.length))]]=#[ptr (some g),.agg #[.string ⟨#[]⟩,.string n,ptr (some R)]]:=by rw [efb,hpc]
    rw [earg] at hch
    exact hch
  have HFIN:Hid (∀ m w',ChgF g (addX X F.files.length R) (addF F) ⟨n,⟨#[]⟩,(F.files.length:Int)⟩ F.files.length (W2.drewN m) w' → CrP g X F n w w'∧w'.heap[b0]?=some (.cells #[ptr (some g)] T0)∧w'.heap[b1]?=some (.cells #[.string n] T1)∧w'.cell? ⟨g,2,none⟩=some (.int .i64 ((F.files.length + 1:Nat):Int))):=fun m w' hp=>by
    obtain ⟨a1,a2,a3,a4⟩:=HADD.out m
    obtain ⟨cv',q1,q2,q3⟩:=hp
    have hmm:ModP (Own g F X) w (W2.drewN m):=(hm2.weak (fun k _ e=>Or.inl e)).dn m
    have hall:ModP (Own g F X) w w':=hmm.andThen q2 (fun j _ hj=>a4 j hj)
    refine ⟨⟨_,q1,hall,fun k hk=>?_,by show X.qs.length ≤ _; omega,fun q hq=>Or.inl hq⟩,hall.row h0 hne.2.2.1,hall.row h1 hne.2.2.2,?_⟩
    rotate_left
    · have h6:=(fsC7 q1.blk).2.2.1
      have e6:(changeM (addF F) ⟨n,⟨#[]⟩,(F.files.length:Int)⟩).files.length=F.files.length + 1:=by unfold changeM addF; simp
      rw [e6] at h6; exact h6
    rcases q3 k hk with h5 | h5 | h5 | h5
    · exact Or.inl (a4 k h5)
    · have efb:(addX X F.files.length R).fb F.files.length=R:=if_pos rfl
      rw [efb] at h5; exact Or.inr (by omega)
    · have epv:(addX X F.files.length R).pv F.files.length=.slice none 0 0:=if_pos rfl
      rw [epv] at h5; cases h5
    · exact Or.inr (Nat.le_trans hmm.size h5)
  have HR0:Hid (W1.heap[b0]?=some (.cells #[ptr (some g)] T0)):=r0
  have HR1:Hid (W1.heap[b1]?=some (.cells #[.string n] T1)):=r1
  have d0:W1.drew.cell? ⟨b0,0,none⟩=some (.pointer (some ⟨g,0,none⟩)):=cell1 r0
  have d1:W1.drew.cell? ⟨b1,0,none⟩=some (.string n):=cell1 r1
  have d2:W1.drew.cell? ⟨g,2,none⟩=some (.int .i64 ((F.files.length + 1:Nat):Int)):=(fsC7 hg1').2.2.1
  have e0:W2.cell? ⟨b0,0,none⟩=some (.pointer (some ⟨g,0,none⟩)):=cell1 (keep_row r0 hb2)
  have e1:W2.cell? ⟨b1,0,none⟩=some (.string n):=cell1 (keep_row r1 hb2)
  have e2:W2.cell? ⟨g,2,none⟩=some (.int .i64 ((F.files.length + 1:Nat):Int)):=(fsC7 hg2).2.2.1
  have e0':W2.drew.cell? ⟨b0,0,none⟩=some (.pointer (some ⟨g,0,none⟩)):=e0
  have e1':W2.drew.cell? ⟨b1,0,none⟩=some (.string n):=e1
  rw [hnf] at d2 e2 hw1 hW1 c2
  obtain ⟨n1,hn1⟩:∃ n1,nf + 1=n1:=⟨_,rfl⟩
  rw [hn1] at d2 e2 hw1 hW1 hW2
  have e2':W2.drew.cell? ⟨g,2,none⟩=some (.int .i64 (n1:Int)):=e2
  have HN1:Hid (F.files.length + 1=n1):=by rw [hnf]; exact hn1
  clear h hs hs2 hn hl h0 h1 hne cf hg1 hg1' r0 r1 hb2 hnew hm2 hg2 hck hnz
  unfold ptr at c0 HCH
  go_enter Tryz.func124,Tryz.ntmps124
  go_upto_region 1 with fail
  go_region_held3 (fun W:World=>W.cell? ⟨b0,0,none⟩=some (.pointer (some ⟨g,0,none⟩))∧W.cell? ⟨b1,0,none⟩=some (.string n)∧W.cell? ⟨g,2,none⟩=some (.int .i64 (n1:Int)))
    (first | with_reducible exact ⟨d0,d1,d2⟩ | with_reducible exact ⟨e0,e1,e2⟩ | with_reducible exact ⟨e0',e1',e2'⟩ | with_reducible exact ⟨z0,z1,z2⟩)
    (first | (go_at_call 116; refine (show Calls _ _ _ _ _ from HCH.out 1).mono ?_; rintro e w3 ⟨rfl,hp⟩; obtain ⟨hcp,x0,x1,z2'⟩:=HFIN.out 1 w3 hp; have z0:w3.cell? ⟨b0,0,none⟩=some (.pointer (some ⟨g,0,none⟩)):=cell1 x0; have z1:=cell1 x1; have z2:w3.cell? ⟨g,2,none⟩=some (.int .i64 (n1:Int)):=(HN1.out ▸ z2')))
  go_end0
  exact ⟨rfl,hcp⟩
end Go.Proofs.YtbgbmfmgdgalbaaGreatDoor
namespace Go.Proofs.YtbgbmfmgdgalbaaGreatDoor
open Go.RowKit Go.Maps
set_option linter.unusedVariables false
set_option linter.unusedSimpArgs false
theorem create_cases {F:Fs} {n:ByteArray}:(F.down=true → createM F n=(F,203))∧(F.down=false → namedM n=false → createM F n=(F,202))∧(F.down=false → namedM n=true → (findM F.dir n < 0∧64 ≤ F.dir.length) → createM F n=(F,3))∧(F.down=false → namedM n=true → ¬ (findM F.dir n < 0∧64 ≤ F.dir.length) → ((stepM F).2.1=0 → (stepM F).1=up1 F → createM F n=(changeM (addF (up1 F)) ⟨n,⟨#[]⟩,(F.files.length:Int)⟩,0))∧((stepM F).2.1 ≠ 0 → createM F n=((stepM F).1,(stepM F).2.1))):=by
  unfold createM
  refine ⟨fun h=>by rw [h]; rfl,fun h h1=>by rw [h,h1]; rfl,fun h h1 h2=>?_,fun h h1 h2=>⟨fun a b=>?_,fun a=>?_⟩⟩
  · rw [h,h1,if_pos h2]; rfl
  · rw [h,h1,if_neg h2]
    simp only [Bool.false_eq_true,if_false,if_true]
    rw [if_pos a,b]; rfl
  · rw [h,h1,if_neg h2]
    simp only [Bool.false_eq_true,if_false,if_true]
    rw [if_neg a]
set_option maxHeartbeats 4000000 in
set_option maxRecDepth 100000 in
theorem Create_any (HGD:GoDownC) (g:Nat) (X:Gh) (F:Fs) (n:ByteArray) (hn:n.size ≤ 140737488355328) (w:World) (h:FsP w g X F) (hs:Sm F X) (hs1:F.steps < 3298534883328) (hs2:F.files.length < 3298534883328) (hpk:F.picks.length ≤ 17592186044416) :
    Calls Tryz.prog 82 #[ptr (some g),.string n] w fun e w'=>e=.returned (.int .i64 (createM F n).2)∧∃ X',Bec w g X F w' X' (createM F n).1:=by
  obtain ⟨R,hR⟩:∃ R,w.heap.size=R:=⟨_,rfl⟩
  obtain ⟨n1,n2,n3,n4⟩:=two_new (w:=w) (.cells #[.pointer (some ⟨g,0,none⟩)] 25) (.cells #[.string n] 9)
  obtain ⟨W0,hW0⟩:∃ W0,(w.alloc (.cells #[.pointer (some ⟨g,0,none⟩)] 25)).alloc (.cells #[.string n] 9)=W0:=⟨_,rfl⟩
  rw [hW0] at n1 n2 n3 n4
  rw [hR] at n1 n2 n3
  obtain ⟨W1,hW1⟩:∃ W1,W0.alloc (.cells #[.string n] 9)=W1:=⟨_,rfl⟩
  have m4:Below W0.heap.size W0 W1:=by rw [← hW1]; exact (Below.refl _ _).alloc (Nat.le_refl _) _
  have m1:W1.heap[R + 2]?=some (.cells #[.string n] 9):=by rw [← hW1,← n3]; exact one_alloc _ _
  have hb1:Below w.heap.size w W1:=bel_to n4 m4 (Nat.le_refl _)
  have hF1:FsP W1 g X F:=h.on hb1
  have HCK:Hid _:=check_any g X F (.slice (some ⟨R + 2,0,none⟩) 1 1) [n] (by simp) (fun s hs=>by simp at hs; subst hs; exact hn) W1 hF1 (Or.inr ⟨R + 2,0,1,rfl,fun j u hu=>by
    have:(psE.fl [n])=[.string n]:=rfl
    rw [this] at hu
    rw [cell_of_row _ _ _ _ _ _ m1,Nat.zero_add]; simpa using hu⟩)
  have HB1:Hid (Below w.heap.size w W1):=hb1
  have HN1:Hid (W1.heap[R]?=some (.cells #[.pointer (some ⟨g,0,none⟩)] 25)):=keep_row n1 m4
  have HN2:Hid (W1.heap[R + 1]?=some (.cells #[.string n] 9)):=keep_row n2 m4
  have HF1:Hid (FsP W1 g X F):=hF1
  have HFS:Hid (∀ W,Below w.heap.size w W → FsP W g X F):=fun W hb=>h.on hb
  have c0:=cell1 n1
  have c1:=cell1 n2
  obtain ⟨k1,k2,k3,k4⟩:=create_cases (F:=F) (n:=n)
  have hck:chkM F [n]=if F.down then 203 else if namedM n then 0 else 202:=by unfold chkM; simp
  rw [hck] at HCK
  by_cases hg:F.down=false∧namedM n=true
  · obtain ⟨hd,hnm⟩:=hg
    rw [hd,hnm] at HCK
    obtain ⟨_,_,_,c3',_⟩:=hF1.cells
    have hlk:∀ m,(Instr.lookup 70 (.map (some X.mn)) (.string n) false).run Tryz.prog (W1.drewN m)=.ok (ptr (dirF F.dir X.fb n)) (W1.drewN m):=fun m=>(hF1.now_k.to (W':=W1.drewN m) rfl).look (by unfold maxLen; omega)
    have hln:∀ m ty,(Builtin.len_ #[70] ty #[.map (some X.mn)]).run Tryz.prog (W1.drewN m)=.ok (.int .i64 (F.dir.length:Int)) (W1.drewN m):=fun m ty=>(hF1.now_k.to (W':=W1.drewN m) rfl).len ty
    have d0:=cell1 HN1.out
    have d1:=cell1 HN2.out
    by_cases hfull:findM F.dir n < 0∧64 ≤ F.dir.length
    · rw [k3 hd hnm hfull]
      have e1:dirF F.dir X.fb n=none:=if_pos hfull.1
      rw [e1] at hlk
      have hge:(64:Int) ≤ (F.dir.length:Int):=by omega
      obtain ⟨dl,hdl⟩:∃ dl,F.dir.length=dl:=⟨_,rfl⟩
      rw [hdl] at hge hln
      clear h hs hs1 hs2 hpk hd hnm hfull k1 k2 k3 k4 hck n1 n2 n4 m4 m1 hb1 hF1 e1 hdl
      unfold ptr at HCK hlk ⊢
      go_enter Tryz.func82,Tryz.ntmps82
      go_wp2_with fail
      refine (show Calls _ _ _ _ _ from HCK.out).mono ?_
      rintro e w1 ⟨rfl,rfl⟩
      clear hW0 hW1 c0 c1
      go_upto_region 4 with fail
      go_quiet (fail)
      have hbq:Below w.heap.size w (w1.drewN nq):=below_dn HB1.out _
      go_wp2
      go_returns
      exact ⟨rfl,X,(Bec.refl (HFS.out _ hbq)).pre hbq⟩
    · by_cases hf:findM F.dir n < 0
      · have hlt:¬ (64:Int) ≤ (F.dir.length:Int):=fun h9=>hfull ⟨hf,by omega⟩
        have e1:dirF F.dir X.fb n=none:=if_pos hf
        rw [e1] at hlk
        have HST:Hid (∀ W,Below w.heap.size w W → W.heap[R]?=some (.cells #[ptr (some g)] 25) → W.heap[R + 1]?=some (.cells #[.string n] 9) → Calls Tryz.prog 110 #[ptr (some g),.func (.func 124) #[] #[.pointer (some ⟨R,0,none⟩),.pointer (some ⟨R + 1,0,none⟩)]] W fun e w'=>StepP g X F W (CrP g X (up1 F) n) (fun _ w1 _ w'=>w'=w1) e w'):=fun W hb r1 r2=>step_any HGD g X F 124 eM_create #[] _ _ W (h.on hb) hs hs1 hpk (fun w1 hm hF=>by
          have hgR:g < R:=by rw [← hR]; exact row_lt h.blk
          have hno:∀ k,R ≤ k → ¬ Own g (up1 F) X k:=fun k hk ho=>by have:=h.own_lt (show Own g F X k from ho); omega
          exact Create1_any g R (R + 1) _ _ X (up1 F) n w1 hF ⟨by show F.steps + 1 ≤ _; omega,hs.fi,hs.ch,hs.qs⟩ hs2 hnm hfull (hm.fresh h r1 (by omega)) (hm.fresh h r2 (by omega)) ⟨by omega,by omega,hno R (by omega),hno (R + 1) (by omega)⟩)
        have HFN:Hid (∀ W w' e,Below w.heap.size w W → StepP g X F W (CrP g X (up1 F) n) (fun _ w1 _ w'=>w'=w1) e w' → e=.returned (.int .i64 (createM F n).2)∧∃ X',Bec w g X F w' X' (createM F n).1):=fun W w' e hb hp=>by
          refine hp.fin hb (createM F n) (fun a b=>?_) (fun a=>(k4 hd hnm hfull).2 a)
          rw [(k4 hd hnm hfull).1 a b]
          refine ⟨rfl,fun w1 hm hF hpd=>?_⟩
          obtain ⟨X',hB⟩:=hpd
          exact ⟨X',hB.is,hm.andThen hB.md (fun j _ hj=>hj),fun k hk=>(hB.own k hk).imp id (fun q=>Nat.le_trans hm.size q),hB.len,fun q hq=>(hB.nq q hq).imp id (fun h6=>h6.le hm.size)⟩

        obtain ⟨dl,hdl⟩:∃ dl,F.dir.length=dl:=⟨_,rfl⟩
        rw [hdl] at hlt hln
        clear h hs hs1 hs2 hpk hd hnm hfull hf k1 k2 k3 k4 hck n1 n2 n4 m4 m1 hb1 hF1 e1 hdl
        unfold ptr at HCK HST hlk ⊢
        go_enter Tryz.func82,Tryz.ntmps82
        go_wp2_with fail
        refine (show Calls _ _ _ _ _ from HCK.out).mono ?_
        rintro e w1 ⟨rfl,rfl⟩
        clear hW0 hW1 c0 c1
        go_upto_region 4 with fail
        go_quiet (fail)
        obtain ⟨W3,hW3⟩:∃ W3,w1.drewN nq=W3:=⟨_,rfl⟩
        have HB3:Hid (Below w.heap.size w W3):=by
          show Below _ _ _
          rw [← hW3]; exact below_dn HB1.out _
        have r1:W3.heap[R]?=some (.cells #[.pointer (some ⟨g,0,none⟩)] 25):=by rw [← hW3]; exact HN1.out
        have r2:W3.heap[R + 1]?=some (.cells #[.string n] 9):=by rw [← hW3]; exact HN2.out
        have HS3:Hid _:=HST.out W3 HB3.out r1 r2
        have x0:=cell1 r1
        rw [hW3]
        clear hW3 d0 d1 c3' hlk hln r1 r2
        go_wp2_with fail
        refine (show Calls _ _ _ _ _ from HS3.out).mono ?_
        rintro e w4 hp
        obtain ⟨he,hB⟩:=HFN.out W3 w4 e HB3.out hp
        have HBB:Hid _:=hB
        subst he
        clear hp hB
        go_wp2
        go_returns
        exact ⟨rfl,HBB.out⟩

      · have e1:dirF F.dir X.fb n=some (X.fb (findM F.dir n).toNat):=if_neg hf
        rw [e1] at hlk
        have HST:Hid (∀ W,Below w.heap.size w W → W.heap[R]?=some (.cells #[ptr (some g)] 25) → W.heap[R + 1]?=some (.cells #[.string n] 9) → Calls Tryz.prog 110 #[ptr (some g),.func (.func 124) #[] #[.pointer (some ⟨R,0,none⟩),.pointer (some ⟨R + 1,0,none⟩)]] W fun e w'=>StepP g X F W (CrP g X (up1 F) n) (fun _ w1 _ w'=>w'=w1) e w'):=fun W hb r1 r2=>step_any HGD g X F 124 eM_create #[] _ _ W (h.on hb) hs hs1 hpk (fun w1 hm hF=>by
          have hgR:g < R:=by rw [← hR]; exact row_lt h.blk
          have hno:∀ k,R ≤ k → ¬ Own g (up1 F) X k:=fun k hk ho=>by have:=h.own_lt (show Own g F X k from ho); omega
          exact Create1_any g R (R + 1) _ _ X (up1 F) n w1 hF ⟨by show F.steps + 1 ≤ _; omega,hs.fi,hs.ch,hs.qs⟩ hs2 hnm hfull (hm.fresh h r1 (by omega)) (hm.fresh h r2 (by omega)) ⟨by omega,by omega,hno R (by omega),hno (R + 1) (by omega)⟩)
        have HFN:Hid (∀ W w' e,Below w.heap.size w W → StepP g X F W (CrP g X (up1 F) n) (fun _ w1 _ w'=>w'=w1) e w' → e=.returned (.int .i64 (createM F n).2)∧∃ X',Bec w g X F w' X' (createM F n).1):=fun W w' e hb hp=>by
          refine hp.fin hb (createM F n) (fun a b=>?_) (fun a=>(k4 hd hnm hfull).2 a)
          rw [(k4 hd hnm hfull).1 a b]
          refine ⟨rfl,fun w1 hm hF hpd=>?_⟩
          obtain ⟨X',hB⟩:=hpd
          exact ⟨X',hB.is,hm.andThen hB.md (fun j _ hj=>hj),fun k hk=>(hB.own k hk).imp id (fun q=>Nat.le_trans hm.size q),hB.len,fun q hq=>(hB.nq q hq).imp id (fun h6=>h6.le hm.size)⟩

        generalize X.fb (findM F.dir n).toNat=bb at hlk
        clear h hs hs1 hs2 hpk hd hnm hfull hf k1 k2 k3 k4 hck n1 n2 n4 m4 m1 hb1 hF1 e1
        unfold ptr at HCK HST hlk ⊢
        go_enter Tryz.func82,Tryz.ntmps82
        go_wp2_with fail
        refine (show Calls _ _ _ _ _ from HCK.out).mono ?_
        rintro e w1 ⟨rfl,rfl⟩
        clear hW0 hW1 c0 c1
        go_upto_region 4 with fail
        go_quiet (fail)
        obtain ⟨W3,hW3⟩:∃ W3,w1.drewN nq=W3:=⟨_,rfl⟩
        have HB3:Hid (Below w.heap.size w W3):=by
          show Below _ _ _
          rw [← hW3]; exact below_dn HB1.out _
        have r1:W3.heap[R]?=some (.cells #[.pointer (some ⟨g,0,none⟩)] 25):=by rw [← hW3]; exact HN1.out
        have r2:W3.heap[R + 1]?=some (.cells #[.string n] 9):=by rw [← hW3]; exact HN2.out
        have HS3:Hid _:=HST.out W3 HB3.out r1 r2
        have x0:=cell1 r1
        rw [hW3]
        clear hW3 d0 d1 c3' hlk hln r1 r2
        go_wp2_with fail
        refine (show Calls _ _ _ _ _ from HS3.out).mono ?_
        rintro e w4 hp
        obtain ⟨he,hB⟩:=HFN.out W3 w4 e HB3.out hp
        have HBB:Hid _:=hB
        subst he
        clear hp hB
        go_wp2
        go_returns
        exact ⟨rfl,HBB.out⟩

  · have hM:createM F n=(F,if F.down then 203 else if namedM n then 0 else 202)∧(if F.down then (203:Int) else if namedM n then 0 else 202) ≠ 0:=by
      rcases hd:F.down with _ | _
      · rcases hnm:namedM n with _ | _
        · rw [k2 hd hnm]; exact ⟨rfl,by decide⟩
        · exact absurd ⟨hd,hnm⟩ hg
      · rw [k1 hd]; exact ⟨rfl,by simp⟩
    obtain ⟨er,her⟩:∃ er:Int,(if F.down then (203:Int) else if namedM n then 0 else 202)=er:=⟨_,rfl⟩
    rw [her] at hM HCK
    rw [hM.1]
    have hne:(er == 0)=false:=by simpa using hM.2
    clear h hs hs1 hs2 hpk hg k1 k2 k3 k4 hck n1 n2 n4 m4 m1 hb1 hF1 her hM
    unfold ptr at HCK ⊢
    go_enter Tryz.func82,Tryz.ntmps82
    go_wp2_with fail
    refine (show Calls _ _ _ _ _ from HCK.out).mono ?_
    rintro e w1 ⟨rfl,rfl⟩
    clear hW0 hW1 c0 c1
    go_wp2
    go_returns
    exact ⟨rfl,X,(Bec.refl HF1.out).pre HB1.out⟩
end Go.Proofs.YtbgbmfmgdgalbaaGreatDoor
