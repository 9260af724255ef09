import Derived.Test.YtbgbmfmgdgalbaaGreatDoorM15
namespace Go.Proofs.YtbgbmfmgdgalbaaGreatDoor
open Go.RowKit Go.Maps
set_option linter.unusedVariables false
set_option linter.unusedSimpArgs false
theorem szC:(Tryz.prog.info? 100).map (·.size)=some 3:=by kernel_rfl
theorem ldC {ops:Array Oper} {rest:List Oper} {op:Oper} {a:Act} {w:World} {Q:Exit → Act → World → Prop} (r o:Nat) (a0 a1 a2:Value) (x:Operand) (hg:op.guard=none) (ho:op.op=.load 100 x) (hx:a.eval x=.pointer (some ⟨r,o,none⟩)) (h0:w.cell? ⟨r,o,none⟩=some a0) (h1:w.cell? ⟨r,o + 1,none⟩=some a1) (h2:w.cell? ⟨r,o + 2,none⟩=some a2) (h:wpList Tryz.prog ops Q rest (a.put op.dst (.agg #[a0,a1,a2])) w):wpList Tryz.prog ops Q (op :: rest) a w:=by
  refine wpList_load_mid hg _ x ho r o hx [a0,a1,a2] _ (fun j v hv=>?_) Tryz.underlying100 rfl szC h
  rcases j with _ | _ | _ | j
  · simp at hv; subst hv; exact h0
  · simp at hv; subst hv; exact h1
  · simp at hv; subst hv; exact h2
  · simp at hv
theorem quietN {w w':World} (h:w'=w):∃ n,w'=w.drewN n:=⟨0,by rw [h]; rfl⟩
theorem dirK_succ {F:Fs} {j:Nat} (h:j < F.chg.length):dirK F (j + 1)=afterM (dirK F j) F.chg[j]:=by
  unfold dirK
  rw [List.take_add_one,List.getElem?_eq_getElem h,List.foldl_append]; rfl
theorem chgL_at {F:Fs} {X:Gh} (h:FOk F X.cf) {j:Nat} (hj:j < F.chg.length):∃ i:Nat,(chgL F X)[j]?=some (pcOf F.chg[j] (X.fb i))∧((F.chg[j]).f < 0 ∨ (F.chg[j]).f=(i:Int))∧namedM (F.chg[j]).n=true∧((F.chg[j]).t.size=0 ∨ namedM (F.chg[j]).t=true)∧((F.chg[j]).t.size ≠ 0 → (F.chg[j]).f=(i:Int))∧i ∈ X.cf:=by
  have hc:j < X.cf.length:=by rw [h.cl]; exact hj
  have hz:(F.chg.zip X.cf)[j]?=some (F.chg[j],X.cf[j]):=by rw [List.getElem?_zip_eq_some]; exact ⟨List.getElem?_eq_getElem hj,List.getElem?_eq_getElem hc⟩
  obtain ⟨h1,h2,h3,h4⟩:=h.ch _ (List.mem_of_getElem? hz)
  refine ⟨X.cf[j],?_,h1,h2,h3,h4,List.getElem_mem hc⟩
  unfold chgL
  rw [List.getElem?_map,hz]; rfl
def GD1 (W0:World) (X:Gh) (F:Fs) (j:Nat) (wr:World):Prop:=ModP (fun k=>k=X.ms) W0 wr∧∃ k,MapIs wr X.ms k (dirF (dirK F j) X.fb)
theorem GD1.next {W0 wr w':World} {X:Gh} {F:Fs} {j:Nat} {i:Nat} (h:GD1 W0 X F j wr) (ok:FOk F X.cf) (hj:j < F.chg.length) (hf:(F.chg[j]).f < 0 ∨ (F.chg[j]).f=(i:Int)) (hn:namedM (F.chg[j]).n=true) (ht:(F.chg[j]).t.size=0 ∨ namedM (F.chg[j]).t=true) (htf:(F.chg[j]).t.size ≠ 0 → (F.chg[j]).f=(i:Int)) (hm:ModP (fun k=>k=X.ms) wr w') {k':Nat} (hk:MapIs w' X.ms k' (apF (dirF (dirK F j) X.fb) (pcOf F.chg[j] (X.fb i)).n (pcOf F.chg[j] (X.fb i)).t (pcOf F.chg[j] (X.fb i)).b)):GD1 W0 X F (j + 1) w':=by
  refine ⟨h.1.trans hm,k',?_⟩
  rw [dirK_succ hj,dirF_after (ok.dirs j (by omega)) X.fb F.chg[j] i hf hn ht htf]
  exact hk
theorem GD1.size {W0 wr:World} {X:Gh} {F:Fs} {j:Nat} (h:GD1 W0 X F j wr) (ok:FOk F X.cf) (hj:j ≤ F.chg.length):MapIs wr X.ms (dirK F j).length (dirF (dirK F j) X.fb):=by
  obtain ⟨k,hk⟩:=h.2
  have:=hk.size_names (names_of (ok.dirs j hj) X.fb)
  rw [List.length_map] at this
  subst this; exact hk
def dnF (F:Fs) (p:List Int) (i:Nat):Fi:=cutF (F.files.getD i ⟨⟨#[]⟩,0⟩) (pickM p (i + 1) ((F.files.getD i ⟨⟨#[]⟩,0⟩).d.size - (F.files.getD i ⟨⟨#[]⟩,0⟩).s))
structure GD2 (Wb:World) (X:Gh) (F:Fs) (d:List Sl) (p:List Int) (r:Nat) (left:Lit → Bool) (pvf:Nat → Value) (psf:Nat → List ByteArray) (wr:World):Prop where
  md:ModP (fun q=>q=r ∨ ∃ x ∈ d,q=X.fb x.2.toNat) Wb wr
  fl:∀ x ∈ d,FileAt wr (X.fb x.2.toNat) x.2.toNat (if left (.string x.1.data.toList) then F.files.getD x.2.toNat ⟨⟨#[]⟩,0⟩ else dnF F p x.2.toNat) (pvf x.2.toNat) (psf x.2.toNat)
  lc:∀ x ∈ d,pvf x.2.toNat=X.pv x.2.toNat ∨ ∀ k,(pvf x.2.toNat).ownBlock=some k → (X.pv x.2.toNat).ownBlock=some k ∨ Wb.heap.size ≤ k
  sep:∀ x ∈ d,∀ y ∈ d,x ≠ y → ∀ k,(pvf x.2.toNat).ownBlock=some k → (pvf y.2.toNat).ownBlock ≠ some k
theorem GD2.keep {Wb wr w':World} {X:Gh} {F:Fs} {d:List Sl} {N:Nat} {p:List Int} {r:Nat} {left:Lit → Bool} {pvf:Nat → Value} {psf:Nat → List ByteArray} (h:GD2 Wb X F d p r left pvf psf wr) (hd:DOk d N) (hinj:∀ x ∈ d,∀ y ∈ d,x ≠ y → X.fb x.2.toNat ≠ X.fb y.2.toNat) {x:Sl} (hx:x ∈ d) {pv':Value} {ps':List ByteArray} (hf:FileAt w' (X.fb x.2.toNat) x.2.toNat (dnF F p x.2.toNat) pv' ps') (hm:ModP (fun q=>q=X.fb x.2.toNat) wr w') (hl:Loc wr (pvf x.2.toNat) pv') :
    GD2 Wb X F d p r (fun z=>left z && !z.sameKey (.string x.1.data.toList)) (fun i=>if i=x.2.toNat then pv' else pvf i) (fun i=>if i=x.2.toNat then ps' else psf i) w':=by
  have hne:∀ y ∈ d,y ≠ x → y.2.toNat ≠ x.2.toNat:=fun y hy hyx e=>by
    have h1:=hd.ge y hy
    have h2:=hd.ge x hx
    exact pair_ne hd.uni hy hx hyx (by omega)
  have hnm:∀ y ∈ d,y ≠ x → y.1 ≠ x.1:=fun y hy hyx e=>by
    have h1:=findM_in hd.rise hy
    have h2:=findM_in hd.rise hx
    rw [e,h2] at h1
    exact hyx (Prod.ext e h1.symm)
  refine ⟨h.md.trans (hm.weak (fun q _ e=>Or.inr ⟨x,hx,e⟩)),fun y hy=>?_,fun y hy=>?_,fun y hy z hz hyz=>?_⟩
  · by_cases e:y=x
    · subst e
      simp only [if_true]
      have:(left (.string y.1.data.toList) && !(Lit.string y.1.data.toList).sameKey (.string y.1.data.toList))=false:=by simp [Lit.sameKey]
      rw [this]
      simpa using hf
    · rw [if_neg (hne y hy e),if_neg (hne y hy e)]
      have hk:(Lit.string y.1.data.toList).sameKey (.string x.1.data.toList)=false:=sameKey_ne (key_ne (hnm y hy e))
      rw [hk]
      simp only [Bool.not_false,Bool.and_true]
      have hfy:=h.fl y hy
      refine hfy.to (hm.oth _ (row_lt hfy.blk) (hinj y hy x hx e)) (fun k hk'=>hm.oth k (own_lt hfy.own hk') (fun e2=>?_))
      subst e2
      have hfx:=h.fl x hx
      obtain ⟨cur,hc⟩:=own_type hfy.own hk'
      have:=hc.symm.trans hfx.blk
      injection this with this
      injection this with _ h3
      exact absurd h3 (by decide)
  · by_cases e:y=x
    · subst e
      rw [if_pos rfl]
      right
      intro k hk
      rcases hl with h1 | h1
      · rw [h1] at hk
        rcases h.lc y hy with h2 | h2
        · rw [h2] at hk; exact Or.inl hk
        · exact h2 k hk
      · exact Or.inr (Nat.le_trans h.md.size (h1 k hk))
    · rw [if_neg (hne y hy e)]; exact h.lc y hy
  · intro k hk hk2
    by_cases e1:y=x
    · subst e1
      have e2:z ≠ y:=Ne.symm hyz
      rw [if_pos rfl] at hk
      rw [if_neg (hne z hz e2)] at hk2
      rcases hl with h1 | h1
      · rw [h1] at hk; exact h.sep y hy z hz hyz k hk hk2
      · have:=h1 k hk
        have:=own_lt (h.fl z hz).own hk2
        omega
    · rw [if_neg (hne y hy e1)] at hk
      by_cases e2:z=x
      · subst e2
        rw [if_pos rfl] at hk2
        rcases hl with h1 | h1
        · rw [h1] at hk2; exact h.sep y hy z hz hyz k hk hk2
        · have:=h1 k hk2
          have:=own_lt (h.fl y hy).own hk
          omega
      · rw [if_neg (hne z hz e2)] at hk2; exact h.sep y hy z hz hyz k hk hk2
theorem GD2.iter {Wb wr w':World} {X:Gh} {F:Fs} {d:List Sl} {p:List Int} {r:Nat} {left:Lit → Bool} {pvf:Nat → Value} {psf:Nat → List ByteArray} (h:GD2 Wb X F d p r left pvf psf wr) (hg:wr.grownBy w' (some r)) (hr:∃ a b c e,wr.heap[r]?=some (.mapIter a b c e)):GD2 Wb X F d p r left pvf psf w':=by
  obtain ⟨ia,ib,ic,ie,hr⟩:=hr
  refine ⟨h.md.trans (ModP.grown hg (fun b hb=>by cases hb; exact Or.inl rfl)),fun x hx=>?_,h.lc,h.sep⟩
  have hf:=h.fl x hx
  refine hf.to (hg.block _ (row_lt hf.blk) (fun e=>?_)) (fun k hk=>hg.block k (own_lt hf.own hk) (fun e=>?_))
  · injection e with e
    have:=hf.blk
    rw [e,hr] at this; cases this
  · injection e with e
    obtain ⟨cur,hc⟩:=own_type hf.own hk
    rw [e,hr] at hc; cases hc
theorem dirK_live {F:Fs} {X:Gh} (h:FOk F X.cf):∀ j,j ≤ F.chg.length → ∀ x ∈ dirK F j,Live F X x.2.toNat
  | 0,_,x,hx=>by
    have h1:x ∈ F.sure:=hx
    have:=h.sure.ge x h1
    exact Or.inr (Or.inl ⟨x,h1,by omega⟩)
  | j + 1,hj,x,hx=>by
    rw [dirK_succ (by omega:j < F.chg.length)] at hx
    rcases after_mem (h.dirs j (by omega)) hx with h1 | ⟨h1,h2⟩
    · exact dirK_live h j (by omega) x h1
    · obtain ⟨i,_,hf,_,_,_,hi⟩:=chgL_at (X:=X) h (by omega:j < F.chg.length)
      rcases hf with h3 | h3
      · exact absurd h3 h2
      · have:x.2.toNat=i:=by omega
        rw [this]; exact Or.inr (Or.inr hi)
theorem files_down (p:List Int):∀ (l:List Fi) (s i:Nat),(downF p s l)[i]?=(l[i]?).map fun x=>cutF x (pickM p (s + i + 1) (x.d.size - x.s))
  | [],s,i=>by simp [downF]
  | x :: l,s,0=>by simp [downF]
  | x :: l,s,i + 1=>by
    simp only [downF,List.getElem?_cons_succ]
    rw [files_down p l (s + 1) i]
    congr 1
    funext y
    rw [show s + 1 + i + 1=s + (i + 1) + 1 by omega]
theorem down_len (p:List Int):∀ (l:List Fi) (s:Nat),(downF p s l).length=l.length
  | [],_=>rfl
  | x :: l,s=>by simp [downF,down_len p l (s + 1)]
theorem GD2.fin {w Wb wr w':World} {g:Nat} {X:Gh} {F:Fs} {p:List Int} {j r mb kk:Nat} {left:Lit → Bool} {pvf:Nat → Value} {psf:Nat → List ByteArray} (h:FsC w g X F) (hj:j=pickM p 0 F.chg.length) (hjn:j ≤ F.chg.length) (hwb:ModP (fun q=>q=X.ms) w Wb) (hgd:GD2 Wb X F (dirK F j) p r left pvf psf wr) (hr:w.heap.size ≤ r) (hleft:∀ kl,left kl=false) (hms:MapIs wr X.ms kk (dirF (dirK F j) X.fb)) (hb:w'.heap[g]?=some (.cells #[.bool true,.int .i64 (F.steps:Int),.int .i64 (F.files.length:Int),.map (some mb),.map (some X.ms),.slice none 0 0,.slice none 0 0] 74)) (hmb:MapIs w' mb kk (dirF (dirK F j) X.fb)) (hmn:wr.heap.size ≤ mb) (hm:ModP (fun q=>q=g) wr w') :
    ∃ X',Bec w g X F w' X' (downM F p):=by
  have hd:=h.ok.dirs j hjn
  have hlive:=dirK_live (X:=X) h.ok j hjn
  have hdm:downM F p=⟨true,F.steps,downF p 0 F.files,dirK F j,dirK F j,[],[],0,[]⟩:=by
    unfold downM dirK
    rw [hj]
  rw [hdm]
  obtain ⟨n1,n2,n3,n4,n5⟩:=h.ne_g
  have hgms:g ≠ X.ms:=fun e=>n2 e.symm
  have hbw:=hwb.size
  have hL:∀ i,Live (⟨true,F.steps,downF p 0 F.files,dirK F j,dirK F j,[],[],0,[]⟩:Fs) { X with mn:=mb,pv:=pvf,ps:=psf,cv:=.slice none 0 0,cf:=[],qv:=.slice none 0 0,qs:=[] } i → ∃ x ∈ dirK F j,x.2=(i:Int):=fun i hi=>by
    rcases hi with hi | hi | hi
    · exact hi
    · exact hi
    · cases hi
  have hfile:∀ i:Nat,(∃ x ∈ dirK F j,x.2=(i:Int)) → FileAt w' (X.fb i) i (dnF F p i) (pvf i) (psf i):=fun i hi=>by
    obtain ⟨x,hx,e⟩:=hi
    have e2:x.2.toNat=i:=by omega
    have hf:=hgd.fl x hx
    rw [hleft,if_neg (by simp),e2] at hf
    have hl:=hlive x hx
    rw [e2] at hl
    refine hf.to (hm.oth _ (row_lt hf.blk) (n3 i hl).1) (fun k hk=>hm.oth k (own_lt hf.own hk) (fun e3=>?_))
    subst e3
    rcases hgd.lc x hx with h1 | h1
    · rw [e2] at h1; rw [h1] at hk; exact (n3 i hl).2 k hk rfl
    · rw [e2] at h1
      rcases h1 k hk with h2 | h2
      · exact (n3 i hl).2 k h2 rfl
      · have:=row_lt h.blk; omega
  refine ⟨{ X with mn:=mb,pv:=pvf,ps:=psf,cv:=.slice none 0 0,cf:=[],qv:=.slice none 0 0,qs:=[] },⟨⟨⟨fun k hk=>?_,rfl,rfl,(fun i hi=>by cases hi),(fun x hx=>by cases hx)⟩,?_,⟨kk,hmb⟩,⟨kk,hms.to (hm.oth _ hms.lt (fun e=>hgms e.symm))⟩,?_,⟨rfl,Or.inl ⟨rfl,rfl⟩⟩,Or.inl ⟨rfl,rfl⟩,fun i x hl hx=>?_,fun i1 i2 h1 h2 hne=>?_⟩,⟨List.Pairwise.nil,(fun q hq=>by cases hq),(fun n p' _ hf=>by simp [failM] at hf),(fun n hn hc=>by have hc':(0:Int)=(n:Int):=hc; have hn':F.steps < n:=hn; omega)⟩,(fun q hq=>by cases hq)⟩,?_,fun k hk=>?_,by simp,fun q hq=>by cases hq⟩
  · have e:dirK (⟨true,F.steps,downF p 0 F.files,dirK F j,dirK F j,[],[],0,[]⟩:Fs) k=dirK F j:=by
      show (([]:List Ch).take k).foldl afterM (dirK F j)=_
      simp
    rw [e]
    show DOk _ (downF p 0 F.files).length
    rw [down_len]; exact hd
  · show w'.heap[g]?=some (.cells #[.bool true,.int .i64 (F.steps:Int),.int .i64 ((downF p 0 F.files).length:Int),_,_,_,_] _)
    rw [down_len]; exact hb
  · show mb ≠ X.ms
    have:=hms.lt; omega
  · have hlx:=hL i hl
    have hx':(downF p 0 F.files)[i]?=some x:=hx
    rw [files_down] at hx'
    have hi:i < F.files.length:=by
      obtain ⟨y,hy,e⟩:=hlx
      have:=hd.lt y hy; omega
    rw [List.getElem?_eq_getElem hi] at hx'
    simp only [Option.map_some,Option.some.injEq,Nat.zero_add] at hx'
    have e2:dnF F p i=x:=by
      unfold dnF
      rw [List.getD_eq_getElem?_getD,List.getElem?_eq_getElem hi]
      exact hx'
    rw [← e2]
    exact hfile i hlx
  · obtain ⟨x1,hx1,e1⟩:=hL i1 h1
    obtain ⟨x2,hx2,e2⟩:=hL i2 h2
    have f1:x1.2.toNat=i1:=by omega
    have f2:x2.2.toNat=i2:=by omega
    have l1:=hlive x1 hx1
    have l2:=hlive x2 hx2
    rw [f1] at l1
    rw [f2] at l2
    refine ⟨(h.inj i1 i2 l1 l2 hne).1,fun k hk hk2=>?_⟩
    refine hgd.sep x1 hx1 x2 hx2 (fun e=>hne (by rw [← f1,← f2,e])) k (by rw [f1]; exact hk) (by rw [f2]; exact hk2)
  · have m1:ModP (Own g F X) w Wb:=hwb.weak (fun k _ e=>Or.inr (Or.inr (Or.inl e)))
    refine (m1.andThen hgd.md (fun q hq hs=>?_)).andThen hm (fun q _ e=>Or.inl e)
    rcases hs with e | ⟨x,hx,e⟩
    · omega
    · rw [e]; exact own_file (hlive x hx)
  · rcases hk with rfl | rfl | rfl | ⟨i,hl,hk⟩ | hk | hk
    · exact Or.inl (Or.inl rfl)
    · exact Or.inr (Nat.le_trans (Nat.le_trans hbw hgd.md.size) hmn)
    · exact Or.inl (Or.inr (Or.inr (Or.inl rfl)))
    · obtain ⟨x,hx,e⟩:=hL i hl
      have f1:x.2.toNat=i:=by omega
      have l1:=hlive x hx
      rw [f1] at l1
      rcases hk with hk | hk
      · exact Or.inl (by rw [hk]; exact own_file l1)
      · have hk':(pvf i).ownBlock=some k:=hk
        rcases hgd.lc x hx with h1 | h1
        · rw [f1] at h1; rw [h1] at hk'; exact Or.inl (Or.inr (Or.inr (Or.inr (Or.inl ⟨i,l1,Or.inr hk'⟩))))
        · rw [f1] at h1
          rcases h1 k hk' with h2 | h2
          · exact Or.inl (Or.inr (Or.inr (Or.inr (Or.inl ⟨i,l1,Or.inr h2⟩))))
          · exact Or.inr (Nat.le_trans hbw h2)
    · cases hk
    · cases hk
end Go.Proofs.YtbgbmfmgdgalbaaGreatDoor
namespace Go.Proofs.YtbgbmfmgdgalbaaGreatDoor
open Go.RowKit Go.Maps
set_option linter.unusedVariables false
set_option linter.unusedSimpArgs false
set_option maxHeartbeats 8000000 in
set_option maxRecDepth 100000 in
theorem goDown_any (g:Nat) (X:Gh) (F:Fs) (v:Value) (p:List Int) (w:World) (h:FsC w g X F) (hs:Sm F X) (hp:p.length ≤ 17592186044416) (hv:Pks w (Own g F X) v p):Calls Tryz.prog 41 #[ptr (some g),v] w fun e w'=>e=.returned (.tuple #[])∧∃ X',Bec w g X F w' X' (downM F p):=by
  obtain ⟨P,c,rfl⟩:=hv.form
  obtain ⟨R,hR⟩:∃ R,w.heap.size=R:=⟨_,rfl⟩
  obtain ⟨W0,hW0⟩:∃ W0,w.alloc (.cells #[.slice P p.length c] 44)=W0:=⟨_,rfl⟩
  have n1:W0.heap[R]?=some (.cells #[.slice P p.length c] 44):=by rw [← hW0,← hR]; exact one_alloc _ _
  have n4:Below w.heap.size w W0:=by rw [← hW0]; exact (Below.refl _ _).alloc (Nat.le_refl _) _
  have hF0:FsC W0 g X F:=h.on n4
  have hv0:Pks W0 (Own g F X) (.slice P p.length c) p:=hv.on n4
  obtain ⟨_,_,_,_,c4,c5,_,_⟩:=hF0.cells
  obtain ⟨Q,cc,hcv⟩:=own_form hF0.chg
  rw [hcv] at c5
  have hch:=hs.ch
  obtain ⟨nc,hnc⟩:∃ nc,F.chg.length=nc:=⟨_,rfl⟩
  obtain ⟨k,hk⟩:∃ k,pickM p 0 nc=k:=⟨_,rfl⟩
  have hkn:k ≤ nc:=by rw [← hk]; exact pkM_le p 0 nc
  have HPK:Hid (∀ m,Calls Tryz.prog 84 #[.int .i64 0,.int .i64 (nc:Int),.pointer (some ⟨R,0,none⟩)] (W0.drewN m) fun e w'=>e=.returned (.int .i64 (k:Int))∧∃ n,w'=(W0.drewN m).drewN n):=fun m=>by
    have:=gpick_any (.slice P p.length c) p 0 nc R (by omega) (by omega) (W0.drewN m) n1 (hv0.kr.on (below_dn (Below.refl _ _) m))
    rw [hk] at this
    exact this.mono fun e w' hh=>⟨hh.1,quietN hh.2⟩
  have eG:∀ args w,(callFunc 84 args).run Tryz.prog w=.ok (.enter 84 args) w:=fun args w=>by kernel_rfl
  rw [hnc] at c5
  have hcap:nc ≤ cc:=by
    have:=hF0.chg
    rw [hcv,hnc] at this
    rcases this.2 with ⟨e1,e2⟩ | ⟨g',cap,cur,e1,_,_,e3,_⟩
    · injection e1 with _ _ e3; omega
    · injection e1 with _ _ e4; omega
  have HF0:Hid (FsC W0 g X F):=hF0
  have HV0:Hid (Pks W0 (Own g F X) (.slice P p.length c) p):=hv0
  have HB0:Hid (Below w.heap.size w W0):=n4
  have HN1:Hid (W0.heap[R]?=some (.cells #[.slice P p.length c] 44)):=n1
  have HCV:Hid (X.cv=.slice Q nc cc):=by rw [hcv,hnc]; exact rfl
  have HNC:Hid (F.chg.length=nc):=hnc
  have HK:Hid (pickM p 0 nc=k):=hk
  have HRR:Hid (w.heap.size=R):=hR
  have HH:Hid (FsC w g X F):=h
  have HS:Hid (Sm F X):=hs
  have hz0:(0:Int) ≤ (k:Int):=by omega
  have hz1:(k:Int) ≤ (cc:Int):=by omega
  clear h hs hv n1 n4 hF0 hv0 hcv hnc hk hch
  show Calls Tryz.prog 41 #[.pointer (some ⟨g,0,none⟩),.slice P p.length c] w _
  go_enter Tryz.func41,Tryz.ntmps41
  go_upto_region 2 with fail
  go_quiet ((go_at_call 84; exact Calls.quiet_of (HPK.out _)))
  obtain ⟨Wq,hWq⟩:∃ Wq,W0.drewN nq=Wq:=⟨_,rfl⟩
  have HFq:Hid (FsC Wq g X F):=by
    show FsC _ _ _ _
    rw [← hWq]; exact HF0.out.on (below_dn (Below.refl _ _) _)
  have HNq:Hid (Wq.heap[R]?=some (.cells #[.slice P p.length c] 44)):=by
    show Wq.heap[R]?=_
    rw [← hWq]; exact HN1.out
  have HVq:Hid (Pks Wq (Own g F X) (.slice P p.length c) p):=by
    show Pks _ _ _ _
    rw [← hWq]; exact HV0.out.on (below_dn (Below.refl _ _) _)
  have HBq:Hid (Below w.heap.size w Wq):=by
    show Below _ _ _
    rw [← hWq]; exact below_dn HB0.out _
  rw [hWq]
  clear hWq c4 c5 hW0 HF0 HN1 HV0 HPK
  go_wp2
  go_loopw [23] (fun ci wr=>∃ j:Nat,j ≤ k∧ci=.int .i64 (j:Int)∧GD1 Wq X F j wr) (fun ci _=>k - (intOf ci).toNat)
  case atStart=>exact ⟨0,by omega,rfl,ModP.refl _ _,HFq.out.safe⟩
  case round =>
    obtain ⟨j,hjk,rfl,hgd⟩:=hrel
    have HGD1:Hid (GD1 Wq X F j wr):=hgd
    have hmd:=hgd.1
    have hgms:g ≠ X.ms:=fun e=>HFq.out.ne_g.2.1 e.symm
    have hgr:=hmd.row HFq.out.blk hgms
    clear hgd
    by_cases hlt:j < k
    · have hjn:j < F.chg.length:=by rw [HNC.out]; omega
      obtain ⟨i,hat,qf,qn,qt,qtf,_⟩:=chgL_at HFq.out.ok hjn
      obtain ⟨pc,hpc⟩:∃ pc,pcOf F.chg[j] (X.fb i)=pc:=⟨_,rfl⟩
      have hlen:(chgL F X).length=F.chg.length:=by unfold chgL; rw [List.length_map,List.length_zip,HFq.out.ok.cl]; omega
      have hrow:wr.ownsRow 0 100 3 (.slice Q nc cc) (chgL F X).length (pgE.fl (chgL F X)):=by
        rw [hlen,← HCV.out]
        refine own_to HFq.out.chg (fun q hq=>?_)
        obtain ⟨cur,hc⟩:=own_type HFq.out.chg hq
        exact hmd.oth q (row_lt hc) (fun e=>HFq.out.safe_k.ne hc e.symm)
      have hjl:j < (chgL F X).length:=by rw [hlen]; exact hjn
      obtain ⟨E,o,c',he,hcell⟩:=(KR.own (E:=pgE) hrow rfl).cell pgOk hjl
      have he1:Q=some ⟨E,o,none⟩:=congrArg (fun x:Value=>match x with | .slice a _ _=>a | _=>none) he
      subst he1
      have hel:(chgL F X)[j]=pc:=by
        have:=hat
        rw [List.getElem?_eq_getElem hjl] at this
        injection this with this
        rw [this,hpc]
      rw [hel] at hcell
      have x0:wr.cell? ⟨E,o + j * 3,none⟩=some (.string pc.n):=hcell 0 _ rfl
      have x1:wr.cell? ⟨E,o + j * 3 + 1,none⟩=some (.string pc.t):=hcell 1 _ rfl
      have x2:wr.cell? ⟨E,o + j * 3 + 2,none⟩=some (ptr (some pc.b)):=hcell 2 _ rfl
      have hz2:(0:Int) ≤ (j:Int):=by omega
      have hz3:(j:Int) < (k:Int):=by omega
      have hncb:F.chg.length ≤ 3298534883328:=HS.out.ch
      have hiw:IntKind.i64.wrap ((j:Int) + 1)=(j:Int) + 1:=by rw [IntKind.wrap_i64] <;> omega
      have hpsz:pc.n.size ≤ 64∧pc.t.size ≤ 64:=by
        have hnn:=named_size qn
        rw [← hpc]
        unfold pcOf
        split
        · split
          · exact ⟨hnn.2,Nat.zero_le _⟩
          · exact ⟨Nat.zero_le _,hnn.2⟩
        · rename_i h0
          refine ⟨hnn.2,?_⟩
          rcases qt with h1 | h1
          · exact absurd h1 h0
          · exact (named_size h1).2
      have hMs:=HGD1.out.size HFq.out.ok (by omega:j ≤ F.chg.length)
      have hfew:=(HFq.out.ok.dirs j (by omega)).few
      obtain ⟨V,hV⟩:∃ V,wr.heap.size=V:=⟨_,rfl⟩
      obtain ⟨W2,hW2⟩:∃ W2,wr.alloc (.cells #[.string pc.n,.string pc.t,ptr (some pc.b)] 100)=W2:=⟨_,rfl⟩
      have hb2:Below wr.heap.size wr W2:=by rw [← hW2]; exact (Below.refl _ _).alloc (Nat.le_refl _) _
      have hv2:W2.heap[V]?=some (.cells #[.string pc.n,.string pc.t,ptr (some pc.b)] 100):=by rw [← hW2,← hV]; exact one_alloc _ _
      have hg2:=(hb2.block g (row_lt hgr)).trans hgr
      have HAP:Hid (∀ m,Calls Tryz.prog 85 #[.map (some X.ms),.agg #[.string pc.n,.string pc.t,ptr (some pc.b)]] (W2.drewN m) fun e w'=>e=.returned (.tuple #[])∧ModP (fun q=>q=X.ms) (W2.drewN m) w'∧∃ k',k' ≤ (dirK F j).length + 1∧MapIs w' X.ms k' (apF (dirF (dirK F j) X.fb) pc.n pc.t pc.b)):=fun m=>apply_any X.ms (dirK F j).length _ pc.n pc.t pc.b (by omega) (by omega) (by omega) (W2.drewN m) (hMs.to (hb2.block _ hMs.lt))
      have HNEXT:Hid (∀ m w',ModP (fun q=>q=X.ms) (W2.drewN m) w' → (∃ k',k' ≤ (dirK F j).length + 1∧MapIs w' X.ms k' (apF (dirF (dirK F j) X.fb) pc.n pc.t pc.b)) → GD1 Wq X F (j + 1) w'):=fun m w' hm hk'=>by
        obtain ⟨k',_,hk'⟩:=hk'
        refine HGD1.out.next HFq.out.ok hjn qf qn qt qtf ?_ (by rw [hpc]; exact hk')
        exact (ModP.below hb2).trans ⟨hm.os,hm.tape,hm.output,hm.size,hm.oth⟩
      have HMS2:Hid (MapIs W2 X.ms (dirK F j).length (dirF (dirK F j) X.fb)):=hMs.to (hb2.block _ hMs.lt)
      have y0:W2.drew.cell? ⟨V,0,none⟩=some (.string pc.n):=(row3 hv2).1
      have y1:W2.drew.cell? ⟨V,1,none⟩=some (.string pc.t):=(row3 hv2).2.1
      have y2:W2.drew.cell? ⟨V,2,none⟩=some (.pointer (some ⟨pc.b,0,none⟩)):=(row3 hv2).2.2.1
      have y3:W2.drew.cell? ⟨g,4,none⟩=some (.map (some X.ms)):=(fsC7 hg2).2.2.2.2.1
      have HV2:Hid (W2.heap[V]?=some (.cells #[.string pc.n,.string pc.t,ptr (some pc.b)] 100)):=hv2
      have HG2:Hid _:=hg2
      have HGM:Hid (g ≠ X.ms):=hgms
      have hW2':wr.alloc (.cells #[.string pc.n,.string pc.t,.pointer (some ⟨pc.b,0,none⟩)] 100)=W2:=hW2
      clear hat qf qn qt qtf hlen hrow hjl hel hcell hpsz hMs hfew hb2 hv2 hg2 hmd hgr he hgms hW2 hpc
      generalize pc.n=pn at *
      generalize pc.t=pt at *
      generalize pc.b=pb at *
      unfold ptr at x2 HAP
      go_upto_region 5 with (refine ldC E (o + j * 3) (.string pn) (.string pt) (.pointer (some ⟨pb,0,none⟩)) _ rfl rfl rfl x0 x1 x2 ?_)
      have hVg:V ≠ X.ms:=fun e=>by
        have:=HMS2.out.ne HV2.out
        exact this e.symm
      have HVG:Hid (V ≠ X.ms):=hVg
      clear hVg x0 x1 x2 hW2'
      go_region_held3 (fun W:World=>W.cell? ⟨V,0,none⟩=some (.string pn)∧W.cell? ⟨V,1,none⟩=some (.string pt)∧W.cell? ⟨V,2,none⟩=some (.pointer (some ⟨pb,0,none⟩))∧W.cell? ⟨g,4,none⟩=some (.map (some X.ms)))
        (first | with_reducible exact ⟨y0,y1,y2,y3⟩ | with_reducible exact ⟨q0,q1,q2,q3⟩)
        (first
          | (go_at_call 85; refine (show Calls _ _ _ _ _ from HAP.out 1).mono ?_; rintro e w4 ⟨rfl,hm4,hk4⟩; obtain ⟨q0,q1,q2x,_⟩:=row3 (hm4.row (k:=V) HV2.out HVG.out); have q2:w4.cell? ⟨V,2,none⟩=some (.pointer (some ⟨pb,0,none⟩)):=q2x; obtain ⟨_,_,_,_,q3,_,_,_⟩:=fsC7 (hm4.row (k:=g) HG2.out HGM.out)))
      have HN4:Hid (GD1 Wq X F (j + 1) w4):=HNEXT.out 1 w4 hm4 hk4
      clear hm4 hk4 q0 q1 q2 q2x q3 y0 y1 y2 y3
      go_wp2
      go_roundw
      case rel=>exact ⟨j + 1,hlt,rfl,HN4.out⟩
      case measure=>simp [intOf]; omega
    · have hjk':j=k:=by omega
      subst hjk'
      clear hlt
      obtain ⟨Wb,hWb⟩:∃ Wb,Wb=wr:=⟨_,rfl⟩
      subst hWb
      obtain ⟨_,_,_,_,g4,_,_,gfx⟩:=fsC7 hgr
      have hjn:j ≤ F.chg.length:=by rw [HNC.out]; exact hkn
      have hMs:=HGD1.out.size HFq.out.ok hjn
      have hdok:=HFq.out.ok.dirs j hjn
      have hlive:=dirK_live (X:=X) HFq.out.ok j hjn
      have hfl:∀ x ∈ dirK F j,FileAt Wb (X.fb x.2.toNat) x.2.toNat (F.files.getD x.2.toNat ⟨⟨#[]⟩,0⟩) (X.pv x.2.toNat) (X.ps x.2.toNat):=fun x hx=>by
        have hf:=HFq.out.file (hlive x hx)
        refine hf.to (hmd.oth _ (row_lt hf.blk) (fun e=>HFq.out.safe_k.ne hf.blk e.symm)) (fun q hq=>hmd.oth q (own_lt hf.own hq) (fun e=>?_))
        obtain ⟨cur,hc⟩:=own_type hf.own hq
        exact HFq.out.safe_k.ne hc e.symm
      have HINJ:Hid (∀ x ∈ dirK F j,∀ y ∈ dirK F j,x ≠ y → X.fb x.2.toNat ≠ X.fb y.2.toNat):=fun x hx y hy hne=>(HFq.out.inj _ _ (hlive x hx) (hlive y hy) (fun e=>pair_ne hdok.uni hx hy hne (by have:=hdok.ge x hx; have:=hdok.ge y hy; omega))).1
      have HSEP:Hid (∀ x ∈ dirK F j,∀ y ∈ dirK F j,x ≠ y → ∀ k,(X.pv x.2.toNat).ownBlock=some k → (X.pv y.2.toNat).ownBlock ≠ some k):=fun x hx y hy hne=>(HFq.out.inj _ _ (hlive x hx) (hlive y hy) (fun e=>pair_ne hdok.uni hx hy hne (by have:=hdok.ge x hx; have:=hdok.ge y hy; omega))).2
      have HMD:Hid (ModP (fun q=>q=X.ms) Wq Wb):=hmd
      have HFL:Hid (∀ x ∈ dirK F j,FileAt Wb (X.fb x.2.toNat) x.2.toNat (F.files.getD x.2.toNat ⟨⟨#[]⟩,0⟩) (X.pv x.2.toNat) (X.ps x.2.toNat)):=hfl
      have HDK:Hid (DOk (dirK F j) F.files.length):=hdok
      have HGR:Hid _:=hgr
      have HNR:Hid (Wb.heap[R]?=some (.cells #[.slice P p.length c] 44)):=hmd.row HNq.out (fun e=>HFq.out.safe_k.ne HNq.out e.symm)
      have HVR:Hid (Pks Wb (Own g F X) (.slice P p.length c) p):=HVq.out.keep (fun q hq hn=>hmd.oth q hq (fun e=>hn (Or.inr (Or.inr (Or.inl e)))))
      have HNO:Hid (∀ z ∈ dirK F j,Own g F X (X.fb z.2.toNat)):=fun z hz=>Or.inr (Or.inr (Or.inr (Or.inl ⟨_,hlive z hz,Or.inl rfl⟩)))
      obtain ⟨D0,hown,hDI⟩:=hMs
      have HDI:Hid (DIs D0 (dirK F j).length (dirF (dirK F j) X.fb)):=hDI
      have HWS:Hid (w.heap.size ≤ Wb.heap.size):=by have:=HBq.out.size; have:=hmd.size; show _ ≤ _; omega
      have HGS:Hid (g < Wb.heap.size∧R < Wb.heap.size∧X.ms < Wb.heap.size):=⟨row_lt hgr,row_lt HNR.out,hown.lt⟩
      clear hmd hgr hdok hlive hfl hDI
      go_wp2_with (first
        | (at_range; refine wpList_range_own _ rfl _ 70 rfl 9 83 lawK Tryz.underlying70 _ X.ms (dirK F j).length _ rfl hown ?_; intro w0 hrg0 hg0 hs0)
        | go_in)
      go_frame
      go_loopw [8] (fun _ wi=>∃ left cnt pvf psf,wi.ranges Tryz.prog 9 ptrElem X.ms Wb.heap.size (dirK F j).length D0 left cnt∧GD2 Wb X F (dirK F j) p Wb.heap.size left pvf psf wi) (fun _ wi=>wi.rangeLeft X.ms Wb.heap.size)
      case atStart =>
        refine ⟨_,_,X.pv,X.ps,hrg0,ModP.grown hg0 (fun b hb=>by cases hb),fun x hx=>?_,fun x _=>Or.inl rfl,HSEP.out⟩
        have h1:Maps.has D0 (.string x.1.data.toList)=true:=by
          rw [HDI.out.has]
          exact ((names_of HDK.out X.fb).mem x.1).1 (List.mem_map.2 ⟨x,hx,rfl⟩)
        rw [h1]
        simp only [if_true]
        have hf:=HFL.out x hx
        exact hf.to (hg0.block _ (row_lt hf.blk) (by simp)) (fun q hq=>hg0.block q (own_lt hf.own hq) (by simp))
      case round =>
        obtain ⟨left,cnt,pvf,psf,hrg,hgd⟩:=hrel
        have HGD:Hid (GD2 Wb X F (dirK F j) p Wb.heap.size left pvf psf wr):=hgd
        have HRG:Hid (wr.ranges Tryz.prog 9 ptrElem X.ms Wb.heap.size (dirK F j).length D0 left cnt):=hrg
        clear hrg0 hg0 hs0 hown g4 gfx
        go_wp2_with (first
          | (at_next; refine wpList_next_ranges _ rfl _ rfl 9 lawK ptrElem encStr ptr (fun key kl hk=>by obtain ⟨x,hx,_⟩:=Maps.keyOf_str Tryz.underlying9 hk; exact ⟨x,hx⟩) ptrElem_shape X.ms Wb.heap.size (dirK F j).length _ _ _ rfl hrg ?_ ?_)
          | go_in)
        · intro hc0 hl0
          have hgms':=HFq.out.ne_g.2.1
          have HLF:Hid (∀ kl,left kl=false):=hl0
          have hMr:MapIs wr X.ms (dirK F j).length (dirF (dirK F j) X.fb):=⟨D0,HRG.out.owns,HDI.out⟩
          have hgr:wr.heap[g]?=some (.cells #[.bool F.down,.int .i64 (F.steps:Int),.int .i64 (F.files.length:Int),.map (some X.mn),.map (some X.ms),X.cv,X.qv] 74):=by
            refine (HGD.out.md.oth g HGS.out.1 (fun hs=>?_)).trans HGR.out
            rcases hs with e | ⟨x,hx,e⟩
            · have:=HGS.out.1; omega
            · have hf:=(HFL.out x hx).blk
              rw [← e] at hf
              have:=hf.symm.trans HGR.out
              injection this with this
              injection this with _ h3
              exact absurd h3 (by decide)
          have HMC:Hid _:=mclone_any X.ms (dirK F j).length _ wr hMr
          have HMR:Hid (MapIs wr X.ms (dirK F j).length (dirF (dirK F j) X.fb)):=hMr
          have HGW:Hid (wr.heap[g]?=some (.cells #[.bool F.down,.int .i64 (F.steps:Int),.int .i64 (F.files.length:Int),.map (some X.mn),.map (some X.ms),X.cv,X.qv] 74)):=hgr
          obtain ⟨_,_,_,_,k4,_,_,_⟩:=fsC7 hgr
          clear hrg hgd hgr hMr hl0 hc0
          go_wp2_with fail
          refine (show Calls _ _ _ _ _ from HMC.out).mono ?_
          rintro e w3 ⟨rfl,hm3,hb3⟩
          have hg3:=(hb3.block g (row_lt HGW.out)).trans HGW.out
          obtain ⟨k0,k1,k2,k3,_,k5,k6,kf⟩:=fsC7 hg3
          have f3:=kf 3
          have f5:=kf 5
          have f6:=kf 6
          have f0:=kf 0
          have t1:=fs_set hg3 3 (.map (some wr.heap.size))
          have t1':(w3.setCell ⟨g,3,none⟩ (.map (some wr.heap.size))).heap[g]?=some (.cells #[.bool F.down,.int .i64 (F.steps:Int),.int .i64 (F.files.length:Int),.map (some wr.heap.size),.map (some X.ms),X.cv,X.qv] 74):=t1.1
          have t2:=fs_set t1' 5 (.slice none 0 0)
          have t2':((w3.setCell ⟨g,3,none⟩ (.map (some wr.heap.size))).setCell ⟨g,5,none⟩ (.slice none 0 0)).heap[g]?=some (.cells #[.bool F.down,.int .i64 (F.steps:Int),.int .i64 (F.files.length:Int),.map (some wr.heap.size),.map (some X.ms),.slice none 0 0,X.qv] 74):=t2.1
          have t3:=fs_set t2' 6 (.slice none 0 0)
          have t3':(((w3.setCell ⟨g,3,none⟩ (.map (some wr.heap.size))).setCell ⟨g,5,none⟩ (.slice none 0 0)).setCell ⟨g,6,none⟩ (.slice none 0 0)).heap[g]?=some (.cells #[.bool F.down,.int .i64 (F.steps:Int),.int .i64 (F.files.length:Int),.map (some wr.heap.size),.map (some X.ms),.slice none 0 0,.slice none 0 0] 74):=t3.1
          have t4:=fs_set t3' 0 (.bool true)
          obtain ⟨W7,hW7⟩:∃ W7,(((w3.setCell ⟨g,3,none⟩ (.map (some wr.heap.size))).setCell ⟨g,5,none⟩ (.slice none 0 0)).setCell ⟨g,6,none⟩ (.slice none 0 0)).setCell ⟨g,0,none⟩ (.bool true)=W7:=⟨_,rfl⟩
          have ho7:Only w3 W7 g:=by rw [← hW7]; exact ((t1.2.trans t2.2).trans t3.2).trans t4.2
          have hg7:W7.heap[g]?=some (.cells #[.bool true,.int .i64 (F.steps:Int),.int .i64 (F.files.length:Int),.map (some wr.heap.size),.map (some X.ms),.slice none 0 0,.slice none 0 0] 74):=by rw [← hW7]; exact t4.1
          have hgl:=row_lt HGW.out
          have HFIN:Hid (∃ X',Bec w g X F W7 X' (downM F p)):=by
            refine HGD.out.fin (w:=w) (w':=W7) (mb:=wr.heap.size) HH.out (by rw [HNC.out]; exact HK.out.symm) hjn ((ModP.below HBq.out).trans HMD.out) HWS.out HLF.out HMR.out hg7 (hm3.to (ho7.other _ (by omega))) (Nat.le_refl _) ((ModP.below hb3).trans (ModP.only ho7 rfl))
          clear t1 t1' t2 t2' t3 t3' t4 ho7 hg7 hm3 hb3 hg3 kf k4
          go_wp2
          go_end0
          exact ⟨rfl,HFIN.out⟩
        · intro x o kl yd yp w2 cnt2 hkey hlk hv hat hrg2 hlt2 hg2 hs2 hen
          obtain ⟨x',ex,rfl,_⟩:=Maps.keyOf_str Tryz.underlying9 hkey
          obtain rfl:x=x':=encStr_inj ex
          have hhas:Maps.has D0 (.string x)=true:=has_true_of_atKey hat
          have hnm:(⟨x.toArray⟩:ByteArray).data.toList=x:=by simp
          have hsome:(dirF (dirK F j) X.fb ⟨x.toArray⟩).isSome=true:=by rw [← HDI.out.has,hnm]; exact hhas
          obtain ⟨b,hb⟩:=Option.isSome_iff_exists.1 hsome
          obtain ⟨sl,hsl,hs1,i,hs2',hi,rfl,_⟩:=dirF_some HDK.out hb
          have hsi:sl.2.toNat=i:=by omega
          have hyd:yd=.lit (.int .i64 ((X.fb i:Nat):Int)):=by
            have h1:=HDI.out.at_ ⟨x.toArray⟩ _ hb (.lit (.int .i64 (-1)))
            rw [hnm,hat] at h1
            exact h1
          have ho:o=some (X.fb i):=by
            obtain ⟨o',e1,e2⟩:=ptrElem_inv hv
            have e3:o=o':=by
              rcases o with _ | a <;> rcases o' with _ | a' <;> simp [ptr] at e1 ⊢
              exact e1
            subst e3
            have e4:=congrArg Prod.fst e2
            simp only at e4
            rw [hyd] at e4
            rcases o with _ | a
            · have:((X.fb i:Nat):Int)=-1:=lit_inj e4
              omega
            · have h3:((X.fb i:Nat):Int)=(a:Int):=lit_inj e4
              have:a=X.fb i:=by omega
              rw [this]
          subst ho
          have hiter:∃ a b c e,wr.heap[Wb.heap.size]?=some (.mapIter a b c e):=by
            obtain ⟨es,clock,since,seen,c0,_,_,_,_,hri,_⟩:=HRG.out
            exact ⟨_,_,_,_,hri⟩
          have hgd2:=HGD.out.iter hg2 hiter
          have hfi:=hgd2.fl sl hsl
          have hlx:left (.string sl.1.data.toList)=true:=by rw [hs1,hnm]; exact hlk
          rw [hlx,if_pos rfl,hsi] at hfi
          obtain ⟨y,hy⟩:∃ y,F.files.getD i ⟨⟨#[]⟩,0⟩=y:=⟨_,rfl⟩
          rw [hy] at hfi
          have hdn:dnF F p i=cutF y (pickM p (i + 1) (y.d.size - y.s)):=by unfold dnF; rw [hy]
          have hbig:=hfi.big
          have hsf:=hfi.sf
          obtain ⟨pk,hpk⟩:∃ pk,pickM p (i + 1) (y.d.size - y.s)=pk:=⟨_,rfl⟩
          have hpkl:pk ≤ y.d.size - y.s:=by rw [← hpk]; exact pkM_le _ _ _
          have hfil:F.files.length ≤ 3298534883328:=HS.out.fi
          have hnr:w2.heap[R]?=some (.cells #[.slice P p.length c] 44):=by
            refine (hgd2.md.oth R HGS.out.2.1 (fun hs=>?_)).trans HNR.out
            rcases hs with e | ⟨z,hz,e⟩
            · have:=HGS.out.2.1; omega
            · have hf:=(HFL.out z hz).blk
              rw [← e] at hf
              have:=hf.symm.trans HNR.out
              injection this with this
              injection this with _ h3
              exact absurd h3 (by decide)
          have hvr:Pks w2 (Own g F X) (.slice P p.length c) p:=HVR.out.keep (fun q hq hn=>by
            refine hgd2.md.oth q hq (fun hs=>?_)
            rcases hs with e | ⟨z,hz,e⟩
            · omega
            · exact hn (by rw [e]; exact HNO.out z hz))
          have HPI:Hid (∀ m,Calls Tryz.prog 84 #[.int .i64 ((i + 1:Nat):Int),.int .i64 ((y.d.size - y.s:Nat):Int),.pointer (some ⟨R,0,none⟩)] (w2.drewN m) fun e w'=>e=.returned (.int .i64 (pk:Int))∧w'=w2.drewN m):=fun m=>by
            have:=gpick_any (.slice P p.length c) p (i + 1) (y.d.size - y.s) R (by omega) (by omega) (w2.drewN m) hnr (hvr.kr.on (below_dn (Below.refl _ _) m))
            rw [hpk] at this
            exact this
          have HKE:Hid (∀ m,Calls Tryz.prog 86 #[ptr (some (X.fb i)),.int .i64 (pk:Int)] (w2.drewN m) fun e w'=>e=.returned (.tuple #[])∧∃ pv' ps',FileAt w' (X.fb i) i (cutF y pk) pv' ps'∧ModP (fun q=>q=X.fb i) (w2.drewN m) w'∧Loc (w2.drewN m) (pvf i) pv'):=fun m=>keep_any (X.fb i) i y (pvf i) (psf i) pk (w2.drewN m) (hfi.to rfl (fun _ _=>rfl)) (by omega)
          have HNX:Hid (∀ w',(∃ pv' ps',FileAt w' (X.fb i) i (cutF y pk) pv' ps'∧ModP (fun q=>q=X.fb i) w2 w'∧Loc w2 (pvf i) pv') → (∃ left cnt pvf psf,w'.ranges Tryz.prog 9 ptrElem X.ms Wb.heap.size (dirK F j).length D0 left cnt∧GD2 Wb X F (dirK F j) p Wb.heap.size left pvf psf w')∧w'.rangeLeft X.ms Wb.heap.size=cnt2):=fun w' hh=>by
            obtain ⟨pv',ps',q1,q2,q3⟩:=hh
            have hd2:FileAt w' (X.fb sl.2.toNat) sl.2.toNat (dnF F p sl.2.toNat) pv' ps':=by rw [hsi,hdn,hpk]; exact q1
            have hk2:=hgd2.keep HDK.out HINJ.out hsl hd2 (by rw [hsi]; exact q2) (by rw [hsi]; exact q3)
            have hrgk:w'.ranges Tryz.prog 9 ptrElem X.ms Wb.heap.size (dirK F j).length D0 (fun z=>left z && !z.sameKey (.string x)) cnt2:=by
              refine hrg2.kept (row:=some (X.fb i)) ⟨q2.os,q2.tape,q2.output,q2.size,fun k hk hne=>q2.oth k hk (fun e=>hne (by rw [e]))⟩ (fun e=>?_) (fun e=>?_)
              · injection e with e
                have hmm:MapIs w2 X.ms (dirK F j).length (dirF (dirK F j) X.fb):=⟨D0,hrg2.owns,HDI.out⟩
                exact hmm.ne hfi.blk e
              · injection e with e
                obtain ⟨es,clock,since,seen,c0,_,_,_,_,hri,_⟩:=hrg2
                have:=hfi.blk
                rw [← e,hri] at this; cases this
            rw [hs1,hnm] at hk2
            exact ⟨⟨_,_,_,_,hrgk,hk2⟩,hrgk.left_eq⟩
          have HMEAS:Hid (cnt2 < wr.rangeLeft X.ms Wb.heap.size):=by show _ < _; rw [HRG.out.left_eq]; exact hlt2
          obtain ⟨z0,z1,z2,z3,_⟩:=file_cells hfi.blk
          have hyw:IntKind.i64.wrap ((y.d.size:Int) - (y.s:Int))=((y.d.size - y.s:Nat):Int):=by rw [IntKind.wrap_i64] <;> omega
          obtain ⟨bb,hbb⟩:∃ bb,X.fb i=bb:=⟨_,rfl⟩
          obtain ⟨i1,hi1⟩:∃ i1,i + 1=i1:=⟨_,rfl⟩
          obtain ⟨ys,hys⟩:∃ ys,y.d.size=ys:=⟨_,rfl⟩
          obtain ⟨yf,hyf⟩:∃ yf,y.s=yf:=⟨_,rfl⟩
          rw [hbb] at z0 z1 z2 z3 hen HKE
          rw [hi1] at z0 HPI
          rw [hys] at z2 hyw HPI
          rw [hyf] at z3 hyw HPI
          have HBB:Hid (X.fb i=bb):=hbb
          clear hkey hlk hv hat hrg2 hlt2 hg2 hs2 hhas hsome hb hsl hs1 hs2' hi hsi hyd hiter hgd2 hfi hlx hy hdn hbig hsf hpk hpkl hfil hnr hvr ex hbb hi1 hys hyf hrg hgd
          unfold ptr at HKE hen
          have HPI':Hid (Calls Tryz.prog 84 #[.int .i64 (i1:Int),.int .i64 ((ys - yf:Nat):Int),.pointer (some ⟨R,0,none⟩)] w2.drew fun e w'=>e=.returned (.int .i64 (pk:Int))∧w'=w2.drew):=HPI.out 1
          have HKE':Hid (Calls Tryz.prog 86 #[.pointer (some ⟨bb,0,none⟩),.int .i64 (pk:Int)] w2.drew fun e w'=>e=.returned (.tuple #[])∧∃ pv' ps',FileAt w' (X.fb i) i (cutF y pk) pv' ps'∧ModP (fun q=>q=X.fb i) w2 w'∧Loc w2 (pvf i) pv'):=by
            refine (show Calls _ _ _ _ _ from HKE.out 1).mono ?_
            rintro e w' ⟨h1,pv',ps',h2,h3,h4⟩
            exact ⟨h1,pv',ps',by rw [HBB.out]; exact h2,by rw [HBB.out]; exact ⟨h3.os,h3.tape,h3.output,h3.size,h3.oth⟩,h4⟩
          clear HPI HKE
          go_upto_region 10 with fail
          go_region_law (first
            | (go_simp; with_reducible refine (show Calls _ _ _ _ _ from HPI'.out).mono ?_; rintro e w3 ⟨rfl,rfl⟩)
            | (go_simp; with_reducible refine (show Calls _ _ _ _ _ from HKE'.out).mono ?_; rintro e w4 ⟨rfl,hk4⟩))
          all_goals
            obtain ⟨hrel4,hme4⟩:=HNX.out w4 hk4
            have HREL:Hid (∃ left cnt pvf psf,w4.ranges Tryz.prog 9 ptrElem X.ms Wb.heap.size (dirK F j).length D0 left cnt∧GD2 Wb X F (dirK F j) p Wb.heap.size left pvf psf w4):=hrel4
            have HME4:Hid (w4.rangeLeft X.ms Wb.heap.size=cnt2):=hme4
            clear hk4 hrel4 hme4 z0 z1 z2 z3 hen
            go_wp2
            go_roundw
            case rel=>exact HREL.out
            case measure=>(rw [HME4.out]; exact HMEAS.out)
end Go.Proofs.YtbgbmfmgdgalbaaGreatDoor
