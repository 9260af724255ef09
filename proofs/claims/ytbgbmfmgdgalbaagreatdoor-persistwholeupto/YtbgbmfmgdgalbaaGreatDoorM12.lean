import Derived.Test.YtbgbmfmgdgalbaaGreatDoorM11
namespace Go.Proofs.YtbgbmfmgdgalbaaGreatDoor
open Go.RowKit Go.Maps
set_option linter.unusedVariables false
set_option linter.unusedSimpArgs false
theorem pkM_out {p:List Int} {i n:Nat} (h:p.length ≤ i):pickM p i n=0:=by unfold pickM; rw [List.getElem?_eq_none h]
theorem pkM_in {p:List Int} {i n:Nat} (h:i < p.length):pickM p i n=if p[i] < 0 then 0 else (p[i] % ((n:Int) + 1)).toNat:=by unfold pickM; rw [List.getElem?_eq_getElem h]
theorem pkM_le (p:List Int) (i n:Nat):pickM p i n ≤ n:=by
  unfold pickM
  split
  · exact Nat.zero_le _
  · rename_i x hx
    split
    · exact Nat.zero_le _
    · have h1:=Int.emod_lt_of_pos x (by omega:(0:Int) < (n:Int) + 1)
      have h2:=Int.emod_nonneg x (by omega:((n:Int) + 1) ≠ 0)
      omega
set_option maxHeartbeats 1000000 in
theorem gpick_any (v:Value) (p:List Int) (i n B:Nat) (hi:i ≤ 4611686018427387904) (hn:n ≤ 4611686018427387904) (w:World) (hB:w.heap[B]?=some (.cells #[v] 44)) (h:KR pinE w v p):Calls Tryz.prog 84 #[.int .i64 (i:Int),.int .i64 (n:Int),.pointer (some ⟨B,0,none⟩)] w fun e w'=>e=.returned (.int .i64 (pickM p i n:Int))∧w'=w:=by
  have cB:=cell1 hB
  clear hB
  obtain ⟨P,c,rfl⟩:=h.form
  have H:Hid (KR pinE w (.slice P p.length c) p):=h
  clear h
  by_cases hlt:p.length ≤ i
  · have hz:(p.length:Int) ≤ (i:Int):=by omega
    have HM:Hid (pickM p i n=0):=pkM_out hlt
    clear hlt
    go_enter Tryz.func84,Tryz.ntmps84
    go_wp2
    go_ret
    exact ⟨by rw [HM.out]; rfl,rfl⟩
  · have hlt':i < p.length:=by omega
    obtain ⟨g,o,c',he,hc⟩:=H.out.cell pinOk hlt'
    injection he with he1 _ he2
    subst he1
    have c0:w.cell? ⟨g,o + i,none⟩=some (.int .i64 p[i]):=by
      have:=hc 0 _ rfl
      simpa [pinE] using this
    have hz:¬ (p.length:Int) ≤ (i:Int):=by omega
    have hz0:(0:Int) ≤ (i:Int):=by omega
    have hz1:(i:Int) < (p.length:Int):=by omega
    have HM:Hid (pickM p i n=if p[i] < 0 then 0 else (p[i] % ((n:Int) + 1)).toNat):=pkM_in hlt'
    have hnw:IntKind.i64.wrap ((n:Int) + 1)=(n:Int) + 1:=by rw [IntKind.wrap_i64] <;> omega
    have hn0:(((n:Int) + 1) == 0)=false:=by rw [beq_eq_false_iff_ne]; omega
    have hn1:¬ (n:Int) + 1=0:=by omega
    obtain ⟨x,hx⟩:∃ x,p[i]=x:=⟨_,rfl⟩
    rw [hx] at c0 HM
    clear hlt hlt' hc he2 hx
    by_cases hneg:x < 0
    · have HM2:Hid (pickM p i n=0):=by show _=_; rw [HM.out,if_pos hneg]
      clear HM
      go_enter Tryz.func84,Tryz.ntmps84
      go_wp2
      go_ret
      exact ⟨by rw [HM2.out]; rfl,rfl⟩
    · have hm1:=Int.emod_lt_of_pos x (by omega:(0:Int) < (n:Int) + 1)
      have hm2:=Int.emod_nonneg x hn1
      have HM2:Hid (((pickM p i n:Nat):Int)=x % ((n:Int) + 1)):=by show _=_; rw [HM.out,if_neg hneg]; omega
      have ht:x.tmod ((n:Int) + 1)=x % ((n:Int) + 1):=Int.tmod_eq_emod_of_nonneg (by omega)
      have htw:IntKind.i64.wrap (x % ((n:Int) + 1))=x % ((n:Int) + 1):=by rw [IntKind.wrap_i64] <;> omega
      clear HM hm1 hm2
      go_enter Tryz.func84,Tryz.ntmps84
      go_wp2
      go_ret
      exact ⟨by rw [HM2.out]; rfl,rfl⟩
end Go.Proofs.YtbgbmfmgdgalbaaGreatDoor
namespace Go.Proofs.YtbgbmfmgdgalbaaGreatDoor
open Go.RowKit Go.Maps
set_option linter.unusedVariables false
set_option linter.unusedSimpArgs false
theorem szC:(Tryz.prog.info? 100).map (·.size)=some 3:=by kernel_rfl
theorem ldC {ops:Array Oper} {rest:List Oper} {op:Oper} {a:Act} {w:World} {Q:Exit → Act → World → Prop} (r o:Nat) (a0 a1 a2:Value) (x:Operand) (hg:op.guard=none) (ho:op.op=.load 100 x) (hx:a.eval x=.pointer (some ⟨r,o,none⟩)) (h0:w.cell? ⟨r,o,none⟩=some a0) (h1:w.cell? ⟨r,o + 1,none⟩=some a1) (h2:w.cell? ⟨r,o + 2,none⟩=some a2) (h:wpList Tryz.prog ops Q rest (a.put op.dst (.agg #[a0,a1,a2])) w):wpList Tryz.prog ops Q (op :: rest) a w:=by
  refine wpList_load_mid hg _ x ho r o hx [a0,a1,a2] _ (fun j v hv=>?_) Tryz.underlying100 rfl szC h
  rcases j with _ | _ | _ | j
  · simp at hv; subst hv; exact h0
  · simp at hv; subst hv; exact h1
  · simp at hv; subst hv; exact h2
  · simp at hv
theorem quietN {w w':World} (h:w'=w):∃ n,w'=w.drewN n:=⟨0,by rw [h]; rfl⟩
theorem dirK_succ {F:Fs} {j:Nat} (h:j < F.chg.length):dirK F (j + 1)=afterM (dirK F j) F.chg[j]:=by
  unfold dirK
  rw [List.take_add_one,List.getElem?_eq_getElem h,List.foldl_append]; rfl
theorem chgL_at {F:Fs} {X:Gh} (h:FOk F X.cf) {j:Nat} (hj:j < F.chg.length):∃ i:Nat,(chgL F X)[j]?=some (pcOf F.chg[j] (X.fb i))∧((F.chg[j]).f < 0 ∨ (F.chg[j]).f=(i:Int))∧namedM (F.chg[j]).n=true∧((F.chg[j]).t.size=0 ∨ namedM (F.chg[j]).t=true)∧((F.chg[j]).t.size ≠ 0 → (F.chg[j]).f=(i:Int))∧i ∈ X.cf:=by
  have hc:j < X.cf.length:=by rw [h.cl]; exact hj
  have hz:(F.chg.zip X.cf)[j]?=some (F.chg[j],X.cf[j]):=by rw [List.getElem?_zip_eq_some]; exact ⟨List.getElem?_eq_getElem hj,List.getElem?_eq_getElem hc⟩
  obtain ⟨h1,h2,h3,h4⟩:=h.ch _ (List.mem_of_getElem? hz)
  refine ⟨X.cf[j],?_,h1,h2,h3,h4,List.getElem_mem hc⟩
  unfold chgL
  rw [List.getElem?_map,hz]; rfl
def GD1 (W0:World) (X:Gh) (F:Fs) (j:Nat) (wr:World):Prop:=ModP (fun k=>k=X.ms) W0 wr∧∃ k,MapIs wr X.ms k (dirF (dirK F j) X.fb)
theorem GD1.next {W0 wr w':World} {X:Gh} {F:Fs} {j:Nat} {i:Nat} (h:GD1 W0 X F j wr) (ok:FOk F X.cf) (hj:j < F.chg.length) (hf:(F.chg[j]).f < 0 ∨ (F.chg[j]).f=(i:Int)) (hn:namedM (F.chg[j]).n=true) (ht:(F.chg[j]).t.size=0 ∨ namedM (F.chg[j]).t=true) (htf:(F.chg[j]).t.size ≠ 0 → (F.chg[j]).f=(i:Int)) (hm:ModP (fun k=>k=X.ms) wr w') {k':Nat} (hk:MapIs w' X.ms k' (apF (dirF (dirK F j) X.fb) (pcOf F.chg[j] (X.fb i)).n (pcOf F.chg[j] (X.fb i)).t (pcOf F.chg[j] (X.fb i)).b)):GD1 W0 X F (j + 1) w':=by
  refine ⟨h.1.trans hm,k',?_⟩
  rw [dirK_succ hj,dirF_after (ok.dirs j (by omega)) X.fb F.chg[j] i hf hn ht htf]
  exact hk
theorem GD1.size {W0 wr:World} {X:Gh} {F:Fs} {j:Nat} (h:GD1 W0 X F j wr) (ok:FOk F X.cf) (hj:j ≤ F.chg.length):MapIs wr X.ms (dirK F j).length (dirF (dirK F j) X.fb):=by
  obtain ⟨k,hk⟩:=h.2
  have:=hk.size_names (names_of (ok.dirs j hj) X.fb)
  rw [List.length_map] at this
  subst this; exact hk
def dnF (F:Fs) (p:List Int) (i:Nat):Fi:=cutF (F.files.getD i ⟨⟨#[]⟩,0⟩) (pickM p (i + 1) ((F.files.getD i ⟨⟨#[]⟩,0⟩).d.size - (F.files.getD i ⟨⟨#[]⟩,0⟩).s))
structure GD2 (Wb:World) (X:Gh) (F:Fs) (d:List Sl) (p:List Int) (r:Nat) (left:Lit → Bool) (pvf:Nat → Value) (psf:Nat → List ByteArray) (wr:World):Prop where
  md:ModP (fun q=>q=r ∨ ∃ x ∈ d,q=X.fb x.2.toNat) Wb wr
  fl:∀ x ∈ d,FileAt wr (X.fb x.2.toNat) x.2.toNat (if left (.string x.1.data.toList) then F.files.getD x.2.toNat ⟨⟨#[]⟩,0⟩ else dnF F p x.2.toNat) (pvf x.2.toNat) (psf x.2.toNat)
  lc:∀ x ∈ d,pvf x.2.toNat=X.pv x.2.toNat ∨ ∀ k,(pvf x.2.toNat).ownBlock=some k → (X.pv x.2.toNat).ownBlock=some k ∨ Wb.heap.size ≤ k
  sep:∀ x ∈ d,∀ y ∈ d,x ≠ y → ∀ k,(pvf x.2.toNat).ownBlock=some k → (pvf y.2.toNat).ownBlock ≠ some k
theorem GD2.keep {Wb wr w':World} {X:Gh} {F:Fs} {d:List Sl} {N:Nat} {p:List Int} {r:Nat} {left:Lit → Bool} {pvf:Nat → Value} {psf:Nat → List ByteArray} (h:GD2 Wb X F d p r left pvf psf wr) (hd:DOk d N) (hinj:∀ x ∈ d,∀ y ∈ d,x ≠ y → X.fb x.2.toNat ≠ X.fb y.2.toNat) {x:Sl} (hx:x ∈ d) {pv':Value} {ps':List ByteArray} (hf:FileAt w' (X.fb x.2.toNat) x.2.toNat (dnF F p x.2.toNat) pv' ps') (hm:ModP (fun q=>q=X.fb x.2.toNat) wr w') (hl:Loc wr (pvf x.2.toNat) pv') :
    GD2 Wb X F d p r (fun z=>left z && !z.sameKey (.string x.1.data.toList)) (fun i=>if i=x.2.toNat then pv' else pvf i) (fun i=>if i=x.2.toNat then ps' else psf i) w':=by
  have hne:∀ y ∈ d,y ≠ x → y.2.toNat ≠ x.2.toNat:=fun y hy hyx e=>by
    have h1:=hd.ge y hy
    have h2:=hd.ge x hx
    exact pair_ne hd.uni hy hx hyx (by omega)
  have hnm:∀ y ∈ d,y ≠ x → y.1 ≠ x.1:=fun y hy hyx e=>by
    have h1:=findM_in hd.rise hy
    have h2:=findM_in hd.rise hx
    rw [e,h2] at h1
    exact hyx (Prod.ext e h1.symm)
  refine ⟨h.md.trans (hm.weak (fun q _ e=>Or.inr ⟨x,hx,e⟩)),fun y hy=>?_,fun y hy=>?_,fun y hy z hz hyz=>?_⟩
  · by_cases e:y=x
    · subst e
      simp only [if_true]
      have:(left (.string y.1.data.toList) && !(Lit.string y.1.data.toList).sameKey (.string y.1.data.toList))=false:=by simp [Lit.sameKey]
      rw [this]
      simpa using hf
    · rw [if_neg (hne y hy e),if_neg (hne y hy e)]
      have hk:(Lit.string y.1.data.toList).sameKey (.string x.1.data.toList)=false:=sameKey_ne (key_ne (hnm y hy e))
      rw [hk]
      simp only [Bool.not_false,Bool.and_true]
      have hfy:=h.fl y hy
      refine hfy.to (hm.oth _ (row_lt hfy.blk) (hinj y hy x hx e)) (fun k hk'=>hm.oth k (own_lt hfy.own hk') (fun e2=>?_))
      subst e2
      have hfx:=h.fl x hx
      obtain ⟨cur,hc⟩:=own_type hfy.own hk'
      have:=hc.symm.trans hfx.blk
      injection this with this
      injection this with _ h3
      exact absurd h3 (by decide)
  · by_cases e:y=x
    · subst e
      rw [if_pos rfl]
      right
      intro k hk
      rcases hl with h1 | h1
      · rw [h1] at hk
        rcases h.lc y hy with h2 | h2
        · rw [h2] at hk; exact Or.inl hk
        · exact h2 k hk
      · exact Or.inr (Nat.le_trans h.md.size (h1 k hk))
    · rw [if_neg (hne y hy e)]; exact h.lc y hy
  · intro k hk hk2
    by_cases e1:y=x
    · subst e1
      have e2:z ≠ y:=Ne.symm hyz
      rw [if_pos rfl] at hk
      rw [if_neg (hne z hz e2)] at hk2
      rcases hl with h1 | h1
      · rw [h1] at hk; exact h.sep y hy z hz hyz k hk hk2
      · have:=h1 k hk
        have:=own_lt (h.fl z hz).own hk2
        omega
    · rw [if_neg (hne y hy e1)] at hk
      by_cases e2:z=x
      · subst e2
        rw [if_pos rfl] at hk2
        rcases hl with h1 | h1
        · rw [h1] at hk2; exact h.sep y hy z hz hyz k hk hk2
        · have:=h1 k hk2
          have:=own_lt (h.fl y hy).own hk
          omega
      · rw [if_neg (hne z hz e2)] at hk2; exact h.sep y hy z hz hyz k hk hk2
theorem GD2.iter {Wb wr w':World} {X:Gh} {F:Fs} {d:List Sl} {p:List Int} {r:Nat} {left:Lit → Bool} {pvf:Nat → Value} {psf:Nat → List ByteArray} (h:GD2 Wb X F d p r left pvf psf wr) (hg:wr.grownBy w' (some r)) (hr:∃ a b c e,wr.heap[r]?=some (.mapIter a b c e)):GD2 Wb X F d p r left pvf psf w':=by
  obtain ⟨ia,ib,ic,ie,hr⟩:=hr
  refine ⟨h.md.trans (ModP.grown hg (fun b hb=>by cases hb; exact Or.inl rfl)),fun x hx=>?_,h.lc,h.sep⟩
  have hf:=h.fl x hx
  refine hf.to (hg.block _ (row_lt hf.blk) (fun e=>?_)) (fun k hk=>hg.block k (own_lt hf.own hk) (fun e=>?_))
  · injection e with e
    have:=hf.blk
    rw [e,hr] at this; cases this
  · injection e with e
    obtain ⟨cur,hc⟩:=own_type hf.own hk
    rw [e,hr] at hc; cases hc
theorem dirK_live {F:Fs} {X:Gh} (h:FOk F X.cf):∀ j,j ≤ F.chg.length → ∀ x ∈ dirK F j,Live F X x.2.toNat
  | 0,_,x,hx=>by
    have h1:x ∈ F.sure:=hx
    have:=h.sure.ge x h1
    exact Or.inr (Or.inl ⟨x,h1,by omega⟩)
  | j + 1,hj,x,hx=>by
    rw [dirK_succ (by omega:j < F.chg.length)] at hx
    rcases after_mem (h.dirs j (by omega)) hx with h1 | ⟨h1,h2⟩
    · exact dirK_live h j (by omega) x h1
    · obtain ⟨i,_,hf,_,_,_,hi⟩:=chgL_at (X:=X) h (by omega:j < F.chg.length)
      rcases hf with h3 | h3
      · exact absurd h3 h2
      · have:x.2.toNat=i:=by omega
        rw [this]; exact Or.inr (Or.inr hi)
theorem files_down (p:List Int):∀ (l:List Fi) (s i:Nat),(downF p s l)[i]?=(l[i]?).map fun x=>cutF x (pickM p (s + i + 1) (x.d.size - x.s))
  | [],s,i=>by simp [downF]
  | x :: l,s,0=>by simp [downF]
  | x :: l,s,i + 1=>by
    simp only [downF,List.getElem?_cons_succ]
    rw [files_down p l (s + 1) i]
    congr 1
    funext y
    rw [show s + 1 + i + 1=s + (i + 1) + 1 by omega]
theorem down_len (p:List Int):∀ (l:List Fi) (s:Nat),(downF p s l).length=l.length
  | [],_=>rfl
  | x :: l,s=>by simp [downF,down_len p l (s + 1)]
theorem GD2.fin {w Wb wr w':World} {g:Nat} {X:Gh} {F:Fs} {p:List Int} {j r mb kk:Nat} {left:Lit → Bool} {pvf:Nat → Value} {psf:Nat → List ByteArray} (h:FsC w g X F) (hj:j=pickM p 0 F.chg.length) (hjn:j ≤ F.chg.length) (hwb:ModP (fun q=>q=X.ms) w Wb) (hgd:GD2 Wb X F (dirK F j) p r left pvf psf wr) (hr:w.heap.size ≤ r) (hleft:∀ kl,left kl=false) (hms:MapIs wr X.ms kk (dirF (dirK F j) X.fb)) (hb:w'.heap[g]?=some (.cells #[.bool true,.int .i64 (F.steps:Int),.int .i64 (F.files.length:Int),.map (some mb),.map (some X.ms),.slice none 0 0,.slice none 0 0] 74)) (hmb:MapIs w' mb kk (dirF (dirK F j) X.fb)) (hmn:wr.heap.size ≤ mb) (hm:ModP (fun q=>q=g) wr w') :
    ∃ X',Bec w g X F w' X' (downM F p):=by
  have hd:=h.ok.dirs j hjn
  have hlive:=dirK_live (X:=X) h.ok j hjn
  have hdm:downM F p=⟨true,F.steps,downF p 0 F.files,dirK F j,dirK F j,[],[],0,[]⟩:=by
    unfold downM dirK
    rw [hj]
  rw [hdm]
  obtain ⟨n1,n2,n3,n4,n5⟩:=h.ne_g
  have hgms:g ≠ X.ms:=fun e=>n2 e.symm
  have hbw:=hwb.size
  have hL:∀ i,Live (⟨true,F.steps,downF p 0 F.files,dirK F j,dirK F j,[],[],0,[]⟩:Fs) { X with mn:=mb,pv:=pvf,ps:=psf,cv:=.slice none 0 0,cf:=[],qv:=.slice none 0 0,qs:=[] } i → ∃ x ∈ dirK F j,x.2=(i:Int):=fun i hi=>by
    rcases hi with hi | hi | hi
    · exact hi
    · exact hi
    · cases hi
  have hfile:∀ i:Nat,(∃ x ∈ dirK F j,x.2=(i:Int)) → FileAt w' (X.fb i) i (dnF F p i) (pvf i) (psf i):=fun i hi=>by
    obtain ⟨x,hx,e⟩:=hi
    have e2:x.2.toNat=i:=by omega
    have hf:=hgd.fl x hx
    rw [hleft,if_neg (by simp),e2] at hf
    have hl:=hlive x hx
    rw [e2] at hl
    refine hf.to (hm.oth _ (row_lt hf.blk) (n3 i hl).1) (fun k hk=>hm.oth k (own_lt hf.own hk) (fun e3=>?_))
    subst e3
    rcases hgd.lc x hx with h1 | h1
    · rw [e2] at h1; rw [h1] at hk; exact (n3 i hl).2 k hk rfl
    · rw [e2] at h1
      rcases h1 k hk with h2 | h2
      · exact (n3 i hl).2 k h2 rfl
      · have:=row_lt h.blk; omega
  refine ⟨{ X with mn:=mb,pv:=pvf,ps:=psf,cv:=.slice none 0 0,cf:=[],qv:=.slice none 0 0,qs:=[] },⟨⟨⟨fun k hk=>?_,rfl,rfl,(fun i hi=>by cases hi),(fun x hx=>by cases hx)⟩,?_,⟨kk,hmb⟩,⟨kk,hms.to (hm.oth _ hms.lt (fun e=>hgms e.symm))⟩,?_,⟨rfl,Or.inl ⟨rfl,rfl⟩⟩,Or.inl ⟨rfl,rfl⟩,fun i x hl hx=>?_,fun i1 i2 h1 h2 hne=>?_⟩,⟨List.Pairwise.nil,(fun q hq=>by cases hq),(fun n p' _ hf=>by simp [failM] at hf),(fun n hn hc=>by have hc':(0:Int)=(n:Int):=hc; have hn':F.steps < n:=hn; omega)⟩,(fun q hq=>by cases hq)⟩,?_,fun k hk=>?_,by simp,fun q hq=>by cases hq⟩
  · have e:dirK (⟨true,F.steps,downF p 0 F.files,dirK F j,dirK F j,[],[],0,[]⟩:Fs) k=dirK F j:=by
      show (([]:List Ch).take k).foldl afterM (dirK F j)=_
      simp
    rw [e]
    show DOk _ (downF p 0 F.files).length
    rw [down_len]; exact hd
  · show w'.heap[g]?=some (.cells #[.bool true,.int .i64 (F.steps:Int),.int .i64 ((downF p 0 F.files).length:Int),_,_,_,_] _)
    rw [down_len]; exact hb
  · show mb ≠ X.ms
    have:=hms.lt; omega
  · have hlx:=hL i hl
    have hx':(downF p 0 F.files)[i]?=some x:=hx
    rw [files_down] at hx'
    have hi:i < F.files.length:=by
      obtain ⟨y,hy,e⟩:=hlx
      have:=hd.lt y hy; omega
    rw [List.getElem?_eq_getElem hi] at hx'
    simp only [Option.map_some,Option.some.injEq,Nat.zero_add] at hx'
    have e2:dnF F p i=x:=by
      unfold dnF
      rw [List.getD_eq_getElem?_getD,List.getElem?_eq_getElem hi]
      exact hx'
    rw [← e2]
    exact hfile i hlx
  · obtain ⟨x1,hx1,e1⟩:=hL i1 h1
    obtain ⟨x2,hx2,e2⟩:=hL i2 h2
    have f1:x1.2.toNat=i1:=by omega
    have f2:x2.2.toNat=i2:=by omega
    have l1:=hlive x1 hx1
    have l2:=hlive x2 hx2
    rw [f1] at l1
    rw [f2] at l2
    refine ⟨(h.inj i1 i2 l1 l2 hne).1,fun k hk hk2=>?_⟩
    refine hgd.sep x1 hx1 x2 hx2 (fun e=>hne (by rw [← f1,← f2,e])) k (by rw [f1]; exact hk) (by rw [f2]; exact hk2)
  · have m1:ModP (Own g F X) w Wb:=hwb.weak (fun k _ e=>Or.inr (Or.inr (Or.inl e)))
    refine (m1.andThen hgd.md (fun q hq hs=>?_)).andThen hm (fun q _ e=>Or.inl e)
    rcases hs with e | ⟨x,hx,e⟩
    · omega
    · rw [e]; exact own_file (hlive x hx)
  · rcases hk with rfl | rfl | rfl | ⟨i,hl,hk⟩ | hk | hk
    · exact Or.inl (Or.inl rfl)
    · exact Or.inr (Nat.le_trans (Nat.le_trans hbw hgd.md.size) hmn)
    · exact Or.inl (Or.inr (Or.inr (Or.inl rfl)))
    · obtain ⟨x,hx,e⟩:=hL i hl
      have f1:x.2.toNat=i:=by omega
      have l1:=hlive x hx
      rw [f1] at l1
      rcases hk with hk | hk
      · exact Or.inl (by rw [hk]; exact own_file l1)
      · have hk':(pvf i).ownBlock=some k:=hk
        rcases hgd.lc x hx with h1 | h1
        · rw [f1] at h1; rw [h1] at hk'; exact Or.inl (Or.inr (Or.inr (Or.inr (Or.inl ⟨i,l1,Or.inr hk'⟩))))
        · rw [f1] at h1
          rcases h1 k hk' with h2 | h2
          · exact Or.inl (Or.inr (Or.inr (Or.inr (Or.inl ⟨i,l1,Or.inr h2⟩))))
          · exact Or.inr (Nat.le_trans hbw h2)
    · cases hk
    · cases hk
end Go.Proofs.YtbgbmfmgdgalbaaGreatDoor
