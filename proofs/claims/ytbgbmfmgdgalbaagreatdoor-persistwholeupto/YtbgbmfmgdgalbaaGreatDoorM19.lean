import Derived.Test.YtbgbmfmgdgalbaaGreatDoorM18
namespace Go.Proofs.YtbgbmfmgdgalbaaGreatDoor
open Go.RowKit Go.Maps
set_option linter.unusedVariables false
set_option linter.unusedSimpArgs false
theorem pw_two {α:Type} {R:α → α → Prop} (hs:∀ a b,R a b → R b a):∀ {l:List α},l.Pairwise R → ∀ {a b:α},a ∈ l → b ∈ l → a ≠ b → R a b
  | [],_,a,b,ha,_,_=>by cases ha
  | x :: l,h,a,b,ha,hb,hne=>by
    rw [List.pairwise_cons] at h
    rcases List.mem_cons.1 ha with e1 | ha' <;> rcases List.mem_cons.1 hb with e2 | hb'
    · exact absurd (e1.trans e2.symm) hne
    · rw [e1]; exact h.1 b hb'
    · rw [e2]; exact hs _ _ (h.1 a ha')
    · exact pw_two hs h.2 ha' hb' hne
theorem dirF_eq {d:List Sl} {h h':Nat → Nat} (e:∀ x ∈ d,h' x.2.toNat=h x.2.toNat):dirF d h'=dirF d h:=by
  funext m
  unfold dirF
  by_cases hf:findM d m < 0
  · rw [if_pos hf,if_pos hf]
  · rw [if_neg hf,if_neg hf]
    obtain ⟨y,hy,_,e2⟩:=findM_mem hf
    rw [← e2,e y hy]
def chM (F:Fs) (X:Gh) (h:Nat → Nat) (j:Nat):List Pc:=((F.chg.zip X.cf).take j).map (fun x=>pcOf x.1 (h x.2)) ++ ((F.chg.zip X.cf).drop j).map (fun x=>pcOf x.1 (X.fb x.2))
theorem chM_zero (F:Fs) (X:Gh) (h:Nat → Nat):chM F X h 0=chgL F X:=by unfold chM chgL; simp
theorem chM_len {F:Fs} {X:Gh} (ok:FOk F X.cf) (h:Nat → Nat) (j:Nat):(chM F X h j).length=F.chg.length:=by
  unfold chM
  rw [List.length_append,List.length_map,List.length_map,List.length_take,List.length_drop,List.length_zip,ok.cl]
  omega
theorem chM_all {F:Fs} {X:Gh} (ok:FOk F X.cf) (h:Nat → Nat):chM F X h F.chg.length=(F.chg.zip X.cf).map (fun x=>pcOf x.1 (h x.2)):=by
  unfold chM
  have hl:(F.chg.zip X.cf).length ≤ F.chg.length:=by rw [List.length_zip]; omega
  rw [List.take_of_length_le hl,List.drop_of_length_le hl]; simp
theorem pcOf_b (c:Ch) (a b:Nat):{ pcOf c a with b:=b }=pcOf c b:=by
  unfold pcOf
  split
  · split <;> rfl
  · rfl
theorem pcOf_bb (c:Ch) (a:Nat):(pcOf c a).b=a:=by
  unfold pcOf
  split
  · split <;> rfl
  · rfl
theorem chM_at {F:Fs} {X:Gh} (ok:FOk F X.cf) (h:Nat → Nat) {j:Nat} (hj:j < F.chg.length):∃ i,X.cf[j]?=some i∧(chM F X h j)[j]?=some (pcOf F.chg[j] (X.fb i)):=by
  have hc:j < X.cf.length:=by rw [ok.cl]; exact hj
  refine ⟨X.cf[j],List.getElem?_eq_getElem hc,?_⟩
  have hz:(F.chg.zip X.cf)[j]?=some (F.chg[j],X.cf[j]):=by rw [List.getElem?_zip_eq_some]; exact ⟨List.getElem?_eq_getElem hj,List.getElem?_eq_getElem hc⟩
  have hlt:(((F.chg.zip X.cf).take j).map (fun x=>pcOf x.1 (h x.2))).length=j:=by
    rw [List.length_map,List.length_take,List.length_zip,ok.cl]; omega
  unfold chM
  rw [List.getElem?_append_right (by omega),hlt,Nat.sub_self,List.getElem?_map,List.getElem?_drop,Nat.add_zero,hz]
  rfl
theorem chM_set {F:Fs} {X:Gh} (ok:FOk F X.cf) {h h':Nat → Nat} {j i:Nat} (hj:j < F.chg.length) (hi:X.cf[j]?=some i) (hh:∀ k ∈ X.cf.take j,h' k=h k):(chM F X h j).set j (pcOf F.chg[j] (h' i))=chM F X h' (j + 1):=by
  have hc:j < X.cf.length:=by rw [ok.cl]; exact hj
  have hie:X.cf[j]=i:=by rw [List.getElem?_eq_getElem hc] at hi; injection hi
  have hz:j < (F.chg.zip X.cf).length:=by rw [List.length_zip,ok.cl]; omega
  have hze:(F.chg.zip X.cf)[j]=(F.chg[j],i):=by rw [List.getElem_zip,hie]
  have hlt:(((F.chg.zip X.cf).take j).map (fun x=>pcOf x.1 (h x.2))).length=j:=by
    rw [List.length_map,List.length_take]; omega
  unfold chM
  rw [List.drop_eq_getElem_cons hz,List.map_cons,List.set_append_right _ _ (by omega),hlt,Nat.sub_self,List.set_cons_zero,List.take_succ_eq_append_getElem hz,List.map_append,List.append_assoc]
  congr 1
  · refine List.map_congr_left (fun x hx=>?_)
    have hx2:x.2 ∈ X.cf.take j:=by
      obtain ⟨k,hk,e⟩:=List.mem_iff_getElem.1 hx
      rw [List.getElem_take,List.getElem_zip] at e
      have hk':k < j∧k < X.cf.length:=by rw [List.length_take,List.length_zip] at hk; omega
      refine List.mem_iff_getElem.2 ⟨k,by rw [List.length_take]; omega,?_⟩
      rw [List.getElem_take,← e]
    rw [hh _ hx2]
  · rw [hze]; rfl
theorem pg_set (l:List Pc) (j b:Nat) (hj:j < l.length):(pgE.fl l).set (j * 3 + 2) (ptr (some b))=pgE.fl (l.set j { l[j] with b:=b }):=by
  induction l generalizing j with
  | nil=>simp at hj
  | cons x l ih =>
    have e:pgE.fl (x :: l)=.string x.n :: .string x.t :: ptr (some x.b) :: pgE.fl l:=rfl
    rw [e]
    cases j with
    | zero=>rfl
    | succ j =>
      have:=ih j (by simpa using hj)
      have e1:(j + 1) * 3 + 2=(j * 3 + 2) + 1 + 1 + 1:=by omega
      rw [e1,List.set_cons_succ,List.set_cons_succ,List.set_cons_succ,this]
      rfl
structure CL (mb gl R1 R2 c:Nat) (P:Option Addr) (X:Gh) (F:Fs) (w:World) (Q:List (Nat × Nat × Value)) (j:Nat) (wr:World):Prop where
  md:ModP (fun _=>False) w wr
  tw:TwI w.heap.size wr mb X F Q
  row:wr.heap[gl]?=some (.cells #[.bool F.down,.int .i64 (F.steps:Int),.int .i64 (F.files.length:Int),.map (some R1),.map (some R2),.slice P F.chg.length c,X.qv] 74)
  m1:MapIs wr R1 F.dir.length (dirF F.dir (twB Q))
  m2:MapIs wr R2 F.sure.length (dirF F.sure (twB Q))
  ch:wr.ownsRow w.heap.size 100 3 (.slice P F.chg.length c) F.chg.length (pgE.fl (chM F X (twB Q) j))
  d1:∀ x ∈ F.dir,∃ q ∈ Q,q.1=x.2.toNat
  d2:∀ x ∈ F.sure,∃ q ∈ Q,q.1=x.2.toNat
  d3:∀ i ∈ X.cf.take j,∃ q ∈ Q,q.1=i
  nb:w.heap.size ≤ mb∧w.heap.size ≤ gl∧w.heap.size ≤ R1∧w.heap.size ≤ R2∧R1 ≠ mb∧R2 ≠ mb∧R1 ≠ R2
theorem CL.on {mb gl R1 R2 c:Nat} {P:Option Addr} {X:Gh} {F:Fs} {w:World} {Q:List (Nat × Nat × Value)} {j:Nat} {wr w':World} (h:CL mb gl R1 R2 c P X F w Q j wr) (hb:Below wr.heap.size wr w'):CL mb gl R1 R2 c P X F w Q j w':=
  ⟨h.md.trans (ModP.below hb),h.tw.on hb,(hb.block _ (row_lt h.row)).trans h.row,h.m1.to (hb.block _ h.m1.lt),h.m2.to (hb.block _ h.m2.lt),own_bel h.ch hb,h.d1,h.d2,h.d3,h.nb⟩
theorem CL.step {mb gl R1 R2 c j i:Nat} {gP:Nat} {X:Gh} {F:Fs} {w:World} {Q E:List (Nat × Nat × Value)} {wr w3:World} (h:CL mb gl R1 R2 c (some ⟨gP,0,none⟩) X F w Q j wr) (ok:FOk F X.cf) (hj:j < F.chg.length) (hi:X.cf[j]?=some i) (h3:ModP (fun k=>k=mb) wr w3) (ht:TwI w.heap.size w3 mb X F (Q ++ E)) (hq:∃ q ∈ Q ++ E,q.1=i) :
    CL mb gl R1 R2 c (some ⟨gP,0,none⟩) X F w (Q ++ E) (j + 1) (w3.setCell ⟨gP,j * 3 + 2,none⟩ (ptr (some (twB (Q ++ E) i)))):=by
  have hnm:∀ {k:Nat} {cs:Array Value} {t:Nat} {fz:Nat × Nat},wr.heap[k]?=some (.cells cs t fz) → k ≠ mb:=fun hk=>h.tw.tm.block hk
  have hch3:w3.ownsRow w.heap.size 100 3 (.slice (some ⟨gP,0,none⟩) F.chg.length c) F.chg.length (pgE.fl (chM F X (twB Q) j)):=own_to h.ch (fun k hk=>by
    obtain ⟨cur,hc⟩:=own_type h.ch hk
    exact h3.oth k (row_lt hc) (hnm hc))
  obtain ⟨cur,hcb⟩:∃ cur,w3.heap[gP]?=some (.cells cur 100 (0,0)):=own_type hch3 rfl
  have hge:w.heap.size ≤ gP:=(World.ownsRow.lt hch3 gP rfl).1
  have hst:=(hch3.stored (j * 3 + 2) (ptr (some (twB (Q ++ E) i)))).1
  obtain ⟨W4,hW4⟩:∃ W4,w3.setCell ⟨gP,j * 3 + 2,none⟩ (ptr (some (twB (Q ++ E) i)))=W4:=⟨_,rfl⟩
  have ho4:Only w3 W4 gP:=by rw [← hW4]; exact (Only.refl _ _).set _ _
  rw [hW4] at hst
  rw [hW4]
  have hm4:ModP (fun k=>k=gP) w3 W4:=ModP.only ho4 rfl
  have h1l:R1 ≠ gP:=fun e=>by
    obtain ⟨es,ck,h1⟩:=h.m1.obj
    have:=h3.row h1 h.nb.2.2.2.2.1
    rw [e,hcb] at this; cases this
  have h2l:R2 ≠ gP:=fun e=>by
    obtain ⟨es,ck,h1⟩:=h.m2.obj
    have:=h3.row h1 h.nb.2.2.2.2.2.1
    rw [e,hcb] at this; cases this
  have hlc:j < (chM F X (twB Q) j).length:=by rw [chM_len ok]; exact hj
  obtain ⟨i',hi',hat⟩:=chM_at ok (twB Q) hj
  have hii:i'=i:=by rw [hi] at hi'; injection hi' with e; exact e.symm
  subst hii
  have hel:(chM F X (twB Q) j)[j]=pcOf F.chg[j] (X.fb i'):=by
    rw [List.getElem?_eq_getElem hlc] at hat; injection hat
  refine ⟨(h.md.andThen h3 (fun k hk e=>?_)).andThen hm4 (fun k hk e=>?_),?_,?_,?_,?_,?_,fun x hx=>?_,fun x hx=>?_,fun k hk=>?_,h.nb⟩
  · have:=h.nb.1; omega
  · omega
  · obtain ⟨⟨⟨es,ck,e1,e2⟩,hf⟩,lv,fl,ge,ap⟩:=ht
    have hmbn:mb ≠ gP:=fun e=>by rw [e,hcb] at e1; cases e1
    refine ⟨⟨⟨es,ck,hm4.row e1 hmbn,e2⟩,fun y hy=>?_⟩,lv,fun q hq=>?_,ge,ap⟩
    · obtain ⟨cs,t,h5⟩:=hf y hy
      by_cases e:y.1=gP
      · rw [e] at h5 ⊢
        rw [← hW4]
        exact ⟨_,_,heap_setCell_same w3 gP _ _ _ _ h5⟩
      · exact ⟨cs,t,hm4.row h5 e⟩
    · have hx:=fl q hq
      refine hx.to (hm4.oth _ (row_lt hx.blk) (fun e=>?_)) (fun k hk=>?_)
      · have:=hx.blk
        rw [e,hcb] at this
        injection this with this
        injection this with _ h6
        exact absurd h6 (by decide)
      · obtain ⟨cu,hc⟩:=own_type hx.own hk
        refine hm4.oth _ (row_lt hc) (fun e=>?_)
        rw [e,hcb] at hc
        injection hc with hc
        injection hc with _ h6
        exact absurd h6 (by decide)
  · have h5:=h3.row h.row (hnm h.row)
    refine hm4.row h5 (fun e=>?_)
    rw [e,hcb] at h5
    injection h5 with h5
    injection h5 with _ h6
    exact absurd h6 (by decide)
  · rw [dirF_eq (h:=twB Q) (fun x hx=>twB_app (h.d1 x hx))]
    refine h.m1.to ((hm4.oth _ ?_ h1l).trans (h3.oth _ h.m1.lt h.nb.2.2.2.2.1))
    have:=h.m1.lt; have:=h3.size; omega
  · rw [dirF_eq (h:=twB Q) (fun x hx=>twB_app (h.d2 x hx))]
    refine h.m2.to ((hm4.oth _ ?_ h2l).trans (h3.oth _ h.m2.lt h.nb.2.2.2.2.2.1))
    have:=h.m2.lt; have:=h3.size; omega
  · rw [pg_set _ _ _ hlc,hel,pcOf_b,chM_set ok hj hi (fun k hk=>twB_app (h.d3 k hk))] at hst
    exact hst
  · obtain ⟨q,a,b⟩:=h.d1 x hx; exact ⟨q,List.mem_append_left _ a,b⟩
  · obtain ⟨q,a,b⟩:=h.d2 x hx; exact ⟨q,List.mem_append_left _ a,b⟩
  · have hc:j < X.cf.length:=by rw [ok.cl]; exact hj
    rw [List.take_succ_eq_append_getElem hc] at hk
    rcases List.mem_append.1 hk with hk | hk
    · obtain ⟨q,a,b⟩:=h.d3 k hk; exact ⟨q,List.mem_append_left _ a,b⟩
    · have e:k=X.cf[j]:=by simpa using hk
      rw [List.getElem?_eq_getElem hc] at hi
      injection hi with hi
      rw [e,hi]; exact hq
def gCl (R1 R2 c:Nat) (P:Option Addr) (X:Gh) (F:Fs) (Q:List (Nat × Nat × Value)) (v6:Value):Gh:=⟨R1,R2,twB Q,twV Q,X.ps,.slice P F.chg.length c,X.cf,v6,X.qs⟩
theorem CL.fin {mb gl R1 R2 c g:Nat} {P:Option Addr} {X:Gh} {F:Fs} {w:World} {Q:List (Nat × Nat × Value)} {wr w5 w6:World} {v6:Value} (h:CL mb gl R1 R2 c P X F w Q F.chg.length wr) (h0:FsP w g X F) (hb:Below wr.heap.size wr w5) (ho:w5.ownsRow wr.heap.size 91 3 v6 X.qs.length (plnE.fl X.qs)) (h6:Only w5 w6 gl)
    (hrow:w6.heap[gl]?=some (.cells #[.bool F.down,.int .i64 (F.steps:Int),.int .i64 (F.files.length:Int),.map (some R1),.map (some R2),.slice P F.chg.length c,v6] 74)):FsP w6 gl (gCl R1 R2 c P X F Q v6) F∧ModP (fun _=>False) w w6∧∀ k,Own gl F (gCl R1 R2 c P X F Q v6) k → w.heap.size ≤ k:=by
  have h5:=h.on hb
  have hgl5:=h5.row
  have hne:∀ {k:Nat} {cs:Array Value} {t:Nat} {fz:Nat × Nat},w5.heap[k]?=some (.cells cs t fz) → t ≠ 74 → k ≠ gl:=fun hk ht e=>by
    rw [e,hgl5] at hk
    injection hk with hk
    injection hk with _ h7
    exact ht h7.symm
  have hnm:∀ {k:Nat} {es ck},w5.heap[k]?=some (.map es ck) → k ≠ gl:=fun hk e=>by rw [e,hgl5] at hk; cases hk
  have hm6:ModP (fun k=>k=gl) w5 w6:=ModP.only h6 rfl
  have hmd:ModP (fun _=>False) w w6:=h5.md.andThen hm6 (fun k hk e=>by have:=h.nb.2.1; omega)
  have hlive:∀ i,Live F (gCl R1 R2 c P X F Q v6) i → ∃ q ∈ Q,q.1=i:=fun i hi=>by
    rcases hi with ⟨x,hx,e⟩ | ⟨x,hx,e⟩ | hi
    · have:=h5.d1 x hx; rw [e] at this; simpa using this
    · have:=h5.d2 x hx; rw [e] at this; simpa using this
    · exact h5.d3 i (by rw [← h0.ok.cl,List.take_length]; exact hi)
  have hfil:∀ q ∈ Q,FileAt w6 q.2.1 q.1 (F.files.getD q.1 ⟨⟨#[]⟩,0⟩) q.2.2 (X.ps q.1):=fun q hq=>by
    have hx:=h5.tw.fl q hq
    refine hx.to (hm6.oth _ (row_lt hx.blk) (hne hx.blk (by decide))) (fun k hk=>?_)
    obtain ⟨cu,hc⟩:=own_type hx.own hk
    exact hm6.oth _ (row_lt hc) (hne hc (by decide))
  refine ⟨⟨⟨h0.ok,hrow,⟨F.dir.length,?_⟩,⟨F.sure.length,?_⟩,h.nb.2.2.2.2.2.2,?_,?_,fun i x hi hx=>?_,fun i j hi hj hij=>?_⟩,h0.pln,fun q hq=>?_⟩,hmd,fun k hk=>?_⟩
  · obtain ⟨es,ck,h1⟩:=h5.m1.obj
    exact h5.m1.to (hm6.oth _ (row_lt h1) (hnm h1))
  · obtain ⟨es,ck,h1⟩:=h5.m2.obj
    exact h5.m2.to (hm6.oth _ (row_lt h1) (hnm h1))
  · have e:chgL F (gCl R1 R2 c P X F Q v6)=chM F X (twB Q) F.chg.length:=by rw [chM_all h0.ok]; rfl
    rw [e]
    exact own_to (own_zero' h5.ch) (fun k hk=>by
      obtain ⟨cu,hc⟩:=own_type h5.ch hk
      exact hm6.oth _ (row_lt hc) (hne hc (by decide)))
  · refine own_prow (own_to (own_zero' ho) (fun k hk=>?_)) rfl
    obtain ⟨cu,hc⟩:=own_type ho hk
    exact hm6.oth _ (row_lt hc) (hne hc (by decide))
  · obtain ⟨q,e1,e2,e3⟩:=find_of (hlive i hi)
    have:=hfil q e2
    rw [e3] at this
    show FileAt w6 (twB Q i) i x (twV Q i) (X.ps i)
    rw [twB_at e1,twV_at e1]
    have e4:F.files.getD i ⟨⟨#[]⟩,0⟩=x:=by rw [List.getD_eq_getElem?_getD,hx]; rfl
    rw [e4] at this
    exact this
  · obtain ⟨q,e1,e2,e3⟩:=find_of (hlive i hi)
    obtain ⟨q',f1,f2,f3⟩:=find_of (hlive j hj)
    have hqq:q ≠ q':=fun e=>hij (by rw [← e3,← f3,e])
    have:=pw_two (fun a b hab=>⟨fun e=>hab.1 e.symm,fun e=>hab.2.1 e.symm,fun k hk1 hk2=>hab.2.2 k hk2 hk1⟩) h5.tw.ap e2 f2 hqq
    show twB Q i ≠ twB Q j∧∀ k,(twV Q i).ownBlock=some k → (twV Q j).ownBlock ≠ some k
    rw [twB_at e1,twV_at e1,twB_at f1,twV_at f1]
    exact this.2
  · exact (h0.hld q hq).to (fun k cs t fz hk ht=>hmd.oth k (row_lt hk) (fun e=>e))
  · rcases hk with rfl | rfl | rfl | ⟨i,hl,hk⟩ | hc | hq
    · exact h.nb.2.1
    · exact h.nb.2.2.1
    · exact h.nb.2.2.2.1
    · obtain ⟨q,e1,e2,e3⟩:=find_of (hlive i hl)
      have hg:=h5.tw.ge q e2
      rcases hk with e | e
      · have e':k=twB Q i:=e
        rw [e',twB_at e1]; exact hg.1
      · have e':(twV Q i).ownBlock=some k:=e
        rw [twV_at e1] at e'
        exact hg.2 k e'
    · exact (World.ownsRow.lt h5.ch k hc).1
    · have:=(World.ownsRow.lt ho k hq).1
      have:=h.md.size
      omega
end Go.Proofs.YtbgbmfmgdgalbaaGreatDoor
namespace Go.Proofs.YtbgbmfmgdgalbaaGreatDoor
open Go.RowKit Go.Maps
set_option linter.unusedVariables false
set_option linter.unusedSimpArgs false
theorem szFs:(Tryz.prog.info? 74).map (·.size)=some 7:=by kernel_rfl
theorem ldFs {ops:Array Oper} {rest:List Oper} {op:Oper} {a:Act} {w:World} {Q:Exit → Act → World → Prop} (C:Array Value) (r:Nat) (x:Operand) (hg:op.guard=none) (ho:op.op=.load 74 x) (hx:a.eval x=.pointer (some ⟨r,0,none⟩)) (hc:w.heap[r]?=some (.cells C 74)) (h4:C.size=7) (h:wpList Tryz.prog ops Q rest (a.put op.dst (.agg C)) w):wpList Tryz.prog ops Q (op :: rest) a w:=by
  refine wpList_load_mid hg _ x ho r 0 hx C.toList _ (fun j v hv=>by rw [cell_of_row _ _ _ _ _ _ hc]; simpa using hv) Tryz.underlying74 rfl (by rw [Array.length_toList,h4]; exact szFs) ?_
  rw [Array.toArray_toList]
  exact h
theorem stFs {ops:Array Oper} {rest:List Oper} {op:Oper} {a:Act} {w:World} {Q:Exit → Act → World → Prop} (hg:op.guard=none) (x y:Operand) (ho:op.op=.store 74 x y) (g:Nat) (C Z:Array Value) (hx:a.eval x=.pointer (some ⟨g,0,none⟩)) (hy:a.eval y=.agg C) (h4:C.size=7) (h1:C.all (·.oneCell')=true) (hZ:Z.size=7) (hr:w.heap[g]?=some (.cells Z 74)) (h:∀ W,W.heap[g]?=some (.cells C 74) → Only w W g → wpList Tryz.prog ops Q rest (a.put op.dst undef) W):wpList Tryz.prog ops Q (op :: rest) a w:=by
  refine wpList_store_mid hg 74 x y ho g 0 C hx hy ?_ (by rw [h4]; exact szFs) h1 ?_
  · intro j hj
    rw [h4] at hj
    refine ⟨?_,frozen_of_row _ _ _ _ _ hr⟩
    rw [cell_of_row _ _ _ _ _ _ hr]
    simp; omega
  have h3:=setCellsQ g 74 C.toList [] Z.toList w (by simp [h4,hZ]) (by simpa using hr)
  rw [List.length_nil] at h3
  simp only [List.nil_append,Array.toArray_toList] at h3
  exact h _ h3.1 h3.2
def zFs:Array Value:=#[.bool false,.int .i64 0,.int .i64 0,.map none,.map none,.slice none 0 0,.slice none 0 0]
theorem alFs {ops:Array Oper} {rest:List Oper} {op:Oper} {a:Act} {w:World} {Q:Exit → Act → World → Prop} (hg:op.guard=none) (ho:op.op=.alloc 74) (Z:Array Value) (hZ:Z=zFs) (h:wpList Tryz.prog ops Q rest (a.put op.dst (.pointer (some ⟨w.heap.size,0,none⟩))) (w.alloc (.cells Z 74))):wpList Tryz.prog ops Q (op :: rest) a w:=by
  subst hZ
  refine wpList_plain hg fun K hK=>?_
  unfold Oper.wp
  have:(execOp a.eval op).run Tryz.prog w=.ok (.value (.pointer (some ⟨w.heap.size,0,none⟩))) (w.alloc (.cells zFs 74)):=by
    unfold execOp
    rw [ho]
    kernel_rfl
  rw [this]
  exact hK _ _ h
theorem TwI.only {B mb k0:Nat} {W W':World} {X:Gh} {F:Fs} {Q:List (Nat × Nat × Value)} {cur cur':Array Value} {t t':Nat} (h:TwI B W mb X F Q) (ho:Only W W' k0) (hc:W.heap[k0]?=some (.cells cur t)) (hc':W'.heap[k0]?=some (.cells cur' t')) (h1:t ≠ 85) (h2:t ≠ 9):TwI B W' mb X F Q:=by
  have hm:ModP (fun k=>k=k0) W W':=ModP.only ho rfl
  obtain ⟨⟨⟨es,ck,e1,e2⟩,hf⟩,lv,fl,ge,ap⟩:=h
  refine ⟨⟨⟨es,ck,hm.row e1 (fun e=>by rw [e,hc] at e1; cases e1),e2⟩,fun y hy=>?_⟩,lv,fun q hq=>?_,ge,ap⟩
  · obtain ⟨cs,t,h5⟩:=hf y hy
    by_cases e:y.1=k0
    · rw [e]; exact ⟨_,_,hc'⟩
    · exact ⟨cs,t,hm.row h5 e⟩
  · have hx:=fl q hq
    refine hx.to (hm.oth _ (row_lt hx.blk) (fun e=>?_)) (fun k hk=>?_)
    · have:=hx.blk
      rw [e,hc] at this
      injection this with this
      injection this with _ h6
      exact h1 h6
    · obtain ⟨cu,hcu⟩:=own_type hx.own hk
      refine hm.oth _ (row_lt hcu) (fun e=>?_)
      rw [e,hc] at hcu
      injection hcu with hcu
      injection hcu with _ h6
      exact h2 h6
structure C3 (mb gl:Nat) (X:Gh) (F:Fs) (w:World) (Q:List (Nat × Nat × Value)) (a3 a4 a5:Value) (W:World):Prop where
  md:ModP (fun _=>False) w W
  tw:TwI w.heap.size W mb X F Q
  row:W.heap[gl]?=some (.cells #[.bool F.down,.int .i64 (F.steps:Int),.int .i64 (F.files.length:Int),a3,a4,a5,X.qv] 74)
  nb:w.heap.size ≤ mb∧w.heap.size ≤ gl
theorem C3.put {mb gl:Nat} {X:Gh} {F:Fs} {w W W':World} {Q:List (Nat × Nat × Value)} {a3 a4 a5 b3 b4 b5:Value} (h:C3 mb gl X F w Q a3 a4 a5 W) (ho:Only W W' gl) (hr:W'.heap[gl]?=some (.cells #[.bool F.down,.int .i64 (F.steps:Int),.int .i64 (F.files.length:Int),b3,b4,b5,X.qv] 74)):C3 mb gl X F w Q b3 b4 b5 W':=
  ⟨h.md.andThen (ModP.only (S:=fun k=>k=gl) ho rfl) (fun k hk e=>by have:=h.nb.2; omega),h.tw.only ho h.row hr (by decide) (by decide),hr,h.nb⟩
theorem C3.to {mb gl:Nat} {X:Gh} {F:Fs} {w W W':World} {Q Q':List (Nat × Nat × Value)} {a3 a4 a5:Value} (h:C3 mb gl X F w Q a3 a4 a5 W) (hm:ModP (fun k=>k=mb) W W') (ht:TwI w.heap.size W' mb X F Q'):C3 mb gl X F w Q' a3 a4 a5 W':=
  ⟨h.md.andThen hm (fun k hk e=>by have:=h.nb.1; omega),ht,hm.row h.row (h.tw.tm.block h.row),h.nb⟩
theorem C3.on {mb gl:Nat} {X:Gh} {F:Fs} {w W W':World} {Q:List (Nat × Nat × Value)} {a3 a4 a5:Value} (h:C3 mb gl X F w Q a3 a4 a5 W) (hb:Below W.heap.size W W'):C3 mb gl X F w Q a3 a4 a5 W':=
  ⟨h.md.trans (ModP.below hb),h.tw.on hb,(hb.block _ (row_lt h.row)).trans h.row,h.nb⟩
theorem C3.fs {mb gl g:Nat} {X:Gh} {F:Fs} {w W:World} {Q:List (Nat × Nat × Value)} {a3 a4 a5:Value} (h:C3 mb gl X F w Q a3 a4 a5 W) (h0:FsP w g X F):FsC W g X F:=h0.toFsC.mod h.md (fun _ q=>q.elim)
end Go.Proofs.YtbgbmfmgdgalbaaGreatDoor
