import Derived.Test.YtbgbmfmgdgalbaaGreatDoorM17
import Derived.Test.YtbgbmfmgdgalbaaGreatDoorM13
namespace Go.Proofs.YtbgbmfmgdgalbaaGreatDoor
open Go.RowKit Go.Maps
set_option linter.unusedVariables false
set_option linter.unusedSimpArgs false
def twB (Q:List (Nat × Nat × Value)) (i:Nat):Nat:=((Q.find? fun q=>decide (q.1=i)).map fun q=>q.2.1).getD 0
def twV (Q:List (Nat × Nat × Value)) (i:Nat):Value:=((Q.find? fun q=>decide (q.1=i)).map fun q=>q.2.2).getD (.slice none 0 0)
structure TwI (B:Nat) (W:World) (mb:Nat) (X:Gh) (F:Fs) (Q:List (Nat × Nat × Value)):Prop where
  tm:TwM W mb (Q.map fun q=>(X.fb q.1,q.2.1))
  lv:∀ q ∈ Q,Live F X q.1
  fl:∀ q ∈ Q,FileAt W q.2.1 q.1 (F.files.getD q.1 ⟨⟨#[]⟩,0⟩) q.2.2 (X.ps q.1)
  ge:∀ q ∈ Q,B ≤ q.2.1∧∀ k,q.2.2.ownBlock=some k → B ≤ k
  ap:Q.Pairwise fun a b=>a.1 ≠ b.1∧a.2.1 ≠ b.2.1∧∀ k,a.2.2.ownBlock=some k → b.2.2.ownBlock ≠ some k
theorem lookQ {W:World} {g:Nat} {X:Gh} {F:Fs} (h:FsC W g X F) {i:Nat} (hi:Live F X i):∀ (Q:List (Nat × Nat × Value)),(∀ q ∈ Q,Live F X q.1) → lookL (X.fb i) (Q.map fun q=>(X.fb q.1,q.2.1))=(Q.find? fun q=>decide (q.1=i)).map fun q=>q.2.1
  | [],_=>rfl
  | q :: Q,hQ=>by
    have ih:=lookQ h hi Q (fun q hq=>hQ q (List.mem_cons_of_mem _ hq))
    unfold lookL at *
    rw [List.map_cons,List.find?_cons,List.find?_cons]
    by_cases e:q.1=i
    · subst e
      simp
    · have h2:X.fb q.1 ≠ X.fb i:=(h.inj _ _ (hQ q (List.mem_cons_self ..)) hi e).1
      rw [decide_eq_false e,decide_eq_false h2]
      exact ih
theorem TwM.block {W:World} {mb:Nat} {L:List (Nat × Nat)} (h:TwM W mb L) {k:Nat} {cs:Array Value} {t:Nat} {fz:Nat × Nat} (hk:W.heap[k]?=some (.cells cs t fz)):k ≠ mb:=fun e=>by
  subst e
  obtain ⟨es,ck,h1,_⟩:=h.ob
  rw [h1] at hk
  cases hk
theorem TwI.keep {B mb:Nat} {W W':World} {X:Gh} {F:Fs} {Q:List (Nat × Nat × Value)} {S:Nat → Prop} (h:TwI B W mb X F Q) (hm:ModP S W W') (hS:∀ k,S k → k ≠ mb∧∀ cs t fz,W.heap[k]? ≠ some (.cells cs t fz)):TwI B W' mb X F Q:=by
  obtain ⟨⟨⟨es,ck,h1,h2⟩,hf⟩,lv,fl,ge,ap⟩:=h
  refine ⟨⟨⟨es,ck,hm.row h1 (fun hs=>(hS _ hs).1 rfl),h2⟩,fun y hy=>?_⟩,lv,fun q hq=>?_,ge,ap⟩
  · obtain ⟨cs,t,h3⟩:=hf y hy
    exact ⟨cs,t,hm.row h3 (fun hs=>(hS _ hs).2 _ _ _ h3)⟩
  · have hx:=fl q hq
    refine hx.to (hm.oth _ (row_lt hx.blk) (fun hs=>(hS _ hs).2 _ _ _ hx.blk)) (fun k hk=>?_)
    obtain ⟨cur,hc⟩:=own_type hx.own hk
    exact hm.oth _ (row_lt hc) (fun hs=>(hS _ hs).2 _ _ _ hc)
theorem TwI.on {B mb:Nat} {W W':World} {X:Gh} {F:Fs} {Q:List (Nat × Nat × Value)} (h:TwI B W mb X F Q) (hb:Below W.heap.size W W'):TwI B W' mb X F Q:=h.keep (ModP.below (S:=fun _=>False) hb) (fun _ q=>q.elim)
theorem find_app {i:Nat} {Q E:List (Nat × Nat × Value)} {q:Nat × Nat × Value} (h:Q.find? (fun q=>decide (q.1=i))=some q):(Q ++ E).find? (fun q=>decide (q.1=i))=some q:=by
  rw [List.find?_append,h]; rfl
theorem find_of {i:Nat} {Q:List (Nat × Nat × Value)} (h:∃ q ∈ Q,q.1=i):∃ q,Q.find? (fun q=>decide (q.1=i))=some q∧q ∈ Q∧q.1=i:=by
  cases hq:Q.find? (fun q=>decide (q.1=i)) with
  | none =>
    rw [List.find?_eq_none] at hq
    obtain ⟨q,h1,h2⟩:=h
    exact absurd (decide_eq_true h2) (hq q h1)
  | some q=>exact ⟨q,rfl,List.mem_of_find?_eq_some hq,by simpa using List.find?_some hq⟩
theorem twB_app {i:Nat} {Q E:List (Nat × Nat × Value)} (h:∃ q ∈ Q,q.1=i):twB (Q ++ E) i=twB Q i:=by
  obtain ⟨q,h1,_⟩:=find_of h
  unfold twB
  rw [find_app h1,h1]
theorem twB_at {i:Nat} {Q:List (Nat × Nat × Value)} {q:Nat × Nat × Value} (h:Q.find? (fun q=>decide (q.1=i))=some q):twB Q i=q.2.1:=by unfold twB; rw [h]; rfl
theorem twV_at {i:Nat} {Q:List (Nat × Nat × Value)} {q:Nat × Nat × Value} (h:Q.find? (fun q=>decide (q.1=i))=some q):twV Q i=q.2.2:=by unfold twV; rw [h]; rfl
def TwR (B mb:Nat) (X:Gh) (F:Fs) (Q:List (Nat × Nat × Value)) (i:Nat) (w:World) (e:Ending) (w':World):Prop:=∃ E,e=.returned (ptr (some (twB (Q ++ E) i)))∧TwI B w' mb X F (Q ++ E)∧(∃ q ∈ Q ++ E,q.1=i)∧ModP (fun k=>k=mb) w w'
theorem twin_any (g i mb B:Nat) (X:Gh) (F:Fs) (Q:List (Nat × Nat × Value)) (w:World) (h:FsC w g X F) (ht:TwI B w mb X F Q) (hB:B ≤ w.heap.size) (hi:Live F X i):Calls Tryz.prog 48 #[ptr (some (X.fb i)),.map (some mb)] w fun e w'=>TwR B mb X F Q i w e w':=by
  have hl:=lookQ h hi Q ht.lv
  cases hq:Q.find? (fun q=>decide (q.1=i)) with
  | some q =>
    rw [hq] at hl
    refine (twin_old (X.fb i) q.2.1 mb _ w (h.file hi).filB ht.tm hl).mono ?_
    rintro e w' ⟨rfl,rfl⟩
    refine ⟨[],?_,by rw [List.append_nil]; exact ht,?_,ModP.refl _ _⟩
    · rw [List.append_nil,twB_at hq]
    · rw [List.append_nil]
      exact ⟨q,List.mem_of_find?_eq_some hq,by simpa using List.find?_some hq⟩
  | none =>
    rw [hq] at hl
    refine (twin_new (X.fb i) i mb _ _ _ _ w (h.file hi) ht.tm hl).mono ?_
    rintro e w' ⟨R,pv,rfl,hR,hf,hpv,hm,hmd⟩
    have hne:∀ q ∈ Q,q.1 ≠ i:=fun q hq' e=>by
      rw [List.find?_eq_none] at hq
      exact hq q hq' (decide_eq_true e)
    have hfi:(Q ++ [(i,R,pv)]).find? (fun q=>decide (q.1=i))=some (i,R,pv):=by
      rw [List.find?_append,hq]
      simp
    refine ⟨[(i,R,pv)],by rw [twB_at hfi],⟨by rw [List.map_append]; exact hm,fun q hq'=>?_,fun q hq'=>?_,fun q hq'=>?_,?_⟩,⟨(i,R,pv),by simp,rfl⟩,hmd⟩
    · rcases List.mem_append.1 hq' with h1 | h1
      · exact ht.lv q h1
      · obtain rfl:=List.mem_singleton.1 h1
        exact hi
    · rcases List.mem_append.1 hq' with h1 | h1
      · have hx:=ht.fl q h1
        refine hx.to (hmd.oth _ (row_lt hx.blk) (ht.tm.block hx.blk)) (fun k hk=>?_)
        obtain ⟨cur,hc⟩:=own_type hx.own hk
        exact hmd.oth _ (row_lt hc) (ht.tm.block hc)
      · obtain rfl:=List.mem_singleton.1 h1
        exact hf
    · rcases List.mem_append.1 hq' with h1 | h1
      · exact ht.ge q h1
      · obtain rfl:=List.mem_singleton.1 h1
        exact ⟨Nat.le_trans hB hR,fun k hk=>Nat.le_trans hB (hpv k hk)⟩
    · rw [List.pairwise_append]
      refine ⟨ht.ap,List.pairwise_singleton _ _,fun a ha b hb=>?_⟩
      obtain rfl:=List.mem_singleton.1 hb
      have hx:=ht.fl a ha
      refine ⟨hne a ha,fun e=>?_,fun k hk e=>?_⟩
      · have:=row_lt hx.blk
        have h2:a.2.1=R:=e
        omega
      · obtain ⟨cur,hc⟩:=own_type hx.own hk
        have:=row_lt hc
        have:=hpv k e
        omega
end Go.Proofs.YtbgbmfmgdgalbaaGreatDoor
namespace Go.Proofs.YtbgbmfmgdgalbaaGreatDoor
open Go.RowKit Go.Maps
set_option linter.unusedVariables false
set_option linter.unusedSimpArgs false
def mixF (left:Lit → Bool) (d:List Sl) (f h:Nat → Nat):ByteArray → Option Nat:=fun m=>if left (.string m.data.toList) then dirF d f m else dirF d h m
theorem sameK_ne {a b:ByteArray} (h:a ≠ b):(Lit.string a.data.toList).sameKey (.string b.data.toList)=false:=sameKey_ne (key_ne h)
theorem mixF_put {left:Lit → Bool} {d:List Sl} {N:Nat} (hd:DOk d N) {f h h':Nat → Nat} {x:Sl} (hx:x ∈ d) (hh:∀ y ∈ d,left (.string y.1.data.toList)=false → h' y.2.toNat=h y.2.toNat):updM (mixF left d f h) x.1 (some (h' x.2.toNat))=mixF (fun z=>left z && !z.sameKey (.string x.1.data.toList)) d f h':=by
  funext m
  unfold updM mixF
  by_cases e:m=x.1
  · subst e
    rw [if_pos rfl]
    have h1:=findM_in hd.rise hx
    have h2:=hd.ge x hx
    have h3:(left (.string x.1.data.toList) && !(Lit.string x.1.data.toList).sameKey (.string x.1.data.toList))=false:=by simp [Lit.sameKey]
    have h4:dirF d h' x.1=some (h' x.2.toNat):=by
      unfold dirF
      have h5:¬ findM d x.1 < 0:=by rw [h1]; omega
      rw [if_neg h5,h1]
    show _=if _=true then _ else _
    simp only [h3,h4]
    simp
  · rw [if_neg e]
    have h3:(left (.string m.data.toList) && !(Lit.string m.data.toList).sameKey (.string x.1.data.toList))=left (.string m.data.toList):=by
      rw [sameK_ne e]; simp
    simp only [h3]
    by_cases hl:left (.string m.data.toList)=true
    · rw [if_pos hl,if_pos hl]
    · have hl':left (.string m.data.toList)=false:=by simpa using hl
      rw [if_neg hl,if_neg hl]
      unfold dirF
      by_cases hf:findM d m < 0
      · rw [if_pos hf,if_pos hf]
      · rw [if_neg hf,if_neg hf]
        obtain ⟨y,hy,e1,e2⟩:=findM_mem hf
        have:=hh y hy (by rw [e1]; exact hl')
        rw [← e2,this]
structure GC (B mb r g:Nat) (X:Gh) (F:Fs) (Q:List (Nat × Nat × Value)) (d:List Sl) (Wb:World) (left:Lit → Bool) (E:List (Nat × Nat × Value)) (wr:World):Prop where
  md:ModP (fun q=>q=mb ∨ q=r) Wb wr
  fs:FsC wr g X F
  tw:TwI B wr mb X F (Q ++ E)
  mp:MapIs wr r d.length (mixF left d X.fb (twB (Q ++ E)))
  dn:∀ x ∈ d,left (.string x.1.data.toList)=false → ∃ q ∈ Q ++ E,q.1=x.2.toNat
theorem GC.iter {B mb r g it:Nat} {X:Gh} {F:Fs} {Q:List (Nat × Nat × Value)} {d:List Sl} {Wb wr w':World} {left:Lit → Bool} {E:List (Nat × Nat × Value)} (h:GC B mb r g X F Q d Wb left E wr) (hg:wr.grownBy w' (some it)) (hr:∃ a b c e,wr.heap[it]?=some (.mapIter a b c e)) (hi:Wb.heap.size ≤ it):GC B mb r g X F Q d Wb left E w':=by
  obtain ⟨ia,ib,ic,ie,hr⟩:=hr
  have hm:ModP (fun k=>k=it) wr w':=ModP.grown hg (fun b hb=>by cases hb; rfl)
  have hnm:∀ {k:Nat} {es c},wr.heap[k]?=some (.map es c) → k ≠ it:=fun hk e=>by subst e; rw [hr] at hk; cases hk
  refine ⟨h.md.andThen hm (fun j hj e=>by subst e; omega),h.fs.mod hm (fun k e ho=>?_),h.tw.keep hm (fun k e=>?_),?_,h.dn⟩
  · subst e
    have hlt:=h.fs.own_lt ho
    rcases ho with rfl | rfl | rfl | ⟨i,hl,rfl | hp⟩ | hc | hq
    · have:=h.fs.blk; rw [hr] at this; cases this
    · obtain ⟨k,hn⟩:=h.fs.now; obtain ⟨es,c,h1⟩:=hn.obj; exact hnm h1 rfl
    · obtain ⟨k,hn⟩:=h.fs.safe; obtain ⟨es,c,h1⟩:=hn.obj; exact hnm h1 rfl
    · have:=(h.fs.file hl).blk; rw [hr] at this; cases this
    · obtain ⟨cur,hc⟩:=own_type (h.fs.file hl).own hp; rw [hr] at hc; cases hc
    · obtain ⟨cur,hc⟩:=own_type h.fs.chg hc; rw [hr] at hc; cases hc
    · obtain ⟨cur,hc⟩:=h.fs.row.type hq; rw [hr] at hc; cases hc
  · subst e
    obtain ⟨es,c,h1,_⟩:=h.tw.tm.ob
    exact ⟨fun e=>hnm h1 e.symm,fun cs t fz hk=>by rw [hr] at hk; cases hk⟩
  · obtain ⟨es,c,h1⟩:=h.mp.obj
    exact h.mp.to (hm.oth _ (row_lt h1) (hnm h1))
theorem GC.keep {B mb r g N:Nat} {X:Gh} {F:Fs} {Q:List (Nat × Nat × Value)} {d:List Sl} {Wb wr w3 w4:World} {left:Lit → Bool} {E E':List (Nat × Nat × Value)} (h:GC B mb r g X F Q d Wb left E wr) (hd:DOk d N) {x:Sl} (hx:x ∈ d) (hmb:¬ Own g F X mb) (hrb:¬ Own g F X r) (hne:mb ≠ r)
    (h3:ModP (fun k=>k=mb) wr w3) (ht:TwI B w3 mb X F ((Q ++ E) ++ E')) (hq:∃ q ∈ (Q ++ E) ++ E',q.1=x.2.toNat) {n4:Nat} (h4:MapIs w4 r n4 (updM (mixF left d X.fb (twB (Q ++ E))) x.1 (some (twB ((Q ++ E) ++ E') x.2.toNat)))) (ho:Only w3 w4 r) (hn4:n4=d.length):GC B mb r g X F Q d Wb (fun z=>left z && !z.sameKey (.string x.1.data.toList)) (E ++ E') w4:=by
  subst hn4
  obtain ⟨es,c,hr⟩:=h.mp.obj
  have hr3:=h3.row hr (fun e=>hne e.symm)
  have hm4:ModP (fun k=>k=r) w3 w4:=ModP.only ho rfl
  refine ⟨(h.md.trans (h3.weak (fun k _ e=>Or.inl e))).trans (hm4.weak (fun k _ e=>Or.inr e)),(h.fs.mod h3 (fun k e=>by subst e; exact hmb)).mod hm4 (fun k e=>by subst e; exact hrb),?_,?_,fun y hy hl=>?_⟩
  · rw [← List.append_assoc]
    refine ht.keep hm4 (fun k e=>?_)
    subst e
    exact ⟨fun e=>hne e.symm,fun cs t fz hk=>by rw [hr3] at hk; cases hk⟩
  · rw [← List.append_assoc,← mixF_put hd hx (h:=twB (Q ++ E)) (fun y hy hl=>twB_app (h.dn y hy hl))]
    exact h4
  · rw [← List.append_assoc]
    by_cases e:y=x
    · subst e; exact hq
    · have hnm:y.1 ≠ x.1:=fun e1=>by
        have h1:=findM_in hd.rise hy
        have h2:=findM_in hd.rise hx
        rw [e1,h2] at h1
        exact e (Prod.ext e1 h1.symm)
      have hl':left (.string y.1.data.toList)=false:=by
        have:=hl
        rw [sameK_ne hnm] at this
        simpa using this
      obtain ⟨q,h1,h2⟩:=h.dn y hy hl'
      exact ⟨q,List.mem_append_left _ h1,h2⟩
theorem mixF_no {left:Lit → Bool} (hl:∀ z,left z=false) (d:List Sl) (f h:Nat → Nat):mixF left d f h=dirF d h:=by
  funext m; unfold mixF; rw [hl]; simp
end Go.Proofs.YtbgbmfmgdgalbaaGreatDoor
namespace Go.Proofs.YtbgbmfmgdgalbaaGreatDoor
open Go.RowKit Go.Maps
set_option linter.unusedVariables false
set_option linter.unusedSimpArgs false
def DcR (B mb g:Nat) (X:Gh) (F:Fs) (Q:List (Nat × Nat × Value)) (d:List Sl) (w:World) (e:Ending) (w':World):Prop:=∃ E R,e=.returned (.map (some R))∧w.heap.size ≤ R∧R ≠ mb∧FsC w' g X F∧TwI B w' mb X F (Q ++ E)∧(∀ x ∈ d,∃ q ∈ Q ++ E,q.1=x.2.toNat)∧MapIs w' R d.length (dirF d (twB (Q ++ E)))∧ModP (fun k=>k=mb) w w'
set_option maxHeartbeats 4000000 in
set_option maxRecDepth 100000 in
theorem dclone_any (g mb md B N:Nat) (X:Gh) (F:Fs) (Q:List (Nat × Nat × Value)) (d:List Sl) (w:World) (h:FsC w g X F) (ht:TwI B w mb X F Q) (hB:B ≤ w.heap.size) (hd:DOk d N) (hm:MapIs w md d.length (dirF d X.fb)) (hlv:∀ x ∈ d,Live F X x.2.toNat) (hmb:¬ Own g F X mb) (hmd:Own g F X md):Calls Tryz.prog 46 #[.map (some md),.map (some mb)] w fun e w'=>DcR B mb g X F Q d w e w':=by
  have hMC:=mclone_any md d.length _ w hm
  have hmbl:mb < w.heap.size:=by obtain ⟨es,c,h1,_⟩:=ht.tm.ob; exact row_lt h1
  have hmdl:=h.own_lt hmd
  have HMC:Hid _:=hMC
  have HM:Hid (MapIs w md d.length (dirF d X.fb)):=hm
  have HF:Hid (FsC w g X F):=h
  have HT:Hid (TwI B w mb X F Q):=ht
  have HMB:Hid (¬ Own g F X mb):=hmb
  have HNE:Hid (mb ≠ md):=fun e=>hmb (by rw [e]; exact hmd)
  have HLV:Hid (∀ x ∈ d,Live F X x.2.toNat):=hlv
  have HDK:Hid (DOk d N):=hd
  have HLT:Hid (mb < w.heap.size∧md < w.heap.size∧B ≤ w.heap.size):=⟨hmbl,hmdl,hB⟩
  clear hMC h ht hd hlv hmb hmd hmbl hmdl hB hm
  go_enter Tryz.func46,Tryz.ntmps46
  go_upto_region 1 with fail
  go_wp2_with fail
  refine (show Calls _ _ _ _ _ from HMC.out).mono ?_
  rintro e Wb ⟨rfl,hm1,hb1⟩
  obtain ⟨r,hr⟩:∃ r,w.heap.size=r:=⟨_,rfl⟩
  rw [hr] at hm1
  rw [hr]
  have HR:Hid (w.heap.size=r):=hr
  have HM1:Hid (MapIs Wb r d.length (dirF d X.fb)):=hm1
  have HB1:Hid (Below w.heap.size w Wb):=hb1
  have HGS:Hid (mb < Wb.heap.size∧md < Wb.heap.size∧r < Wb.heap.size):=by
    have:=HLT.out; have:=hb1.size; have:=hm1.lt
    exact ⟨by omega,by omega,this⟩
  obtain ⟨D0,hown,hDI⟩:=HM.out.to (hb1.block md HLT.out.2.1)
  have HDI:Hid (DIs D0 d.length (dirF d X.fb)):=hDI
  have HFb:Hid (FsC Wb g X F):=HF.out.on hb1
  have HTb:Hid (TwI B Wb mb X F Q):=HT.out.on hb1
  have HRM:Hid (r ≠ mb∧r ≠ md∧¬ Own g F X r):=by
    have:=HLT.out
    refine ⟨by omega,by omega,fun ho=>?_⟩
    have:=HF.out.own_lt ho
    omega
  clear hm1 hb1 hDI HMC
  go_wp2_with (first
    | (at_range; refine wpList_range_own _ rfl _ 70 rfl 9 83 lawK Tryz.underlying70 _ md d.length _ rfl hown ?_; intro w0 hrg0 hg0 hs0)
    | go_in)
  go_frame
  go_loopw [6] (fun _ wi=>∃ left cnt E,wi.ranges Tryz.prog 9 ptrElem md Wb.heap.size d.length D0 left cnt∧GC B mb r g X F Q d Wb left E wi) (fun _ wi=>wi.rangeLeft md Wb.heap.size)
  case atStart =>
    have hbw:Below Wb.heap.size Wb w0:=⟨hg0.os,hg0.tape,hg0.output,hg0.size,fun k hk=>hg0.block k hk (by simp)⟩
    refine ⟨_,_,[],hrg0,ModP.below hbw,HFb.out.on hbw,by rw [List.append_nil]; exact HTb.out.on hbw,?_,fun x hx hl=>?_⟩
    · rw [List.append_nil]
      have h1:mixF (fun z=>Maps.has D0 z) d X.fb (twB Q)=dirF d X.fb:=by
        funext m
        unfold mixF
        have h2:=HDI.out.has m
        by_cases h3:Maps.has D0 (.string m.data.toList)=true
        · rw [if_pos h3]
        · rw [if_neg h3]
          have h4:(dirF d X.fb m).isSome=false:=by rw [← h2]; simpa using h3
          unfold dirF at h4 ⊢
          by_cases h5:findM d m < 0
          · rw [if_pos h5,if_pos h5]
          · rw [if_neg h5] at h4; cases h4
      rw [h1]
      exact HM1.out.to (hbw.block r HGS.out.2.2)
    · have h1:Maps.has D0 (.string x.1.data.toList)=true:=by
        rw [HDI.out.has]
        exact ((names_of HDK.out X.fb).mem x.1).1 (List.mem_map.2 ⟨x,hx,rfl⟩)
      rw [h1] at hl
      cases hl
  case round =>
    obtain ⟨left,cnt,E,hrg,hgd⟩:=hrel
    have HGD:Hid (GC B mb r g X F Q d Wb left E wr):=hgd
    have HRG:Hid (wr.ranges Tryz.prog 9 ptrElem md Wb.heap.size d.length D0 left cnt):=hrg
    clear hrg0 hg0 hs0 hown
    go_wp2_with (first
      | (at_next; refine wpList_next_ranges _ rfl _ rfl 9 lawK ptrElem encStr ptr (fun key kl hk=>by obtain ⟨x,hx,_⟩:=Maps.keyOf_str Tryz.underlying9 hk; exact ⟨x,hx⟩) ptrElem_shape md Wb.heap.size d.length _ _ _ rfl hrg ?_ ?_)
      | go_in)
    · intro hc0 hl0
      have HFIN:Hid (DcR B mb g X F Q d w (.returned (.map (some r))) wr):=by
        refine ⟨E,r,rfl,by rw [HR.out]; exact Nat.le_refl _,HRM.out.1,HGD.out.fs,HGD.out.tw,fun x hx=>HGD.out.dn x hx (hl0 _),?_,?_⟩
        · have:=HGD.out.mp
          rw [mixF_no hl0] at this
          exact this
        · refine (ModP.below HB1.out).andThen HGD.out.md (fun j hj hs=>?_)
          rcases hs with e | e
          · exact e
          · have:=HR.out; omega
      clear hrg hgd hl0 hc0
      go_wp2
      go_returns
      exact HFIN.out
    · intro x o kl yd yp w2 cnt2 hkey hlk hv hat hrg2 hlt2 hg2 hs2 hen
      obtain ⟨x',ex,rfl,_⟩:=Maps.keyOf_str Tryz.underlying9 hkey
      obtain rfl:x=x':=encStr_inj ex
      have hhas:Maps.has D0 (.string x)=true:=has_true_of_atKey hat
      have hnm:(⟨x.toArray⟩:ByteArray).data.toList=x:=by simp
      have hsome:(dirF d X.fb ⟨x.toArray⟩).isSome=true:=by rw [← HDI.out.has,hnm]; exact hhas
      obtain ⟨b,hb⟩:=Option.isSome_iff_exists.1 hsome
      obtain ⟨sl,hsl,hs1,i,hs2',hi,rfl,_⟩:=dirF_some HDK.out hb
      have hsi:sl.2.toNat=i:=by omega
      have hyd:yd=.lit (.int .i64 ((X.fb i:Nat):Int)):=by
        have h1:=HDI.out.at_ ⟨x.toArray⟩ _ hb (.lit (.int .i64 (-1)))
        rw [hnm,hat] at h1
        exact h1
      have ho:o=some (X.fb i):=by
        obtain ⟨o',e1,e2⟩:=ptrElem_inv hv
        have e3:o=o':=by
          rcases o with _ | a <;> rcases o' with _ | a' <;> simp [ptr] at e1 ⊢
          exact e1
        subst e3
        have e4:=congrArg Prod.fst e2
        simp only at e4
        rw [hyd] at e4
        rcases o with _ | a
        · have:((X.fb i:Nat):Int)=-1:=lit_inj e4
          omega
        · have h3:((X.fb i:Nat):Int)=(a:Int):=lit_inj e4
          have:a=X.fb i:=by omega
          rw [this]
      subst ho
      have hiter:∃ a b c e,wr.heap[Wb.heap.size]?=some (.mapIter a b c e):=by
        obtain ⟨es,clock,since,seen,c0,_,_,_,_,hri,_⟩:=HRG.out
        exact ⟨_,_,_,_,hri⟩
      have hgd2:=HGD.out.iter hg2 hiter (Nat.le_refl _)
      have hlx:left (.string sl.1.data.toList)=true:=by rw [hs1,hnm]; exact hlk
      have hli:Live F X i:=by rw [← hsi]; exact HLV.out sl hsl
      have hBw:B ≤ w2.heap.size:=by have:=HLT.out; have:=HB1.out.size; have:=hgd2.md.size; omega
      have HTW:Hid (Calls Tryz.prog 48 #[.pointer (some ⟨X.fb i,0,none⟩),.map (some mb)] w2 fun e w'=>TwR B mb X F (Q ++ E) i w2 e w'):=twin_any g i mb B X F (Q ++ E) w2 hgd2.fs hgd2.tw hBw hli
      have hnamed:=named_size (HDK.out.nam sl hsl)
      have hfew:=HDK.out.few
      have HNX:Hid (∀ E' w3,TwI B w3 mb X F ((Q ++ E) ++ E') → (∃ q ∈ (Q ++ E) ++ E',q.1=i) → ModP (fun k=>k=mb) w2 w3 → ∃ w4,(Instr.mapUpdate 70 (.map (some r)) (encStr x) (.pointer (some ⟨twB ((Q ++ E) ++ E') i,0,none⟩))).run Tryz.prog w3=.ok () w4∧(∃ left cnt E,w4.ranges Tryz.prog 9 ptrElem md Wb.heap.size d.length D0 left cnt∧GC B mb r g X F Q d Wb left E w4)∧w4.rangeLeft md Wb.heap.size=cnt2):=fun E' w3 q1 q2 q3=>by
        have hmr:MapIs w3 r d.length (mixF left d X.fb (twB (Q ++ E))):=by
          obtain ⟨es,c,h1⟩:=hgd2.mp.obj
          exact hgd2.mp.to (q3.oth r (row_lt h1) HRM.out.1)
        obtain ⟨w4,p1,p2,p3⟩:=hmr.put (m:=sl.1) (by unfold maxLen; omega) (by unfold maxLen; omega) (twB ((Q ++ E) ++ E') i)
        have hsm:(mixF left d X.fb (twB (Q ++ E)) sl.1).isSome=true:=by
          unfold mixF
          rw [hlx,if_pos rfl,hs1]
          exact hsome
        rw [hsm,if_pos rfl] at p2
        have q2':∃ q ∈ (Q ++ E) ++ E',q.1=sl.2.toNat:=by rw [hsi]; exact q2
        have p2':MapIs w4 r d.length (updM (mixF left d X.fb (twB (Q ++ E))) sl.1 (some (twB ((Q ++ E) ++ E') sl.2.toNat))):=by rw [hsi]; exact p2
        have hk4:GC B mb r g X F Q d Wb (fun z=>left z && !z.sameKey (.string sl.1.data.toList)) (E ++ E') w4:=hgd2.keep HDK.out hsl HMB.out HRM.out.2.2 (fun e=>HRM.out.1 e.symm) q3 q1 q2' p2' p3 rfl
        have hg4:w3.grownBy w4 (some r):=⟨p3.os,p3.tape,p3.output,by rw [p3.size]; exact Nat.le_refl _,fun k hk hne=>p3.other k (fun e=>hne (by rw [e]))⟩
        have hg3:w2.grownBy w3 (some mb):=⟨q3.os,q3.tape,q3.output,q3.size,fun k hk hne=>q3.oth k hk (fun e=>hne (by rw [e]))⟩
        have hrg3:=hrg2.kept hg3 (fun e=>by injection e with e; exact HNE.out e.symm) (fun e=>by
          injection e with e
          have:=HGS.out.1
          omega)
        have hrg4:=hrg3.kept hg4 (fun e=>by injection e with e; exact HRM.out.2.1 e.symm) (fun e=>by
          injection e with e
          have:=HGS.out.2.2
          omega)
        have hex:(Value.string sl.1)=encStr x:=by rw [hs1]
        rw [hex] at p1
        rw [hs1,hnm] at hk4
        exact ⟨w4,p1,⟨_,_,_,hrg4,hk4⟩,hrg4.left_eq⟩
      have HMEAS:Hid (cnt2 < wr.rangeLeft md Wb.heap.size):=by show _ < _; rw [HRG.out.left_eq]; exact hlt2
      obtain ⟨bb,hbb⟩:∃ bb,X.fb i=bb:=⟨_,rfl⟩
      rw [hbb] at hen HTW
      clear hkey hlk hv hat hrg2 hlt2 hg2 hs2 hhas hsome hb hsl hs1 hs2' hi hsi hyd hiter hgd2 hlx hli hBw hnamed hfew ex hbb hrg hgd
      unfold ptr at hen
      go_wp2_with fail
      refine (show Calls _ _ _ _ _ from HTW.out).mono ?_
      rintro e w3 ⟨E',rfl,q1,q2,q3⟩
      obtain ⟨w4,hput,hrel4,hme4⟩:=HNX.out E' w3 q1 q2 q3
      have HREL:Hid (∃ left cnt E,w4.ranges Tryz.prog 9 ptrElem md Wb.heap.size d.length D0 left cnt∧GC B mb r g X F Q d Wb left E w4):=hrel4
      have HME4:Hid (w4.rangeLeft md Wb.heap.size=cnt2):=hme4
      clear q1 q2 q3 hrel4 hme4 hen
      unfold ptr
      generalize twB (Q ++ E ++ E') i=tb at *
      go_wp2
      go_roundw
      case rel=>exact HREL.out
      case measure=>(rw [HME4.out]; exact HMEAS.out)
end Go.Proofs.YtbgbmfmgdgalbaaGreatDoor
