import Derived.Test.YtbgbmfmgdgalbaaGreatDoorM06
import Derived.Test.YtbgbmfmgdgalbaaGreatDoorM04
import Derived.Test.YtbgbmfmgdgalbaaGreatDoorM02
namespace Go.Proofs.YtbgbmfmgdgalbaaGreatDoor
open Go.RowKit Go.Maps
set_option linter.unusedVariables false
set_option linter.unusedSimpArgs false
def ChgP (w:World) (g:Nat) (a0 a1 a2 a4 a6:Value) (mn:Nat) (f:ByteArray → Option Nat) (cv:Value) (cs:List Pc) (c:Pc) (w':World):Prop:=∃ cv',w'.heap[g]?=some (.cells #[a0,a1,a2,.map (some mn),a4,cv',a6] 74)∧(∃ k,MapIs w' mn k (apF f c.n c.t c.b))∧w'.ownsRow 0 100 3 cv' (cs.length + 1) (pgE.fl (cs ++ [c]))∧ModP (fun k=>k=g ∨ k=mn ∨ cv.ownBlock=some k) w w'∧(∀ k,cv'.ownBlock=some k → cv.ownBlock=some k ∨ w.heap.size ≤ k)
theorem row3_keep {W W':World} {R T:Nat} {a0 a1 a2:Value} (h:W.heap[R]?=some (.cells #[a0,a1,a2] T)) (hb:Below W.heap.size W W'):W'.heap[R]?=some (.cells #[a0,a1,a2] T):=(hb.block R (row_lt h)).trans h
set_option maxHeartbeats 8000000 in
set_option maxRecDepth 100000 in
theorem change_any (g:Nat) (a0 a1 a2 a4 a6:Value) (mn k0:Nat) (f:ByteArray → Option Nat) (cv:Value) (cs:List Pc) (c:Pc) (hn:c.n.size ≤ 140737488355328) (ht:c.t.size ≤ 140737488355328) (hk:k0 ≤ 1099511627776) (hcs:cs.length ≤ 3298534883328) (w:World) (hg:w.heap[g]?=some (.cells #[a0,a1,a2,.map (some mn),a4,cv,a6] 74)) (hm:MapIs w mn k0 f) (hc:w.ownsRow 0 100 3 cv cs.length (pgE.fl cs)) :
    Calls Tryz.prog 116 #[ptr (some g),.agg #[.string c.n,.string c.t,ptr (some c.b)]] w fun e w'=>e=.returned (.tuple #[])∧ChgP w g a0 a1 a2 a4 a6 mn f cv cs c w':=by
  obtain ⟨n,t,b⟩:=c
  obtain ⟨R,hR⟩:∃ R,w.heap.size=R:=⟨_,rfl⟩
  obtain ⟨W0,hW0⟩:∃ W0,w.alloc (.cells #[.string n,.string t,ptr (some b)] 100)=W0:=⟨_,rfl⟩
  have hb0:Below R w W0:=by rw [← hW0]; exact (Below.refl _ _).alloc (by omega) _
  have hr0:W0.heap[R]?=some (.cells #[.string n,.string t,ptr (some b)] 100):=by rw [← hW0,← hR]; exact one_alloc _ _
  have HCN:Hid (∀ W,Calls Tryz.prog 117 #[.string n] W fun e w'=>e=.returned (.string n)∧Below W.heap.size W w'):=fun W=>clone_any n (by simp at hn; omega) W
  have HCT:Hid (∀ W,Calls Tryz.prog 117 #[.string t] W fun e w'=>e=.returned (.string t)∧Below W.heap.size W w'):=fun W=>clone_any t (by simp at ht; omega) W
  have HRW:Hid (∀ W,Below W0.heap.size W0 W → (W.cell? ⟨R,0,none⟩=some (.string n)∧W.cell? ⟨R,1,none⟩=some (.string t))∧W.frozen? ⟨R,0,none⟩=false∧W.frozen? ⟨R,1,none⟩=false):=fun W hW=>by
    obtain ⟨r0,r1,_,rf⟩:=row3 (row3_keep hr0 hW)
    exact ⟨⟨r0,r1⟩,rf 0,rf 1⟩
  have HST:Hid (∀ W,Below W0.heap.size W0 W → ((W.setCell ⟨R,0,none⟩ (.string n)).cell? ⟨R,0,none⟩=some (.string n)∧(W.setCell ⟨R,0,none⟩ (.string n)).cell? ⟨R,1,none⟩=some (.string t))∧((W.setCell ⟨R,1,none⟩ (.string t)).cell? ⟨R,0,none⟩=some (.string n)∧(W.setCell ⟨R,1,none⟩ (.string t)).cell? ⟨R,1,none⟩=some (.string t))∧(((W.setCell ⟨R,0,none⟩ (.string n)).setCell ⟨R,1,none⟩ (.string t)).cell? ⟨R,0,none⟩=some (.string n)∧((W.setCell ⟨R,0,none⟩ (.string n)).setCell ⟨R,1,none⟩ (.string t)).cell? ⟨R,1,none⟩=some (.string t))∧(((W.setCell ⟨R,1,none⟩ (.string t)).setCell ⟨R,0,none⟩ (.string n)).cell? ⟨R,0,none⟩=some (.string n)∧((W.setCell ⟨R,1,none⟩ (.string t)).setCell ⟨R,0,none⟩ (.string n)).cell? ⟨R,1,none⟩=some (.string t))):=fun W hW=>by
    have h1:=row3_keep hr0 hW
    have h2:(W.setCell ⟨R,0,none⟩ (.string n)).heap[R]?=some (.cells #[.string n,.string t,ptr (some b)] 100):=heap_setCell_same W R 0 _ _ _ h1
    have h3:(W.setCell ⟨R,1,none⟩ (.string t)).heap[R]?=some (.cells #[.string n,.string t,ptr (some b)] 100):=heap_setCell_same W R 1 _ _ _ h1
    have h4:((W.setCell ⟨R,0,none⟩ (.string n)).setCell ⟨R,1,none⟩ (.string t)).heap[R]?=some (.cells #[.string n,.string t,ptr (some b)] 100):=heap_setCell_same _ R 1 _ _ _ h2
    have h5:((W.setCell ⟨R,1,none⟩ (.string t)).setCell ⟨R,0,none⟩ (.string n)).heap[R]?=some (.cells #[.string n,.string t,ptr (some b)] 100):=heap_setCell_same _ R 0 _ _ _ h3
    exact ⟨⟨(row3 h2).1,(row3 h2).2.1⟩,⟨(row3 h3).1,(row3 h3).2.1⟩,⟨(row3 h4).1,(row3 h4).2.1⟩,⟨(row3 h5).1,(row3 h5).2.1⟩⟩
  have HR0:Hid (W0.heap[R]?=some (.cells #[.string n,.string t,ptr (some b)] 100)):=hr0
  have HB0:Hid (Below R w W0):=hb0
  have HG:Hid (w.heap[g]?=some (.cells #[a0,a1,a2,.map (some mn),a4,cv,a6] 74)):=hg
  have HM:Hid (MapIs w mn k0 f):=hm
  have HC:Hid (w.ownsRow 0 100 3 cv cs.length (pgE.fl cs)):=hc
  have HR:Hid (w.heap.size=R):=hR
  clear hb0 hr0 hg hm hc
  obtain ⟨r00,r01,rf0,rf1⟩:(W0.drew.cell? ⟨R,0,none⟩=some (.string n))∧W0.drew.cell? ⟨R,1,none⟩=some (.string t)∧W0.drew.frozen? ⟨R,0,none⟩=false∧W0.drew.frozen? ⟨R,1,none⟩=false:=by
    obtain ⟨⟨x1,x2⟩,x3,x4⟩:=HRW.out _ (Below.refl _ W0)
    exact ⟨x1,x2,x3,x4⟩
  have hx0:Below W0.heap.size W0 W0.drew:=(Below.refl _ _).drew
  have hW0':w.alloc (.cells #[.string n,.string t,.pointer (some ⟨b,0,none⟩)] 100)=W0:=hW0
  clear hW0
  unfold ptr
  go_enter Tryz.func116,Tryz.ntmps116
  go_upto_region 1 with fail
  go_region_held3 (fun W:World=>W.cell? ⟨R,0,none⟩=some (.string n)∧W.cell? ⟨R,1,none⟩=some (.string t))
    (first | with_reducible exact ⟨r00,r01⟩ | with_reducible exact (HRW.out _ hx0).1 | with_reducible exact (HRW.out _ hx1).1 | with_reducible exact (HRW.out _ hx2).1 | with_reducible exact (HST.out _ hx1).1 | with_reducible exact (HST.out _ hx1).2.1 | with_reducible exact (HST.out _ hx1).2.2.1 | with_reducible exact (HST.out _ hx1).2.2.2 | with_reducible exact (HST.out _ hx2).1 | with_reducible exact (HST.out _ hx2).2.1 | with_reducible exact (HST.out _ hx2).2.2.1 | with_reducible exact (HST.out _ hx2).2.2.2)
    (first
      | (go_at_call 117; with_reducible refine (show Calls _ _ _ _ _ from HCN.out _).mono ?_; rintro e w1 ⟨rfl,hy1⟩; have hx1:Below W0.heap.size W0 w1:=(by first | exact bel_to hx0 hy1 (Nat.le_refl _) | exact bel_to hx2 hy1 (Nat.le_refl _)); obtain ⟨⟨_,_⟩,fa1,fb1⟩:=HRW.out _ hx1)
      | (go_at_call 117; with_reducible refine (show Calls _ _ _ _ _ from HCT.out _).mono ?_; rintro e w2 ⟨rfl,hy2⟩; have hx2:Below W0.heap.size W0 w2:=(by first | exact bel_to hx0 hy2 (Nat.le_refl _) | exact bel_to hx1 hy2 (Nat.le_refl _)); obtain ⟨⟨_,_⟩,fa2,fb2⟩:=HRW.out _ hx2))
  obtain ⟨W3,hW3⟩:∃ W3,(w2.setCell ⟨R,0,none⟩ (.string n)).setCell ⟨R,1,none⟩ (.string t)=W3:=⟨_,rfl⟩
  have hr3:W3.heap[R]?=some (.cells #[.string n,.string t,.pointer (some ⟨b,0,none⟩)] 100):=by
    have h1:=row3_keep HR0.out hx2
    have h2:(w2.setCell ⟨R,0,none⟩ (.string n)).heap[R]?=some (.cells #[.string n,.string t,ptr (some b)] 100):=heap_setCell_same w2 R 0 _ _ _ h1
    rw [← hW3]; exact heap_setCell_same _ R 1 _ _ _ h2
  have hsz0:W0.heap.size=R + 1:=by rw [← hW0',← hR]; simp
  have hb3:Below R w W3:=by
    rw [← hW3]
    exact ((HB0.out.trans (hx2.mono (by omega))).setCell (p:=⟨R,0,none⟩) (Nat.le_refl _) _).setCell (p:=⟨R,1,none⟩) (Nat.le_refl _) _
  rw [hW3]
  have HR3:Hid (W3.heap[R]?=some (.cells #[.string n,.string t,.pointer (some ⟨b,0,none⟩)] 100)):=hr3
  have HB3:Hid (Below R w W3):=hb3
  have hb3':Below w.heap.size w W3:=by rw [hR]; exact hb3
  have hg3:=(hb3'.block g (row_lt HG.out)).trans HG.out
  have HG3:Hid (W3.heap[g]?=some (.cells #[a0,a1,a2,.map (some mn),a4,cv,a6] 74)):=hg3
  have HM3:Hid (MapIs W3 mn k0 f):=HM.out.to (hb3'.block mn HM.out.lt)
  have HC3:Hid (W3.ownsRow 0 100 3 cv cs.length (pgE.fl cs)):=own_bel HC.out hb3'
  have HRS:Hid (R < W3.heap.size):=row_lt hr3
  have HGR:Hid (g < R∧mn < R):=⟨by rw [← hR]; exact row_lt HG.out,by rw [← hR]; exact HM.out.lt⟩
  have HAP:Hid (∀ m,Calls Tryz.prog 85 #[.map (some mn),.agg #[.string n,.string t,ptr (some b)]] (W3.drewN m) fun e w'=>e=.returned (.tuple #[])∧ModP (fun j=>j=mn) (W3.drewN m) w'∧∃ k',k' ≤ k0 + 1∧MapIs w' mn k' (apF f n t b)):=fun m=>apply_any mn k0 f n t b hn ht hk (W3.drewN m) HM3.out
  obtain ⟨r0,r1,r2,_⟩:=row3 hr3
  obtain ⟨_,_,_,g3,_,_,_,_⟩:=fsC7 hg3
  clear hW3 hr3 hb3 hb3' hg3 hx0 hx1 hx2 hy1 hy2 fa1 fb1 fa2 fb2 r00 r01 rf0 rf1 hW0' hsz0 HST HRW HCN HCT
  unfold ptr at HAP
  go_wp2_with fail
  have d0:W3.drew.cell? ⟨R,0,none⟩=some (.string n):=r0
  have d1:W3.drew.cell? ⟨R,1,none⟩=some (.string t):=r1
  have d2:W3.drew.cell? ⟨R,2,none⟩=some (.pointer (some ⟨b,0,none⟩)):=r2
  have d3:W3.drew.cell? ⟨g,3,none⟩=some (.map (some mn)):=g3
  go_region_held3 (fun W:World=>W.cell? ⟨R,0,none⟩=some (.string n)∧W.cell? ⟨R,1,none⟩=some (.string t)∧W.cell? ⟨R,2,none⟩=some (.pointer (some ⟨b,0,none⟩))∧W.cell? ⟨g,3,none⟩=some (.map (some mn)))
    (first | with_reducible exact ⟨d0,d1,d2,d3⟩ | with_reducible exact ⟨r0,r1,r2,g3⟩ | with_reducible exact ⟨q0,q1,q2,q3⟩)
    (first
      | (go_at_call 85; refine (show Calls _ _ _ _ _ from HAP.out 1).mono ?_; rintro e w4 ⟨rfl,hm4,hk4⟩; obtain ⟨q0,q1,q2,_⟩:=row3 ((hm4.oth R (by have:=HRS.out; exact this) (by have:=HGR.out; omega)).trans HR3.out); have hg4:=(hm4.oth g (by have:=HRS.out; have:=HGR.out; show g < W3.heap.size; omega) (fun e=>HM3.out.ne HG3.out e.symm)).trans HG3.out; obtain ⟨_,_,_,q3,_,q5,_,qf⟩:=fsC7 hg4))
  obtain ⟨Q,cc,hcv⟩:=own_form HC.out
  subst hcv
  have HCA:Hid (w4.ownsRow 0 100 3 (.slice Q cs.length cc) cs.length (pgE.fl cs)):=own_to HC3.out (fun k hk=>by
    obtain ⟨cur,hc⟩:=own_type HC3.out hk
    exact hm4.oth k (row_lt hc) (fun e=>HM3.out.ne hc e.symm))
  have HM4:Hid (ModP (fun j=>j=mn) W3 w4):=⟨hm4.os,hm4.tape,hm4.output,hm4.size,hm4.oth⟩
  have HK4:Hid (∃ k',k' ≤ k0 + 1∧MapIs w4 mn k' (apF f n t b)):=hk4
  have HG4:Hid (w4.heap[g]?=some (.cells #[a0,a1,a2,.map (some mn),a4,.slice Q cs.length cc,a6] 74)):=hg4
  have HGL:Hid (g < w4.heap.size):=row_lt hg4
  have s5:w4.drew.cell? ⟨g,5,none⟩=some (.slice Q cs.length cc):=q5
  have s0:w4.drew.cell? ⟨R,0,none⟩=some (.string n):=q0
  have s1:w4.drew.cell? ⟨R,1,none⟩=some (.string t):=q1
  have s2:w4.drew.cell? ⟨R,2,none⟩=some (.pointer (some ⟨b,0,none⟩)):=q2
  have s5a:=cell_on q5 ((Below.refl _ w4).alloc (Nat.le_refl _) (.cells #[.string n,.string t,.pointer (some ⟨b,0,none⟩)] 100))
  clear hm4 hk4 hg4 d0 d1 d2 d3 r0 r1 r2 g3 q3 qf
  go_wp2_with fail
  go_region_law (first
    | (refine step_appG pgOk #[.string n,.string t,.pointer (some ⟨b,0,none⟩)] ⟨n,t,b⟩ rfl rfl (.tmp 22) (.tmp 24) rfl (.slice Q cs.length cc) cs rfl (own_alloc (w:=w4) HCA.out _) w4.heap.size rfl (one_alloc _ _) (by unfold maxLen; omega) (by show _ * 40 ≤ _; omega) ?_; intro v5 w5 ho5 hg5 hl5; have hb5:w5.heap[g]?=some (.cells #[a0,a1,a2,.map (some mn),a4,.slice Q cs.length cc,a6] 74):=((hg5.block g (by have:=HGL.out; simp; omega) (fun e=>(by obtain ⟨cur,hc⟩:=own_type HCA.out e.symm; have:=hc.symm.trans HG4.out; injection this with this; injection this with _ h2; exact absurd h2 (by decide)))).trans (heap_alloc_old w4 _ HGL.out)).trans HG4.out; obtain ⟨P5,k5,hf5⟩:=own_form ho5; subst hf5; obtain ⟨_,_,_,_,_,t5,_,tfx⟩:=fsC7 hb5; have tf:=tfx 5))
  all_goals
    go_end0
    refine ⟨rfl,.slice P5 (cs.length + 1) k5,?_,?_,?_,?_,?_⟩
    · exact heap_setCell_same w5 g 5 _ _ _ hb5
    · obtain ⟨k',_,hk'⟩:=HK4.out
      refine ⟨k',hk'.to ?_⟩
      have hmg:mn ≠ g:=HM.out.ne HG.out
      rw [heap_setCell_other _ _ _ _ hmg]
      refine (hg5.block mn (by have:=hk'.lt; simp; omega) (fun e=>?_)).trans (heap_alloc_old w4 _ hk'.lt)
      obtain ⟨cur,hc⟩:=own_type HCA.out e.symm
      exact hk'.ne hc rfl
    · refine own_to ho5 (fun k hk=>?_)
      have hne:k ≠ g:=fun e=>by
        subst e
        obtain ⟨cur,hc⟩:=own_type ho5 hk
        have:=hc.symm.trans hb5
        injection this with this
        injection this with _ h2
        exact absurd h2 (by decide)
      exact heap_setCell_other _ _ _ _ hne
    · have m1:ModP (fun k=>k=g ∨ k=mn ∨ (Value.slice Q cs.length cc).ownBlock=some k) w W3:=ModP.below (by rw [HR.out]; exact HB3.out)
      have m2:ModP (fun k=>k=g ∨ k=mn ∨ (Value.slice Q cs.length cc).ownBlock=some k) W3 w4:=HM4.out.weak (fun k _ e=>Or.inr (Or.inl e))
      have m3:ModP (fun k=>k=g ∨ k=mn ∨ (Value.slice Q cs.length cc).ownBlock=some k) w4 (w4.alloc (.cells #[.string n,.string t,.pointer (some ⟨b,0,none⟩)] 100)):=ModP.below ((Below.refl _ _).alloc (Nat.le_refl _) _)
      have m4:ModP (fun k=>k=g ∨ k=mn ∨ (Value.slice Q cs.length cc).ownBlock=some k) (w4.alloc (.cells #[.string n,.string t,.pointer (some ⟨b,0,none⟩)] 100)) w5:=⟨hg5.os,hg5.tape,hg5.output,hg5.size,fun k hk hn=>hg5.block k hk (fun e=>hn (Or.inr (Or.inr e.symm)))⟩
      exact (((m1.trans m2).trans m3).trans m4).trans (ModP.only ((Only.refl _ _).set _ _) (Or.inl rfl))
    · intro k hk
      rcases hl5 with h1 | h1
      · rw [h1] at hk; exact Or.inl hk
      · rw [h1] at hk
        refine Or.inr ?_
        cases hk
        have h2:=HM4.out.size
        have h3:=HB3.out.size
        simp
        omega
end Go.Proofs.YtbgbmfmgdgalbaaGreatDoor
namespace Go.Proofs.YtbgbmfmgdgalbaaGreatDoor
open Go.RowKit Go.Maps
set_option linter.unusedVariables false
set_option linter.unusedSimpArgs false
theorem findM_cons (x:Sl) (l:List Sl) (m:ByteArray):findM (x :: l) m=if x.1=m then x.2 else findM l m:=by
  unfold findM
  rw [List.find?_cons]
  by_cases h:x.1=m
  · simp [h]
  · simp [h]
theorem boundL_true (n:ByteArray) (f:Int):∀ d,boundL n f true d=(true,d.filter fun x=>decide (x.1 ≠ n))
  | []=>rfl
  | x :: d=>by
    unfold boundL
    simp only [Bool.not_true,Bool.false_and,Bool.or_false]
    rw [boundL_true n f d]
    by_cases h:x.1=n
    · simp [h]
    · simp [h]
theorem bound_del {d:List Sl} {n:ByteArray} {f:Int} (hf:f < 0):boundM d n f=d.filter fun x=>decide (x.1 ≠ n):=by
  unfold boundM
  rw [decide_eq_true hf,boundL_true]
  simp
def below_ (n:ByteArray) (d:List Sl):List Sl:=d.filter fun x=>ltB x.1 n
def above_ (n:ByteArray) (d:List Sl):List Sl:=d.filter fun x=>ltB n x.1
theorem filter_all {α:Type} {p:α → Bool} {l:List α} (h:∀ x ∈ l,p x=true):l.filter p=l:=List.filter_eq_self.2 h
theorem filter_none {α:Type} {p:α → Bool} {l:List α} (h:∀ x ∈ l,p x=false):l.filter p=[]:=by
  rw [List.filter_eq_nil_iff]; intro x hx; simp [h x hx]
theorem boundL_false (n:ByteArray) (f:Int):∀ d:List Sl,(d.Pairwise fun a b=>ltB a.1 b.1=true) → (boundL n f false d).2 ++ (if (boundL n f false d).1 then [] else [(n,f)])=below_ n d ++ (n,f) :: above_ n d
  | [],_=>rfl
  | x :: d,h=>by
    rw [List.pairwise_cons] at h
    unfold boundL
    simp only [Bool.not_false,Bool.true_and,Bool.false_or]
    rcases hx:ltB n x.1 with _ | _
    · have ih:=boundL_false n f d h.2
      simp only [Bool.false_eq_true,if_false,List.nil_append]
      by_cases hn:x.1=n
      · rw [if_pos hn,List.nil_append,ih]
        unfold below_ above_
        rw [List.filter_cons,List.filter_cons,hn,ltB_irr]
        simp
      · have hlt:ltB x.1 n=true:=by
          rcases h2:ltB x.1 n with _ | _
          · exact absurd (ltB_tri h2 hx) hn
          · rfl
        rw [if_neg hn,List.append_assoc,ih]
        unfold below_ above_
        rw [List.filter_cons,List.filter_cons,hlt,hx]
        simp
    · have hne:¬ x.1=n:=fun e=>by rw [e,ltB_irr] at hx; cases hx
      rw [boundL_true]
      simp only [if_true,List.append_nil,if_neg hne]
      have h1:∀ y ∈ d,ltB n y.1=true:=fun y hy=>ltB_trans hx (h.1 y hy)
      have e1:d.filter (fun y=>decide (y.1 ≠ n))=d:=filter_all (fun y hy=>by
        have:=h1 y hy
        simp only [decide_eq_true_eq]
        intro e; rw [e,ltB_irr] at this; cases this)
      have e2:below_ n (x :: d)=[]:=filter_none (fun y hy=>by
        rcases List.mem_cons.1 hy with rfl | hy
        · exact ltB_asym hx
        · exact ltB_asym (h1 y hy))
      have e3:above_ n (x :: d)=x :: d:=filter_all (fun y hy=>by
        rcases List.mem_cons.1 hy with rfl | hy
        · exact hx
        · exact h1 y hy)
      rw [e1,e2,e3]
      rfl
theorem bound_put {d:List Sl} {n:ByteArray} {f:Int} (hf:¬ f < 0) (hd:d.Pairwise fun a b=>ltB a.1 b.1=true):boundM d n f=below_ n d ++ (n,f) :: above_ n d:=by
  unfold boundM
  rw [decide_eq_false hf]
  exact boundL_false n f d hd
theorem find_filter (m:ByteArray) (p:Sl → Bool):∀ d:List Sl,(∀ x ∈ d,x.1=m → p x=true) → findM (d.filter p) m=findM d m
  | [],_=>rfl
  | x :: d,h=>by
    have ih:=find_filter m p d (fun y hy=>h y (List.mem_cons_of_mem _ hy))
    rw [List.filter_cons,findM_cons]
    by_cases hx:x.1=m
    · rw [h x (by simp) hx,if_pos rfl,findM_cons,if_pos hx,if_pos hx]
    · rw [if_neg hx]
      rcases hp:p x with _ | _
      · simpa using ih
      · simp only [if_true]; rw [findM_cons,if_neg hx]; exact ih
theorem findM_app (a b:List Sl) (m:ByteArray) (h:∀ x ∈ a,x.1 ≠ m):findM (a ++ b) m=findM b m:=by
  induction a with
  | nil=>rfl
  | cons x a ih =>
    rw [List.cons_append,findM_cons,if_neg (h x (by simp))]
    exact ih (fun y hy=>h y (List.mem_cons_of_mem _ hy))
theorem findM_del (d:List Sl) (n m:ByteArray) (f:Int) (hf:f < 0):findM (boundM d n f) m=if m=n then -1 else findM d m:=by
  rw [bound_del hf]
  by_cases h:m=n
  · rw [if_pos h]
    refine findM_none (fun x hx=>?_)
    have:=(List.mem_filter.1 hx).2
    simp at this
    rw [h]; exact this
  · rw [if_neg h]
    refine find_filter m _ d (fun x _ hx=>?_)
    simp only [decide_eq_true_eq]
    rw [hx]; exact h
theorem findM_put {d:List Sl} (hd:d.Pairwise fun a b=>ltB a.1 b.1=true) (n m:ByteArray) (f:Int) (hf:¬ f < 0):findM (boundM d n f) m=if m=n then f else findM d m:=by
  rw [bound_put hf hd]
  by_cases h:m=n
  · rw [if_pos h]
    subst h
    rw [findM_app _ _ _ (fun x hx=>by
      have:=(List.mem_filter.1 hx).2
      intro e; rw [e,ltB_irr] at this; cases this),findM_cons,if_pos rfl]
  · rw [if_neg h]
    rcases h2:ltB m n with _ | _
    · have h3:ltB n m=true:=by
        rcases h3:ltB n m with _ | _
        · exact absurd (ltB_tri h2 h3) h
        · rfl
      rw [findM_app _ _ _ (fun x hx=>by
        have:=(List.mem_filter.1 hx).2
        intro e; rw [e,h2] at this; cases this),findM_cons,if_neg (fun e=>h e.symm)]
      exact find_filter m _ d (fun x _ hx=>by rw [hx]; exact h3)
    · have e1:findM (above_ n d) m=-1:=findM_none (fun x hx e=>by
        have:=(List.mem_filter.1 hx).2
        rw [e,ltB_asym h2] at this; cases this)
      have key:∀ l:List Sl,findM l m=findM (below_ n d) m → True:=fun _ _=>trivial
      have e2:findM (below_ n d) m=findM d m:=find_filter m _ d (fun x _ hx=>by rw [hx]; exact h2)
      rw [← e2]
      have:∀ a b:List Sl,findM b m=-1 → findM (a ++ b) m=findM a m:=fun a=>by
        induction a with
        | nil=>intro b hb; exact hb
        | cons x a ih=>intro b hb; rw [List.cons_append,findM_cons,findM_cons,ih b hb]
      exact this _ _ (by rw [findM_cons,if_neg (fun e=>h e.symm)]; exact e1)
theorem len_split (n:ByteArray):∀ d:List Sl,(below_ n d).length + (above_ n d).length + (if d.any (fun x=>decide (x.1=n)) then 1 else 0) ≤ d.length
  | []=>by simp [below_,above_]
  | x :: d=>by
    have ih:=len_split n d
    unfold below_ above_ at *
    rw [List.filter_cons,List.filter_cons,List.any_cons]
    by_cases hn:x.1=n
    · rw [hn,ltB_irr]
      simp only [Bool.false_eq_true,if_false,decide_true,Bool.true_or,if_true,List.length_cons]
      split at ih <;> omega
    · rw [decide_eq_false hn,Bool.false_or]
      generalize (if (d.any fun x=>decide (x.1=n))=true then 1 else 0)=q at *
      rcases h1:ltB x.1 n with _ | _
      · rcases h2:ltB n x.1 with _ | _
        · simp only [Bool.false_eq_true,if_false,List.length_cons]; omega
        · simp only [Bool.false_eq_true,if_false,if_true,List.length_cons]; omega
      · rw [ltB_asym h1]
        simp only [Bool.false_eq_true,if_false,if_true,List.length_cons]; omega
theorem pair_ne {d:List Sl} (h:d.Pairwise fun a b=>a.2 ≠ b.2) {a b:Sl} (ha:a ∈ d) (hb:b ∈ d) (hne:a ≠ b):a.2 ≠ b.2:=by
  induction d with
  | nil=>cases ha
  | cons x d ih =>
    rw [List.pairwise_cons] at h
    rcases List.mem_cons.1 ha with e1 | ha' <;> rcases List.mem_cons.1 hb with e2 | hb'
    · exact absurd (e1.trans e2.symm) hne
    · rw [e1]; exact h.1 b hb'
    · rw [e2]; exact Ne.symm (h.1 a ha')
    · exact ih h.2 ha' hb'
theorem DOk.filter {d:List Sl} {N:Nat} (h:DOk d N) (p:Sl → Bool):DOk (d.filter p) N:=
  ⟨h.rise.filter p,fun x hx=>h.nam x (List.mem_filter.1 hx).1,fun x hx=>h.ge x (List.mem_filter.1 hx).1,fun x hx=>h.lt x (List.mem_filter.1 hx).1,h.uni.filter p,Nat.le_trans (List.length_filter_le _ _) h.few⟩
theorem DOk.mono {d:List Sl} {N N':Nat} (h:DOk d N) (hn:N ≤ N'):DOk d N':=⟨h.rise,h.nam,h.ge,fun x hx=>by have:=h.lt x hx; omega,h.uni,h.few⟩
theorem DOk.del {d:List Sl} {N:Nat} (h:DOk d N) (n:ByteArray) {f:Int} (hf:f < 0):DOk (boundM d n f) N:=by rw [bound_del hf]; exact h.filter _
theorem DOk.put {d:List Sl} {N:Nat} (h:DOk d N) {n:ByteArray} {f:Int} (hn:namedM n=true) (hf:0 ≤ f) (hfN:f < (N:Int)) (hu:∀ x ∈ d,x.1 ≠ n → x.2 ≠ f) (hl:d.length < 64 ∨ ∃ x ∈ d,x.1=n):DOk (boundM d n f) N:=by
  rw [bound_put (by omega) h.rise]
  have hA:∀ x ∈ below_ n d,x ∈ d∧ltB x.1 n=true:=fun x hx=>List.mem_filter.1 hx
  have hB:∀ x ∈ above_ n d,x ∈ d∧ltB n x.1=true:=fun x hx=>List.mem_filter.1 hx
  have nA:∀ x ∈ below_ n d,x.1 ≠ n:=fun x hx e=>by have:=(hA x hx).2; rw [e,ltB_irr] at this; cases this
  have nB:∀ x ∈ above_ n d,x.1 ≠ n:=fun x hx e=>by have:=(hB x hx).2; rw [e,ltB_irr] at this; cases this
  have mem:∀ x ∈ below_ n d ++ (n,f) :: above_ n d,x ∈ d ∨ x=(n,f):=fun x hx=>by
    rcases List.mem_append.1 hx with hx | hx
    · exact Or.inl (hA x hx).1
    · rcases List.mem_cons.1 hx with hx | hx
      · exact Or.inr hx
      · exact Or.inl (hB x hx).1
  refine ⟨?_,fun x hx=>?_,fun x hx=>?_,fun x hx=>?_,?_,?_⟩
  · rw [List.pairwise_append,List.pairwise_cons]
    refine ⟨h.rise.filter _,⟨fun x hx=>(hB x hx).2,h.rise.filter _⟩,fun a ha b hb=>?_⟩
    rcases List.mem_cons.1 hb with rfl | hb
    · exact (hA a ha).2
    · exact ltB_trans (hA a ha).2 (hB b hb).2
  · rcases mem x hx with hx | rfl
    · exact h.nam x hx
    · exact hn
  · rcases mem x hx with hx | rfl
    · exact h.ge x hx
    · exact hf
  · rcases mem x hx with hx | rfl
    · exact h.lt x hx
    · exact hfN
  · rw [List.pairwise_append,List.pairwise_cons]
    refine ⟨h.uni.filter _,⟨fun x hx=>fun e=>hu x (hB x hx).1 (nB x hx) e.symm,h.uni.filter _⟩,fun a ha b hb=>?_⟩
    rcases List.mem_cons.1 hb with rfl | hb
    · exact hu a (hA a ha).1 (nA a ha)
    · intro e
      have:a=b:=Classical.byContradiction (fun hne=>pair_ne h.uni (hA a ha).1 (hB b hb).1 hne e)
      subst this
      have h1:=(hA a ha).2
      rw [ltB_asym (hB a hb).2] at h1; cases h1
  · rw [List.length_append,List.length_cons]
    have h1:=len_split n d
    have h2:=h.few
    rcases hl with hl | ⟨x,hx,e⟩
    · split at h1 <;> omega
    · have:d.any (fun x=>decide (x.1=n))=true:=by rw [List.any_eq_true]; exact ⟨x,hx,by simpa using e⟩
      rw [if_pos this] at h1; omega
end Go.Proofs.YtbgbmfmgdgalbaaGreatDoor
