import Derived.Test.YtijambehfobopaaGreatDoorWAP
namespace Go.Proofs.YtijambehfobopaaGreatDoor
open Go.RowKit
set_option linter.unusedVariables false
set_option linter.unusedSimpArgs false
structure Fr (w w':World) (P:Nat → Prop):Prop where
  os:w'.os=w.os
  tape:w'.tape=w.tape
  output:w'.output=w.output
  size:w.heap.size ≤ w'.heap.size
  block:∀ k,k < w.heap.size → ¬ P k → w'.heap[k]?=w.heap[k]?
theorem Fr.trans {a b c:World} {P:Nat → Prop} (h1:Fr a b P) (h2:Fr b c P):Fr a c P:=
  ⟨h2.os.trans h1.os,h2.tape.trans h1.tape,h2.output.trans h1.output,Nat.le_trans h1.size h2.size,fun k hk hn=>(h2.block k (Nat.lt_of_lt_of_le hk h1.size) hn).trans (h1.block k hk hn)⟩
theorem Fr.of_below {a b:World} {P:Nat → Prop} (h:Below a.heap.size a b):Fr a b P:=⟨h.os,h.tape,h.output,h.size,fun k hk _=>h.block k hk⟩
theorem Fr.of_grown {a b:World} {P:Nat → Prop} {row:Option Nat} (h:a.grownBy b row) (hr:∀ k,row=some k → P k):Fr a b P:=⟨h.os,h.tape,h.output,h.size,fun k hk hn=>h.block k hk (fun e=>hn (hr k e.symm))⟩
theorem Fr.set {a:World} {P:Nat → Prop} (p:Addr) (v:Value) (hp:P p.block):Fr a (a.setCell p v) P:=⟨rfl,rfl,rfl,by rw [World.size_setCell]; exact Nat.le_refl _,fun k hk hn=>heap_setCell_other _ _ _ _ (fun e=>hn (by rw [e]; exact hp))⟩
theorem cntN_filter:∀ vs:List Nd,cntN (vs.filter okN)=cntN vs
  | []=>rfl
  | n :: vs=>by
    have ih:=cntN_filter vs
    unfold cntN at ih ⊢
    by_cases h:okN n=true
    · rw [List.filter_cons_of_pos h,List.map_cons,List.sum_cons,List.map_cons,List.sum_cons,ih]
    · rw [List.filter_cons_of_neg h,ih,List.map_cons,List.sum_cons]
      have:n.2.1=0:=by unfold okN at h; simpa using h
      omega
theorem NV.same {W W':World} {b0:Nat} {v:Value} {ns:List Nd} (h:NV W b0 v ns) (hb:∀ Y,v.ownBlock=some Y → W'.heap[Y]?=W.heap[Y]?):NV W' b0 v ns:=by
  rcases h with h | ⟨E,c,h1,h2,h3⟩
  · exact Or.inl h
  · exact Or.inr ⟨E,c,h1,h2,h3.same (hb E (by rw [h1]; rfl))⟩
theorem NX.vx {W:World} {X c:Nat} {vs:List Nd} (h:NX W X c vs) (hc:1 ≤ c):VX W X vs:=by
  obtain ⟨cur,h1,h2,h3⟩:=h.row
  have:=h.le
  exact ⟨⟨cur,h1,h3,by omega,by omega⟩⟩
theorem lrow2_set {w:World} {g T:Nat} {a b v0 v1:Value} {rest:List Value} (h:w.heap[g]?=some (.cells (a :: b :: rest).toArray T)):((w.setCell ⟨g,0,none⟩ v0).setCell ⟨g,1,none⟩ v1).heap[g]?=some (.cells (v0 :: v1 :: rest).toArray T):=by
  rw [heap_setCell_same _ _ _ _ _ _ (heap_setCell_same _ _ _ _ _ _ h)]; simp
section
variable {b0 g r c:Nat} {rest:List Value} {nv:Value} {E B:Nat} {ns:List Nd}
theorem LS.made {a4:World} {v' x0 x1:Value} {cn:Int} {ns':List Nd} {K:Nat} (hd4:a4.heap[g]?=some (.cells #[.int .i64 (E:Int),.int .i64 (B:Int),.int .i64 cn,.slice (some ⟨r,0,none⟩) 1 c] 62)) (hr4:a4.heap[r]?=some (.cells (x0 :: x1 :: rest).toArray 69)) (hnow:NV a4 b0 v' ns') (hg:b0 ≤ g) (hr:b0 ≤ r) (hK:cntN ns'=K):LS (((a4.setCell ⟨r,0,none⟩ v').setCell ⟨r,1,none⟩ (.int .i64 (K:Int))).setCell ⟨g,2,none⟩ (.int .i64 (K:Int))) b0 g r c rest v' E B ns':=by
  have hgr:g ≠ r:=by
    rintro rfl
    rw [hr4] at hd4; simp at hd4
  subst hK
  refine ⟨?_,?_,?_,hg,hr⟩
  · rw [heap_setCell_same _ _ _ _ _ _ ((heap_setCell_other _ _ _ _ hgr).trans ((heap_setCell_other _ _ _ _ hgr).trans hd4))]; rfl
  · rw [heap_setCell_other _ _ _ _ (fun e=>hgr e.symm)]; exact lrow2_set hr4
  · refine hnow.same (fun Y hY=>?_)
    rcases hnow with ⟨rfl,_⟩ | ⟨Y2,c2,rfl,_,hN⟩
    · simp [Value.ownBlock] at hY
    · simp [Value.ownBlock] at hY
      subst hY
      obtain ⟨cur,q1,_⟩:=hN.row
      have n1:Y2 ≠ g:=by rintro rfl; rw [hd4] at q1; simp at q1
      have n2:Y2 ≠ r:=by rintro rfl; rw [hr4] at q1; simp at q1
      rw [heap_setCell_other _ _ _ _ n1,heap_setCell_other _ _ _ _ n2,heap_setCell_other _ _ _ _ n2]
set_option maxHeartbeats 20000000 in
set_option maxRecDepth 100000 in
theorem replace_any (n k many X:Nat) (vs:List Nd) (w:World) (h:LS w b0 g r c rest nv E B ns) (hn:n + many ≤ ns.length) (hl:ns.length ≤ 1000) (hcnt:cntN ns ≤ 1000000) (hcv:cntN vs ≤ 1000000) (hv:vs.length ≤ 3) (hv1:1 ≤ vs.length) (hX:NX w X vs.length vs) (hm:many=0 → 1 ≤ (vs.filter okN).length) (hXn:∀ Y,nv.ownBlock=some Y → X ≠ Y) :
    Calls Tryz.prog 21 #[ptr g,plV n k,.int .i64 (many:Int),.slice (some ⟨X,0,none⟩) vs.length vs.length] w fun e w'=>e=.returned (.tuple #[])∧∃ nv',LS w' b0 g r c rest nv' E B (rplN ns n (n + many) (vs.filter okN))∧Fr w w' (fun k=>k=g ∨ k=r ∨ k=X ∨ nv.ownBlock=some k)∧(∀ Y,nv'.ownBlock=some Y → nv.ownBlock=some Y ∨ w.heap.size ≤ Y):=by
  have HL:Hid _:=h
  have HX:Hid _:=hX
  have hgl:=row_lt h.hd
  have hrl:=row_lt h.rw_
  have hXl:=hX.lt
  have hXg:X ≠ g:=by
    rintro rfl
    obtain ⟨cur,q1,_⟩:=hX.row
    rw [h.hd] at q1; simp at q1
  have hXr:X ≠ r:=by
    rintro rfl
    obtain ⟨cur,q1,_⟩:=hX.row
    rw [h.rw_] at q1; simp at q1
  have hgr:g ≠ r:=by
    rintro rfl
    have q1:=h.hd
    rw [h.rw_] at q1; simp at q1
  obtain ⟨l0,l1,l2,l3,lf⟩:=lrow4 h.hd
  have L3:=cell_a1 l3
  clear h hX
  go_enter Tryz.func21,Tryz.ntmps21
  go_wp2_with fail
  go_quiet (fail)
  have hb0:Below w.heap.size w ((w.alloc (.cells #[.int .i64 0,.int .i64 (n:Int),.int .i64 (k:Int)] 65)).drewN nq):=below_dn ((Below.refl _ w).alloc (Nat.le_refl _) _) _
  have hp:((w.alloc (.cells #[.int .i64 0,.int .i64 (n:Int),.int .i64 (k:Int)] 65)).drewN nq).heap[w.heap.size]?=some (.cells #[.int .i64 0,.int .i64 (n:Int),.int .i64 (k:Int)] 65):=one_alloc w _
  generalize hw0:(w.alloc (.cells #[.int .i64 0,.int .i64 (n:Int),.int .i64 (k:Int)] 65)).drewN nq=w0 at *
  have HB0:Hid (Below w.heap.size w w0):=hb0
  have HL0:Hid (LS w0 b0 g r c rest nv E B ns):=HL.out.on hb0
  have HX0:Hid (NX w0 X vs.length vs):=HX.out.on hb0
  have HP0:Hid _:=hp
  obtain ⟨p0,p1,p2,pf⟩:=row3 hp
  obtain ⟨r0,r1,rf⟩:=lrow2 HL0.out.rw_
  have HEV:Hid (∀ W,Below w0.heap.size w0 W → Calls Tryz.prog 53 #[.slice (some ⟨X,0,none⟩) vs.length vs.length] W fun e w'=>e=.returned (.int .i64 (cntN vs:Int))∧Below W.heap.size W w'):=fun W hW=>elements_any X vs.length vs 0 _ (fun _=>by simp) (by omega) (by omega) W (fun t ht=>by have:=(HX0.out.on hW).cells t ht; rw [Nat.zero_add]; exact this)
  clear L3 l0 l1 l2 l3 lf hb0 hw0 HL HX
  obtain ⟨j,hj⟩:∃ j,n + many=j:=⟨_,rfl⟩
  have hw1:IntKind.i64.wrap ((n:Int) + (many:Int))=(j:Int):=by rw [IntKind.wrap_i64] <;> omega
  have hjn:j - n=many:=by omega
  have hnm:(n:Int) ≤ (j:Int):=by omega
  have hnl:(j:Int) ≤ (ns.length:Int):=by omega
  have hcnd:cntN ((ns.drop n).take many) ≤ 1000000:=by
    have h1:cntN ns=cntN (ns.take n) + cntN (ns.drop n):=by rw [← cntN_app,List.take_append_drop]
    have h2:=cntN_take_le (ns.drop n) many
    omega
  obtain ⟨D,hD⟩:∃ D,cntN ((ns.drop n).take many)=D:=⟨_,rfl⟩
  rw [hD] at hcnd
  obtain ⟨V,hV⟩:∃ V,cntN vs=V:=⟨_,rfl⟩
  rw [hV] at HEV hcv
  have HDD:Hid _:=hD
  have HVV:Hid _:=hV
  clear hD hV
  have hw2:IntKind.i64.wrap ((V:Int) - (D:Int))=(V:Int) - (D:Int):=by rw [IntKind.wrap_i64] <;> omega
  go_wp2_with fail
  go_cut [9] from 17 to 31 (fun s9 wx=>s9=.int .i64 ((V:Int) - (D:Int))∧Below w0.heap.size w0 wx)
  case first =>
    have hSA:=And.intro r0 p1
    have HKS:Hid (∀ w':World,Below w0.heap.size w0 w' → w'.cell? ⟨r,0,none⟩=some nv∧w'.cell? ⟨w.heap.size,1,none⟩=some (.int .i64 (n:Int))):=fun w' hw=>And.intro (cell_on r0 hw) (cell_on p1 hw)
    rcases HL0.out.nd with ⟨rfl,rfl⟩ | ⟨Y,cc,rfl,hY,hNY⟩
    · have hj0:j=0:=by simp at hn; omega
      have hn0:n=0:=by omega
      have hm0:many=0:=by omega
      subst hj0; subst hn0; subst hm0
      have hw00:IntKind.i64.wrap (0:Int)=0:=by rw [IntKind.wrap_i64] <;> omega
      have hSB:w0.cell? ⟨r,0,none⟩=some (.slice none 0 0)∧w0.cell? ⟨w.heap.size,1,none⟩=some (.int .i64 0):=by simpa using hSA
      have HKT:Hid (∀ w':World,Below w0.heap.size w0 w' → w'.cell? ⟨r,0,none⟩=some (.slice none 0 0)∧w'.cell? ⟨w.heap.size,1,none⟩=some (.int .i64 0)):=fun w' hw=>by simpa using HKS.out w' hw
      clear hSA HKS
      have HEN:Hid (∀ W,Below w0.heap.size w0 W → Calls Tryz.prog 53 #[.slice none 0 0] W fun e w'=>e=.returned (.int .i64 (D:Int))∧Below W.heap.size W w'):=fun W hW=>by
        have:=elements_any 0 0 [] 0 none (fun h=>absurd rfl h) (by simp) (by simp [cntN]) W (fun t ht=>by simp at ht)
        have hD0:=HDD.out
        simp [cntN] at hD0
        rw [← hD0]; simpa [cntN] using this
      go_region_held3 (fun w':World=>w'.cell? ⟨r,0,none⟩=some (.slice none 0 0)∧w'.cell? ⟨w.heap.size,1,none⟩=some (.int .i64 0))
        (first | exact hSB | exact HKT.out _ hw1' | exact HKT.out _ hw2' | (refine HKT.out _ ?_; (repeat (first | exact Below.refl _ _ | refine Below.drew ?_)); done))
        (first | (go_at_call 53; refine (show Calls _ _ _ _ _ from HEN.out _ hw1').mono ?_; rintro e a2 ⟨rfl,hb2⟩; have hw2':=bel_to hw1' hb2 (Nat.le_refl _)) | (go_at_call 53; refine (show Calls _ _ _ _ _ from HEV.out _ ((Below.refl _ w0).drew)).mono ?_; rintro e a1 ⟨rfl,hb1⟩; have hw1':=bel_to ((Below.refl _ w0).drew) hb1 (Nat.le_refl _)))
      go_wp2_with fail
      go_meet
      exact ⟨rfl,hw2'⟩
    · have HNY:Hid _:=hNY
      have hcc:=hNY.le
      have hmx:=hNY.max
      have hnl2:(j:Int) ≤ (cc:Int):=by omega
      have hnc:(n:Int) ≤ (cc:Int):=by omega
      have HEN:Hid (∀ P' C',(many ≠ 0 → P'=some ⟨Y,n * 3,none⟩) → ∀ W,Below w0.heap.size w0 W → Calls Tryz.prog 53 #[.slice P' many C'] W fun e w'=>e=.returned (.int .i64 (D:Int))∧Below W.heap.size W w'):=fun P' C' hP' W hW=>by
        have hlen:((ns.drop n).take many).length=many:=by rw [List.length_take,List.length_drop]; omega
        have:=elements_any Y C' ((ns.drop n).take many) n P' (fun hne=>hP' (by intro e; rw [e] at hne; simp at hne)) (by omega) (by have:=HDD.out; omega) W (fun t ht=>by
            rw [hlen] at ht
            have:=(HNY.out.on hW).cells (n + t) (by omega)
            rw [List.getElem_take,List.getElem_drop]; exact this)
        rw [hlen,HDD.out] at this; exact this
      clear hNY
      by_cases hci:cc=n
      · have hm0:many=0:=by omega
        have hjc:j=n:=by omega
        subst hci
        subst hjc
        subst hm0
        have hwc:IntKind.i64.wrap (j:Int)=(j:Int):=by rw [IntKind.wrap_i64] <;> omega
        go_region_held3 (fun w':World=>w'.cell? ⟨r,0,none⟩=some (.slice (some ⟨Y,0,none⟩) ns.length j)∧w'.cell? ⟨w.heap.size,1,none⟩=some (.int .i64 (j:Int)))
          (first | exact hSA | exact HKS.out _ hw1' | exact HKS.out _ hw2' | (refine HKS.out _ ?_; (repeat (first | exact Below.refl _ _ | refine Below.drew ?_)); done))
          (first | (go_at_call 53; refine (show Calls _ _ _ _ _ from HEN.out (some ⟨Y,0,none⟩) 0 (fun h=>absurd rfl h) _ hw1').mono ?_; rintro e a2 ⟨rfl,hb2⟩; have hw2':=bel_to hw1' hb2 (Nat.le_refl _)) | (go_at_call 53; refine (show Calls _ _ _ _ _ from HEV.out _ ((Below.refl _ w0).drew)).mono ?_; rintro e a1 ⟨rfl,hb1⟩; have hw1':=bel_to ((Below.refl _ w0).drew) hb1 (Nat.le_refl _)))
        go_wp2_with fail
        go_meet
        exact ⟨rfl,hw2'⟩
      · go_region_held3 (fun w':World=>w'.cell? ⟨r,0,none⟩=some (.slice (some ⟨Y,0,none⟩) ns.length cc)∧w'.cell? ⟨w.heap.size,1,none⟩=some (.int .i64 (n:Int)))
          (first | exact hSA | exact HKS.out _ hw1' | exact HKS.out _ hw2' | (refine HKS.out _ ?_; (repeat (first | exact Below.refl _ _ | refine Below.drew ?_)); done))
          (first | (go_at_call 53; refine (show Calls _ _ _ _ _ from HEN.out (some ⟨Y,n * 3,none⟩) (cc - n) (fun _=>rfl) _ hw1').mono ?_; rintro e a2 ⟨rfl,hb2⟩; have hw2':=bel_to hw1' hb2 (Nat.le_refl _)) | (go_at_call 53; refine (show Calls _ _ _ _ _ from HEV.out _ ((Below.refl _ w0).drew)).mono ?_; rintro e a1 ⟨rfl,hb1⟩; have hw1':=bel_to ((Below.refl _ w0).drew) hb1 (Nat.le_refl _)))
        go_wp2_with fail
        go_meet
        exact ⟨rfl,hw2'⟩
  case rest =>
    obtain ⟨rfl,hw2'⟩:=hcut
    have HL2:Hid (LS wc b0 g r c rest nv E B ns):=HL0.out.on hw2'
    have HX2:Hid (NX wc X vs.length vs):=HX0.out.on hw2'
    have hp2:=keep_row HP0.out hw2'
    have HB2:Hid (Below w.heap.size w wc):=bel_to HB0.out hw2' (Nat.le_refl _)
    have HP2:Hid _:=hp2
    have hpl2:=row_lt hp2
    clear hw2' r0 r1 rf p0 p1 p2 pf HEV HP0 HX0 HL0 HB0 hcnd
    obtain ⟨p0,p1,p2,pf⟩:=row3 hp2
    obtain ⟨r0,r1,rf⟩:=lrow2 HL2.out.rw_
    have HDF:Hid (∀ W,NX W X vs.length vs → Calls Tryz.prog 55 #[.slice (some ⟨X,0,none⟩) vs.length vs.length,isE] W _):=fun W hW=>deleteF_any X vs.length vs (by omega) W hW
    have HRE:Hid (∀ W,NV W b0 nv ns → NX W X vs.length (vs.filter okN) → b0 ≤ W.heap.size → Calls Tryz.prog 54 #[nv,.int .i64 (n:Int),.int .i64 (j:Int),.slice (some ⟨X,0,none⟩) (vs.filter okN).length vs.length] W _):=fun W h1 h2 h3=>repl_any b0 X n j vs.length (vs.filter okN) (Nat.le_trans (List.length_filter_le _ _) hv) (fun e=>hm (by omega)) _ ns (by omega) (by omega) (by omega) W h3 h1 (h2.vx hv1) hXn
    have HB0L:Hid (b0 ≤ wc.heap.size):=Nat.le_trans HL2.out.hg (Nat.le_of_lt (row_lt HL2.out.hd))
    have HKG:Hid (∀ w':World,wc.drew.grownBy w' (some X) → w'.cell? ⟨r,0,none⟩=some nv∧w'.cell? ⟨w.heap.size,1,none⟩=some (.int .i64 (n:Int))):=fun w' hw=>And.intro (hw.cell (w:=wc.drew) r0 (by simp; exact fun e=>hXr e.symm)) (hw.cell (w:=wc.drew) p1 (by simp; omega))
    have HY:Hid (∀ Y,nv.ownBlock=some Y → Y ≠ r∧Y ≠ g∧Y ≠ w.heap.size∧X ≠ Y∧Y < wc.heap.size):=fun Y hY=>by
      rcases HL2.out.nd with ⟨e,_⟩ | ⟨E2,c2,e,_,hN⟩
      · rw [e] at hY; simp [Value.ownBlock] at hY
      · have:E2=Y:=by rw [e] at hY; simpa [Value.ownBlock] using hY
        subst this
        obtain ⟨cur,q1,_⟩:=hN.row
        refine ⟨?_,?_,?_,hXn _ hY,row_lt q1⟩
        · rintro rfl; rw [HL2.out.rw_] at q1; simp at q1
        · rintro rfl; rw [HL2.out.hd] at q1; simp at q1
        · rintro rfl; rw [hp2] at q1; simp at q1
    obtain ⟨K,hK⟩:∃ K,cntN (rplN ns n j (vs.filter okN))=K:=⟨_,rfl⟩
    have hKK:K + D=cntN ns + V:=by
      have h1:cntN ns=cntN (ns.take n) + (cntN ((ns.drop n).take many) + cntN (ns.drop j)):=by
        rw [← cntN_app,← cntN_app,← hj,← List.drop_drop,List.take_append_drop,List.take_append_drop]
      rw [← hK]; unfold rplN; rw [cntN_app,cntN_app,cntN_filter]
      have:=HDD.out; have:=HVV.out; omega
    have hw3:IntKind.i64.wrap ((cntN ns:Int) + ((V:Int) - (D:Int)))=(K:Int):=by rw [IntKind.wrap_i64] <;> omega
    have HLV:Hid (∀ (nv':Value) W,LS W b0 g r c rest nv' E B (rplN ns n j (vs.filter okN)) → Calls Tryz.prog 57 #[ptr g,.int .i64 0] W _):=fun nv' W hW=>level_any (by
      rw [rplN_len _ _ _ _ (by omega) (by omega)]
      have:=List.length_filter_le okN vs
      omega) W hW
    have HGR:Hid (g < wc.heap.size∧r < wc.heap.size):=⟨row_lt HL2.out.hd,row_lt HL2.out.rw_⟩
    have HKD:Hid _:=hK
    have HJ:Hid _:=hj
    have HF2:Hid (∀ (a3 a4:World) (v':Value),wc.drew.grownBy a3 (some X) → NBec a3 a4 b0 nv v' (rplN ns n j (vs.filter okN)) → Fr w a4 (fun k=>k=g ∨ k=r ∨ k=X ∨ nv.ownBlock=some k)∧a4.heap[g]?=some (.cells #[.int .i64 (E:Int),.int .i64 (B:Int),.int .i64 (cntN ns:Int),.slice (some ⟨r,0,none⟩) 1 c] 62)∧a4.heap[r]?=some (.cells (nv :: .int .i64 (cntN ns:Int) :: rest).toArray 69)∧a4.heap[w.heap.size]?=some (.cells #[.int .i64 0,.int .i64 (n:Int),.int .i64 (k:Int)] 65)∧(∀ Z,v'.ownBlock=some Z → nv.ownBlock=some Z ∨ w.heap.size ≤ Z)):=fun a3 a4 v' hg3 hbec=>by
      have hs3:wc.drew.heap.size=wc.heap.size:=rfl
      refine ⟨?_,?_,?_,?_,fun Z hZ=>?_⟩
      · refine (Fr.of_below HB2.out).trans (Fr.trans (b:=a3) ?_ (Fr.of_grown hbec.grown (fun k e=>Or.inr (Or.inr (Or.inr e)))))
        have:=Fr.of_grown (P:=fun k=>k=g ∨ k=r ∨ k=X ∨ nv.ownBlock=some k) hg3 (fun k e=>by injection e with e; exact Or.inr (Or.inr (Or.inl e.symm)))
        exact ⟨this.os,this.tape,this.output,this.size,this.block⟩
      · exact (hbec.grown.block g (Nat.lt_of_lt_of_le HGR.out.1 hg3.size) (fun e=>(HY.out g e.symm).2.1 rfl)).trans ((hg3.block g HGR.out.1 (by simp; exact fun e=>hXg e.symm)).trans HL2.out.hd)
      · exact (hbec.grown.block r (Nat.lt_of_lt_of_le HGR.out.2 hg3.size) (fun e=>(HY.out r e.symm).1 rfl)).trans ((hg3.block r HGR.out.2 (by simp; exact fun e=>hXr e.symm)).trans HL2.out.rw_)
      · exact (hbec.grown.block w.heap.size (Nat.lt_of_lt_of_le hpl2 hg3.size) (fun e=>(HY.out w.heap.size e.symm).2.2.1 rfl)).trans ((hg3.block w.heap.size hpl2 (by simp; omega)).trans HP2.out)
      · rcases hbec.blk Z hZ with h | h
        · exact Or.inl h
        · have h1:=HB2.out.size
          have h2:=hg3.size
          right; omega
    clear hp2 hK hj hKK HVV HDD
    go_wp2_with fail
    go_cut [] from 32 to 47 (fun wx=>∃ (a4:World) (P':Option Addr) (L' c':Nat),wx=a4.setCell ⟨r,0,none⟩ (.slice P' L' c')∧Fr w a4 (fun k=>k=g ∨ k=r ∨ k=X ∨ nv.ownBlock=some k)∧a4.heap[g]?=some (.cells #[.int .i64 (E:Int),.int .i64 (B:Int),.int .i64 (cntN ns:Int),.slice (some ⟨r,0,none⟩) 1 c] 62)∧a4.heap[r]?=some (.cells (nv :: .int .i64 (cntN ns:Int) :: rest).toArray 69)∧a4.heap[w.heap.size]?=some (.cells #[.int .i64 0,.int .i64 (n:Int),.int .i64 (k:Int)] 65)∧(∀ Z,(Value.slice P' L' c').ownBlock=some Z → nv.ownBlock=some Z ∨ w.heap.size ≤ Z)∧NV a4 b0 (.slice P' L' c') (rplN ns n j (vs.filter okN)))
    case first =>
      clear HLV HKD hw3 hgl hrl hXl hXg hXr hgr hn hl hcnt hcv hv hv1 hm hXn hw2 hjn hnm hnl HP2 HB2 hpl2 p0 p2 pf r1 rf
      go_region_with (first | (go_at_call 54; refine (show Calls _ _ _ _ _ from HRE.out _ hNV3 hN3 hb3).mono ?_; rintro e a4 ⟨v',rfl,hbec⟩; obtain ⟨P',L',c',hv'⟩:∃ (P':Option Addr) (L' c':Nat),v'=.slice P' L' c':=(by obtain ⟨x1,x2,x3,_⟩:=hbec.now.form; exact ⟨x1,_,x2,x3⟩); subst hv'; obtain ⟨hf4,hd4,hrow4,hp4,ho4⟩:=HF2.out _ _ _ hg3 hbec; obtain ⟨r40,r41,rf4⟩:=lrow2 hrow4; have hnow:=hbec.now) | (go_at_call 55; refine (show Calls _ _ _ _ _ from HDF.out wc.drew (HX2.out.same rfl)).mono ?_; rintro e a3 ⟨rfl,hg3,hN3⟩; have hNV3:NV a3 b0 nv ns:=HL2.out.nd.same (fun Y hY=>hg3.block Y (HY.out Y hY).2.2.2.2 (fun e=>(HY.out Y hY).2.2.2.1 (by injection e with e; exact e.symm))); have hb3:b0 ≤ a3.heap.size:=Nat.le_trans HB0L.out hg3.size; have hS3:=(HKG.out _ hg3).1; have hS3p:=(HKG.out _ hg3).2))
      all_goals
        go_wp2_with fail
        go_meet
        exact ⟨a4,P',L',c',rfl,hf4,hd4,hrow4,hp4,ho4,hnow⟩
    case rest =>
      obtain ⟨a4,P',L',c',rfl,hf4,hd4,hrow4,hp4,ho4,hnow⟩:=hcut
      have HLS:Hid (LS (((a4.setCell ⟨r,0,none⟩ (.slice P' L' c')).setCell ⟨r,1,none⟩ (.int .i64 (K:Int))).setCell ⟨g,2,none⟩ (.int .i64 (K:Int))) b0 g r c rest (.slice P' L' c') E B (rplN ns n j (vs.filter okN))):=LS.made hd4 hrow4 hnow HL2.out.hg HL2.out.hr HKD.out
      have HFR:Hid (Fr w (((a4.setCell ⟨r,0,none⟩ (.slice P' L' c')).setCell ⟨r,1,none⟩ (.int .i64 (K:Int))).setCell ⟨g,2,none⟩ (.int .i64 (K:Int))) (fun k=>k=g ∨ k=r ∨ k=X ∨ nv.ownBlock=some k)):=((hf4.trans (Fr.set _ _ (Or.inr (Or.inl rfl)))).trans (Fr.set _ _ (Or.inr (Or.inl rfl)))).trans (Fr.set _ _ (Or.inl rfl))
      have HOB:Hid _:=ho4
      obtain ⟨r40,r41,rf4⟩:=lrow2 hrow4
      obtain ⟨l0,l1,l2,l3,lf⟩:=lrow4 hd4
      obtain ⟨s0,s1,s2,sf⟩:=row3 hp4
      have hgr2:¬ (g=r):=hgr
      have hrg2:¬ (r=g):=fun e=>hgr e.symm
      have hpr:¬ (w.heap.size=r):=by omega
      have hpg:¬ (w.heap.size=g):=by omega
      clear hf4 hd4 hrow4 hp4 ho4 hnow HRE HDF HKG HY HF2 HX2 r0 r1 rf p0 p1 p2 pf
      go_wp2_with fail
      refine (show Calls _ _ _ _ _ from HLV.out _ _ HLS.out).mono ?_
      rintro e w6 ⟨rfl,hb6⟩
      have HR6:Hid (LS w6 b0 g r c rest (.slice P' L' c') E B (rplN ns n j (vs.filter okN))):=HLS.out.on hb6
      have HF6:Hid (Fr w w6 _):=HFR.out.trans (Fr.of_below hb6)
      clear hb6
      go_wp2
      go_returns
      rw [HJ.out]
      exact ⟨rfl,_,HR6.out,HF6.out,HOB.out⟩
end
end Go.Proofs.YtijambehfobopaaGreatDoor
