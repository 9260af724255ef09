import Derived.Test.YtbgbmfmgdgalbaaGreatDoorM11
namespace Go.Proofs.YtbgbmfmgdgalbaaGreatDoor
open Go.RowKit Go.Maps
set_option linter.unusedVariables false
set_option linter.unusedSimpArgs false
set_option maxHeartbeats 4000000 in
set_option maxRecDepth 100000 in
theorem ins_grow (X i vc:Nat) (p:Pq) (E o c:Nat) (l:List Pq) (hl:l.length ≤ 3298534883328) (w:World) (hB:PX w E o c l) (hi:i < l.length) (hX:w.heap[X]?=some (.cells #[.int .i64 (p.s:Int),.bool p.c,meetV p] 91)) (hroom:c < l.length + 1) :
    Calls Tryz.prog 81 #[.slice (some ⟨E,o * 3,none⟩) l.length c,.int .i64 (i:Int),.slice (some ⟨X,0,none⟩) 1 vc] w fun r w'=>InsP w (.slice (some ⟨E,o * 3,none⟩) l.length c) (l.take i ++ p :: l.drop i) r w':=by
  have hle:=hB.le
  have hcm:=hB.max
  obtain ⟨q,hq⟩:∃ q,i + 1=q:=⟨_,rfl⟩
  obtain ⟨u,hu⟩:∃ u,l.length - i=u:=⟨_,rfl⟩
  obtain ⟨t,ht⟩:∃ t,l.length + 1=t:=⟨_,rfl⟩
  have hz2:¬ ((i:Int)=(l.length:Int)):=by omega
  have hb4:¬ (c=i):=by omega
  have hw1:IntKind.i64.wrap ((i:Int) + 1)=(q:Int):=by rw [IntKind.wrap_i64] <;> omega
  have hw2:IntKind.i64.wrap ((l.length:Int) + 1)=(t:Int):=by rw [IntKind.wrap_i64] <;> omega
  have hb6:((c:Int) < (t:Int)):=by omega
  have hb9:(q:Int) ≤ (t:Int):=by omega
  have hb10:(i:Int) ≤ (t:Int):=by omega
  have hqt:t - q=u:=by omega
  obtain ⟨k,hk⟩:∃ k,t - i=k:=⟨_,rfl⟩
  have hw3:IntKind.i64.wrap ((t:Int) - (i:Int))=(k:Int):=by rw [IntKind.wrap_i64] <;> omega
  have hik:i + k=t:=by omega
  have hic:(i:Int) ≤ (c:Int):=by omega
  have hin:(i:Int) ≤ (l.length:Int):=by omega
  obtain ⟨i0,hi0,hz0,hz1,hz2'⟩:=info_parts infoP
  have hcs:∀ a v,(plnE.fl (l.take i))[a]?=some v → w.drew.cell? ((⟨E,o * 3,none⟩:Addr).add a)=some v:=fun a v ha=>hB.takeAt i (by omega) a v ha
  have hfi:(plnE.fl (l.take i)).length=i * 3:=by rw [flq_len,List.length_take]; congr 1; omega
  have hold:(Builtin.firstCells i0.size i (.slice (some ⟨E,o * 3,none⟩) i c)).run Tryz.prog w.drew=.ok (plnE.fl (l.take i)).toArray w.drew:=by
    rw [hz1]; exact run_firstCells_some w.drew 3 i ⟨E,o * 3,none⟩ i c (plnE.fl (l.take i)) hfi hcs
  have hrun:∀ ty,(Builtin.append_ #[72,3] ty #[.slice (some ⟨E,o * 3,none⟩) i c,.int .i64 (k:Int)]).run Tryz.prog w=_:=fun ty =>
    Lib.run_append_grow_zeros w 72 3 ty 91 i0 _ .i64 .i64 Tryz.underlying72 Tryz.underlying3 hi0 hz0 (some ⟨E,o * 3,none⟩) i c (plnE.fl (l.take i)) hold k (by omega) (by omega) (by omega) (by omega) (by rw [hz2']; omega) (by rw [hz2']; exact growslice_fits (by omega) (by omega))
  obtain ⟨c',hc'⟩:∃ c',grownCap w (i + k) c 91=c':=⟨_,rfl⟩
  have hc1:i + k ≤ c':=by rw [← hc']; exact grownCap_ge w (i + k) c 91
  have hcm':c' ≤ maxLen:=by rw [← hc']; exact grownCap_le_maxLen w (i + k) c 91 (by unfold maxLen; omega)
  rw [hc'] at hrun
  obtain ⟨CUR,hCUR⟩:∃ CUR,CUR=(plnE.fl (l.take i)).toArray ++ Builtin.zeroCells (Value.cells (.agg #[.int .i64 0,.bool false,.nilFunc])) k ++ Builtin.zeroCells (Value.cells (.agg #[.int .i64 0,.bool false,.nilFunc])) (c' - (i + k)):=⟨_,rfl⟩
  rw [← hCUR] at hrun
  obtain ⟨W1,hW1⟩:∃ W1,W1=w.drew.alloc (.cells CUR 91):=⟨_,rfl⟩
  rw [← hW1] at hrun
  have hbw:Below w.heap.size w W1:=by rw [hW1]; exact (Below.refl _ w).drew.alloc (Nat.le_refl _) _
  have hXW:W1.heap[X]?=some (.cells #[.int .i64 (p.s:Int),.bool p.c,meetV p] 91):=(hbw.block X (row_lt hX)).trans hX
  have hBE:PX W1 E o c l:=hB.on hbw
  have r0:W1.heap[w.heap.size]?=some (.cells CUR 91):=by rw [hW1]; exact one_alloc w.drew _
  have s0:CUR.size=c' * 3:=by
    rw [hCUR]; simp only [Array.size_append,size_zeroCells,List.size_toArray,hfi]
    rw [show (Value.cells (.agg #[.int .i64 0,.bool false,.nilFunc])).size=3 from rfl]; omega
  have hgl:∀ (j:Nat) (v:Value),(plnE.fl (l.take i))[j]?=some v → CUR[j]?=some v:=fun j v hj=>by
    have hl':=(List.getElem?_eq_some_iff.1 hj).1
    rw [hCUR,Array.getElem?_append_left (by simp; omega),Array.getElem?_append_left (by simpa using hl'),List.getElem?_toArray]
    exact hj
  have hel:(plnE.enc p).length=3:=rfl
  have hfl:(plnE.fl (l.drop i)).length=u * 3:=by rw [flq_len,List.length_drop,hu]
  have r1:=heap_cells w.heap.size _ (plnE.enc p) (i * 3) W1 CUR r0 (by rw [hel]; omega)
  have s1:=spl_size CUR (i * 3) (plnE.enc p) (by rw [hel]; omega)
  have HRES:Hid (InsP w (.slice (some ⟨E,o * 3,none⟩) l.length c) (l.take i ++ p :: l.drop i) (.returned (.slice (some ⟨w.heap.size,0,none⟩) t c')) ((W1.setCells w.heap.size (i * 3) (plnE.enc p)).drew.setCells w.heap.size (q * 3) (plnE.fl (l.drop i)))):=by
    have r1d:(W1.setCells w.heap.size (i * 3) (plnE.enc p)).drew.heap[w.heap.size]?=_:=r1
    have r2:=heap_cells w.heap.size _ (plnE.fl (l.drop i)) (q * 3) _ _ r1d (by rw [s1,hfl]; omega)
    have hP:=PX.fill (p:=p) (i:=i) (c:=c') (by omega) (by omega) (by unfold maxLen at hcm'; omega) (by omega) hgl (E:=w.heap.size) (W:=(W1.setCells w.heap.size (i * 3) (plnE.enc p)).drew.setCells w.heap.size (q * 3) (plnE.fl (l.drop i))) (by rw [hq]; exact r2)
    refine ⟨_,rfl,hP.prow' (by rw [ins_len l p i (by omega)]; omega),ModP.below ?_,fun k hk=>Or.inr (by cases hk; exact Nat.le_refl _)⟩
    have b1:=(grown_only w.heap.size (plnE.enc p) (i * 3) W1).below (B:=w.heap.size) (Nat.le_refl _)
    have b2:=(grown_only w.heap.size (plnE.fl (l.drop i)) (q * 3) (W1.setCells w.heap.size (i * 3) (plnE.enc p)).drew).below (B:=w.heap.size) (Nat.le_refl _)
    exact ((hbw.trans b1).drew).trans b2
  have hcp1:∀ ty dc,(Builtin.copy_ #[72,72] ty #[.slice (some ⟨w.heap.size,i * 3,none⟩) k dc,.slice (some ⟨X,0,none⟩) 1 vc]).run Tryz.prog W1=.ok (goInt (Nat.min 1 k)) (W1.setCells w.heap.size (i * 3) (plnE.enc p)):=fun ty dc =>
    run_copyP W1 ty w.heap.size (i * 3) k dc ⟨X,0,none⟩ 1 vc (plnE.enc p) (by rw [hel]; simp only [Nat.min_def]; split <;> omega) (encAt hXW)
      (fun a ha=>by rw [hel] at ha; rw [cell_of_row _ _ _ _ _ _ r0,Array.getElem?_eq_getElem (by omega)]; rfl) (fun a ha=>frozen_of_row _ _ _ _ _ r0) (enc_one _)
  obtain ⟨W2,hW2⟩:∃ W2,W2=W1.setCells w.heap.size (i * 3) (plnE.enc p):=⟨_,rfl⟩
  have hBE2:PX W2 E o c l:=hBE.same (by rw [hW2,(grown_cells w.heap.size _ _ W1).block E hBE.lt (by have:=hB.lt; simp; omega)])
  rw [← hW2] at r1 hcp1 HRES
  have r1d:W2.drew.heap[w.heap.size]?=_:=r1
  have hcp2:∀ ty dc sc,(Builtin.copy_ #[72,72] ty #[.slice (some ⟨w.heap.size,q * 3,none⟩) u dc,.slice (some ⟨E,o * 3 + i * 3,none⟩) u sc]).run Tryz.prog W2.drew=.ok (goInt (Nat.min u u)) (W2.drew.setCells w.heap.size (q * 3) (plnE.fl (l.drop i))):=fun ty dc sc =>
    run_copyP W2.drew ty w.heap.size (q * 3) u dc ⟨E,o * 3 + i * 3,none⟩ u sc (plnE.fl (l.drop i)) (by rw [hfl]; simp) (hBE2.dropAt i (by omega))
      (fun k hk=>by rw [cell_of_row _ _ _ _ _ _ r1d,Array.getElem?_eq_getElem (by omega)]; rfl) (fun k hk=>frozen_of_row _ _ _ _ _ r1d) (flq_one _)
  have hci:¬ (c'=i):=by omega
  have hcq:¬ (c'=q):=by omega
  have mixed:Tryz.prog.follows Departure.mixedOrders=true:=by kernel_rfl
  have HRUN:Hid _:=hrun
  obtain ⟨S,hS⟩:∃ S,w.heap.size=S:=⟨_,rfl⟩
  rw [hS] at hcp1 hcp2 HRES HRUN
  rw [hik] at HRUN
  clear hold hcs hrun hc' hz2' hz1 hz0 hi0 hfi hcm' hbw hXW hBE r0 s0 hgl r1 r1d hBE2 hfl hCUR s1 hB hX hS hW1 hel
  subst hW2
  go_enter Tryz.func81,Tryz.ntmps81
  go_upto_region 9 with fail
  go_wp2_with (at_builtin; go_must (refine Lib.wpList_append_run _ rfl _ _ 72 3 rfl (.slice (some ⟨E,o * 3,none⟩) i c) (.int .i64 (k:Int)) ?a1 ?a2 _ _ (HRUN.out _) ?_))
  case a1=>rfl
  case a2=>rfl
  go_region_law_o (refine step_copy_runI rfl _ _ 72 72 rfl _ _ (by simp [Act.eval,Act.put]) (by simp [Act.eval,Act.put]) (hcp2 _ _ _) ?_)
  go_wp2
  go_returns
  exact HRES.out
end Go.Proofs.YtbgbmfmgdgalbaaGreatDoor
namespace Go.Proofs.YtbgbmfmgdgalbaaGreatDoor
open Go.RowKit Go.Maps
set_option linter.unusedVariables false
set_option linter.unusedSimpArgs false
theorem insP_any (X i vc:Nat) (p:Pq) (qv:Value) (l:List Pq) (hl:l.length ≤ 3298534883328) (w:World) (h:PRow w qv l) (hi:i ≤ l.length) (hX:w.heap[X]?=some (.cells #[.int .i64 (p.s:Int),.bool p.c,meetV p] 91)) (hXE:qv.ownBlock ≠ some X) :
    Calls Tryz.prog 81 #[qv,.int .i64 (i:Int),.slice (some ⟨X,0,none⟩) 1 vc] w fun r w'=>InsP w qv (l.take i ++ p :: l.drop i) r w':=by
  rcases h.px with ⟨rfl,rfl⟩ | ⟨E,o,c,rfl,hB⟩
  · have:i=0:=by simpa using hi
    subst this
    exact insE_nil X vc p w hX
  · by_cases he:i=l.length
    · subst he
      rw [ins_all]
      by_cases hr:l.length + 1 ≤ c
      · exact insE_fit X vc p E o c l w hB hl hr hX
      · exact insE_grow X vc p E o c l w hB hl (by omega) hX
    · by_cases hr:l.length + 1 ≤ c
      · exact ins_shift X i vc p E o c l hl w hB (by omega) hX (fun e=>hXE (by rw [e]; rfl)) hr
      · exact ins_grow X i vc p E o c l hl w hB (by omega) hX (by omega)
theorem PX.set {W:World} {E o c:Nat} {l:List Pq} {p:Pq} {cur:Array Value} {i:Nat} (hi:i < l.length) (hc:l.length ≤ c) (hm:o + c ≤ 9223372036854775807) (hs:(o + c) * 3 ≤ cur.size) (h3:∀ j u,(plnE.fl l)[j]?=some u → cur[o * 3 + j]?=some u)
    (hW:W.heap[E]?=some (.cells (spl cur (o * 3 + i * 3) (plnE.enc p)) 91)):PX W E o c (l.set i p):=by
  have hp:(plnE.enc p).length=3:=rfl
  have hz:(o * 3 + i * 3) + (plnE.enc p).length ≤ cur.size:=by rw [hp]; omega
  refine ⟨⟨_,hW,by rw [spl_size _ _ _ hz]; exact hs,fun j u hj=>?_⟩,by simpa using hc,hm⟩
  have hset:l.set i p=l.take i ++ p :: l.drop (i + 1):=by
    rw [List.set_eq_take_append_cons_drop,if_pos hi]
  have hf:plnE.fl (l.set i p)=plnE.fl (l.take i) ++ (plnE.enc p ++ plnE.fl (l.drop (i + 1))):=by rw [hset,flq_app,fl_cons]; rfl
  have ht:(plnE.fl (l.take i)).length=i * 3:=by rw [flq_len,List.length_take]; congr 1; omega
  rw [hf,List.getElem?_append,ht] at hj
  rw [spl_get _ _ _ _ hz,hp]
  by_cases h1:j < i * 3
  · rw [if_pos h1,flq_take l i (by omega),List.getElem?_take_of_lt h1] at hj
    rw [if_pos (by omega)]
    exact h3 j u hj
  · rw [if_neg h1,List.getElem?_append,hp] at hj
    by_cases h2:j - i * 3 < 3
    · rw [if_pos h2] at hj
      rw [if_neg (by omega),if_pos (by omega),← hj]
      congr 1; omega
    · rw [if_neg h2,flq_drop l (i + 1) (by omega),List.getElem?_drop] at hj
      rw [if_neg (by omega),if_neg (by omega)]
      have:=h3 _ u hj
      rw [← this]; congr 1; omega
def LayL (qs:List Pq) (p:Pq) (qs':List Pq):Prop:=∃ i,Plc qs p i∧((∃ h:i < qs.length,qs[i].s=p.s∧qs[i].c=p.c∧qs'=qs.set i p) ∨ ((¬ ∃ h:i < qs.length,qs[i].s=p.s∧qs[i].c=p.c)∧qs'=qs.take i ++ p :: qs.drop i))
def LayP (w:World) (g:Nat) (a0 a1 a2 a3 a4 a5 qv:Value) (qs:List Pq) (p:Pq) (e:Ending) (w':World):Prop:=e=.returned (.tuple #[])∧∃ qv' qs',LayL qs p qs'∧w'.heap[g]?=some (.cells #[a0,a1,a2,a3,a4,a5,qv'] 74)∧PRow w' qv' qs'∧(∀ k,qv'.ownBlock=some k → qv.ownBlock=some k ∨ w.heap.size ≤ k)∧ModP (fun k=>k=g ∨ qv.ownBlock=some k) w w'
end Go.Proofs.YtbgbmfmgdgalbaaGreatDoor
namespace Go.Proofs.YtbgbmfmgdgalbaaGreatDoor
open Go.RowKit Go.Maps
set_option linter.unusedVariables false
set_option linter.unusedSimpArgs false
theorem only_drew {w W:World} {b:Nat} (h:Only w W b):Only w W.drew b:=⟨h.os,h.tape,h.output,h.size,h.other⟩
set_option maxHeartbeats 4000000 in
set_option maxRecDepth 100000 in
theorem layP_any (g:Nat) (a0 a1 a2 a3 a4 a5 qv:Value) (qs:List Pq) (hr:qs.Pairwise ltQ) (hl:qs.length ≤ 3298534883328) (p:Pq) (w:World) (hg:w.heap[g]?=some (.cells #[a0,a1,a2,a3,a4,a5,qv] 74)) (h:PRow w qv qs) :
    Calls Tryz.prog 38 #[ptr (some g),agQ p] w fun e w'=>LayP w g a0 a1 a2 a3 a4 a5 qv qs p e w':=by
  obtain ⟨W0,hW0⟩:∃ W0,w.alloc (.cells #[.int .i64 (p.s:Int),.bool p.c,meetV p] 91)=W0:=⟨_,rfl⟩
  obtain ⟨R,hR⟩:∃ R,w.heap.size=R:=⟨_,rfl⟩
  have hb0:Below R w W0:=by rw [← hW0]; exact (Below.refl _ _).alloc (by omega) _
  have hr0:W0.heap[R]?=some (.cells #[.int .i64 (p.s:Int),.bool p.c,meetV p] 91):=by rw [← hW0,← hR]; exact one_alloc _ _
  have hgR:g < R:=by rw [← hR]; exact row_lt hg
  have hg0:=(hb0.block g hgR).trans hg
  have hp0:PRow W0 qv qs:=h.to (fun k hk=>by obtain ⟨cur,hc⟩:=h.type hk; exact hb0.block k (by rw [← hR]; exact row_lt hc))
  have hqR:∀ k,qv.ownBlock=some k → k < R:=fun k hk=>by obtain ⟨cur,hc⟩:=h.type hk; rw [← hR]; exact row_lt hc
  have hqg:∀ k,qv.ownBlock=some k → k ≠ g:=fun k hk e=>by
    subst e
    obtain ⟨cur,hc⟩:=h.type hk
    have:=hc.symm.trans hg
    injection this with this
    injection this with _ h2
    exact absurd h2 (by decide)
  have HBS:Hid (Calls Tryz.prog 79 #[qv,.agg #[.int .i64 (p.s:Int),.bool p.c,meetV p],.func (.func 80) #[] #[]] W0.drew fun e w'=>BsP W0.drew qs p e w'):=bsP_any qs hr hl p qv W0.drew (show KR plnE W0.drew qv qs from hp0.kr)
  obtain ⟨r0,r1,r2,_⟩:=row3 hr0
  obtain ⟨_,_,_,_,_,_,g6,_⟩:=fsC7 hg0
  have HG:Hid (w.heap[g]?=some (.cells #[a0,a1,a2,a3,a4,a5,qv] 74)):=hg
  have HP:Hid (PRow w qv qs):=h
  have HR0:Hid (W0.heap[R]?=some (.cells #[.int .i64 (p.s:Int),.bool p.c,meetV p] 91)):=hr0
  have HB0:Hid (Below R w W0):=hb0
  have HR:Hid (w.heap.size=R):=hR
  have HQ:Hid (g < R∧(∀ k,qv.ownBlock=some k → k < R∧k ≠ g)):=⟨hgR,fun k hk=>⟨hqR k hk,hqg k hk⟩⟩
  have d0:W0.drew.cell? ⟨R,0,none⟩=some (.int .i64 (p.s:Int)):=r0
  have d1:W0.drew.cell? ⟨R,1,none⟩=some (.bool p.c):=r1
  have d2:W0.drew.cell? ⟨R,2,none⟩=some (meetV p):=r2
  have d3:W0.drew.cell? ⟨g,6,none⟩=some qv:=g6
  have HSZ:Hid (R < W0.heap.size):=row_lt hr0
  obtain ⟨mf,mA,mB,hmv⟩:∃ mf mA mB,meetV p=.func mf mA mB:=⟨_,_,_,rfl⟩
  have HMV:Hid (meetV p=.func mf mA mB):=hmv
  rw [hmv] at d2 HBS hW0 HR0 r2
  clear hr hg h hp0 hqR hqg hb0 hr0 hgR hg0 hmv r0 r1 g6 r2
  unfold ptr agQ
  rw [HMV.out]
  go_enter Tryz.func38,Tryz.ntmps38
  go_upto_region 1 with fail
  clear hW0
  go_region_held3 (fun W:World=>W.cell? ⟨R,0,none⟩=some (.int .i64 (p.s:Int))∧W.cell? ⟨R,1,none⟩=some (.bool p.c)∧W.cell? ⟨R,2,none⟩=some (.func mf mA mB)∧W.cell? ⟨g,6,none⟩=some qv)
    (first | with_reducible exact ⟨d0,d1,d2,d3⟩ | with_reducible exact ⟨q0,q1,q2,q3⟩)
    (first
      | (go_at_call 79; refine (show Calls _ _ _ _ _ from HBS.out).mono ?_; rintro e w1 ⟨hb1,i,b,hpl,hbt,rfl⟩; have q0:=cell_on d0 hb1; have q1:=cell_on d1 hb1; have q2:=cell_on d2 hb1; have q3:=cell_on d3 hb1))
  have hb1':Below R w w1:=HB0.out.drew.trans (hb1.mono (by show R ≤ W0.heap.size; have:=HSZ.out; omega))
  have hR1:w1.heap[R]?=some (.cells #[.int .i64 (p.s:Int),.bool p.c,.func mf mA mB] 91):=(hb1.block R HSZ.out).trans HR0.out
  have hg1:=(hb1'.block g HQ.out.1).trans HG.out
  have hp1:PRow w1 qv qs:=HP.out.to (fun k hk=>hb1'.block k (HQ.out.2 k hk).1)
  have HB1:Hid (Below R w w1):=hb1'
  have HR1:Hid (w1.heap[R]?=some (.cells #[.int .i64 (p.s:Int),.bool p.c,.func mf mA mB] 91)):=hR1
  have HG1:Hid (w1.heap[g]?=some (.cells #[a0,a1,a2,a3,a4,a5,qv] 74)):=hg1
  have HP1:Hid (PRow w1 qv qs):=hp1
  have HPL:Hid (Plc qs p i):=hpl
  clear hb1 d0 d1 d2 d3 hb1' hR1 hg1 HBS
  cases b with
  | true =>
    obtain ⟨hil,hk1,hk2⟩:=hbt.1 rfl
    rcases hp1.px with ⟨rfl,rfl⟩ | ⟨E,o,c,rfl,hB⟩
    · simp at hil
    obtain ⟨cur,x1,x2,x3⟩:=hB.row
    have hle:=hB.le
    have hmx:=hB.max
    have HX1:Hid (w1.heap[E]?=some (.cells cur 91)):=x1
    have HX3:Hid (∀ j u,(plnE.fl qs)[j]?=some u → cur[o * 3 + j]?=some u):=x3
    have HLI:Hid (∃ h:i < qs.length,qs[i].s=p.s∧qs[i].c=p.c∧qs.set i p=qs.set i p):=⟨hil,hk1,hk2,rfl⟩
    have hz0:(0:Int) ≤ (i:Int):=by omega
    have hz1:(i:Int) < (qs.length:Int):=by omega
    have s0:w1.drew.cell? ⟨R,0,none⟩=some (.int .i64 (p.s:Int)):=q0
    have s1:w1.drew.cell? ⟨R,1,none⟩=some (.bool p.c):=q1
    have s2:w1.drew.cell? ⟨R,2,none⟩=some (.func mf mA mB):=q2
    have s3:w1.drew.cell? ⟨g,6,none⟩=some (.slice (some ⟨E,o * 3,none⟩) qs.length c):=q3
    have hce:∀ j,j < 3 → ∃ v,w1.cell? ⟨E,o * 3 + i * 3 + j,none⟩=some v:=fun j hj=>by
      rw [cell_of_row _ _ _ _ _ _ x1,Array.getElem?_eq_getElem (by omega)]; exact ⟨_,rfl⟩
    obtain ⟨v0,y0⟩:=hce 0 (by omega)
    obtain ⟨v1,y1⟩:=hce 1 (by omega)
    obtain ⟨v2,y2⟩:=hce 2 (by omega)
    rw [Nat.add_zero] at y0
    have f0:w1.frozen? ⟨E,o * 3 + i * 3,none⟩=false:=frozen_of_row _ _ _ _ _ x1
    have f1:w1.frozen? ⟨E,o * 3 + i * 3 + 1,none⟩=false:=frozen_of_row _ _ _ _ _ x1
    have f2:w1.frozen? ⟨E,o * 3 + i * 3 + 2,none⟩=false:=frozen_of_row _ _ _ _ _ x1
    have hst2:Sem.run Tryz.prog (store ⟨E,o * 3 + i * 3 + 2,none⟩ (.func mf mA mB)) ((w1.setCell ⟨E,o * 3 + i * 3,none⟩ (.int .i64 (p.s:Int))).setCell ⟨E,o * 3 + i * 3 + 1,none⟩ (.bool p.c)).drew=.ok () (((w1.setCell ⟨E,o * 3 + i * 3,none⟩ (.int .i64 (p.s:Int))).setCell ⟨E,o * 3 + i * 3 + 1,none⟩ (.bool p.c)).setCell ⟨E,o * 3 + i * 3 + 2,none⟩ (.func mf mA mB)).drew:=by
      have hh:=heap_setCell_same _ E (o * 3 + i * 3 + 1) _ _ (.bool p.c) (heap_setCell_same w1 E (o * 3 + i * 3) _ _ (.int .i64 (p.s:Int)) x1)
      have hcx:((w1.setCell ⟨E,o * 3 + i * 3,none⟩ (.int .i64 (p.s:Int))).setCell ⟨E,o * 3 + i * 3 + 1,none⟩ (.bool p.c)).drew.cell? ⟨E,o * 3 + i * 3 + 2,none⟩=some _:=(cell_of_row _ _ _ _ _ _ hh).trans (Array.getElem?_eq_getElem (by simp; omega))
      have hfx:((w1.setCell ⟨E,o * 3 + i * 3,none⟩ (.int .i64 (p.s:Int))).setCell ⟨E,o * 3 + i * 3 + 1,none⟩ (.bool p.c)).drew.frozen? ⟨E,o * 3 + i * 3 + 2,none⟩=false:=frozen_of_row _ _ _ _ _ hh
      rw [run_store _ _ _ _ _ rfl,hcx,hfx]; rfl
    clear hbt hk1 hk2 hpl hp1 hB x1 x3 hce
    go_upto_region 3 with fail
    go_region_law (fail)
    all_goals
      obtain ⟨W5,hW5⟩:∃ W5,(((w1.setCell ⟨E,o * 3 + i * 3,none⟩ (.int .i64 (p.s:Int))).setCell ⟨E,o * 3 + i * 3 + 1,none⟩ (.bool p.c)).setCell ⟨E,o * 3 + i * 3 + 2,none⟩ (.func mf mA mB)).drew=W5:=⟨_,rfl⟩
      have hE5:W5.heap[E]?=some (.cells (spl cur (o * 3 + i * 3) (plnE.enc p)) 91):=by
        have:=heap_cells E 91 [.int .i64 (p.s:Int),.bool p.c,.func mf mA mB] (o * 3 + i * 3) w1 cur HX1.out (by simp; omega)
        rw [← hW5,show plnE.enc p=[.int .i64 (p.s:Int),.bool p.c,.func mf mA mB] by rw [← HMV.out]; rfl]
        exact this
      have hO5:Only w1 W5 E:=by rw [← hW5]; exact only_drew ((((Only.refl w1 E).set _ _).set _ _).set _ _)
      have HFIN:Hid (LayP w g a0 a1 a2 a3 a4 a5 (.slice (some ⟨E,o * 3,none⟩) qs.length c) qs p (.returned (.tuple #[])) W5):=by
        refine ⟨rfl,.slice (some ⟨E,o * 3,none⟩) qs.length c,qs.set i p,⟨i,HPL.out,Or.inl HLI.out⟩,?_,(PX.set hil hle hmx x2 HX3.out hE5).prow' (by simp),fun k hk=>Or.inl hk,?_⟩
        · exact (hO5.other g (fun e=>(HQ.out.2 E rfl).2 e.symm)).trans HG1.out
        · have m1:ModP (fun k=>k=g ∨ (Value.slice (some ⟨E,o * 3,none⟩) qs.length c).ownBlock=some k) w w1:=ModP.below (by rw [HR.out]; exact HB1.out)
          exact m1.trans (ModP.only hO5 (Or.inr rfl))
      rw [hW5]
      clear hE5 hO5 hW5 hst2 y0 y1 y2 f0 f1 f2 s0 s1 s2 s3 q0 q1 q2 q3
      go_wp2
      first | go_returns | go_end0
      exact HFIN.out
  | false =>
    have hno:¬ ∃ h:i < qs.length,qs[i].s=p.s∧qs[i].c=p.c:=fun hh=>by have:=hbt.2 hh; cases this
    have HNO:Hid _:=hno
    have HSA:Hid (w1.heap.size ≤ (w1.alloc (.cells #[.int .i64 (p.s:Int),.bool p.c,.func mf mA mB] 91)).heap.size):=by show _ ≤ _; simp
    have HBA:Hid (∀ k,k < w1.heap.size → (w1.alloc (.cells #[.int .i64 (p.s:Int),.bool p.c,.func mf mA mB] 91)).heap[k]?=w1.heap[k]?):=fun k hk=>heap_alloc_old w1 _ hk
    have HXA:Hid _:=one_alloc w1 (.cells #[.int .i64 (p.s:Int),.bool p.c,.func mf mA mB] 91)
    have HIN:Hid (∀ W,(Below w1.heap.size w1 W∧W.heap[w1.heap.size]?=some (.cells #[.int .i64 (p.s:Int),.bool p.c,.func mf mA mB] 91)) → Calls Tryz.prog 81 #[qv,.int .i64 (i:Int),.slice (some ⟨w1.heap.size,0,none⟩) 1 1] W fun r w'=>∃ v',r=.returned v'∧w'.heap[g]?=some (.cells #[a0,a1,a2,a3,a4,a5,qv] 74)∧PRow w' v' (qs.take i ++ p :: qs.drop i)∧ModP (fun k=>k=g ∨ qv.ownBlock=some k) w w'∧∀ k,v'.ownBlock=some k → qv.ownBlock=some k ∨ R ≤ k):=fun W hW=>by
      have hpW:PRow W qv qs:=HP1.out.to (fun k hk=>hW.1.block k (by obtain ⟨cur,hc⟩:=HP1.out.type hk; exact row_lt hc))
      have hsz1:R ≤ w1.heap.size:=by have:=HB1.out.size; rw [HR.out] at this; exact this
      refine (insP_any w1.heap.size i 1 p qv qs hl W hpW HPL.out.le (by rw [HMV.out]; exact hW.2) (fun e=>by have:=(HQ.out.2 _ e).1; omega)).mono ?_
      rintro r w' ⟨v',rfl,hp',hm',hk'⟩
      have hgW:=(hW.1.block g (row_lt HG1.out)).trans HG1.out
      refine ⟨v',rfl,(hm'.oth g (row_lt hgW) (fun e=>(HQ.out.2 _ e).2 rfl)).trans hgW,hp',?_,fun k hk=>(hk' k hk).imp id (fun q=>by have:=hW.1.size; omega)⟩
      have m1:ModP (fun k=>k=g ∨ qv.ownBlock=some k) w W:=(ModP.below (by rw [HR.out]; exact HB1.out)).trans (ModP.below hW.1)
      exact m1.trans (hm'.weak (fun k _ e=>Or.inr e))
    have s0:w1.drew.cell? ⟨R,0,none⟩=some (.int .i64 (p.s:Int)):=q0
    have s1:w1.drew.cell? ⟨R,1,none⟩=some (.bool p.c):=q1
    have s2:w1.drew.cell? ⟨R,2,none⟩=some (.func mf mA mB):=q2
    have s3:w1.drew.cell? ⟨g,6,none⟩=some qv:=q3
    have s3a:=cell_on q3 ((Below.refl _ w1).alloc (Nat.le_refl _) (.cells #[.int .i64 (p.s:Int),.bool p.c,.func mf mA mB] 91))
    clear hbt hno hpl hp1
    go_upto_region 4 with fail
    go_region_law (first
      | (go_simp; refine (show Calls _ _ _ _ _ from HIN.out ((w1.alloc (.cells #[.int .i64 (p.s:Int),.bool p.c,.func mf mA mB] 91)).drew) ⟨⟨rfl,rfl,rfl,HSA.out,HBA.out⟩,HXA.out⟩).mono ?_; rintro e w5 ⟨v5,rfl,hg5,hp5,hm5,hk5⟩; obtain ⟨P5,c5,hf5⟩:=hp5.form; subst hf5; obtain ⟨_,_,_,_,_,_,t6,tfx⟩:=fsC7 hg5; have tf:=tfx 6))
    all_goals
      have hg6:=fs_set hg5 6 (.slice P5 (qs.take i ++ p :: qs.drop i).length c5)
      have HFIN:Hid (LayP w g a0 a1 a2 a3 a4 a5 qv qs p (.returned (.tuple #[])) (w5.setCell ⟨g,6,none⟩ (.slice P5 (qs.take i ++ p :: qs.drop i).length c5))):=by
        refine ⟨rfl,.slice P5 (qs.take i ++ p :: qs.drop i).length c5,qs.take i ++ p :: qs.drop i,⟨i,HPL.out,Or.inr ⟨HNO.out,rfl⟩⟩,hg6.1,hp5.to (fun k hk=>hg6.2.other k (fun e=>?_)),fun k hk=>?_,hm5.trans (ModP.only hg6.2 (Or.inl rfl))⟩
        · subst e
          obtain ⟨cur,hc⟩:=hp5.type hk
          have:=hc.symm.trans hg5
          injection this with this
          injection this with _ h2
          exact absurd h2 (by decide)
        · have:=hk5 k hk
          rw [HR.out]; exact this
      first | go_end0 | (go_wp2; go_end0)
      have e9:(qs.take i ++ p :: qs.drop i).length=min i qs.length + (qs.length - i + 1):=by simp
      have hfin:=HFIN.out
      rw [e9] at hfin
      exact hfin
end Go.Proofs.YtbgbmfmgdgalbaaGreatDoor
