import Derived.Test.YtiefeeoellagnaaGreatDoorAJ
import Derived.Test.YtiefeeoellagnaaGreatDoorFG
import Derived.OwnWalkIn
import Derived.Maps.AppendAt
namespace Go.Proofs.YtiefeeoellagnaaGreatDoor.S6
open Go.RowKit
set_option linter.unusedVariables false
attribute [local go_sem] Oper.semAt_some
def Hit (from_ step:Int) (it:LM.Item) (l:List LM.Item) (k:Nat):Prop:=from_ ≤ (k:Int)∧((k:Int) - from_) % step=0∧l[k]?=some it
def FindIs (l:List LM.Item) (from_ step:Int) (it:LM.Item) (r:Int):Prop:=
  (∃ k:Nat,r=(k:Int)∧Hit from_ step it l k∧∀ j,j < k → ¬ Hit from_ step it l j) ∨ (r=-1∧∀ j,j < l.length → ¬ Hit from_ step it l j)
end Go.Proofs.YtiefeeoellagnaaGreatDoor.S6
namespace Go.Proofs.YtiefeeoellagnaaGreatDoor.S6
open Go.RowKit
set_option linter.unusedVariables false
attribute [local go_sem] Oper.semAt_some
def encV (x:LM.Ent):Value:=.string (strB (LM.val x.it))
theorem rown_form {w:World} {base g k c:Nat} {xs:List Value} (h:w.ownsRow base 9 1 (.slice (some ⟨g,0,none⟩) k c) k xs):∃ cur,w.heap[g]?=some (.cells cur 9)∧cur.size=c∧cur.toList.take k=xs:=by
  obtain ⟨_,⟨h0,_⟩ | ⟨g',cap,cur,hv,hb,hg,h1,h2,h3,h4⟩⟩:=h
  · cases h0
  · injection hv with e1 e2 e3
    injection e1 with e1
    injection e1 with e1
    subst e1; subst e3
    exact ⟨cur,hg,by omega,by rwa [Nat.mul_one] at h4⟩
theorem rown_mk {w:World} {base g k c:Nat} {xs:List Value} {cur:Array Value} (hb:base ≤ g) (hk:k ≤ c) (hc:c ≤ maxLen) (hg:w.heap[g]?=some (.cells cur 9)) (hs:cur.size=c) (ht:cur.toList.take k=xs):w.ownsRow base 9 1 (.slice (some ⟨g,0,none⟩) k c) k xs:=by
  refine ⟨?_,Or.inr ⟨g,c,cur,rfl,hb,hg,hk,hc,by omega,by rwa [Nat.mul_one]⟩⟩
  rw [← ht,List.length_take,Array.length_toList]; omega
theorem KA.grown {B g:Nat} {W W':World} (h:W.grownBy W' (some g)) (hg:g < B):KA B W W':=
  ⟨h.size,fun k o hk e=>(h.block k (row_lt e) (fun x=>by injection x with x; omega)).trans e⟩
theorem opIn_append_fits {F:Fence} {n:Nat} {P:Program} (w:World) {o:Oper} {a:Act} {K:Act → World → Prop} {Q:Exit → Act → World → Prop}
    (s x:Operand) (t:TypeId) (hop:o.op=Op.call { callee:=Callee.builtin Builtin.append,args:=#[s,x],argTypes:=#[t,t] })
    (base:Nat) (e:TypeId) (i:TypeInfo) (size:Nat) (h1:P.underlying t=some (.slice e)) (h2:P.info? e=some i) (h4:i.size=size)
    (g k cap:Nat) (xs:List Value) (hs:a.eval s=.slice (some ⟨g,0,none⟩) k cap) (hown:w.ownsRow base e size (.slice (some ⟨g,0,none⟩) k cap) k xs) (ad:Addr) (m c:Nat) (news:List Value) (hx:a.eval x=.slice (some ad) m c) (hn:news.length=m * size)
    (hc:∀ j u,news[j]?=some u → w.cell? (ad.add j)=some u) (h1c:∀ u ∈ news,u.oneCell'=true) (b1:k + m ≤ cap)
    (hK:∀ w',w'.ownsRow base e size (.slice (some ⟨g,0,none⟩) (k + m) cap) (k + m) (xs ++ news) → w.grownBy w' (some g) → K (a.put o.dst (.slice (some ⟨g,0,none⟩) (k + m) cap)) w') :
    o.wpIn F n P a w K Q:=by
  obtain ⟨w',hrun,r1,r2⟩:=run_append_fits (P:=P) w base t o.type e i size h1 h2 h4 g k cap xs hown ad m c news hn hc h1c b1
  unfold Oper.wpIn
  refine ⟨?_,?_⟩
  · simp [Oper.about,hop,resolve,Target.leads,Sem.run_pure]
  · rw [Oper.semAt_plain F _ _ (by rw [hop]; intro c hc'; cases hc')]
    simp [execOp,hop,resolve,invoke,builtin,hs,hx,hrun,Oper.uponIn]
    exact hK w' r1 r2
theorem ents_vals (l:List LM.Item):(LM.entsFrom 0 0 l).map encV=l.map (fun it=>Value.string (strB (LM.val it))):=by
  have h:=LM.ents_items l 0 0
  have e:(LM.entsFrom 0 0 l).map encV=((LM.entsFrom 0 0 l).map LM.Ent.it).map (fun it=>Value.string (strB (LM.val it))):=by rw [List.map_map]; rfl
  rw [e,h]
set_option maxHeartbeats 2000000 in
set_option maxRecDepth 100000 in
theorem Walk_f (p:ByteArray) (l:List LM.Item) (hpk:LM.Pk p.data.toList l) (w:World) (hw:Lay w) :
    Calls Tryz.prog 305 #[.string p,.bool false] w fun e w'=>(∃ g,e=.returned (.tuple #[.slice (some ⟨g,0,none⟩) l.length l.length,.int .i64 0])∧w'.ownsRow w.heap.size 9 1 (.slice (some ⟨g,0,none⟩) l.length l.length) l.length (l.map (fun it=>Value.string (strB (LM.val it)))))∧Below w.heap.size w w':=by
  have HW:Hid (Lay w):=hw
  have HPK:Hid _:=hpk
  have hl:=hpk.wf
  have hlen:=hpk.len
  have hs:LM.bsum l ≤ 1073741824:=by have:=hpk.size; rw [hpk.eq,LM.build_len] at this; omega
  have hge:=LM.bsum_ge l
  have HRH:Hid (∀ W,Lay W → Calls Tryz.prog 257 #[.string p] W (rdP p W)):=fun W hW=>read_any p (by have:=hpk.size; rw [list_len] at this; omega) W hW
  obtain ⟨i9,hi9,hz0,hz1,hz2⟩:=info_parts info9
  have HI9:Hid (Tryz.prog.info? 9=some i9∧i9.zero=some (.string ⟨#[]⟩)∧i9.size=1∧i9.bytes=16):=⟨hi9,hz0,hz1,hz2⟩
  clear hi9 hz0 hz1 hz2
  have HVL:Hid (((LM.entsFrom 0 0 l)).map encV=l.map (fun it=>Value.string (strB (LM.val it)))):=by
    show _=_; exact ents_vals l
  have HLL:Hid (((LM.entsFrom 0 0 l)).length=l.length):=by show _=_; rw [LM.ents_len]
  clear hw hpk
  refine calls_of_wpB (n:=10) Tryz.func305 rfl ?_
  simp only [Tryz.ntmps305,List.size_toArray,List.length_cons,List.length_nil,Nat.reduceAdd,Nat.reduceSub,Array.replicate_succ,Array.replicate_zero,List.push_toArray,List.append_toArray,List.nil_append,List.cons_append]
  refine wpB_then (n:=10) ?_
  gi_wp2
  refine wpB_then (n:=10) ?_
  gi_wp2_with fail
  refine ⟨trivial,(callsIn_wide.2 (HRH.out _ HW.out)).mono ?_⟩
  rintro e w1 ⟨⟨l',hl',rfl⟩ | ⟨hno,rfl⟩,hb1⟩
  case inr=>exact absurd HPK.out (hno l)
  have he:=HPK.out.uniq hl'
  subst he
  have HB1:Hid (Below w.heap.size w w1):=hb1
  have hBs:(strB (LM.bodyOf l)).size=LM.bsum l:=by rw [strB_size,LM.bodyOf_len]
  have HBL:Hid ((strB (LM.bodyOf l)).data.toList=LM.bodyOf l):=strB_list _
  clear hb1 hl'
  generalize strB (LM.bodyOf l)=Bo at *
  gi_wp2
  obtain ⟨kp,hkp⟩:∃ kp,w1.heap.size=kp:=⟨_,rfl⟩
  obtain ⟨W1,hW1⟩:∃ W1,W1=w1.alloc (.cells #[.string Bo,.int .i64 (l.length:Int)] 349):=⟨_,rfl⟩
  rw [← hW1,hkp]
  have HB2:Hid (Below w.heap.size w W1):=by rw [hW1]; exact HB1.out.alloc HB1.out.size _
  have HP1:Hid (W1.heap[kp]?=some (.cells #[.string Bo,.int .i64 (l.length:Int)] 349)):=by rw [hW1,← hkp]; exact one_alloc w1 _
  have HG1:Hid (w.heap.size ≤ kp):=by rw [← hkp]; exact HB1.out.size
  clear hW1 hkp
  refine wpB_then (n:=10) ?_
  gi_wp2
  obtain ⟨p0,p1,pf⟩:=prow2 HP1.out
  refine wpB_then (n:=10) ?_
  gi_wp2_with fail
  refine ⟨trivial,(callsIn_wide.2 (fwd_any Bo (l.length:Int) _)).mono ?_⟩
  rintro e w3 ⟨rfl,hw3⟩
  obtain ⟨b1,hb1⟩:∃ b1,W1.heap.size=b1:=⟨_,rfl⟩
  rw [hb1]
  have HX3:Hid (w3.heap[b1]?=some (.cells #[.string Bo,.int .i64 (l.length:Int)] 349)):=by rw [hw3,← hb1]; exact one_alloc W1 _
  have hbw:Below W1.heap.size W1 w3:=by rw [hw3]; exact (Below.refl _ _).alloc (Nat.le_refl _) _
  have HP3:Hid _:=keep_row HP1.out hbw
  have HB3:Hid (Below w.heap.size w w3):=bel_to HB2.out hbw (Nat.le_refl _)
  clear hw3 hbw p0 p1 pf hb1
  obtain ⟨p0,p1,pf⟩:=prow2 HP3.out
  gi_wp2
  refine wpB_then (n:=10) ?_
  gi_wp2
  obtain ⟨w4,hw4⟩:∃ w4,w4=w3:=⟨_,rfl⟩
  obtain ⟨bx,hbx⟩:∃ bx,bx=b1:=⟨_,rfl⟩
  rw [← hw4,← hbx]
  have HX4:Hid (w4.heap[bx]?=some (.cells #[.string Bo,.int .i64 (l.length:Int)] 349)):=by rw [hw4,hbx]; exact HX3.out
  have HP4:Hid (w4.heap[kp]?=some (.cells #[.string Bo,.int .i64 (l.length:Int)] 349)):=by rw [hw4]; exact HP3.out
  have HB4:Hid (Below w.heap.size w w4):=by rw [hw4]; exact HB3.out
  clear hw4 p0 p1 pf hbx
  obtain ⟨p0,p1,pf⟩:=prow2 HP4.out
  refine wpB_then (n:=10) ?_
  gi_wp2_with (gi_at_make; refine wpListIn_make_own _ rfl _ _ 34 rfl w.heap.size 9 i9 (.string ⟨#[]⟩) 1 Tryz.underlying34 HI9.out.1 HI9.out.2.1 HI9.out.2.2.1 .i64 .i64 (l.length:Int) l.length rfl rfl rfl (by rw [HI9.out.2.2.2]; omega) (by unfold maxLen; omega) HB4.out.size ?_; intro w5 hown5 hgrow5)
  obtain ⟨g,hg⟩:∃ g,w4.heap.size=g:=⟨_,rfl⟩
  obtain ⟨kl,hkl⟩:∃ kl,w5.heap.size=kl:=⟨_,rfl⟩
  obtain ⟨w6,hw6⟩:∃ w6,w6=w5.alloc (.cells #[.slice (some ⟨w4.heap.size,0,none⟩) 0 l.length] 34):=⟨_,rfl⟩
  rw [← hw6,hkl]
  rw [hg] at hw6 hown5 ⊢
  have HB5:Hid (Below w.heap.size w w5):=HB4.out.grown hgrow5 HB4.out.size (fun k hk=>by cases hk)
  have HX5:Hid _:=keep_row HX4.out ((Below.refl _ w4).grown hgrow5 (Nat.le_refl _) (fun k hk=>by cases hk))
  have HG5:Hid _:=rown_form hown5
  have hbw:Below w5.heap.size w5 w6:=by rw [hw6]; exact (Below.refl _ _).alloc (Nat.le_refl _) _
  have HB6:Hid (Below w.heap.size w w6):=bel_to HB5.out hbw (Nat.le_refl _)
  have HX6:Hid _:=keep_row HX5.out hbw
  have HG6:Hid (∃ cur,w6.heap[g]?=some (.cells cur 9)∧cur.size=l.length∧cur.toList.take 0=[]):=by
    obtain ⟨cur,h1,h2,h3⟩:=HG5.out
    exact ⟨cur,keep_row h1 hbw,h2,h3⟩
  have HK6:Hid (w6.heap[kl]?=some (.cells #[.slice (some ⟨g,0,none⟩) 0 l.length] 34)):=by rw [hw6,← hkl]; exact one_alloc w5 _
  have HD6:Hid (w.heap.size ≤ g∧g < w6.heap.size∧w.heap.size ≤ kl∧kl < w6.heap.size∧g ≠ kl∧bx ≠ g∧bx ≠ kl):=by
    obtain ⟨cur,h1,_,_⟩:=HG5.out
    have h2:=row_lt h1
    have h3:=row_lt HK6.out
    have h4:=HB4.out.size
    have h5:=HB5.out.size
    have h6:=hbw.size
    have h7:=row_lt HX4.out
    refine ⟨by omega,by omega,by omega,h3,by omega,by omega,by omega⟩
  clear hw6 hbw hown5 hgrow5 hg hkl p0 p1 pf
  refine wpB_seq (wpB_then (n:=10) ?_)
  gi_wp2
  refine wpB_block ?_
  have hseq:=fwd_seq 9 Bo (l.length:Int) bx (l.length + LM.bsum l + 1) w6.heap.size (by omega) (by omega)
  rw [HBL.out,LM.parse_body l _ 0 0 hl (by omega)] at hseq
  have HSQ:Hid _:=hseq
  clear hseq
  refine WpB_act (fun a0 ha0=>?_)
  refine wpB_range (n:=10) (α:=LM.Ent) (encs:=encs) (L:=(LM.entsFrom 0 0 l)) (bad:=false) (pch:=pch) (box:=Box Bo (l.length:Int) bx) Tryz.func305 (gf:=320) (lb:=#[.pointer (some ⟨bx,0,none⟩)]) (by rw [ha0]; rfl) (enters_of Tryz.func320 (by kernel_rfl) rfl) HSQ.out (fun _=>rfl)
    (fun pre W=>(∃ cur,W.heap[g]?=some (.cells cur 9)∧cur.size=l.length∧cur.toList.take pre.length=pre.map encV)∧W.heap[kl]?=some (.cells #[.slice (some ⟨g,0,none⟩) pre.length l.length] 34)∧W.heap[bx]?=some (.cells #[.string Bo,.int .i64 (l.length:Int)] 349)∧Below w.heap.size w W)
    (fun cd pre W=>False)
    (fun _=>False)
    ?hI ?hIx (fun _ _ _ _ hs _ _=>hs) ?hbox ?h0
    (fun (x:LM.Ent) (a':Act) (W:World)=>∃ kk:Nat,a'={ tmps:=((a0.tmps.setIfInBounds 29 (.int .i64 (x.place:Int))).setIfInBounds 30 (encE x.it x.begin x.span)).setIfInBounds 11 (.pointer (some ⟨kk,0,none⟩)),defers:=[] }∧W.heap[kk]?=some (.cells #[.string (strB x.it.txt),.int .i64 x.it.num,.bool x.it.isN,.int .i64 (x.begin:Int),.int .i64 (x.span:Int)] 387)) ?hAx ?assign ?body ?done ?stop ?pan
  case hI =>
    rintro s A B row ⟨⟨cur,h1,h2,h3⟩,h4,h5,h6⟩ hg hr
    exact ⟨⟨cur,own_row h1 hg hr,h2,h3⟩,own_row h4 hg hr,own_row h5 hg hr,ownFrom_below (β:=Unit) (Nat.le_refl _) HB6.out.size () A B row h6 hg hr⟩
  case hIx=>rintro cd s A B row h hg hr; exact h
  case hbox =>
    rintro pre W ⟨h1,h2,h3,h4⟩
    exact ⟨h3,(HW.out.on h4).wid⟩
  case h0 =>
    obtain ⟨cur,h1,h2,h3⟩:=HG6.out
    exact ⟨⟨cur,h1,h2,h3⟩,HK6.out,HX6.out,HB6.out⟩
  case hAx =>
    rintro x a' s A B row ⟨kk,h1,h2⟩ hg hr
    exact ⟨kk,h1,own_row h2 hg hr⟩
  case pan=>intro D W _ h; rcases h with h | ⟨h,_⟩; exact h.elim; cases h
  case stop=>rintro D cd pre W hD hpre h hDr; exact h.elim
  case assign =>
    intro ll pre x W K hpre hI hK
    have HKK:Hid _:=hK
    clear hK hI
    obtain ⟨pl,⟨t,m,q⟩,a,n⟩:=x
    obtain ⟨T,hT⟩:∃ T,strB t=T:=⟨_,rfl⟩
    have HA0:Hid _:=ha0
    rw [ha0]
    simp only [encs,encE,hT,List.zip_toArray,List.zip_cons_cons,List.zip_nil_right,List.foldl_toArray,List.foldl_cons,List.foldl_nil,List.setIfInBounds_toArray,List.set_cons_zero,List.set_cons_succ]
    clear ha0
    gi_wp2
    refine HKK.out _ _ ((Below.refl _ W).alloc (Nat.le_refl _) _) ⟨W.heap.size,?_,?_⟩
    · rw [HA0.out,← hT]; rfl
    · rw [hT]; exact one_alloc W _
  case body =>
    rintro ll pre x a' W hll hpre ⟨⟨cur,hG,hGs,hGt⟩,hK,hX,hb⟩ ⟨kk,ha',hrow⟩
    have hmem:x ∈ LM.entsFrom 0 0 l:=hpre.subset (by simp)
    have hlp:pre.length + 1 ≤ l.length:=by
      have:=hpre.length_le
      rw [HLL.out,List.length_append] at this; simpa using this
    obtain ⟨jj,hjj,hx⟩:=ents_pl l x hmem
    have hwf:LM.Wf x.it:=by rw [hx]; exact hl _ (List.getElem_mem hjj)
    have HVA:Hid (∀ W,Laid W → Calls Tryz.prog 259 #[.agg #[.string (strB x.it.txt),.int .i64 x.it.num,.bool x.it.isN]] W fun e w'=>e=.returned (.string (strB (LM.val x.it)))∧Below W.heap.size W w'):=fun W hW=>value_any x.it hwf W hW
    clear hx hmem hjj hwf
    have HVX:Hid (encV x=.string (strB (LM.val x.it))):=rfl
    obtain ⟨pl,⟨t,m,q⟩,a,n⟩:=x
    simp only at HVA HVX
    generalize strB (LM.val ⟨t,m,q⟩)=VV at *
    obtain ⟨T,hT⟩:∃ T,strB t=T:=⟨_,rfl⟩
    simp only [encE,hT] at ha' hrow HVA
    have HXX:Hid _:=hX
    have HB:Hid (Below w.heap.size w W):=hb
    have hKd:W.drew.heap[kl]?=some (.cells #[.slice (some ⟨g,0,none⟩) pre.length l.length] 34):=hK
    have hGd:W.drew.heap[g]?=some (.cells cur 9):=hG
    obtain ⟨i0,if0⟩:=row1 hK
    obtain ⟨k0,k1,k2,k3,k4,kf⟩:=row5 hrow
    have hlay:Laid W.drew:=(HW.out.on (below_dn hb 1)).laid
    have HC:Hid (cur.size=l.length∧cur.toList.take pre.length=pre.map encV∧pre.length ≤ l.length∧l.length ≤ maxLen∧w.heap.size ≤ g∧g ≠ kl∧pre.length + 1 ≤ l.length):=⟨hGs,hGt,by omega,by unfold maxLen; omega,HD6.out.1,HD6.out.2.2.2.2.1,hlp⟩
    have hmx:Tryz.prog.follows .mixedOrders=true:=by kernel_rfl
    have hi9:=HI9.out.1
    have hz1:=HI9.out.2.2.1
    rw [ha',ha0]
    simp only [List.setIfInBounds_toArray,List.set_cons_zero,List.set_cons_succ]
    clear ha' ha0 hX hb hpre hG hGs hGt hK hlp
    gi_wp2_with fail
    refine wpIn_region_any (by kernel_rfl) ?_
    change wpAnyIn _ _ _ _ _ _ _ _ _ W.drew
    refine wpAnyIn_ready (rs:=[0,1]) (by kernel_rfl) (by simp) ?_
    refine AllReadyIn.cons rfl (fun K hK=>?_) (AllReadyIn.cons rfl (fun K hK=>?_) AllReadyIn.nil)
    · go_simp
      refine hK _ _ ?_; clear hK K
      refine wpAnyIn_ready (rs:=[1]) (by kernel_rfl) (by simp) ?_
      refine AllReadyIn.cons rfl (fun K hK=>?_) AllReadyIn.nil
      go_simp
      refine hK _ _ ?_; clear hK K
      refine wpAnyIn_ready (rs:=[2]) (by kernel_rfl) (by simp) ?_
      refine AllReadyIn.cons rfl (fun K hK=>?_) AllReadyIn.nil
      go_simp
      refine hK _ _ ?_; clear hK K
      refine wpAnyIn_ready (rs:=[3]) (by kernel_rfl) (by simp) ?_
      refine AllReadyIn.cons rfl (fun K hK=>?_) AllReadyIn.nil
      go_simp
      gi_wp2_with ((refine ⟨trivial,?_⟩; gi_at_call 259; refine (CallsIn.inRound ll (callsIn_wide.2 (HVA.out _ hlay))).mono ?_; rintro e w5 ⟨rfl,hb5⟩; have hK5:=keep_row hKd hb5; have hG5:=keep_row hGd hb5; have HB5':Hid (Below W.drew.heap.size W.drew w5):=hb5; have HK5a:Hid ((w5.alloc (.cells #[.string VV] 9)).heap[kl]?=some (.cells #[.slice (some ⟨g,0,none⟩) pre.length l.length] 34)):=keep_row hK5 ((Below.refl _ w5).alloc (Nat.le_refl _) _); obtain ⟨i0,if0⟩:=row1 hK5; obtain ⟨i5,if5⟩:=row1 HK5a.out; clear hb5 hlay))
      refine wpAnyIn_ready (rs:=[4]) (by kernel_rfl) (by simp) ?_
      refine AllReadyIn.cons rfl (fun K hK=>?_) AllReadyIn.nil
      go_simp
      refine hK _ _ ?_; clear hK K
      refine wpAnyIn_ready (rs:=[5]) (by kernel_rfl) (by simp) ?_
      refine AllReadyIn.cons rfl (fun K hK=>?_) AllReadyIn.nil
      rw [if_pos (by rfl)]
      refine opIn_append_fits _ _ _ 34 rfl w.heap.size 9 i9 1 Tryz.underlying34 hi9 hz1 g pre.length l.length (pre.map encV) rfl (rown_mk HC.out.2.2.2.2.1 HC.out.2.2.1 HC.out.2.2.2.1 (keep_row hG5 ((Below.refl _ w5).alloc (Nat.le_refl _) _)) HC.out.1 HC.out.2.1) ⟨w5.heap.size,0,none⟩ 1 1 [.string VV] rfl rfl (cell_one_new _ _ _) (by simp [Value.oneCell']) HC.out.2.2.2.2.2.2 ?_
      intro w7 hown7 hgrow7
      refine hK _ _ ?_; clear hK K
      have hK7:w7.heap[kl]?=some (.cells #[.slice (some ⟨g,0,none⟩) pre.length l.length] 34):=(hgrow7.block kl (row_lt HK5a.out) (fun x=>by injection x with x; exact HC.out.2.2.2.2.2.1 x.symm)).trans HK5a.out
      obtain ⟨i7,if7⟩:=row1 hK7
      have HGR:Hid _:=hgrow7
      have HOW7:Hid _:=hown7
      clear hgrow7 hown7 i0 if0 i5 if5
      refine wpAnyIn_ready (rs:=[6]) (by kernel_rfl) (by simp) ?_
      refine AllReadyIn.cons rfl (fun K hK=>?_) AllReadyIn.nil
      go_simp
      refine hK _ _ ?_; clear hK K
      refine wpAnyIn_done (by kernel_rfl) ?_ _
      gi_wp2
      have hd:=HD6.out
      have hbwx:Below W.heap.size W w5:=(below_dn (Below.refl _ W) 1).trans HB5'.out
      have hbwa:Below W.heap.size W (w5.alloc (.cells #[.string VV] 9)):=hbwx.alloc hbwx.size _
      refine ⟨((KA.of_below hbwa).trans (KA.grown HGR.out hd.2.1)).trans (KA.setCell _ _ _ hd.2.2.2.1),?_,?_,?_,?_⟩
      · obtain ⟨cur',q1,q2,q3⟩:=rown_form HOW7.out
        refine ⟨cur',(heap_setCell_other _ _ _ _ hd.2.2.2.2.1).trans q1,q2,?_⟩
        rw [List.length_append,List.map_append]
        simpa [HVX.out] using q3
      · rw [heap_setCell_same _ _ _ _ _ _ hK7,List.length_append]; rfl
      · refine (heap_setCell_other _ _ _ _ hd.2.2.2.2.2.2).trans ?_
        exact (HGR.out.block bx (row_lt (keep_row HXX.out hbwa)) (fun x=>by injection x with x; exact hd.2.2.2.2.2.1 x)).trans (keep_row HXX.out hbwa)
      · exact ((bel_to HB.out hbwa (Nat.le_refl _)).grown HGR.out (Nat.le_trans HB.out.size hbwa.size) (fun k hk=>by injection hk with hk; rw [← hk]; exact hd.1)).setCell (p:=⟨kl,0,none⟩) hd.2.2.1 _
    · go_simp
      refine hK _ _ ?_; clear hK K
      refine wpAnyIn_ready (rs:=[0,2]) (by kernel_rfl) (by simp) ?_
      refine AllReadyIn.cons rfl (fun K hK=>?_) (AllReadyIn.cons rfl (fun K hK=>?_) AllReadyIn.nil)
      · go_simp
        refine hK _ _ ?_; clear hK K
        refine wpAnyIn_ready (rs:=[2]) (by kernel_rfl) (by simp) ?_
        refine AllReadyIn.cons rfl (fun K hK=>?_) AllReadyIn.nil
        go_simp
        refine hK _ _ ?_; clear hK K
        refine wpAnyIn_ready (rs:=[3]) (by kernel_rfl) (by simp) ?_
        refine AllReadyIn.cons rfl (fun K hK=>?_) AllReadyIn.nil
        go_simp
        gi_wp2_with ((refine ⟨trivial,?_⟩; gi_at_call 259; refine (CallsIn.inRound ll (callsIn_wide.2 (HVA.out _ hlay))).mono ?_; rintro e w5 ⟨rfl,hb5⟩; have hK5:=keep_row hKd hb5; have hG5:=keep_row hGd hb5; have HB5':Hid (Below W.drew.heap.size W.drew w5):=hb5; have HK5a:Hid ((w5.alloc (.cells #[.string VV] 9)).heap[kl]?=some (.cells #[.slice (some ⟨g,0,none⟩) pre.length l.length] 34)):=keep_row hK5 ((Below.refl _ w5).alloc (Nat.le_refl _) _); obtain ⟨i0,if0⟩:=row1 hK5; obtain ⟨i5,if5⟩:=row1 HK5a.out; clear hb5 hlay))
        refine wpAnyIn_ready (rs:=[4]) (by kernel_rfl) (by simp) ?_
        refine AllReadyIn.cons rfl (fun K hK=>?_) AllReadyIn.nil
        go_simp
        refine hK _ _ ?_; clear hK K
        refine wpAnyIn_ready (rs:=[5]) (by kernel_rfl) (by simp) ?_
        refine AllReadyIn.cons rfl (fun K hK=>?_) AllReadyIn.nil
        rw [if_pos (by rfl)]
        refine opIn_append_fits _ _ _ 34 rfl w.heap.size 9 i9 1 Tryz.underlying34 hi9 hz1 g pre.length l.length (pre.map encV) rfl (rown_mk HC.out.2.2.2.2.1 HC.out.2.2.1 HC.out.2.2.2.1 (keep_row hG5 ((Below.refl _ w5).alloc (Nat.le_refl _) _)) HC.out.1 HC.out.2.1) ⟨w5.heap.size,0,none⟩ 1 1 [.string VV] rfl rfl (cell_one_new _ _ _) (by simp [Value.oneCell']) HC.out.2.2.2.2.2.2 ?_
        intro w7 hown7 hgrow7
        refine hK _ _ ?_; clear hK K
        have hK7:w7.heap[kl]?=some (.cells #[.slice (some ⟨g,0,none⟩) pre.length l.length] 34):=(hgrow7.block kl (row_lt HK5a.out) (fun x=>by injection x with x; exact HC.out.2.2.2.2.2.1 x.symm)).trans HK5a.out
        obtain ⟨i7,if7⟩:=row1 hK7
        have HGR:Hid _:=hgrow7
        have HOW7:Hid _:=hown7
        clear hgrow7 hown7 i0 if0 i5 if5
        refine wpAnyIn_ready (rs:=[6]) (by kernel_rfl) (by simp) ?_
        refine AllReadyIn.cons rfl (fun K hK=>?_) AllReadyIn.nil
        go_simp
        refine hK _ _ ?_; clear hK K
        refine wpAnyIn_done (by kernel_rfl) ?_ _
        gi_wp2
        have hd:=HD6.out
        have hbwx:Below W.heap.size W w5:=(below_dn (Below.refl _ W) 1).trans HB5'.out
        have hbwa:Below W.heap.size W (w5.alloc (.cells #[.string VV] 9)):=hbwx.alloc hbwx.size _
        refine ⟨((KA.of_below hbwa).trans (KA.grown HGR.out hd.2.1)).trans (KA.setCell _ _ _ hd.2.2.2.1),?_,?_,?_,?_⟩
        · obtain ⟨cur',q1,q2,q3⟩:=rown_form HOW7.out
          refine ⟨cur',(heap_setCell_other _ _ _ _ hd.2.2.2.2.1).trans q1,q2,?_⟩
          rw [List.length_append,List.map_append]
          simpa [HVX.out] using q3
        · rw [heap_setCell_same _ _ _ _ _ _ hK7,List.length_append]; rfl
        · refine (heap_setCell_other _ _ _ _ hd.2.2.2.2.2.2).trans ?_
          exact (HGR.out.block bx (row_lt (keep_row HXX.out hbwa)) (fun x=>by injection x with x; exact hd.2.2.2.2.2.1 x)).trans (keep_row HXX.out hbwa)
        · exact ((bel_to HB.out hbwa (Nat.le_refl _)).grown HGR.out (Nat.le_trans HB.out.size hbwa.size) (fun k hk=>by injection hk with hk; rw [← hk]; exact hd.1)).setCell (p:=⟨kl,0,none⟩) hd.2.2.1 _
      · go_simp
        refine hK _ _ ?_; clear hK K
        refine wpAnyIn_ready (rs:=[0,3]) (by kernel_rfl) (by simp) ?_
        refine AllReadyIn.cons rfl (fun K hK=>?_) (AllReadyIn.cons rfl (fun K hK=>?_) AllReadyIn.nil)
        · go_simp
          refine hK _ _ ?_; clear hK K
          refine wpAnyIn_ready (rs:=[3]) (by kernel_rfl) (by simp) ?_
          refine AllReadyIn.cons rfl (fun K hK=>?_) AllReadyIn.nil
          go_simp
          gi_wp2_with ((refine ⟨trivial,?_⟩; gi_at_call 259; refine (CallsIn.inRound ll (callsIn_wide.2 (HVA.out _ hlay))).mono ?_; rintro e w5 ⟨rfl,hb5⟩; have hK5:=keep_row hKd hb5; have hG5:=keep_row hGd hb5; have HB5':Hid (Below W.drew.heap.size W.drew w5):=hb5; have HK5a:Hid ((w5.alloc (.cells #[.string VV] 9)).heap[kl]?=some (.cells #[.slice (some ⟨g,0,none⟩) pre.length l.length] 34)):=keep_row hK5 ((Below.refl _ w5).alloc (Nat.le_refl _) _); obtain ⟨i0,if0⟩:=row1 hK5; obtain ⟨i5,if5⟩:=row1 HK5a.out; clear hb5 hlay))
          refine wpAnyIn_ready (rs:=[4]) (by kernel_rfl) (by simp) ?_
          refine AllReadyIn.cons rfl (fun K hK=>?_) AllReadyIn.nil
          go_simp
          refine hK _ _ ?_; clear hK K
          refine wpAnyIn_ready (rs:=[5]) (by kernel_rfl) (by simp) ?_
          refine AllReadyIn.cons rfl (fun K hK=>?_) AllReadyIn.nil
          rw [if_pos (by rfl)]
          refine opIn_append_fits _ _ _ 34 rfl w.heap.size 9 i9 1 Tryz.underlying34 hi9 hz1 g pre.length l.length (pre.map encV) rfl (rown_mk HC.out.2.2.2.2.1 HC.out.2.2.1 HC.out.2.2.2.1 (keep_row hG5 ((Below.refl _ w5).alloc (Nat.le_refl _) _)) HC.out.1 HC.out.2.1) ⟨w5.heap.size,0,none⟩ 1 1 [.string VV] rfl rfl (cell_one_new _ _ _) (by simp [Value.oneCell']) HC.out.2.2.2.2.2.2 ?_
          intro w7 hown7 hgrow7
          refine hK _ _ ?_; clear hK K
          have hK7:w7.heap[kl]?=some (.cells #[.slice (some ⟨g,0,none⟩) pre.length l.length] 34):=(hgrow7.block kl (row_lt HK5a.out) (fun x=>by injection x with x; exact HC.out.2.2.2.2.2.1 x.symm)).trans HK5a.out
          obtain ⟨i7,if7⟩:=row1 hK7
          have HGR:Hid _:=hgrow7
          have HOW7:Hid _:=hown7
          clear hgrow7 hown7 i0 if0 i5 if5
          refine wpAnyIn_ready (rs:=[6]) (by kernel_rfl) (by simp) ?_
          refine AllReadyIn.cons rfl (fun K hK=>?_) AllReadyIn.nil
          go_simp
          refine hK _ _ ?_; clear hK K
          refine wpAnyIn_done (by kernel_rfl) ?_ _
          gi_wp2
          have hd:=HD6.out
          have hbwx:Below W.heap.size W w5:=(below_dn (Below.refl _ W) 1).trans HB5'.out
          have hbwa:Below W.heap.size W (w5.alloc (.cells #[.string VV] 9)):=hbwx.alloc hbwx.size _
          refine ⟨((KA.of_below hbwa).trans (KA.grown HGR.out hd.2.1)).trans (KA.setCell _ _ _ hd.2.2.2.1),?_,?_,?_,?_⟩
          · obtain ⟨cur',q1,q2,q3⟩:=rown_form HOW7.out
            refine ⟨cur',(heap_setCell_other _ _ _ _ hd.2.2.2.2.1).trans q1,q2,?_⟩
            rw [List.length_append,List.map_append]
            simpa [HVX.out] using q3
          · rw [heap_setCell_same _ _ _ _ _ _ hK7,List.length_append]; rfl
          · refine (heap_setCell_other _ _ _ _ hd.2.2.2.2.2.2).trans ?_
            exact (HGR.out.block bx (row_lt (keep_row HXX.out hbwa)) (fun x=>by injection x with x; exact hd.2.2.2.2.2.1 x)).trans (keep_row HXX.out hbwa)
          · exact ((bel_to HB.out hbwa (Nat.le_refl _)).grown HGR.out (Nat.le_trans HB.out.size hbwa.size) (fun k hk=>by injection hk with hk; rw [← hk]; exact hd.1)).setCell (p:=⟨kl,0,none⟩) hd.2.2.1 _
        · go_simp
          gi_wp2_with ((refine ⟨trivial,?_⟩; gi_at_call 259; refine (CallsIn.inRound ll (callsIn_wide.2 (HVA.out _ hlay))).mono ?_; rintro e w5 ⟨rfl,hb5⟩; have hK5:=keep_row hKd hb5; have hG5:=keep_row hGd hb5; have HB5':Hid (Below W.drew.heap.size W.drew w5):=hb5; have HK5a:Hid ((w5.alloc (.cells #[.string VV] 9)).heap[kl]?=some (.cells #[.slice (some ⟨g,0,none⟩) pre.length l.length] 34)):=keep_row hK5 ((Below.refl _ w5).alloc (Nat.le_refl _) _); obtain ⟨i0,if0⟩:=row1 hK5; obtain ⟨i5,if5⟩:=row1 HK5a.out; clear hb5 hlay))
          refine wpAnyIn_ready (rs:=[0,4]) (by kernel_rfl) (by simp) ?_
          refine AllReadyIn.cons rfl (fun K hK=>?_) (AllReadyIn.cons rfl (fun K hK=>?_) AllReadyIn.nil)
          · go_simp
            refine hK _ _ ?_; clear hK K
            refine wpAnyIn_ready (rs:=[4]) (by kernel_rfl) (by simp) ?_
            refine AllReadyIn.cons rfl (fun K hK=>?_) AllReadyIn.nil
            go_simp
            refine hK _ _ ?_; clear hK K
            refine wpAnyIn_ready (rs:=[5]) (by kernel_rfl) (by simp) ?_
            refine AllReadyIn.cons rfl (fun K hK=>?_) AllReadyIn.nil
            rw [if_pos (by rfl)]
            refine opIn_append_fits _ _ _ 34 rfl w.heap.size 9 i9 1 Tryz.underlying34 hi9 hz1 g pre.length l.length (pre.map encV) rfl (rown_mk HC.out.2.2.2.2.1 HC.out.2.2.1 HC.out.2.2.2.1 (keep_row hG5 ((Below.refl _ w5).alloc (Nat.le_refl _) _)) HC.out.1 HC.out.2.1) ⟨w5.heap.size,0,none⟩ 1 1 [.string VV] rfl rfl (cell_one_new _ _ _) (by simp [Value.oneCell']) HC.out.2.2.2.2.2.2 ?_
            intro w7 hown7 hgrow7
            refine hK _ _ ?_; clear hK K
            have hK7:w7.heap[kl]?=some (.cells #[.slice (some ⟨g,0,none⟩) pre.length l.length] 34):=(hgrow7.block kl (row_lt HK5a.out) (fun x=>by injection x with x; exact HC.out.2.2.2.2.2.1 x.symm)).trans HK5a.out
            obtain ⟨i7,if7⟩:=row1 hK7
            have HGR:Hid _:=hgrow7
            have HOW7:Hid _:=hown7
            clear hgrow7 hown7 i0 if0 i5 if5
            refine wpAnyIn_ready (rs:=[6]) (by kernel_rfl) (by simp) ?_
            refine AllReadyIn.cons rfl (fun K hK=>?_) AllReadyIn.nil
            go_simp
            refine hK _ _ ?_; clear hK K
            refine wpAnyIn_done (by kernel_rfl) ?_ _
            gi_wp2
            have hd:=HD6.out
            have hbwx:Below W.heap.size W w5:=(below_dn (Below.refl _ W) 1).trans HB5'.out
            have hbwa:Below W.heap.size W (w5.alloc (.cells #[.string VV] 9)):=hbwx.alloc hbwx.size _
            refine ⟨((KA.of_below hbwa).trans (KA.grown HGR.out hd.2.1)).trans (KA.setCell _ _ _ hd.2.2.2.1),?_,?_,?_,?_⟩
            · obtain ⟨cur',q1,q2,q3⟩:=rown_form HOW7.out
              refine ⟨cur',(heap_setCell_other _ _ _ _ hd.2.2.2.2.1).trans q1,q2,?_⟩
              rw [List.length_append,List.map_append]
              simpa [HVX.out] using q3
            · rw [heap_setCell_same _ _ _ _ _ _ hK7,List.length_append]; rfl
            · refine (heap_setCell_other _ _ _ _ hd.2.2.2.2.2.2).trans ?_
              exact (HGR.out.block bx (row_lt (keep_row HXX.out hbwa)) (fun x=>by injection x with x; exact hd.2.2.2.2.2.1 x)).trans (keep_row HXX.out hbwa)
            · exact ((bel_to HB.out hbwa (Nat.le_refl _)).grown HGR.out (Nat.le_trans HB.out.size hbwa.size) (fun k hk=>by injection hk with hk; rw [← hk]; exact hd.1)).setCell (p:=⟨kl,0,none⟩) hd.2.2.1 _
          · go_simp
            refine hK _ _ ?_; clear hK K
            refine wpAnyIn_ready (rs:=[0]) (by kernel_rfl) (by simp) ?_
            refine AllReadyIn.cons rfl (fun K hK=>?_) AllReadyIn.nil
            go_simp
            refine hK _ _ ?_; clear hK K
            refine wpAnyIn_ready (rs:=[5]) (by kernel_rfl) (by simp) ?_
            refine AllReadyIn.cons rfl (fun K hK=>?_) AllReadyIn.nil
            rw [if_pos (by rfl)]
            refine opIn_append_fits _ _ _ 34 rfl w.heap.size 9 i9 1 Tryz.underlying34 hi9 hz1 g pre.length l.length (pre.map encV) rfl (rown_mk HC.out.2.2.2.2.1 HC.out.2.2.1 HC.out.2.2.2.1 (keep_row hG5 ((Below.refl _ w5).alloc (Nat.le_refl _) _)) HC.out.1 HC.out.2.1) ⟨w5.heap.size,0,none⟩ 1 1 [.string VV] rfl rfl (cell_one_new _ _ _) (by simp [Value.oneCell']) HC.out.2.2.2.2.2.2 ?_
            intro w7 hown7 hgrow7
            refine hK _ _ ?_; clear hK K
            have hK7:w7.heap[kl]?=some (.cells #[.slice (some ⟨g,0,none⟩) pre.length l.length] 34):=(hgrow7.block kl (row_lt HK5a.out) (fun x=>by injection x with x; exact HC.out.2.2.2.2.2.1 x.symm)).trans HK5a.out
            obtain ⟨i7,if7⟩:=row1 hK7
            have HGR:Hid _:=hgrow7
            have HOW7:Hid _:=hown7
            clear hgrow7 hown7 i0 if0 i5 if5
            refine wpAnyIn_ready (rs:=[6]) (by kernel_rfl) (by simp) ?_
            refine AllReadyIn.cons rfl (fun K hK=>?_) AllReadyIn.nil
            go_simp
            refine hK _ _ ?_; clear hK K
            refine wpAnyIn_done (by kernel_rfl) ?_ _
            gi_wp2
            have hd:=HD6.out
            have hbwx:Below W.heap.size W w5:=(below_dn (Below.refl _ W) 1).trans HB5'.out
            have hbwa:Below W.heap.size W (w5.alloc (.cells #[.string VV] 9)):=hbwx.alloc hbwx.size _
            refine ⟨((KA.of_below hbwa).trans (KA.grown HGR.out hd.2.1)).trans (KA.setCell _ _ _ hd.2.2.2.1),?_,?_,?_,?_⟩
            · obtain ⟨cur',q1,q2,q3⟩:=rown_form HOW7.out
              refine ⟨cur',(heap_setCell_other _ _ _ _ hd.2.2.2.2.1).trans q1,q2,?_⟩
              rw [List.length_append,List.map_append]
              simpa [HVX.out] using q3
            · rw [heap_setCell_same _ _ _ _ _ _ hK7,List.length_append]; rfl
            · refine (heap_setCell_other _ _ _ _ hd.2.2.2.2.2.2).trans ?_
              exact (HGR.out.block bx (row_lt (keep_row HXX.out hbwa)) (fun x=>by injection x with x; exact hd.2.2.2.2.2.1 x)).trans (keep_row HXX.out hbwa)
            · exact ((bel_to HB.out hbwa (Nat.le_refl _)).grown HGR.out (Nat.le_trans HB.out.size hbwa.size) (fun k hk=>by injection hk with hk; rw [← hk]; exact hd.1)).setCell (p:=⟨kl,0,none⟩) hd.2.2.1 _
  case done =>
    rintro D W hD _ ⟨⟨cur,hG,hGs,hGt⟩,hK,hX,hb⟩ hDr
    rw [ha0]
    rw [HLL.out] at hGt hK
    rw [HVL.out] at hGt
    obtain ⟨i0,if0⟩:=row1 hK
    have HG:Hid _:=hG
    have HGT:Hid _:=hGt
    have HGS:Hid _:=hGs
    have HDR:Hid _:=hDr
    have HB:Hid (Below w.heap.size w W):=hb
    have HLM:Hid (l.length ≤ maxLen):=by show _ ≤ _; unfold maxLen; omega
    clear ha0 hX hb hDr hK hG hGt hGs
    refine wpB_then (n:=10) ?_
    gi_wp2
    refine wpB_of (n:=10) ?_
    gi_wp2
    refine ⟨by simp,.inl ⟨_,_,rfl,run_takeDeferred HDR.out,?_⟩⟩
    have h1:g ≠ D:=by rintro rfl; have:=HDR.out; rw [HG.out] at this; cases this
    refine ⟨.tuple #[.slice (some ⟨g,0,none⟩) l.length l.length,.int .i64 0],?_,⟨g,rfl,rown_mk HD6.out.1 (Nat.le_refl _) HLM.out (put_keep HG.out h1) HGS.out (by simpa using HGT.out)⟩,put_below HB.out (by have:=HB6.out.size; omega)⟩
    simp [results,Tryz.results305,go_sem]
end Go.Proofs.YtiefeeoellagnaaGreatDoor.S6
