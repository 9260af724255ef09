import Derived.Test.YtijambehfobopaaGreatDoorWAP
import Derived.Test.YtijambehfobopaaGreatDoorWAH
import Derived.Test.YtijambehfobopaaGreatDoorWAA
import Derived.Test.YtijambehfobopaaGreatDoorWAM
import Derived.Test.YtijambehfobopaaGreatDoorWAN
import Derived.Test.YtijambehfobopaaGreatDoorWAB
import Derived.Shelf.Abstract
import Derived.Shelf.RegionOpen
import Derived.OwnWalkIn
import Derived.TacticsInMore
import Derived.LoopNIn
import Derived.LoopIn
namespace Go.Proofs.YtijambehfobopaaGreatDoor
open Go.RowKit
set_option linter.unusedVariables false
set_option linter.unusedSimpArgs false
structure FR (w wr:World) (t q:Nat):Prop where
  b:Below w.heap.size w wr
  r0:wr.heap[w.heap.size]?=some (.cells #[.int .i64 0,.int .i64 0,.int .i64 0] 65)
  r1:wr.heap[w.heap.size + 1]?=some (.cells #[.int .i64 0,.int .i64 (t:Int),.int .i64 (q:Int)] 65)
theorem FR.dn {w wr:World} {t q:Nat} (h:FR w wr t q) (n:Nat):FR w (wr.drewN n) t q:=⟨below_dn h.b n,h.r0,h.r1⟩
theorem FR.kk {w wr:World} {t q:Nat} (h:FR w wr t q) (q':Nat):FR w (wr.setCell ⟨w.heap.size + 1,2,none⟩ (.int .i64 (q':Int))) t q':=
  ⟨h.b.setCell (p:=⟨w.heap.size + 1,2,none⟩) (by show w.heap.size ≤ w.heap.size + 1; omega) _,(heap_setCell_other _ _ _ _ (by show w.heap.size ≠ w.heap.size + 1; omega)).trans h.r0,by rw [heap_setCell_same _ _ _ _ _ _ h.r1]; rfl⟩
theorem FR.nn {w wr:World} {t q:Nat} (h:FR w wr t q) (t':Nat):FR w (wr.setCell ⟨w.heap.size + 1,1,none⟩ (.int .i64 (t':Int))) t' q:=
  ⟨h.b.setCell (p:=⟨w.heap.size + 1,1,none⟩) (by show w.heap.size ≤ w.heap.size + 1; omega) _,(heap_setCell_other _ _ _ _ (by show w.heap.size ≠ w.heap.size + 1; omega)).trans h.r0,by rw [heap_setCell_same _ _ _ _ _ _ h.r1]; rfl⟩
theorem FR.ini (w:World) (i:Nat):FR w ((w.alloc (.cells #[.int .i64 0,.int .i64 0,.int .i64 0] 65)).alloc (.cells #[.int .i64 0,.int .i64 0,.int .i64 (i:Int)] 65)) 0 i:=by
  obtain ⟨h1,h2,h3⟩:=two_rows (Below.refl ((w.alloc (.cells #[.int .i64 0,.int .i64 0,.int .i64 0] 65)).alloc (.cells #[.int .i64 0,.int .i64 0,.int .i64 (i:Int)] 65)).heap.size _)
  exact ⟨h1,h2,h3⟩
def nodeNo (w wr:World):Nat:=(intOf ((wr.cell? ⟨w.heap.size + 1,1,none⟩).getD undef)).toNat
theorem FR.no {w wr:World} {t q:Nat} (h:FR w wr t q):nodeNo w wr=t:=by
  unfold nodeNo; rw [(row3 h.r1).2.1]; rfl
section
variable {b0 g r c:Nat} {rest:List Value} {nv:Value} {E B:Nat} {ns:List Nd}
set_option maxHeartbeats 2000000 in
set_option maxRecDepth 100000 in
theorem find_any (i:Nat) (hi:i < cntN ns) (hl:ns.length ≤ 1073741824) (hcnt:cntN ns ≤ 1073741824) (w:World) (h:LS w b0 g r c rest nv E B ns):Calls Tryz.prog 45 #[ptr g,.int .i64 (i:Int)] w fun e w'=>(∃ t q:Nat,e=.returned (plV t q)∧∃ ht:t < ns.length,q < ns[t].2.1∧cntN (ns.take t) + q=i)∧Below w.heap.size w w':=by
  have HL:Hid _:=h
  rcases h.nd with ⟨_,rfl⟩ | ⟨X,cc,rfl,hX,hN⟩
  · simp [cntN] at hi
  have HN:Hid _:=hN
  have HCT:Hid _:=cntN_take ns
  clear h hN
  go_enter Tryz.func45,Tryz.ntmps45
  go_wp2
  go_loopw [] (fun wr=>FR w wr 0 i) (fun _=>0)
  case atStart=>exact FR.ini w i
  case round =>
    have HF:Hid (FR w wr 0 i):=hrel
    have hL:=HL.out.on hrel.b
    obtain ⟨l0,l1,l2,l3,lf⟩:=lrow4 hL.hd
    obtain ⟨r0,r1,rf⟩:=lrow2 hL.rw_
    obtain ⟨p0,p1,p2,pf⟩:=row3 hrel.r1
    have hz:¬ ((cntN ns:Int) ≤ (i:Int)):=by omega
    clear hL hrel
    go_wp2
    go_quiet (fail)
    go_wp2
    go_quiet (fail)
    go_wp2
    go_loopw [] (fun wr=>∃ t q:Nat,t ≤ ns.length∧cntN (ns.take t) + q=i∧FR w wr t q) (fun wr=>ns.length - nodeNo w wr)
    case atStart=>exact ⟨0,i,by omega,by simp [cntN],by first | exact HF.out.dn _ | exact (HF.out.dn _).dn _⟩
    case round =>
      clear HF l0 l1 l2 l3 lf r0 r1 rf p0 p1 p2 pf hz
      obtain ⟨t,q,ht,hq,hF⟩:=hrel
      have HF2:Hid (FR w _ t q):=hF
      have htl:t < ns.length:=by
        rcases Nat.lt_or_eq_of_le ht with h | h
        · exact h
        · subst h; rw [List.take_length] at hq; omega
      obtain ⟨p0,p1,p2,pf⟩:=row3 hF.r1
      obtain ⟨x0,x1,x2⟩:=(HN.out.on hF.b).cells t htl
      have hct:=HCT.out t htl
      have HNO:Hid _:=hF.no
      obtain ⟨cn,hcn⟩:∃ cn,ns[t].2.1=cn:=⟨_,rfl⟩
      rw [hcn] at x1 hct
      have HCN:Hid _:=hcn
      have hz0:(0:Int) ≤ (t:Int):=by omega
      have hz1:(t:Int) < (ns.length:Int):=by omega
      have hqb:q ≤ 1073741824:=by omega
      have hcb:cn ≤ 1073741824:=by have:=cntN_take_le ns (t + 1); omega
      by_cases hlt:q < cn
      · have hz:¬ ((cn:Int) ≤ (q:Int)):=by omega
        obtain ⟨s0,s1,s2,sf⟩:=row3 hF.r0
        have HR:Hid _:=hF.r0
        have HB:Hid _:=hF.b
        clear hF hct hcn
        go_wp2
        go_quiet (fail)
        go_wp2
        obtain ⟨g0,g1,g2,gf⟩:=row3 (heap_set3 (wr.drewN nq) w.heap.size 65 _ _ _ (.int .i64 0) (.int .i64 (t:Int)) (.int .i64 (q:Int)) HR.out).1
        exact bodyPost_ret (v:=plV t q) (by simp [results,Tryz.results45,go_sem,g0,g1,g2]) rfl ⟨⟨t,q,rfl,htl,by rw [HCN.out]; exact hlt,hq⟩,below_set3 (below_dn HB.out _) (Nat.le_refl _) _ _ _⟩
      · have hz:((cn:Int) ≤ (q:Int)):=by omega
        clear hF hcn
        go_wp2
        go_quiet (fail)
        go_wp2
        go_region
        all_goals
          go_wp2
          have hF':=((HF2.out.dn (nq + 1)).kk (q - cn)).nn (t + 1)
          rw [show ((q - cn:Nat):Int)=(q:Int) - (cn:Int) by omega,show ((t + 1:Nat):Int)=(t:Int) + 1 by omega] at hF'
          refine ⟨⟨t + 1,q - cn,by omega,by omega,hF'⟩,?_⟩
          rw [hF'.no,HNO.out]; omega
end
end Go.Proofs.YtijambehfobopaaGreatDoor
namespace Go.Proofs.YtijambehfobopaaGreatDoor
open Go.RowKit
set_option linter.unusedVariables false
set_option linter.unusedSimpArgs false
/-! a list by its nodes of texts. -/
abbrev nds (B:Nat) (N:QM.NL):List Nd:=N.map (ndOf B)
theorem cnt_nds (B:Nat):∀ N:QM.NL,cntN (nds B N)=N.flatten.length
  | []=>rfl
  | x :: N=>by
    have ih:=cnt_nds B N
    unfold nds cntN at ih ⊢
    rw [List.map_cons,List.map_cons,List.sum_cons,ih,List.flatten_cons,List.length_append]; rfl
theorem nds_take (B:Nat) (N:QM.NL) (t:Nat):(nds B N).take t=nds B (N.take t):=by unfold nds; rw [List.map_take]
theorem nds_at (B:Nat) (N:QM.NL) (t:Nat) (h:t < (nds B N).length):(nds B N)[t]=ndOf B (N[t]'(by simpa [nds] using h)):=by unfold nds; rw [List.getElem_map]
theorem plc_of {B:Nat} {N:QM.NL} {t q i:Nat} (ht:t < N.length) (hq:q < N[t].length) (he:(N.take t).flatten.length + q=i):QM.plc N i=(t,q):=by
  have e:N=N.take t ++ N[t] :: N.drop (t + 1):=by rw [← List.drop_eq_getElem_cons ht,List.take_append_drop]
  have hl:(N.take t).length=t:=by rw [List.length_take]; omega
  have:=QM.plc_at (N.take t) N[t] (N.drop (t + 1)) q hq
  rw [← e,he,hl] at this
  exact this
section
variable {b0 g r c:Nat} {rest:List Value} {nv:Value} {E B:Nat} {N:QM.NL}
set_option maxHeartbeats 1000000 in
theorem findN_any (i:Nat) (hi:i < N.flatten.length) (hl:N.flatten.length ≤ 1000) (hI:QM.Inv E B N) (w:World) (h:LS w b0 g r c rest nv E B (nds B N)):Calls Tryz.prog 45 #[ptr g,.int .i64 (i:Int)] w fun e w'=>e=.returned (plV (QM.plc N i).1 (QM.plc N i).2)∧Below w.heap.size w w':=by
  have hln:N.length ≤ 1000:=Nat.le_trans (QM.len_le hI.some) hl
  refine (find_any i (by rw [cnt_nds]; exact hi) (by simp [nds]; omega) (by rw [cnt_nds]; omega) w h).mono ?_
  rintro e w' ⟨⟨t,q,rfl,ht,hq,he⟩,hb⟩
  have ht':t < N.length:=by simpa [nds] using ht
  rw [nds_at] at hq
  rw [nds_take,cnt_nds] at he
  rw [plc_of (B:=B) ht' hq he]
  exact ⟨rfl,hb⟩
set_option maxHeartbeats 1000000 in
theorem nodeN_any (t k:Nat) (ht:t < N.length) (hl:N.length ≤ 1000) (w:World) (h:LS w b0 g r c rest nv E B (nds B N)):Calls Tryz.prog 65 #[ptr g,plV t k] w fun e w'=>e=.returned (.agg #[.string (packN N[t]),.int .i64 (N[t].length:Int),.bool (QM.lg B N[t])])∧Below w.heap.size w w':=by
  refine (node_any t k (by simpa [nds] using ht) (by simp [nds]; omega) w h).mono ?_
  rintro e w' ⟨rfl,hb⟩
  rw [nds_at]
  exact ⟨rfl,hb⟩
end
end Go.Proofs.YtijambehfobopaaGreatDoor
namespace Go.Proofs.YtijambehfobopaaGreatDoor
set_option linter.unusedVariables false
theorem pk_drop {p:List UInt8} {l:List LM.Item} (h:LM.Pk p l) (j:Nat) (hj:j ≤ l.length):p.drop (6 + LM.bsum (l.take j))=LM.bodyOf (l.drop j) ++ [255]:=by
  have e:p.drop 6=LM.bodyOf l ++ [255]:=by
    rw [h.eq]; unfold LM.build
    rw [← List.append_assoc,List.drop_left' (by simp [LM.leB_len])]
  rw [← List.drop_drop,e,List.drop_append_of_le_length (by rw [LM.bodyOf_len]; exact LM.bsum_take_le l j),LM.body_drop]
theorem rdF_255 (s:List UInt8):LM.rdF 255 s=none:=by unfold LM.rdF; simp
theorem pk_at {p:List UInt8} {l:List LM.Item} (h:LM.Pk p l) (j:Nat) (hj:j < l.length) :
    LM.rdItem (p.drop (6 + LM.bsum (l.take j)))=some (l[j],LM.dsize l[j])∧6 + LM.bsum (l.take j) < p.length∧p[6 + LM.bsum (l.take j)]? ≠ some 255:=by
  have hd:=pk_drop h j (by omega)
  have hr:LM.rdItem (p.drop (6 + LM.bsum (l.take j)))=some (l[j],LM.dsize l[j]):=by
    rw [hd,List.drop_eq_getElem_cons hj,LM.bodyOf_cons]
    unfold LM.ent
    rw [List.append_assoc,List.append_assoc]
    exact LM.rd_data _ (h.wf _ (List.getElem_mem hj)) _
  refine ⟨hr,?_,fun hc=>?_⟩
  · rcases Nat.lt_or_ge (6 + LM.bsum (l.take j)) p.length with h1 | h1
    · exact h1
    · rw [List.drop_eq_nil_of_le h1] at hr; cases hr
  · obtain ⟨hlt,he⟩:=List.getElem?_eq_some_iff.1 hc
    rw [List.drop_eq_getElem_cons hlt,he,LM.rdItem_cons] at hr
    have e:(255:UInt8).toNat=255:=by decide
    rw [e,rdF_255] at hr
    cases hr
theorem pk_end {p:List UInt8} {l:List LM.Item} (h:LM.Pk p l):p[6 + LM.bsum l]?=some 255:=by
  have hd:=pk_drop h l.length (Nat.le_refl _)
  rw [List.take_length,List.drop_length] at hd
  have:=congrArg (fun x=>x[0]?) hd
  simp only [List.getElem?_drop,Nat.add_zero] at this
  rw [this]; rfl
end Go.Proofs.YtijambehfobopaaGreatDoor
namespace Go.Proofs.YtijambehfobopaaGreatDoor
open Go.RowKit
set_option linter.unusedVariables false
structure WI (p:List UInt8) (vs:List ByteArray):Prop where
  each:∀ v ∈ vs,v.size ≤ 524288
  len:vs.length ≤ 1048576
  pk:∀ l,LM.Pk p l → ∃ j,j ≤ l.length∧vs=valsOf (l.take j)
theorem vals_sum {l:List LM.Item} (h:∀ it ∈ l,LM.Wf it):sumV (valsOf l)=LM.bsum l:=by
  rw [← bsum_items (valsOf l) (fun v hv=>by
    obtain ⟨it,hit,rfl⟩:=List.mem_map.1 hv
    rw [strB_size]; exact LM.val_len it (h it hit)),vals_its l h]
theorem vals_take_sum {p:List UInt8} {l:List LM.Item} (h:LM.Pk p l) (j:Nat):sumV (valsOf (l.take j))=LM.bsum (l.take j):=vals_sum (fun it hit=>h.wf it (List.mem_of_mem_take hit))
theorem sumV_app (a b:List ByteArray):sumV (a ++ b)=sumV a + sumV b:=by
  induction a with
  | nil=>simp [sumV]
  | cons x a ih=>simp only [sumV,List.cons_append,List.map_cons,List.foldr_cons] at ih ⊢; omega
theorem sumV_one (a:List ByteArray) (x:ByteArray):sumV (a ++ [x])=sumV a + sizeV x:=by rw [sumV_app]; simp [sumV]
theorem sizeV_pos (x:ByteArray) (h:sizeV x ≠ 0):x.size ≤ 524288:=by
  unfold sizeV at h; split at h
  · exact absurd rfl h
  · omega
theorem sizeV_zero (x:ByteArray) (h:sizeV x=0):524288 < x.size:=by
  unfold sizeV at h; split at h
  · assumption
  · have:=LM.esz_pos (LM.itemOf x.data.toList); omega
theorem WI.nil (p:List UInt8):WI p []:=⟨by simp,by simp,fun l _=>⟨0,by omega,by simp [valsOf]⟩⟩
theorem WI.more {p:List UInt8} {vs:List ByteArray} (h:WI p vs) {l:List LM.Item} (hl:LM.Pk p l) (h255:p[6 + sumV vs]? ≠ some 255):∃ (j:Nat) (hj:j < l.length),vs=valsOf (l.take j)∧LM.rdItem (p.drop (6 + sumV vs))=some (l[j],LM.dsize l[j]):=by
  obtain ⟨j,hj,rfl⟩:=h.pk l hl
  rw [vals_take_sum hl] at h255 ⊢
  rcases Nat.lt_or_ge j l.length with hlt | hge
  · exact ⟨j,hlt,rfl,(pk_at hl j hlt).1⟩
  · rw [List.take_of_length_le hge] at h255
    exact absurd (pk_end hl) h255
theorem WI.step {p:List UInt8} {vs:List ByteArray} (h:WI p vs) {it:LM.Item} {n:Nat} (h255:p[6 + sumV vs]? ≠ some 255) (hr:LM.rdItem (p.drop (6 + sumV vs))=some (it,n)) (hz:sizeV (strB (LM.val it)) ≠ 0) (hn:vs.length + 1 ≤ 1048576):WI p (vs ++ [strB (LM.val it)]):=by
  refine ⟨fun v hv=>?_,by simpa using hn,fun l hl=>?_⟩
  · rcases List.mem_append.1 hv with hv | hv
    · exact h.each v hv
    · rw [List.mem_singleton.1 hv]; exact sizeV_pos _ hz
  · obtain ⟨j,hj,hv,hr'⟩:=h.more hl h255
    rw [hr] at hr'
    injection hr' with hr'
    injection hr' with h1 h2
    refine ⟨j + 1,hj,?_⟩
    rw [hv,h1]; unfold valsOf; rw [List.take_succ_eq_append_getElem hj,List.map_append]; rfl
theorem WI.no {p:List UInt8} {vs:List ByteArray} (h:WI p vs) (h255:p[6 + sumV vs]? ≠ some 255) (hr:LM.rdItem (p.drop (6 + sumV vs))=none):∀ l,¬ LM.Pk p l:=fun l hl=>by
  obtain ⟨j,hj,_,hr'⟩:=h.more hl h255
  rw [hr] at hr'; cases hr'
theorem WI.big {p:List UInt8} {vs:List ByteArray} (h:WI p vs) {it:LM.Item} {n:Nat} (h255:p[6 + sumV vs]? ≠ some 255) (hr:LM.rdItem (p.drop (6 + sumV vs))=some (it,n)) (hz:sizeV (strB (LM.val it))=0):∀ l,¬ LM.Pk p l:=fun l hl=>by
  obtain ⟨j,hj,_,hr'⟩:=h.more hl h255
  rw [hr] at hr'
  injection hr' with hr'
  injection hr' with h1 h2
  have:=sizeV_zero _ hz
  rw [strB_size,h1] at this
  have:=LM.val_len _ (hl.wf _ (List.getElem_mem hj))
  omega
theorem WI.many {p:List UInt8} {vs:List ByteArray} (h:WI p vs) (h255:p[6 + sumV vs]? ≠ some 255) (hn:1048576 < vs.length + 1):∀ l,¬ LM.Pk p l:=fun l hl=>by
  obtain ⟨j,hj,hv,_⟩:=h.more hl h255
  have h1:=hl.len
  rw [hv,vals_len,List.length_take] at hn
  omega
theorem WI.fin {p:List UInt8} {vs:List ByteArray} (h:WI p vs) (he:p.length ≤ 6 + sumV vs ∨ p[6 + sumV vs]?=some 255) {l:List LM.Item} (hl:LM.Pk p l):vs=valsOf l:=by
  obtain ⟨j,hj,rfl⟩:=h.pk l hl
  rw [vals_take_sum hl] at he
  rcases Nat.lt_or_ge j l.length with hlt | hge
  · obtain ⟨_,h1,h2⟩:=pk_at hl j hlt
    rcases he with he | he
    · omega
    · exact absurd he h2
  · rw [List.take_of_length_le hge]
theorem WI.build {p:List UInt8} {vs:List ByteArray} (h:WI p vs) (hs:p.length ≤ 1073741824) (he:LM.build (itsOf vs)=p):LM.Pk p (itsOf vs):=by
  refine ⟨fun it hit=>?_,by unfold itsOf; simpa using h.len,he.symm,hs⟩
  obtain ⟨v,hv,rfl⟩:=List.mem_map.1 hit
  exact LM.itemOf_wf _ (by rw [list_len]; exact h.each v hv)
theorem its_valsOf {p:List UInt8} {l:List LM.Item} (hl:LM.Pk p l):LM.build (itsOf (valsOf l))=p:=by
  unfold itsOf; rw [vals_its l hl.wf]; exact hl.eq.symm
end Go.Proofs.YtijambehfobopaaGreatDoor
namespace Go.Proofs.YtijambehfobopaaGreatDoor
open Go.RowKit
set_option linter.unusedVariables false
theorem wpList_append_one {w:World} {ops:Array Oper} {rest:List Oper} {o:Oper} {a:Act} {Q:Exit → Act → World → Prop} (hg:o.guard=none) (s x:Operand)
    (hop:o.op=Op.call { callee:=Callee.builtin Builtin.append,args:=#[s,x],argTypes:=#[22,22] })
    (base:Nat) (v:Value) (n:Nat) (xs:List Value) (hs:a.eval s=v) (hown:w.ownsRow base 9 1 v n xs) (ad:Addr) (c:Nat) (y:ByteArray) (hx:a.eval x=.slice (some ad) 1 c) (hy:w.cell? ad=some (.string y))
    (hl:(n + 1) * 16 ≤ 140737488351232) (hb:base ≤ w.heap.size)
    (h:∀ v' w',w'.ownsRow base 9 1 v' (n + 1) (xs ++ [.string y]) → w.grownBy w' v.ownBlock → wpList Tryz.prog ops Q rest (a.put o.dst v') w') :
    wpList Tryz.prog ops Q (o :: rest) a w:=by
  obtain ⟨i0,hi,hz0,hz1,hz2⟩:=info_parts info9
  refine wpList_append_own _ hg s x 22 hop base 9 i0 (.string ⟨#[]⟩) 1 16 Tryz.underlying22 hi hz0 hz1 hz2 rfl (by decide) v n xs hs hown ad 1 c [.string y] hx (by simp) ?_ ?_ ?_ ?_ hb ?_
  · intro j u hj
    match j,hj with
    | 0,hj=>simp at hj; subst hj; simpa [Addr.add] using hy
  · intro u hu; simp at hu; subst hu; rfl
  · unfold maxLen; omega
  · omega
  · intro v' w' h1 h2 h3; exact h v' w' h1 h2
def RWP (p:ByteArray) (b:Bool) (w0:World) (e:Ending) (W:World):Prop:=
  ((∃ l v,LM.Pk p.data.toList l∧e=.returned (.tuple #[v,.int .i64 0])∧W.ownsRow w0.heap.size 9 1 v l.length ((if b then (valsOf l).reverse else valsOf l).map Value.string)) ∨
    ((∀ l,¬ LM.Pk p.data.toList l)∧e=.returned (.tuple #[.slice none 0 0,.int .i64 60])))∧Below w0.heap.size w0 W
end Go.Proofs.YtijambehfobopaaGreatDoor
namespace Go.Proofs.YtijambehfobopaaGreatDoor
open Go.RowKit
set_option linter.unusedVariables false
def fstT (o:Option (LM.Item × Nat)):Value:=match o with
  | some x=>.tuple #[.string (strB (LM.val x.1)),.bool true]
  | none=>.tuple #[.string ⟨#[]⟩,.bool false]
theorem rd_of (p:ByteArray) (hp:0 < p.size):LM.rdItem p.data.toList=LM.rdF p[0].toNat p.data.toList:=by
  have h0:=at_list p 0 hp
  cases hl:p.data.toList with
  | nil=>rw [hl] at h0; simp at h0
  | cons b t=>rw [hl] at h0; simp at h0; rw [LM.rdItem_cons,h0]
theorem itoa_str (n:Int):itoaB n=strB (LM.val (LM.numI n)):=WideShapes.bytes_inj (by rw [itoaB_list,strB_list]; rfl)
theorem rdg (n:Int) (h0:-9223372036854775808 ≤ n) (h1:n ≤ 9223372036854775807) (w:World):Calls Tryz.prog 82 #[.int .i64 n] w fun e w'=>e=.returned (.string (strB (LM.val (LM.numI n))))∧Below w.heap.size w w':=by
  rw [← itoa_str]; exact refDigits_any n h0 h1 w
set_option maxHeartbeats 2000000 in
set_option maxRecDepth 100000 in
theorem rfst_num (p:ByteArray) (hp:0 < p.size) (hs:p.size ≤ 281474976710656) (w:World) (hf:p[0].toNat < 128 ∨ (192 ≤ p[0].toNat∧p[0].toNat < 224)) :
    Calls Tryz.prog 43 #[.string p] w fun e w'=>e=.returned (fstT (LM.rdItem p.data.toList))∧Below w.heap.size w w':=by
  rw [rd_of p hp]
  obtain ⟨f,hf0⟩:∃ f:Nat,p[0].toNat=f:=⟨_,rfl⟩
  have hf8:f < 256:=by rw [← hf0]; exact p[0].toNat_lt
  rw [hf0] at hf ⊢
  have hz:(0:Int) < (p.size:Int):=by omega
  rcases hf with c1 | ⟨c1,c2⟩
  · have HR:Hid (fstT (LM.rdF f p.data.toList)=.tuple #[.string (strB (LM.val (LM.numI (f:Int)))),.bool true]):=by
      show _=_; unfold LM.rdF; rw [if_pos c1]; rfl
    have HDG:Hid _:=fun W=>rdg (f:Int) (by omega) (by omega) W
    have h1:decide ((f:Int) < 128)=true:=by simp; omega
    rw [HR.out]
    generalize strB (LM.val (LM.numI (f:Int)))=Z at HDG ⊢
    clear HR c1
    go_enter Tryz.func43,Tryz.ntmps43
    go_wp2_with fail
    refine (show Calls _ _ _ _ _ from HDG.out _).mono ?_
    rintro e w1 ⟨rfl,hb1⟩
    have HB1:Hid (Below w.heap.size w w1):=hb1
    clear hb1
    go_wp2
    go_ret2
    exact ⟨rfl,HB1.out⟩
  · have h1:decide ((f:Int) < 128)=false:=by simp; omega
    have h2:decide ((192:Int) ≤ (f:Int))=true:=by simp; omega
    have h3:decide ((f:Int) < 224)=true:=by simp; omega
    by_cases l2:2 ≤ p.size
    · have h4:decide ((p.size:Int) < 2)=false:=by simp; omega
      obtain ⟨x,hx⟩:∃ x:Nat,p[1].toNat=x:=⟨_,rfl⟩
      have hx8:x < 256:=by rw [← hx]; exact p[1].toNat_lt
      have hz1:(1:Int) < (p.size:Int):=by omega
      have HR:Hid (fstT (LM.rdF f p.data.toList)=.tuple #[.string (strB (LM.val (LM.numI (LM.s13 (f * 256 + x))))),.bool true]):=by
        show _=_; unfold LM.rdF; rw [if_neg (by omega),if_neg (by omega),if_pos c2,if_pos (by rw [list_len]; exact l2),getD_at p 1 (by omega),hx]; rfl
      rw [HR.out]
      obtain ⟨m,hm⟩:∃ m:Nat,(f - 192) * 256 + x=m:=⟨_,rfl⟩
      have hmm:(f * 256 + x) % 8192=m:=by omega
      by_cases hc:m < 4096
      · have hs13:LM.s13 (f * 256 + x)=(m:Int):=by unfold LM.s13; rw [hmm,if_pos hc]
        rw [hs13]
        have HDG:Hid _:=fun W=>rdg (m:Int) (by omega) (by omega) W
        generalize strB (LM.val (LM.numI (m:Int)))=Z at HDG ⊢
        have hm1:((f:Int) - 192) * 256 + (x:Int)=(m:Int):=by omega
        have hc1:decide ((4096:Int) ≤ (m:Int))=false:=by simp; omega
        clear HR hs13 hmm hm
        go_enter Tryz.func43,Tryz.ntmps43
        go_wp2_with fail
        refine (show Calls _ _ _ _ _ from HDG.out _).mono ?_
        rintro e w1 ⟨rfl,hb1⟩
        have HB1:Hid (Below w.heap.size w w1):=hb1
        clear hb1
        go_wp2
        go_ret2
        exact ⟨rfl,HB1.out⟩
      · have hs13:LM.s13 (f * 256 + x)=(m:Int) - 8192:=by unfold LM.s13; rw [hmm,if_neg hc]
        rw [hs13]
        have HDG:Hid _:=fun W=>rdg ((m:Int) - 8192) (by omega) (by omega) W
        generalize strB (LM.val (LM.numI ((m:Int) - 8192)))=Z at HDG ⊢
        have hm1:((f:Int) - 192) * 256 + (x:Int)=(m:Int):=by omega
        have hc1:decide ((4096:Int) ≤ (m:Int))=true:=by simp; omega
        have hm2:(m:Int) ≤ 8192:=by omega
        clear HR hs13 hmm hm
        go_enter Tryz.func43,Tryz.ntmps43
        go_wp2_with fail
        refine (show Calls _ _ _ _ _ from HDG.out _).mono ?_
        rintro e w1 ⟨rfl,hb1⟩
        have HB1:Hid (Below w.heap.size w w1):=hb1
        clear hb1
        go_wp2
        go_ret2
        exact ⟨rfl,HB1.out⟩
    · have h4:decide ((p.size:Int) < 2)=true:=by simp; omega
      have HR:Hid (fstT (LM.rdF f p.data.toList)=.tuple #[.string ⟨#[]⟩,.bool false]):=by
        show _=_; unfold LM.rdF; rw [if_neg (by omega),if_neg (by omega),if_pos c2,if_neg (by rw [list_len]; exact l2)]; rfl
      rw [HR.out]
      clear HR
      go_enter Tryz.func43,Tryz.ntmps43
      go_wp2
      go_ret2
      exact ⟨rfl,Below.refl _ _⟩
set_option maxHeartbeats 4000000 in
set_option maxRecDepth 100000 in
theorem rfst_wide (p:ByteArray) (hp:0 < p.size) (hs:p.size ≤ 281474976710656) (w:World) (k:Nat) (hk:(p[0].toNat=241∧k=2) ∨ (p[0].toNat=242∧k=3) ∨ (p[0].toNat=243∧k=4) ∨ (p[0].toNat=244∧k=8)) :
    Calls Tryz.prog 43 #[.string p] w fun e w'=>e=.returned (fstT (LM.rdItem p.data.toList))∧Below w.heap.size w w':=by
  rw [rd_of p hp]
  have hR:LM.rdF p[0].toNat p.data.toList=LM.numAt p.data.toList k:=by
    rcases hk with ⟨h,rfl⟩ | ⟨h,rfl⟩ | ⟨h,rfl⟩ | ⟨h,rfl⟩ <;> (rw [h]; rfl)
  rw [hR]
  have hz:(0:Int) < (p.size:Int):=by omega
  by_cases hl:1 + k ≤ p.size
  · obtain ⟨S,hS⟩:∃ S,p.extract 1 (1 + k)=S:=⟨_,rfl⟩
    have hSl:S.data.toList=(p.data.toList.drop 1).take k:=by rw [← hS,ext_any,Nat.add_sub_cancel_left]
    have hSz:S.size=k:=by rw [← hS,ext_size _ _ _ hl,Nat.add_sub_cancel_left]
    have hfit:LM.fits k (LM.sg k (LM.leN S.data.toList)):=LM.sg_fits k _ (by have:=LM.leN_lt S.data.toList; rwa [list_len,hSz] at this)
    have HSG:=fun W=>rsg_any S (by omega) (by omega) W
    rw [hSz] at HSG
    have HR:Hid (fstT (LM.numAt p.data.toList k)=.tuple #[.string (strB (LM.val (LM.numI (LM.sg k (LM.leN S.data.toList))))),.bool true]):=by
      show _=_; unfold LM.numAt; rw [if_pos (by rw [list_len]; exact hl),hSl]; rfl
    rw [HR.out]
    generalize LM.sg k (LM.leN S.data.toList)=V at HSG hfit ⊢
    have hV:-9223372036854775808 ≤ V∧V ≤ 9223372036854775807:=by
      unfold LM.fits at hfit
      rcases hk with ⟨_,rfl⟩ | ⟨_,rfl⟩ | ⟨_,rfl⟩ | ⟨_,rfl⟩ <;> simp only [Nat.reducePow] at hfit <;> omega
    have HDG:Hid _:=fun W=>rdg V hV.1 hV.2 W
    have HSH:Hid _:=HSG
    generalize strB (LM.val (LM.numI V))=Z at HDG ⊢
    clear HSG HR hSl hfit hV
    rcases hk with ⟨hf,rfl⟩ | ⟨hf,rfl⟩ | ⟨hf,rfl⟩ | ⟨hf,rfl⟩
    all_goals
      simp only [Nat.reduceAdd] at hS hl
      have hl2:decide ((p.size:Int) < _)=false:=decide_eq_false (Int.not_lt.2 (Int.ofNat_le.2 hl))
      go_enter Tryz.func43,Tryz.ntmps43
      go_wp2_with fail
      refine (show Calls _ _ _ _ _ from HSH.out _).mono ?_
      rintro e w1 ⟨rfl,rfl⟩
      go_wp2_with fail
      refine (show Calls _ _ _ _ _ from HDG.out _).mono ?_
      rintro e w2 ⟨rfl,hb2⟩
      have HB2:Hid (Below _ _ w2):=hb2
      clear hb2
      go_wp2
      go_ret2
      exact ⟨rfl,HB2.out⟩
  · have HR:Hid (fstT (LM.numAt p.data.toList k)=.tuple #[.string ⟨#[]⟩,.bool false]):=by
      show _=_; unfold LM.numAt; rw [if_neg (by rw [list_len]; exact hl)]; rfl
    rw [HR.out]
    clear HR hR
    rcases hk with ⟨hf,rfl⟩ | ⟨hf,rfl⟩ | ⟨hf,rfl⟩ | ⟨hf,rfl⟩
    all_goals
      simp only [Nat.reduceAdd] at hl
      have hl2:decide ((p.size:Int) < _)=true:=decide_eq_true (Int.ofNat_lt.2 (Nat.lt_of_not_le hl))
      go_enter Tryz.func43,Tryz.ntmps43
      go_wp2
      go_ret2
      exact ⟨rfl,Below.refl _ _⟩
set_option maxHeartbeats 4000000 in
set_option maxRecDepth 100000 in
theorem rfst_txt (p:ByteArray) (hp:0 < p.size) (hs:p.size ≤ 281474976710656) (w:World) (hf:(128 ≤ p[0].toNat∧p[0].toNat < 192) ∨ (224 ≤ p[0].toNat∧p[0].toNat < 241) ∨ 245 ≤ p[0].toNat) :
    Calls Tryz.prog 43 #[.string p] w fun e w'=>e=.returned (fstT (LM.rdItem p.data.toList))∧Below w.heap.size w w':=by
  rw [rd_of p hp]
  obtain ⟨f,hf0⟩:∃ f:Nat,p[0].toNat=f:=⟨_,rfl⟩
  have hf8:f < 256:=by rw [← hf0]; exact p[0].toNat_lt
  have hz:(0:Int) < (p.size:Int):=by omega
  rw [hf0] at hf ⊢
  have hRS:(∃ h n:Nat,(h=1 ∨ h=2 ∨ h=5)∧n < 4294967296∧szT p.data.toList=((h:Int),(n:Int))∧LM.rdF f p.data.toList=LM.txtAt p.data.toList h n) ∨ (szT p.data.toList=(0,-1)∧LM.rdF f p.data.toList=none):=by
    have hS:szT p.data.toList=if 128 ≤ f∧f < 192 then (1,(f:Int) - 128) else if 224 ≤ f∧f < 240∧2 ≤ p.size then (2,((f:Int) - 224) * 256 + ((p.data.toList.getD 1 0).toNat:Int)) else if f=240∧5 ≤ p.size then (5,(LM.leN ((p.data.toList.drop 1).take 4):Nat)) else (0,-1):=by
      unfold szT; rw [getD_at p 0 hp,hf0,list_len]
    have hx8:(p.data.toList.getD 1 0).toNat < 256:=(p.data.toList.getD 1 0).toNat_lt
    rw [hS]
    unfold LM.rdF
    rw [list_len]
    rcases hf with ⟨a,b⟩ | ⟨a,b⟩ | a
    · left
      refine ⟨1,f - 128,Or.inl rfl,by omega,?_,?_⟩
      · rw [if_pos ⟨a,b⟩]; congr 1; omega
      · rw [if_neg (by omega),if_pos b]
    · rw [if_neg (show ¬ (128 ≤ f∧f < 192) by omega),if_neg (show ¬ f < 128 by omega),if_neg (show ¬ f < 192 by omega),if_neg (show ¬ f < 224 by omega)]
      by_cases c:f < 240
      · rw [if_pos c]
        by_cases l2:2 ≤ p.size
        · left
          rw [if_pos ⟨a,c,l2⟩,if_pos l2]
          refine ⟨2,(f - 224) * 256 + (p.data.toList.getD 1 0).toNat,Or.inr (Or.inl rfl),by omega,?_,?_⟩
          · congr 1; omega
          · congr 1; omega
        · right
          rw [if_neg (by omega),if_neg (by omega),if_neg l2]; exact ⟨rfl,rfl⟩
      · have e:f=240:=by omega
        rw [if_neg c,if_neg (by omega),if_pos e]
        by_cases l5:5 ≤ p.size
        · left
          rw [if_pos ⟨e,l5⟩,if_pos l5]
          refine ⟨5,LM.leN ((p.data.toList.drop 1).take 4),Or.inr (Or.inr rfl),?_,rfl,rfl⟩
          have h1:=LM.leN_lt ((p.data.toList.drop 1).take 4)
          have h2:((p.data.toList.drop 1).take 4).length=4:=by rw [List.length_take,List.length_drop,list_len]; omega
          rw [h2] at h1; exact h1
        · right
          rw [if_neg (by omega),if_neg l5]; exact ⟨rfl,rfl⟩
    · right
      rw [if_neg (by omega),if_neg (by omega),if_neg (by omega)]
      rw [if_neg (by omega),if_neg (by omega),if_neg (by omega),if_neg (by omega),if_neg (by omega),if_neg (by omega),if_neg (by omega),if_neg (by omega),if_neg (by omega)]
      exact ⟨rfl,rfl⟩
  have h1:decide ((f:Int) < 128)=false:=by simp; omega
  have hnn:¬ (192 ≤ f∧f < 224):=by omega
  have hnw:¬ (241 ≤ f∧f ≤ 244):=by omega
  have HSZ:=fun W=>rsz_any p hp hs W
  by_cases q1:f < 192
  · have g1:decide ((192:Int) ≤ (f:Int))=false:=by simp; omega
    have g2:decide ((241:Int) ≤ (f:Int))=false:=by simp; omega
    rcases hRS with ⟨h,n,hh,hn4,hsz,hrd⟩ | ⟨hsz,hrd⟩
    · rw [hsz] at HSZ
      have HSH:Hid (∀ W,Calls Tryz.prog 84 #[.string p] W fun e w'=>e=.returned (.tuple #[.int .i64 (h:Int),.int .i64 (n:Int)])∧Below W.heap.size W w'):=HSZ
      rw [hrd]
      have hn0:decide ((n:Int) < 0)=false:=by simp
      by_cases hl:h + n ≤ p.size
      · obtain ⟨S,hS⟩:∃ S,p.extract h (h + n)=S:=⟨_,rfl⟩
        have HR:Hid (fstT (LM.txtAt p.data.toList h n)=.tuple #[.string S,.bool true]):=by
          have hSS:S=strB ((p.data.toList.drop h).take n):=WideShapes.bytes_inj (by rw [← hS,ext_any,strB_list,Nat.add_sub_cancel_left])
          show _=_; unfold LM.txtAt; rw [if_pos (by rw [list_len]; exact hl),hSS]; rfl
        rw [HR.out]
        have hd:decide ((p.size:Int) - (h:Int) < (n:Int))=false:=by simp; omega
        have hh0:(0:Int) ≤ (h:Int):=by omega
        have hh1:(h:Int) + (n:Int) ≤ (p.size:Int):=by omega
        have hh2:(h:Int) ≤ (h:Int) + (n:Int):=by omega
        clear HR HSZ hrd hsz hf hnn hnw
        go_enter Tryz.func43,Tryz.ntmps43
        go_wp2_with fail
        refine (show Calls _ _ _ _ _ from HSH.out _).mono ?_
        rintro e w1 ⟨rfl,hb1⟩
        have HB1:Hid (Below w.heap.size w w1):=hb1
        clear hb1
        go_wp2
        go_ret2
        refine ⟨?_,HB1.out⟩
        show Ending.returned (.tuple #[.string (p.extract h (h + n)),.bool true])=_
        rw [hS]
      · have HR:Hid (fstT (LM.txtAt p.data.toList h n)=.tuple #[.string ⟨#[]⟩,.bool false]):=by
          show _=_; unfold LM.txtAt; rw [if_neg (by rw [list_len]; exact hl)]; rfl
        rw [HR.out]
        have hd:decide ((p.size:Int) - (h:Int) < (n:Int))=true:=by simp; omega
        clear HR HSZ hrd hsz hf hnn hnw
        go_enter Tryz.func43,Tryz.ntmps43
        go_wp2_with fail
        refine (show Calls _ _ _ _ _ from HSH.out _).mono ?_
        rintro e w1 ⟨rfl,hb1⟩
        have HB1:Hid (Below w.heap.size w w1):=hb1
        clear hb1
        go_wp2
        go_ret2
        exact ⟨rfl,HB1.out⟩
    · rw [hsz] at HSZ
      have HSH:Hid (∀ W,Calls Tryz.prog 84 #[.string p] W fun e w'=>e=.returned (.tuple #[.int .i64 0,.int .i64 (-1)])∧Below W.heap.size W w'):=HSZ
      rw [hrd]
      have HR:Hid (fstT none=.tuple #[.string ⟨#[]⟩,.bool false]):=rfl
      rw [HR.out]
      clear HR HSZ hrd hsz hf hnn hnw
      go_enter Tryz.func43,Tryz.ntmps43
      go_wp2_with fail
      refine (show Calls _ _ _ _ _ from HSH.out _).mono ?_
      rintro e w1 ⟨rfl,hb1⟩
      have HB1:Hid (Below w.heap.size w w1):=hb1
      clear hb1
      go_wp2
      go_ret2
      exact ⟨rfl,HB1.out⟩
  · have g1:decide ((192:Int) ≤ (f:Int))=true:=by simp; omega
    have g1b:decide ((f:Int) < 224)=false:=by simp; omega
    by_cases q2:f < 241
    · have g2:decide ((241:Int) ≤ (f:Int))=false:=by simp; omega
      rcases hRS with ⟨h,n,hh,hn4,hsz,hrd⟩ | ⟨hsz,hrd⟩
      · rw [hsz] at HSZ
        have HSH:Hid (∀ W,Calls Tryz.prog 84 #[.string p] W fun e w'=>e=.returned (.tuple #[.int .i64 (h:Int),.int .i64 (n:Int)])∧Below W.heap.size W w'):=HSZ
        rw [hrd]
        have hn0:decide ((n:Int) < 0)=false:=by simp
        by_cases hl:h + n ≤ p.size
        · obtain ⟨S,hS⟩:∃ S,p.extract h (h + n)=S:=⟨_,rfl⟩
          have HR:Hid (fstT (LM.txtAt p.data.toList h n)=.tuple #[.string S,.bool true]):=by
            have hSS:S=strB ((p.data.toList.drop h).take n):=WideShapes.bytes_inj (by rw [← hS,ext_any,strB_list,Nat.add_sub_cancel_left])
            show _=_; unfold LM.txtAt; rw [if_pos (by rw [list_len]; exact hl),hSS]; rfl
          rw [HR.out]
          have hd:decide ((p.size:Int) - (h:Int) < (n:Int))=false:=by simp; omega
          have hh0:(0:Int) ≤ (h:Int):=by omega
          have hh1:(h:Int) + (n:Int) ≤ (p.size:Int):=by omega
          have hh2:(h:Int) ≤ (h:Int) + (n:Int):=by omega
          clear HR HSZ hrd hsz hf hnn hnw
          go_enter Tryz.func43,Tryz.ntmps43
          go_wp2_with fail
          refine (show Calls _ _ _ _ _ from HSH.out _).mono ?_
          rintro e w1 ⟨rfl,hb1⟩
          have HB1:Hid (Below w.heap.size w w1):=hb1
          clear hb1
          go_wp2
          go_ret2
          refine ⟨?_,HB1.out⟩
          show Ending.returned (.tuple #[.string (p.extract h (h + n)),.bool true])=_
          rw [hS]
        · have HR:Hid (fstT (LM.txtAt p.data.toList h n)=.tuple #[.string ⟨#[]⟩,.bool false]):=by
            show _=_; unfold LM.txtAt; rw [if_neg (by rw [list_len]; exact hl)]; rfl
          rw [HR.out]
          have hd:decide ((p.size:Int) - (h:Int) < (n:Int))=true:=by simp; omega
          clear HR HSZ hrd hsz hf hnn hnw
          go_enter Tryz.func43,Tryz.ntmps43
          go_wp2_with fail
          refine (show Calls _ _ _ _ _ from HSH.out _).mono ?_
          rintro e w1 ⟨rfl,hb1⟩
          have HB1:Hid (Below w.heap.size w w1):=hb1
          clear hb1
          go_wp2
          go_ret2
          exact ⟨rfl,HB1.out⟩
      · rw [hsz] at HSZ
        have HSH:Hid (∀ W,Calls Tryz.prog 84 #[.string p] W fun e w'=>e=.returned (.tuple #[.int .i64 0,.int .i64 (-1)])∧Below W.heap.size W w'):=HSZ
        rw [hrd]
        have HR:Hid (fstT none=.tuple #[.string ⟨#[]⟩,.bool false]):=rfl
        rw [HR.out]
        clear HR HSZ hrd hsz hf hnn hnw
        go_enter Tryz.func43,Tryz.ntmps43
        go_wp2_with fail
        refine (show Calls _ _ _ _ _ from HSH.out _).mono ?_
        rintro e w1 ⟨rfl,hb1⟩
        have HB1:Hid (Below w.heap.size w w1):=hb1
        clear hb1
        go_wp2
        go_ret2
        exact ⟨rfl,HB1.out⟩
    · have g2:decide ((241:Int) ≤ (f:Int))=true:=by simp; omega
      have g2b:decide ((f:Int) ≤ 244)=false:=by simp; omega
      rcases hRS with ⟨h,n,hh,hn4,hsz,hrd⟩ | ⟨hsz,hrd⟩
      · rw [hsz] at HSZ
        have HSH:Hid (∀ W,Calls Tryz.prog 84 #[.string p] W fun e w'=>e=.returned (.tuple #[.int .i64 (h:Int),.int .i64 (n:Int)])∧Below W.heap.size W w'):=HSZ
        rw [hrd]
        have hn0:decide ((n:Int) < 0)=false:=by simp
        by_cases hl:h + n ≤ p.size
        · obtain ⟨S,hS⟩:∃ S,p.extract h (h + n)=S:=⟨_,rfl⟩
          have HR:Hid (fstT (LM.txtAt p.data.toList h n)=.tuple #[.string S,.bool true]):=by
            have hSS:S=strB ((p.data.toList.drop h).take n):=WideShapes.bytes_inj (by rw [← hS,ext_any,strB_list,Nat.add_sub_cancel_left])
            show _=_; unfold LM.txtAt; rw [if_pos (by rw [list_len]; exact hl),hSS]; rfl
          rw [HR.out]
          have hd:decide ((p.size:Int) - (h:Int) < (n:Int))=false:=by simp; omega
          have hh0:(0:Int) ≤ (h:Int):=by omega
          have hh1:(h:Int) + (n:Int) ≤ (p.size:Int):=by omega
          have hh2:(h:Int) ≤ (h:Int) + (n:Int):=by omega
          clear HR HSZ hrd hsz hf hnn hnw
          go_enter Tryz.func43,Tryz.ntmps43
          go_wp2_with fail
          refine (show Calls _ _ _ _ _ from HSH.out _).mono ?_
          rintro e w1 ⟨rfl,hb1⟩
          have HB1:Hid (Below w.heap.size w w1):=hb1
          clear hb1
          go_wp2
          go_ret2
          refine ⟨?_,HB1.out⟩
          show Ending.returned (.tuple #[.string (p.extract h (h + n)),.bool true])=_
          rw [hS]
        · have HR:Hid (fstT (LM.txtAt p.data.toList h n)=.tuple #[.string ⟨#[]⟩,.bool false]):=by
            show _=_; unfold LM.txtAt; rw [if_neg (by rw [list_len]; exact hl)]; rfl
          rw [HR.out]
          have hd:decide ((p.size:Int) - (h:Int) < (n:Int))=true:=by simp; omega
          clear HR HSZ hrd hsz hf hnn hnw
          go_enter Tryz.func43,Tryz.ntmps43
          go_wp2_with fail
          refine (show Calls _ _ _ _ _ from HSH.out _).mono ?_
          rintro e w1 ⟨rfl,hb1⟩
          have HB1:Hid (Below w.heap.size w w1):=hb1
          clear hb1
          go_wp2
          go_ret2
          exact ⟨rfl,HB1.out⟩
      · rw [hsz] at HSZ
        have HSH:Hid (∀ W,Calls Tryz.prog 84 #[.string p] W fun e w'=>e=.returned (.tuple #[.int .i64 0,.int .i64 (-1)])∧Below W.heap.size W w'):=HSZ
        rw [hrd]
        have HR:Hid (fstT none=.tuple #[.string ⟨#[]⟩,.bool false]):=rfl
        rw [HR.out]
        clear HR HSZ hrd hsz hf hnn hnw
        go_enter Tryz.func43,Tryz.ntmps43
        go_wp2_with fail
        refine (show Calls _ _ _ _ _ from HSH.out _).mono ?_
        rintro e w1 ⟨rfl,hb1⟩
        have HB1:Hid (Below w.heap.size w w1):=hb1
        clear hb1
        go_wp2
        go_ret2
        exact ⟨rfl,HB1.out⟩
theorem rfst_any (p:ByteArray) (hp:0 < p.size) (hs:p.size ≤ 281474976710656) (w:World) :
    Calls Tryz.prog 43 #[.string p] w fun e w'=>e=.returned (fstT (LM.rdItem p.data.toList))∧Below w.heap.size w w':=by
  have h8:p[0].toNat < 256:=p[0].toNat_lt
  by_cases c1:p[0].toNat < 128 ∨ (192 ≤ p[0].toNat∧p[0].toNat < 224)
  · exact rfst_num p hp hs w c1
  · by_cases c2:(128 ≤ p[0].toNat∧p[0].toNat < 192) ∨ (224 ≤ p[0].toNat∧p[0].toNat < 241) ∨ 245 ≤ p[0].toNat
    · exact rfst_txt p hp hs w c2
    · rcases (show p[0].toNat=241 ∨ p[0].toNat=242 ∨ p[0].toNat=243 ∨ p[0].toNat=244 by omega) with h | h | h | h
      · exact rfst_wide p hp hs w 2 (Or.inl ⟨h,rfl⟩)
      · exact rfst_wide p hp hs w 3 (Or.inr (Or.inl ⟨h,rfl⟩))
      · exact rfst_wide p hp hs w 4 (Or.inr (Or.inr (Or.inl ⟨h,rfl⟩)))
      · exact rfst_wide p hp hs w 8 (Or.inr (Or.inr (Or.inr ⟨h,rfl⟩)))
end Go.Proofs.YtijambehfobopaaGreatDoor
namespace Go.Proofs.YtijambehfobopaaGreatDoor
open Go.RowKit
set_option linter.unusedVariables false
theorem ext_end (p:ByteArray) (A:Nat):(p.extract A p.size).data.toList=p.data.toList.drop A:=by
  rw [ext_any]; exact List.take_of_length_le (by rw [List.length_drop,list_len]; exact Nat.le_refl _)
theorem own_srow {B:Nat} {W:World} {v:Value} {vs:List ByteArray} (h:W.ownsRow B 9 1 v vs.length (vs.map Value.string)):SRow W v vs:=srow_of_own h rfl
theorem rev_take (vs:List ByteArray) (k:Nat) (h:k < vs.length):(vs.drop k).reverse=(vs.drop (k + 1)).reverse ++ [vs[k]]:=by
  rw [List.drop_eq_getElem_cons h,List.reverse_cons]
set_option maxHeartbeats 8000000 in
set_option maxRecDepth 100000 in
theorem rWalk_any (p:ByteArray) (hp:p.size ≤ 140737488351232) (b:Bool) (w:World):Calls Tryz.prog 17 #[.string p,.bool b] w (RWP p b w):=by
  have HFS:Hid (∀ A:Nat,A < p.size → ∀ W,Calls Tryz.prog 43 #[.string (p.extract A p.size)] W fun e w'=>e=.returned (fstT (LM.rdItem (p.data.toList.drop A)))∧Below W.heap.size W w'):=fun A hA W=>by
    have:=rfst_any (p.extract A p.size) (by rw [ext_size _ _ _ (Nat.le_refl _)]; omega) (by rw [ext_size _ _ _ (Nat.le_refl _)]; omega) W
    rwa [ext_end] at this
  have HSZ:Hid (∀ (X:ByteArray) W,Calls Tryz.prog 44 #[.string X] W fun e w'=>e=.returned (.int .i64 (sizeV X:Nat))∧Below W.heap.size W w'):=fun X W=>rSize_any X W
  have HBU:Hid (∀ (vs:List ByteArray) (v:Value),vs.length ≤ 1048576 → (∀ x ∈ vs,x.size ≤ 524288) → ∀ W,SRow W v vs → Calls Tryz.prog 24 #[v] W fun e w'=>e=.returned (.string (strB (LM.build (itsOf vs))))∧Below W.heap.size W w'):=fun vs v h1 h2 W h3=>rBuild_any v vs (by omega) h2 W h3
  go_enter Tryz.func17,Tryz.ntmps17
  go_wp2
  go_loopw [6,7] (fun cl ca wr=>∃ (vs:List ByteArray) (A:Nat),6 + sumV vs=A∧A ≤ 140737488351232 + 1048576∧ca=.int .i64 (A:Int)∧WI p.data.toList vs∧wr.ownsRow w.heap.size 9 1 cl vs.length (vs.map Value.string)∧Below w.heap.size w wr) (fun _ ca _=>p.size - (intOf ca).toNat)
  case atStart=>exact ⟨[],6,rfl,by omega,rfl,WI.nil _,World.ownsRow_nil _ _ _ _,Below.refl _ _⟩
  case round =>
    obtain ⟨vs,A,hA,hAle,rfl,hwi,ho,hb⟩:=hrel
    obtain ⟨P,c,hcl⟩:=own_form ho
    subst hcl
    have HWI:Hid _:=hwi
    have HO:Hid (wr.ownsRow w.heap.size 9 1 _ vs.length (vs.map Value.string)):=ho
    have HB:Hid (Below w.heap.size w wr):=hb
    have HAA:Hid _:=hA
    have hvl:=hwi.len
    have HLEN:Hid _:=hwi.len
    clear hwi ho hb hA
    by_cases hgo:A < p.size∧p.data.toList[A]? ≠ some 255
    · obtain ⟨hlt,h255⟩:=hgo
      obtain ⟨cc,hcc⟩:∃ cc:Nat,p[A].toNat=cc:=⟨_,rfl⟩
      have hc255:cc ≠ 255:=fun e=>h255 (by rw [at_list p A hlt]; congr 1; exact UInt8.toNat_inj.1 (by rw [hcc,e]; rfl))
      have HX255:Hid (p.data.toList[6 + sumV vs]? ≠ some 255):=by rw [HAA.out]; exact h255
      have hcd:((cc:Int) == 255)=false:=by simp; omega
      have hz0:(0:Int) ≤ (A:Int):=by omega
      have hz1:(A:Int) < (p.size:Int):=by omega
      have hz2:(A:Int) ≤ (p.size:Int):=by omega
      have HF:=HFS.out A hlt
      have HFH:Hid _:=HF
      obtain ⟨S,hS⟩:∃ S,p.extract A p.size=S:=⟨_,rfl⟩
      have HRD:Hid (∃ r,LM.rdItem (p.data.toList.drop (6 + sumV vs))=r∧LM.rdItem (p.data.toList.drop A)=r):=⟨_,rfl,by rw [HAA.out]⟩
      obtain ⟨r,hr1,hr2⟩:=HRD.out
      have HR1:Hid _:=hr1
      rw [hr2] at HFH
      clear HF HRD hr1 hr2 h255 hc255
      cases r with
      | none =>
        have HNO:Hid (∀ l,¬ LM.Pk p.data.toList l):=HWI.out.no HX255.out HR1.out
        have HFE:Hid (∀ W,Calls Tryz.prog 43 #[.string S] W fun e w'=>e=.returned (.tuple #[.string ⟨#[]⟩,.bool false])∧Below W.heap.size W w'):=by rw [← hS]; exact HFH.out
        clear HFH
        go_wp2_with fail
        refine (show Calls _ _ _ _ _ from HFE.out _).mono ?_
        rintro e w1 ⟨rfl,hb1⟩
        have HB1:Hid (Below w.heap.size w w1):=bel_to HB.out hb1 (Nat.le_refl _)
        clear hb1
        go_wp2
        go_ret2
        exact ⟨Or.inr ⟨HNO.out,rfl⟩,HB1.out⟩
      | some x =>
        obtain ⟨it,nn⟩:=x
        have HFE:Hid (∀ W,Calls Tryz.prog 43 #[.string S] W fun e w'=>e=.returned (.tuple #[.string (strB (LM.val it)),.bool true])∧Below W.heap.size W w'):=by rw [← hS]; exact HFH.out
        clear HFH
        have HSS:Hid (∀ W,Calls Tryz.prog 44 #[.string (strB (LM.val it))] W fun e w'=>e=.returned (.int .i64 (sizeV (strB (LM.val it)):Nat))∧Below W.heap.size W w'):=fun W=>HSZ.out _ W
        have HST:Hid (sizeV (strB (LM.val it)) ≠ 0 → vs.length + 1 ≤ 1048576 → WI p.data.toList (vs ++ [strB (LM.val it)])):=fun h1 h2=>HWI.out.step HX255.out HR1.out h1 h2
        have HBG:Hid (sizeV (strB (LM.val it))=0 → ∀ l,¬ LM.Pk p.data.toList l):=HWI.out.big HX255.out HR1.out
        have HMN:Hid (1048576 < vs.length + 1 → ∀ l,¬ LM.Pk p.data.toList l):=HWI.out.many HX255.out
        have HS1:Hid (sumV (vs ++ [strB (LM.val it)])=sumV vs + sizeV (strB (LM.val it))):=sumV_one _ _
        have hzl:=sizeV_le (strB (LM.val it))
        generalize strB (LM.val it)=X at *
        generalize sizeV X=z at *
        clear HR1 HWI HSZ HFS
        go_wp2_with fail
        refine (show Calls _ _ _ _ _ from HFE.out _).mono ?_
        rintro e w1 ⟨rfl,hb1⟩
        have HB1:Hid (Below w.heap.size w w1):=bel_to HB.out hb1 (Nat.le_refl _)
        have HO1:Hid (w1.ownsRow w.heap.size 9 1 _ vs.length (vs.map Value.string)):=own_keep HO.out (fun k _ hk=>hb1.block k hk)
        clear hb1
        have HO2:Hid ((w1.alloc (.cells #[.string X] 9)).ownsRow w.heap.size 9 1 (.slice P vs.length c) vs.length (vs.map Value.string)):=own_keep HO1.out (fun k _ hk=>((Below.refl _ w1).alloc (Nat.le_refl _) _).block k hk)
        have HB2:Hid (Below w.heap.size w (w1.alloc (.cells #[.string X] 9))):=HB1.out.alloc HB1.out.size _
        have HC2:Hid ((w1.alloc (.cells #[.string X] 9)).cell? ⟨w1.heap.size,0,none⟩=some (.string X)):=(row1 (one_alloc w1 _)).1
        go_wp2_with (at_builtin; go_must (refine wpList_append_one rfl _ _ rfl w.heap.size _ _ _ rfl HO2.out ⟨w1.heap.size,0,none⟩ 1 X rfl HC2.out ?d1 ?d2 ?_))
        case d1=>omega
        case d2=>exact HB2.out.size
        intro v3 w3 ho3 hg3
        have HO3:Hid (w3.ownsRow w.heap.size 9 1 v3 (vs ++ [X]).length ((vs ++ [X]).map Value.string)):=by
          show World.ownsRow _ _ _ _ _ _ _
          rw [List.map_append,List.length_append]; exact ho3
        have HB3:Hid (Below w.heap.size w w3):=HB2.out.grown hg3 HB2.out.size (fun k hk=>(World.ownsRow.lt HO2.out k hk).1)
        clear ho3 hg3
        go_wp2_with fail
        refine (show Calls _ _ _ _ _ from HSS.out _).mono ?_
        rintro e w4 ⟨rfl,hb4⟩
        have HB4:Hid (Below w.heap.size w w4):=bel_to HB3.out hb4 (Nat.le_refl _)
        have HO4:Hid (w4.ownsRow w.heap.size 9 1 v3 (vs ++ [X]).length ((vs ++ [X]).map Value.string)):=own_keep HO3.out (fun k _ hk=>hb4.block k hk)
        clear hb4
        obtain ⟨A',hA'⟩:∃ A':Nat,A + z=A':=⟨_,rfl⟩
        have hAi:(A:Int) + (z:Int)=(A':Int):=by omega
        have HAB:Hid (A' ≤ 140737488351232 + 1048576):=by show A' ≤ _; omega
        go_wp2_with fail
        refine (show Calls _ _ _ _ _ from HSS.out _).mono ?_
        rintro e w5 ⟨rfl,hb5⟩
        have HB5:Hid (Below w.heap.size w w5):=bel_to HB4.out hb5 (Nat.le_refl _)
        have HO5:Hid (w5.ownsRow w.heap.size 9 1 v3 (vs ++ [X]).length ((vs ++ [X]).map Value.string)):=own_keep HO4.out (fun k _ hk=>hb5.block k hk)
        clear hb5
        obtain ⟨P3,c3,hv3⟩:=own_form HO5.out
        subst hv3
        obtain ⟨n3,hn3⟩:∃ n3,(vs ++ [X]).length=n3:=⟨_,rfl⟩
        have hn4:n3=vs.length + 1:=by rw [← hn3,List.length_append]; rfl
        rw [hn3]
        by_cases hz:z=0
        · have HNO:Hid (∀ l,¬ LM.Pk p.data.toList l):=HBG.out hz
          have hzz:((z:Int) == 0)=true:=by simpa using hz
          clear hn3 hn4 hz
          go_wp2
          go_ret2
          exact ⟨Or.inr ⟨HNO.out,rfl⟩,HB5.out⟩
        · have hzz:((z:Int) == 0)=false:=by simp; omega
          by_cases hmany:1048576 < vs.length + 1
          · have HNO:Hid (∀ l,¬ LM.Pk p.data.toList l):=HMN.out hmany
            have hmm:decide ((1048576:Int) < (n3:Int))=true:=by simp; omega
            clear hn3 hn4 hz
            go_wp2
            go_ret2
            exact ⟨Or.inr ⟨HNO.out,rfl⟩,HB5.out⟩
          · have HWI2:Hid _:=HST.out hz (by omega)
            have hmm:decide ((1048576:Int) < (n3:Int))=false:=by simp; omega
            have HN3:Hid _:=hn3
            have HME:Hid (p.size - A' < p.size - A):=by show _ < _; omega
            clear hn3 hn4 hz
            go_wp2
            go_roundw
            case rel =>
              refine ⟨vs ++ [X],A',?_,HAB.out,rfl,HWI2.out,?_,HB5.out⟩
              · rw [HS1.out,← hA',← HAA.out]; omega
              · have:=HO5.out; rw [HN3.out] at this ⊢; exact this
            case measure=>simpa [intOf] using HME.out
    · have HFIN:Hid (p.data.toList.length ≤ 6 + sumV vs ∨ p.data.toList[6 + sumV vs]?=some 255):=by
        rw [HAA.out,list_len]
        by_cases h1:A < p.size
        · right
          exact Classical.byContradiction fun hc=>hgo ⟨h1,hc⟩
        · left; omega
      have HEX:Hid (p.size ≤ A ∨ (∃ (h:A < p.size) (cc:Nat),p[A].toNat=cc∧((cc:Int) == 255)=true)):=by
        by_cases h1:A < p.size
        · right
          have hc:p.data.toList[A]?=some 255:=Classical.byContradiction fun hc=>hgo ⟨h1,hc⟩
          refine ⟨h1,255,?_,by decide⟩
          rw [at_list p A h1] at hc
          injection hc with hc
          rw [hc]; rfl
        · left; omega
      have HVS:Hid (SRow wr (.slice P vs.length c) vs):=own_srow HO.out
      have HEA:Hid _:=HWI.out.each
      have HB1:Hid (∀ W,SRow W (.slice P vs.length c) vs → Calls Tryz.prog 24 #[.slice P vs.length c] W fun e w'=>e=.returned (.string (strB (LM.build (itsOf vs))))∧Below W.heap.size W w'):=fun W hW=>HBU.out vs _ HLEN.out HEA.out W hW
      have HPK:Hid (∀ l,LM.Pk p.data.toList l → vs=valsOf l∧7 ≤ p.size∧p.size ≤ 1073741824∧LM.build (itsOf vs)=p.data.toList):=fun l hl=>by
        have e:=HWI.out.fin HFIN.out hl
        refine ⟨e,?_,by have:=hl.size; rwa [list_len] at this,by rw [e]; exact its_valsOf hl⟩
        have:=hl.reads.len7; rwa [list_len] at this
      have HKP:Hid (p.size ≤ 1073741824 → LM.build (itsOf vs)=p.data.toList → LM.Pk p.data.toList (itsOf vs)):=fun h1 h2=>HWI.out.build (by rw [list_len]; exact h1) h2
      have HVI:Hid (valsOf (itsOf vs)=vs):=its_vals vs
      have HIL:Hid ((itsOf vs).length=vs.length):=by show _=_; unfold itsOf; simp
      clear hgo HSZ HFS HWI HBU HFIN
      rcases HEX.out with hd | ⟨hlt,cc,hcc,h255⟩
      all_goals
        by_cases hsz:p.size < 7 ∨ 1073741824 < p.size
        · have HNO:Hid (∀ l,¬ LM.Pk p.data.toList l):=fun l hl=>by have:=HPK.out l hl; omega
          have HD:Hid (decide ((p.size:Int) < 7)=true ∨ (decide ((p.size:Int) < 7)=false∧decide ((1073741824:Int) < (p.size:Int))=true)):=by
            by_cases c7:p.size < 7
            · left; simp; omega
            · right; constructor <;> (simp; omega)
          clear hsz
          rcases HD.out with h7 | ⟨h7,h30⟩
          all_goals
            go_wp2
            go_ret2
            exact ⟨Or.inr ⟨HNO.out,rfl⟩,HB.out⟩
        · have h7:decide ((p.size:Int) < 7)=false:=by simp; omega
          have h30:decide ((1073741824:Int) < (p.size:Int))=false:=by simp; omega
          have hs30:p.size ≤ 1073741824:=by omega
          clear hsz
          go_wp2_with fail
          refine (show Calls _ _ _ _ _ from HB1.out _ HVS.out).mono ?_
          rintro e w2 ⟨rfl,hb2⟩
          have HB2:Hid (Below w.heap.size w w2):=bel_to HB.out hb2 (Nat.le_refl _)
          have HO2:Hid (w2.ownsRow w.heap.size 9 1 (.slice P vs.length c) vs.length (vs.map Value.string)):=own_keep HO.out (fun k _ hk=>hb2.block k hk)
          clear hb2
          by_cases heq:LM.build (itsOf vs)=p.data.toList
          · have HPP:Hid _:=HKP.out hs30 heq
            have hcmp:((strB (LM.build (itsOf vs))).toList == p.toList)=true:=str_same (by rw [strB_list]; exact heq)
            generalize strB (LM.build (itsOf vs))=BB at *
            clear heq
            cases b with
            | false =>
              go_wp2
              go_ret2
              refine ⟨Or.inl ⟨itsOf vs,_,HPP.out,rfl,?_⟩,HB2.out⟩
              rw [HIL.out,HVI.out]; exact HO2.out
            | true =>
              go_wp2
              have HSV:Hid (SRow w2 (.slice P vs.length c) vs):=own_srow HO2.out
              go_loopw [10,11] (fun co ci wr=>Below w2.heap.size w2 wr∧∃ k:Nat,k ≤ vs.length∧ci=.int .i64 ((k:Int) - 1)∧wr.ownsRow w2.heap.size 9 1 co (vs.length - k) ((vs.drop k).reverse.map Value.string)) (fun _ ci _=>(intOf ci + 1).toNat)
              case atStart =>
                refine ⟨Below.refl _ _,vs.length,Nat.le_refl _,rfl,?_⟩
                rw [List.drop_eq_nil_of_le (Nat.le_refl _),Nat.sub_self]
                exact World.ownsRow_nil _ _ _ _
              case round =>
                obtain ⟨hbr,k,hk,rfl,hor⟩:=hrel
                have HBR:Hid (Below w2.heap.size w2 wr):=hbr
                have HOR:Hid (wr.ownsRow w2.heap.size 9 1 u10 (vs.length - k) ((vs.drop k).reverse.map Value.string)):=hor
                clear hbr hor
                cases k with
                | zero =>
                  have hm1:((0:Nat):Int) - 1=-1:=by omega
                  rw [hm1]
                  go_wp2
                  go_ret2
                  refine ⟨Or.inl ⟨itsOf vs,_,HPP.out,rfl,?_⟩,bel_to HB2.out HBR.out (Nat.le_refl _)⟩
                  rw [HIL.out,HVI.out,if_pos rfl]
                  exact own_base HOR.out HB2.out.size
                | succ j =>
                  have hm1:((j + 1:Nat):Int) - 1=(j:Int):=by omega
                  rw [hm1]
                  have hj:j < vs.length:=hk
                  have HRT:Hid _:=rev_take vs j hj
                  obtain ⟨g,o,hP,hc1⟩:=(HSV.out.on HBR.out).cell j hj
                  subst hP
                  have hz0:(0:Int) ≤ (j:Int):=by omega
                  have hz1:(j:Int) < (vs.length:Int):=by omega
                  generalize vs[j]=X at *
                  have HO3:Hid ((wr.alloc (.cells #[.string X] 9)).ownsRow w2.heap.size 9 1 u10 (vs.length - (j + 1)) ((vs.drop (j + 1)).reverse.map Value.string)):=own_keep HOR.out (fun k _ hk=>((Below.refl _ wr).alloc (Nat.le_refl _) _).block k hk)
                  have HB3:Hid (Below w2.heap.size w2 (wr.alloc (.cells #[.string X] 9))):=HBR.out.alloc HBR.out.size _
                  have HC3:Hid ((wr.alloc (.cells #[.string X] 9)).cell? ⟨wr.heap.size,0,none⟩=some (.string X)):=(row1 (one_alloc wr _)).1
                  go_wp2_with (at_builtin; go_must (refine wpList_append_one rfl _ _ rfl w2.heap.size _ _ _ rfl HO3.out ⟨wr.heap.size,0,none⟩ 1 X rfl HC3.out ?e1 ?e2 ?_))
                  case e1=>omega
                  case e2=>exact HB3.out.size
                  intro v4 w4 ho4 hg4
                  have HO4:Hid (w4.ownsRow w2.heap.size 9 1 v4 (vs.length - j) ((vs.drop j).reverse.map Value.string)):=by
                    show World.ownsRow _ _ _ _ _ _ _
                    rw [HRT.out,List.map_append,show vs.length - j=vs.length - (j + 1) + 1 by omega]; simpa using ho4
                  have HB4:Hid (Below w2.heap.size w2 w4):=HB3.out.grown hg4 HB3.out.size (fun k hk=>(World.ownsRow.lt HO3.out k hk).1)
                  clear ho4 hg4
                  go_wp2
                  go_roundw
                  case rel=>exact ⟨HB4.out,j,by omega,rfl,HO4.out⟩
                  case measure=>simp [intOf]
          · have HNO:Hid (∀ l,¬ LM.Pk p.data.toList l):=fun l hl=>heq (HPK.out l hl).2.2.2
            have hcmp:((strB (LM.build (itsOf vs))).toList == p.toList)=false:=str_other (by rw [strB_list]; exact heq)
            generalize strB (LM.build (itsOf vs))=BB at *
            clear heq
            go_wp2
            go_ret2
            exact ⟨Or.inr ⟨HNO.out,rfl⟩,HB2.out⟩
end Go.Proofs.YtijambehfobopaaGreatDoor
namespace Go.Proofs.YtijambehfobopaaGreatDoor
open Go.RowKit Go.Shelf
set_option linter.unusedVariables false
set_option linter.unusedSimpArgs false
attribute [local go_sem] Oper.semAt_some
section
variable {b0 g r c:Nat} {rest:List Value} {nv:Value} {E B:Nat} {N:QM.NL}
structure WB (b0 g r c:Nat) (rest:List Value) (nv:Value) (E B:Nat) (N:QM.NL) (t q bx:Nat) (back:Bool) (W:World):Prop where
  x0:W.heap[bx]?=some (.cells #[ptr g] 23)
  x1:W.heap[bx + 1]?=some (.cells #[.int .i64 0,.int .i64 (t:Int),.int .i64 (q:Int)] 65)
  x2:W.heap[bx + 1 + 1]?=some (.cells #[.bool back] 4)
  ls:LS W b0 g r c rest nv E B (nds B N)
set_option maxHeartbeats 800000 in
set_option maxRecDepth 100000 in
theorem walkQ_any (t q:Nat) (back:Bool) (w:World) (h:LS w b0 g r c rest nv E B (nds B N)):Calls Tryz.prog 46 #[ptr g,plV t q,.bool back] w fun e w'=>e=.returned (.func (.func 85) #[] #[ptr (w.heap.size + 1),ptr w.heap.size,ptr (w.heap.size + 1 + 1)])∧WB b0 g r c rest nv E B N t q w.heap.size back w'∧Below w.heap.size w w':=by
  have HL:Hid _:=h
  clear h
  have hmf:∀ (fn:Fn) (first cap:Array Value) (w:World),(Instr.makeFunc fn first cap).run Tryz.prog w=.ok (.func fn first cap) w:=fun _ _ _ _=>rfl
  obtain ⟨W3,hW3⟩:∃ W3,W3=((w.alloc (.cells #[ptr g] 23)).alloc (.cells #[.int .i64 0,.int .i64 (t:Int),.int .i64 (q:Int)] 65)).alloc (.cells #[.bool back] 4):=⟨_,rfl⟩
  have HBW:Hid (Below w.heap.size w W3):=by show Below _ _ _; rw [hW3]; exact (((Below.refl _ w).alloc (Nat.le_refl _) _).alloc (by simp) _).alloc (by simp; omega) _
  have HX:Hid (WB b0 g r c rest nv E B N t q w.heap.size back W3):=by
    refine ⟨by rw [hW3]; exact (three_rows (Below.refl _ _)).2.1,by rw [hW3]; exact (three_rows (Below.refl _ _)).2.2,?_,HL.out.on HBW.out⟩
    rw [hW3]
    have:=one_alloc ((w.alloc (.cells #[ptr g] 23)).alloc (.cells #[.int .i64 0,.int .i64 (t:Int),.int .i64 (q:Int)] 65)) (.cells #[.bool back] 4)
    simpa using this
  go_enter Tryz.func46,Tryz.ntmps46
  go_wp2
  rw [← hW3]
  clear hW3
  go_returns
  exact ⟨rfl,HX.out,HBW.out⟩
def curQ (back:Bool) (t j:Nat):Nat:=if back then t - j else t + j
def cntQ (back:Bool) (n t:Nat):Nat:=if back then t + 1 else n - t
def wkQ (back:Bool) (t cnt:Nat):List Nat:=(List.range cnt).map fun j=>curQ back t j
theorem wkQ_snoc (back:Bool) (t cnt j:Nat) (h:j < cnt):wkQ back t (j + 1)=wkQ back t j ++ [curQ back t j]∧wkQ back t j ++ [curQ back t j] <+: wkQ back t cnt:=by
  have e:wkQ back t (j + 1)=wkQ back t j ++ [curQ back t j]:=by
    unfold wkQ; rw [List.range_succ,List.map_append]; rfl
  refine ⟨e,?_⟩
  rw [← e]
  unfold wkQ
  refine List.IsPrefix.map _ ?_
  obtain ⟨d,rfl⟩:∃ d,cnt=(j + 1) + d:=⟨cnt - (j + 1),by omega⟩
  rw [show List.range (j + 1 + d)=List.range (j + 1) ++ (List.range d).map (fun x=>j + 1 + x) from List.range_add]
  exact List.prefix_append _ _
theorem curQ_lt {back:Bool} {n t j:Nat} (ht:t < n) (hj:j < cntQ back n t):curQ back t j < n:=by
  unfold cntQ at hj; unfold curQ; split at hj <;> simp [*] <;> omega
def ndV (B:Nat) (N:QM.NL) (i:Nat):Value:=.agg #[.string (packN (N.getD i [])),.int .i64 ((N.getD i []).length:Int),.bool (QM.lg B (N.getD i []))]
theorem beside_any (back:Bool) (t j q:Nat) (ht:t < N.length) (hj:j < cntQ back N.length t) (hl:N.length ≤ 1000) (w:World) (h:LS w b0 g r c rest nv E B (nds B N)):Calls Tryz.prog 86 #[ptr g,plV (curQ back t j) q,.bool back] w fun e w'=>(∃ x y:Nat,e=.returned (.tuple #[.agg #[.int .i64 0,.int .i64 (x:Int),.int .i64 (y:Int)],.bool (decide (j + 1 < cntQ back N.length t))])∧(j + 1 < cntQ back N.length t → x=curQ back t (j + 1)))∧Below w.heap.size w w':=by
  have hlt:=curQ_lt ht hj
  have hnl:(nds B N).length=N.length:=by simp [nds]
  cases back with
  | true =>
    refine (beside_back _ q w h (by rw [hnl]; exact hlt) (by omega)).mono ?_
    rintro e w' ⟨rfl,hb⟩
    refine ⟨?_,hb⟩
    simp only [curQ,cntQ,if_true] at hj hlt ⊢
    by_cases h1:0 < t - j
    · rw [if_pos h1,decide_eq_true (show j + 1 < t + 1 by omega)]
      exact ⟨t - j - 1,0,rfl,fun _=>by omega⟩
    · rw [if_neg h1,decide_eq_false (show ¬ (j + 1 < t + 1) by omega)]
      exact ⟨0,0,rfl,fun _=>by omega⟩
  | false =>
    refine (beside_fwd _ q w h (by rw [hnl]; exact hlt) (by omega)).mono ?_
    rintro e w' ⟨rfl,hb⟩
    refine ⟨?_,hb⟩
    rw [hnl]
    simp only [curQ,cntQ,Bool.false_eq_true,if_false] at hj hlt ⊢
    by_cases h1:t + j + 1 < N.length
    · rw [if_pos h1,decide_eq_true (show j + 1 < N.length - t by omega)]
      exact ⟨t + j + 1,0,rfl,fun _=>by omega⟩
    · rw [if_neg h1,decide_eq_false (show ¬ (j + 1 < N.length - t) by omega)]
      exact ⟨0,0,rfl,fun _=>by omega⟩
def msQ (back:Bool) (n:Nat) (cp co:Value) (wr:World):Nat:=match co with
  | .bool true=>(match cp with
    | .pointer (some a)=>(match wr.cell? ⟨a.block,1,none⟩ with
      | some (.int _ i)=>if back then i.toNat + 1 else n - i.toNat
      | _=>0)
    | _=>0)
  | _=>0
theorem msQ_at {back:Bool} {n t j kp:Nat} {v0 v2:Value} {wr:World} {T:Nat} (ht:t < n) (hj:j < cntQ back n t) (h:wr.heap[kp]?=some (.cells #[v0,.int .i64 (curQ back t j:Int),v2] T)):msQ back n (ptr kp) (.bool true) wr=cntQ back n t - j:=by
  unfold msQ
  simp only [(row3 h).2.1]
  unfold cntQ at hj ⊢; unfold curQ
  cases back <;> simp at hj ⊢ <;> omega
theorem qrow1 {w:World} {g T:Nat} {v0:Value} (h:w.heap[g]?=some (.cells #[v0] T)):w.cell? ⟨g,0,none⟩=some v0∧∀ j,w.frozen? ⟨g,j,none⟩=false:=by
  refine ⟨?_,fun j=>frozen_of_row _ _ _ _ _ h⟩ <;> rw [cell_of_row _ _ _ _ _ _ h] <;> rfl
set_option maxHeartbeats 2000000 in
set_option maxRecDepth 100000 in
theorem walkQ_seq (n:Nat) (t q bx B0:Nat) (back:Bool) (pch:List PanicEntry) (ht:t < N.length) (hl:N.length ≤ 1000) :
    SeqP n Tryz.prog 85 #[ptr (bx + 1),ptr bx,ptr (bx + 1 + 1)] (fun i=>#[ndV B N i]) (wkQ back t (cntQ back N.length t)) false pch (WB b0 g r c rest nv E B N t q bx back) B0:=by
  intro l J Jx Jp W hBW hJ hbox hJx hY h0
  have hbx:=hbox _ _ h0
  obtain ⟨e0,e1,e2,ef⟩:=row3 hbx.x1
  have HJ0:Hid (J [] W):=h0
  have HJJ:Hid (∀ s A B,J s A → Below A.heap.size A B → J s B):=hJ
  have HBO:Hid (∀ s A,J s A → WB b0 g r c rest nv E B N t q bx back A):=hbox
  have HYY:Hid _:=hY
  obtain ⟨cnt,hcnt⟩:∃ cnt,cntQ back N.length t=cnt:=⟨_,rfl⟩
  have hc0:0 < cnt:=by rw [← hcnt]; unfold cntQ; split <;> omega
  have HND:Hid (∀ j w,j < cnt → LS w b0 g r c rest nv E B (nds B N) → ∀ q,Calls Tryz.prog 65 #[ptr g,plV (curQ back t j) q] w fun e w'=>e=.returned (ndV B N (curQ back t j))∧Below w.heap.size w w'):=fun j w hj hw q=>by
    have hlt:=curQ_lt ht (show j < cntQ back N.length t by omega)
    have:=nodeN_any (curQ back t j) q hlt hl w hw
    unfold ndV; rw [QM.getD_at N _ hlt]; exact this
  have HBE:Hid (∀ j w,j < cnt → LS w b0 g r c rest nv E B (nds B N) → ∀ q,Calls Tryz.prog 86 #[ptr g,plV (curQ back t j) q,.bool back] w fun e w'=>(∃ x y:Nat,e=.returned (.tuple #[.agg #[.int .i64 0,.int .i64 (x:Int),.int .i64 (y:Int)],.bool (decide (j + 1 < cnt))])∧(j + 1 < cnt → x=curQ back t (j + 1)))∧Below w.heap.size w w'):=fun j w hj hw q=>by
    have:=beside_any back t j q ht (by omega) hl w hw
    rw [hcnt] at this; exact this
  have HWS:Hid (∀ j,j < cnt → wkQ back t (j + 1)=wkQ back t j ++ [curQ back t j]∧wkQ back t j ++ [curQ back t j] <+: wkQ back t cnt):=fun j hj=>wkQ_snoc back t cnt j hj
  have HW0:Hid (wkQ back t 0=[]):=rfl
  have HC0:Hid (curQ back t 0=t):=by show _=_; unfold curQ; split <;> omega
  rw [hcnt] at HYY ⊢
  obtain ⟨NB,hNB⟩:∃ NB:Nat → Value,∀ i,ndV B N i=NB i:=⟨_,fun _=>rfl⟩
  have HMS:Hid (∀ (j kp:Nat) (v0 v2:Value) (wr:World),j < cnt → wr.heap[kp]?=some (.cells #[v0,.int .i64 (curQ back t j:Int),v2] 65) → msQ back N.length (ptr kp) (.bool true) wr=cnt - j):=fun j kp v0 v2 wr hj h=>by
    rw [msQ_at ht (by omega) h,hcnt]
  clear h0 hbx hJ hbox hY hcnt
  obtain ⟨W1,hW1⟩:∃ W1,W1=W.alloc (.cells #[.int .i64 0,.int .i64 (t:Int),.int .i64 (q:Int)] 65):=⟨_,rfl⟩
  have hb1:Below W.heap.size W W1:=by rw [hW1]; exact (Below.refl _ _).alloc (Nat.le_refl _) _
  have HJ1:Hid (J [] W1):=HJJ.out _ _ _ HJ0.out hb1
  have HP1:Hid (W1.heap[W.heap.size]?=some (.cells #[.int .i64 0,.int .i64 (t:Int),.int .i64 (q:Int)] 65)):=by show _=_; rw [hW1]; exact one_alloc _ _
  have HS1:Hid (B0 ≤ W1.heap.size):=Nat.le_trans hBW hb1.size
  have HBW:Hid (B0 ≤ W.heap.size):=hBW
  clear hb1
  refine callsIn_of_wp Tryz.func85 rfl trivial ?_ rfl
  simp only [Tryz.ntmps85,List.size_toArray,List.length_cons,List.length_nil,Nat.reduceAdd,Nat.reduceSub,Array.replicate_succ,Array.replicate_zero,List.push_toArray,List.append_toArray,List.nil_append,List.cons_append]
  gi_wp2
  rw [← hW1]
  clear hW1 e0 e1 e2 ef
  gi_loopw [5,6] (fun cp co wr=>∃ (j kp:Nat),j ≤ cnt∧cp=ptr kp∧co=.bool (decide (j < cnt))∧(j < cnt → ∃ y:Nat,wr.heap[kp]?=some (.cells #[.int .i64 0,.int .i64 (curQ back t j:Int),.int .i64 (y:Int)] 65))∧J (wkQ back t j) wr∧B0 ≤ wr.heap.size∧B0 ≤ kp) (fun cp co wr=>msQ back N.length cp co wr)
  case atStart=>exact ⟨0,W.heap.size,by omega,rfl,by rw [decide_eq_true hc0],fun _=>⟨q,by rw [HC0.out]; exact HP1.out⟩,by rw [HW0.out]; exact HJ1.out,HS1.out,HBW.out⟩
  case round =>
    obtain ⟨j,kp,hj,rfl,rfl,hp,hJs,hB0,hkp⟩:=hrel
    by_cases hlt:j < cnt
    · obtain ⟨y,hrow⟩:=hp hlt
      have hdt:decide (j < cnt)=true:=decide_eq_true hlt
      rw [hdt]
      have hbx:=HBO.out _ _ hJs
      have HMJ:Hid (msQ back N.length (ptr kp) (.bool true) wr=cnt - j):=HMS.out j kp _ _ wr hlt hrow
      obtain ⟨p0,p1,p2,pf⟩:=row3 hrow
      obtain ⟨l0,lf⟩:=qrow1 hbx.x0
      obtain ⟨q1,q2⟩:=HWS.out j hlt
      have HQ1:Hid (wkQ back t (j + 1)=wkQ back t j ++ [curQ back t j]):=q1
      have HQ2:Hid (wkQ back t j ++ [curQ back t j] <+: wkQ back t cnt):=q2
      have HROW:Hid (wr.heap[kp]?=some (.cells #[.int .i64 0,.int .i64 (curQ back t j:Int),.int .i64 (y:Int)] 65)):=hrow
      have HJS:Hid (J (wkQ back t j) wr):=hJs
      have HKP:Hid (B0 ≤ kp):=hkp
      have HB0:Hid (B0 ≤ wr.heap.size):=hB0
      have HNJ:Hid _:=HND.out j wr hlt hbx.ls y
      have HBJ:Hid (∀ w,LS w b0 g r c rest nv E B (nds B N) → Calls Tryz.prog 86 #[ptr g,plV (curQ back t j) y,.bool back] w fun e w'=>(∃ x y:Nat,e=.returned (.tuple #[.agg #[.int .i64 0,.int .i64 (x:Int),.int .i64 (y:Int)],.bool (decide (j + 1 < cnt))])∧(j + 1 < cnt → x=curQ back t (j + 1)))∧Below w.heap.size w w'):=fun w hw=>HBE.out j w hlt hw y
      have HYJ:Hid (∀ W1,J (wkQ back t j) W1 → _):=fun W1 h1=>HYY.out _ (curQ back t j) W1 q2 h1
      generalize hcq:curQ back t j=cq at *
      clear hrow hp hJs hbx hB0 hkp q1 q2 hdt
      gi_wp2_with fail
      refine ⟨trivial,fun h=>(by cases h),(callsIn_wide.2 HNJ.out).mono ?_⟩
      rintro e w1 ⟨rfl,hb1⟩
      have hJ1:J (wkQ back t j) w1:=HJJ.out _ _ _ HJS.out hb1
      have HB1:Hid (Below wr.heap.size wr w1):=hb1
      obtain ⟨fn,tmps,assign,body,hy,hR⟩:=HYJ.out w1 hJ1
      generalize ndV B N cq=NV at *
      clear p0 p1 p2 pf l0 lf hb1 hJ1
      gi_wp2
      refine ⟨fun h=>(by cases h),hR.mono ?_⟩
      rintro e W3 (⟨rfl,hJ3,hkc,hz3⟩ | ⟨rfl,hJx3⟩ | ⟨rfl,hJp3⟩)
      · have hrow3:=hkc kp _ HKP.out (keep_row HROW.out HB1.out) rfl
        obtain ⟨p0,p1,p2,pf⟩:=row3 hrow3
        have HJ3:Hid (J (wkQ back t (j + 1)) W3):=by show J _ _; rw [HQ1.out]; exact hJ3
        have HZ3:Hid (B0 ≤ W3.heap.size):=by have:=HB0.out; have:=HB1.out.size; show _ ≤ _; omega
        obtain ⟨W4,hW4⟩:∃ W4,W4=W3.alloc (.cells #[.int .i64 0,.int .i64 (cq:Int),.int .i64 (y:Int)] 65):=⟨_,rfl⟩
        have hb4:Below W3.heap.size W3 W4:=by rw [hW4]; exact (Below.refl _ _).alloc (Nat.le_refl _) _
        have HB4:Hid (Below W3.heap.size W3 W4):=hb4
        have hx4:=HBO.out _ _ (HJJ.out _ _ _ HJ3.out hb4)
        have HBC:Hid _:=HBJ.out W4 hx4.ls
        obtain ⟨l0,lf⟩:=qrow1 hx4.x0
        obtain ⟨k0,kf⟩:=qrow1 hx4.x2
        have HP4:Hid (W4.heap[W3.heap.size]?=some (.cells #[.int .i64 0,.int .i64 (cq:Int),.int .i64 (y:Int)] 65)):=by show _=_; rw [hW4]; exact one_alloc _ _
        obtain ⟨s0,s1,s2,sf⟩:=row3 HP4.out
        clear hJ3 hR hy hkc hx4 hrow3 hb4
        subst hW4
        gi_wp2_with fail
        refine ⟨trivial,fun h=>(by cases h),(callsIn_wide.2 HBC.out).mono ?_⟩
        rintro e w5 ⟨⟨x,y',rfl,hx⟩,hb5⟩
        have HX:Hid _:=hx
        have HR5:Hid (w5.heap[W3.heap.size]?=some (.cells #[.int .i64 0,.int .i64 (cq:Int),.int .i64 (y:Int)] 65)):=keep_row HP4.out hb5
        have HB5:Hid (Below W3.heap.size W3 w5):=bel_to HB4.out hb5 (Nat.le_refl _)
        have HG5:Hid _:=heap_set3 w5 W3.heap.size 65 _ _ _ (.int .i64 0) (.int .i64 (x:Int)) (.int .i64 (y':Int)) HR5.out
        clear s0 s1 s2 sf l0 lf k0 kf p0 p1 p2 pf hb5 hx
        obtain ⟨s0,s1,s2,sf⟩:=row3 HR5.out
        gi_wp2
        go_roundw
        case rel =>
          refine ⟨j + 1,W3.heap.size,by omega,rfl,rfl,fun h=>⟨y',?_⟩,?_,?_,HZ3.out⟩
          · rw [← HX.out h]; exact HG5.out.1
          · exact HJJ.out _ _ _ HJ3.out (below_set3 HB5.out (Nat.le_refl _) _ _ _)
          · have h1:=HZ3.out
            have h2:=HB5.out.size
            rw [HG5.out.2.size]; omega
        case measure =>
          rw [HMJ.out]
          by_cases h:j + 1 < cnt
          · rw [decide_eq_true h]
            have:=HMS.out (j + 1) W3.heap.size _ _ _ h (by rw [← HX.out h]; exact HG5.out.1)
            rw [this]; omega
          · rw [decide_eq_false h]
            show 0 < _
            omega
      · gi_wp2
        refine bodyPost_ret (results_none rfl _ _ _) rfl ?_
        exact Or.inr (Or.inl ⟨⟨_,rfl⟩,_,HQ2.out,hJx3⟩)
      · exact ⟨rfl,Or.inr (Or.inr ⟨rfl,Or.inl hJp3⟩)⟩
    · have he:j=cnt:=by omega
      subst he
      have hdt:decide (j < j)=false:=by simp
      rw [hdt]
      clear hp
      gi_wp2
      go_end0
      exact Or.inl ⟨⟨_,rfl⟩,trivial,hJs⟩
end
end Go.Proofs.YtijambehfobopaaGreatDoor
