import Derived.Test.YtiefeeoellagnaaGreatDoorII
import Derived.Test.YtiefeeoellagnaaGreatDoorTV
import Derived.Test.YtiefeeoellagnaaGreatDoorTT
import Derived.Test.YtiefeeoellagnaaGreatDoorTU
import Derived.Laws.AppendOwnNone
import Derived.Laws.AppendOwn
namespace Go.Proofs.YtiefeeoellagnaaGreatDoor.V
open Go.RowKit
set_option linter.unusedVariables false
set_option linter.unusedSimpArgs false
set_option maxHeartbeats 1000000 in
set_option maxRecDepth 100000 in
theorem sameT_any (va vb:Value) (xs ys:List ByteArray) (ha:xs.length ≤ 70368744177664) (hb:ys.length ≤ 70368744177664) (w:World) (hA:SRow w va xs) (hB:SRow w vb ys) :
    Calls Tryz.prog 34 #[va,vb] w fun e w'=>(∃ b,e=.returned (.bool b)∧(b=true ↔ xs=ys))∧∃ k,w'=w.drewN k:=by
  obtain ⟨P,c,rfl⟩:=hA.form
  obtain ⟨P',c',rfl⟩:=hB.form
  have HA:Hid (SRow w (.slice P xs.length c) xs):=hA
  have HB:Hid (SRow w (.slice P' ys.length c') ys):=hB
  clear hA hB
  by_cases hl:xs.length=ys.length
  · have HL:Hid (xs.length=ys.length):=hl
    have hll:((xs.length:Int) == (ys.length:Int))=true:=by simp [hl]
    rw [← hl]
    rw [← hl] at HB
    clear hl hb hll
    go_enter Tryz.func34,Tryz.ntmps34
    go_wp2
    go_loopw [5] (fun ci wr=>(∃ k,wr=w.drewN k)∧∃ i:Nat,i ≤ xs.length∧ci=.int .i64 (i:Int)∧∀ j (h:j < xs.length) (h':j < ys.length),j < i → xs[j]=ys[j]) (fun ci _=>xs.length - (intOf ci).toNat)
    case atStart=>exact ⟨⟨0,rfl⟩,0,by omega,rfl,fun j _ _ h=>absurd h (by omega)⟩
    case round =>
      obtain ⟨⟨kk,hwr⟩,i,hi,rfl,hall⟩:=hrel
      have HWR:Hid (wr=w.drewN kk):=hwr
      have HALL:Hid _:=hall
      clear hall
      by_cases hlt:i < xs.length
      · obtain ⟨g,o,hP,hc1⟩:=(show SRow wr _ _ by rw [hwr]; exact HA.out).cell i hlt
        obtain ⟨g',o',hP',hc2⟩:=(show SRow wr _ _ by rw [hwr]; exact HB.out).cell i (by rw [← HL.out]; exact hlt)
        have hz0:(0:Int) ≤ (i:Int):=by omega
        have hz1:(i:Int) < (xs.length:Int):=by omega
        clear hwr
        subst hP; subst hP'
        obtain ⟨X,hX⟩:∃ X,xs[i]=X:=⟨_,rfl⟩
        obtain ⟨Y,hY⟩:∃ Y,ys[i]'(by rw [← HL.out]; exact hlt)=Y:=⟨_,rfl⟩
        rw [hX] at hc1
        rw [hY] at hc2
        have HX:Hid _:=hX
        have HY:Hid _:=hY
        clear hX hY
        by_cases hxy:X=Y
        · have hxt:(X.toList == Y.toList)=true:=str_same (by rw [hxy])
          have HXY:Hid _:=hxy
          clear hxy
          go_wp2
          go_quiet (fail)
          go_wp2
          go_roundw
          case rel =>
            refine ⟨⟨kk + nq,by rw [HWR.out,World.drewN_drewN]⟩,i + 1,hlt,rfl,fun j h h' hji=>?_⟩
            rcases Nat.lt_succ_iff_lt_or_eq.1 hji with h2 | rfl
            · exact HALL.out j h h' h2
            · exact HX.out.trans (HXY.out.trans HY.out.symm)
          case measure=>simp [intOf]; omega
        · have hxf:(X.toList == Y.toList)=false:=str_other (fun h=>hxy (bytes_ext h))
          have HNE:Hid (¬ xs=ys):=fun h=>hxy (by rw [← HX.out,← HY.out]; simp only [h])
          clear hxy
          go_wp2
          go_quiet (fail)
          go_wp2
          go_ret
          exact ⟨⟨false,rfl,by simpa using HNE.out⟩,kk + nq,by rw [HWR.out,World.drewN_drewN]⟩
      · have he:i=xs.length:=by omega
        have HEQ:Hid (xs=ys):=List.ext_getElem HL.out (fun j h1 h2=>HALL.out j h1 h2 (by omega))
        subst he
        clear hwr
        go_wp2
        go_ret
        exact ⟨⟨true,rfl,by simpa using HEQ.out⟩,kk,HWR.out⟩
  · have hlf:((xs.length:Int) == (ys.length:Int))=false:=by simp; omega
    have HNE:Hid (¬ xs=ys):=fun h=>hl (by rw [h])
    have hne:¬ (xs.length:Int)=(ys.length:Int):=by omega
    clear hl
    obtain ⟨na,hna⟩:∃ na:Int,(xs.length:Int)=na:=⟨_,rfl⟩
    go_enter Tryz.func34,Tryz.ntmps34
    go_wp2
    go_ret
    exact ⟨⟨false,rfl,by simpa using HNE.out⟩,0,rfl⟩
set_option maxHeartbeats 1000000 in
theorem one_any (v:Value) (ts:List ByteArray) (w:World) (h:SRow w v ts):Calls Tryz.prog 28 #[v] w fun e w'=>e=.returned (.string (ts.headD ⟨#[]⟩))∧Below w.heap.size w w':=by
  obtain ⟨p,c,rfl⟩:=h.form
  rcases ts with _ | ⟨X,ts⟩
  · go_enter Tryz.func28,Tryz.ntmps28
    go_wp2
    go_returns
    exact ⟨rfl,Below.refl _ _⟩
  · obtain ⟨g,o,rfl,hc⟩:=h.cell 0 (by simp)
    have hc:w.cell? ⟨g,o,none⟩=some (.string X):=hc
    clear h
    obtain ⟨n,hn⟩:∃ n,(X :: ts).length=n:=⟨_,rfl⟩
    have hn0:(0:Int) < (n:Int):=by rw [← hn]; simp only [List.length_cons]; omega
    have hnb:((n:Int) == 0)=false:=by rw [beq_eq_false_iff_ne]; omega
    rw [hn]
    clear hn
    go_enter Tryz.func28,Tryz.ntmps28
    go_wp2
    go_returns
    exact ⟨rfl,Below.refl _ _⟩
end Go.Proofs.YtiefeeoellagnaaGreatDoor.V
namespace Go.Proofs.YtiefeeoellagnaaGreatDoor.V
open Go.RowKit
open S6 (Laid Lay)
set_option linter.unusedVariables false
set_option linter.unusedSimpArgs false
set_option maxRecDepth 20000 in
theorem rByScore_refG (C:Array Value) (k:Int) (hk:k ≠ 4) (h0:C[0]?=some (.int .i64 k)) (x1 x2 y1 y2:Int) (x3 y3:Bool) (i n:Int) (bk:Bool) (w:World):Calls Tryz.prog 127 #[.agg C,.agg #[.int .i64 x1,.int .i64 x2,.bool x3],.agg #[.int .i64 y1,.int .i64 y2,.bool y3],.bool bk,.int .i64 i,.int .i64 n] w fun e w'=>e=.returned (.tuple #[.slice none 0 0,.int .i64 4])∧Below w.heap.size w w':=by
  obtain ⟨W1,hW1⟩:∃ W1,W1=((w.alloc (.cells C 42)).alloc (.cells #[.int .i64 x1,.int .i64 x2,.bool x3] 49)).alloc (.cells #[.int .i64 y1,.int .i64 y2,.bool y3] 49):=⟨_,rfl⟩
  obtain ⟨r,hr⟩:∃ r,w.heap.size=r:=⟨_,rfl⟩
  have HB:Hid (Below w.heap.size w W1):=by rw [hW1]; exact (((Below.refl _ _).alloc (Nat.le_refl _) _).alloc (by simp) _).alloc (by simp; omega) _
  have c0:W1.cell? ⟨r,0,none⟩=some (.int .i64 k):=by
    rw [cellC (C:=C) (T:=42) (by rw [hW1,← hr]; exact keep_row (keep_row (one_alloc _ _) ((Below.refl _ _).alloc (Nat.le_refl _) _)) ((Below.refl _ _).alloc (Nat.le_refl _) _))]; exact h0
  have hkb:(k != 4)=true:=bne_iff_ne.mpr hk
  have HRR:Hid (w.heap.size=r):=hr
  clear h0 hr
  go_enter Tryz.func127,Tryz.ntmps127
  go_upto_region 1 with fail
  rw [← hW1,HRR.out]
  clear hW1
  go_wp2
  go_returns
  exact ⟨rfl,HB.out⟩
set_option maxRecDepth 20000 in
theorem rByLex_refG (C:Array Value) (k:Int) (hk:k ≠ 4) (h0:C[0]?=some (.int .i64 k)) (f1 g1:ByteArray) (f2 g2:Int) (f3 g3:Bool) (i n:Int) (bk:Bool) (w:World):Calls Tryz.prog 129 #[.agg C,.agg #[.string f1,.int .i64 f2,.bool f3],.agg #[.string g1,.int .i64 g2,.bool g3],.bool bk,.int .i64 i,.int .i64 n] w fun e w'=>e=.returned (.tuple #[.slice none 0 0,.int .i64 4])∧Below w.heap.size w w':=by
  obtain ⟨W1,hW1⟩:∃ W1,W1=((w.alloc (.cells C 42)).alloc (.cells #[.string f1,.int .i64 f2,.bool f3] 51)).alloc (.cells #[.string g1,.int .i64 g2,.bool g3] 51):=⟨_,rfl⟩
  obtain ⟨r,hr⟩:∃ r,w.heap.size=r:=⟨_,rfl⟩
  have HB:Hid (Below w.heap.size w W1):=by rw [hW1]; exact (((Below.refl _ _).alloc (Nat.le_refl _) _).alloc (by simp) _).alloc (by simp; omega) _
  have c0:W1.cell? ⟨r,0,none⟩=some (.int .i64 k):=by
    rw [cellC (C:=C) (T:=42) (by rw [hW1,← hr]; exact keep_row (keep_row (one_alloc _ _) ((Below.refl _ _).alloc (Nat.le_refl _) _)) ((Below.refl _ _).alloc (Nat.le_refl _) _))]; exact h0
  have hkb:(k != 4)=true:=bne_iff_ne.mpr hk
  have HRR:Hid (w.heap.size=r):=hr
  clear h0 hr
  go_enter Tryz.func129,Tryz.ntmps129
  go_upto_region 1 with fail
  rw [← hW1,HRR.out]
  clear hW1
  go_wp2
  go_returns
  exact ⟨rfl,HB.out⟩
theorem pg_tx (bv:Nat) (t s0:ByteArray) (I N:Int) (bk:Bool) (x1 x2 y1 y2:Int) (x3 y3:Bool) (f1 g1:ByteArray) (f2 g2:Int) (f3 g3:Bool) (ht:t.size ≤ 524288) (w:World) (hv:w.heap[bv]?=some (vC 1 (txB t))):PG bv t s0 I N bk x1 x2 y1 y2 x3 y3 f1 g1 f2 g2 f3 g3 0 4 4 4 4 4 4 w where
  qText:=fun W hW=>tx_Text bv 1 t ht W (keep_row hv hW)
  qAt:=fun W hW=>At_ref bv I W (fun W' hW'=>asList_tx bv 1 t W' (keep_row (keep_row hv hW) hW'))
  qRange:=Ans.v none 0 (fun W hW=>Range_ref bv I N W (fun W' hW'=>asList_tx bv 1 t W' (keep_row (keep_row hv hW) hW')))
  qHas:=fun W hW=>Has_ref bv s0 W (fun W' hW'=>asSet_tx bv 1 t W' (keep_row (keep_row hv hW) hW'))
  qMembers:=Ans.v none 0 (fun W hW=>Members_ref bv W (fun W' hW'=>asSet_tx bv 1 t W' (keep_row (keep_row hv hW) hW')))
  qField:=fun W hW=>Field_ref bv s0 W (fun W' hW'=>asHash_tx bv 1 t W' (keep_row (keep_row hv hW) hW'))
  qFields:=Ans.v none 0 (fun W hW=>Fields_ref bv W (fun W' hW'=>asHash_tx bv 1 t W' (keep_row (keep_row hv hW) hW')))
  qScore:=fun W hW=>Score_ref bv s0 W (fun W' hW'=>asZset_tx bv 1 t W' (keep_row (keep_row hv hW) hW'))
  qRank:=fun W hW=>Rank_ref bv s0 bk W (fun W' hW'=>asZset_tx bv 1 t W' (keep_row (keep_row hv hW) hW'))
  qByRank:=Ans.v none 0 (fun W hW=>ByRank_ref bv I N bk W (fun W' hW'=>asZset_tx bv 1 t W' (keep_row (keep_row hv hW) hW')))
  qByScore:=Ans.v none 0 (fun W hW=>ByScore_refG bv x1 x2 y1 y2 x3 y3 I N bk W (fun W' hW'=>asZset_tx bv 1 t W' (keep_row (keep_row hv hW) hW')))
  qByLex:=Ans.v none 0 (fun W hW=>ByLex_refG bv f1 g1 f2 g2 f3 g3 I N bk W (fun W' hW'=>asZset_tx bv 1 t W' (keep_row (keep_row hv hW) hW')))
  qScan:=Ans.v none 0 (fun W hW=>Scan_ref bv I N W (fun W' hW'=>asGroup_tx bv 1 t W' (keep_row (keep_row hv hW) hW')))
theorem dg_tx (C:Array Value) (t s0:ByteArray) (I N:Int) (bk:Bool) (x1 x2 y1 y2:Int) (x3 y3:Bool) (f1 g1:ByteArray) (f2 g2:Int) (f3 g3:Bool) (hC:RS C t) (w:World):DG C t s0 I N bk x1 x2 y1 y2 x3 y3 f1 g1 f2 g2 f3 g3 0 4 4 4 4 4 4 w where
  qText:=fun W hW=>ds_Text C t hC W
  qAt:=fun W hW=>rAt_ref C 1 (by decide) hC.2.1 I W
  qRange:=Ans.v none 0 (fun W hW=>rRange_ref C 1 (by decide) hC.2.1 I N W)
  qHas:=fun W hW=>rHas_ref C 1 (by decide) hC.2.1 s0 W
  qMembers:=Ans.v none 0 (fun W hW=>rMembers_ref C 1 (by decide) hC.2.1 W)
  qField:=fun W hW=>rField_ref C 1 (by decide) hC.2.1 s0 W
  qFields:=Ans.v none 0 (fun W hW=>rFields_ref C 1 (by decide) hC.2.1 W)
  qScore:=fun W hW=>rScore_ref C 1 (by decide) hC.2.1 s0 W
  qRank:=fun W hW=>rRank_ref C 1 (by decide) hC.2.1 s0 bk W
  qByRank:=Ans.v none 0 (fun W hW=>rByRank_ref C 1 (by decide) hC.2.1 I N bk W)
  qByScore:=Ans.v none 0 (fun W hW=>rByScore_refG C 1 (by decide) hC.2.1 x1 x2 y1 y2 x3 y3 I N bk W)
  qByLex:=Ans.v none 0 (fun W hW=>rByLex_refG C 1 (by decide) hC.2.1 f1 g1 f2 g2 f3 g3 I N bk W)
  qScan:=Ans.v none 0 (fun W hW=>rScan_ref C 1 (Or.inl rfl) hC.2.1 I N W)
end Go.Proofs.YtiefeeoellagnaaGreatDoor.V
namespace Go.Proofs.YtiefeeoellagnaaGreatDoor.V
open Go.RowKit
set_option linter.unusedVariables false
set_option linter.unusedSimpArgs false
structure ModS (S:Nat → Prop) (w w':World):Prop where
  os:w'.os=w.os
  tape:w'.tape=w.tape
  output:w'.output=w.output
  size:w.heap.size ≤ w'.heap.size
  oth:∀ k,k < w.heap.size → ¬ S k → w'.heap[k]?=w.heap[k]?
theorem ModS.of {S:Nat → Prop} {w w':World} (h:Below w.heap.size w w'):ModS S w w':=⟨h.os,h.tape,h.output,h.size,fun k hk _=>h.block k hk⟩
theorem ModS.mod {S:Nat → Prop} {b:Nat} {w w':World} (h:Mod b w w') (hb:S b):ModS S w w':=⟨h.os,h.tape,h.output,h.size,fun k hk hn=>h.oth k hk (fun e=>hn (e ▸ hb))⟩
theorem ModS.trans {S:Nat → Prop} {w w1 w2:World} (h:ModS S w w1) (h':ModS S w1 w2):ModS S w w2:=
  ⟨h'.os.trans h.os,h'.tape.trans h.tape,h'.output.trans h.output,Nat.le_trans h.size h'.size,fun k hk hn=>(h'.oth k (Nat.lt_of_lt_of_le hk h.size) hn).trans (h.oth k hk hn)⟩
theorem ModS.row {S:Nat → Prop} {k:Nat} {w w':World} {o:Obj} (h:ModS S w w') (hk:w.heap[k]?=some o) (hn:¬ S k):w'.heap[k]?=some o:=(h.oth k (row_lt hk) hn).trans hk
theorem ModS.weak {S S':Nat → Prop} {w w':World} (h:ModS S w w') (hs:∀ k,k < w.heap.size → S k → S' k):ModS S' w w':=⟨h.os,h.tape,h.output,h.size,fun k hk hn=>h.oth k hk (fun e=>hn (hs k hk e))⟩
theorem ModS.below {S:Nat → Prop} {B:Nat} {w w':World} (h:ModS S w w') (hb:∀ k,S k → B ≤ k) (hw:B ≤ w.heap.size):Below B w w':=
  ⟨h.os,h.tape,h.output,h.size,fun k hk=>h.oth k (by omega) (fun e=>by have:=hb k e; omega)⟩
def SOut (S:Nat → Prop) (v:Value) (vs:List ByteArray):Prop:=vs=[] ∨ ∃ g o c,v=.slice (some ⟨g,o,none⟩) vs.length c∧¬ S g
theorem SOut.weak {S S':Nat → Prop} {v:Value} {vs:List ByteArray} (h:SOut S v vs) (hs:∀ k,S' k → S k):SOut S' v vs:=by
  rcases h with h | ⟨g,o,c,h,hn⟩
  · exact Or.inl h
  · exact Or.inr ⟨g,o,c,h,fun e=>hn (hs g e)⟩
theorem cell_same {w w':World} {g j:Nat} (h:w'.heap[g]?=w.heap[g]?):w'.cell? ⟨g,j,none⟩=w.cell? ⟨g,j,none⟩:=by
  unfold World.cell?
  rw [h]
theorem SRow.modS {S:Nat → Prop} {w w':World} {v:Value} {vs:List ByteArray} (h:SRow w v vs) (ho:SOut S v vs) (hm:ModS S w w'):SRow w' v vs:=by
  rcases h with ⟨rfl,p,c,rfl⟩ | ⟨g,o,c,rfl,hc⟩
  · exact Or.inl ⟨rfl,p,c,rfl⟩
  · rcases ho with h0 | ⟨g',o',c',he,hn⟩
    · subst h0
      exact Or.inl ⟨rfl,_,_,rfl⟩
    · injection he with he _ _
      injection he with he
      injection he with he _ _
      subst he
      refine Or.inr ⟨g,o,c,rfl,fun j hj=>?_⟩
      have h1:=hc j hj
      rw [cell_same (hm.oth g (World.block_lt_of_cell? w _ h1) hn)]
      exact h1
set_option maxHeartbeats 1000000 in
theorem twin_fresh (v:Value) (vs:List ByteArray) (hvl:vs.length * 16 ≤ 140737488351232) (w:World) (hv:SRow w v vs) (hnil:∀ c,v=.slice none 0 c → c=0) :
    Calls Tryz.prog 26 #[v] w fun e w'=>∃ v',e=.returned v'∧SRow w' v' vs∧SOut (fun k=>k < w.heap.size) v' vs∧Below w.heap.size w w':=by
  obtain ⟨i0,hi,hz0,hz1,hz2⟩:=info_parts S6.info9
  have HO:Hid (w.ownsRow w.heap.size 9 1 (.slice none 0 0) 0 []):=⟨rfl,Or.inl ⟨rfl,rfl⟩⟩
  have hv6:S6.SRow w v vs:=hv
  rcases hv6.forms hnil with ⟨rfl,rfl⟩ | ⟨ad,c,rfl,hc⟩
  · clear hv hnil hvl hv6
    go_enter Tryz.func26,Tryz.ntmps26
    go_wp2_with (at_builtin; go_must (refine wpList_append_own_none rfl _ _ 34 rfl w.heap.size 9 i0 1 Tryz.underlying34 hi _ _ _ rfl HO.out rfl ?_))
    go_wp2
    go_ret
    exact ⟨_,rfl,Or.inl ⟨rfl,none,0,rfl⟩,Or.inl rfl,Below.refl _ _⟩
  · have HC:Hid _:=hc
    have HL:Hid (vs.length * 16 ≤ 140737488351232):=hvl
    clear hv hnil hc hvl hv6
    go_enter Tryz.func26,Tryz.ntmps26
    go_wp2_with (at_builtin; go_must (refine wpList_append_own _ rfl _ _ 34 rfl w.heap.size 9 i0 (.string ⟨#[]⟩) 1 16 Tryz.underlying34 hi hz0 hz1 hz2 rfl (by decide) _ _ _ rfl HO.out ad vs.length c (vs.map Value.string) rfl ?t0 HC.out ?t1 ?t2 ?t3 (Nat.le_refl _) ?_))
    case t0=>simp
    case t1=>intro u hu; obtain ⟨x,_,rfl⟩:=List.mem_map.1 hu; rfl
    case t2=>have:=HL.out; unfold maxLen; omega
    case t3=>have:=HL.out; omega
    intro v' w1 hown' hgrow hiff
    have HS:Hid (SRow w1 v' vs):=S6.srow_of_own (n:=vs.length) (by simpa using hown') rfl
    have HN:Hid (SOut (fun k=>k < w.heap.size) v' vs):=by
      obtain ⟨_,⟨h1,h2⟩ | ⟨g,cap,cur,h1,hb,_⟩⟩:=hown'
      · exact Or.inl (List.eq_nil_of_length_eq_zero (by simpa using h2))
      · exact Or.inr ⟨g,0,cap,by simpa using h1,fun e=>by omega⟩
    have HB:Hid (Below w.heap.size w w1):=(Below.refl _ w).grown hgrow (Nat.le_refl _) (fun k hk=>by cases hk)
    clear hown' hgrow hiff
    go_wp2
    go_ret
    exact ⟨_,rfl,HS.out,HN.out,HB.out⟩
theorem rdyL {ops:Array Oper} {op:Oper} {a:Act} {w:World} {K:Act → World → Prop} {Q:Exit → Act → World → Prop} (C:Array Value) (r:Nat) (x:Operand) (hw:Region.wanted op (yielded ops a.tmps)=true) (ho:op.op=.load 42 x) (hx:a.eval x=.pointer (some ⟨r,0,none⟩)) (hc:w.rangeAt r 0 C.toList) (h25:C.size=25) (h:K (a.put op.dst (.agg C)) w) :
    if Region.wanted op (yielded ops a.tmps)=true then Oper.wp Tryz.prog op a w K Q else K (a.put op.dst undef) w:=by
  rw [if_pos hw]
  exact wp_load_mid _ x ho r 0 hx C.toList _ hc Tryz.underlying42 rfl (by rw [Array.length_toList,h25]; exact i53) (by rw [Array.toArray_toList]; exact h)
theorem rdyS {ops:Array Oper} {op:Oper} {a:Act} {w:World} {K:Act → World → Prop} {Q:Exit → Act → World → Prop} (g:Nat) (C Z:Array Value) (x y:Operand) (hw:Region.wanted op (yielded ops a.tmps)=true) (ho:op.op=.store 42 x y) (hx:a.eval x=.pointer (some ⟨g,0,none⟩)) (hy:a.eval y=.agg C) (h25:C.size=25) (h1:C.all (·.oneCell')=true) (hZ:Z.size=25) (hr:w.heap[g]?=some (.cells Z 42)) (h:∀ W,W.heap[g]?=some (.cells C 42) → Mod g w W → K (a.put op.dst undef) W) :
    if Region.wanted op (yielded ops a.tmps)=true then Oper.wp Tryz.prog op a w K Q else K (a.put op.dst undef) w:=by
  rw [if_pos hw]
  refine wp_store_mid 42 x y ho g 0 C hx hy ?_ (by rw [h25]; exact i53) h1 ?_
  · intro j hj
    rw [h25] at hj
    refine ⟨?_,frozen_of_row _ _ _ _ _ hr⟩
    rw [cell_of_row _ _ _ _ _ _ hr]
    simp; omega
  have h3:=setCells_pre g 42 C.toList [] Z.toList w (by simp [h25,hZ]) (by simpa using hr)
  rw [List.length_nil] at h3
  simp only [List.nil_append,Array.toArray_toList] at h3
  exact h _ h3.1 (Mod.only h3.2)
theorem three_rows {w:World} (a b c:Obj):Below w.heap.size w (((w.alloc a).alloc b).alloc c)∧(((w.alloc a).alloc b).alloc c).heap[w.heap.size]?=some a∧(((w.alloc a).alloc b).alloc c).heap[w.heap.size + 1]?=some b∧(((w.alloc a).alloc b).alloc c).heap[w.heap.size + 2]?=some c:=by
  obtain ⟨h1,h2,h3⟩:=two_rows (w:=w) (a:=a) (b:=b) ((Below.refl _ _).alloc (Nat.le_refl _) c)
  refine ⟨h1,h2,h3,?_⟩
  have:=one_alloc ((w.alloc a).alloc b) c
  simpa [World.size_alloc] using this
def OPK (O:Array Value) (kk:Int) (tv fv sv:Value) (I N:Int) (bk:Bool):Prop:=O.size=19∧O[0]?=some (.int .i64 kk)∧O[1]?=some tv∧O[2]?=some fv∧O[3]?=some sv∧O[4]?=some (.int .i64 I)∧O[5]?=some (.int .i64 N)∧O[6]?=some (.bool bk)
structure CS (w:World) (S:Nat → Prop) (r:Nat) (O Z:Array Value) (mv tv:Value) (ts:List ByteArray) (D:Array Value) (W:World):Prop where
  rD:W.heap[r]?=some (.cells D 42)
  rO:W.heap[r + 1]?=some (.cells O 53)
  rZ:W.heap[r + 2]?=some (.cells Z 42)
  m:SRow W mv ts
  t:SRow W tv ts
  om:SOut (fun k=>k < r + 3) mv ts
  ot:SOut (fun k=>S k ∨ r ≤ k) tv ts
  hS:∀ k,S k → k < r
  md:ModS (fun k=>S k ∨ r ≤ k) w W
section
variable {w:World} {S:Nat → Prop} {r:Nat} {O Z:Array Value} {mv tv:Value} {ts:List ByteArray} {D:Array Value} {W W':World}
theorem CS.on (h:CS w S r O Z mv tv ts D W) (hb:Below W.heap.size W W'):CS w S r O Z mv tv ts D W':=
  ⟨keep_row h.rD hb,keep_row h.rO hb,keep_row h.rZ hb,h.m.on hb,h.t.on hb,h.om,h.ot,h.hS,h.md.trans (ModS.of hb)⟩
theorem CS.mod (h:CS w S r O Z mv tv ts D W) (hm:ModS S W W'):CS w S r O Z mv tv ts D W':=
  ⟨hm.row h.rD (fun e=>by have:=h.hS _ e; omega),hm.row h.rO (fun e=>by have:=h.hS _ e; omega),hm.row h.rZ (fun e=>by have:=h.hS _ e; omega),h.m.modS (h.om.weak fun k e=>by have:=h.hS _ e; omega) hm,h.t.modS (h.ot.weak fun k e=>Or.inl e) hm,h.om,h.ot,h.hS,h.md.trans (hm.weak fun k _ e=>Or.inl e)⟩
theorem CS.set (h:CS w S r O Z mv tv ts D W) {D':Array Value} (hr:W'.heap[r]?=some (.cells D' 42)) (hm:Mod r W W'):CS w S r O Z mv tv ts D' W':=
  ⟨hr,hm.row h.rO (by omega),hm.row h.rZ (by omega),h.m.modS (S:=fun k=>k=r) (h.om.weak fun k e=>by omega) (ModS.mod hm rfl),h.t.modS (S:=fun k=>k=r) (h.ot.weak fun k e=>Or.inr (by omega)) (ModS.mod hm rfl),h.om,h.ot,h.hS,h.md.trans (ModS.mod hm (Or.inr (Nat.le_refl _)))⟩
theorem CS.rng (h:CS w S r O Z mv tv ts D W):W.rangeAt r 0 D.toList:=fun j v hv=>by rw [cellC h.rD]; simpa using hv
theorem CS.rngO (h:CS w S r O Z mv tv ts D W):W.rangeAt (r + 1) 0 O.toList:=fun j v hv=>by rw [cellC h.rO]; simpa using hv
theorem CS.c (h:CS w S r O Z mv tv ts D W) {kk:Int} {fv sv:Value} {I N:Int} {bk:Bool} (hO:OPK O kk tv fv sv I N bk) :
    W.cell? ⟨r + 1,0,none⟩=some (.int .i64 kk)∧W.cell? ⟨r + 1,1,none⟩=some tv∧W.cell? ⟨r + 1,2,none⟩=some fv∧W.cell? ⟨r + 1,3,none⟩=some sv∧W.cell? ⟨r + 1,4,none⟩=some (.int .i64 I)∧W.cell? ⟨r + 1,5,none⟩=some (.int .i64 N)∧W.cell? ⟨r + 1,6,none⟩=some (.bool bk):=by
  obtain ⟨_,g0,g1,g2,g3,g4,g5,g6⟩:=hO
  exact ⟨(cellC h.rO).trans g0,(cellC h.rO).trans g1,(cellC h.rO).trans g2,(cellC h.rO).trans g3,(cellC h.rO).trans g4,(cellC h.rO).trans g5,(cellC h.rO).trans g6⟩
end
structure Aft (n:Nat) (Post:Nat → World → Prop):Prop where
  mono:∀ B B' W,B' ≤ B → Post B W → Post B' W
  keep:∀ B W W',Post B W → ModS (fun k=>n ≤ k∧k < B) W W' → Post B W'
theorem Aft.on {n:Nat} {Post:Nat → World → Prop} (h:Aft n Post) {B:Nat} {W W':World} (hp:Post B W) (hb:Below W.heap.size W W'):Post B W':=h.keep B W W' hp (ModS.of hb)
end Go.Proofs.YtiefeeoellagnaaGreatDoor.V
