import Derived.Test.YtjnbjfjoejfmpaaGreatDoorWAO
import Derived.Test.YtjnbjfjoejfmpaaGreatDoorWAB
import Derived.Shelf.Abstract
import Derived.Shelf.RegionOpen
import Derived.OwnWalkIn
import Derived.TacticsInMore
import Derived.LoopNIn
import Derived.LoopIn
namespace Go.Proofs.YtjnbjfjoejfmpaaGreatDoor
open Go.RowKit
set_option linter.unusedVariables false
set_option linter.unusedSimpArgs false
structure FR (w wr:World) (t q:Nat):Prop where
  b:Below w.heap.size w wr
  r0:wr.heap[w.heap.size]?=some (.cells #[.int .i64 0,.int .i64 0,.int .i64 0] 67)
  r1:wr.heap[w.heap.size + 1]?=some (.cells #[.int .i64 0,.int .i64 (t:Int),.int .i64 (q:Int)] 67)
theorem FR.dn {w wr:World} {t q:Nat} (h:FR w wr t q) (n:Nat):FR w (wr.drewN n) t q:=⟨below_dn h.b n,h.r0,h.r1⟩
theorem FR.kk {w wr:World} {t q:Nat} (h:FR w wr t q) (q':Nat):FR w (wr.setCell ⟨w.heap.size + 1,2,none⟩ (.int .i64 (q':Int))) t q':=
  ⟨h.b.setCell (p:=⟨w.heap.size + 1,2,none⟩) (by show w.heap.size ≤ w.heap.size + 1; omega) _,(heap_setCell_other _ _ _ _ (by show w.heap.size ≠ w.heap.size + 1; omega)).trans h.r0,by rw [heap_setCell_same _ _ _ _ _ _ h.r1]; rfl⟩
theorem FR.nn {w wr:World} {t q:Nat} (h:FR w wr t q) (t':Nat):FR w (wr.setCell ⟨w.heap.size + 1,1,none⟩ (.int .i64 (t':Int))) t' q:=
  ⟨h.b.setCell (p:=⟨w.heap.size + 1,1,none⟩) (by show w.heap.size ≤ w.heap.size + 1; omega) _,(heap_setCell_other _ _ _ _ (by show w.heap.size ≠ w.heap.size + 1; omega)).trans h.r0,by rw [heap_setCell_same _ _ _ _ _ _ h.r1]; rfl⟩
theorem FR.ini (w:World) (i:Nat):FR w ((w.alloc (.cells #[.int .i64 0,.int .i64 0,.int .i64 0] 67)).alloc (.cells #[.int .i64 0,.int .i64 0,.int .i64 (i:Int)] 67)) 0 i:=by
  obtain ⟨h1,h2,h3⟩:=two_rows (Below.refl ((w.alloc (.cells #[.int .i64 0,.int .i64 0,.int .i64 0] 67)).alloc (.cells #[.int .i64 0,.int .i64 0,.int .i64 (i:Int)] 67)).heap.size _)
  exact ⟨h1,h2,h3⟩
def nodeNo (w wr:World):Nat:=(intOf ((wr.cell? ⟨w.heap.size + 1,1,none⟩).getD undef)).toNat
theorem FR.no {w wr:World} {t q:Nat} (h:FR w wr t q):nodeNo w wr=t:=by
  unfold nodeNo; rw [(row3 h.r1).2.1]; rfl
section
variable {b0 g r c:Nat} {rest:List Value} {nv:Value} {E B:Nat} {ns:List Nd}
set_option maxHeartbeats 2000000 in
set_option maxRecDepth 100000 in
theorem find_any (i:Nat) (hi:i < cntN ns) (hl:ns.length ≤ 1073741824) (hcnt:cntN ns ≤ 1073741824) (w:World) (h:LS w b0 g r c rest nv E B ns):Calls Tryz.prog 50 #[ptr g,.int .i64 (i:Int)] w fun e w'=>(∃ t q:Nat,e=.returned (plV t q)∧∃ ht:t < ns.length,q < ns[t].2.1∧cntN (ns.take t) + q=i)∧Below w.heap.size w w':=by
  have HL:Hid _:=h
  rcases h.nd with ⟨_,rfl⟩ | ⟨X,cc,rfl,hX,hN⟩
  · simp [cntN] at hi
  have HN:Hid _:=hN
  have HCT:Hid _:=cntN_take ns
  clear h hN
  go_enter Tryz.func50,Tryz.ntmps50
  go_wp2
  go_loopw [] (fun wr=>FR w wr 0 i) (fun _=>0)
  case atStart=>exact FR.ini w i
  case round =>
    have HF:Hid (FR w wr 0 i):=hrel
    have hL:=HL.out.on hrel.b
    obtain ⟨l0,l1,l2,l3,lf⟩:=lrow4 hL.hd
    obtain ⟨r0,r1,rf⟩:=lrow2 hL.rw_
    obtain ⟨p0,p1,p2,pf⟩:=row3 hrel.r1
    have hz:¬ ((cntN ns:Int) ≤ (i:Int)):=by omega
    clear hL hrel
    go_wp2
    go_quiet (fail)
    go_wp2
    go_quiet (fail)
    go_wp2
    go_loopw [] (fun wr=>∃ t q:Nat,t ≤ ns.length∧cntN (ns.take t) + q=i∧FR w wr t q) (fun wr=>ns.length - nodeNo w wr)
    case atStart=>exact ⟨0,i,by omega,by simp [cntN],by first | exact HF.out.dn _ | exact (HF.out.dn _).dn _⟩
    case round =>
      clear HF l0 l1 l2 l3 lf r0 r1 rf p0 p1 p2 pf hz
      obtain ⟨t,q,ht,hq,hF⟩:=hrel
      have HF2:Hid (FR w _ t q):=hF
      have htl:t < ns.length:=by
        rcases Nat.lt_or_eq_of_le ht with h | h
        · exact h
        · subst h; rw [List.take_length] at hq; omega
      obtain ⟨p0,p1,p2,pf⟩:=row3 hF.r1
      obtain ⟨x0,x1,x2⟩:=(HN.out.on hF.b).cells t htl
      have hct:=HCT.out t htl
      have HNO:Hid _:=hF.no
      obtain ⟨cn,hcn⟩:∃ cn,ns[t].2.1=cn:=⟨_,rfl⟩
      rw [hcn] at x1 hct
      have HCN:Hid _:=hcn
      have hz0:(0:Int) ≤ (t:Int):=by omega
      have hz1:(t:Int) < (ns.length:Int):=by omega
      have hqb:q ≤ 1073741824:=by omega
      have hcb:cn ≤ 1073741824:=by have:=cntN_take_le ns (t + 1); omega
      by_cases hlt:q < cn
      · have hz:¬ ((cn:Int) ≤ (q:Int)):=by omega
        obtain ⟨s0,s1,s2,sf⟩:=row3 hF.r0
        have HR:Hid _:=hF.r0
        have HB:Hid _:=hF.b
        clear hF hct hcn
        go_wp2
        go_quiet (fail)
        go_wp2
        obtain ⟨g0,g1,g2,gf⟩:=row3 (heap_set3 (wr.drewN nq) w.heap.size 67 _ _ _ (.int .i64 0) (.int .i64 (t:Int)) (.int .i64 (q:Int)) HR.out).1
        exact bodyPost_ret (v:=plV t q) (by simp [results,Tryz.results50,go_sem,g0,g1,g2]) rfl ⟨⟨t,q,rfl,htl,by rw [HCN.out]; exact hlt,hq⟩,below_set3 (below_dn HB.out _) (Nat.le_refl _) _ _ _⟩
      · have hz:((cn:Int) ≤ (q:Int)):=by omega
        clear hF hcn
        go_wp2
        go_quiet (fail)
        go_wp2
        go_region
        all_goals
          go_wp2
          have hF':=((HF2.out.dn (nq + 1)).kk (q - cn)).nn (t + 1)
          rw [show ((q - cn:Nat):Int)=(q:Int) - (cn:Int) by omega,show ((t + 1:Nat):Int)=(t:Int) + 1 by omega] at hF'
          refine ⟨⟨t + 1,q - cn,by omega,by omega,hF'⟩,?_⟩
          rw [hF'.no,HNO.out]; omega
end
end Go.Proofs.YtjnbjfjoejfmpaaGreatDoor
namespace Go.Proofs.YtjnbjfjoejfmpaaGreatDoor
open Go.RowKit
set_option linter.unusedVariables false
set_option linter.unusedSimpArgs false
/-! a list by its nodes of texts. -/
abbrev nds (B:Nat) (N:QM.NL):List Nd:=N.map (ndOf B)
theorem cnt_nds (B:Nat):∀ N:QM.NL,cntN (nds B N)=N.flatten.length
  | []=>rfl
  | x :: N=>by
    have ih:=cnt_nds B N
    unfold nds cntN at ih ⊢
    rw [List.map_cons,List.map_cons,List.sum_cons,ih,List.flatten_cons,List.length_append]; rfl
theorem nds_take (B:Nat) (N:QM.NL) (t:Nat):(nds B N).take t=nds B (N.take t):=by unfold nds; rw [List.map_take]
theorem nds_at (B:Nat) (N:QM.NL) (t:Nat) (h:t < (nds B N).length):(nds B N)[t]=ndOf B (N[t]'(by simpa [nds] using h)):=by unfold nds; rw [List.getElem_map]
theorem plc_of {B:Nat} {N:QM.NL} {t q i:Nat} (ht:t < N.length) (hq:q < N[t].length) (he:(N.take t).flatten.length + q=i):QM.plc N i=(t,q):=by
  have e:N=N.take t ++ N[t] :: N.drop (t + 1):=by rw [← List.drop_eq_getElem_cons ht,List.take_append_drop]
  have hl:(N.take t).length=t:=by rw [List.length_take]; omega
  have:=QM.plc_at (N.take t) N[t] (N.drop (t + 1)) q hq
  rw [← e,he,hl] at this
  exact this
theorem flat_at {N:QM.NL} {t q i:Nat} (ht:t < N.length) (hq:q < N[t].length) (he:(N.take t).flatten.length + q=i) (hi:i < N.flatten.length):N.flatten[i]=N[t][q]:=by
  have e:N=N.take t ++ N[t] :: N.drop (t + 1):=by rw [← List.drop_eq_getElem_cons ht,List.take_append_drop]
  have h1:N.flatten=(N.take t).flatten ++ (N[t] ++ (N.drop (t + 1)).flatten):=by
    conv=>lhs; rw [e]
    rw [List.flatten_append,List.flatten_cons]
  have h2:N.flatten[i]?=N[t][q]?:=by
    rw [h1,List.getElem?_append_right (by omega),List.getElem?_append_left (by omega)]
    congr 1; omega
  rw [List.getElem?_eq_getElem hi,List.getElem?_eq_getElem hq] at h2
  exact Option.some.inj h2
section
variable {b0 g r c:Nat} {rest:List Value} {nv:Value} {E B:Nat} {N:QM.NL}
set_option maxHeartbeats 1000000 in
theorem findN_any (i:Nat) (hi:i < N.flatten.length) (hl:N.flatten.length ≤ 1000) (hI:QM.Inv E B N) (w:World) (h:LS w b0 g r c rest nv E B (nds B N)):Calls Tryz.prog 50 #[ptr g,.int .i64 (i:Int)] w fun e w'=>e=.returned (plV (QM.plc N i).1 (QM.plc N i).2)∧Below w.heap.size w w':=by
  have hln:N.length ≤ 1000:=Nat.le_trans (QM.len_le hI.some) hl
  refine (find_any i (by rw [cnt_nds]; exact hi) (by simp [nds]; omega) (by rw [cnt_nds]; omega) w h).mono ?_
  rintro e w' ⟨⟨t,q,rfl,ht,hq,he⟩,hb⟩
  have ht':t < N.length:=by simpa [nds] using ht
  rw [nds_at] at hq
  rw [nds_take,cnt_nds] at he
  rw [plc_of (B:=B) ht' hq he]
  exact ⟨rfl,hb⟩
set_option maxHeartbeats 1000000 in
theorem nodeN_any (t k:Nat) (ht:t < N.length) (hl:N.length ≤ 1000) (w:World) (h:LS w b0 g r c rest nv E B (nds B N)):Calls Tryz.prog 70 #[ptr g,plV t k] w fun e w'=>e=.returned (.agg #[.string (packN N[t]),.int .i64 (N[t].length:Int),.bool (QM.lg B N[t])])∧Below w.heap.size w w':=by
  refine (node_any t k (by simpa [nds] using ht) (by simp [nds]; omega) w h).mono ?_
  rintro e w' ⟨rfl,hb⟩
  rw [nds_at]
  exact ⟨rfl,hb⟩
set_option maxHeartbeats 1000000 in
theorem At_yes (i:Nat) (hi:i < N.flatten.length) (hl:N.flatten.length ≤ 1000) (hI:QM.Inv E B N) (w:World) (hw:Lay w) (h:LS w b0 g r c rest nv E B (nds B N)):Calls Tryz.prog 44 #[ptr g,.int .i64 (i:Int)] w fun e w'=>e=.returned (.tuple #[.string N.flatten[i],.bool true])∧Below w.heap.size w w':=by
  have HL:Hid _:=h
  have HW:Hid _:=hw
  have hln:N.length ≤ 1000:=Nat.le_trans (QM.len_le hI.some) hl
  obtain ⟨ht,hq,he⟩:=QM.plc_lt N i hi
  have hfa:=flat_at ht hq he hi
  have hfit:=fit_node hI (List.getElem_mem ht)
  have HHA:Hid (∀ W,LS W b0 g r c rest nv E B (nds B N) → Calls Tryz.prog 79 #[ptr g,.int .i64 (i:Int)] W fun e w'=>e=.returned (.bool true)∧w'=W):=fun W hW=>by
    have:=has_any (i:Int) W hW
    have e1:hasQ (cntN (nds B N)) (i:Int)=true:=by unfold hasQ; rw [cnt_nds]; exact decide_eq_true ⟨by omega,by omega⟩
    rw [e1] at this; exact this
  have HFD:Hid (∀ W,LS W b0 g r c rest nv E B (nds B N) → _):=fun W hW=>findN_any i hi hl hI W hW
  have HND:Hid (∀ W k,LS W b0 g r c rest nv E B (nds B N) → _):=fun W k hW=>nodeN_any (QM.plc N i).1 k ht hln W hW
  have HAT:Hid (∀ W,Lay W → _):=fun W hW=>at_any B N[(QM.plc N i).1] hfit (QM.plc N i).2 hq (QM.lg B N[(QM.plc N i).1]) W hW
  rw [hfa]
  generalize N[(QM.plc N i).1][(QM.plc N i).2]=T at *
  generalize packN N[(QM.plc N i).1]=PK at *
  generalize N[(QM.plc N i).1].length=LN at *
  generalize QM.lg B N[(QM.plc N i).1]=LG at *
  generalize (QM.plc N i).1=t at *
  generalize (QM.plc N i).2=q at *
  clear hw h hfa hfit he hI
  go_enter Tryz.func44,Tryz.ntmps44
  go_wp2_with fail
  refine (show Calls _ _ _ _ _ from HHA.out _ HL.out).mono ?_
  rintro e w1 ⟨rfl,rfl⟩
  go_wp2_with fail
  refine (show Calls _ _ _ _ _ from HFD.out _ HL.out).mono ?_
  rintro e w2 ⟨rfl,hb2⟩
  have HB2:Hid _:=hb2
  go_wp2_with fail
  have hby:Below w1.heap.size w1 (w2.alloc (.cells #[.int .i64 0,.int .i64 (t:Int),.int .i64 (q:Int)] 67)):=hb2.alloc hb2.size _
  have hpy:(w2.alloc (.cells #[.int .i64 0,.int .i64 (t:Int),.int .i64 (q:Int)] 67)).heap[w2.heap.size]?=some (.cells #[.int .i64 0,.int .i64 (t:Int),.int .i64 (q:Int)] 67):=one_alloc _ _
  generalize w2.alloc (.cells #[.int .i64 0,.int .i64 (t:Int),.int .i64 (q:Int)] 67)=y at *
  have HBY:Hid (∀ W,Below y.heap.size y W → Below w1.heap.size w1 W):=fun W hW=>bel_to hby hW (Nat.le_refl _)
  obtain ⟨p0,p1,p2,pf⟩:=row3 hpy
  have hSA:=And.intro p0 (And.intro p1 p2)
  have HKS:Hid (∀ W,Below y.heap.size y W → W.cell? ⟨w2.heap.size,0,none⟩=some (.int .i64 0)∧W.cell? ⟨w2.heap.size,1,none⟩=some (.int .i64 (t:Int))∧W.cell? ⟨w2.heap.size,2,none⟩=some (.int .i64 (q:Int))):=fun W hW=>And.intro (cell_on p0 hW) (And.intro (cell_on p1 hW) (cell_on p2 hW))
  clear hby hpy hb2
  go_region_held3 (fun w':World=>w'.cell? ⟨w2.heap.size,0,none⟩=some (.int .i64 0)∧w'.cell? ⟨w2.heap.size,1,none⟩=some (.int .i64 (t:Int))∧w'.cell? ⟨w2.heap.size,2,none⟩=some (.int .i64 (q:Int)))
    (first | exact hSA | exact HKS.out _ hx1 | exact HKS.out _ hx2 | exact HKS.out _ ((Below.refl _ y).drew))
    (first | (go_at_call 85; refine (show Calls _ _ _ _ _ from HAT.out _ (HW.out.on (HBY.out _ hx1))).mono ?_; rintro e a2 ⟨rfl,hb2⟩; have hx2:=bel_to hx1 hb2 (Nat.le_refl _)) | (go_at_call 70; refine (show Calls _ _ _ _ _ from HND.out _ q (HL.out.on (HBY.out _ ((Below.refl _ y).drew)))).mono ?_; rintro e a1 ⟨rfl,hb1⟩; have hx1:=bel_to ((Below.refl _ y).drew) hb1 (Nat.le_refl _)))
  have HXX:Hid (Below w1.heap.size w1 a2):=HBY.out _ hx2
  clear hx1 hx2 hb1 hb2 hSA p0 p1 p2 pf
  go_wp2
  go_returns
  exact ⟨rfl,HXX.out⟩
set_option maxHeartbeats 1000000 in
theorem At_no (i:Int) (hi:¬ (0 ≤ i∧i < (N.flatten.length:Int))) (w:World) (h:LS w b0 g r c rest nv E B (nds B N)):Calls Tryz.prog 44 #[ptr g,.int .i64 i] w fun e w'=>e=.returned (.tuple #[.string ⟨#[]⟩,.bool false])∧Below w.heap.size w w':=by
  have HHA:Hid (Calls Tryz.prog 79 #[ptr g,.int .i64 i] w fun e w'=>e=.returned (.bool false)∧w'=w):=by
    have:=has_any i w h
    have e1:hasQ (cntN (nds B N)) i=false:=by unfold hasQ; rw [cnt_nds]; exact decide_eq_false hi
    rw [e1] at this; exact this
  clear h
  go_enter Tryz.func44,Tryz.ntmps44
  go_wp2_with fail
  refine (show Calls _ _ _ _ _ from HHA.out).mono ?_
  rintro e w1 ⟨rfl,rfl⟩
  go_wp2
  go_returns
  exact ⟨rfl,Below.refl _ _⟩
end
end Go.Proofs.YtjnbjfjoejfmpaaGreatDoor
namespace Go.Proofs.YtjnbjfjoejfmpaaGreatDoor
open Go.RowKit Go.Shelf
set_option linter.unusedVariables false
set_option linter.unusedSimpArgs false
attribute [local go_sem] Oper.semAt_some
section
variable {b0 g r c:Nat} {rest:List Value} {nv:Value} {E B:Nat} {N:QM.NL}
structure WB (b0 g r c:Nat) (rest:List Value) (nv:Value) (E B:Nat) (N:QM.NL) (t q bx:Nat) (back:Bool) (W:World):Prop where
  x0:W.heap[bx]?=some (.cells #[ptr g] 23)
  x1:W.heap[bx + 1]?=some (.cells #[.int .i64 0,.int .i64 (t:Int),.int .i64 (q:Int)] 67)
  x2:W.heap[bx + 1 + 1]?=some (.cells #[.bool back] 4)
  ls:LS W b0 g r c rest nv E B (nds B N)
set_option maxHeartbeats 800000 in
set_option maxRecDepth 100000 in
theorem walkQ_any (t q:Nat) (back:Bool) (w:World) (h:LS w b0 g r c rest nv E B (nds B N)):Calls Tryz.prog 51 #[ptr g,plV t q,.bool back] w fun e w'=>e=.returned (.func (.func 90) #[] #[ptr (w.heap.size + 1),ptr w.heap.size,ptr (w.heap.size + 1 + 1)])∧WB b0 g r c rest nv E B N t q w.heap.size back w'∧Below w.heap.size w w':=by
  have HL:Hid _:=h
  clear h
  have hmf:∀ (fn:Fn) (first cap:Array Value) (w:World),(Instr.makeFunc fn first cap).run Tryz.prog w=.ok (.func fn first cap) w:=fun _ _ _ _=>rfl
  obtain ⟨W3,hW3⟩:∃ W3,W3=((w.alloc (.cells #[ptr g] 23)).alloc (.cells #[.int .i64 0,.int .i64 (t:Int),.int .i64 (q:Int)] 67)).alloc (.cells #[.bool back] 4):=⟨_,rfl⟩
  have HBW:Hid (Below w.heap.size w W3):=by show Below _ _ _; rw [hW3]; exact (((Below.refl _ w).alloc (Nat.le_refl _) _).alloc (by simp) _).alloc (by simp; omega) _
  have HX:Hid (WB b0 g r c rest nv E B N t q w.heap.size back W3):=by
    refine ⟨by rw [hW3]; exact (three_rows (Below.refl _ _)).2.1,by rw [hW3]; exact (three_rows (Below.refl _ _)).2.2,?_,HL.out.on HBW.out⟩
    rw [hW3]
    have:=one_alloc ((w.alloc (.cells #[ptr g] 23)).alloc (.cells #[.int .i64 0,.int .i64 (t:Int),.int .i64 (q:Int)] 67)) (.cells #[.bool back] 4)
    simpa using this
  go_enter Tryz.func51,Tryz.ntmps51
  go_wp2
  rw [← hW3]
  clear hW3
  go_returns
  exact ⟨rfl,HX.out,HBW.out⟩
def curQ (back:Bool) (t j:Nat):Nat:=if back then t - j else t + j
def cntQ (back:Bool) (n t:Nat):Nat:=if back then t + 1 else n - t
def wkQ (back:Bool) (t cnt:Nat):List Nat:=(List.range cnt).map fun j=>curQ back t j
theorem wkQ_snoc (back:Bool) (t cnt j:Nat) (h:j < cnt):wkQ back t (j + 1)=wkQ back t j ++ [curQ back t j]∧wkQ back t j ++ [curQ back t j] <+: wkQ back t cnt:=by
  have e:wkQ back t (j + 1)=wkQ back t j ++ [curQ back t j]:=by
    unfold wkQ; rw [List.range_succ,List.map_append]; rfl
  refine ⟨e,?_⟩
  rw [← e]
  unfold wkQ
  refine List.IsPrefix.map _ ?_
  obtain ⟨d,rfl⟩:∃ d,cnt=(j + 1) + d:=⟨cnt - (j + 1),by omega⟩
  rw [show List.range (j + 1 + d)=List.range (j + 1) ++ (List.range d).map (fun x=>j + 1 + x) from List.range_add]
  exact List.prefix_append _ _
theorem curQ_lt {back:Bool} {n t j:Nat} (ht:t < n) (hj:j < cntQ back n t):curQ back t j < n:=by
  unfold cntQ at hj; unfold curQ; split at hj <;> simp [*] <;> omega
def ndV (B:Nat) (N:QM.NL) (i:Nat):Value:=.agg #[.string (packN (N.getD i [])),.int .i64 ((N.getD i []).length:Int),.bool (QM.lg B (N.getD i []))]
theorem beside_any (back:Bool) (t j q:Nat) (ht:t < N.length) (hj:j < cntQ back N.length t) (hl:N.length ≤ 1000) (w:World) (h:LS w b0 g r c rest nv E B (nds B N)):Calls Tryz.prog 91 #[ptr g,plV (curQ back t j) q,.bool back] w fun e w'=>(∃ x y:Nat,e=.returned (.tuple #[.agg #[.int .i64 0,.int .i64 (x:Int),.int .i64 (y:Int)],.bool (decide (j + 1 < cntQ back N.length t))])∧(j + 1 < cntQ back N.length t → x=curQ back t (j + 1)))∧Below w.heap.size w w':=by
  have hlt:=curQ_lt ht hj
  have hnl:(nds B N).length=N.length:=by simp [nds]
  cases back with
  | true =>
    refine (beside_back _ q w h (by rw [hnl]; exact hlt) (by omega)).mono ?_
    rintro e w' ⟨rfl,hb⟩
    refine ⟨?_,hb⟩
    simp only [curQ,cntQ,if_true] at hj hlt ⊢
    by_cases h1:0 < t - j
    · rw [if_pos h1,decide_eq_true (show j + 1 < t + 1 by omega)]
      exact ⟨t - j - 1,0,rfl,fun _=>by omega⟩
    · rw [if_neg h1,decide_eq_false (show ¬ (j + 1 < t + 1) by omega)]
      exact ⟨0,0,rfl,fun _=>by omega⟩
  | false =>
    refine (beside_fwd _ q w h (by rw [hnl]; exact hlt) (by omega)).mono ?_
    rintro e w' ⟨rfl,hb⟩
    refine ⟨?_,hb⟩
    rw [hnl]
    simp only [curQ,cntQ,Bool.false_eq_true,if_false] at hj hlt ⊢
    by_cases h1:t + j + 1 < N.length
    · rw [if_pos h1,decide_eq_true (show j + 1 < N.length - t by omega)]
      exact ⟨t + j + 1,0,rfl,fun _=>by omega⟩
    · rw [if_neg h1,decide_eq_false (show ¬ (j + 1 < N.length - t) by omega)]
      exact ⟨0,0,rfl,fun _=>by omega⟩
def msQ (back:Bool) (n:Nat) (cp co:Value) (wr:World):Nat:=match co with
  | .bool true=>(match cp with
    | .pointer (some a)=>(match wr.cell? ⟨a.block,1,none⟩ with
      | some (.int _ i)=>if back then i.toNat + 1 else n - i.toNat
      | _=>0)
    | _=>0)
  | _=>0
theorem msQ_at {back:Bool} {n t j kp:Nat} {v0 v2:Value} {wr:World} {T:Nat} (ht:t < n) (hj:j < cntQ back n t) (h:wr.heap[kp]?=some (.cells #[v0,.int .i64 (curQ back t j:Int),v2] T)):msQ back n (ptr kp) (.bool true) wr=cntQ back n t - j:=by
  unfold msQ
  simp only [(row3 h).2.1]
  unfold cntQ at hj ⊢; unfold curQ
  cases back <;> simp at hj ⊢ <;> omega
theorem qrow1 {w:World} {g T:Nat} {v0:Value} (h:w.heap[g]?=some (.cells #[v0] T)):w.cell? ⟨g,0,none⟩=some v0∧∀ j,w.frozen? ⟨g,j,none⟩=false:=by
  refine ⟨?_,fun j=>frozen_of_row _ _ _ _ _ h⟩ <;> rw [cell_of_row _ _ _ _ _ _ h] <;> rfl
set_option maxHeartbeats 2000000 in
set_option maxRecDepth 100000 in
theorem walkQ_seq (n:Nat) (t q bx B0:Nat) (back:Bool) (pch:List PanicEntry) (ht:t < N.length) (hl:N.length ≤ 1000) :
    SeqP n Tryz.prog 90 #[ptr (bx + 1),ptr bx,ptr (bx + 1 + 1)] (fun i=>#[ndV B N i]) (wkQ back t (cntQ back N.length t)) false pch (WB b0 g r c rest nv E B N t q bx back) B0:=by
  intro l J Jx Jp W hBW hJ hbox hJx hY h0
  have hbx:=hbox _ _ h0
  obtain ⟨e0,e1,e2,ef⟩:=row3 hbx.x1
  have HJ0:Hid (J [] W):=h0
  have HJJ:Hid (∀ s A B,J s A → Below A.heap.size A B → J s B):=hJ
  have HBO:Hid (∀ s A,J s A → WB b0 g r c rest nv E B N t q bx back A):=hbox
  have HYY:Hid _:=hY
  obtain ⟨cnt,hcnt⟩:∃ cnt,cntQ back N.length t=cnt:=⟨_,rfl⟩
  have hc0:0 < cnt:=by rw [← hcnt]; unfold cntQ; split <;> omega
  have HND:Hid (∀ j w,j < cnt → LS w b0 g r c rest nv E B (nds B N) → ∀ q,Calls Tryz.prog 70 #[ptr g,plV (curQ back t j) q] w fun e w'=>e=.returned (ndV B N (curQ back t j))∧Below w.heap.size w w'):=fun j w hj hw q=>by
    have hlt:=curQ_lt ht (show j < cntQ back N.length t by omega)
    have:=nodeN_any (curQ back t j) q hlt hl w hw
    unfold ndV; rw [QM.getD_at N _ hlt]; exact this
  have HBE:Hid (∀ j w,j < cnt → LS w b0 g r c rest nv E B (nds B N) → ∀ q,Calls Tryz.prog 91 #[ptr g,plV (curQ back t j) q,.bool back] w fun e w'=>(∃ x y:Nat,e=.returned (.tuple #[.agg #[.int .i64 0,.int .i64 (x:Int),.int .i64 (y:Int)],.bool (decide (j + 1 < cnt))])∧(j + 1 < cnt → x=curQ back t (j + 1)))∧Below w.heap.size w w'):=fun j w hj hw q=>by
    have:=beside_any back t j q ht (by omega) hl w hw
    rw [hcnt] at this; exact this
  have HWS:Hid (∀ j,j < cnt → wkQ back t (j + 1)=wkQ back t j ++ [curQ back t j]∧wkQ back t j ++ [curQ back t j] <+: wkQ back t cnt):=fun j hj=>wkQ_snoc back t cnt j hj
  have HW0:Hid (wkQ back t 0=[]):=rfl
  have HC0:Hid (curQ back t 0=t):=by show _=_; unfold curQ; split <;> omega
  rw [hcnt] at HYY ⊢
  obtain ⟨NB,hNB⟩:∃ NB:Nat → Value,∀ i,ndV B N i=NB i:=⟨_,fun _=>rfl⟩
  have HMS:Hid (∀ (j kp:Nat) (v0 v2:Value) (wr:World),j < cnt → wr.heap[kp]?=some (.cells #[v0,.int .i64 (curQ back t j:Int),v2] 67) → msQ back N.length (ptr kp) (.bool true) wr=cnt - j):=fun j kp v0 v2 wr hj h=>by
    rw [msQ_at ht (by omega) h,hcnt]
  clear h0 hbx hJ hbox hY hcnt
  obtain ⟨W1,hW1⟩:∃ W1,W1=W.alloc (.cells #[.int .i64 0,.int .i64 (t:Int),.int .i64 (q:Int)] 67):=⟨_,rfl⟩
  have hb1:Below W.heap.size W W1:=by rw [hW1]; exact (Below.refl _ _).alloc (Nat.le_refl _) _
  have HJ1:Hid (J [] W1):=HJJ.out _ _ _ HJ0.out hb1
  have HP1:Hid (W1.heap[W.heap.size]?=some (.cells #[.int .i64 0,.int .i64 (t:Int),.int .i64 (q:Int)] 67)):=by show _=_; rw [hW1]; exact one_alloc _ _
  have HS1:Hid (B0 ≤ W1.heap.size):=Nat.le_trans hBW hb1.size
  have HBW:Hid (B0 ≤ W.heap.size):=hBW
  clear hb1
  refine callsIn_of_wp Tryz.func90 rfl trivial ?_ rfl
  simp only [Tryz.ntmps90,List.size_toArray,List.length_cons,List.length_nil,Nat.reduceAdd,Nat.reduceSub,Array.replicate_succ,Array.replicate_zero,List.push_toArray,List.append_toArray,List.nil_append,List.cons_append]
  gi_wp2
  rw [← hW1]
  clear hW1 e0 e1 e2 ef
  gi_loopw [5,6] (fun cp co wr=>∃ (j kp:Nat),j ≤ cnt∧cp=ptr kp∧co=.bool (decide (j < cnt))∧(j < cnt → ∃ y:Nat,wr.heap[kp]?=some (.cells #[.int .i64 0,.int .i64 (curQ back t j:Int),.int .i64 (y:Int)] 67))∧J (wkQ back t j) wr∧B0 ≤ wr.heap.size∧B0 ≤ kp) (fun cp co wr=>msQ back N.length cp co wr)
  case atStart=>exact ⟨0,W.heap.size,by omega,rfl,by rw [decide_eq_true hc0],fun _=>⟨q,by rw [HC0.out]; exact HP1.out⟩,by rw [HW0.out]; exact HJ1.out,HS1.out,HBW.out⟩
  case round =>
    obtain ⟨j,kp,hj,rfl,rfl,hp,hJs,hB0,hkp⟩:=hrel
    by_cases hlt:j < cnt
    · obtain ⟨y,hrow⟩:=hp hlt
      have hdt:decide (j < cnt)=true:=decide_eq_true hlt
      rw [hdt]
      have hbx:=HBO.out _ _ hJs
      have HMJ:Hid (msQ back N.length (ptr kp) (.bool true) wr=cnt - j):=HMS.out j kp _ _ wr hlt hrow
      obtain ⟨p0,p1,p2,pf⟩:=row3 hrow
      obtain ⟨l0,lf⟩:=qrow1 hbx.x0
      obtain ⟨q1,q2⟩:=HWS.out j hlt
      have HQ1:Hid (wkQ back t (j + 1)=wkQ back t j ++ [curQ back t j]):=q1
      have HQ2:Hid (wkQ back t j ++ [curQ back t j] <+: wkQ back t cnt):=q2
      have HROW:Hid (wr.heap[kp]?=some (.cells #[.int .i64 0,.int .i64 (curQ back t j:Int),.int .i64 (y:Int)] 67)):=hrow
      have HJS:Hid (J (wkQ back t j) wr):=hJs
      have HKP:Hid (B0 ≤ kp):=hkp
      have HB0:Hid (B0 ≤ wr.heap.size):=hB0
      have HNJ:Hid _:=HND.out j wr hlt hbx.ls y
      have HBJ:Hid (∀ w,LS w b0 g r c rest nv E B (nds B N) → Calls Tryz.prog 91 #[ptr g,plV (curQ back t j) y,.bool back] w fun e w'=>(∃ x y:Nat,e=.returned (.tuple #[.agg #[.int .i64 0,.int .i64 (x:Int),.int .i64 (y:Int)],.bool (decide (j + 1 < cnt))])∧(j + 1 < cnt → x=curQ back t (j + 1)))∧Below w.heap.size w w'):=fun w hw=>HBE.out j w hlt hw y
      have HYJ:Hid (∀ W1,J (wkQ back t j) W1 → _):=fun W1 h1=>HYY.out _ (curQ back t j) W1 q2 h1
      generalize hcq:curQ back t j=cq at *
      clear hrow hp hJs hbx hB0 hkp q1 q2 hdt
      gi_wp2_with fail
      refine ⟨trivial,fun h=>(by cases h),(callsIn_wide.2 HNJ.out).mono ?_⟩
      rintro e w1 ⟨rfl,hb1⟩
      have hJ1:J (wkQ back t j) w1:=HJJ.out _ _ _ HJS.out hb1
      have HB1:Hid (Below wr.heap.size wr w1):=hb1
      obtain ⟨fn,tmps,assign,body,hy,hR⟩:=HYJ.out w1 hJ1
      generalize ndV B N cq=NV at *
      clear p0 p1 p2 pf l0 lf hb1 hJ1
      gi_wp2
      refine ⟨fun h=>(by cases h),hR.mono ?_⟩
      rintro e W3 (⟨rfl,hJ3,hkc,hz3⟩ | ⟨rfl,hJx3⟩ | ⟨rfl,hJp3⟩)
      · have hrow3:=hkc kp _ HKP.out (keep_row HROW.out HB1.out) rfl
        obtain ⟨p0,p1,p2,pf⟩:=row3 hrow3
        have HJ3:Hid (J (wkQ back t (j + 1)) W3):=by show J _ _; rw [HQ1.out]; exact hJ3
        have HZ3:Hid (B0 ≤ W3.heap.size):=by have:=HB0.out; have:=HB1.out.size; show _ ≤ _; omega
        obtain ⟨W4,hW4⟩:∃ W4,W4=W3.alloc (.cells #[.int .i64 0,.int .i64 (cq:Int),.int .i64 (y:Int)] 67):=⟨_,rfl⟩
        have hb4:Below W3.heap.size W3 W4:=by rw [hW4]; exact (Below.refl _ _).alloc (Nat.le_refl _) _
        have HB4:Hid (Below W3.heap.size W3 W4):=hb4
        have hx4:=HBO.out _ _ (HJJ.out _ _ _ HJ3.out hb4)
        have HBC:Hid _:=HBJ.out W4 hx4.ls
        obtain ⟨l0,lf⟩:=qrow1 hx4.x0
        obtain ⟨k0,kf⟩:=qrow1 hx4.x2
        have HP4:Hid (W4.heap[W3.heap.size]?=some (.cells #[.int .i64 0,.int .i64 (cq:Int),.int .i64 (y:Int)] 67)):=by show _=_; rw [hW4]; exact one_alloc _ _
        obtain ⟨s0,s1,s2,sf⟩:=row3 HP4.out
        clear hJ3 hR hy hkc hx4 hrow3 hb4
        subst hW4
        gi_wp2_with fail
        refine ⟨trivial,fun h=>(by cases h),(callsIn_wide.2 HBC.out).mono ?_⟩
        rintro e w5 ⟨⟨x,y',rfl,hx⟩,hb5⟩
        have HX:Hid _:=hx
        have HR5:Hid (w5.heap[W3.heap.size]?=some (.cells #[.int .i64 0,.int .i64 (cq:Int),.int .i64 (y:Int)] 67)):=keep_row HP4.out hb5
        have HB5:Hid (Below W3.heap.size W3 w5):=bel_to HB4.out hb5 (Nat.le_refl _)
        have HG5:Hid _:=heap_set3 w5 W3.heap.size 67 _ _ _ (.int .i64 0) (.int .i64 (x:Int)) (.int .i64 (y':Int)) HR5.out
        clear s0 s1 s2 sf l0 lf k0 kf p0 p1 p2 pf hb5 hx
        obtain ⟨s0,s1,s2,sf⟩:=row3 HR5.out
        gi_wp2
        go_roundw
        case rel =>
          refine ⟨j + 1,W3.heap.size,by omega,rfl,rfl,fun h=>⟨y',?_⟩,?_,?_,HZ3.out⟩
          · rw [← HX.out h]; exact HG5.out.1
          · exact HJJ.out _ _ _ HJ3.out (below_set3 HB5.out (Nat.le_refl _) _ _ _)
          · have h1:=HZ3.out
            have h2:=HB5.out.size
            rw [HG5.out.2.size]; omega
        case measure =>
          rw [HMJ.out]
          by_cases h:j + 1 < cnt
          · rw [decide_eq_true h]
            have:=HMS.out (j + 1) W3.heap.size _ _ _ h (by rw [← HX.out h]; exact HG5.out.1)
            rw [this]; omega
          · rw [decide_eq_false h]
            show 0 < _
            omega
      · gi_wp2
        refine bodyPost_ret (results_none rfl _ _ _) rfl ?_
        exact Or.inr (Or.inl ⟨⟨_,rfl⟩,_,HQ2.out,hJx3⟩)
      · exact ⟨rfl,Or.inr (Or.inr ⟨rfl,Or.inl hJp3⟩)⟩
    · have he:j=cnt:=by omega
      subst he
      have hdt:decide (j < j)=false:=by simp
      rw [hdt]
      clear hp
      gi_wp2
      go_end0
      exact Or.inl ⟨⟨_,rfl⟩,trivial,hJs⟩
end
end Go.Proofs.YtjnbjfjoejfmpaaGreatDoor
