import Derived.Test.YtijambehfobopaaGreatDoorWAJ
import Derived.Test.YtijambehfobopaaGreatDoorWAL
import Derived.Test.YtijambehfobopaaGreatDoorSpl2
namespace Go.Proofs.YtijambehfobopaaGreatDoor
open Go.RowKit
set_option linter.unusedVariables false
end Go.Proofs.YtijambehfobopaaGreatDoor
namespace Go.Proofs.YtijambehfobopaaGreatDoor
open Go.RowKit
set_option linter.unusedVariables false
theorem conv_own {W:World} {base:Nat} {P:Option Addr} {n c:Nat} {l:List UInt8} (h:W.ownsRow base 5 1 (.slice P n c) l.length (bcells l)) (hn:n=l.length):Sem.run Tryz.prog (convert 107 9 (.slice P n c)) W=.ok (.string (strB l)) W:=by
  obtain ⟨p,c',e,hc⟩:=own_text h
  rw [e]; exact hc
def itsOf (vs:List ByteArray):List LM.Item:=vs.map (fun v=>LM.itemOf v.data.toList)
theorem its_snoc (vs:List ByteArray) (j:Nat) (h:j < vs.length):LM.bodyOf (itsOf (vs.take (j + 1)))=LM.bodyOf (itsOf (vs.take j)) ++ (LM.data (LM.itemOf vs[j].data.toList) ++ LM.back (LM.dsize (LM.itemOf vs[j].data.toList))):=by
  unfold itsOf; rw [List.take_succ_eq_append_getElem h,List.map_append,LM.bodyOf_app]; simp [LM.bodyOf,LM.ent]
set_option maxHeartbeats 2000000 in
set_option maxRecDepth 100000 in
theorem rBuild_any (v:Value) (vs:List ByteArray) (hvl:vs.length ≤ 2097152) (hvm:∀ x ∈ vs,x.size ≤ 524288) (w:World) (hv:SRow w v vs) :
    Calls Tryz.prog 24 #[v] w fun e w'=>e=.returned (.string (strB (LM.build (itsOf vs))))∧Below w.heap.size w w':=by
  obtain ⟨i0,hi,hz0,hz1,hz2⟩:=info_parts info5
  obtain ⟨P,c,rfl⟩:=hv.form
  have HV:Hid (SRow w (.slice P vs.length c) vs):=hv
  have HVM:Hid _:=hvm
  have HBS:Hid (∀ j,(LM.bodyOf (itsOf (vs.take j))).length ≤ 524296 * j):=fun j=>by
    rw [LM.bodyOf_len]; unfold itsOf
    rw [bsum_items _ (fun v hv=>hvm v (List.mem_of_mem_take hv))]
    have:=sumV_le (vs.take j); rw [List.length_take] at this; exact Nat.le_trans this (Nat.mul_le_mul_left _ (by omega))
  clear hv hvm
  go_enter Tryz.func24,Tryz.ntmps24
  go_wp2
  go_loopw [3,4] (fun cv cj wr=>∃ (j:Nat) (b:Value),j ≤ vs.length∧cj=.int .i64 (j:Int)∧cv=b∧wr.ownsRow w.heap.size 5 1 b (LM.bodyOf (itsOf (vs.take j))).length (bcells (LM.bodyOf (itsOf (vs.take j))))∧Below w.heap.size w wr) (fun _ cj _=>vs.length - (intOf cj).toNat)
  case atStart=>exact ⟨0,.slice none 0 0,by omega,rfl,rfl,World.ownsRow_nil _ _ _ _,Below.refl _ _⟩
  case round =>
    obtain ⟨j,b,hj,rfl,hcv,ho,hb⟩:=hrel
    subst hcv
    have HO:Hid (wr.ownsRow w.heap.size 5 1 _ (LM.bodyOf (itsOf (vs.take j))).length (bcells (LM.bodyOf (itsOf (vs.take j))))):=ho
    have HB:Hid (Below w.heap.size w wr):=hb
    have hlj:=HBS.out j
    clear ho hb
    by_cases hlt:j < vs.length
    · obtain ⟨g,o,hPe,hcell⟩:=(HV.out.on HB.out).cell j hlt
      have HSN:Hid _:=its_snoc vs j hlt
      have hXm:(vs[j]).size ≤ 524288:=HVM.out _ (List.getElem_mem hlt)
      obtain ⟨X,hX⟩:∃ X,vs[j]=X:=⟨_,rfl⟩
      rw [hX] at hcell hXm
      have hSN:=HSN.out
      rw [hX] at hSN
      have HSX:Hid _:=hSN
      subst hPe
      have hwf:=LM.itemOf_wf X.data.toList (by rw [list_len]; exact hXm)
      have h2:=LM.dsize_le _ hwf
      have h3:=LM.bsz_le3 (LM.dsize (LM.itemOf X.data.toList)) (by omega)
      have HDA:Hid (∀ W,Calls Tryz.prog 59 #[.string X] W fun e w'=>e=.returned (.string (strB (LM.data (LM.itemOf X.data.toList))))∧Below W.heap.size W w'):=fun W=>rdata_any X hXm W
      have HBK:Hid (∀ W,Calls Tryz.prog 60 #[.int .i64 (LM.dsize (LM.itemOf X.data.toList):Nat)] W fun e w'=>e=.returned (.string (strB (LM.back (LM.dsize (LM.itemOf X.data.toList)))))∧Below W.heap.size W w'):=fun W=>rback_any _ (by omega) W
      have hds:(strB (LM.data (LM.itemOf X.data.toList))).size=LM.dsize (LM.itemOf X.data.toList):=by rw [strB_size,LM.data_len]
      have hbs:(strB (LM.back (LM.dsize (LM.itemOf X.data.toList)))).size ≤ 3:=by rw [strB_size,LM.back_len]; exact h3
      have HD1:Hid ((strB (LM.data (LM.itemOf X.data.toList))).data.toList=LM.data (LM.itemOf X.data.toList)):=strB_list _
      have HD2:Hid ((strB (LM.back (LM.dsize (LM.itemOf X.data.toList)))).data.toList=LM.back (LM.dsize (LM.itemOf X.data.toList))):=strB_list _
      generalize LM.bodyOf (itsOf (vs.take j))=BJ at *
      obtain ⟨BJ1,hBJ1⟩:∃ BJ1,LM.bodyOf (itsOf (vs.take (j + 1)))=BJ1:=⟨_,rfl⟩
      rw [hBJ1] at HSX
      have HBJ1:Hid _:=hBJ1
      clear hBJ1
      generalize LM.back (LM.dsize (LM.itemOf X.data.toList))=bk at *
      generalize LM.dsize (LM.itemOf X.data.toList)=D at *
      generalize LM.data (LM.itemOf X.data.toList)=da at *
      generalize strB da=DA at *
      generalize strB bk=BK1 at *
      clear hwf hXm hX HSN hSN
      go_wp2_with fail
      refine (show Calls _ _ _ _ _ from HDA.out _).mono ?_
      rintro e w1 ⟨rfl,hb1⟩
      have HB1:Hid (Below w.heap.size w w1):=bel_to HB.out hb1 (Nat.le_refl _)
      have HO1:Hid (w1.ownsRow w.heap.size 5 1 _ BJ.length (bcells BJ)):=own_keep HO.out (fun k _ hk=>hb1.block k hk)
      clear hb1
      go_wp2_with (at_builtin; go_must (refine Lib.wpList_append_own_string _ rfl _ _ 107 9 rfl w.heap.size 5 i0 Tryz.underlying107 Tryz.underlying9 hi hz0 hz1 hz2 _ _ _ rfl HO1.out DA rfl ?d3 ?d4 ?d5 ?_))
      case d3=>unfold maxLen; omega
      case d4=>omega
      case d5=>exact HB1.out.size
      intro v2 w2 hown2 hgrow2 _
      have HO2:Hid (w2.ownsRow w.heap.size 5 1 v2 (BJ ++ da).length (bcells (BJ ++ da))):=by
        show w2.ownsRow _ _ _ _ _ _
        rw [show (BJ ++ da).length=BJ.length + D by rw [List.length_append,← HD1.out,list_len,hds],show bcells (BJ ++ da)=bcells BJ ++ Lib.strCells DA by rw [← HD1.out,bcells_str]]
        exact hown2
      have HB2:Hid (Below w.heap.size w w2):=HB1.out.grown hgrow2 HB1.out.size (fun k hk=>(World.ownsRow.lt HO1.out k hk).1)
      have hda:(BJ ++ da).length ≤ 1099528404992 + 524293:=by rw [List.length_append,← HD1.out,list_len,hds]; omega
      clear hown2 hgrow2
      go_wp2_with fail
      refine (show Calls _ _ _ _ _ from HBK.out _).mono ?_
      rintro e w3 ⟨rfl,hb3⟩
      have HB3:Hid (Below w.heap.size w w3):=bel_to HB2.out hb3 (Nat.le_refl _)
      have HO3:Hid (w3.ownsRow w.heap.size 5 1 v2 (BJ ++ da).length (bcells (BJ ++ da))):=own_keep HO2.out (fun k _ hk=>hb3.block k hk)
      clear hb3
      go_wp2_with (at_builtin; go_must (refine Lib.wpList_append_own_string _ rfl _ _ 107 9 rfl w.heap.size 5 i0 Tryz.underlying107 Tryz.underlying9 hi hz0 hz1 hz2 _ _ _ rfl HO3.out BK1 rfl ?e3 ?e4 ?e5 ?_))
      case e3=>unfold maxLen; omega
      case e4=>omega
      case e5=>exact HB3.out.size
      intro v4 w4 hown4 hgrow4 _
      have HO4:Hid (w4.ownsRow w.heap.size 5 1 v4 BJ1.length (bcells BJ1)):=by
        show w4.ownsRow _ _ _ _ _ _
        rw [HSX.out,show (BJ ++ (da ++ bk)).length=BJ.length + da.length + BK1.size by simp only [List.length_append]; rw [← list_len BK1,HD2.out]; omega,show bcells (BJ ++ (da ++ bk))=bcells (BJ ++ da) ++ Lib.strCells BK1 by rw [← List.append_assoc,← HD2.out,bcells_str]]
        exact hown4
      have HB4:Hid (Below w.heap.size w w4):=HB3.out.grown hgrow4 HB3.out.size (fun k hk=>(World.ownsRow.lt HO3.out k hk).1)
      clear hown4 hgrow4
      go_wp2
      go_roundw
      case rel=>exact ⟨j + 1,v4,hlt,by simp,rfl,by rw [HBJ1.out]; exact HO4.out,HB4.out⟩
      case measure=>simp [intOf]; omega
    · have he:j=vs.length:=by omega
      subst he
      rw [List.take_length] at HO hlj
      obtain ⟨PB,cB,rfl,hconv⟩:=own_text HO.out
      have HSB:Hid ((LM.bodyOf (itsOf vs)).length=LM.bsum (itsOf vs)):=LM.bodyOf_len _
      have HIL:Hid ((itsOf vs).length=vs.length):=by show _=_; unfold itsOf; simp
      have HBU:Hid (strB (LM.build (itsOf vs))=strB (LM.leB 4 ((7 + LM.bsum (itsOf vs):Nat):Int)) ++ strB (LM.leB 2 ((min vs.length 65535:Nat):Int)) ++ strB (LM.bodyOf (itsOf vs)) ++ ⟨#[255]⟩):=by
        show _=_; unfold LM.build; rw [HIL.out]; apply WideShapes.bytes_inj; simp [strB]
      obtain ⟨fL,hfL⟩:∃ fL:Int → Int → ByteArray,fL=fun z k=>strB (LM.leB k.toNat z):=⟨_,rfl⟩
      have HLO:Hid (∀ z k:Int,(k=4 ∨ k=2) → LM.I64 z → ∀ W,Calls Tryz.prog 61 #[.int .i64 z,.int .i64 k] W fun e w'=>e=.returned (.string (fL z k))∧Below W.heap.size W w'):=fun z k hk hz W=>by
        rw [hfL]
        rcases hk with rfl | rfl
        · exact rlow_any z hz 4 (by omega) W
        · exact rlow_any z hz 2 (by omega) W
      obtain ⟨z1,hz1⟩:∃ z1:Int,((LM.bodyOf (itsOf vs)).length:Int) + 7=z1:=⟨_,rfl⟩
      obtain ⟨z2,hz2⟩:∃ z2:Int,min (vs.length:Int) 65535=z2:=⟨_,rfl⟩
      have HZ1:Hid (fL z1 4=strB (LM.leB 4 ((7 + LM.bsum (itsOf vs):Nat):Int))):=by
        show _=_; rw [hfL,← hz1,HSB.out]; show strB (LM.leB 4 _)=_; rw [show ((LM.bsum (itsOf vs):Nat):Int) + 7=((7 + LM.bsum (itsOf vs):Nat):Int) by omega]
      have HZ2:Hid (fL z2 2=strB (LM.leB 2 ((min vs.length 65535:Nat):Int))):=by
        show _=_; rw [hfL,← hz2]; show strB (LM.leB 2 _)=_; rw [show min (vs.length:Int) 65535=((min vs.length 65535:Nat):Int) by omega]
      have HI1:Hid (LM.I64 z1):=⟨by omega,by omega⟩
      have HI2:Hid (LM.I64 z2):=⟨by omega,by omega⟩
      have hs1:(fL z1 4).size=4:=by rw [HZ1.out,strB_size,LM.leB_len]
      have hs2:(fL z2 2).size=2:=by rw [HZ2.out,strB_size,LM.leB_len]
      have hs3:(strB (LM.bodyOf (itsOf vs))).size ≤ 1099528404992:=by rw [strB_size]; omega
      rw [← HZ1.out,← HZ2.out] at HBU
      have h44:(4:Int)=4 ∨ (4:Int)=2:=Or.inl rfl
      have h22:(2:Int)=4 ∨ (2:Int)=2:=Or.inr rfl
      have HW1:Hid (IntKind.i64.wrap z1=z1):=by show _=_; rw [IntKind.wrap_i64]; omega
      have HLX:Hid _:=hlj
      clear hfL HZ1 HZ2
      obtain ⟨LB,hLB⟩:∃ LB,LM.bodyOf (itsOf vs)=LB:=⟨_,rfl⟩
      rw [hLB] at HO hz1 HSB HBU hs3 hlj hconv ⊢
      obtain ⟨SB,hSB⟩:∃ SB,strB LB=SB:=⟨_,rfl⟩
      rw [hSB] at HBU hs3
      have HSBL:Hid (strB LB=SB):=hSB
      clear hSB hconv hLB HSB
      obtain ⟨nb,hnb⟩:∃ nb,LB.length=nb:=⟨_,rfl⟩
      have HNB:Hid (nb=LB.length):=hnb.symm
      have HO:Hid (wr.ownsRow w.heap.size 5 1 (.slice PB nb cB) LB.length (bcells LB)):=by have:=HO.out; rw [hnb] at this; rw [hnb]; exact this
      rw [hnb] at hz1 hlj ⊢
      have hnbl:nb ≤ 1099528404992:=by omega
      clear hnb hlj HLX
      go_wp2_with fail
      have hw1:=HW1.out
      have hcur:Below w.heap.size w wr.drew:=below_dn HB.out 1
      have hown:wr.drew.ownsRow w.heap.size 5 1 (.slice PB nb cB) LB.length (bcells LB):=HO.out
      have hcv:=conv_own hown HNB.out
      rw [HSBL.out] at hcv
      go_region_with (go_at_call 61; refine (show Calls _ _ _ _ _ from HLO.out _ _ (by first | exact Or.inl rfl | exact Or.inr rfl) (by first | exact HI1.out | exact HI2.out) _).mono ?_; rintro e w2 ⟨rfl,hbx⟩; have hcur:=bel_to hcur hbx (Nat.le_refl _); have hown:=own_keep hown (fun k _ hk=>hbx.block k hk); have hcv:=conv_own hown HNB.out; rw [HSBL.out] at hcv; clear hbx)
      all_goals
        have HCUR:Hid (Below w.heap.size w _):=hcur
        clear hcur hown hcv hw1
        go_wp2
        go_ret
        exact ⟨by rw [HBU.out]; rfl,HCUR.out⟩
end Go.Proofs.YtijambehfobopaaGreatDoor
