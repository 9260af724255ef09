import Derived.Test.YtijambehfobopaaGreatDoorWAE
import Derived.Test.YtijambehfobopaaGreatDoorWAB
import Derived.Shelf.Abstract
import Derived.Shelf.RegionOpen
import Derived.OwnWalkIn
import Derived.TacticsInMore
import Derived.LoopNIn
import Derived.LoopIn
namespace Go.Proofs.YtijambehfobopaaGreatDoor
open Go.RowKit Go.Shelf
set_option linter.unusedVariables false
attribute [local go_sem] Oper.semAt_some
theorem fwd_any (b:ByteArray) (c:Int) (w:World):Calls Tryz.prog 107 #[.agg #[.string b,.int .i64 c]] w fun e w' =>
    e=.returned (.func (.func 119) #[] #[.pointer (some ⟨w.heap.size,0,none⟩)])∧w'=w.alloc (.cells #[.string b,.int .i64 c] 131):=by
  have hmf:∀ (fn:Fn) (first cap:Array Value) (w:World),(Instr.makeFunc fn first cap).run Tryz.prog w=.ok (.func fn first cap) w:=fun _ _ _ _=>rfl
  go_enter Tryz.func107,Tryz.ntmps107
  go_wp2
  go_ret
  exact ⟨rfl,rfl⟩
def encs (e:LM.Ent):Array Value:=#[.int .i64 (e.place:Int),encE e.it e.begin e.span]
structure Box (b:ByteArray) (c:Int) (bx:Nat) (W:World):Prop where
  row:W.heap[bx]?=some (.cells #[.string b,.int .i64 c] 131)
  wid:Wid W
theorem Box.on {b c bx W W'} (h:Box b c bx W) (hb:Below W.heap.size W W'):Box b c bx W':=⟨keep_row h.row hb,h.wid.on hb⟩
theorem row2 {w:World} {g T:Nat} {v0 v1:Value} (h:w.heap[g]?=some (.cells #[v0,v1] T)) :
    w.cell? ⟨g,0,none⟩=some v0∧w.cell? ⟨g,1,none⟩=some v1∧∀ j,w.frozen? ⟨g,j,none⟩=false:=by
  refine ⟨?_,?_,fun j=>frozen_of_row _ _ _ _ _ h⟩ <;> rw [cell_of_row _ _ _ _ _ _ h] <;> rfl
set_option maxHeartbeats 2000000 in
set_option maxRecDepth 100000 in
theorem fwd_seq (n:Nat) (b:ByteArray) (c:Int) (bx k B0:Nat) (hs:b.size ≤ 4294967296) (hk:b.size < k) :
    SeqP n Tryz.prog 119 #[.pointer (some ⟨bx,0,none⟩)] encs (LM.parse k 0 0 b.data.toList).1 (LM.parse k 0 0 b.data.toList).2 pch (Box b c bx) B0:=by
  intro l J Jx Jp W hBW hJ hbox hJx hY h0
  refine callsIn_of_wp Tryz.func119 rfl trivial ?_ rfl
  simp only [Tryz.ntmps119,List.size_toArray,List.length_cons,List.length_nil,Nat.reduceAdd,Nat.reduceSub,Array.replicate_succ,Array.replicate_zero,List.push_toArray,List.append_toArray,List.nil_append,List.cons_append]
  gi_wp2
  gi_loopw [3,4] (fun pl at_ wr=>∃ (pre:List LM.Ent) (kk p a:Nat),pl=.int .i64 (p:Int)∧at_=.int .i64 (a:Int)∧(LM.parse k 0 0 b.data.toList).1=pre ++ (LM.parse kk p a (b.data.toList.drop a)).1∧(LM.parse k 0 0 b.data.toList).2=(LM.parse kk p a (b.data.toList.drop a)).2∧b.size - a < kk∧p ≤ a∧a ≤ b.size + 5∧J pre wr∧B0 ≤ wr.heap.size)
    (fun _ at_ _=>b.size - (intOf at_).toNat)
  case atStart=>exact ⟨[],k,0,0,rfl,rfl,by simp,by simp,by omega,by omega,by omega,h0,hBW⟩
  case round =>
    obtain ⟨pre,kk,p,a,rfl,rfl,hL,hbad,hkk,hpa,ha5,hJs,hB0⟩:=hrel
    have hbx:=hbox _ _ hJs
    obtain ⟨e0,e1,ef⟩:=row2 hbx.row
    obtain ⟨kk,rfl⟩:∃ j,kk=j + 1:=⟨kk - 1,by omega⟩
    by_cases hlt:a < b.size
    · have hne:b.data.toList.drop a ≠ []:=by
        intro h; have:=congrArg List.length h; rw [List.length_drop,list_len] at this; simp at this; omega
      obtain ⟨S,hS⟩:∃ S,b.extract a b.size=S:=⟨_,rfl⟩
      have hSl:S.data.toList=b.data.toList.drop a:=by rw [← hS,ext_any,List.take_of_length_le (by rw [List.length_drop,list_len]; omega)]
      have hSz:S.size=b.size - a:=by rw [← hS,ext_size _ _ _ (Nat.le_refl _)]
      have hE:=fun W' hW'=>rdI_any S (by omega) (by omega) W' hW'
      rw [hSl] at hE
      clear hSl
      cases hr:LM.rdItem (b.data.toList.drop a) with
      | none =>
        rw [LM.parse_none kk p a hne hr] at hL hbad
        rw [hr] at hE
        have HE:Hid (∀ W',Wid W' → Calls Tryz.prog 120 #[.string S] W' fun e w'=>e=.panicked pch∧Below W'.heap.size W' w'):=hE
        have HX:Hid (Box b c bx wr):=hbx
        have HJ:Hid _:=hJs
        have HLL:Hid _:=hL
        have HBB:Hid _:=hbad
        clear hE hbx hJs hY hL hbad
        gi_wp2_with fail
        refine ⟨trivial,fun h=>(by cases h),(callsIn_wide.2 (HE.out _ HX.out.wid)).mono ?_⟩
        rintro e w1 ⟨rfl,hb1⟩
        refine ⟨rfl,Or.inr (Or.inr ⟨rfl,Or.inr ⟨HBB.out,?_⟩⟩)⟩
        have hq:=hJ _ _ _ HJ.out hb1
        rw [HLL.out]; simpa using hq
      | some x =>
        obtain ⟨⟨t,m,q⟩,sp⟩:=x
        rw [LM.parse_some kk p a hr] at hL hbad
        simp only at hL hbad
        obtain ⟨hsp1,hsp2⟩:=LM.rd_span hr
        rw [List.length_drop,list_len] at hsp2
        obtain ⟨T,hTT⟩:∃ T,strB t=T:=⟨_,rfl⟩
        rw [hr] at hE
        have HE:Hid (∀ W',Wid W' → Calls Tryz.prog 120 #[.string S] W' fun e w'=>e=.returned (.tuple #[.agg #[.string T,.int .i64 m,.bool q],.int .i64 (sp:Int)])∧Below W'.heap.size W' w'):=fun W' hW'=>by
          rw [← hTT]; exact hE W' hW'
        have HX:Hid (Box b c bx wr):=hbx
        have HJ:Hid _:=hJs
        have HLL:Hid _:=hL
        have HBB:Hid _:=hbad
        have HP:Hid (pre ++ [(⟨p,⟨t,m,q⟩,a,sp⟩:LM.Ent)] <+: (LM.parse k 0 0 b.data.toList).1):=⟨_,by rw [HLL.out,List.append_assoc]; rfl⟩
        clear hE hbx hJs hL hbad
        gi_wp2_with fail
        refine ⟨trivial,fun h=>(by cases h),(callsIn_wide.2 (HE.out _ HX.out.wid)).mono ?_⟩
        rintro e w1 ⟨rfl,hb1⟩
        have HB2:Hid (Below wr.heap.size wr (w1.alloc (.cells #[.string T,.int .i64 m,.bool q] 157))):=hb1.alloc hb1.size _
        obtain ⟨fn,tmps,assign,body,hy,hR⟩:=hY pre ⟨p,⟨t,m,q⟩,a,sp⟩ _ HP.out (hJ _ _ _ HJ.out HB2.out)
        simp only [encs,encE,hTT] at hy
        have hsz1:=hb1.size
        have hBw1:B0 ≤ w1.heap.size:=by omega
        clear hb1
        gi_wp2
        refine ⟨fun h=>(by cases h),hR.mono ?_⟩
        rintro e W3 (⟨rfl,hJ3,hkc,hz3⟩ | ⟨rfl,hJx3⟩ | ⟨rfl,hJp3⟩)
        · have HBS:Hid (∀ W',Calls Tryz.prog 121 #[.int .i64 (sp:Int)] W' fun e w'=>e=.returned (.int .i64 (LM.bsz sp:Nat))∧w'=W'):=fun W'=>bsz_any sp (by omega) (by omega) W'
          have hb5:=LM.bsz_le sp
          have hb1':=LM.bsz_pos sp
          have hw1:IntKind.i64.wrap ((sp:Int) + (LM.bsz sp:Nat))=((sp + LM.bsz sp:Nat):Int):=by rw [IntKind.wrap_i64]; omega
          have hw2:IntKind.i64.wrap ((a:Int) + ((sp + LM.bsz sp:Nat):Int))=((a + (sp + LM.bsz sp):Nat):Int):=by rw [IntKind.wrap_i64]; omega
          have HJ3:Hid _:=hJ3
          clear hJ3 hR hy hY
          gi_wp2
          refine ⟨trivial,fun h=>(by cases h),(callsIn_wide.2 (HBS.out _)).mono ?_⟩
          rintro e w4 ⟨rfl,hw4⟩
          have HW4:Hid (w4=W3):=hw4
          clear hw4
          gi_wp2
          go_roundw
          case rel =>
            refine ⟨pre ++ [⟨p,⟨t,m,q⟩,a,sp⟩],kk,p + 1,a + (sp + LM.bsz sp),rfl,rfl,?_,?_,by omega,by omega,by omega,by rw [HW4.out]; exact HJ3.out,?_⟩
            · rw [HLL.out,List.append_assoc,List.drop_drop]; rfl
            · rw [HBB.out,List.drop_drop]; rfl
            · rw [HW4.out]; have:=HB2.out.size; simp at hz3; omega
          case measure=>simp [intOf]; omega
        · gi_wp2
          refine bodyPost_ret (results_none rfl _ _ _) rfl ?_
          exact Or.inr (Or.inl ⟨⟨_,rfl⟩,_,HP.out,hJx3⟩)
        · exact ⟨rfl,Or.inr (Or.inr ⟨rfl,Or.inl hJp3⟩)⟩
    · have hd:b.data.toList.drop a=[]:=List.drop_eq_nil_of_le (by rw [list_len]; omega)
      rw [hd,LM.parse_nil] at hL hbad
      have HLL:Hid _:=hL
      have HBB:Hid _:=hbad
      clear hL hbad hY
      gi_wp2
      go_end0
      exact Or.inl ⟨⟨_,rfl⟩,HBB.out,by rw [HLL.out]; simpa using hJs⟩
end Go.Proofs.YtijambehfobopaaGreatDoor
