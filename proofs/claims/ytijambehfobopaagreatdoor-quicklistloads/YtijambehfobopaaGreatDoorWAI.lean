import Derived.Test.YtijambehfobopaaGreatDoorOne
import Derived.Deep.Cut
import Derived.Deep.CutRange
import Derived.Test.YtijambehfobopaaGreatDoorFwd
import Derived.RecoverIn
namespace Go.Proofs.YtijambehfobopaaGreatDoor
open Go.RowKit
set_option linter.unusedVariables false
theorem prow2 {w:World} {g T:Nat} {v0 v1:Value} (h:w.heap[g]?=some (.cells #[v0,v1] T)) :
    w.cell? ⟨g,0,none⟩=some v0∧w.cell? ⟨g,1,none⟩=some v1∧∀ j,w.frozen? ⟨g,j,none⟩=false:=by
  refine ⟨?_,?_,fun j=>frozen_of_row _ _ _ _ _ h⟩ <;> rw [cell_of_row _ _ _ _ _ _ h] <;> rfl
theorem conv_to (Z:ByteArray) (w:World):∃ cap W',(convert 9 107 (.string Z)).run Tryz.prog w=.ok (.slice (some ⟨w.heap.size,0,none⟩) Z.size cap) W'∧Below w.heap.size w W'∧W'.heap.size=w.heap.size + 1 ∧
    ∀ j (h:j < Z.size),W'.cell? ⟨w.heap.size,j,none⟩=some (.int .u8 (Z[j].toNat:Int)):=by
  refine ⟨_,_,run_bytes_of_string w 9 107 5 Z Tryz.underlying9 Tryz.underlying107 Tryz.underlying5,?_,?_,?_⟩
  · exact (below_dn (Below.refl _ w) 1).alloc (Nat.le_refl _) _
  · show (World.alloc w.drew _).heap.size=_; rw [World.size_alloc]; rfl
  · intro j h
    have h2:(World.alloc w.drew (.cells (bytesRow Z (grownCap w Z.size 0 5)) 5 ((bytesRow Z (grownCap w Z.size 0 5)).size,(bytesRow Z (grownCap w Z.size 0 5)).size + 1))).heap[w.heap.size]?=_:=one_alloc w.drew _
    simp only [World.cell?,h2]
    rw [if_neg (by simp)]; exact bytesRow_at Z _ j h
set_option maxHeartbeats 2000000 in
set_option maxRecDepth 100000 in
theorem one_ok (b:ByteArray) (c:Int) (t:List UInt8) (m:Int) (q:Bool) (a n:Nat) (nz:Int) (hnz:nz=(n:Int)) (hs:b.size ≤ 1073741824) (ha:a + n ≤ b.size) (hn1:1 ≤ n) (hn2:n ≤ 524293) (ht:t.length ≤ 524288)
    (hS:∀ W,Wid W → Calls Tryz.prog 122 #[.agg #[.string (strB t),.int .i64 m,.bool q]] W fun e w'=>e=.returned (.int .i64 nz)∧Below W.heap.size W w')
    (hok:LM.okEnt b.data.toList ⟨0,⟨t,m,q⟩,a,n⟩ ↔ (Vi.numberOf t=none∧(b.data.toList.drop (a + n)).take (LM.bsz n)=LM.back n)) (w:World) (hw:Lay w) :
    Calls Tryz.prog 108 #[.agg #[.string b,.int .i64 c],.agg #[.string (strB t),.int .i64 m,.bool q,.int .i64 (a:Int),.int .i64 nz]] w (oneP b w t m q a n):=by
  have HS:Hid _:=hS
  have HOK:Hid _:=hok
  have HNZ:Hid _:=hnz
  have hTs:(strB t).size=t.length:=strB_size t
  have hTl:(strB t).data.toList=t:=strB_list t
  generalize strB t=T at *
  obtain ⟨W1,hW1⟩:∃ W1,W1=(w.alloc (.cells #[.string b,.int .i64 c] 131)).alloc (.cells #[.string T,.int .i64 m,.bool q,.int .i64 (a:Int),.int .i64 nz] 159):=⟨_,rfl⟩
  have HB1:Hid (Below w.heap.size w W1):=by rw [hW1]; exact ((Below.refl _ w).alloc (Nat.le_refl _) _).alloc (by simp) _
  have HG:Hid (W1.heap[w.heap.size + 1]?=some (.cells #[.string T,.int .i64 m,.bool q,.int .i64 (a:Int),.int .i64 nz] 159)):=by
    rw [hW1]; have:=one_alloc (w.alloc (.cells #[.string b,.int .i64 c] 131)) (.cells #[.string T,.int .i64 m,.bool q,.int .i64 (a:Int),.int .i64 nz] 159)
    rwa [World.size_alloc] at this
  have HGP:Hid (W1.heap[w.heap.size]?=some (.cells #[.string b,.int .i64 c] 131)):=by
    rw [hW1]; exact keep_row (one_alloc w _) ((Below.refl _ _).alloc (Nat.le_refl _) _)
  obtain ⟨d0,d1,d2,d3,d4,df⟩:=row5 HG.out
  have HL1:Hid (Lay W1):=hw.on HB1.out
  have HLW:Hid (Wid W1.drew):=HL1.out.wid.on (Below.drew (Below.refl _ _))
  have hlt:=row_lt HG.out
  have hdn:(nz == nz)=true:=by simp
  have hde:decide ((t.length:Int) ≤ 524288)=true:=dec_t (by omega)
  have HTS:Hid _:=hTs
  have HTL:Hid _:=hTl
  clear hw hS hok hnz hTl
  go_enter Tryz.func108,Tryz.ntmps108
  go_wp2_with fail
  rw [← hW1]
  clear hW1
  go_cut [] from 9 to 22 (fun wx=>Below W1.heap.size W1 wx)
  case first =>
    first
    | go_region_with (first
      | (go_at_call 122; refine (show Calls _ _ _ _ _ from HS.out _ HLW.out).mono ?_; rintro e w2 ⟨rfl,hb2⟩; obtain ⟨k0,k1,k2,k3,k4,kf⟩:=row5 (keep_row (w:=W1.drew) HG.out hb2); have hb3:=bel_to (below_dn (Below.refl _ W1) 1) hb2 (Nat.le_refl _); clear hb2)
      | (go_at_call 105; refine (must_ok _).mono ?_; rintro e w3 ⟨rfl,rfl⟩))
    | fail
    all_goals (go_wp2_with fail; go_meet; exact hb3)
  case rest =>
  have hzz:=HNZ.out
  clear HNZ
  subst hzz
  have HC:Hid (Below W1.heap.size W1 wc):=hcut
  have HBC:Hid (Below w.heap.size w wc):=bel_to HB1.out hcut (Nat.le_refl _)
  have HGC:Hid _:=keep_row HG.out hcut
  have HGPC:Hid _:=keep_row HGP.out hcut
  have HLC:Hid (Lay wc):=HL1.out.on hcut
  obtain ⟨e0,e1,e2,e3,e4,ef⟩:=row5 HGC.out
  clear hcut d0 d1 d2 d3 d4 df
  go_wp2_with fail
  refine (numOf_any T (by rw [HTS.out]; omega) _ HLC.out.laid).mono ?_
  rintro e w2 ⟨rfl,hb2⟩
  have HB2:Hid (Below w.heap.size w w2):=bel_to HBC.out hb2 (Nat.le_refl _)
  have HG2:Hid _:=keep_row HGC.out hb2
  have HGP2:Hid _:=keep_row HGPC.out hb2
  have HL2:Hid (Lay w2):=HLC.out.on hb2
  obtain ⟨f0,f1,f2,f3,f4,ff⟩:=row5 HG2.out
  clear hb2 e0 e1 e2 e3 e4 ef
  rw [HTL.out]
  cases hnum:Vi.numberOf t with
  | some v =>
    rw [numT_some hnum]
    have HNO:Hid (¬ LM.okEnt b.data.toList ⟨0,⟨t,m,q⟩,a,n⟩):=fun h=>by rw [HOK.out,hnum] at h; cases h.1
    clear hnum
    go_wp2_with fail
    refine (must_bad _).mono ?_
    rintro e w3 ⟨rfl,rfl⟩
    exact ⟨rfl,oneP_no HNO.out HB2.out⟩
  | none =>
    rw [numT_none hnum]
    have HNN:Hid _:=hnum
    clear hnum
    go_wp2_with fail
    refine (must_ok _).mono ?_
    rintro e w3 ⟨rfl,rfl⟩
    go_wp2_with fail
    refine (bsz_any n hn1 (by omega) _).mono ?_
    rintro e w3 ⟨rfl,rfl⟩
    obtain ⟨p0,p1,pf⟩:=prow2 HGP2.out
    have hg1:=LM.bsz_pos n
    have hg3:=LM.bsz_le3 n (by omega)
    by_cases h4:a + n + LM.bsz n ≤ b.size
    · go_wp2_with fail
      rw [show (a:Int) + (n:Int)=((a + n:Nat):Int) by omega]
      refine (cut_ok b (a + n) (LM.bsz n) (by omega) (by omega) _).mono ?_
      rintro e w3 ⟨rfl,rfl⟩
      obtain ⟨Z,hZ⟩:∃ Z,strB ((b.data.toList.drop (a + n)).take (LM.bsz n))=Z:=⟨_,rfl⟩
      have hZs:Z.size=LM.bsz n:=by rw [← hZ,strB_size,List.length_take,List.length_drop,list_len]; omega
      have HZL:Hid (Z.data.toList=(b.data.toList.drop (a + n)).take (LM.bsz n)):=by show _=_; rw [← hZ,strB_list]
      rw [hZ]
      clear hZ
      obtain ⟨cap,W',hrun,hbel,hWsz,hcl⟩:=conv_to Z w3
      have HB4:Hid (Below w.heap.size w W'):=bel_to HB2.out hbel (Nat.le_refl _)
      have HG4:Hid _:=keep_row HG2.out hbel
      obtain ⟨g0,g1,g2,g3,g4,gf⟩:=row5 HG4.out
      have HCL:Hid _:=hcl
      have hw3:w.heap.size + 1 < w3.heap.size:=row_lt HG2.out
      clear hcl hbel f0 f1 f2 f3 f4 ff p0 p1 pf
      go_wp2
      go_loopw [47] (fun cn wr=>wr=W'∧∃ i:Nat,i ≤ LM.bsz n∧cn=.int .i64 (i:Int)∧∀ j (h:j < Z.size),j < i → Z[j]=LM.bbyte n (LM.bsz n) j) (fun cn _=>LM.bsz n - (intOf cn).toNat)
      case atStart=>exact ⟨rfl,0,by omega,rfl,fun j _ h=>absurd h (by omega)⟩
      case round =>
        obtain ⟨rfl,i,hi,rfl,hall⟩:=hrel
        by_cases hlt:i < LM.bsz n
        · have c0:=HCL.out i (by omega)
          have hzi:i < Z.size:=by omega
          obtain ⟨x,hx⟩:∃ x:Int,((Z[i]'hzi).toNat:Int)=x:=⟨_,rfl⟩
          rw [hx] at c0
          have HX:Hid _:=hx
          have HALL:Hid _:=hall
          obtain ⟨y,hy⟩:∃ y:Int,((LM.bbyte n (LM.bsz n) i).toNat:Int)=y:=⟨_,rfl⟩
          have HBB:Hid (∀ W,Calls Tryz.prog 125 #[.int .i64 n,.int .i64 (LM.bsz n:Nat),.int .i64 i] W fun e w'=>e=.returned (.int .u8 y)∧w'=W):=fun W=>by
            rw [← hy]; exact bb_any n (LM.bsz n) i (by omega) hg3 hlt W
          have HY:Hid _:=hy
          clear hx hall hy
          by_cases hxy:x=y
          · subst hxy
            go_wp2_with fail
            refine (HBB.out _).mono ?_
            rintro e w5 ⟨rfl,rfl⟩
            go_wp2_with fail
            refine (must_ok _).mono ?_
            rintro e w5 ⟨rfl,rfl⟩
            go_wp2
            go_roundw
            case rel =>
              refine ⟨trivial,i + 1,hlt,rfl,fun j hj hji=>?_⟩
              rcases Nat.lt_succ_iff_lt_or_eq.1 hji with h | rfl
              · exact HALL.out j hj h
              · apply UInt8.toNat_inj.1
                have:=HX.out.trans HY.out.symm
                omega
            case measure=>simp [intOf]; omega
          · have hxf:(x == y)=false:=by simpa using hxy
            have HNO:Hid (¬ LM.okEnt b.data.toList ⟨0,⟨t,m,q⟩,a,n⟩):=fun h=>by
              rw [HOK.out] at h
              have h2:=HZL.out.trans h.2
              have h3:=congrArg (fun l=>l[i]?) h2
              simp only [at_list Z i hzi,LM.back,List.getElem?_map,List.getElem?_range hlt,Option.map_some,Option.some.injEq] at h3
              apply hxy
              rw [← HX.out,← HY.out,h3]
            clear hxy
            go_wp2_with fail
            refine (HBB.out _).mono ?_
            rintro e w5 ⟨rfl,rfl⟩
            go_wp2_with fail
            refine (must_bad _).mono ?_
            rintro e w5 ⟨rfl,rfl⟩
            exact ⟨rfl,oneP_no HNO.out HB4.out⟩
        · have he:i=LM.bsz n:=by omega
          subst he
          have HOKK:Hid (LM.okEnt b.data.toList ⟨0,⟨t,m,q⟩,a,n⟩):=by
            show LM.okEnt _ _
            rw [HOK.out]
            refine ⟨HNN.out,?_⟩
            rw [← HZL.out]
            refine List.ext_getElem (by rw [LM.back_len,list_len,hZs]) (fun j h1 h2=>?_)
            have hjz:j < Z.size:=by rw [list_len] at h1; exact h1
            have h3:=hall j hjz (by omega)
            have h4:=at_list Z j hjz
            rw [List.getElem?_eq_getElem h1] at h4
            rw [Option.some.inj h4,h3]
            simp [LM.back]
          clear hall
          go_wp2
          go_end0
          exact ⟨Or.inl ⟨rfl,HOKK.out⟩,HB4.out⟩
    · have HNO:Hid (¬ LM.okEnt b.data.toList ⟨0,⟨t,m,q⟩,a,n⟩):=fun h=>by
        rw [HOK.out] at h
        have:=congrArg List.length h.2
        rw [LM.back_len,List.length_take,List.length_drop,list_len] at this
        omega
      go_wp2_with fail
      rw [show (a:Int) + (n:Int)=((a + n:Nat):Int) by omega]
      refine (cut_bad b (a + n) (LM.bsz n) (by omega) (by omega) (by omega) _).mono ?_
      rintro e w3 ⟨rfl,rfl⟩
      exact ⟨rfl,oneP_no HNO.out HB2.out⟩
end Go.Proofs.YtijambehfobopaaGreatDoor
namespace Go.Proofs.YtijambehfobopaaGreatDoor
open Go.RowKit
set_option linter.unusedVariables false
theorem dsz_le (t:List UInt8) (m:Int) (q:Bool) (h:t.length ≤ 524288):LM.dsize ⟨t,m,q⟩ ≤ 524293:=by
  cases q
  · show LM.thead t.length + t.length ≤ _; unfold LM.thead; (repeat' split) <;> omega
  · show LM.nsize m ≤ _; unfold LM.nsize; (repeat' split) <;> omega
theorem one_any (b:ByteArray) (c:Int) (e:LM.Ent) (hs:b.size ≤ 1073741824) (ha:e.begin < b.size) (hrd:LM.rdItem (b.data.toList.drop e.begin)=some (e.it,e.span)) (w:World) (hw:Lay w) :
    Calls Tryz.prog 108 #[.agg #[.string b,.int .i64 c],encE e.it e.begin e.span] w (oneP b w e.it.txt e.it.num e.it.isN e.begin e.span):=by
  obtain ⟨p,⟨t,m,q⟩,a,n⟩:=e
  simp only at ha hrd ⊢
  have hk:=LM.rd_kind hrd
  have hsp:=LM.rd_span hrd
  rw [List.length_drop,list_len] at hk hsp
  have hS:∀ W,Wid W → Calls Tryz.prog 122 #[.agg #[.string (strB t),.int .i64 m,.bool q]] W fun e w'=>e=.returned (.int .i64 (LM.dsize ⟨t,m,q⟩:Nat))∧Below W.heap.size W w':=fun W hW=>size_any ⟨t,m,q⟩ _ hk (by omega) W hW
  have ht:t.length ≤ 1073741824:=by
    rcases hk with ⟨_,h2,_⟩ | ⟨_,_,h2⟩
    · simp only at h2; rw [h2]; simp
    · simp only at h2; omega
  by_cases hD:LM.dsize ⟨t,m,q⟩=n∧t.length ≤ 524288
  · obtain ⟨h1,h2⟩:=hD
    rw [h1] at hS
    refine one_ok b c t m q a n n rfl hs (by omega) hsp.1 ?_ h2 hS ?_ w hw
    · rw [← h1]; exact dsz_le t m q h2
    · constructor
      · intro h; exact ⟨h.2.1,h.2.2⟩
      · intro h; exact ⟨⟨h1,h2⟩,h.1,h.2⟩
  · refine one_bad1 b c t m q a n (LM.dsize ⟨t,m,q⟩:Nat) (n:Int) hs ha ht hS (fun h=>hD h.1) ?_ w hw
    rintro ⟨h1,h2⟩
    exact hD ⟨by omega,h2⟩
end Go.Proofs.YtijambehfobopaaGreatDoor
namespace Go.Proofs.YtijambehfobopaaGreatDoor
open Go.RowKit
set_option linter.unusedVariables false
attribute [local go_sem] Oper.semAt_some
theorem row1 {w:World} {g T:Nat} {v0:Value} (h:w.heap[g]?=some (.cells #[v0] T)):w.cell? ⟨g,0,none⟩=some v0∧∀ j,w.frozen? ⟨g,j,none⟩=false:=by
  refine ⟨?_,fun j=>frozen_of_row _ _ _ _ _ h⟩ <;> rw [cell_of_row _ _ _ _ _ _ h] <;> rfl
def spoilt (W:World) (L E:Nat):World:=((W.setCell ⟨L,0,none⟩ (.string ⟨#[]⟩)).setCell ⟨L,1,none⟩ (.int .i64 0)).setCell ⟨E,0,none⟩ (.int .i64 60)
theorem catch_p (n L E:Nat) (b:ByteArray) (c x:Int) (w:World) (hL:w.heap[L]?=some (.cells #[.string b,.int .i64 c] 131)) (hE:w.heap[E]?=some (.cells #[.int .i64 x] 24)) :
    CallsDIn Fence.wide n Tryz.prog 104 #[.pointer (some ⟨L,0,none⟩),.pointer (some ⟨E,0,none⟩)] (.panicking pch) w fun e u' w' =>
      e=.returned (.tuple #[])∧settle u'=.returning∧w'=spoilt w L E:=by
  obtain ⟨l0,l1,lf⟩:=prow2 hL
  obtain ⟨e0,ef⟩:=row1 hE
  have hne:L ≠ E:=by rintro rfl; rw [hL] at hE; cases hE
  refine callsDIn_of_wpSIn Tryz.func104 rfl trivial fun c₀ cs hu=>?_
  apply wpSIn_seq
  apply wpSIn_region
  simp [wpOpsSIn,go_sem,recoverD,hu,Tryz.ntmps104,Exit.thenS,pch]
  refine wpSIn_cond (t:=true) (by simp [Act.eval,Array.replicate]) ?_
  simp only [if_true]
  refine wpSIn_of_wpIn rfl ?_
  have hst:(#[Value.pointer (some ⟨L,0,none⟩),Value.pointer (some ⟨E,0,none⟩)] ++ ((Array.replicate 3 undef).setIfInBounds 0 (Value.iface 24 (Value.int IntKind.i64 60))).setIfInBounds 1 (Value.bool true))=#[Value.pointer (some ⟨L,0,none⟩),Value.pointer (some ⟨E,0,none⟩),Value.iface 24 (Value.int IntKind.i64 60),Value.bool true,undef]:=by rfl
  rw [hst]
  clear hst
  gi_wp2
  refine ⟨rfl,_,rfl,.tuple #[],?_,rfl,rfl,rfl⟩
  exact results_none rfl _ _ _
theorem catch_i (n L E:Nat) (w:World) :
    CallsDIn Fence.wide n Tryz.prog 104 #[.pointer (some ⟨L,0,none⟩),.pointer (some ⟨E,0,none⟩)] .returning w fun e u' w' =>
      e=.returned (.tuple #[])∧u'=.returning∧w'=w:=by
  refine callsDIn_of_wpSIn Tryz.func104 rfl trivial fun c₀ cs hu=>?_
  apply wpSIn_seq
  apply wpSIn_region
  simp [wpOpsSIn,go_sem,recoverD,hu,Tryz.ntmps104,Exit.thenS]
  refine wpSIn_cond (t:=false) (by simp [Act.eval,Array.replicate]) ?_
  simp only [Bool.false_eq_true,if_false]
  refine wpSIn_of_wpIn rfl (wpIn_skip ?_)
  cases c₀
  simp_all [bodyPostS,results,Tryz.results104]
end Go.Proofs.YtijambehfobopaaGreatDoor
namespace Go.Proofs.YtijambehfobopaaGreatDoor
open Go.RowKit
set_option linter.unusedVariables false
attribute [local go_sem] Oper.semAt_some
def rdP (p:ByteArray) (w0:World) (e:Ending) (W:World):Prop:=
  ((∃ l,LM.Pk p.data.toList l∧e=.returned (.tuple #[.agg #[.string (strB (LM.bodyOf l)),.int .i64 (l.length:Int)],.int .i64 0])) ∨
    ((∀ l,¬ LM.Pk p.data.toList l)∧e=.returned (.tuple #[.agg #[.string ⟨#[]⟩,.int .i64 0],.int .i64 60])))∧Below w0.heap.size w0 W
theorem res_read {W:World} {L E:Nat} {b:ByteArray} {c x:Int} {tmps:Array Value} (h2:tmps[2]?=some (.pointer (some ⟨L,0,none⟩))) (h3:tmps[3]?=some (.pointer (some ⟨E,0,none⟩)))
    (hL:W.heap[L]?=some (.cells #[.string b,.int .i64 c] 131)) (hE:W.heap[E]?=some (.cells #[.int .i64 x] 24)) :
    (results Tryz.f88 tmps).run Tryz.prog W=.ok (.tuple #[.agg #[.string b,.int .i64 c],.int .i64 x]) W:=by
  obtain ⟨l0,l1,lf⟩:=prow2 hL
  obtain ⟨e0,ef⟩:=row1 hE
  simp [results,Tryz.results88,go_sem,l0,l1,e0,h2,h3]
def dfr (L E:Nat):Deferred:={ target:=.fn (.func 104) #[.pointer (some ⟨L,0,none⟩),.pointer (some ⟨E,0,none⟩)],args:=#[] }
theorem leave_bad {n:Nat} {p:ByteArray} {w0 W:World} {L E:Nat} {b:ByteArray} {c x:Int} {tmps:Array Value} (h2:tmps[2]?=some (.pointer (some ⟨L,0,none⟩))) (h3:tmps[3]?=some (.pointer (some ⟨E,0,none⟩)))
    (hL:W.heap[L]?=some (.cells #[.string b,.int .i64 c] 131)) (hE:W.heap[E]?=some (.cells #[.int .i64 x] 24)) (hbl:w0.heap.size ≤ L) (hbe:w0.heap.size ≤ E) (hb:Below w0.heap.size w0 W)
    (hno:∀ l,¬ LM.Pk p.data.toList l):LeavesInM Fence.wide n Tryz.prog Tryz.f88 tmps (rdP p w0) [dfr L E] (.panicking pch) W:=by
  have hne:E ≠ L:=by rintro rfl; rw [hL] at hE; cases hE
  refine ⟨by simp,Or.inr ⟨(fun h=>(by cases h)),_,_,104,_,rfl,(by simp [dfr,go_sem,invoke]),fun _ _=>trivial,(catch_p _ L E b c x W hL hE).mono ?_⟩⟩
  rintro e u' w' ⟨rfl,hu,rfl⟩
  show LeavesInM _ _ _ _ _ _ [] (settle u') _
  rw [hu]
  have hL2:(spoilt W L E).heap[L]?=some (.cells #[.string ⟨#[]⟩,.int .i64 0] 131):=by
    unfold spoilt
    rw [heap_setCell_other _ _ _ _ hne.symm,heap_setCell_same _ _ _ _ _ _ (heap_setCell_same _ _ _ _ _ _ hL)]; rfl
  have hE2:(spoilt W L E).heap[E]?=some (.cells #[.int .i64 60] 24):=by
    unfold spoilt
    rw [heap_setCell_same _ _ _ _ _ _ ((heap_setCell_other _ _ _ _ hne).trans ((heap_setCell_other _ _ _ _ hne).trans hE))]; rfl
  refine ⟨_,res_read h2 h3 hL2 hE2,Or.inr ⟨hno,rfl⟩,?_⟩
  unfold spoilt
  exact ((hb.setCell (p:=⟨L,0,none⟩) hbl _).setCell (p:=⟨L,1,none⟩) hbl _).setCell (p:=⟨E,0,none⟩) hbe _
def mrk (D:Nat):Deferred:={ target:=.collected D,args:=#[] }
theorem put_keep {W:World} {k D:Nat} {o o':Obj} (h:W.heap[k]?=some o) (hne:k ≠ D):(W.putObj D o').heap[k]?=some o:=(World.putObj_heap_other hne).trans h
theorem put_below {w0 W:World} {D:Nat} {o':Obj} (hb:Below w0.heap.size w0 W) (hD:w0.heap.size ≤ D):Below w0.heap.size w0 (W.putObj D o'):=
  hb.trans ⟨rfl,rfl,rfl,by simp,fun k hk=>World.putObj_heap_other (by omega)⟩
theorem leave_bad_m {n D:Nat} {p:ByteArray} {w0 W:World} {L E:Nat} {b:ByteArray} {c x:Int} {tmps:Array Value} (hD:W.heap[D]?=some (.deferred (some []))) (hD0:w0.heap.size ≤ D) (h2:tmps[2]?=some (.pointer (some ⟨L,0,none⟩))) (h3:tmps[3]?=some (.pointer (some ⟨E,0,none⟩)))
    (hL:W.heap[L]?=some (.cells #[.string b,.int .i64 c] 131)) (hE:W.heap[E]?=some (.cells #[.int .i64 x] 24)) (hbl:w0.heap.size ≤ L) (hbe:w0.heap.size ≤ E) (hb:Below w0.heap.size w0 W)
    (hno:∀ l,¬ LM.Pk p.data.toList l):LeavesInM Fence.wide n Tryz.prog Tryz.f88 tmps (rdP p w0) [mrk D,dfr L E] (.panicking pch) W:=by
  have h1:L ≠ D:=by rintro rfl; rw [hL] at hD; cases hD
  have h1':E ≠ D:=by rintro rfl; rw [hE] at hD; cases hD
  exact ⟨by simp,.inl ⟨_,_,rfl,run_takeDeferred hD,leave_bad h2 h3 (put_keep hL h1) (put_keep hE h1') hbl hbe (put_below hb hD0) hno⟩⟩
theorem leave_ok_m {n D:Nat} {p:ByteArray} {w0 W:World} {L E:Nat} {l:List LM.Item} {tmps:Array Value} (hD:W.heap[D]?=some (.deferred (some []))) (hD0:w0.heap.size ≤ D) (h2:tmps[2]?=some (.pointer (some ⟨L,0,none⟩))) (h3:tmps[3]?=some (.pointer (some ⟨E,0,none⟩)))
    (hL:W.heap[L]?=some (.cells #[.string (strB (LM.bodyOf l)),.int .i64 (l.length:Int)] 131)) (hE:W.heap[E]?=some (.cells #[.int .i64 0] 24)) (hb:Below w0.heap.size w0 W)
    (hpk:LM.Pk p.data.toList l):LeavesInM Fence.wide n Tryz.prog Tryz.f88 tmps (rdP p w0) [mrk D,dfr L E] .returning W:=by
  have h1:L ≠ D:=by rintro rfl; rw [hL] at hD; cases hD
  have h1':E ≠ D:=by rintro rfl; rw [hE] at hD; cases hD
  refine ⟨by simp,.inl ⟨_,_,rfl,run_takeDeferred hD,?_⟩⟩
  refine ⟨by simp,Or.inr ⟨(fun h=>(by cases h)),_,_,104,_,rfl,(by simp [dfr,go_sem,invoke]),fun _ _=>trivial,(catch_i _ L E _).mono ?_⟩⟩
  rintro e u' w' ⟨rfl,rfl,rfl⟩
  exact ⟨_,res_read h2 h3 (put_keep hL h1) (put_keep hE h1'),Or.inl ⟨l,hpk,rfl⟩,put_below hb hD0⟩
end Go.Proofs.YtijambehfobopaaGreatDoor
