import Derived.Test.YtjnbjfjoejfmpaaGreatDoorWAS
import Derived.Deep.RegionLaw
import Derived.Deep.CutRange
namespace Go.Proofs.YtjnbjfjoejfmpaaGreatDoor
open Go.RowKit
set_option linter.unusedVariables false
set_option linter.unusedSimpArgs false
theorem grown_row {A B:World} {row:Option Nat} {base k:Nat} {o:Obj} (h:A.heap[k]?=some o) (hg:A.grownBy B row) (hr:∀ q,row=some q → base ≤ q) (hk:k < base):B.heap[k]?=some o:=
  (hg.block k (row_lt h) (fun e=>by have:=hr k e.symm; omega)).trans h
theorem own_ge {w:World} {base e size:Nat} {v:Value} {n:Nat} {xs:List Value} (h:w.ownsRow base e size v n xs):∀ q,v.ownBlock=some q → base ≤ q:=fun q hq=>(World.ownsRow.lt h q hq).1
theorem step_app_row {ok:Nat → Prop} {w:World} {ops:Array Oper} {o:Oper} {a:Act} {K:Act → World → Prop} {Q:Exit → Act → World → Prop} {E:Prop} (hg:o.guard=none) (s x:Operand)
    (hop:o.op=Op.call { callee:=Callee.builtin Builtin.append,args:=#[s,x],argTypes:=#[27,27] })
    (base:Nat) (v:Value) (n:Nat) (xs:List Value) (hs:a.eval s=v) (hown:w.ownsRow base 22 1 v n xs) (xv:Value) (ys:List Value) (hx:a.eval x=xv) (hy:DRow ok w xv ys) (h1:∀ u ∈ ys,u.oneCell'=true)
    (m:Nat) (hm:m=n + ys.length) (hl:m ≤ 4000000000000) (hb:base ≤ w.heap.size)
    (h:∀ v' w',w'.ownsRow base 22 1 v' m (xs ++ ys) → w.grownBy w' v.ownBlock → K (a.put o.dst v') w') :
    if Region.wanted o (yielded ops a.tmps)=true then Oper.wp Tryz.prog o a w K Q else E:=by
  have hw:Region.wanted o (yielded ops a.tmps)=true:=by simp [Region.wanted,hg]
  rw [if_pos hw]
  subst hm
  obtain ⟨i0,hi,hz0,hz1,hz2⟩:=info_parts infoR
  rcases hy with ⟨rfl,rfl⟩ | ⟨g,of,c,rfl,h2,h3,h4,h5⟩
  · have hrun:=run_append_owned_none (P:=Tryz.prog) (w:=w) base 27 o.type 22 i0 1 Tryz.underlying27 hi v n xs hown
    unfold Oper.wp
    simp [execOp,hop,resolve,invoke,builtin,hs,hx,hrun,Result.andThen]
    exact h v w (by simpa using hown) (World.grownBy.refl w _)
  · refine wp_append_own_wide w s x 27 hop base 22 i0 (.slice none 0 0) 1 24 Tryz.underlying27 hi hz0 hz1 hz2 rfl (by decide) v n xs hs hown ⟨g,of,none⟩ ys.length c ys hx (by simp) (fun j u hu=>by rw [Lib.add_plain]; exact h5 j u hu) h1 (by unfold maxLen; omega) (by omega) hb ?_
    intro v' w' h1 h2 h3; exact h v' w' h1 h2
theorem rl_lay {ok:Nat → Prop} {W:World} {us:List Value} {N:QM.NL} (h:Rows ok W us N) (hk:ok W.heap.size):RL ok (W.alloc (.cells us.toArray 22)) (.slice (some ⟨W.heap.size,0,none⟩) us.length us.length) N:=by
  have hx2:=one_alloc W (.cells us.toArray 22)
  refine ⟨us,Or.inr ⟨W.heap.size,0,us.length,rfl,Nat.le_refl _,hk,row_lt hx2,fun j u hu=>?_⟩,h.on ((Below.refl _ _).alloc (Nat.le_refl _) _)⟩
  rw [Nat.zero_add,cell_of_row _ _ _ _ _ _ hx2]; simpa using hu
theorem drow_str {ok:Nat → Prop} {W:World} {T:Nat} (s:ByteArray) (hk:ok W.heap.size):DRow ok (W.alloc (.cells #[.string s] T)) (.slice (some ⟨W.heap.size,0,none⟩) 1 1) (strV [s]):=by
  have hx2:=one_alloc W (.cells #[.string s] T)
  refine Or.inr ⟨W.heap.size,0,1,rfl,Nat.le_refl _,hk,row_lt hx2,fun j u hu=>?_⟩
  rw [Nat.zero_add,cell_of_row _ _ _ _ _ _ hx2]; simpa using hu
structure WS (E B:Nat) (lv:Value) (w W:World) (ov:Value) (xs:List Value):Prop where
  bel:Below w.heap.size w W
  sz:w.heap.size + 3 ≤ W.heap.size
  lr:W.heap[w.heap.size]?=some (.cells #[.int .i64 (E:Int),.int .i64 (B:Int),lv] 29)
  rr:W.heap[w.heap.size + 1]?=some (.cells #[.int .i64 0,.int .i64 0,.slice none 0 0] 29)
  or_:W.heap[w.heap.size + 1 + 1]?=some (.cells #[.int .i64 (E:Int),.int .i64 (B:Int),ov] 29)
  own:W.ownsRow (w.heap.size + 3) 22 1 ov xs.length xs
theorem WS.on {E B:Nat} {lv:Value} {w W W':World} {ov:Value} {xs:List Value} (h:WS E B lv w W ov xs) (hb:Below W.heap.size W W'):WS E B lv w W' ov xs:=
  ⟨bel_to h.bel hb (Nat.le_refl _),Nat.le_trans h.sz hb.size,keep_row h.lr hb,keep_row h.rr hb,keep_row h.or_ hb,own_on h.own hb⟩
theorem WS.grow {E B:Nat} {lv:Value} {w W W5:World} {ov:Value} {xs:List Value} (h:WS E B lv w W ov xs) (hg:W.grownBy W5 ov.ownBlock):W5.heap[w.heap.size + 1 + 1]?=some (.cells #[.int .i64 (E:Int),.int .i64 (B:Int),ov] 29):=
  grown_row h.or_ hg (own_ge h.own) (by omega)
theorem WS.put {E B:Nat} {lv:Value} {w W W5:World} {ov v5:Value} {xs zs:List Value} {m:Nat} (h:WS E B lv w W ov xs) (hg:W.grownBy W5 ov.ownBlock) (ho:W5.ownsRow (w.heap.size + 3) 22 1 v5 m zs) (hm:m=zs.length):WS E B lv w (W5.setCell ⟨w.heap.size + 1 + 1,2,none⟩ v5) v5 zs:=by
  subst hm
  have hon:=Only.set (Only.refl W5 (w.heap.size + 1 + 1)) 2 v5
  refine ⟨(h.bel.grown hg h.bel.size (fun q hq=>by have:=own_ge h.own q hq; omega)).trans (hon.below (by omega)),by rw [hon.size]; exact Nat.le_trans h.sz hg.size,(hon.other _ (by omega)).trans (grown_row h.lr hg (own_ge h.own) (by omega)),(hon.other _ (by omega)).trans (grown_row h.rr hg (own_ge h.own) (by omega)),heap_setCell_same _ _ _ _ _ _ (h.grow hg),own_keep ho (fun q hq _=>hon.other q (by omega))⟩
theorem nes_snoc (A:QM.NL) (x:List ByteArray):QM.nes (A ++ [x])=QM.nes A ++ QM.ne x:=by
  induction A with
  | nil=>rw [List.nil_append,QM.nes_cons]; simp [QM.nes]
  | cons y A ih=>rw [List.cons_append,QM.nes_cons,ih,QM.nes_cons,List.append_assoc]
section
variable {ok:Nat → Prop}
set_option maxHeartbeats 4000000 in
set_option maxRecDepth 100000 in
theorem rwith_any (E B:Nat) (v nv:Value) (N M:QM.NL) (a b:Nat) (ha:a ≤ N.length) (hb:b ≤ N.length) (hl:N.length ≤ 1000000) (hlm:M.length ≤ 1000000) (w:World) (hk:∀ k,w.heap.size ≤ k → ok k) (h:RL ok w v N) (hm:RL ok w nv M) :
    Calls Tryz.prog 76 #[rlV E B v,.int .i64 (a:Int),.int .i64 (b:Int),nv] w fun e w'=>∃ v',e=.returned (rlV E B v')∧RL ok w' v' (N.take a ++ (QM.nes M ++ N.drop b))∧Below w.heap.size w w':=by
  obtain ⟨us,h1,h2⟩:=h
  obtain ⟨ms,m1,m2⟩:=hm
  have hul:=h2.len
  have hml:=m2.len
  obtain ⟨P,c,hv⟩:=h1.form
  obtain ⟨PM,cm,hnv⟩:=m1.form
  subst hv hnv
  rw [hul] at h1 ⊢
  rw [hml] at m1 ⊢
  obtain ⟨P1,c1',hd1,hr1⟩:=h1.take und27 size22 a (by omega)
  obtain ⟨mb,hmb⟩:∃ mb,mb=us.length - b:=⟨_,rfl⟩
  obtain ⟨P2,c2',hd2,hr2⟩:=h1.drop und27 size22 b (by omega) mb hmb
  have HD1:Hid (DRow ok w (.slice P1 a c1') (us.take a)):=hd1
  have HD2:Hid (DRow ok w (.slice P2 mb c2') (us.drop b)):=hd2
  have HR1:Hid (Rows ok w (us.take a) (N.take a)):=h2.take a
  have HR2:Hid (Rows ok w (us.drop b) (N.drop b)):=h2.drop b
  have HLA:Hid ((us.take a).length=a):=by show _=_; simp; omega
  have HLB:Hid ((us.drop b).length=mb):=by show _=_; simp; omega
  have HO1:Hid (∀ u ∈ us.take a,u.oneCell'=true):=HR1.out.one
  have HO2:Hid (∀ u ∈ us.drop b,u.oneCell'=true):=HR2.out.one
  have HMB:Hid (mb ≤ 1000000):=by show _ ≤ _; omega
  generalize us.take a=A1 at *
  generalize us.drop b=A2 at *
  have HK:Hid _:=hk
  have HM:Hid (RL ok w (.slice PM M.length cm) M):=⟨ms,m1,m2⟩
  clear hd1 hd2 h1 h2 hul m1 m2 hml hmb hk
  obtain ⟨W3,hW3⟩:∃ W3,W3=((w.alloc (.cells #[.int .i64 (E:Int),.int .i64 (B:Int),.slice P N.length c] 29)).alloc (.cells #[.int .i64 0,.int .i64 0,.slice none 0 0] 29)).alloc (.cells #[.int .i64 (E:Int),.int .i64 (B:Int),.slice none 0 0] 29):=⟨_,rfl⟩
  have HZ3:Hid (W3.heap.size=w.heap.size + 3):=by show _=_; rw [hW3]; simp
  have HBW:Hid (Below w.heap.size w W3):=by show Below _ _ _; rw [hW3]; exact (((Below.refl _ w).alloc (Nat.le_refl _) _).alloc (by simp) _).alloc (by simp; omega) _
  have hl3:W3.heap[w.heap.size]?=some (.cells #[.int .i64 (E:Int),.int .i64 (B:Int),.slice P N.length c] 29):=by
    rw [hW3]; exact (three_rows (Below.refl _ _)).2.1
  have hr3:W3.heap[w.heap.size + 1]?=some (.cells #[.int .i64 0,.int .i64 0,.slice none 0 0] 29):=by
    rw [hW3]; exact (three_rows (Below.refl _ _)).2.2
  have ho3:W3.heap[w.heap.size + 1 + 1]?=some (.cells #[.int .i64 (E:Int),.int .i64 (B:Int),.slice none 0 0] 29):=by
    rw [hW3]
    have:=one_alloc ((w.alloc (.cells #[.int .i64 (E:Int),.int .i64 (B:Int),.slice P N.length c] 29)).alloc (.cells #[.int .i64 0,.int .i64 0,.slice none 0 0] 29)) (.cells #[.int .i64 (E:Int),.int .i64 (B:Int),.slice none 0 0] 29)
    simpa using this
  have HZ:Hid (w.heap.size + 3=W3.heap.size):=HZ3.out.symm
  have HS0:Hid (WS E B (.slice P N.length c) w W3 (.slice none 0 0) []):=⟨HBW.out,by have:=HZ3.out; omega,hl3,hr3,ho3,own_nil _ _ _⟩
  obtain ⟨c0,c1,c2,cf⟩:=row3 hl3
  obtain ⟨o0,o1,o2,of⟩:=row3 ho3
  have HS0d:Hid (WS E B (.slice P N.length c) w W3.drew (.slice none 0 0) []):=HS0.out.on (Below.refl _ _).drew
  have HD1W:Hid (DRow ok W3.drew (.slice P1 a c1') A1):=DRow.on (show DRow ok w (.slice P1 a c1') A1 from HD1.out) HBW.out.drew
  clear hl3 hr3 ho3
  go_enter Tryz.func76,Tryz.ntmps76
  go_upto_region 2 with fail
  rw [← hW3]
  clear hW3
  go_cut [22] from 16 to 53 (fun s22 wx=>∃ P5 k5,WS E B (.slice P N.length c) w wx (.slice P5 a k5) A1)
  case first =>
    go_region_law (refine step_app_row rfl (.tmp 17) (.tmp 21) rfl (w.heap.size + 3) (.slice none 0 0) 0 [] rfl HS0d.out.own _ A1 rfl HD1W.out HO1.out a (by rw [HLA.out]; omega) (by omega) (by have:=HZ.out; exact Nat.le_of_eq HZ.out) ?_; intro v5 w5 ho5 hg5; obtain ⟨P5,k5,hf5⟩:=own_form ho5; subst hf5; obtain ⟨z0,z1,z2,zf⟩:=row3 (HS0d.out.grow hg5))
    all_goals
      have HQ:Hid _:=HS0d.out.put hg5 ho5 (by rw [List.nil_append]; exact HLA.out.symm)
      clear ho5 hg5 z0 z1 z2 zf
      go_wp2
      go_meet
      exact ⟨_,_,HQ.out⟩
  case rest =>
    obtain ⟨P5,k5,hS5⟩:=hcut
    have HS5:Hid (WS E B (.slice P N.length c) w wc (.slice P5 a k5) A1):=hS5
    clear hS5 c0 c1 c2 cf o0 o1 o2 of
    go_wp2
    have HRA:Hid (Rows ok w A1 (N.take a)):=HR1.out
    go_loopw [10] (fun c10 wr=>∃ (i:Nat) (ov:Value) (xs:List Value),i ≤ M.length∧c10=.int .i64 (i:Int)∧WS E B (.slice P N.length c) w wr ov xs∧Rows ok w xs (N.take a ++ QM.nes (M.take i))∧xs.length ≤ a + i) (fun c10 _=>M.length - (intOf c10).toNat)
    case atStart=>exact ⟨0,_,A1,by omega,rfl,HS5.out,by simpa [QM.nes] using HRA.out,by rw [HLA.out]; omega⟩
    case round =>
      clear HS5 HS0 HS0d HD1W
      obtain ⟨i,ov,xs,hiM,rfl,hS,hR,hxl⟩:=hrel
      have HS:Hid (WS E B (.slice P N.length c) w wr ov xs):=hS
      have HR:Hid (Rows ok w xs (N.take a ++ QM.nes (M.take i))):=hR
      obtain ⟨OP,oc,hof⟩:=own_form hS.own
      subst hof
      obtain ⟨c0,c1,c2,cf⟩:=row3 hS.lr
      obtain ⟨o0,o1,o2,of⟩:=row3 hS.or_
      clear hS hR
      by_cases hlt:i < M.length
      · obtain ⟨g,o,c',u,e,hcell,hdr⟩:=HM.out.at_ hlt
        injection e with e1 e2 e3
        subst e1 e3
        obtain ⟨U,uc,hu⟩:=hdr.sform
        subst hu
        have y0:=cell_on hcell HS.out.bel
        have HDR:Hid (DRow ok w (.slice U M[i].length uc) (strV M[i])):=hdr
        have hi0:(0:Int) ≤ (i:Int):=by omega
        have hi1:(i:Int) < (M.length:Int):=by omega
        have hwi:IntKind.i64.wrap ((i:Int) + 1)=(i:Int) + 1:=by rw [IntKind.wrap_i64] <;> omega
        have HNS:Hid (QM.nes (M.take (i + 1))=QM.nes (M.take i) ++ QM.ne M[i]):=by show _=_; rw [takeN_snoc M i hlt,nes_snoc]
        generalize M[i]=X at *
        obtain ⟨LN,hLN⟩:∃ LN,X.length=LN:=⟨_,rfl⟩
        rw [hLN] at y0 HDR
        have HLN:Hid (X.length=LN):=hLN
        clear hcell hdr hLN e2
        by_cases hz:LN=0
        · have hz1:¬ ((0:Int) < (LN:Int)):=by omega
          go_wp2
          have hX:X=[]:=List.length_eq_zero_iff.1 (by rw [HLN.out]; exact hz)
          exact ⟨⟨i + 1,_,xs,hlt,by congr 1,HS.out,by rw [HNS.out,hX,QM.ne_nil,List.append_nil]; exact HR.out,by omega⟩,by simp [intOf]; omega⟩
        · have hz1:(0:Int) < (LN:Int):=by omega
          have HX:Hid (X ≠ []):=by
            intro e
            apply hz
            rw [← HLN.out,e]; rfl
          have HWA:Hid (WS E B (.slice P N.length c) w (wr.alloc (.cells #[.slice U LN uc] 22)).drew (.slice OP xs.length oc) xs):=HS.out.on (((Below.refl _ _).alloc (Nat.le_refl _) _).drew)
          have HI2:Hid (DRow (fun _=>True) (wr.alloc (.cells #[.slice U LN uc] 22)).drew (.slice (some ⟨wr.heap.size,0,none⟩) 1 1) [.slice U LN uc]):=DRow.on (show DRow (fun _=>True) (wr.alloc (.cells #[.slice U LN uc] 22)) (.slice (some ⟨wr.heap.size,0,none⟩) 1 1) [.slice U LN uc] from drow_one _ _ _) (Below.refl _ _).drew
          have hne1:w.heap.size + 1 + 1 ≠ wr.heap.size:=by have:=HS.out.sz; omega
          have hol:w.heap.size + 1 + 1 < wr.heap.size:=by have:=HS.out.sz; omega
          go_upto_region 7 with fail
          go_region_law (refine step_app_row rfl (.tmp 37) (.tmp 42) rfl (w.heap.size + 3) (.slice OP xs.length oc) xs.length xs rfl HWA.out.own _ [.slice U LN uc] rfl HI2.out (by intro u hu; simp at hu; subst hu; rfl) (xs.length + 1) rfl (by omega) HWA.out.sz ?_; intro v5 w5 ho5 hg5; obtain ⟨P9,k9,hf5⟩:=own_form ho5; subst hf5; obtain ⟨z0,z1,z2,zf⟩:=row3 (HWA.out.grow hg5))
          all_goals
            have HQ:Hid _:=HWA.out.put hg5 ho5 (by simp)
            clear ho5 hg5 z0 z1 z2 zf o0 o1 o2 of c0 c1 c2 cf y0
            go_wp2
            refine ⟨⟨i + 1,_,xs ++ [.slice U LN uc],hlt,by congr 1,HQ.out,?_,by simp; omega⟩,by simp [intOf]; omega⟩
            rw [HNS.out,QM.ne_some HX.out,← List.append_assoc]
            exact Rows.app HR.out ⟨HDR.out,trivial⟩
      · have hie:i=M.length:=by omega
        have hi1:¬ ((i:Int) < (M.length:Int)):=by omega
        subst hie
        have HRM:Hid (Rows ok w xs (N.take a ++ QM.nes M)):=by
          have:=HR.out
          rw [List.take_length] at this; exact this
        have HS0d:Hid (WS E B (.slice P N.length c) w wr.drew (.slice OP xs.length oc) xs):=HS.out.on (Below.refl _ _).drew
        have HD2W:Hid (DRow ok wr.drew (.slice P2 mb c2') A2):=DRow.on (show DRow ok w (.slice P2 mb c2') A2 from HD2.out) HS0d.out.bel
        go_upto_region 8 with fail
        go_cut [51] from 16 to 53 (fun s51 wx=>∃ P5 k5,WS E B (.slice P N.length c) w wx (.slice P5 (xs.length + mb) k5) (xs ++ A2))
        case first =>
          go_region_law (refine step_app_row rfl (.tmp 46) (.tmp 50) rfl (w.heap.size + 3) (.slice OP xs.length oc) xs.length xs rfl HS0d.out.own _ A2 rfl HD2W.out HO2.out (xs.length + mb) (by rw [HLB.out]) (by have:=HMB.out; omega) HS0d.out.sz ?_; intro v5 w5 ho5 hg5; obtain ⟨P9,k9,hf5⟩:=own_form ho5; subst hf5; obtain ⟨z0,z1,z2,zf⟩:=row3 (HS0d.out.grow hg5))
          all_goals
            have HQ:Hid _:=HS0d.out.put hg5 ho5 (by rw [List.length_append,HLB.out])
            clear ho5 hg5 z0 z1 z2 zf
            go_wp2
            go_meet
            exact ⟨_,_,HQ.out⟩
        case rest =>
          obtain ⟨P6,k6,hS6⟩:=hcut
          have HS6:Hid (WS E B (.slice P N.length c) w wc (.slice P6 (xs.length + mb) k6) (xs ++ A2)):=hS6
          clear c0 c1 c2 cf o0 o1 o2 of
          obtain ⟨o0,o1,o2,of⟩:=row3 hS6.or_
          obtain ⟨r0,r1,r2,rf⟩:=row3 hS6.rr
          have HG:Hid _:=heap_set3 wc (w.heap.size + 1) 29 _ _ _ (.int .i64 (E:Int)) (.int .i64 (B:Int)) (.slice P6 (xs.length + mb) k6) hS6.rr
          clear hS6
          go_wp2
          obtain ⟨g0,g1,g2,gf⟩:=row3 HG.out.1
          have hf:Fr wc (((wc.setCell ⟨w.heap.size + 1,0,none⟩ (.int .i64 (E:Int))).setCell ⟨w.heap.size + 1,1,none⟩ (.int .i64 (B:Int))).setCell ⟨w.heap.size + 1,2,none⟩ (.slice P6 (xs.length + mb) k6)) (fun k=>k=w.heap.size + 1):=⟨HG.out.2.os,HG.out.2.tape,HG.out.2.output,by rw [HG.out.2.size]; exact Nat.le_refl _,fun k _ hk=>HG.out.2.other k hk⟩
          refine bodyPost_ret (v:=rlV E B (.slice P6 (xs.length + mb) k6)) (by simp [results,Tryz.results76,go_sem,g0,g1,g2]) rfl ⟨_,rfl,?_,below_set3 HS6.out.bel (by omega) _ _ _⟩
          have hd:DRow (fun k=>ok k∧k ≠ w.heap.size + 1) wc (.slice P6 (xs.length + mb) k6) (xs ++ A2):=DRow.of_own HS6.out.own rfl (fun q hq=>⟨HK.out q (by omega),by omega⟩)
          have hb6:=below_set3 HS6.out.bel (g:=w.heap.size + 1) (by omega) (.int .i64 (E:Int)) (.int .i64 (B:Int)) (.slice P6 (xs.length + mb) k6)
          refine ⟨xs ++ A2,(hd.fr hf (fun k hk=>hk.2)).weak (fun k _ hk=>hk.1),?_⟩
          rw [← List.append_assoc]
          exact (Rows.app HRM.out HR2.out).on hb6
end
end Go.Proofs.YtjnbjfjoejfmpaaGreatDoor
