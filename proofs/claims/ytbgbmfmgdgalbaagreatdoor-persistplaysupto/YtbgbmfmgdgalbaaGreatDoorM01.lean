import Derived.Test.YtbgbmfmgdgalbaaGreatDoorM00
import Derived.Deep.MidRow
import Derived.Deep.Cut
namespace Go.Proofs.YtbgbmfmgdgalbaaGreatDoor
open Go.RowKit
set_option linter.unusedVariables false
set_option linter.unusedSimpArgs false
theorem boundL_cons (n:ByteArray) (f:Int) (dn:Bool) (x:Sl) (d:List Sl):boundL n f dn (x :: d)=((boundL n f (dn || (!dn && ltB n x.1)) d).1,(if (!dn && ltB n x.1)=true then [(n,f)] else []) ++ (if x.1=n then [] else [x]) ++ (boundL n f (dn || (!dn && ltB n x.1)) d).2):=rfl
theorem boundL_len (n:ByteArray) (f:Int):∀ (d:List Sl) (dn:Bool),(boundL n f dn d).2.length + (if (boundL n f dn d).1=true then 0 else 1) ≤ d.length + (if dn=true then 0 else 1)
  | [],dn=>by show ([]:List Sl).length + _ ≤ _; simp [boundL]; exact Nat.le_refl _
  | x :: d,dn=>by
    rw [boundL_cons]
    have:=boundL_len n f d (dn || (!dn && ltB n x.1))
    cases dn <;> cases h:ltB n x.1 <;> simp [h] at this ⊢ <;> split <;> simp <;> omega
theorem boundM_len (d:List Sl) (n:ByteArray) (f:Int):(boundM d n f).length ≤ d.length + 1:=by
  unfold boundM
  have:=boundL_len n f d (decide (f < 0))
  simp only [List.length_append]
  split <;> split at this <;> simp_all <;> (try split at this) <;> omega
theorem cell_onB {B:Nat} {w w':World} {g j:Nat} {v:Value} (h:w.cell? ⟨g,j,none⟩=some v) (hg:g < B) (hb:Below B w w'):w'.cell? ⟨g,j,none⟩=some v:=by
  rw [← h]
  unfold World.cell?
  rw [hb.block g hg]
def BndAt (d:List Sl) (n:ByteArray) (f:Int) (i:Nat) (dn:Bool) (xs:List Sl):Prop:=
  boundL n f (decide (f < 0)) d=((boundL n f dn (d.drop i)).1,xs ++ (boundL n f dn (d.drop i)).2)∧xs.length ≤ 2 * i
theorem BndAt.step {d:List Sl} {n:ByteArray} {f:Int} {i:Nat} {dn:Bool} {xs:List Sl} (h:BndAt d n f i dn xs) (hi:i < d.length) :
    BndAt d n f (i + 1) (dn || (!dn && ltB n d[i].1)) (xs ++ (if (!dn && ltB n d[i].1)=true then [(n,f)] else []) ++ (if d[i].1=n then [] else [d[i]])):=by
  obtain ⟨h1,h2⟩:=h
  rw [List.drop_eq_getElem_cons hi,boundL_cons] at h1
  refine ⟨?_,?_⟩
  · rw [h1]; simp only [List.append_assoc]
  · simp only [List.length_append]
    split <;> split <;> simp <;> omega
set_option maxHeartbeats 2000000 in
theorem bound_any (v:Value) (d:List Sl) (hd:d.length ≤ 1099511627776) (n:ByteArray) (f:Int) (w:World) (h:KR slE w v d):Calls Tryz.prog 161 #[v,.string n,.int .i64 f] w fun e w'=>∃ v',e=.returned v'∧w'.ownsRow w.heap.size slE.T slE.k v' (boundM d n f).length (slE.fl (boundM d n f))∧Below w.heap.size w w':=by
  obtain ⟨P,c,rfl⟩:=h.form
  have H:Hid (KR slE w (.slice P d.length c) d):=h
  clear h
  have HO:Hid (w.ownsRow w.heap.size slE.T slE.k (.slice none 0 0) 0 (slE.fl [])):=⟨rfl,Or.inl ⟨rfl,rfl⟩⟩
  have HB0:Hid (BndAt d n f 0 (decide (f < 0)) []):=⟨rfl,Nat.le_refl _⟩
  obtain ⟨dn0,hdn0⟩:∃ b,decide (f < 0)=b:=⟨_,rfl⟩
  rw [hdn0] at HB0
  have HDN:Hid (decide (f < 0)=dn0):=hdn0
  go_enter Tryz.func161,Tryz.ntmps161
  go_wp2
  go_loopw [7,8,9] (fun co cd ci wr=>∃ (i:Nat) (dn:Bool) (xs:List Sl) (Pv:Option Addr) (cv:Nat),i ≤ d.length∧ci=.int .i64 (i:Int)∧cd=.bool dn∧co=.slice Pv xs.length cv∧BndAt d n f i dn xs∧wr.ownsRow w.heap.size slE.T slE.k (.slice Pv xs.length cv) xs.length (slE.fl xs)∧Below w.heap.size w wr) (fun _ _ ci _=>d.length - (intOf ci).toNat)
  case atStart=>exact ⟨0,dn0,[],none,0,Nat.zero_le _,rfl,rfl,rfl,HB0.out,HO.out,Below.refl _ _⟩
  case round =>
    obtain ⟨i,dn,xs,Pv,cv,hi,rfl,rfl,rfl,hbn,hown,hbw⟩:=hrel
    have HLN:Hid (xs.length ≤ 2 * d.length∧d.length ≤ 1099511627776):=⟨by have:=hbn.2; omega,hd⟩
    by_cases hlt:i < d.length
    · have hst:=hbn.step hlt
      obtain ⟨g,o,c',he,hc⟩:=H.out.cell slOk hlt
      injection he with he1 _ he2
      subst he1
      obtain ⟨X,hX⟩:∃ X,d[i].1=X:=⟨_,rfl⟩
      obtain ⟨Y,hY⟩:∃ Y,d[i].2=Y:=⟨_,rfl⟩
      have hxy:d[i]=(X,Y):=Prod.ext hX hY
      rw [hxy] at hst hc
      have c0:wr.cell? ⟨g,o + i * 2,none⟩=some (.string X):=cell_on (hc 0 _ rfl) hbw
      have c1:wr.cell? ⟨g,o + i * 2 + 1,none⟩=some (.int .i64 Y):=cell_on (hc 1 _ rfl) hbw
      have HC0:Hid (g < w.heap.size):=lt_of_cell (hc 0 _ rfl)
      have hz0:(0:Int) ≤ (i:Int):=by omega
      have hz1:(i:Int) < (d.length:Int):=by omega
      have hiw:IntKind.i64.wrap ((i:Int) + 1)=(i:Int) + 1:=by rw [IntKind.wrap_i64] <;> omega
      have HI:Hid (i + 1 ≤ d.length):=hlt
      have HIL:Hid (i < d.length):=hlt
      have HOW:Hid (wr.ownsRow w.heap.size slE.T slE.k (.slice Pv xs.length cv) xs.length (slE.fl xs)):=hown
      have HBW:Hid (Below w.heap.size w wr):=hbw
      clear hbn hown hbw hc he2 hX hY hxy hlt
      cases dn with
      | true =>
        by_cases hx:X=n
        · have hxt:(X.toList == n.toList)=true:=str_same (by rw [hx])
          have HST:Hid (BndAt d n f (i + 1) true xs):=by show BndAt d n f (i + 1) true xs; simpa [hx] using hst
          clear hst hx
          go_wp2
          go_roundw
          case rel=>exact ⟨i + 1,_,xs,Pv,cv,HI.out,rfl,rfl,rfl,HST.out,HOW.out,HBW.out⟩
          case measure=>have:=HI.out; simp [intOf]; omega
        · have hxf:(X.toList == n.toList)=false:=str_other (r_ba_ne hx)
          have HST:Hid (BndAt d n f (i + 1) true (xs ++ [(X,Y)])):=by show BndAt d n f (i + 1) true (xs ++ [(X,Y)]); simpa [hx] using hst
          clear hst hx
          go_wp2_with (at_builtin; go_must (refine wpList_app1 slOk #[.string X,.int .i64 Y] (X,Y) rfl rfl _ _ rfl w.heap.size _ xs _ rfl rfl HOW.out rfl ?h1b1 ?h1b2 ?h1b3 ?_))
          case h1b1=>unfold maxLen; (try simp only [List.length_append,List.length_cons,List.length_nil]); have:=HLN.out; omega
          case h1b2=>show _ * 24 ≤ _; (try simp only [List.length_append,List.length_cons,List.length_nil]); have:=HLN.out; omega
          case h1b3=>exact HBW.out.size
          intro vb wb hob hbb
          have HWB:Hid (Below w.heap.size w wb):=HBW.out.trans hbb
          obtain ⟨Pb,kb,hkb⟩:=own_form hob
          subst hkb
          have HOB:Hid (wb.ownsRow w.heap.size slE.T slE.k (.slice Pb (xs.length + 1) kb) (xs.length + 1) (slE.fl (xs ++ [(X,Y)]))):=hob
          clear hob hbb
          go_wp2
          go_roundw
          case rel=>exact ⟨i + 1,_,xs ++ [(X,Y)],Pb,kb,HI.out,rfl,rfl,by simp,HST.out,by simpa using HOB.out,HWB.out⟩
          case measure=>have:=HI.out; simp [intOf]; omega
      | false =>
        cases hl:ltB n X with
        | true =>
          have hx:X ≠ n:=fun e=>by rw [e,ltB_irr] at hl; cases hl
          have hxf:(X.toList == n.toList)=false:=str_other (r_ba_ne hx)
          have HST:Hid (BndAt d n f (i + 1) true (xs ++ [(n,f),(X,Y)])):=by show BndAt d n f (i + 1) true (xs ++ [(n,f),(X,Y)]); simpa [hx,hl] using hst
          have hll:Op.bytesLess X.toList n.toList=false:=ltB_asym hl
          clear hst hx hl
          go_wp2_with (at_builtin; go_must (refine wpList_app1 slOk #[.string n,.int .i64 f] (n,f) rfl rfl _ _ rfl w.heap.size _ xs _ rfl rfl HOW.out rfl ?h2a1 ?h2a2 ?h2a3 ?_))
          case h2a1=>unfold maxLen; have:=HLN.out; omega
          case h2a2=>show _ * 24 ≤ _; have:=HLN.out; omega
          case h2a3=>exact HBW.out.size
          intro va wa hoa hba
          have HWA:Hid (Below w.heap.size w wa):=HBW.out.trans hba
          obtain ⟨Pa,ka,hka⟩:=own_form hoa
          subst hka
          have HOA:Hid (wa.ownsRow w.heap.size slE.T slE.k (.slice Pa (xs.length + 1) ka) (xs.length + 1) (slE.fl (xs ++ [(n,f)]))):=hoa
          have d0:=cell_onB c0 HC0.out hba
          have d1:=cell_onB c1 HC0.out hba
          clear hoa hba c0 c1
          go_wp2_with (at_builtin; go_must (refine wpList_app1 slOk #[.string X,.int .i64 Y] (X,Y) rfl rfl _ _ rfl w.heap.size _ (xs ++ [(n,f)]) (xs.length + 1) (by simp) rfl HOA.out rfl ?h3b1 ?h3b2 ?h3b3 ?_))
          case h3b1=>unfold maxLen; (try simp only [List.length_append,List.length_cons,List.length_nil]); have:=HLN.out; omega
          case h3b2=>show _ * 24 ≤ _; (try simp only [List.length_append,List.length_cons,List.length_nil]); have:=HLN.out; omega
          case h3b3=>exact HWA.out.size
          intro vb wb hob hbb
          have HWB:Hid (Below w.heap.size w wb):=HWA.out.trans hbb
          obtain ⟨Pb,kb,hkb⟩:=own_form hob
          subst hkb
          have HOB:Hid (wb.ownsRow w.heap.size slE.T slE.k (.slice Pb (xs.length + 1 + 1) kb) (xs.length + 1 + 1) (slE.fl (xs ++ [(n,f),(X,Y)]))):=hob
          clear hob hbb
          go_wp2
          go_roundw
          case rel=>exact ⟨i + 1,_,xs ++ [(n,f),(X,Y)],Pb,kb,HI.out,rfl,rfl,by simp,HST.out,by simpa using HOB.out,HWB.out⟩
          case measure=>have:=HI.out; simp [intOf]; omega
        | false =>
          by_cases hx:X=n
          · have hll:Op.bytesLess X.toList n.toList=false:=by rw [hx]; exact ltB_irr n
            have hxt:(X.toList == n.toList)=true:=str_same (by rw [hx])
            have HST:Hid (BndAt d n f (i + 1) false xs):=by rw [hl] at hst; show BndAt d n f (i + 1) false xs; simpa [hx] using hst
            clear hst hx hl
            go_wp2
            go_roundw
            case rel=>exact ⟨i + 1,_,xs,Pv,cv,HI.out,rfl,rfl,rfl,HST.out,HOW.out,HBW.out⟩
            case measure=>have:=HI.out; simp [intOf]; omega
          · have hll:Op.bytesLess X.toList n.toList=true:=by
              rcases h2:ltB X n with _ | _
              · exact absurd (ltB_tri h2 hl) hx
              · exact h2
            have hxf:(X.toList == n.toList)=false:=str_other (r_ba_ne hx)
            have HST:Hid (BndAt d n f (i + 1) false (xs ++ [(X,Y)])):=by rw [hl] at hst; show BndAt d n f (i + 1) false (xs ++ [(X,Y)]); simpa [hx] using hst
            clear hst hx hl
            go_wp2_with (at_builtin; go_must (refine wpList_app1 slOk #[.string X,.int .i64 Y] (X,Y) rfl rfl _ _ rfl w.heap.size _ xs _ rfl rfl HOW.out rfl ?h4b1 ?h4b2 ?h4b3 ?_))
            case h4b1=>unfold maxLen; (try simp only [List.length_append,List.length_cons,List.length_nil]); have:=HLN.out; omega
            case h4b2=>show _ * 24 ≤ _; (try simp only [List.length_append,List.length_cons,List.length_nil]); have:=HLN.out; omega
            case h4b3=>exact HBW.out.size
            intro vb wb hob hbb
            have HWB:Hid (Below w.heap.size w wb):=HBW.out.trans hbb
            obtain ⟨Pb,kb,hkb⟩:=own_form hob
            subst hkb
            have HOB:Hid (wb.ownsRow w.heap.size slE.T slE.k (.slice Pb (xs.length + 1) kb) (xs.length + 1) (slE.fl (xs ++ [(X,Y)]))):=hob
            clear hob hbb
            go_wp2
            go_roundw
            case rel=>exact ⟨i + 1,_,xs ++ [(X,Y)],Pb,kb,HI.out,rfl,rfl,by simp,HST.out,by simpa using HOB.out,HWB.out⟩
            case measure=>have:=HI.out; simp [intOf]; omega
    · have he:i=d.length:=by omega
      have HOW:Hid (wr.ownsRow w.heap.size slE.T slE.k (.slice Pv xs.length cv) xs.length (slE.fl xs)):=hown
      have HBW:Hid (Below w.heap.size w wr):=hbw
      have hM:boundM d n f=xs ++ (if dn=true then [] else [(n,f)]):=by
        obtain ⟨h1,_⟩:=hbn
        unfold boundM
        rw [h1,he,List.drop_length]
        cases dn <;> simp [boundL]
      subst he
      clear hbn hown hbw
      cases dn with
      | true =>
        have HM:Hid (boundM d n f=xs):=by show _=_; simpa using hM
        clear hM
        go_wp2
        go_ret
        rw [HM.out]
        exact ⟨_,rfl,HOW.out,HBW.out⟩
      | false =>
        have HM:Hid (boundM d n f=xs ++ [(n,f)]):=by show _=_; simpa using hM
        clear hM
        go_wp2_with (at_builtin; go_must (refine wpList_app1 slOk #[.string n,.int .i64 f] (n,f) rfl rfl _ _ rfl w.heap.size _ xs _ rfl rfl HOW.out rfl ?h5a1 ?h5a2 ?h5a3 ?_))
        case h5a1=>unfold maxLen; have:=HLN.out; omega
        case h5a2=>show _ * 24 ≤ _; have:=HLN.out; omega
        case h5a3=>exact HBW.out.size
        intro va wa hoa hba
        have HWA:Hid (Below w.heap.size w wa):=HBW.out.trans hba
        obtain ⟨Pa,ka,hka⟩:=own_form hoa
        subst hka
        have HOA:Hid (wa.ownsRow w.heap.size slE.T slE.k (.slice Pa (xs.length + 1) ka) (xs.length + 1) (slE.fl (xs ++ [(n,f)]))):=hoa
        clear hoa hba
        go_wp2
        go_ret
        rw [HM.out]
        exact ⟨_,rfl,by rw [List.length_append]; exact HOA.out,HWA.out⟩
end Go.Proofs.YtbgbmfmgdgalbaaGreatDoor
namespace Go.Proofs.YtbgbmfmgdgalbaaGreatDoor
open Go.RowKit
set_option linter.unusedVariables false
set_option linter.unusedSimpArgs false
theorem own_lower {w:World} {b b' e size n:Nat} {v:Value} {xs:List Value} (h:w.ownsRow b' e size v n xs) (hb:b ≤ b'):w.ownsRow b e size v n xs:=by
  refine ⟨h.1,?_⟩
  rcases h.2 with q | ⟨a1,a2,a3,a4,a5,a6⟩
  · exact Or.inl q
  · exact Or.inr ⟨a1,a2,a3,a4,by omega,a6⟩
theorem row3c {w:World} {g T:Nat} {v0 v1 v2:Value} (h:w.heap[g]?=some (.cells #[v0,v1,v2] T)):w.cell? ⟨g,0,none⟩=some v0∧w.cell? ⟨g,1,none⟩=some v1∧w.cell? ⟨g,2,none⟩=some v2:=by
  refine ⟨?_,?_,?_⟩ <;> rw [cell_of_row _ _ _ _ _ _ h] <;> rfl
set_option maxHeartbeats 1000000 in
theorem after_any (v:Value) (d:List Sl) (hd:d.length ≤ 1099511627770) (c:Ch) (w:World) (h:KR slE w v d):Calls Tryz.prog 137 #[v,.agg #[.string c.n,.string c.t,.int .i64 c.f]] w fun e w'=>∃ v',e=.returned v'∧w'.ownsRow w.heap.size slE.T slE.k v' (afterM d c).length (slE.fl (afterM d c))∧Below w.heap.size w w':=by
  obtain ⟨W0,hW0⟩:∃ W0,W0=w.alloc (.cells #[.string c.n,.string c.t,.int .i64 c.f] 157):=⟨_,rfl⟩
  have HB0:Hid (Below w.heap.size w W0):=by show Below _ _ _; rw [hW0]; exact (Below.refl _ _).alloc (Nat.le_refl _) _
  have HX0:Hid (W0.heap[w.heap.size]?=some (.cells #[.string c.n,.string c.t,.int .i64 c.f] 157)):=by show _=_; rw [hW0]; exact one_alloc _ _
  obtain ⟨r,hr⟩:∃ r,w.heap.size=r:=⟨_,rfl⟩
  have HR:Hid (w.heap.size=r):=hr
  have HK:Hid (KR slE W0 v d):=h.on HB0.out
  rw [hr] at HX0
  by_cases ht:c.t.size=0
  · have e0:c.t.toList.isEmpty=true:=str_empty ht
    have HC:Hid _:=bound_any v d (by omega) c.n c.f W0 HK.out
    have HM:Hid (afterM d c=boundM d c.n c.f):=by show _=_; simp [afterM,ht]
    clear h hr ht
    go_enter Tryz.func137,Tryz.ntmps137
    go_upto_region 1 with fail
    rw [← hW0,HR.out]
    clear hW0
    obtain ⟨x0,x1,x2⟩:=row3c HX0.out
    go_wp2_with fail
    refine (show Calls _ _ _ _ _ from HC.out).mono ?_
    rintro e w1 ⟨v',rfl,ho,hb⟩
    have HO:Hid _:=ho
    have HB:Hid (Below w.heap.size w w1):=HB0.out.trans (hb.mono HB0.out.size)
    clear ho hb x0 x1 x2
    go_wp2
    go_ret
    rw [HM.out]
    exact ⟨_,rfl,own_lower HO.out HB0.out.size,HB.out⟩
  · have e0:c.t.toList.isEmpty=false:=str_full ht
    have HC:Hid _:=bound_any v d (by omega) c.n (-1) W0 HK.out
    have HL:Hid ((boundM d c.n (-1)).length ≤ 1099511627776):=by have:=boundM_len d c.n (-1); show _ ≤ _; omega
    have HM:Hid (afterM d c=boundM (boundM d c.n (-1)) c.t c.f):=by show _=_; simp [afterM,ht]
    clear h hr ht
    go_enter Tryz.func137,Tryz.ntmps137
    go_upto_region 1 with fail
    rw [← hW0,HR.out]
    clear hW0
    obtain ⟨x0,x1,x2⟩:=row3c HX0.out
    go_wp2_with fail
    refine (show Calls _ _ _ _ _ from HC.out).mono ?_
    rintro e w1 ⟨v1,rfl,ho,hb⟩
    have HK1:Hid (KR slE w1 v1 (boundM d c.n (-1))):=KR.own ho rfl
    have HB1:Hid (Below w.heap.size w w1):=HB0.out.trans (hb.mono HB0.out.size)
    have HX1:Hid (w1.heap[r]?=some (.cells #[.string c.n,.string c.t,.int .i64 c.f] 157)):=keep_row HX0.out hb
    clear ho hb x0 x1 x2
    obtain ⟨x0,x1,x2⟩:=row3c HX1.out
    obtain ⟨P1,k1,hk1⟩:=HK1.out.form
    subst hk1
    go_wp2_with fail
    refine (show Calls _ _ _ _ _ from bound_any _ _ HL.out c.t c.f w1 HK1.out).mono ?_
    rintro e w2 ⟨v2,rfl,ho,hb⟩
    have HO:Hid _:=ho
    have HB:Hid (Below w.heap.size w w2):=HB1.out.trans (hb.mono HB1.out.size)
    clear ho hb x0 x1 x2
    go_wp2
    go_ret
    rw [HM.out]
    exact ⟨_,rfl,own_lower HO.out HB1.out.size,HB.out⟩
end Go.Proofs.YtbgbmfmgdgalbaaGreatDoor
namespace Go.Proofs.YtbgbmfmgdgalbaaGreatDoor
open Go.RowKit
set_option linter.unusedVariables false
set_option linter.unusedSimpArgs false
theorem i31:(Tryz.prog.info? 61).map (·.size)=some 9:=by kernel_rfl
structure Mod (b:Nat) (w w':World):Prop where
  os:w'.os=w.os
  tape:w'.tape=w.tape
  output:w'.output=w.output
  size:w.heap.size ≤ w'.heap.size
  oth:∀ k,k < w.heap.size → k ≠ b → w'.heap[k]?=w.heap[k]?
theorem Mod.below {b B:Nat} {w w':World} (h:Mod b w w') (hb:B ≤ b) (hw:B ≤ w.heap.size):Below B w w':=
  ⟨h.os,h.tape,h.output,h.size,fun k hk=>h.oth k (by omega) (by omega)⟩
theorem Mod.only {b:Nat} {w w':World} (h:Only w w' b):Mod b w w':=⟨h.os,h.tape,h.output,by rw [h.size]; exact Nat.le_refl _,fun k _ hn=>h.other k hn⟩
theorem Mod.row {b k:Nat} {w w':World} {o:Obj} (h:Mod b w w') (hk:w.heap[k]?=some o) (hn:k ≠ b):w'.heap[k]?=some o:=(h.oth k (row_lt hk) hn).trans hk
theorem cellC {C:Array Value} {T r j:Nat} {W:World} (h:W.heap[r]?=some (.cells C T)):W.cell? ⟨r,j,none⟩=C[j]?:=cell_of_row _ _ _ _ _ _ h
theorem setCells_pre (g T:Nat):∀ (vs:List Value) (pre old:List Value) (w:World),old.length=vs.length → w.heap[g]?=some (.cells (pre ++ old).toArray T) → (w.setCells g pre.length vs).heap[g]?=some (.cells (pre ++ vs).toArray T)∧Only w (w.setCells g pre.length vs) g:=by
  intro vs
  induction vs with
  | nil =>
    intro pre old w hl h
    have:old=[]:=List.eq_nil_of_length_eq_zero (by simpa using hl)
    subst this
    exact ⟨by simpa [World.setCells] using h,Only.refl _ _⟩
  | cons v vs ih =>
    intro pre old w hl h
    cases old with
    | nil=>simp at hl
    | cons o old =>
      have h1:(w.setCell ⟨g,pre.length,none⟩ v).heap[g]?=some (.cells ((pre ++ [v]) ++ old).toArray T):=by
        rw [heap_setCell_same _ _ _ _ _ _ h]
        simp
      have h2:=ih (pre ++ [v]) old _ (by simpa using hl) h1
      rw [List.length_append] at h2
      refine ⟨?_,?_⟩
      · have:=h2.1
        simpa [World.setCells] using this
      · have:=h2.2
        have h3:Only w (w.setCell ⟨g,pre.length,none⟩ v) g:=(Only.refl _ _).set _ _
        exact h3.trans (by simpa [World.setCells] using this)
theorem ldF {ops:Array Oper} {rest:List Oper} {op:Oper} {a:Act} {w:World} {Q:Exit → Act → World → Prop} (C:Array Value) (r:Nat) (x:Operand) (hg:op.guard=none) (ho:op.op=.load 61 x) (hx:a.eval x=.pointer (some ⟨r,0,none⟩)) (hc:w.heap[r]?=some (.cells C 61)) (h9:C.size=9) (h:wpList Tryz.prog ops Q rest (a.put op.dst (.agg C)) w):wpList Tryz.prog ops Q (op :: rest) a w:=by
  refine wpList_load_mid hg _ x ho r 0 hx C.toList _ (fun j v hv=>by rw [cellC hc]; simpa using hv) Tryz.underlying61 rfl (by rw [Array.length_toList,h9]; exact i31) ?_
  rw [Array.toArray_toList]
  exact h
theorem stF {ops:Array Oper} {rest:List Oper} {op:Oper} {a:Act} {w:World} {Q:Exit → Act → World → Prop} (hg:op.guard=none) (x y:Operand) (ho:op.op=.store 61 x y) (g:Nat) (C Z:Array Value) (hx:a.eval x=.pointer (some ⟨g,0,none⟩)) (hy:a.eval y=.agg C) (h9:C.size=9) (h1:C.all (·.oneCell')=true) (hZ:Z.size=9) (hr:w.heap[g]?=some (.cells Z 61)) (h:∀ W,W.heap[g]?=some (.cells C 61) → Mod g w W → wpList Tryz.prog ops Q rest (a.put op.dst undef) W):wpList Tryz.prog ops Q (op :: rest) a w:=by
  refine wpList_store_mid hg 61 x y ho g 0 C hx hy ?_ (by rw [h9]; exact i31) h1 ?_
  · intro j hj
    rw [h9] at hj
    refine ⟨?_,frozen_of_row _ _ _ _ _ hr⟩
    rw [cell_of_row _ _ _ _ _ _ hr]
    simp; omega
  have h3:=setCells_pre g 61 C.toList [] Z.toList w (by simp [h9,hZ]) (by simpa using hr)
  rw [List.length_nil] at h3
  simp only [List.nil_append,Array.toArray_toList] at h3
  exact h _ h3.1 (Mod.only h3.2)
def zF:Array Value:=#[.bool false,.int .i64 0,.slice none 0 0,.slice none 0 0,.slice none 0 0,.slice none 0 0,.slice none 0 0,.int .i64 0,.slice none 0 0]
theorem alF {ops:Array Oper} {rest:List Oper} {op:Oper} {a:Act} {w:World} {Q:Exit → Act → World → Prop} (hg:op.guard=none) (ho:op.op=.alloc 61) (Z:Array Value) (hZ:Z=zF) (h:wpList Tryz.prog ops Q rest (a.put op.dst (.pointer (some ⟨w.heap.size,0,none⟩))) (w.alloc (.cells Z 61))):wpList Tryz.prog ops Q (op :: rest) a w:=by
  subst hZ
  refine wpList_plain hg fun K hK=>?_
  unfold Oper.wp
  have:(execOp a.eval op).run Tryz.prog w=.ok (.value (.pointer (some ⟨w.heap.size,0,none⟩))) (w.alloc (.cells zF 61)):=by
    unfold execOp
    rw [ho]
    kernel_rfl
  rw [this]
  exact hK _ _ h
structure FV where
  f:Value
  d:Value
  s:Value
  c:Value
  p:Value
  k:Value
def fsC (s:Fs) (V:FV):Array Value:=#[.bool s.down,.int .i64 (s.steps:Int),V.f,V.d,V.s,V.c,V.p,.int .i64 s.crash,V.k]
structure FsAt (s:Fs) (V:FV) (w:World):Prop where
  qf:KR fiE w V.f s.files
  qd:KR slE w V.d s.dir
  qs:KR slE w V.s s.sure
  qc:KR chE w V.c s.chg
  qp:KR plE w V.p s.fails
  qk:KR inE w V.k s.picks
theorem FsAt.on {s:Fs} {V:FV} {w w':World} (h:FsAt s V w) (hb:Below w.heap.size w w'):FsAt s V w':=⟨h.qf.on hb,h.qd.on hb,h.qs.on hb,h.qc.on hb,h.qp.on hb,h.qk.on hb⟩
theorem KR.one {α:Type} {E:ET α} {w:World} {v:Value} {l:List α} (h:KR E w v l):v.oneCell'=true:=by obtain ⟨P,c,rfl⟩:=h.form; rfl
theorem fsC_one {s:Fs} {V:FV} {w:World} (h:FsAt s V w):(fsC s V).all (·.oneCell')=true:=by
  simp only [fsC,List.all_toArray,List.all_cons,List.all_nil,h.qf.one,h.qd.one,h.qs.one,h.qc.one,h.qp.one,h.qk.one,Bool.and_true]
  rfl
theorem fsC_size (s:Fs) (V:FV):(fsC s V).size=9:=rfl
theorem row9 {w:World} {g T:Nat} {v0 v1 v2 v3 v4 v5 v6 v7 v8:Value} (h:w.heap[g]?=some (.cells #[v0,v1,v2,v3,v4,v5,v6,v7,v8] T)):w.cell? ⟨g,0,none⟩=some v0∧w.cell? ⟨g,1,none⟩=some v1∧w.cell? ⟨g,2,none⟩=some v2∧w.cell? ⟨g,3,none⟩=some v3∧w.cell? ⟨g,4,none⟩=some v4∧w.cell? ⟨g,5,none⟩=some v5∧w.cell? ⟨g,6,none⟩=some v6∧w.cell? ⟨g,7,none⟩=some v7∧w.cell? ⟨g,8,none⟩=some v8∧∀ j,w.frozen? ⟨g,j,none⟩=false:=by
  refine ⟨?_,?_,?_,?_,?_,?_,?_,?_,?_,fun j=>frozen_of_row _ _ _ _ _ h⟩ <;> rw [cell_of_row _ _ _ _ _ _ h] <;> rfl
end Go.Proofs.YtbgbmfmgdgalbaaGreatDoor
namespace Go.Proofs.YtbgbmfmgdgalbaaGreatDoor
open Go.RowKit
set_option linter.unusedVariables false
set_option linter.unusedSimpArgs false
theorem three_rows {w:World} (a b c:Obj):Below w.heap.size w (((w.alloc a).alloc b).alloc c)∧(((w.alloc a).alloc b).alloc c).heap[w.heap.size]?=some a∧(((w.alloc a).alloc b).alloc c).heap[w.heap.size + 1]?=some b∧(((w.alloc a).alloc b).alloc c).heap[w.heap.size + 2]?=some c:=by
  have b1:Below w.heap.size w (w.alloc a):=(Below.refl _ _).alloc (Nat.le_refl _) _
  have b2:Below (w.alloc a).heap.size (w.alloc a) ((w.alloc a).alloc b):=(Below.refl _ _).alloc (Nat.le_refl _) _
  have b3:Below ((w.alloc a).alloc b).heap.size ((w.alloc a).alloc b) (((w.alloc a).alloc b).alloc c):=(Below.refl _ _).alloc (Nat.le_refl _) _
  refine ⟨(b1.trans (b2.mono b1.size)).trans (b3.mono (Nat.le_trans b1.size b2.size)),keep_row (keep_row (one_alloc w a) b2) b3,?_,?_⟩
  · have:=keep_row (one_alloc (w.alloc a) b) b3
    simpa [World.size_alloc] using this
  · have:=one_alloc ((w.alloc a).alloc b) c
    simpa [World.size_alloc] using this
theorem setRow {w:World} {g T:Nat} {C:Array Value} (h:w.heap[g]?=some (.cells C T)) (i:Nat) (v:Value):(w.setCell ⟨g,i,none⟩ v).heap[g]?=some (.cells (C.set! i v) T):=by
  rw [heap_setCell_same _ _ _ _ _ _ h]
  simp
theorem setMod {w:World} {g:Nat} (i:Nat) (v:Value):Mod g w (w.setCell ⟨g,i,none⟩ v):=Mod.only ((Only.refl _ _).set _ _)
theorem fsC_oneV {s:Fs} {V:FV} (h1:V.f.oneCell'=true) (h2:V.d.oneCell'=true) (h3:V.s.oneCell'=true) (h4:V.c.oneCell'=true) (h5:V.p.oneCell'=true) (h6:V.k.oneCell'=true):(fsC s V).all (·.oneCell')=true:=by
  simp only [fsC,List.all_toArray,List.all_cons,List.all_nil,h1,h2,h3,h4,h5,h6,Bool.and_true]
  rfl
theorem cell_same {w w':World} {g j:Nat} (h:w'.heap[g]?=w.heap[g]?):w'.cell? ⟨g,j,none⟩=w.cell? ⟨g,j,none⟩:=by
  unfold World.cell?
  rw [h]
theorem KR.mod {α:Type} {E:ET α} {b:Nat} {w w':World} {v:Value} {l:List α} (h:KR E w v l) (hm:Mod b w w') (hn:∀ g o n c,v=.slice (some ⟨g,o,none⟩) n c → g ≠ b):KR E w' v l:=by
  rcases h with h | ⟨g,o,cap,rfl,hc⟩
  · exact Or.inl h
  · refine Or.inr ⟨g,o,cap,rfl,fun j u hu=>?_⟩
    have h1:=hc j u hu
    rw [cell_same (hm.oth g (lt_of_cell h1) (hn g o _ _ rfl))]
    exact h1
theorem KR_ge {w:World} {base e k n:Nat} {v:Value} {xs:List Value} (h:w.ownsRow base e k v n xs) {g o m c:Nat} (hv:v=.slice (some ⟨g,o,none⟩) m c):base ≤ g:=by
  obtain ⟨_,⟨h1,_⟩ | ⟨g',cap,cur,h1,hb,_⟩⟩:=h
  · rw [h1] at hv; cases hv
  · rw [h1] at hv
    injection hv with hv _ _
    injection hv with hv
    injection hv with hv _ _
    omega
def NB (S:Nat → Prop) (v:Value):Prop:=∀ g o n c,v=.slice (some ⟨g,o,none⟩) n c → ¬ S g
theorem KR.modN {α:Type} {E:ET α} {b:Nat} {w w':World} {v:Value} {l:List α} (h:KR E w v l) (hm:Mod b w w') (hn:l ≠ [] → NB (fun k=>k=b) v):KR E w' v l:=by
  by_cases hl:l=[]
  · subst hl
    rcases h with h | ⟨g,o,cap,rfl,hc⟩
    · exact Or.inl h
    · exact Or.inr ⟨g,o,cap,rfl,fun j u hu=>by simp [ET.fl] at hu⟩
  · exact h.mod hm (fun g o n c e=>hn hl g o n c e)
theorem KR.nb {α:Type} {E:ET α} (ok:ETok E) {w:World} {v:Value} {l:List α} (h:KR E w v l) (hl:l ≠ []):NB (fun k=>w.heap.size ≤ k) v:=by
  intro g o n c e hS
  rcases h with ⟨h0,_⟩ | ⟨g',o',cap,rfl,hc⟩
  · exact hl h0
  · injection e with e _ _
    injection e with e
    injection e with e _ _
    subst e
    have hlen:=ET.fl_len ok l
    have hpos:0 < (E.fl l).length:=by
      rw [hlen]
      exact Nat.mul_pos (List.length_pos_iff.2 hl) ok.kp
    have:=lt_of_cell (hc 0 _ (List.getElem?_eq_getElem hpos))
    have h2:g' < w.heap.size:=this
    omega
structure Av (S:Nat → Prop) (s:Fs) (V:FV):Prop where
  af:s.files ≠ [] → NB S V.f
  ad:s.dir ≠ [] → NB S V.d
  as_:s.sure ≠ [] → NB S V.s
  ac:s.chg ≠ [] → NB S V.c
  ap:s.fails ≠ [] → NB S V.p
  ak:s.picks ≠ [] → NB S V.k
theorem NB.weak {S S':Nat → Prop} {v:Value} (h:NB S v) (hs:∀ k,S' k → S k):NB S' v:=fun g o n c e hS=>h g o n c e (hs g hS)
theorem Av.weak {S S':Nat → Prop} {s:Fs} {V:FV} (h:Av S s V) (hs:∀ k,S' k → S k):Av S' s V:=⟨fun q=>(h.af q).weak hs,fun q=>(h.ad q).weak hs,fun q=>(h.as_ q).weak hs,fun q=>(h.ac q).weak hs,fun q=>(h.ap q).weak hs,fun q=>(h.ak q).weak hs⟩
theorem FsAt.av {s:Fs} {V:FV} {w:World} (h:FsAt s V w):Av (fun k=>w.heap.size ≤ k) s V:=⟨fun q=>h.qf.nb fiOk q,fun q=>h.qd.nb slOk q,fun q=>h.qs.nb slOk q,fun q=>h.qc.nb chOk q,fun q=>h.qp.nb plOk q,fun q=>h.qk.nb inOk q⟩
theorem FsAt.mod {s:Fs} {V:FV} {b:Nat} {w w':World} (h:FsAt s V w) (hm:Mod b w w') (ha:Av (fun k=>k=b) s V):FsAt s V w':=⟨h.qf.modN hm ha.af,h.qd.modN hm ha.ad,h.qs.modN hm ha.as_,h.qc.modN hm ha.ac,h.qp.modN hm ha.ap,h.qk.modN hm ha.ak⟩
structure Made (s:Fs) (V:FV) (w:World) (s':Fs) (V':FV) (w':World):Prop where
  at_:FsAt s' V' w'
  bel:Below w.heap.size w w'
  av:∀ S:Nat → Prop,(∀ k,S k → k < w.heap.size) → Av S s V → Av S s' V'
set_option maxHeartbeats 4000000 in
set_option maxRecDepth 20000 in
theorem r_change_any (s:Fs) (V:FV) (c:Ch) (hd:s.dir.length ≤ 1099511627770) (hcl:s.chg.length ≤ 3298534883328) (w:World) (h:FsAt s V w):Calls Tryz.prog 101 #[.agg (fsC s V),.agg #[.string c.n,.string c.t,.int .i64 c.f]] w fun e w'=>∃ V',e=.returned (.agg (fsC (changeM s c) V'))∧Made s V w (changeM s c) V' w':=by
  obtain ⟨Z,hZ⟩:∃ Z,Z=zF:=⟨_,rfl⟩
  have HZZ:Hid (Z=zF):=hZ
  have HZS:Hid (Z.size=9):=by show _=_; rw [hZ]; rfl
  clear hZ
  obtain ⟨W1,hW1⟩:∃ W1,W1=((w.alloc (.cells (fsC s V) 61)).alloc (.cells #[.string c.n,.string c.t,.int .i64 c.f] 157)).alloc (.cells Z 61):=⟨_,rfl⟩
  obtain ⟨r,hr⟩:∃ r,w.heap.size=r:=⟨_,rfl⟩
  have HRR:Hid (w.heap.size=r):=hr
  have H3:=three_rows (w:=w) (.cells (fsC s V) 61) (.cells #[.string c.n,.string c.t,.int .i64 c.f] 157) (.cells Z 61)
  rw [← hW1,hr] at H3
  obtain ⟨hB1,hR1,hR2,hR3⟩:=H3
  have HW1:Hid (W1.heap.size=r + 3):=by show _=_; rw [hW1,← hr]; simp [World.size_alloc]
  have HF:Hid (FsAt s V W1):=h.on (by rw [hr]; exact hB1)
  have HF0:Hid (FsAt s V w):=h
  have HB1:Hid (Below r w W1):=hB1
  have HR1:Hid _:=hR1
  have HR2:Hid _:=hR2
  have HR3:Hid _:=hR3
  have HLC:Hid (s.chg.length ≤ 3298534883328):=hcl
  have HLD:Hid (s.dir.length ≤ 1099511627770):=hd
  clear h hB1 hR1 hR2 hR3 hr hcl hd
  rw [show fsC s V=#[.bool s.down,.int .i64 (s.steps:Int),V.f,V.d,V.s,V.c,V.p,.int .i64 s.crash,V.k] from rfl] at hW1 HR1
  unfold fsC
  go_enter Tryz.func101,Tryz.ntmps101
  go_upto_region 1 with (refine alF rfl rfl Z HZZ.out ?_)
  rw [← hW1,HRR.out]
  clear hW1
  obtain ⟨x0,x1,x2,x3,x4,x5,x6,x7,x8,xf⟩:=row9 HR1.out
  obtain ⟨y0,y1,y2⟩:=row3c HR2.out
  go_wp2_with fail
  refine (show Calls _ _ _ _ _ from after_any V.d s.dir HLD.out c W1 HF.out.qd).mono ?_
  rintro e w2 ⟨v2,rfl,ho2,hb2⟩
  clear x0 x1 x2 x3 x4 x5 x6 x7 x8 xf y0 y1 y2
  have hK2:KR slE w2 v2 (afterM s.dir c):=KR.own ho2 rfl
  obtain ⟨P2,k2,hk2⟩:=hK2.form
  subst hk2
  obtain ⟨L2,hL2⟩:∃ L2,(afterM s.dir c).length=L2:=⟨_,rfl⟩
  rw [hL2] at hK2 ho2 ⊢
  have hR1':=keep_row HR1.out hb2
  have hR2':=keep_row HR2.out hb2
  have hR3':=keep_row HR3.out hb2
  have hF2:=HF.out.on hb2
  have hsz2:r + 3 ≤ w2.heap.size:=by rw [← HW1.out]; exact hb2.size
  have HB2:Hid (Below r w w2):=HB1.out.trans (hb2.mono (by rw [HW1.out]; omega))
  obtain ⟨W3,hW3⟩:∃ W3,W3=w2.setCell ⟨r,3,none⟩ (.slice P2 L2 k2):=⟨_,rfl⟩
  have hm3:Mod r w2 W3:=by rw [hW3]; exact setMod _ _
  have hb3:Below r w2 W3:=hm3.below (Nat.le_refl _) (by omega)
  have hR13:W3.heap[r]?=some (.cells #[.bool s.down,.int .i64 (s.steps:Int),V.f,.slice P2 L2 k2,V.s,V.c,V.p,.int .i64 s.crash,V.k] 61):=by rw [hW3]; exact setRow hR1' _ _
  have HR13:Hid _:=hR13
  have HR23:Hid (W3.heap[r + 1]?=some (.cells #[.string c.n,.string c.t,.int .i64 c.f] 157)):=hm3.row hR2' (by omega)
  have HR33:Hid (W3.heap[r + 2]?=some (.cells Z 61)):=hm3.row hR3' (by omega)
  have HSZ3:Hid (r + 3 ≤ W3.heap.size):=Nat.le_trans hsz2 hm3.size
  have HB3:Hid (Below r w W3):=HB2.out.trans hb3
  have HLW:Hid (∀ {α:Type} (E:ET α) (v:Value) (l:List α),KR E w v l → KR E W3 v l):=fun E v l hk=>hk.on (by rw [HRR.out]; exact HB3.out)
  obtain ⟨x0,x1,x2,x3,x4,x5,x6,x7,x8,xf⟩:=row9 hR1'
  have HK3:Hid (KR slE W3 (.slice P2 L2 k2) (afterM s.dir c)):=hK2.mod hm3 (fun g o n c e=>by have:=KR_ge ho2 e; rw [HW1.out] at this; omega)
  have HG2:Hid (∀ g o n c,Value.slice P2 L2 k2=.slice (some ⟨g,o,none⟩) n c → r + 3 ≤ g):=fun g o n c e=>by have:=KR_ge ho2 e; rw [HW1.out] at this; exact this
  clear hR13 hR1' hR2' hR3' hm3 hb3 hb2 ho2 hK2
  go_upto_region 2 with fail
  rw [← hW3]
  clear hW3 x0 x1 x2 x3 x4 x5 x6 x7 x8 xf hsz2 hF2
  have HO3:Hid (W3.ownsRow W3.heap.size chE.T chE.k (.slice none 0 0) 0 (chE.fl [])):=⟨rfl,Or.inl ⟨rfl,rfl⟩⟩
  have HKC:Hid (KR chE W3 V.c s.chg):=HLW.out chE V.c s.chg HF0.out.qc
  obtain ⟨x0,x1,x2,x3,x4,x5,x6,x7,x8,xf⟩:=row9 HR13.out
  go_wp2_with (at_builtin; go_must (refine wpList_appB chOk rfl _ _ rfl W3.heap.size _ [] 0 rfl rfl HO3.out _ s.chg rfl HKC.out s.chg.length (by simp) ?a1 ?a2 (Nat.le_refl _) ?_))
  case a1=>have:=HLC.out; unfold maxLen; simp; omega
  case a2=>have:=HLC.out; show _ * 40 ≤ _; simp; omega
  intro v4 w4 ho4 hb4
  obtain ⟨P4,k4,hk4⟩:=own_form ho4
  subst hk4
  have HO4:Hid (w4.ownsRow W3.heap.size chE.T chE.k (.slice P4 s.chg.length k4) s.chg.length (chE.fl s.chg)):=ho4
  have HB4:Hid (Below W3.heap.size W3 w4):=hb4
  have hy:=keep_row HR23.out hb4
  clear x0 x1 x2 x3 x4 x5 x6 x7 x8 xf ho4 hb4
  obtain ⟨y0,y1,y2⟩:=row3c hy
  clear hy
  go_wp2_with (at_builtin; go_must (refine wpList_app1 chOk #[.string c.n,.string c.t,.int .i64 c.f] c rfl rfl _ _ rfl W3.heap.size _ s.chg s.chg.length rfl rfl HO4.out rfl ?b1 ?b2 ?b3 ?_))
  case b1=>have:=HLC.out; unfold maxLen; omega
  case b2=>have:=HLC.out; show _ * 40 ≤ _; omega
  case b3=>exact HB4.out.size
  intro v5 w5 ho5 hb5
  have hB35:Below W3.heap.size W3 w5:=HB4.out.trans hb5
  have hK5:KR chE w5 v5 (s.chg ++ [c]):=KR.own ho5 (by simp)
  obtain ⟨P5,k5,hk5⟩:=own_form ho5
  subst hk5
  obtain ⟨L5,hL5⟩:∃ L5,s.chg.length + 1=L5:=⟨_,rfl⟩
  rw [hL5] at hK5 ho5 ⊢
  have hr1:=keep_row HR13.out hB35
  have hr3:=keep_row HR33.out hB35
  obtain ⟨W6,hW6⟩:∃ W6,W6=w5.setCell ⟨r,5,none⟩ (.slice P5 L5 k5):=⟨_,rfl⟩
  have hm6:Mod r w5 W6:=by rw [hW6]; exact setMod _ _
  have hrow6:W6.heap[r]?=some (.cells (fsC (changeM s c) ⟨V.f,.slice P2 L2 k2,V.s,.slice P5 L5 k5,V.p,V.k⟩) 61):=by rw [hW6]; exact setRow hr1 _ _
  have hz6:W6.heap[r + 2]?=some (.cells Z 61):=hm6.row hr3 (by omega)
  have hb6:Below r w5 W6:=hm6.below (Nat.le_refl _) (by have:=HSZ3.out; have:=hB35.size; omega)
  have hB6:Below r w W6:=(HB3.out.trans (hB35.mono (by have:=HSZ3.out; omega))).trans hb6
  have HK6:Hid (KR slE W6 (.slice P2 L2 k2) (afterM s.dir c)):=(HK3.out.on hB35).mod hm6 (fun g o n c e=>by have:=HG2.out g o n c e; omega)
  have HK56:Hid (KR chE W6 (.slice P5 L5 k5) (s.chg ++ [c])):=hK5.mod hm6 (fun g o n c e=>by have:=KR_ge ho5 e; have:=HSZ3.out; omega)
  have HG5:Hid (∀ g o n c,Value.slice P5 L5 k5=.slice (some ⟨g,o,none⟩) n c → r + 3 ≤ g):=fun g o n c e=>by have:=KR_ge ho5 e; have:=HSZ3.out; omega
  have HROW:Hid _:=hrow6
  have HZ6:Hid _:=hz6
  have HB6:Hid (Below r w W6):=hB6
  have HSZ6:Hid (r + 3 ≤ W6.heap.size):=by have:=HSZ3.out; have:=hB35.size; have:=hm6.size; show _ ≤ _; omega
  obtain ⟨x0,x1,x2,x3,x4,x5,x6,x7,x8,xf⟩:=row9 hr1
  clear hrow6 hz6 hB6 hb6 hm6 hr3 hK5 ho5 hb5 hB35 y0 y1 y2 hr1
  go_upto_region 5 with fail
  rw [← hW6]
  clear hW6 x0 x1 x2 x3 x4 x5 x6 x7 x8 xf
  try rw [HRR.out]
  obtain ⟨C,hC⟩:∃ C,C=fsC (changeM s c) ⟨V.f,.slice P2 L2 k2,V.s,.slice P5 L5 k5,V.p,V.k⟩:=⟨_,rfl⟩
  have hC9:C.size=9:=by rw [hC]; rfl
  have HC1:Hid (C.all (·.oneCell')=true):=by show _=_; rw [hC]; exact fsC_oneV (s:=changeM s c) HF0.out.qf.one rfl HF0.out.qs.one rfl HF0.out.qp.one HF0.out.qk.one
  rw [← hC] at HROW
  have HCC:Hid (C=fsC (changeM s c) ⟨V.f,.slice P2 L2 k2,V.s,.slice P5 L5 k5,V.p,V.k⟩):=hC
  clear hC
  go_wp2_with (first | refine ldF C r _ rfl rfl rfl HROW.out hC9 ?_ | (refine stF rfl _ _ rfl (r + 2) C Z rfl rfl hC9 HC1.out HZS.out HZ6.out ?_; intro W7 hr7 hm7))
  have hlv:=run_loadVar_mid (P:=Tryz.prog) W7 (r + 2) 0 61 C.toList _ (fun j v hv=>by rw [cell_of_row _ _ _ _ _ _ hr7]; simpa using hv) Tryz.underlying61 rfl (by rw [Array.length_toList,hC9]; exact i31)
  rw [Array.toArray_toList] at hlv
  have hb7:Below (r + 2) W6 W7:=hm7.below (Nat.le_refl _) (by have:=HSZ6.out; omega)
  refine bodyPost_ret (v:=.agg C) (by simp [results,Tryz.results101,asAddr,Act.put,hlv,Result.andThen]) rfl ?_
  rw [HCC.out]
  have hB7:Below w.heap.size w W7:=by rw [HRR.out]; exact HB6.out.trans (hb7.mono (by omega))
  refine ⟨_,rfl,⟨⟨HF0.out.qf.on hB7,HK6.out.mod hm7 (fun g o n c e=>by have:=HG2.out g o n c e; omega),HF0.out.qs.on hB7,HK56.out.mod hm7 (fun g o n c e=>by have:=HG5.out g o n c e; omega),HF0.out.qp.on hB7,HF0.out.qk.on hB7⟩,hB7,fun S hS ha=>⟨ha.af,fun _ g o n c e hg=>?_,ha.as_,fun _ g o n c e hg=>?_,ha.ap,ha.ak⟩⟩⟩
  · have:=HG2.out g o n c e; have:=hS g hg; have:=HRR.out; omega
  · have:=HG5.out g o n c e; have:=hS g hg; have:=HRR.out; omega
end Go.Proofs.YtbgbmfmgdgalbaaGreatDoor
namespace Go.Proofs.YtbgbmfmgdgalbaaGreatDoor
open Go.RowKit
set_option linter.unusedVariables false
set_option linter.unusedSimpArgs false
theorem fl_set (l:List Fi) (i:Nat) (hi:i < l.length) (x:Fi) (j:Nat):(fiE.fl (l.set i x))[j]?=if j=i * 2 then some (.string x.d) else if j=i * 2 + 1 then some (.int .i64 (x.s:Int)) else (fiE.fl l)[j]?:=by
  induction l generalizing i j with
  | nil=>simp at hi
  | cons y l ih =>
    cases i with
    | zero =>
      simp only [List.set_cons_zero,ET.fl,List.flatMap_cons]
      match j with
      | 0=>rfl
      | 1=>rfl
      | j + 2=>simp [fiE]
    | succ i =>
      simp only [List.set_cons_succ]
      have e1:∀ m:List Fi,fiE.fl (y :: m)=[.string y.d,.int .i64 (y.s:Int)] ++ fiE.fl m:=fun m=>by simp [ET.fl,fiE]
      rw [e1,e1]
      match j with
      | 0=>(simp; try omega)
      | 1=>(simp; try omega)
      | j + 2 =>
        have:=ih i (by simpa using hi) j
        simp only [List.cons_append,List.nil_append,List.getElem?_cons_succ]
        rw [this]
        by_cases q1:j=i * 2
        · rw [if_pos q1,if_pos (show j + 2=(i + 1) * 2 by omega)]
        · rw [if_neg q1,if_neg (show ¬ j + 2=(i + 1) * 2 by omega)]
          by_cases q2:j=i * 2 + 1
          · rw [if_pos q2,if_pos (show j + 2=(i + 1) * 2 + 1 by omega)]
          · rw [if_neg q2,if_neg (show ¬ j + 2=(i + 1) * 2 + 1 by omega)]
theorem own_addr {w:World} {base n T k:Nat} {v:Value} {xs:List Value} (h:w.ownsRow base T k v n xs) (hn:0 < n):∃ (g cap:Nat) (cur:Array Value),v=.slice (some ⟨g,0,none⟩) n cap∧base ≤ g∧w.heap[g]?=some (.cells cur T)∧n * k ≤ cur.size∧∀ (j:Nat) (u:Value),xs[j]?=some u → cur[j]?=some u:=by
  rcases h.2 with ⟨_,e⟩ | ⟨g,cap,cur,rfl,hb,hg,hc1,hc2,hc3,hc4⟩
  · omega
  · refine ⟨g,cap,cur,rfl,hb,hg,by rw [hc3]; exact Nat.mul_le_mul_right _ hc1,fun j u hu=>?_⟩
    rw [← hc4] at hu
    obtain ⟨h6,_⟩:=List.getElem?_eq_some_iff.1 hu
    rw [List.length_take] at h6
    rw [List.getElem?_take_of_lt (by omega)] at hu
    simpa using hu
theorem row2c {w:World} {g T:Nat} {v0 v1:Value} (h:w.heap[g]?=some (.cells #[v0,v1] T)):w.cell? ⟨g,0,none⟩=some v0∧w.cell? ⟨g,1,none⟩=some v1∧∀ j,w.frozen? ⟨g,j,none⟩=false:=by
  refine ⟨?_,?_,fun j=>frozen_of_row _ _ _ _ _ h⟩ <;> rw [cell_of_row _ _ _ _ _ _ h] <;> rfl
set_option maxHeartbeats 2000000 in
theorem with_any (v:Value) (l:List Fi) (hl:l.length ≤ 3298534883328) (i:Nat) (hi:i < l.length) (x:Fi) (w:World) (h:KR fiE w v l):Calls Tryz.prog 103 #[v,.int .i64 (i:Int),.agg #[.string x.d,.int .i64 (x.s:Int)]] w fun e w'=>∃ v',e=.returned v'∧KR fiE w' v' (l.set i x)∧NB (fun k=>k < w.heap.size) v'∧Below w.heap.size w w':=by
  obtain ⟨W0,hW0⟩:∃ W0,W0=w.alloc (.cells #[.string x.d,.int .i64 (x.s:Int)] 119):=⟨_,rfl⟩
  have HB0:Hid (Below w.heap.size w W0):=by show Below _ _ _; rw [hW0]; exact (Below.refl _ _).alloc (Nat.le_refl _) _
  have HX0:Hid (W0.heap[w.heap.size]?=some (.cells #[.string x.d,.int .i64 (x.s:Int)] 119)):=by show _=_; rw [hW0]; exact one_alloc _ _
  have HS0:Hid (W0.heap.size=w.heap.size + 1):=by show _=_; rw [hW0]; simp [World.size_alloc]
  obtain ⟨r,hr⟩:∃ r,w.heap.size=r:=⟨_,rfl⟩
  have HR:Hid (w.heap.size=r):=hr
  have HK:Hid (KR fiE W0 v l):=h.on HB0.out
  have HO:Hid (W0.ownsRow W0.heap.size fiE.T fiE.k (.slice none 0 0) 0 (fiE.fl [])):=⟨rfl,Or.inl ⟨rfl,rfl⟩⟩
  rw [hr] at HX0 HS0
  have HL:Hid (l.length ≤ 3298534883328):=hl
  have HI:Hid (i < l.length):=hi
  have hz0:(0:Int) ≤ (i:Int):=by omega
  have hz1:(i:Int) < (l.length:Int):=by omega
  clear h hr hl hi
  go_enter Tryz.func103,Tryz.ntmps103
  go_upto_region 1 with fail
  rw [← hW0,HR.out]
  clear hW0
  go_wp2_with (at_builtin; go_must (refine wpList_appB fiOk rfl _ _ rfl W0.heap.size _ [] 0 rfl rfl HO.out _ l rfl HK.out l.length (by simp) ?a1 ?a2 (Nat.le_refl _) ?_))
  case a1=>have:=HL.out; unfold maxLen; simp; omega
  case a2=>have:=HL.out; show _ * 24 ≤ _; simp; omega
  intro v1 w1 ho1 hb1
  have hx1:=keep_row HX0.out hb1
  obtain ⟨y0,y1,yf⟩:=row2c hx1
  obtain ⟨g,cap,cur,hv1,hg,hrow,hcs,hcur⟩:=own_addr ho1 (by have:=HI.out; omega)
  subst hv1
  have hcs2:l.length * 2 ≤ cur.size:=hcs
  have hin:=HI.out
  obtain ⟨u0,hu0⟩:∃ u,cur[i * 2]?=some u:=⟨_,Array.getElem?_eq_getElem (by omega)⟩
  obtain ⟨u1,hu1⟩:∃ u,cur[i * 2 + 1]?=some u:=⟨_,Array.getElem?_eq_getElem (by omega)⟩
  have z0:w1.cell? ⟨g,i * 2,none⟩=some u0:=(cellC hrow).trans hu0
  have z1:w1.cell? ⟨g,i * 2 + 1,none⟩=some u1:=(cellC hrow).trans hu1
  have zf:∀ j,w1.frozen? ⟨g,j,none⟩=false:=fun j=>frozen_of_row _ _ _ _ _ hrow
  obtain ⟨W2,hW2⟩:∃ W2,W2=(w1.setCell ⟨g,i * 2,none⟩ (.string x.d)).setCell ⟨g,i * 2 + 1,none⟩ (.int .i64 (x.s:Int)):=⟨_,rfl⟩
  have hm2:Only w1 W2 g:=by rw [hW2]; exact ((Only.refl _ _).set _ _).set _ _
  have hrow2:W2.heap[g]?=some (.cells ((cur.set! (i * 2) (.string x.d)).set! (i * 2 + 1) (.int .i64 (x.s:Int))) 119):=by rw [hW2]; exact setRow (setRow hrow _ _) _ _
  have HKR:Hid (KR fiE W2 (.slice (some ⟨g,0,none⟩) l.length cap) (l.set i x)):=by
    refine Or.inr ⟨g,0,cap,by simp,fun j u hu=>?_⟩
    rw [fl_set l i hin x j] at hu
    rw [Nat.zero_add,cellC hrow2]
    by_cases h1:j=i * 2 + 1
    · subst h1
      rw [if_neg (by omega),if_pos rfl] at hu
      rw [Array.set!_eq_setIfInBounds,Array.getElem?_setIfInBounds_self_of_lt (by simp; omega)]
      exact hu
    · rw [Array.set!_eq_setIfInBounds,Array.getElem?_setIfInBounds_ne (by omega)]
      by_cases h0:j=i * 2
      · subst h0
        rw [if_pos rfl] at hu
        rw [Array.set!_eq_setIfInBounds,Array.getElem?_setIfInBounds_self_of_lt (by omega)]
        exact hu
      · rw [if_neg h0,if_neg h1] at hu
        rw [Array.set!_eq_setIfInBounds,Array.getElem?_setIfInBounds_ne (by omega)]
        exact hcur j u (by simpa using hu)
  have HBW:Hid (Below w.heap.size w W2):=by
    have b1:Below r w w1:=by
      have:=HB0.out.trans (hb1.mono HB0.out.size)
      rw [HR.out] at this
      exact this
    have b2:Below r w1 W2:=hm2.below (by rw [HS0.out] at hg; omega)
    show Below _ _ _
    rw [HR.out]
    exact b1.trans b2
  have HNB:Hid (NB (fun k=>k < w.heap.size) (.slice (some ⟨g,0,none⟩) l.length cap)):=fun g' o n c e hk=>by
    injection e with e _ _
    injection e with e
    injection e with e _ _
    rw [HS0.out] at hg
    have h1:g' < w.heap.size:=hk
    have:=HR.out
    omega
  clear hm2 hrow2 hcur hcs hcs2 hrow ho1 hb1 hx1 hu0 hu1 hg
  go_upto_region 4 with fail
  rw [← hW2]
  clear hW2
  go_wp2
  go_ret
  exact ⟨_,rfl,HKR.out,HNB.out,HBW.out⟩
end Go.Proofs.YtbgbmfmgdgalbaaGreatDoor
