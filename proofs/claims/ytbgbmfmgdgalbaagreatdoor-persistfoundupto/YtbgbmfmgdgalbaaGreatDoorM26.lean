import Derived.Test.YtbgbmfmgdgalbaaGreatDoorM25
namespace Go.Proofs.YtbgbmfmgdgalbaaGreatDoor
open Go.RowKit Go.Maps
set_option linter.unusedVariables false
set_option linter.unusedSimpArgs false
theorem find_at24 {l:List (ByteArray × ByteArray)} {nm:ByteArray} {k:Nat} (h:∀ y ∈ l.take k,y.1 ≠ nm) (hk:k < l.length) (he:l[k].1=nm):lookM l nm=(l[k].2,true):=by
  have hs:l.take k ++ l.drop k=l:=List.take_append_drop k l
  have hd:l.drop k=l[k] :: l.drop (k + 1):=List.drop_eq_getElem_cons hk
  have h1:l.find? (fun y=>decide (y.1=nm))=(l.take k ++ l.drop k).find? (fun y=>decide (y.1=nm)):=by rw [hs]
  have h2:(l.drop k).find? (fun y=>decide (y.1=nm))=some l[k]:=by
    rw [hd,List.find?_cons_of_pos (by simp [he])]
  have h3:l.find? (fun y=>decide (y.1=nm))=some l[k]:=by
    rw [h1,List.find?_append,List.find?_eq_none.2 (fun y hy=>by simpa using h y hy),h2]
    rfl
  unfold lookM
  rw [h3]
theorem find_no24 {l:List (ByteArray × ByteArray)} {nm:ByteArray} (h:∀ y ∈ l,y.1 ≠ nm):lookM l nm=(⟨#[]⟩,false):=by
  unfold lookM
  rw [List.find?_eq_none.2 (fun y hy=>by simpa using h y hy)]
set_option maxHeartbeats 2000000 in
set_option maxRecDepth 20000 in
theorem find24_any (va:Value) (l:List (ByteArray × ByteArray)) (nm:ByteArray) (hl:l.length ≤ 4611686018427387000) (w:World) (hr:KR pprE w va l) :
    Calls Tryz.prog 13 #[va,.string nm] w fun e w'=>e=.returned (.tuple #[.string (lookM l nm).1,.bool (lookM l nm).2])∧w'=w:=by
  obtain ⟨P,c,rfl⟩:=hr.form
  obtain ⟨lv,lb,hlk⟩:∃ lv lb,lookM l nm=(lv,lb):=⟨_,_,rfl⟩
  rw [hlk]
  have HLK:Hid (lookM l nm=(lv,lb)):=hlk
  have HR:Hid (KR pprE w (.slice P l.length c) l):=hr
  have HL:Hid (l.length ≤ 4611686018427387000):=hl
  clear hr hl hlk
  go_enter Tryz.func13,Tryz.ntmps13
  go_wp2
  go_loopw [6] (fun ci wx=>∃ j:Nat,j ≤ l.length∧ci=.int .i64 (j:Int)∧(∀ y ∈ l.take j,y.1 ≠ nm)∧wx=w) (fun ci _=>l.length - (intOf ci).toNat)
  case atStart=>exact ⟨0,Nat.zero_le _,rfl,fun y hy=>by simp at hy,rfl⟩
  case round =>
    obtain ⟨j,hj,rfl,hno,hwe⟩:=hrel
    subst hwe
    have HNO:Hid (∀ y ∈ l.take j,y.1 ≠ nm):=hno
    clear hno
    by_cases hlt:j < l.length
    · obtain ⟨g,o,c',he,hc⟩:=HR.out.cell pprOk hlt
      injection he with h1 _ h2
      subst h1
      have hat:=find_at24 HNO.out hlt
      obtain ⟨⟨X1,X2⟩,hX⟩:∃ X,l[j]=X:=⟨_,rfl⟩
      have HNX:Hid (X1 ≠ nm → ∀ y ∈ l.take (j + 1),y.1 ≠ nm):=fun hne y hy=>by
        rw [List.take_add_one,List.getElem?_eq_getElem hlt,List.mem_append] at hy
        rcases hy with hy | hy
        · exact HNO.out y hy
        · have:y=l[j]:=by simpa using hy
          rw [this,hX]; exact hne
      have HLT:Hid (j < l.length):=hlt
      rw [hX] at hc hat
      have x0:wr.cell? ⟨g,o + j * 2,none⟩=some (.string X1):=hc 0 _ rfl
      have x2:wr.cell? ⟨g,o + j * 2 + 1,none⟩=some (.string X2):=hc 1 _ rfl
      have hz0:(0:Int) ≤ (j:Int):=by omega
      have hz1:(j:Int) < (l.length:Int):=by omega
      have hiw:IntKind.i64.wrap ((j:Int) + 1)=(j:Int) + 1:=by have:=HL.out; rw [IntKind.wrap_i64] <;> omega
      clear hc h2
      by_cases he:X1=nm
      · have hv:=hat he
        rw [HLK.out] at hv
        injection hv with hv1 hv2
        subst hv1 hv2
        have q1:(X1.toList == nm.toList)=true:=str_same (by rw [he])
        clear hat HNX hX hlt
        go_wp2
        go_returns
        exact ⟨rfl,rfl⟩
      · have q1:(X1.toList == nm.toList)=false:=str_other (ba_ne he)
        have HNE:Hid (∀ y ∈ l.take (j + 1),y.1 ≠ nm):=HNX.out he
        clear hat HNX hX hlt
        go_wp2
        go_roundw
        case rel=>exact ⟨j + 1,HLT.out,rfl,HNE.out,by first | rfl | trivial⟩
        case measure=>have:=HLT.out; simp [intOf]; omega
    · have he:j=l.length:=by omega
      subst he
      have hv:=find_no24 (l:=l) (nm:=nm) (fun y hy=>HNO.out y (by rw [List.take_length]; exact hy))
      rw [HLK.out] at hv
      injection hv with hv1 hv2
      subst hv1 hv2
      clear hlt hj
      go_wp2
      go_returns
      exact ⟨rfl,rfl⟩
structure Qo where
  k:Int
  t:ByteArray
  m:Int
  a:Int
  p:List Int
  n:ByteArray
structure QoOk (o:Qo):Prop where
  t:o.t.size ≤ 140737488355328
  n:o.n.size ≤ 140737488355328
  p:o.p.length ≤ 17592186044416
  m:-9223372036854775808 ≤ o.m∧o.m ≤ 9223372036854775807
def qoV (o:Qo) (pv:Value):Value:=.agg #[.int .i64 o.k,.string o.t,.int .i64 o.m,.int .i64 o.a,pv,.string o.n]
def qoArr (o:Qo) (pv:Value):Array Value:=#[.int .i64 o.k,.string o.t,.int .i64 o.m,.int .i64 o.a,pv,.string o.n]
theorem szQ:(Tryz.prog.info? 47).map (·.size)=some 6:=by kernel_rfl
theorem row6 {W:World} {g T:Nat} {a0 a1 a2 a3 a4 a5:Value} (h:W.heap[g]?=some (.cells #[a0,a1,a2,a3,a4,a5] T)):W.cell? ⟨g,0,none⟩=some a0∧W.cell? ⟨g,1,none⟩=some a1∧W.cell? ⟨g,2,none⟩=some a2∧W.cell? ⟨g,3,none⟩=some a3∧W.cell? ⟨g,4,none⟩=some a4∧W.cell? ⟨g,5,none⟩=some a5:=by
  refine ⟨?_,?_,?_,?_,?_,?_⟩ <;> (rw [cell_of_row _ _ _ _ _ _ h]; rfl)
def ownM (o:Qo):Bool:=decide (o.k ≠ 7) || isTmp o.n
theorem temp_list:({ data:=#[116,101,109,112,45] }:ByteArray).toList=[116,101,109,112,45]:=by rw [ByteArray.toList_eq]
set_option maxHeartbeats 2000000 in
set_option maxRecDepth 100000 in
theorem own24_any (o:Qo) (ok:QoOk o) (pv:Value) (hpv:∃ Q n c,pv=.slice Q n c) (w:World):Calls Tryz.prog 16 #[qoV o pv] w fun e w'=>e=.returned (.bool (ownM o))∧Below w.heap.size w w':=by
  obtain ⟨Q,np,c,rfl⟩:=hpv
  obtain ⟨k,t,m,a,p,n⟩:=o
  obtain ⟨ot,on,op,om⟩:=ok
  simp only at ot on op om
  obtain ⟨W0,hW0⟩:∃ W0,w.alloc (.cells #[.int .i64 k,.string t,.int .i64 m,.int .i64 a,.slice Q np c,.string n] 47)=W0:=⟨_,rfl⟩
  obtain ⟨R,hR⟩:∃ R,w.heap.size=R:=⟨_,rfl⟩
  have HB0:Hid (Below w.heap.size w W0):=by show Below _ _ _; rw [← hW0]; exact (Below.refl _ _).alloc (Nat.le_refl _) _
  have hr0:W0.heap[R]?=some (.cells #[.int .i64 k,.string t,.int .i64 m,.int .i64 a,.slice Q np c,.string n] 47):=by rw [← hW0,← hR]; exact one_alloc _ _
  obtain ⟨c0,c1,c2,c3,c4,c5⟩:=row6 hr0
  have HV:Hid (ownM ⟨k,t,m,a,p,n⟩=(decide (k ≠ 7) || isTmp n)):=rfl
  unfold qoV
  simp only
  clear hr0 ot op om
  by_cases hk:k=7
  · subst hk
    by_cases h5:5 ≤ n.size
    · have hi:(5:Int) ≤ (n.size:Int):=by omega
      have HE:Hid (isTmp n=decide (n.extract 0 5=⟨#[116,101,109,112,45]⟩)):=by
        show _=_
        unfold isTmp
        rw [decide_eq_true h5,Bool.true_and]
      by_cases he:n.extract 0 5=⟨#[116,101,109,112,45]⟩
      · have q1:((n.extract 0 5).toList == [116,101,109,112,45])=true:=by rw [← temp_list]; exact str_same (by rw [he])
        have HW:Hid (ownM ⟨7,t,m,a,p,n⟩=true):=by show _=_; rw [HV.out,HE.out,decide_eq_true he]; rfl
        clear HV HE he
        go_enter Tryz.func16,Tryz.ntmps16
        go_upto_region 1 with fail
        clear hW0
        go_wp2
        go_returns
        exact ⟨by rw [HW.out]; rfl,by first | exact HB0.out | (rw [← hR]; exact HB0.out)⟩
      · have q1:((n.extract 0 5).toList == [116,101,109,112,45])=false:=by rw [← temp_list]; exact str_other (ba_ne he)
        have HW:Hid (ownM ⟨7,t,m,a,p,n⟩=false):=by show _=_; rw [HV.out,HE.out,decide_eq_false he]; rfl
        clear HV HE he
        go_enter Tryz.func16,Tryz.ntmps16
        go_upto_region 1 with fail
        clear hW0
        go_wp2
        go_returns
        exact ⟨by rw [HW.out]; rfl,by first | exact HB0.out | (rw [← hR]; exact HB0.out)⟩
    · have hi:¬ (5:Int) ≤ (n.size:Int):=by omega
      have HW:Hid (ownM ⟨7,t,m,a,p,n⟩=false):=by
        show _=_
        rw [HV.out]
        unfold isTmp
        rw [decide_eq_false h5]
        rfl
      clear HV
      go_enter Tryz.func16,Tryz.ntmps16
      go_upto_region 1 with fail
      clear hW0
      go_wp2
      go_returns
      exact ⟨by rw [HW.out]; rfl,by first | exact HB0.out | (rw [← hR]; exact HB0.out)⟩
  · have hb:(k != 7)=true:=bne_iff_ne.mpr hk
    have HW:Hid (ownM ⟨k,t,m,a,p,n⟩=true):=by show _=_; rw [HV.out,decide_eq_true hk]; rfl
    clear HV hk
    go_enter Tryz.func16,Tryz.ntmps16
    go_upto_region 1 with fail
    clear hW0
    go_wp2
    go_returns
    exact ⟨by rw [HW.out]; rfl,by first | exact HB0.out | (rw [← hR]; exact HB0.out)⟩
end Go.Proofs.YtbgbmfmgdgalbaaGreatDoor
namespace Go.Proofs.YtbgbmfmgdgalbaaGreatDoor
open Go.RowKit Go.Maps
set_option linter.unusedVariables false
set_option linter.unusedSimpArgs false
theorem St.more24 {w0 W:World} {g:Nat} {X:Gh} {F:Fs} {i j:Nat} (h:St w0 W g X F i) (hj:i ≤ j):St w0 W g X F j:=⟨⟨h.fs,Nat.le_trans h.q hj,h.bel,h.own⟩,Nat.le_trans h.st hj,Nat.le_trans h.fi hj,Nat.le_trans h.ch hj,h.pk⟩
theorem cal_of {w0 W:World} {g i j:Nat} {X:Gh} {F F':Fs} {r:Int} {e:Ending} {w':World} (h:BcP w0 W g X F F' r i e w') (hj:i + 1 ≤ j):CalP w0 W g X F F' j (.int .i64 r) e w':=by
  obtain ⟨he,X',hs,hb⟩:=h
  exact ⟨he,X',hs.more24 hj,Bt.of hb⟩
theorem cal_more {w0 W:World} {g i j:Nat} {X:Gh} {F F':Fs} {v:Value} {e:Ending} {w':World} (h:CalP w0 W g X F F' i v e w') (hj:i ≤ j):CalP w0 W g X F F' j v e w':=by
  obtain ⟨he,X',hs,hb⟩:=h
  exact ⟨he,X',hs.more24 hj,hb⟩
theorem create_cal {w0 W:World} {g i:Nat} {X:Gh} {F:Fs} {n:ByteArray} (h:St w0 W g X F i) (hi:i < 3298534883000) (hn:n.size ≤ 140737488355328):Calls Tryz.prog 82 #[ptr (some g),.string n] W (CalP w0 W g X F (createM F n).1 (i + 1) (.int .i64 (createM F n).2)):=
  (Create_any goDownC g X F n hn W h.fs (h.sm (by omega)) (by have:=h.st; omega) (by have:=h.fi; omega) h.pk).mono fun e w' hh=>cal_of (bc_of h (createM_gp _ F n) hh.1 hh.2) (Nat.le_refl _)
theorem append_cal {w0 W:World} {g i:Nat} {X:Gh} {F:Fs} {n d:ByteArray} (h:St w0 W g X F i) (hi:i < 3298534883000) (hn:n.size ≤ 140737488355328) (hd:d.size ≤ 140737488355328):Calls Tryz.prog 83 #[ptr (some g),.string n,.string d] W (CalP w0 W g X F (appendM F n d).1 (i + 1) (.int .i64 (appendM F n d).2)):=
  (Append_any goDownC g X F n d hn hd W h.fs (h.sm (by omega)) (by have:=h.st; omega) h.pk).mono fun e w' hh=>cal_of (bc_of h (appendM_gp _ F n d) hh.1 hh.2) (Nat.le_refl _)
theorem fails_cal {w0 W:World} {g i:Nat} {X:Gh} {F:Fs} {n p:Int} (h:St w0 W g X F i) (hi:i < 3298534883000):Calls Tryz.prog 15 #[ptr (some g),.int .i64 n,.int .i64 p] W (CalP w0 W g X F (failsM F n p).1 (i + 1) (.int .i64 (failsM F n p).2)):=
  (Fail_any g X F n p W h.fs (h.sm (by omega))).mono fun e w' hh=>cal_of (bc_of h (failsM_gp _ F n p) hh.1 hh.2) (Nat.le_refl _)
theorem crash_cal {w0 W:World} {g i:Nat} {X:Gh} {F:Fs} {n:Int} {p:List Int} {pv:Value} (h:St w0 W g X F i) (hi:i < 3298534883000) (hp:p.length ≤ 17592186044416) (hv:Pks W (Own g F X) pv p):Calls Tryz.prog 18 #[ptr (some g),.int .i64 n,pv] W (CalP w0 W g X F (crashM F n p).1 (i + 1) (.int .i64 (crashM F n p).2)):=
  (Crash_any g X F n pv p hp W h.fs (h.sm (by omega)) hv).mono fun e w' hh=>cal_of (bc_of h (crashM_gp _ F n p hp) hh.1 hh.2) (Nat.le_refl _)
theorem start_cal {w0 W:World} {g i:Nat} {X:Gh} {F:Fs} (h:St w0 W g X F i):Calls Tryz.prog 19 #[ptr (some g)] W (CalP w0 W g X F (startM F).1 (i + 1) (.int .i64 (startM F).2)):=
  (Start_any g X F W h.fs).mono fun e w' hh=>cal_of (bc_of h (startM_gp _ F) hh.1 ⟨X,hh.2⟩) (Nat.le_refl _)
def plantM (F:Fs) (n t:ByteArray):Fs × Int:=andM (createM F n) fun G=>appendM G n t
def doneL (F:Fs) (o:Qo):Fs × Int:=if o.k=0 then saveM F o.t o.m else if o.k=1 then ((loadM F).1,(loadM F).2.2.2) else if o.k=2 then ((tidyM F).1,(tidyM F).2.2) else if o.k=4 then failsM F o.m o.a else if o.k=5 then crashM F o.m o.p else if o.k=6 then startM F else if o.k=7 then plantM F o.n o.t else (F,0)
theorem ldQ {ops:Array Oper} {rest:List Oper} {op:Oper} {a:Act} {w:World} {Q:Exit → Act → World → Prop} (C:Array Value) (r:Nat) (x:Operand) (hg:op.guard=none) (ho:op.op=.load 47 x) (hx:a.eval x=.pointer (some ⟨r,0,none⟩)) (hc:w.heap[r]?=some (.cells C 47)) (h6:C.size=6) (h:wpList Tryz.prog ops Q rest (a.put op.dst (.agg C)) w):wpList Tryz.prog ops Q (op :: rest) a w:=by
  refine wpList_load_mid hg _ x ho r 0 hx C.toList _ (fun j v hv=>by rw [cell_of_row _ _ _ _ _ _ hc]; simpa using hv) Tryz.underlying47 rfl (by rw [Array.length_toList,h6]; exact szQ) ?_
  rw [Array.toArray_toList]
  exact h
set_option maxHeartbeats 4000000 in
set_option maxRecDepth 100000 in
theorem planted24_any {w0 w:World} {g i:Nat} {X:Gh} {F:Fs} {o:Qo} {pv:Value} {C:Array Value} (h:St w0 w g X F i) (hi:i + 2 < 3298534883000) (hC:C=qoArr o pv) (ok:QoOk o) (hpv:∃ Q n c,pv=.slice Q n c) :
    Calls Tryz.prog 40 #[ptr (some g),.agg C] w (CalP w0 w g X F (plantM F o.n o.t).1 (i + 2) (.int .i64 (plantM F o.n o.t).2)):=by
  obtain ⟨Q,np,c,rfl⟩:=hpv
  subst hC
  obtain ⟨k,t,m,a,p,n⟩:=o
  obtain ⟨ot,on,op,om⟩:=ok
  simp only at ot on op om
  obtain ⟨W0,hW0⟩:∃ W0,w.alloc (.cells #[.int .i64 k,.string t,.int .i64 m,.int .i64 a,.slice Q np c,.string n] 47)=W0:=⟨_,rfl⟩
  obtain ⟨R,hR⟩:∃ R,w.heap.size=R:=⟨_,rfl⟩
  have HB0:Hid (Below w.heap.size w W0):=by show Below _ _ _; rw [← hW0]; exact (Below.refl _ _).alloc (Nat.le_refl _) _
  have HR0:Hid (W0.heap[R]?=some (.cells #[.int .i64 k,.string t,.int .i64 m,.int .i64 a,.slice Q np c,.string n] 47)):=by show _=_; rw [← hW0,← hR]; exact one_alloc _ _
  obtain ⟨c0,c1,c2,c3,c4,c5⟩:=row6 HR0.out
  have H0:Hid (St w0 W0 g X F i):=h.on HB0.out
  have HWR:Hid (R < W0.heap.size):=row_lt HR0.out
  have HNO:Hid (¬ Own g F X R):=fun hq=>by have:=h.fs.own_lt hq; omega
  obtain ⟨F1,e1,hc1⟩:∃ F1 e1,createM F n=(F1,e1):=⟨_,_,rfl⟩
  have HC1:Hid (Calls Tryz.prog 82 #[.pointer (some ⟨g,0,none⟩),.string n] W0 (CalP w0 W0 g X F F1 (i + 1) (.int .i64 e1))):=by
    have:=create_cal (n:=n) H0.out (by omega) on
    rw [hc1] at this
    exact this
  have HPL:Hid (plantM F n t=if e1=0 then appendM F1 n t else (F1,e1)):=by
    show _=_
    unfold plantM andM
    rw [hc1]
  have HAP:Hid (∀ W X1,St w0 W g X1 F1 (i + 1) → Calls Tryz.prog 83 #[.pointer (some ⟨g,0,none⟩),.string n,.string t] W (CalP w0 W g X1 F1 (appendM F1 n t).1 (i + 2) (.int .i64 (appendM F1 n t).2))):=fun W X1 h1=>append_cal h1 (by omega) on ot
  clear h hi ot on op om hc1
  unfold ptr qoArr
  simp only
  go_enter Tryz.func40,Tryz.ntmps40
  go_upto_region 1 with fail
  clear hW0
  try rw [hR]
  go_wp2_with fail
  refine (show Calls _ _ _ _ _ from HC1.out).mono ?_
  rintro e w1 ⟨rfl,X1,hs1,hb1⟩
  have HS1:Hid (St w0 w1 g X1 F1 (i + 1)):=hs1
  have HB1:Hid (Bt w g X F w1 X1 F1):=Bt.pre HB0.out hb1
  have HR1:Hid (w1.heap[R]?=some (.cells #[.int .i64 k,.string t,.int .i64 m,.int .i64 a,.slice Q np c,.string n] 47)):=hb1.md.row HR0.out HNO.out
  clear c0 c1 c2 c3 c4 c5 hs1 hb1
  obtain ⟨c0,c1,c2,c3,c4,c5⟩:=row6 HR1.out
  by_cases h0:e1=0
  · subst h0
    have HV:Hid (plantM F n t=appendM F1 n t):=by show _=_; rw [HPL.out,if_pos rfl]
    obtain ⟨F2,e2,hc2⟩:∃ F2 e2,appendM F1 n t=(F2,e2):=⟨_,_,rfl⟩
    have HQ:Hid (Calls Tryz.prog 83 #[.pointer (some ⟨g,0,none⟩),.string n,.string t] w1 (CalP w0 w1 g X1 F1 F2 (i + 2) (.int .i64 e2))):=by
      have:=HAP.out w1 X1 HS1.out
      rw [hc2] at this
      exact this
    have HV2:Hid (plantM F n t=(F2,e2)):=by show _=_; rw [HV.out,hc2]
    clear HPL HAP HV hc2
    go_wp2_with fail
    refine (show Calls _ _ _ _ _ from HQ.out).mono ?_
    rintro e w2 ⟨rfl,X2,hs2,hb2⟩
    have HS2:Hid (St w0 w2 g X2 F2 (i + 2)):=hs2
    have HB2:Hid (Bt w g X F w2 X2 F2):=HB1.out.trans hb2
    clear hs2 hb2
    go_wp2
    go_returns
    rw [HV2.out]
    exact ⟨rfl,X2,HS2.out,HB2.out⟩
  · have HV:Hid (plantM F n t=(F1,e1)):=by show _=_; rw [HPL.out,if_neg h0]
    have heb:(e1 == 0)=false:=beq_eq_false_iff_ne.mpr h0
    clear HPL HAP h0
    go_wp2
    go_returns
    rw [HV.out]
    exact ⟨rfl,X1,HS1.out.more24 (by omega),HB1.out⟩
set_option maxHeartbeats 8000000 in
set_option maxRecDepth 100000 in
theorem done24_any (hSV:SaveC) (hLD:LoadC) (hTD:TidyC) {w0 w:World} {g i:Nat} {X:Gh} {F:Fs} {o:Qo} {pv:Value} {C:Array Value} (h:St w0 w g X F i) (hI:Inv F i) (hi:i + 32830 ≤ 3298534883000) (hC:C=qoArr o pv) (ok:QoOk o) (hv:Pks w (Own g F X) pv o.p) :
    Calls Tryz.prog 17 #[ptr (some g),.agg C] w (CalP w0 w g X F (doneL F o).1 (i + 32830) (.int .i64 (doneL F o).2)):=by
  obtain ⟨Q,c,rfl⟩:=hv.form
  subst hC
  obtain ⟨k,t,m,a,p,n⟩:=o
  obtain ⟨ot,on,op,om⟩:=ok
  simp only at ot on op om hv
  obtain ⟨W0,hW0⟩:∃ W0,w.alloc (.cells #[.int .i64 k,.string t,.int .i64 m,.int .i64 a,.slice Q p.length c,.string n] 47)=W0:=⟨_,rfl⟩
  obtain ⟨R,hR⟩:∃ R,w.heap.size=R:=⟨_,rfl⟩
  have HB0:Hid (Below w.heap.size w W0):=by show Below _ _ _; rw [← hW0]; exact (Below.refl _ _).alloc (Nat.le_refl _) _
  have HR0:Hid (W0.heap[R]?=some (.cells #[.int .i64 k,.string t,.int .i64 m,.int .i64 a,.slice Q p.length c,.string n] 47)):=by show _=_; rw [← hW0,← hR]; exact one_alloc _ _
  obtain ⟨c0,c1,c2,c3,c4,c5⟩:=row6 HR0.out
  have h0:St w0 W0 g X F i:=h.on HB0.out
  have hv0:=hv.on HB0.out
  unfold qoArr doneL
  simp only
  by_cases e0:k=0
  · subst e0
    rw [if_pos rfl]
    have HX:Hid (Calls Tryz.prog 9 #[ptr (some g),.string t,.int .i64 m] W0 (CalP w0 W0 g X F (saveM F t m).1 (i + 32830) (.int .i64 (saveM F t m).2))):=hSV w0 W0 g X F i t m h0 hI hi ot om
    generalize saveM F t m=M at *
    clear h hI hi ot on op om hv h0 hv0 hSV hLD hTD
    unfold ptr at HX ⊢
    go_enter Tryz.func17,Tryz.ntmps17
    go_upto_region 1 with fail
    clear hW0
    try rw [hR]
    go_wp2_with fail
    refine (show Calls _ _ _ _ _ from HX.out).mono ?_
    rintro e w1 ⟨rfl,X1,hs,hB⟩
    have HS:Hid (St w0 w1 g X1 M.1 (i + 32830)):=hs
    have HB:Hid _:=Bt.pre HB0.out hB
    clear hs hB
    go_wp2
    go_returns
    exact ⟨rfl,X1,HS.out,HB.out⟩
  rw [if_neg e0]
  by_cases e1:k=1
  · subst e1
    rw [if_pos rfl]
    have HX:Hid (Calls Tryz.prog 11 #[ptr (some g)] W0 (CalP w0 W0 g X F (loadM F).1 (i + 32830) (.tuple #[.string (loadM F).2.1,.bool (loadM F).2.2.1,.int .i64 (loadM F).2.2.2]))):=(hLD w0 W0 g X F i h0 hI hi).mono (fun e w' q=>cal_more q (by omega))
    generalize loadM F=M at *
    clear e0 h hI hi ot on op om hv h0 hv0 hSV hLD hTD
    unfold ptr at HX ⊢
    go_enter Tryz.func17,Tryz.ntmps17
    go_upto_region 1 with fail
    clear hW0
    try rw [hR]
    go_wp2_with fail
    refine (show Calls _ _ _ _ _ from HX.out).mono ?_
    rintro e w1 ⟨rfl,X1,hs,hB⟩
    have HS:Hid (St w0 w1 g X1 M.1 (i + 32830)):=hs
    have HB:Hid _:=Bt.pre HB0.out hB
    clear hs hB
    go_wp2
    go_returns
    exact ⟨rfl,X1,HS.out,HB.out⟩
  rw [if_neg e1]
  by_cases e2:k=2
  · subst e2
    rw [if_pos rfl]
    have HX:Hid (Calls Tryz.prog 33 #[ptr (some g)] W0 (CalP w0 W0 g X F (tidyM F).1 (i + 32830) (.tuple #[.int .i64 (tidyM F).2.1,.int .i64 (tidyM F).2.2]))):=(hTD w0 W0 g X F i h0 hI hi).mono (fun e w' q=>cal_more q (by omega))
    generalize tidyM F=M at *
    clear e0 e1 h hI hi ot on op om hv h0 hv0 hSV hLD hTD
    unfold ptr at HX ⊢
    go_enter Tryz.func17,Tryz.ntmps17
    go_upto_region 1 with fail
    clear hW0
    try rw [hR]
    go_wp2_with fail
    refine (show Calls _ _ _ _ _ from HX.out).mono ?_
    rintro e w1 ⟨rfl,X1,hs,hB⟩
    have HS:Hid (St w0 w1 g X1 M.1 (i + 32830)):=hs
    have HB:Hid _:=Bt.pre HB0.out hB
    clear hs hB
    go_wp2
    go_returns
    exact ⟨rfl,X1,HS.out,HB.out⟩
  rw [if_neg e2]
  by_cases e4:k=4
  · subst e4
    rw [if_pos rfl]
    have HX:Hid (Calls Tryz.prog 15 #[ptr (some g),.int .i64 m,.int .i64 a] W0 (CalP w0 W0 g X F (failsM F m a).1 (i + 32830) (.int .i64 (failsM F m a).2))):=(fails_cal h0 (by omega)).mono (fun e w' q=>cal_more q (by omega))
    generalize failsM F m a=M at *
    clear e0 e1 e2 h hI hi ot on op om hv h0 hv0 hSV hLD hTD
    unfold ptr at HX ⊢
    go_enter Tryz.func17,Tryz.ntmps17
    go_upto_region 1 with fail
    clear hW0
    try rw [hR]
    go_wp2_with fail
    refine (show Calls _ _ _ _ _ from HX.out).mono ?_
    rintro e w1 ⟨rfl,X1,hs,hB⟩
    have HS:Hid (St w0 w1 g X1 M.1 (i + 32830)):=hs
    have HB:Hid _:=Bt.pre HB0.out hB
    clear hs hB
    go_wp2
    go_returns
    exact ⟨rfl,X1,HS.out,HB.out⟩
  rw [if_neg e4]
  by_cases e5:k=5
  · subst e5
    rw [if_pos rfl]
    have HX:Hid (Calls Tryz.prog 18 #[ptr (some g),.int .i64 m,.slice Q p.length c] W0 (CalP w0 W0 g X F (crashM F m p).1 (i + 32830) (.int .i64 (crashM F m p).2))):=(crash_cal h0 (by omega) op hv0).mono (fun e w' q=>cal_more q (by omega))
    generalize crashM F m p=M at *
    clear e0 e1 e2 e4 h hI hi ot on op om hv h0 hv0 hSV hLD hTD
    unfold ptr at HX ⊢
    go_enter Tryz.func17,Tryz.ntmps17
    go_upto_region 1 with fail
    clear hW0
    try rw [hR]
    go_wp2_with fail
    refine (show Calls _ _ _ _ _ from HX.out).mono ?_
    rintro e w1 ⟨rfl,X1,hs,hB⟩
    have HS:Hid (St w0 w1 g X1 M.1 (i + 32830)):=hs
    have HB:Hid _:=Bt.pre HB0.out hB
    clear hs hB
    go_wp2
    go_returns
    exact ⟨rfl,X1,HS.out,HB.out⟩
  rw [if_neg e5]
  by_cases e6:k=6
  · subst e6
    rw [if_pos rfl]
    have HX:Hid (Calls Tryz.prog 19 #[ptr (some g)] W0 (CalP w0 W0 g X F (startM F).1 (i + 32830) (.int .i64 (startM F).2))):=(start_cal h0).mono (fun e w' q=>cal_more q (by omega))
    generalize startM F=M at *
    clear e0 e1 e2 e4 e5 h hI hi ot on op om hv h0 hv0 hSV hLD hTD
    unfold ptr at HX ⊢
    go_enter Tryz.func17,Tryz.ntmps17
    go_upto_region 1 with fail
    clear hW0
    try rw [hR]
    go_wp2_with fail
    refine (show Calls _ _ _ _ _ from HX.out).mono ?_
    rintro e w1 ⟨rfl,X1,hs,hB⟩
    have HS:Hid (St w0 w1 g X1 M.1 (i + 32830)):=hs
    have HB:Hid _:=Bt.pre HB0.out hB
    clear hs hB
    go_wp2
    go_returns
    exact ⟨rfl,X1,HS.out,HB.out⟩
  rw [if_neg e6]
  by_cases e7:k=7
  · subst e7
    rw [if_pos rfl]
    have HX:Hid (Calls Tryz.prog 40 #[ptr (some g),.agg #[.int .i64 7,.string t,.int .i64 m,.int .i64 a,.slice Q p.length c,.string n]] W0 (CalP w0 W0 g X F (plantM F n t).1 (i + 32830) (.int .i64 (plantM F n t).2))):=(planted24_any (o:=⟨7,t,m,a,p,n⟩) h0 (by omega) rfl ⟨ot,on,op,om⟩ ⟨_,_,_,rfl⟩).mono (fun e w' q=>cal_more q (by omega))
    generalize plantM F n t=M at *
    clear e0 e1 e2 e4 e5 e6 h hI hi ot on op om hv h0 hv0 hSV hLD hTD
    unfold ptr at HX ⊢
    go_enter Tryz.func17,Tryz.ntmps17
    go_upto_region 1 with fail
    clear hW0
    try rw [hR]
    go_wp2_with (refine ldQ _ R _ rfl rfl rfl HR0.out rfl ?_)
    refine (show Calls _ _ _ _ _ from HX.out).mono ?_
    rintro e w1 ⟨rfl,X1,hs,hB⟩
    have HS:Hid (St w0 w1 g X1 M.1 (i + 32830)):=hs
    have HB:Hid _:=Bt.pre HB0.out hB
    clear hs hB
    go_wp2
    go_returns
    exact ⟨rfl,X1,HS.out,HB.out⟩
  rw [if_neg e7]
  have HS:Hid (St w0 W0 g X F (i + 32830)):=h0.more24 (by omega)
  have HB:Hid (Bt w g X F W0 X F):=Bt.pre HB0.out (Bt.refl _ _ _ _)
  have n0:(k == 0)=false:=beq_eq_false_iff_ne.mpr e0
  have n1:(k == 1)=false:=beq_eq_false_iff_ne.mpr e1
  have n2:(k == 2)=false:=beq_eq_false_iff_ne.mpr e2
  have n4:(k == 4)=false:=beq_eq_false_iff_ne.mpr e4
  have n5:(k == 5)=false:=beq_eq_false_iff_ne.mpr e5
  have n6:(k == 6)=false:=beq_eq_false_iff_ne.mpr e6
  have n7:(k == 7)=false:=beq_eq_false_iff_ne.mpr e7
  clear e0 e1 e2 e4 e5 e6 e7 h hI hi ot on op om hv h0 hv0 hSV hLD hTD
  unfold ptr
  go_enter Tryz.func17,Tryz.ntmps17
  go_upto_region 1 with fail
  clear hW0
  try rw [hR]
  go_wp2
  go_returns
  exact ⟨rfl,X,HS.out,HB.out⟩
end Go.Proofs.YtbgbmfmgdgalbaaGreatDoor
