import Derived.Test.YtbgbmfmgdgalbaaGreatDoorM25
namespace Go.Proofs.YtbgbmfmgdgalbaaGreatDoor
open Go.RowKit Go.Maps
set_option linter.unusedVariables false
set_option linter.unusedSimpArgs false
def MyR (b:Nat) (W:World) (v:Value) (L:List (ByteArray × Bool)) (n:Nat):Prop:=L.length=n∧W.ownsRow b 53 2 v n (pstE.fl L)
theorem MyR.on {b n:Nat} {W W':World} {v:Value} {L:List (ByteArray × Bool)} (h:MyR b W v L n) (hb:Below W.heap.size W W'):MyR b W' v L n:=⟨h.1,own_bel h.2 hb⟩
theorem MyR.mod {b n:Nat} {W W':World} {v:Value} {L:List (ByteArray × Bool)} {g:Nat} {X:Gh} {F:Fs} (h:MyR b W v L n) (hf:FsC W g X F) (hm:ModP (Own g F X) W W'):MyR b W' v L n:=⟨h.1,own_to h.2 (fun k hk=>by
  obtain ⟨cur,hc⟩:=own_type h.2 hk
  exact hm.oth k (row_lt hc) (fun ho=>by have:=hf.own_ty ho hc; exact absurd this (by unfold tyOwn; decide)))⟩
theorem MyR.kr {b n:Nat} {W:World} {v:Value} {L:List (ByteArray × Bool)} (h:MyR b W v L n):KR pstE W v L:=KR.own (E:=pstE) (by have:=h.2; rw [← h.1] at this; exact this) rfl
theorem MyR.lit {b:Nat} {W:World} (s:ByteArray) (x:Bool) (hb:b ≤ W.heap.size):MyR b (W.alloc (.cells #[.string s,.bool x] 53)) (.slice (some ⟨W.heap.size,0,none⟩) 1 1) [(s,x)] 1:=
  ⟨rfl,rfl,Or.inr ⟨W.heap.size,1,_,rfl,hb,one_alloc _ _,Nat.le_refl _,by unfold maxLen; omega,rfl,rfl⟩⟩
theorem St.past {w0 W W':World} {g n:Nat} {X:Gh} {F:Fs} {i:Nat} {v:Value} {L:List (ByteArray × Bool)} (h:St w0 W g X F i) (hr:MyR w0.heap.size W v L n) (hg:W.grownBy W' v.ownBlock):St w0 W' g X F i:=
  h.atS (S:=fun k=>v.ownBlock=some k) (ModP.grown hg (fun b hb=>hb)) (fun k hk ho=>by
    obtain ⟨cur,hc⟩:=own_type hr.2 hk
    have:=h.fs.own_ty ho hc
    exact absurd this (by unfold tyOwn; decide)) (fun k cs t fz hk hc=>by
    obtain ⟨cur,hc2⟩:=own_type hr.2 hk
    have:=hc.symm.trans hc2
    injection this with this
    injection this with _ h3
    rw [h3]
    decide) (fun k hk=>(World.ownsRow.lt hr.2 k hk).1)
theorem qo_mod {W W':World} {R:Nat} {C:Array Value} {g:Nat} {X:Gh} {F:Fs} (h:W.heap[R]?=some (.cells C 47)) (hf:FsC W g X F) (hm:ModP (Own g F X) W W'):W'.heap[R]?=some (.cells C 47):=(hm.oth R (row_lt h) (fun ho=>by have:=hf.own_ty ho h; exact absurd this (by unfold tyOwn; decide))).trans h
theorem qo_grown {W W':World} {R b n:Nat} {C:Array Value} {v:Value} {L:List (ByteArray × Bool)} (h:W.heap[R]?=some (.cells C 47)) (hr:MyR b W v L n) (hg:W.grownBy W' v.ownBlock):W'.heap[R]?=some (.cells C 47):=(hg.block R (row_lt h) (fun e=>by
  obtain ⟨cur,hc⟩:=own_type hr.2 e.symm
  have:=hc.symm.trans h
  injection this with this
  injection this with _ h3 _
  exact absurd h3 (by decide))).trans h
def zQ:Array Value:=#[.int .i64 0,.string ByteArray.empty,.int .i64 0,.int .i64 0,.slice none 0 0,.string ByteArray.empty]
theorem stQ {ops:Array Oper} {rest:List Oper} {op:Oper} {a:Act} {w:World} {Q:Exit → Act → World → Prop} (hg:op.guard=none) (x y:Operand) (ho:op.op=.store 47 x y) (g:Nat) (C Z:Array Value) (hx:a.eval x=.pointer (some ⟨g,0,none⟩)) (hy:a.eval y=.agg C) (h7:C.size=6) (h1:C.all (·.oneCell')=true) (hZ:Z.size=6) (hr:w.heap[g]?=some (.cells Z 47)) (h:∀ W,W.heap[g]?=some (.cells C 47) → Only w W g → wpList Tryz.prog ops Q rest (a.put op.dst undef) W):wpList Tryz.prog ops Q (op :: rest) a w:=by
  refine wpList_store_mid hg 47 x y ho g 0 C hx hy ?_ (by rw [h7]; exact szQ) h1 ?_
  · intro j hj
    rw [h7] at hj
    refine ⟨?_,frozen_of_row _ _ _ _ _ hr⟩
    rw [cell_of_row _ _ _ _ _ _ hr]
    simp; omega
  have h3:=setCellsP g 47 C.toList [] Z.toList w (by simp [h7,hZ]) (by simpa using hr)
  rw [List.length_nil] at h3
  simp only [List.nil_append,Array.toArray_toList] at h3
  exact h _ h3.1 h3.2
theorem alQ {ops:Array Oper} {rest:List Oper} {op:Oper} {a:Act} {w:World} {Q:Exit → Act → World → Prop} (hg:op.guard=none) (ho:op.op=.alloc 47) (Z:Array Value) (hZ:Z=zQ) (h:wpList Tryz.prog ops Q rest (a.put op.dst (.pointer (some ⟨w.heap.size,0,none⟩))) (w.alloc (.cells Z 47))):wpList Tryz.prog ops Q (op :: rest) a w:=by
  subst hZ
  refine wpList_plain hg fun K hK=>?_
  unfold Oper.wp
  have:(execOp a.eval op).run Tryz.prog w=.ok (.value (.pointer (some ⟨w.heap.size,0,none⟩))) (w.alloc (.cells zQ 47)):=by
    unfold execOp
    rw [ho]
    kernel_rfl
  rw [this]
  exact hK _ _ h
def mayM (L:List (ByteArray × Bool)) (o:Qo) (e:Int):List (ByteArray × Bool):=if o.k=0 then (if 0 ≤ o.m∧o.m ≤ 8 then (if e=0 then [(o.t,true)] else L ++ [(o.t,true)]) else L) else L
theorem wh_doneL {F:Fs} {L:List (ByteArray × Bool)} (h:Wh F (fun x=>x ∈ L)) {o:Qo} (ho:ownM o=true):Wh (doneL F o).1 (fun x=>x ∈ mayM L o (doneL F o).2):=by
  unfold doneL mayM
  by_cases e0:o.k=0
  · simp only [e0,if_true]
    by_cases hm:0 ≤ o.m∧o.m ≤ 8
    · rw [if_pos hm]
      obtain ⟨h1,h2⟩:=(h.weak (M':=fun x=>x ∈ L ++ [(o.t,true)]) (fun x hx=>List.mem_append_left _ hx)).save (t:=o.t) (keep:=o.m) (fun _=>List.mem_append_right _ (List.mem_singleton.2 rfl))
      by_cases he:(saveM F o.t o.m).2=0
      · rw [if_pos he]
        exact (h2 he).weak (fun x hx=>List.mem_singleton.2 hx)
      · rw [if_neg he]
        exact h1
    · rw [if_neg hm,save_no (by omega)]
      exact h
  simp only [if_neg e0]
  by_cases e1:o.k=1
  · rw [if_pos e1]; exact h.load
  rw [if_neg e1]
  by_cases e2:o.k=2
  · rw [if_pos e2]; exact h.tidy
  rw [if_neg e2]
  by_cases e4:o.k=4
  · rw [if_pos e4]; exact h.fails _ _
  rw [if_neg e4]
  by_cases e5:o.k=5
  · rw [if_pos e5]; exact h.crash _ _
  rw [if_neg e5]
  by_cases e6:o.k=6
  · rw [if_pos e6]; exact h.start
  rw [if_neg e6]
  by_cases e7:o.k=7
  · rw [if_pos e7]
    have hn:o.n ≠ liveN:=by
      unfold ownM at ho
      rw [decide_eq_false (fun h=>h e7),Bool.false_or] at ho
      exact isTmp_live ho
    unfold plantM
    exact wh_and (h.create hn) (fun _ h2=>h2.append hn o.t)
  rw [if_neg e7]
  exact h
theorem wh_look {F:Fs} {M:ByteArray × Bool → Prop} (h:Wh F M):M (lookM (nowM F) liveN):=by
  have:=(h.w _ (Nat.le_refl _)).1
  rw [h.ok.now,past_view] at this
  rw [look_now h.ok]
  exact this
theorem crash_down (F:Fs) (p:List Int):(crashM F 0 p).1.down=true:=by
  unfold crashM
  by_cases hd:F.down=true
  · rw [if_pos hd]; exact hd
  · rw [if_neg hd,if_neg (by omega),if_pos rfl]; rfl
theorem crash_two {w0 W:World} {g gl i:Nat} {X Xg:Gh} {F:Fs} {p:List Int} {pv:Value} (hf:St w0 W gl Xg F i) (hg:St w0 W g X F i) (hd:∀ q,Own gl F Xg q → ¬ Own g F X q) (hi:i < 3298534883000) (hp:p.length ≤ 17592186044416) (hv:Pks W (Own gl F Xg) pv p):Calls Tryz.prog 18 #[ptr (some gl),.int .i64 0,pv] W fun e w'=>e=.returned (.int .i64 (crashM F 0 p).2)∧∃ Xg',St w0 w' gl Xg' (crashM F 0 p).1 (i + 1)∧St w0 w' g X F i∧ModP (Own gl F Xg) W w':=
  (Crash_any gl Xg F 0 pv p hp W hf.fs (hf.sm (by omega)) hv).mono fun e w' hh=>by
    obtain ⟨he,X',hs,hb⟩:=bc_of hf (crashM_gp _ F 0 p hp) hh.1 hh.2
    exact ⟨he,X',hs,(hf.aside hs hb hg (fun q h1 h2=>hd q h2 h1)).1,hb.md⟩
set_option maxHeartbeats 12000000 in
set_option maxRecDepth 100000 in
theorem Whole_walk (hSV:SaveC) (hLD:LoadC) (hTD:TidyC) (hOL:OlderC) (ad:Option Addr) (G off len cap:Nat) (pv:Value) (p:List Int) (w:World) (hA:len ≠ 0 → ad=some ⟨G,off,none⟩) (hL:len ≤ 1048576) (hO:∀ i,i < len → ∃ o pv,OpQ w.heap.size w G (off + i * 6) o pv) (hP:KR pinE w pv p) (hPL:p.length ≤ 1048576) (hPB:p ≠ [] → ∀ b x n c,pv=.slice (some ⟨b,x,none⟩) n c → b < w.heap.size) :
    Calls Tryz.prog 5 #[.slice ad len cap,pv] w fun e w'=>e=.returned (.bool true)∧Below w.heap.size w w':=by
  obtain ⟨PP,pc,rfl⟩:=hP.form
  have HNW:Hid _:=NewW_any w
  have HWK:Hid (∀ W,Calls Tryz.prog 8 #[] W fun e w'=>e=.returned (.bool true)∧Below W.heap.size W w'):=works24_any hSV hLD hOL
  have HOW:Hid (∀ o (ok:QoOk o) pv (hpv:∃ Q n c,pv=Value.slice Q n c) W,Calls Tryz.prog 16 #[qoV o pv] W fun e w'=>e=.returned (.bool (ownM o))∧Below W.heap.size W w'):=own24_any
  have HDN:Hid (∀ {W:World} {g i:Nat} {X:Gh} {F:Fs} {o:Qo} {pv:Value} {C:Array Value},St w W g X F i → Inv F i → i + 32830 ≤ 3298534883000 → C=qoArr o pv → QoOk o → Pks W (Own g F X) pv o.p → Calls Tryz.prog 17 #[.pointer (some ⟨g,0,none⟩),.agg C] W (CalP w W g X F (doneL F o).1 (i + 32830) (.int .i64 (doneL F o).2))):=fun a b c d e f=>done24_any hSV hLD hTD a b c d e f
  have HO:Hid _:=hO
  have HA:Hid _:=hA
  have HL:Hid (len ≤ 1048576):=hL
  have HP:Hid (KR pinE w (.slice PP p.length pc) p):=hP
  have HPL:Hid (p.length ≤ 1048576):=hPL
  have HPB:Hid (p ≠ [] → ∀ b x n c,(Value.slice PP p.length pc)=.slice (some ⟨b,x,none⟩) n c → b < w.heap.size):=hPB
  clear hO hA hP hPB hL hPL hSV hLD hTD hOL
  go_enter Tryz.func5,Tryz.ntmps5
  go_wp2_with fail
  refine (show Calls _ _ _ _ _ from HNW.out).mono ?_
  rintro e w1 ⟨g,X,rfl,hk⟩
  have H1:Hid (St w w1 g X newM 0):=St.new hk
  clear hk HNW
  go_wp2_with fail
  refine (show Calls _ _ _ _ _ from HWK.out _).mono ?_
  rintro e w2 ⟨rfl,hb2⟩
  have H2:Hid (St w w2 g X newM 0):=H1.out.on hb2
  clear hb2 H1 HWK
  go_wp2
  go_loopw [7,6] (fun ci mv wr=>∃ (i:Nat) (F:Fs) (X:Gh) (L:List (ByteArray × Bool)) (n:Nat),i ≤ len∧ci=.int .i64 (i:Int)∧St w wr g X F (i * 32830)∧Inv F (i * 32830)∧Dw F∧Wh F (fun x=>x ∈ L)∧n ≤ i + 1∧MyR w.heap.size wr mv L n) (fun ci _ _=>len - (intOf ci).toNat)
  case atStart=>exact ⟨0,newM,X,[(⟨#[]⟩,false)],1,Nat.zero_le _,rfl,H2.out.on ((Below.refl _ _).alloc (Nat.le_refl _) _),Inv.new,Dw.new,Wh.new (List.mem_singleton.2 rfl),Nat.le_refl _,MyR.lit _ _ H2.out.bel.size⟩
  case round =>
    obtain ⟨i,F,X,L,n,hi,rfl,hst,hiv,hdw,hwh,hn,hmr⟩:=hrel
    obtain ⟨PL,cl,rfl⟩:=own_form hmr.2
    have HST:Hid (St w wr g X F (i * 32830)):=hst
    have HIV:Hid (Inv F (i * 32830)):=hiv
    have HDW:Hid (Dw F):=hdw
    have HWH:Hid (Wh F (fun x=>x ∈ L)):=hwh
    have HN:Hid (n ≤ i + 1):=hn
    have HMR:Hid (MyR w.heap.size wr (.slice PL n cl) L n):=hmr
    clear hst hiv hdw hwh hn hmr H2
    by_cases hlt:i < len
    · have had:=HA.out (by omega)
      subst had
      obtain ⟨o,pv,hop⟩:=HO.out i hlt
      have HOP:Hid (OpQ w.heap.size wr G (off + i * 6) o pv):=hop.on HST.out.bel
      obtain ⟨C,hC⟩:∃ C,C=qoArr o pv:=⟨_,rfl⟩
      have HC:Hid (C=qoArr o pv):=hC
      have HCS:Hid (C.size=6):=by show _=_; rw [hC]; rfl
      have HC1:Hid (C.all (·.oneCell')=true):=by
        show _=true
        obtain ⟨P,c,e⟩:=hop.kr.form
        rw [hC,e]
        simp only [qoArr,List.all_toArray,List.all_cons,List.all_nil,Bool.and_true]
        rfl
      obtain ⟨Z,hZ⟩:∃ Z,Z=zQ:=⟨_,rfl⟩
      have HZ:Hid (Z=zQ):=hZ
      have HZS:Hid (Z.size=6):=by show _=_; rw [hZ]; rfl
      have hz3:(0:Int) ≤ (i:Int):=by omega
      have hz4:(i:Int) < (len:Int):=by omega
      have HLT:Hid (i < len):=hlt
      have HOK:Hid (QoOk o):=hop.ok
      have HFM:Hid (∃ Q n c,pv=Value.slice Q n c):=by
        obtain ⟨P,c,e⟩:=hop.kr.form
        exact ⟨_,_,_,e⟩
      have HIW:Hid (IntKind.i64.wrap ((i:Int) + 1)=(i:Int) + 1):=by have:=HL.out; show _=_; rw [IntKind.wrap_i64] <;> omega
      obtain ⟨R,hR⟩:∃ R,wr.heap.size=R:=⟨_,rfl⟩
      have HRR:Hid (wr.heap.size=R):=hR
      clear hop hC hZ hR hlt
      go_upto_region 9 with (first
        | (refine ldQo C w.heap.size G (off + i * 6) o pv _ rfl rfl rfl HOP.out HC.out ?_)
        | (refine alQ rfl rfl Z HZ.out ?_)
        | (refine stQ rfl _ _ rfl wr.heap.size C Z rfl rfl HCS.out HC1.out HZS.out (one_alloc _ _) ?_; intro Wo hro hoo))
      have hbo:Below wr.heap.size wr Wo:=((Below.refl _ wr).alloc (Nat.le_refl _) _).trans (hoo.below (Nat.le_refl _))
      have HSo:Hid (St w Wo g X F (i * 32830)):=HST.out.on hbo
      have HRo:Hid (Wo.heap[R]?=some (.cells C 47)):=by show _=_; rw [← HRR.out]; exact hro
      have HOPo:Hid (OpQ w.heap.size Wo G (off + i * 6) o pv):=HOP.out.on (hbo.mono HST.out.bel.size)
      have HMo:Hid (MyR w.heap.size Wo (.slice PL n cl) L n):=HMR.out.on hbo
      rw [HRR.out]
      clear hbo hoo hro HOP HST HRR HZ HZS HC1 Z hz3 hz4 hi HMR
      have HQ:Hid (Calls Tryz.prog 16 #[.agg C] Wo fun e w'=>e=.returned (.bool (ownM o))∧Below Wo.heap.size Wo w'):=by
        have:=HOW.out o HOK.out pv HFM.out Wo
        rw [show qoV o pv=.agg C from by rw [HC.out]; rfl] at this
        exact this
      go_wp2_with (refine ldQ C R _ rfl rfl rfl HRo.out HCS.out ?_)
      refine (show Calls _ _ _ _ _ from HQ.out).mono ?_
      rintro e w3 ⟨rfl,hb3⟩
      have HS3:Hid (St w w3 g X F (i * 32830)):=HSo.out.on hb3
      have HR3:Hid (w3.heap[R]?=some (.cells C 47)):=keep_row HRo.out hb3
      have HO3:Hid (OpQ w.heap.size w3 G (off + i * 6) o pv):=HOPo.out.on (hb3.mono HSo.out.bel.size)
      have HM3:Hid (MyR w.heap.size w3 (.slice PL n cl) L n):=HMo.out.on hb3
      clear hb3 HQ HSo HRo HOPo HMo
      rcases how:ownM o with _ | _
      · have hiw:=HIW.out
        clear how
        go_wp2
        go_roundw
        case rel=>exact ⟨i + 1,F,X,L,n,HLT.out,rfl,HS3.out.more24 (by omega),HIV.out.more (by omega),HDW.out,HWH.out,by have:=HN.out; omega,HM3.out⟩
        case measure=>have:=HLT.out; simp [intOf]; omega
      have HWN:Hid _:=wh_doneL HWH.out how
      obtain ⟨F2,e2,hd2⟩:∃ F2 e2,doneL F o=(F2,e2):=⟨_,_,rfl⟩
      have HQ:Hid (Calls Tryz.prog 17 #[.pointer (some ⟨g,0,none⟩),.agg C] w3 (CalP w w3 g X F F2 (i * 32830 + 32830) (.int .i64 e2))):=by
        have:=HDN.out HS3.out HIV.out (by have:=HLT.out; have:=HL.out; omega) HC.out HOK.out (HO3.out.pks HS3.out.own)
        rw [hd2] at this
        exact this
      have HI4:Hid (Inv F2 ((i + 1) * 32830)):=by
        have:=inv_doneL HIV.out HOK.out
        rw [hd2] at this
        show Inv _ _
        rw [show (i + 1) * 32830=i * 32830 + 32830 by omega]
        exact this
      have HD4:Hid (Dw F2):=by
        have:=dw_doneL HDW.out o
        rw [hd2] at this
        exact this
      have HW4:Hid (Wh F2 (fun x=>x ∈ mayM L o e2)):=by
        have:=HWN.out
        rw [hd2] at this
        exact this
      have HE0:Hid (o.k=0 → ¬ (0 ≤ o.m∧o.m ≤ 8) → e2=1):=fun h0 hm=>by
        unfold doneL at hd2
        rw [if_pos h0,save_no (by omega)] at hd2
        injection hd2 with _ h2
        exact h2.symm
      clear how hd2 HWN HIV HDW HWH
      go_wp2_with (refine ldQ C R _ rfl rfl rfl HR3.out HCS.out ?_)
      refine (show Calls _ _ _ _ _ from HQ.out).mono ?_
      rintro e w4 ⟨rfl,X4,hs4,hbt⟩
      have HS4:Hid (St w w4 g X4 F2 ((i + 1) * 32830)):=by show St _ _ _ _ _ _; rw [show (i + 1) * 32830=i * 32830 + 32830 by omega]; exact hs4
      have HR4:Hid (w4.heap[R]?=some (.cells C 47)):=qo_mod HR3.out HS3.out.fs.toFsC hbt.md
      have HM4:Hid (MyR w.heap.size w4 (.slice PL n cl) L n):=HM3.out.mod HS3.out.fs.toFsC hbt.md
      clear hs4 hbt HQ HS3 HR3 HO3 HM3 HFM
      obtain ⟨c0,c1,c2,c3,c4,c5⟩:=row6 (by have:=HR4.out; rw [HC.out] at this; exact this)
      obtain ⟨k,hk⟩:∃ k,o.k=k:=⟨_,rfl⟩
      obtain ⟨t,ht⟩:∃ t,o.t=t:=⟨_,rfl⟩
      obtain ⟨m,hm⟩:∃ m,o.m=m:=⟨_,rfl⟩
      have HMY:Hid (mayM L o e2=if k=0 then (if 0 ≤ m∧m ≤ 8 then (if e2=0 then [(t,true)] else L ++ [(t,true)]) else L) else L):=by show _=_; rw [← hk,← ht,← hm]; rfl
      have HE1:Hid (k=0 → ¬ (0 ≤ m∧m ≤ 8) → e2=1):=by show _ → _ → _; rw [← hk,← hm]; exact HE0.out
      rw [hk] at c0
      rw [ht] at c1
      rw [hm] at c2
      clear c3 c4 c5 hk hm HE0
      have htt:=ht
      clear ht
      have HNi:Hid (n + 1 ≤ 4611686018427387000∧n + 1 ≤ (i + 1) + 1):=by have:=HN.out; have:=HLT.out; have:=HL.out; show _∧_; omega
      by_cases hk:k=0
      · subst hk
        by_cases hm:0 ≤ m∧m ≤ 8
        · have hm1:0 ≤ m:=hm.1
          have hm2:m ≤ 8:=hm.2
          have HWS:Hid (w.heap.size ≤ w4.heap.size):=HS4.out.bel.size
          have HAP:Hid (MyR w.heap.size w4 (.slice PL n cl) L n):=HM4.out
          by_cases he:e2=0
          · subst he
            have HWa:Hid (Wh F2 (fun x=>x ∈ [(t,true)])):=by have:=HW4.out; rw [HMY.out,if_pos rfl,if_pos hm,if_pos rfl] at this; exact this
            clear hm HMY HE1 HW4
            go_upto_region 16 with (at_builtin; refine wpList_one pstOk #[.string t,.bool true] (t,true) rfl rfl _ _ rfl w.heap.size _ L n HAP.out.1.symm rfl HAP.out.2 rfl (by rw [HAP.out.1]; have:=HN.out; have:=HLT.out; have:=HL.out; unfold maxLen; omega) (by rw [HAP.out.1]; have:=HN.out; have:=HLT.out; have:=HL.out; show _ * 24 ≤ _; omega) HWS.out ?_; intro v5 w5 ho5 hg5; obtain ⟨P5,k5,hf5⟩:=own_form ho5; subst hf5; have hb5:Below w4.heap.size w4 (w4.alloc (.cells #[.string t,.bool true] 53)):=(Below.refl _ _).alloc (Nat.le_refl _) _; have HS5:Hid (St w w5 g X4 F2 ((i + 1) * 32830)):=(HS4.out.on hb5).past (HM4.out.on hb5) hg5; have HR5:Hid (w5.heap[R]?=some (.cells C 47)):=qo_grown (keep_row HR4.out hb5) (HM4.out.on hb5) hg5; clear hb5 hg5 ho5 c0 c1 c2; obtain ⟨c0,c1,c2,c3,c4,c5⟩:=row6 (by have:=HR5.out; rw [HC.out] at this; exact this); rw [htt] at c1)
            obtain ⟨W6,hW6⟩:∃ W6,w5.alloc (.cells #[.string t,.bool true] 53)=W6:=⟨_,rfl⟩
            obtain ⟨r6,hr6⟩:∃ r6,w5.heap.size=r6:=⟨_,rfl⟩
            have HSa:Hid (St w W6 g X4 F2 ((i + 1) * 32830)):=by show St _ _ _ _ _ _; rw [← hW6]; exact HS5.out.on ((Below.refl _ _).alloc (Nat.le_refl _) _)
            have HMa:Hid (MyR w.heap.size W6 (.slice (some ⟨r6,0,none⟩) 1 1) [(t,true)] 1):=by show MyR _ _ _ _ _; rw [← hW6,← hr6]; exact MyR.lit _ _ HS5.out.bel.size
            have HNa:Hid ((1:Nat) ≤ 4611686018427387000):=by show _ ≤ _; omega
            have HNa2:Hid (1 ≤ (i + 1) + 1):=by show _ ≤ _; omega
            clear HS5 HR5 HS4 HM4 HR4 HAP
            rw [hW6,hr6]
            clear hW6 hr6 c0 c1 c2 c3 c4 c5
            obtain ⟨nn,hnn⟩:∃ nn,F2.dir.length=nn:=⟨_,rfl⟩
            have HNN:Hid (F2.dir.length=nn):=hnn
            have HNL:Hid (nn ≤ 64):=by show _ ≤ _; rw [← hnn]; exact HSa.out.few.1
            clear hnn
            have HQ:Hid (Calls Tryz.prog 14 #[.pointer (some ⟨g,0,none⟩)] W6 fun e w'=>NowP W6 (nowM F2) nn e w'):=now_st HSa.out HNN.out
            go_wp2_with fail
            refine (show Calls _ _ _ _ _ from HQ.out).mono ?_
            rintro e w5 ⟨P5,c5,rfl,hp5,hb5⟩
            have HS5:Hid (St w w5 g X4 F2 ((i + 1) * 32830)):=HSa.out.on hb5
            have HM5:Hid (MyR w.heap.size w5 (.slice (some ⟨r6,0,none⟩) 1 1) [(t,true)] 1):=HMa.out.on hb5
            have HP5:Hid (PR w5 (.slice P5 nn c5) (nowM F2)):=hp5
            clear hp5 hb5 HQ HSa HMa
            obtain ⟨sv,sb,hsv⟩:∃ sv sb,lookM (nowM F2) { data:=#[100,117,109,112,46,114,100,98] }=(sv,sb):=⟨_,_,rfl⟩
            have HIN:Hid (hasB [(t,true)] (sv,sb)=true):=hasB_yes (by rw [← hsv]; exact wh_look HWa.out)
            have HQ:Hid (Calls Tryz.prog 13 #[.slice P5 nn c5,.string { data:=#[100,117,109,112,46,114,100,98] }] w5 fun e w'=>e=.returned (.tuple #[.string sv,.bool sb])∧w'=w5):=by
              have:=find24_any (.slice P5 nn c5) (nowM F2) { data:=#[100,117,109,112,46,114,100,98] } (by rw [now_len,HNN.out]; have:=HNL.out; omega) w5 HP5.out.kr
              rw [hsv] at this
              exact this
            clear hsv
            go_wp2_with fail
            refine (show Calls _ _ _ _ _ from HQ.out).mono ?_
            rintro e w6 ⟨rfl,rfl⟩
            clear HQ HP5 HNN HNL
            have HQ:Hid (Calls Tryz.prog 20 #[.slice (some ⟨r6,0,none⟩) 1 1,.agg #[.string sv,.bool sb]] w6 fun e w'=>e=.returned (.bool true)∧Below w6.heap.size w6 w'):=by
              have:=has24_any (.slice (some ⟨r6,0,none⟩) 1 1) [(t,true)] sv sb (by rw [HM5.out.1]; exact HNa.out) w6 HM5.out.kr
              rw [HIN.out] at this
              exact this
            go_wp2_with fail
            refine (show Calls _ _ _ _ _ from HQ.out).mono ?_
            rintro e w7 ⟨rfl,hb7⟩
            have HS7:Hid (St w w7 g X4 F2 ((i + 1) * 32830)):=HS5.out.on hb7
            have HM7:Hid (MyR w.heap.size w7 (.slice (some ⟨r6,0,none⟩) 1 1) [(t,true)] 1):=HM5.out.on hb7
            clear hb7 HQ HS5 HM5 HIN
            have HIB:Hid ((i + 1) * 32830 < 3298534883000):=by have:=HLT.out; have:=HL.out; show _ < _; omega
            have HQ:Hid _:=clone_st HS7.out (by have:=HIB.out; omega)
            unfold ptr at HQ
            go_wp2_with fail
            refine (show Calls _ _ _ _ _ from HQ.out).mono ?_
            rintro e w8 ⟨gl,Xg,rfl,hsg,hsf,hdj,hb8⟩
            have HSF:Hid (St w w8 g X4 F2 ((i + 1) * 32830)):=hsf
            have HSG:Hid (St w w8 gl Xg F2 ((i + 1) * 32830)):=hsg
            have HM8:Hid (MyR w.heap.size w8 (.slice (some ⟨r6,0,none⟩) 1 1) [(t,true)] 1):=HM7.out.on hb8
            have HQ9:Hid (Calls Tryz.prog 18 #[.pointer (some ⟨gl,0,none⟩),.int .i64 0,.slice PP p.length pc] w8 fun e w'=>e=.returned (.int .i64 (crashM F2 0 p).2)∧∃ Xg',St w w' gl Xg' (crashM F2 0 p).1 ((i + 1) * 32830 + 1)∧St w w' g X4 F2 ((i + 1) * 32830)∧ModP (Own gl F2 Xg) w8 w'):=by
              have hk:KR pinE w8 (.slice PP p.length pc) p:=kr_under HP.out HPB.out hsg.bel
              exact crash_two hsg hsf hdj HIB.out (by have:=HPL.out; omega) ⟨hk,fun hp b x n c e hs=>by have:=HPB.out hp b x n c e; have:=hsg.own b hs; omega⟩
            clear hsg hsf hdj hb8 HQ HS7 HM7
            obtain ⟨D,e9,hD⟩:∃ D e9,crashM F2 0 p=(D,e9):=⟨_,_,rfl⟩
            have HDD:Hid (Dw D):=by have:=HD4.out.crash 0 p; rw [hD] at this; exact this
            have HDT:Hid (safeM D=nowM D):=by
              have h1:=HD4.out.crash 0 p
              have h2:=crash_down F2 p
              rw [hD] at h1 h2
              exact (h1.dn h2).1.safe
            have HDS:Hid (D.sure.length=D.dir.length):=by
              have h1:=HD4.out.crash 0 p
              have h2:=crash_down F2 p
              rw [hD] at h1 h2
              show _=_
              rw [(h1.dn h2).1.su]
            have HDL:Hid (lookM (nowM D) liveN ∈ [(t,true)]):=by
              have h1:=HWa.out.crash 0 p
              rw [hD] at h1
              exact wh_look h1
            have HQ:Hid (Calls Tryz.prog 18 #[.pointer (some ⟨gl,0,none⟩),.int .i64 0,.slice PP p.length pc] w8 fun e w'=>e=.returned (.int .i64 e9)∧∃ Xg',St w w' gl Xg' D ((i + 1) * 32830 + 1)∧St w w' g X4 F2 ((i + 1) * 32830)∧ModP (Own gl F2 Xg) w8 w'):=by
              have:=HQ9.out
              rw [hD] at this
              exact this
            clear hD HQ9
            go_wp2_with fail
            refine (show Calls _ _ _ _ _ from HQ.out).mono ?_
            rintro e w9 ⟨rfl,Xg9,hs9,hf9,hm9⟩
            have HS9:Hid (St w w9 gl Xg9 D ((i + 1) * 32830 + 1)):=hs9
            have HF9:Hid (St w w9 g X4 F2 ((i + 1) * 32830)):=hf9
            have HM9:Hid (MyR w.heap.size w9 (.slice (some ⟨r6,0,none⟩) 1 1) [(t,true)] 1):=HM8.out.mod HSG.out.fs.toFsC hm9
            clear hs9 hf9 hm9 HQ HSF HSG HM8
            obtain ⟨nd,hnd⟩:∃ nd,D.dir.length=nd:=⟨_,rfl⟩
            have HND:Hid (D.dir.length=nd):=hnd
            have HNS:Hid (D.sure.length=nd):=by show _=_; rw [HDS.out,hnd]
            have HNDL:Hid (nd ≤ 64):=by show _ ≤ _; rw [← hnd]; exact HS9.out.few.1
            clear hnd HDS
            have HQ:Hid (Calls Tryz.prog 14 #[.pointer (some ⟨gl,0,none⟩)] w9 fun e w'=>NowP w9 (nowM D) nd e w'):=now_st HS9.out HND.out
            go_wp2_with fail
            refine (show Calls _ _ _ _ _ from HQ.out).mono ?_
            rintro e wa ⟨Pa,cA,rfl,hpa,hba⟩
            have HSA:Hid (St w wa gl Xg9 D ((i + 1) * 32830 + 1)):=HS9.out.on hba
            have HFA:Hid (St w wa g X4 F2 ((i + 1) * 32830)):=HF9.out.on hba
            have HMA:Hid (MyR w.heap.size wa (.slice (some ⟨r6,0,none⟩) 1 1) [(t,true)] 1):=HM9.out.on hba
            have HPA:Hid (PR wa (.slice Pa nd cA) (nowM D)):=hpa
            clear hpa hba HQ HS9 HF9 HM9
            obtain ⟨tv,tb,htv⟩:∃ tv tb,lookM (nowM D) { data:=#[100,117,109,112,46,114,100,98] }=(tv,tb):=⟨_,_,rfl⟩
            have HTV:Hid (lookM (nowM D) { data:=#[100,117,109,112,46,114,100,98] }=(tv,tb)):=htv
            have HIN:Hid (hasB [(t,true)] (tv,tb)=true):=hasB_yes (by rw [← htv]; exact HDL.out)
            clear htv HDL
            have HQ:Hid (Calls Tryz.prog 13 #[.slice Pa nd cA,.string { data:=#[100,117,109,112,46,114,100,98] }] wa fun e w'=>e=.returned (.tuple #[.string tv,.bool tb])∧w'=wa):=by
              have:=find24_any (.slice Pa nd cA) (nowM D) { data:=#[100,117,109,112,46,114,100,98] } (by rw [now_len,HND.out]; have:=HNDL.out; omega) wa HPA.out.kr
              rw [HTV.out] at this
              exact this
            go_wp2_with fail
            refine (show Calls _ _ _ _ _ from HQ.out).mono ?_
            rintro e wb ⟨rfl,rfl⟩
            clear HQ HPA
            have HQ:Hid (Calls Tryz.prog 22 #[.pointer (some ⟨gl,0,none⟩)] wb fun e w'=>NowP wb (nowM D) nd e w'):=by
              have:=safe_st HSA.out HNS.out
              rw [HDT.out] at this
              exact this
            go_wp2_with fail
            refine (show Calls _ _ _ _ _ from HQ.out).mono ?_
            rintro e wc ⟨Pc,cC,rfl,hpc,hbc⟩
            have HFC:Hid (St w wc g X4 F2 ((i + 1) * 32830)):=HFA.out.on hbc
            have HMC:Hid (MyR w.heap.size wc (.slice (some ⟨r6,0,none⟩) 1 1) [(t,true)] 1):=HMA.out.on hbc
            have HPC:Hid (PR wc (.slice Pc nd cC) (nowM D)):=hpc
            clear hpc hbc HQ HSA HFA HMA
            have HQ:Hid (Calls Tryz.prog 13 #[.slice Pc nd cC,.string { data:=#[100,117,109,112,46,114,100,98] }] wc fun e w'=>e=.returned (.tuple #[.string tv,.bool tb])∧w'=wc):=by
              have:=find24_any (.slice Pc nd cC) (nowM D) { data:=#[100,117,109,112,46,114,100,98] } (by rw [now_len,HND.out]; have:=HNDL.out; omega) wc HPC.out.kr
              rw [HTV.out] at this
              exact this
            go_wp2_with fail
            refine (show Calls _ _ _ _ _ from HQ.out).mono ?_
            rintro e wd ⟨rfl,rfl⟩
            clear HQ HPC HTV
            have HQ:Hid (Calls Tryz.prog 20 #[.slice (some ⟨r6,0,none⟩) 1 1,.agg #[.string tv,.bool tb]] wd fun e w'=>e=.returned (.bool true)∧Below wd.heap.size wd w'):=by
              have:=has24_any (.slice (some ⟨r6,0,none⟩) 1 1) [(t,true)] tv tb (by rw [HMC.out.1]; exact HNa.out) wd HMC.out.kr
              rw [HIN.out] at this
              exact this
            have q1:(tv.toList == tv.toList)=true:=beq_self_eq_true _
            have q2:(tb == tb)=true:=beq_self_eq_true _
            go_wp2_with fail
            refine (show Calls _ _ _ _ _ from HQ.out).mono ?_
            rintro e we ⟨rfl,hbe⟩
            have HFE:Hid (St w we g X4 F2 ((i + 1) * 32830)):=HFC.out.on hbe
            have HME:Hid (MyR w.heap.size we (.slice (some ⟨r6,0,none⟩) 1 1) [(t,true)] 1):=HMC.out.on hbe
            clear hbe HQ HFC HMC HIN
            have hiw:=HIW.out
            go_wp2
            go_roundw
            case rel=>exact ⟨i + 1,F2,X4,[(t,true)],1,HLT.out,rfl,HFE.out,HI4.out,HD4.out,HWa.out,HNa2.out,HME.out⟩
            case measure=>have:=HLT.out; simp [intOf]; omega
          · have heb:(e2 == 0)=false:=beq_eq_false_iff_ne.mpr he
            have HWa:Hid (Wh F2 (fun x=>x ∈ L ++ [(t,true)])):=by have:=HW4.out; rw [HMY.out,if_pos rfl,if_pos hm,if_neg he] at this; exact this
            clear hm HMY HE1 HW4 he
            go_upto_region 16 with (at_builtin; refine wpList_one pstOk #[.string t,.bool true] (t,true) rfl rfl _ _ rfl w.heap.size _ L n HAP.out.1.symm rfl HAP.out.2 rfl (by rw [HAP.out.1]; have:=HN.out; have:=HLT.out; have:=HL.out; unfold maxLen; omega) (by rw [HAP.out.1]; have:=HN.out; have:=HLT.out; have:=HL.out; show _ * 24 ≤ _; omega) HWS.out ?_; intro v5 w45 ho5 hg5; obtain ⟨PA,ca,hf5⟩:=own_form ho5; subst hf5)
            have hb5:Below w4.heap.size w4 (w4.alloc (.cells #[.string t,.bool true] 53)):=(Below.refl _ _).alloc (Nat.le_refl _) _
            have HSa:Hid (St w w45 g X4 F2 ((i + 1) * 32830)):=(HS4.out.on hb5).past (HM4.out.on hb5) hg5
            obtain ⟨na,hna⟩:∃ na,n + 1=na:=⟨_,rfl⟩
            obtain ⟨LA,hLA⟩:∃ LA,L ++ [(t,true)]=LA:=⟨_,rfl⟩
            have HMa:Hid (MyR w.heap.size w45 (.slice PA na ca) LA na):=by
              refine ⟨?_,?_⟩
              · rw [← hLA,List.length_append,HAP.out.1,← hna]; rfl
              · rw [← hLA,← hna]; exact ho5
            have HNa:Hid (na ≤ 4611686018427387000):=by show _ ≤ _; rw [← hna]; exact HNi.out.1
            have HNa2:Hid (na ≤ (i + 1) + 1):=by show _ ≤ _; rw [← hna]; exact HNi.out.2
            rw [hLA] at HWa
            clear hb5 hg5 ho5 HS4 HM4 HR4 HAP c0 c1 c2
            try rw [hna]
            clear hna hLA
            obtain ⟨nn,hnn⟩:∃ nn,F2.dir.length=nn:=⟨_,rfl⟩
            have HNN:Hid (F2.dir.length=nn):=hnn
            have HNL:Hid (nn ≤ 64):=by show _ ≤ _; rw [← hnn]; exact HSa.out.few.1
            clear hnn
            have HQ:Hid (Calls Tryz.prog 14 #[.pointer (some ⟨g,0,none⟩)] w45 fun e w'=>NowP w45 (nowM F2) nn e w'):=now_st HSa.out HNN.out
            go_wp2_with fail
            refine (show Calls _ _ _ _ _ from HQ.out).mono ?_
            rintro e w5 ⟨P5,c5,rfl,hp5,hb5⟩
            have HS5:Hid (St w w5 g X4 F2 ((i + 1) * 32830)):=HSa.out.on hb5
            have HM5:Hid (MyR w.heap.size w5 (.slice PA na ca) LA na):=HMa.out.on hb5
            have HP5:Hid (PR w5 (.slice P5 nn c5) (nowM F2)):=hp5
            clear hp5 hb5 HQ HSa HMa
            obtain ⟨sv,sb,hsv⟩:∃ sv sb,lookM (nowM F2) { data:=#[100,117,109,112,46,114,100,98] }=(sv,sb):=⟨_,_,rfl⟩
            have HIN:Hid (hasB LA (sv,sb)=true):=hasB_yes (by rw [← hsv]; exact wh_look HWa.out)
            have HQ:Hid (Calls Tryz.prog 13 #[.slice P5 nn c5,.string { data:=#[100,117,109,112,46,114,100,98] }] w5 fun e w'=>e=.returned (.tuple #[.string sv,.bool sb])∧w'=w5):=by
              have:=find24_any (.slice P5 nn c5) (nowM F2) { data:=#[100,117,109,112,46,114,100,98] } (by rw [now_len,HNN.out]; have:=HNL.out; omega) w5 HP5.out.kr
              rw [hsv] at this
              exact this
            clear hsv
            go_wp2_with fail
            refine (show Calls _ _ _ _ _ from HQ.out).mono ?_
            rintro e w6 ⟨rfl,rfl⟩
            clear HQ HP5 HNN HNL
            have HQ:Hid (Calls Tryz.prog 20 #[.slice PA na ca,.agg #[.string sv,.bool sb]] w6 fun e w'=>e=.returned (.bool true)∧Below w6.heap.size w6 w'):=by
              have:=has24_any (.slice PA na ca) LA sv sb (by rw [HM5.out.1]; exact HNa.out) w6 HM5.out.kr
              rw [HIN.out] at this
              exact this
            go_wp2_with fail
            refine (show Calls _ _ _ _ _ from HQ.out).mono ?_
            rintro e w7 ⟨rfl,hb7⟩
            have HS7:Hid (St w w7 g X4 F2 ((i + 1) * 32830)):=HS5.out.on hb7
            have HM7:Hid (MyR w.heap.size w7 (.slice PA na ca) LA na):=HM5.out.on hb7
            clear hb7 HQ HS5 HM5 HIN
            have HIB:Hid ((i + 1) * 32830 < 3298534883000):=by have:=HLT.out; have:=HL.out; show _ < _; omega
            have HQ:Hid _:=clone_st HS7.out (by have:=HIB.out; omega)
            unfold ptr at HQ
            go_wp2_with fail
            refine (show Calls _ _ _ _ _ from HQ.out).mono ?_
            rintro e w8 ⟨gl,Xg,rfl,hsg,hsf,hdj,hb8⟩
            have HSF:Hid (St w w8 g X4 F2 ((i + 1) * 32830)):=hsf
            have HSG:Hid (St w w8 gl Xg F2 ((i + 1) * 32830)):=hsg
            have HM8:Hid (MyR w.heap.size w8 (.slice PA na ca) LA na):=HM7.out.on hb8
            have HQ9:Hid (Calls Tryz.prog 18 #[.pointer (some ⟨gl,0,none⟩),.int .i64 0,.slice PP p.length pc] w8 fun e w'=>e=.returned (.int .i64 (crashM F2 0 p).2)∧∃ Xg',St w w' gl Xg' (crashM F2 0 p).1 ((i + 1) * 32830 + 1)∧St w w' g X4 F2 ((i + 1) * 32830)∧ModP (Own gl F2 Xg) w8 w'):=by
              have hk:KR pinE w8 (.slice PP p.length pc) p:=kr_under HP.out HPB.out hsg.bel
              exact crash_two hsg hsf hdj HIB.out (by have:=HPL.out; omega) ⟨hk,fun hp b x n c e hs=>by have:=HPB.out hp b x n c e; have:=hsg.own b hs; omega⟩
            clear hsg hsf hdj hb8 HQ HS7 HM7
            obtain ⟨D,e9,hD⟩:∃ D e9,crashM F2 0 p=(D,e9):=⟨_,_,rfl⟩
            have HDD:Hid (Dw D):=by have:=HD4.out.crash 0 p; rw [hD] at this; exact this
            have HDT:Hid (safeM D=nowM D):=by
              have h1:=HD4.out.crash 0 p
              have h2:=crash_down F2 p
              rw [hD] at h1 h2
              exact (h1.dn h2).1.safe
            have HDS:Hid (D.sure.length=D.dir.length):=by
              have h1:=HD4.out.crash 0 p
              have h2:=crash_down F2 p
              rw [hD] at h1 h2
              show _=_
              rw [(h1.dn h2).1.su]
            have HDL:Hid (lookM (nowM D) liveN ∈ LA):=by
              have h1:=HWa.out.crash 0 p
              rw [hD] at h1
              exact wh_look h1
            have HQ:Hid (Calls Tryz.prog 18 #[.pointer (some ⟨gl,0,none⟩),.int .i64 0,.slice PP p.length pc] w8 fun e w'=>e=.returned (.int .i64 e9)∧∃ Xg',St w w' gl Xg' D ((i + 1) * 32830 + 1)∧St w w' g X4 F2 ((i + 1) * 32830)∧ModP (Own gl F2 Xg) w8 w'):=by
              have:=HQ9.out
              rw [hD] at this
              exact this
            clear hD HQ9
            go_wp2_with fail
            refine (show Calls _ _ _ _ _ from HQ.out).mono ?_
            rintro e w9 ⟨rfl,Xg9,hs9,hf9,hm9⟩
            have HS9:Hid (St w w9 gl Xg9 D ((i + 1) * 32830 + 1)):=hs9
            have HF9:Hid (St w w9 g X4 F2 ((i + 1) * 32830)):=hf9
            have HM9:Hid (MyR w.heap.size w9 (.slice PA na ca) LA na):=HM8.out.mod HSG.out.fs.toFsC hm9
            clear hs9 hf9 hm9 HQ HSF HSG HM8
            obtain ⟨nd,hnd⟩:∃ nd,D.dir.length=nd:=⟨_,rfl⟩
            have HND:Hid (D.dir.length=nd):=hnd
            have HNS:Hid (D.sure.length=nd):=by show _=_; rw [HDS.out,hnd]
            have HNDL:Hid (nd ≤ 64):=by show _ ≤ _; rw [← hnd]; exact HS9.out.few.1
            clear hnd HDS
            have HQ:Hid (Calls Tryz.prog 14 #[.pointer (some ⟨gl,0,none⟩)] w9 fun e w'=>NowP w9 (nowM D) nd e w'):=now_st HS9.out HND.out
            go_wp2_with fail
            refine (show Calls _ _ _ _ _ from HQ.out).mono ?_
            rintro e wa ⟨Pa,cA,rfl,hpa,hba⟩
            have HSA:Hid (St w wa gl Xg9 D ((i + 1) * 32830 + 1)):=HS9.out.on hba
            have HFA:Hid (St w wa g X4 F2 ((i + 1) * 32830)):=HF9.out.on hba
            have HMA:Hid (MyR w.heap.size wa (.slice PA na ca) LA na):=HM9.out.on hba
            have HPA:Hid (PR wa (.slice Pa nd cA) (nowM D)):=hpa
            clear hpa hba HQ HS9 HF9 HM9
            obtain ⟨tv,tb,htv⟩:∃ tv tb,lookM (nowM D) { data:=#[100,117,109,112,46,114,100,98] }=(tv,tb):=⟨_,_,rfl⟩
            have HTV:Hid (lookM (nowM D) { data:=#[100,117,109,112,46,114,100,98] }=(tv,tb)):=htv
            have HIN:Hid (hasB LA (tv,tb)=true):=hasB_yes (by rw [← htv]; exact HDL.out)
            clear htv HDL
            have HQ:Hid (Calls Tryz.prog 13 #[.slice Pa nd cA,.string { data:=#[100,117,109,112,46,114,100,98] }] wa fun e w'=>e=.returned (.tuple #[.string tv,.bool tb])∧w'=wa):=by
              have:=find24_any (.slice Pa nd cA) (nowM D) { data:=#[100,117,109,112,46,114,100,98] } (by rw [now_len,HND.out]; have:=HNDL.out; omega) wa HPA.out.kr
              rw [HTV.out] at this
              exact this
            go_wp2_with fail
            refine (show Calls _ _ _ _ _ from HQ.out).mono ?_
            rintro e wb ⟨rfl,rfl⟩
            clear HQ HPA
            have HQ:Hid (Calls Tryz.prog 22 #[.pointer (some ⟨gl,0,none⟩)] wb fun e w'=>NowP wb (nowM D) nd e w'):=by
              have:=safe_st HSA.out HNS.out
              rw [HDT.out] at this
              exact this
            go_wp2_with fail
            refine (show Calls _ _ _ _ _ from HQ.out).mono ?_
            rintro e wc ⟨Pc,cC,rfl,hpc,hbc⟩
            have HFC:Hid (St w wc g X4 F2 ((i + 1) * 32830)):=HFA.out.on hbc
            have HMC:Hid (MyR w.heap.size wc (.slice PA na ca) LA na):=HMA.out.on hbc
            have HPC:Hid (PR wc (.slice Pc nd cC) (nowM D)):=hpc
            clear hpc hbc HQ HSA HFA HMA
            have HQ:Hid (Calls Tryz.prog 13 #[.slice Pc nd cC,.string { data:=#[100,117,109,112,46,114,100,98] }] wc fun e w'=>e=.returned (.tuple #[.string tv,.bool tb])∧w'=wc):=by
              have:=find24_any (.slice Pc nd cC) (nowM D) { data:=#[100,117,109,112,46,114,100,98] } (by rw [now_len,HND.out]; have:=HNDL.out; omega) wc HPC.out.kr
              rw [HTV.out] at this
              exact this
            go_wp2_with fail
            refine (show Calls _ _ _ _ _ from HQ.out).mono ?_
            rintro e wd ⟨rfl,rfl⟩
            clear HQ HPC HTV
            have HQ:Hid (Calls Tryz.prog 20 #[.slice PA na ca,.agg #[.string tv,.bool tb]] wd fun e w'=>e=.returned (.bool true)∧Below wd.heap.size wd w'):=by
              have:=has24_any (.slice PA na ca) LA tv tb (by rw [HMC.out.1]; exact HNa.out) wd HMC.out.kr
              rw [HIN.out] at this
              exact this
            have q1:(tv.toList == tv.toList)=true:=beq_self_eq_true _
            have q2:(tb == tb)=true:=beq_self_eq_true _
            go_wp2_with fail
            refine (show Calls _ _ _ _ _ from HQ.out).mono ?_
            rintro e we ⟨rfl,hbe⟩
            have HFE:Hid (St w we g X4 F2 ((i + 1) * 32830)):=HFC.out.on hbe
            have HME:Hid (MyR w.heap.size we (.slice PA na ca) LA na):=HMC.out.on hbe
            clear hbe HQ HFC HMC HIN
            have hiw:=HIW.out
            go_wp2
            go_roundw
            case rel=>exact ⟨i + 1,F2,X4,LA,na,HLT.out,rfl,HFE.out,HI4.out,HD4.out,HWa.out,HNa2.out,HME.out⟩
            case measure=>have:=HLT.out; simp [intOf]; omega
        · have HWa:Hid (Wh F2 (fun x=>x ∈ L)):=by have:=HW4.out; rw [HMY.out,if_pos rfl,if_neg hm] at this; exact this
          have he:e2=1:=HE1.out rfl hm
          subst he
          clear HMY HE1 HW4
          have HNa:Hid (n ≤ 4611686018427387000):=by have:=HNi.out; show _ ≤ _; omega
          have HNa2:Hid (n ≤ (i + 1) + 1):=by have:=HNi.out; show _ ≤ _; omega
          have HSa:Hid (St w w4 g X4 F2 ((i + 1) * 32830)):=HS4.out
          have HMa:Hid (MyR w.heap.size w4 (.slice PL n cl) L n):=HM4.out
          by_cases hm1:0 ≤ m
          · have hm2:¬ m ≤ 8:=fun h=>hm ⟨hm1,h⟩
            clear hm
            go_upto_region 16 with fail
            clear HS4 HM4 HR4 c0 c1 c2
            obtain ⟨nn,hnn⟩:∃ nn,F2.dir.length=nn:=⟨_,rfl⟩
            have HNN:Hid (F2.dir.length=nn):=hnn
            have HNL:Hid (nn ≤ 64):=by show _ ≤ _; rw [← hnn]; exact HSa.out.few.1
            clear hnn
            have HQ:Hid (Calls Tryz.prog 14 #[.pointer (some ⟨g,0,none⟩)] w4 fun e w'=>NowP w4 (nowM F2) nn e w'):=now_st HSa.out HNN.out
            go_wp2_with fail
            refine (show Calls _ _ _ _ _ from HQ.out).mono ?_
            rintro e w5 ⟨P5,c5,rfl,hp5,hb5⟩
            have HS5:Hid (St w w5 g X4 F2 ((i + 1) * 32830)):=HSa.out.on hb5
            have HM5:Hid (MyR w.heap.size w5 (.slice PL n cl) L n):=HMa.out.on hb5
            have HP5:Hid (PR w5 (.slice P5 nn c5) (nowM F2)):=hp5
            clear hp5 hb5 HQ HSa HMa
            obtain ⟨sv,sb,hsv⟩:∃ sv sb,lookM (nowM F2) { data:=#[100,117,109,112,46,114,100,98] }=(sv,sb):=⟨_,_,rfl⟩
            have HIN:Hid (hasB L (sv,sb)=true):=hasB_yes (by rw [← hsv]; exact wh_look HWa.out)
            have HQ:Hid (Calls Tryz.prog 13 #[.slice P5 nn c5,.string { data:=#[100,117,109,112,46,114,100,98] }] w5 fun e w'=>e=.returned (.tuple #[.string sv,.bool sb])∧w'=w5):=by
              have:=find24_any (.slice P5 nn c5) (nowM F2) { data:=#[100,117,109,112,46,114,100,98] } (by rw [now_len,HNN.out]; have:=HNL.out; omega) w5 HP5.out.kr
              rw [hsv] at this
              exact this
            clear hsv
            go_wp2_with fail
            refine (show Calls _ _ _ _ _ from HQ.out).mono ?_
            rintro e w6 ⟨rfl,rfl⟩
            clear HQ HP5 HNN HNL
            have HQ:Hid (Calls Tryz.prog 20 #[.slice PL n cl,.agg #[.string sv,.bool sb]] w6 fun e w'=>e=.returned (.bool true)∧Below w6.heap.size w6 w'):=by
              have:=has24_any (.slice PL n cl) L sv sb (by rw [HM5.out.1]; exact HNa.out) w6 HM5.out.kr
              rw [HIN.out] at this
              exact this
            go_wp2_with fail
            refine (show Calls _ _ _ _ _ from HQ.out).mono ?_
            rintro e w7 ⟨rfl,hb7⟩
            have HS7:Hid (St w w7 g X4 F2 ((i + 1) * 32830)):=HS5.out.on hb7
            have HM7:Hid (MyR w.heap.size w7 (.slice PL n cl) L n):=HM5.out.on hb7
            clear hb7 HQ HS5 HM5 HIN
            have HIB:Hid ((i + 1) * 32830 < 3298534883000):=by have:=HLT.out; have:=HL.out; show _ < _; omega
            have HQ:Hid _:=clone_st HS7.out (by have:=HIB.out; omega)
            unfold ptr at HQ
            go_wp2_with fail
            refine (show Calls _ _ _ _ _ from HQ.out).mono ?_
            rintro e w8 ⟨gl,Xg,rfl,hsg,hsf,hdj,hb8⟩
            have HSF:Hid (St w w8 g X4 F2 ((i + 1) * 32830)):=hsf
            have HSG:Hid (St w w8 gl Xg F2 ((i + 1) * 32830)):=hsg
            have HM8:Hid (MyR w.heap.size w8 (.slice PL n cl) L n):=HM7.out.on hb8
            have HQ9:Hid (Calls Tryz.prog 18 #[.pointer (some ⟨gl,0,none⟩),.int .i64 0,.slice PP p.length pc] w8 fun e w'=>e=.returned (.int .i64 (crashM F2 0 p).2)∧∃ Xg',St w w' gl Xg' (crashM F2 0 p).1 ((i + 1) * 32830 + 1)∧St w w' g X4 F2 ((i + 1) * 32830)∧ModP (Own gl F2 Xg) w8 w'):=by
              have hk:KR pinE w8 (.slice PP p.length pc) p:=kr_under HP.out HPB.out hsg.bel
              exact crash_two hsg hsf hdj HIB.out (by have:=HPL.out; omega) ⟨hk,fun hp b x n c e hs=>by have:=HPB.out hp b x n c e; have:=hsg.own b hs; omega⟩
            clear hsg hsf hdj hb8 HQ HS7 HM7
            obtain ⟨D,e9,hD⟩:∃ D e9,crashM F2 0 p=(D,e9):=⟨_,_,rfl⟩
            have HDD:Hid (Dw D):=by have:=HD4.out.crash 0 p; rw [hD] at this; exact this
            have HDT:Hid (safeM D=nowM D):=by
              have h1:=HD4.out.crash 0 p
              have h2:=crash_down F2 p
              rw [hD] at h1 h2
              exact (h1.dn h2).1.safe
            have HDS:Hid (D.sure.length=D.dir.length):=by
              have h1:=HD4.out.crash 0 p
              have h2:=crash_down F2 p
              rw [hD] at h1 h2
              show _=_
              rw [(h1.dn h2).1.su]
            have HDL:Hid (lookM (nowM D) liveN ∈ L):=by
              have h1:=HWa.out.crash 0 p
              rw [hD] at h1
              exact wh_look h1
            have HQ:Hid (Calls Tryz.prog 18 #[.pointer (some ⟨gl,0,none⟩),.int .i64 0,.slice PP p.length pc] w8 fun e w'=>e=.returned (.int .i64 e9)∧∃ Xg',St w w' gl Xg' D ((i + 1) * 32830 + 1)∧St w w' g X4 F2 ((i + 1) * 32830)∧ModP (Own gl F2 Xg) w8 w'):=by
              have:=HQ9.out
              rw [hD] at this
              exact this
            clear hD HQ9
            go_wp2_with fail
            refine (show Calls _ _ _ _ _ from HQ.out).mono ?_
            rintro e w9 ⟨rfl,Xg9,hs9,hf9,hm9⟩
            have HS9:Hid (St w w9 gl Xg9 D ((i + 1) * 32830 + 1)):=hs9
            have HF9:Hid (St w w9 g X4 F2 ((i + 1) * 32830)):=hf9
            have HM9:Hid (MyR w.heap.size w9 (.slice PL n cl) L n):=HM8.out.mod HSG.out.fs.toFsC hm9
            clear hs9 hf9 hm9 HQ HSF HSG HM8
            obtain ⟨nd,hnd⟩:∃ nd,D.dir.length=nd:=⟨_,rfl⟩
            have HND:Hid (D.dir.length=nd):=hnd
            have HNS:Hid (D.sure.length=nd):=by show _=_; rw [HDS.out,hnd]
            have HNDL:Hid (nd ≤ 64):=by show _ ≤ _; rw [← hnd]; exact HS9.out.few.1
            clear hnd HDS
            have HQ:Hid (Calls Tryz.prog 14 #[.pointer (some ⟨gl,0,none⟩)] w9 fun e w'=>NowP w9 (nowM D) nd e w'):=now_st HS9.out HND.out
            go_wp2_with fail
            refine (show Calls _ _ _ _ _ from HQ.out).mono ?_
            rintro e wa ⟨Pa,cA,rfl,hpa,hba⟩
            have HSA:Hid (St w wa gl Xg9 D ((i + 1) * 32830 + 1)):=HS9.out.on hba
            have HFA:Hid (St w wa g X4 F2 ((i + 1) * 32830)):=HF9.out.on hba
            have HMA:Hid (MyR w.heap.size wa (.slice PL n cl) L n):=HM9.out.on hba
            have HPA:Hid (PR wa (.slice Pa nd cA) (nowM D)):=hpa
            clear hpa hba HQ HS9 HF9 HM9
            obtain ⟨tv,tb,htv⟩:∃ tv tb,lookM (nowM D) { data:=#[100,117,109,112,46,114,100,98] }=(tv,tb):=⟨_,_,rfl⟩
            have HTV:Hid (lookM (nowM D) { data:=#[100,117,109,112,46,114,100,98] }=(tv,tb)):=htv
            have HIN:Hid (hasB L (tv,tb)=true):=hasB_yes (by rw [← htv]; exact HDL.out)
            clear htv HDL
            have HQ:Hid (Calls Tryz.prog 13 #[.slice Pa nd cA,.string { data:=#[100,117,109,112,46,114,100,98] }] wa fun e w'=>e=.returned (.tuple #[.string tv,.bool tb])∧w'=wa):=by
              have:=find24_any (.slice Pa nd cA) (nowM D) { data:=#[100,117,109,112,46,114,100,98] } (by rw [now_len,HND.out]; have:=HNDL.out; omega) wa HPA.out.kr
              rw [HTV.out] at this
              exact this
            go_wp2_with fail
            refine (show Calls _ _ _ _ _ from HQ.out).mono ?_
            rintro e wb ⟨rfl,rfl⟩
            clear HQ HPA
            have HQ:Hid (Calls Tryz.prog 22 #[.pointer (some ⟨gl,0,none⟩)] wb fun e w'=>NowP wb (nowM D) nd e w'):=by
              have:=safe_st HSA.out HNS.out
              rw [HDT.out] at this
              exact this
            go_wp2_with fail
            refine (show Calls _ _ _ _ _ from HQ.out).mono ?_
            rintro e wc ⟨Pc,cC,rfl,hpc,hbc⟩
            have HFC:Hid (St w wc g X4 F2 ((i + 1) * 32830)):=HFA.out.on hbc
            have HMC:Hid (MyR w.heap.size wc (.slice PL n cl) L n):=HMA.out.on hbc
            have HPC:Hid (PR wc (.slice Pc nd cC) (nowM D)):=hpc
            clear hpc hbc HQ HSA HFA HMA
            have HQ:Hid (Calls Tryz.prog 13 #[.slice Pc nd cC,.string { data:=#[100,117,109,112,46,114,100,98] }] wc fun e w'=>e=.returned (.tuple #[.string tv,.bool tb])∧w'=wc):=by
              have:=find24_any (.slice Pc nd cC) (nowM D) { data:=#[100,117,109,112,46,114,100,98] } (by rw [now_len,HND.out]; have:=HNDL.out; omega) wc HPC.out.kr
              rw [HTV.out] at this
              exact this
            go_wp2_with fail
            refine (show Calls _ _ _ _ _ from HQ.out).mono ?_
            rintro e wd ⟨rfl,rfl⟩
            clear HQ HPC HTV
            have HQ:Hid (Calls Tryz.prog 20 #[.slice PL n cl,.agg #[.string tv,.bool tb]] wd fun e w'=>e=.returned (.bool true)∧Below wd.heap.size wd w'):=by
              have:=has24_any (.slice PL n cl) L tv tb (by rw [HMC.out.1]; exact HNa.out) wd HMC.out.kr
              rw [HIN.out] at this
              exact this
            have q1:(tv.toList == tv.toList)=true:=beq_self_eq_true _
            have q2:(tb == tb)=true:=beq_self_eq_true _
            go_wp2_with fail
            refine (show Calls _ _ _ _ _ from HQ.out).mono ?_
            rintro e we ⟨rfl,hbe⟩
            have HFE:Hid (St w we g X4 F2 ((i + 1) * 32830)):=HFC.out.on hbe
            have HME:Hid (MyR w.heap.size we (.slice PL n cl) L n):=HMC.out.on hbe
            clear hbe HQ HFC HMC HIN
            have hiw:=HIW.out
            go_wp2
            go_roundw
            case rel=>exact ⟨i + 1,F2,X4,L,n,HLT.out,rfl,HFE.out,HI4.out,HD4.out,HWa.out,HNa2.out,HME.out⟩
            case measure=>have:=HLT.out; simp [intOf]; omega
          · clear hm
            go_upto_region 16 with fail
            clear HS4 HM4 HR4 c0 c1 c2
            obtain ⟨nn,hnn⟩:∃ nn,F2.dir.length=nn:=⟨_,rfl⟩
            have HNN:Hid (F2.dir.length=nn):=hnn
            have HNL:Hid (nn ≤ 64):=by show _ ≤ _; rw [← hnn]; exact HSa.out.few.1
            clear hnn
            have HQ:Hid (Calls Tryz.prog 14 #[.pointer (some ⟨g,0,none⟩)] w4 fun e w'=>NowP w4 (nowM F2) nn e w'):=now_st HSa.out HNN.out
            go_wp2_with fail
            refine (show Calls _ _ _ _ _ from HQ.out).mono ?_
            rintro e w5 ⟨P5,c5,rfl,hp5,hb5⟩
            have HS5:Hid (St w w5 g X4 F2 ((i + 1) * 32830)):=HSa.out.on hb5
            have HM5:Hid (MyR w.heap.size w5 (.slice PL n cl) L n):=HMa.out.on hb5
            have HP5:Hid (PR w5 (.slice P5 nn c5) (nowM F2)):=hp5
            clear hp5 hb5 HQ HSa HMa
            obtain ⟨sv,sb,hsv⟩:∃ sv sb,lookM (nowM F2) { data:=#[100,117,109,112,46,114,100,98] }=(sv,sb):=⟨_,_,rfl⟩
            have HIN:Hid (hasB L (sv,sb)=true):=hasB_yes (by rw [← hsv]; exact wh_look HWa.out)
            have HQ:Hid (Calls Tryz.prog 13 #[.slice P5 nn c5,.string { data:=#[100,117,109,112,46,114,100,98] }] w5 fun e w'=>e=.returned (.tuple #[.string sv,.bool sb])∧w'=w5):=by
              have:=find24_any (.slice P5 nn c5) (nowM F2) { data:=#[100,117,109,112,46,114,100,98] } (by rw [now_len,HNN.out]; have:=HNL.out; omega) w5 HP5.out.kr
              rw [hsv] at this
              exact this
            clear hsv
            go_wp2_with fail
            refine (show Calls _ _ _ _ _ from HQ.out).mono ?_
            rintro e w6 ⟨rfl,rfl⟩
            clear HQ HP5 HNN HNL
            have HQ:Hid (Calls Tryz.prog 20 #[.slice PL n cl,.agg #[.string sv,.bool sb]] w6 fun e w'=>e=.returned (.bool true)∧Below w6.heap.size w6 w'):=by
              have:=has24_any (.slice PL n cl) L sv sb (by rw [HM5.out.1]; exact HNa.out) w6 HM5.out.kr
              rw [HIN.out] at this
              exact this
            go_wp2_with fail
            refine (show Calls _ _ _ _ _ from HQ.out).mono ?_
            rintro e w7 ⟨rfl,hb7⟩
            have HS7:Hid (St w w7 g X4 F2 ((i + 1) * 32830)):=HS5.out.on hb7
            have HM7:Hid (MyR w.heap.size w7 (.slice PL n cl) L n):=HM5.out.on hb7
            clear hb7 HQ HS5 HM5 HIN
            have HIB:Hid ((i + 1) * 32830 < 3298534883000):=by have:=HLT.out; have:=HL.out; show _ < _; omega
            have HQ:Hid _:=clone_st HS7.out (by have:=HIB.out; omega)
            unfold ptr at HQ
            go_wp2_with fail
            refine (show Calls _ _ _ _ _ from HQ.out).mono ?_
            rintro e w8 ⟨gl,Xg,rfl,hsg,hsf,hdj,hb8⟩
            have HSF:Hid (St w w8 g X4 F2 ((i + 1) * 32830)):=hsf
            have HSG:Hid (St w w8 gl Xg F2 ((i + 1) * 32830)):=hsg
            have HM8:Hid (MyR w.heap.size w8 (.slice PL n cl) L n):=HM7.out.on hb8
            have HQ9:Hid (Calls Tryz.prog 18 #[.pointer (some ⟨gl,0,none⟩),.int .i64 0,.slice PP p.length pc] w8 fun e w'=>e=.returned (.int .i64 (crashM F2 0 p).2)∧∃ Xg',St w w' gl Xg' (crashM F2 0 p).1 ((i + 1) * 32830 + 1)∧St w w' g X4 F2 ((i + 1) * 32830)∧ModP (Own gl F2 Xg) w8 w'):=by
              have hk:KR pinE w8 (.slice PP p.length pc) p:=kr_under HP.out HPB.out hsg.bel
              exact crash_two hsg hsf hdj HIB.out (by have:=HPL.out; omega) ⟨hk,fun hp b x n c e hs=>by have:=HPB.out hp b x n c e; have:=hsg.own b hs; omega⟩
            clear hsg hsf hdj hb8 HQ HS7 HM7
            obtain ⟨D,e9,hD⟩:∃ D e9,crashM F2 0 p=(D,e9):=⟨_,_,rfl⟩
            have HDD:Hid (Dw D):=by have:=HD4.out.crash 0 p; rw [hD] at this; exact this
            have HDT:Hid (safeM D=nowM D):=by
              have h1:=HD4.out.crash 0 p
              have h2:=crash_down F2 p
              rw [hD] at h1 h2
              exact (h1.dn h2).1.safe
            have HDS:Hid (D.sure.length=D.dir.length):=by
              have h1:=HD4.out.crash 0 p
              have h2:=crash_down F2 p
              rw [hD] at h1 h2
              show _=_
              rw [(h1.dn h2).1.su]
            have HDL:Hid (lookM (nowM D) liveN ∈ L):=by
              have h1:=HWa.out.crash 0 p
              rw [hD] at h1
              exact wh_look h1
            have HQ:Hid (Calls Tryz.prog 18 #[.pointer (some ⟨gl,0,none⟩),.int .i64 0,.slice PP p.length pc] w8 fun e w'=>e=.returned (.int .i64 e9)∧∃ Xg',St w w' gl Xg' D ((i + 1) * 32830 + 1)∧St w w' g X4 F2 ((i + 1) * 32830)∧ModP (Own gl F2 Xg) w8 w'):=by
              have:=HQ9.out
              rw [hD] at this
              exact this
            clear hD HQ9
            go_wp2_with fail
            refine (show Calls _ _ _ _ _ from HQ.out).mono ?_
            rintro e w9 ⟨rfl,Xg9,hs9,hf9,hm9⟩
            have HS9:Hid (St w w9 gl Xg9 D ((i + 1) * 32830 + 1)):=hs9
            have HF9:Hid (St w w9 g X4 F2 ((i + 1) * 32830)):=hf9
            have HM9:Hid (MyR w.heap.size w9 (.slice PL n cl) L n):=HM8.out.mod HSG.out.fs.toFsC hm9
            clear hs9 hf9 hm9 HQ HSF HSG HM8
            obtain ⟨nd,hnd⟩:∃ nd,D.dir.length=nd:=⟨_,rfl⟩
            have HND:Hid (D.dir.length=nd):=hnd
            have HNS:Hid (D.sure.length=nd):=by show _=_; rw [HDS.out,hnd]
            have HNDL:Hid (nd ≤ 64):=by show _ ≤ _; rw [← hnd]; exact HS9.out.few.1
            clear hnd HDS
            have HQ:Hid (Calls Tryz.prog 14 #[.pointer (some ⟨gl,0,none⟩)] w9 fun e w'=>NowP w9 (nowM D) nd e w'):=now_st HS9.out HND.out
            go_wp2_with fail
            refine (show Calls _ _ _ _ _ from HQ.out).mono ?_
            rintro e wa ⟨Pa,cA,rfl,hpa,hba⟩
            have HSA:Hid (St w wa gl Xg9 D ((i + 1) * 32830 + 1)):=HS9.out.on hba
            have HFA:Hid (St w wa g X4 F2 ((i + 1) * 32830)):=HF9.out.on hba
            have HMA:Hid (MyR w.heap.size wa (.slice PL n cl) L n):=HM9.out.on hba
            have HPA:Hid (PR wa (.slice Pa nd cA) (nowM D)):=hpa
            clear hpa hba HQ HS9 HF9 HM9
            obtain ⟨tv,tb,htv⟩:∃ tv tb,lookM (nowM D) { data:=#[100,117,109,112,46,114,100,98] }=(tv,tb):=⟨_,_,rfl⟩
            have HTV:Hid (lookM (nowM D) { data:=#[100,117,109,112,46,114,100,98] }=(tv,tb)):=htv
            have HIN:Hid (hasB L (tv,tb)=true):=hasB_yes (by rw [← htv]; exact HDL.out)
            clear htv HDL
            have HQ:Hid (Calls Tryz.prog 13 #[.slice Pa nd cA,.string { data:=#[100,117,109,112,46,114,100,98] }] wa fun e w'=>e=.returned (.tuple #[.string tv,.bool tb])∧w'=wa):=by
              have:=find24_any (.slice Pa nd cA) (nowM D) { data:=#[100,117,109,112,46,114,100,98] } (by rw [now_len,HND.out]; have:=HNDL.out; omega) wa HPA.out.kr
              rw [HTV.out] at this
              exact this
            go_wp2_with fail
            refine (show Calls _ _ _ _ _ from HQ.out).mono ?_
            rintro e wb ⟨rfl,rfl⟩
            clear HQ HPA
            have HQ:Hid (Calls Tryz.prog 22 #[.pointer (some ⟨gl,0,none⟩)] wb fun e w'=>NowP wb (nowM D) nd e w'):=by
              have:=safe_st HSA.out HNS.out
              rw [HDT.out] at this
              exact this
            go_wp2_with fail
            refine (show Calls _ _ _ _ _ from HQ.out).mono ?_
            rintro e wc ⟨Pc,cC,rfl,hpc,hbc⟩
            have HFC:Hid (St w wc g X4 F2 ((i + 1) * 32830)):=HFA.out.on hbc
            have HMC:Hid (MyR w.heap.size wc (.slice PL n cl) L n):=HMA.out.on hbc
            have HPC:Hid (PR wc (.slice Pc nd cC) (nowM D)):=hpc
            clear hpc hbc HQ HSA HFA HMA
            have HQ:Hid (Calls Tryz.prog 13 #[.slice Pc nd cC,.string { data:=#[100,117,109,112,46,114,100,98] }] wc fun e w'=>e=.returned (.tuple #[.string tv,.bool tb])∧w'=wc):=by
              have:=find24_any (.slice Pc nd cC) (nowM D) { data:=#[100,117,109,112,46,114,100,98] } (by rw [now_len,HND.out]; have:=HNDL.out; omega) wc HPC.out.kr
              rw [HTV.out] at this
              exact this
            go_wp2_with fail
            refine (show Calls _ _ _ _ _ from HQ.out).mono ?_
            rintro e wd ⟨rfl,rfl⟩
            clear HQ HPC HTV
            have HQ:Hid (Calls Tryz.prog 20 #[.slice PL n cl,.agg #[.string tv,.bool tb]] wd fun e w'=>e=.returned (.bool true)∧Below wd.heap.size wd w'):=by
              have:=has24_any (.slice PL n cl) L tv tb (by rw [HMC.out.1]; exact HNa.out) wd HMC.out.kr
              rw [HIN.out] at this
              exact this
            have q1:(tv.toList == tv.toList)=true:=beq_self_eq_true _
            have q2:(tb == tb)=true:=beq_self_eq_true _
            go_wp2_with fail
            refine (show Calls _ _ _ _ _ from HQ.out).mono ?_
            rintro e we ⟨rfl,hbe⟩
            have HFE:Hid (St w we g X4 F2 ((i + 1) * 32830)):=HFC.out.on hbe
            have HME:Hid (MyR w.heap.size we (.slice PL n cl) L n):=HMC.out.on hbe
            clear hbe HQ HFC HMC HIN
            have hiw:=HIW.out
            go_wp2
            go_roundw
            case rel=>exact ⟨i + 1,F2,X4,L,n,HLT.out,rfl,HFE.out,HI4.out,HD4.out,HWa.out,HNa2.out,HME.out⟩
            case measure=>have:=HLT.out; simp [intOf]; omega
      · have HWa:Hid (Wh F2 (fun x=>x ∈ L)):=by have:=HW4.out; rw [HMY.out,if_neg hk] at this; exact this
        have hkb:(k == 0)=false:=beq_eq_false_iff_ne.mpr hk
        clear HMY HE1 HW4 hk
        have HNa:Hid (n ≤ 4611686018427387000):=by have:=HNi.out; show _ ≤ _; omega
        have HNa2:Hid (n ≤ (i + 1) + 1):=by have:=HNi.out; show _ ≤ _; omega
        have HSa:Hid (St w w4 g X4 F2 ((i + 1) * 32830)):=HS4.out
        have HMa:Hid (MyR w.heap.size w4 (.slice PL n cl) L n):=HM4.out
        go_upto_region 16 with fail
        clear HS4 HM4 HR4 c0 c1 c2
        obtain ⟨nn,hnn⟩:∃ nn,F2.dir.length=nn:=⟨_,rfl⟩
        have HNN:Hid (F2.dir.length=nn):=hnn
        have HNL:Hid (nn ≤ 64):=by show _ ≤ _; rw [← hnn]; exact HSa.out.few.1
        clear hnn
        have HQ:Hid (Calls Tryz.prog 14 #[.pointer (some ⟨g,0,none⟩)] w4 fun e w'=>NowP w4 (nowM F2) nn e w'):=now_st HSa.out HNN.out
        go_wp2_with fail
        refine (show Calls _ _ _ _ _ from HQ.out).mono ?_
        rintro e w5 ⟨P5,c5,rfl,hp5,hb5⟩
        have HS5:Hid (St w w5 g X4 F2 ((i + 1) * 32830)):=HSa.out.on hb5
        have HM5:Hid (MyR w.heap.size w5 (.slice PL n cl) L n):=HMa.out.on hb5
        have HP5:Hid (PR w5 (.slice P5 nn c5) (nowM F2)):=hp5
        clear hp5 hb5 HQ HSa HMa
        obtain ⟨sv,sb,hsv⟩:∃ sv sb,lookM (nowM F2) { data:=#[100,117,109,112,46,114,100,98] }=(sv,sb):=⟨_,_,rfl⟩
        have HIN:Hid (hasB L (sv,sb)=true):=hasB_yes (by rw [← hsv]; exact wh_look HWa.out)
        have HQ:Hid (Calls Tryz.prog 13 #[.slice P5 nn c5,.string { data:=#[100,117,109,112,46,114,100,98] }] w5 fun e w'=>e=.returned (.tuple #[.string sv,.bool sb])∧w'=w5):=by
          have:=find24_any (.slice P5 nn c5) (nowM F2) { data:=#[100,117,109,112,46,114,100,98] } (by rw [now_len,HNN.out]; have:=HNL.out; omega) w5 HP5.out.kr
          rw [hsv] at this
          exact this
        clear hsv
        go_wp2_with fail
        refine (show Calls _ _ _ _ _ from HQ.out).mono ?_
        rintro e w6 ⟨rfl,rfl⟩
        clear HQ HP5 HNN HNL
        have HQ:Hid (Calls Tryz.prog 20 #[.slice PL n cl,.agg #[.string sv,.bool sb]] w6 fun e w'=>e=.returned (.bool true)∧Below w6.heap.size w6 w'):=by
          have:=has24_any (.slice PL n cl) L sv sb (by rw [HM5.out.1]; exact HNa.out) w6 HM5.out.kr
          rw [HIN.out] at this
          exact this
        go_wp2_with fail
        refine (show Calls _ _ _ _ _ from HQ.out).mono ?_
        rintro e w7 ⟨rfl,hb7⟩
        have HS7:Hid (St w w7 g X4 F2 ((i + 1) * 32830)):=HS5.out.on hb7
        have HM7:Hid (MyR w.heap.size w7 (.slice PL n cl) L n):=HM5.out.on hb7
        clear hb7 HQ HS5 HM5 HIN
        have HIB:Hid ((i + 1) * 32830 < 3298534883000):=by have:=HLT.out; have:=HL.out; show _ < _; omega
        have HQ:Hid _:=clone_st HS7.out (by have:=HIB.out; omega)
        unfold ptr at HQ
        go_wp2_with fail
        refine (show Calls _ _ _ _ _ from HQ.out).mono ?_
        rintro e w8 ⟨gl,Xg,rfl,hsg,hsf,hdj,hb8⟩
        have HSF:Hid (St w w8 g X4 F2 ((i + 1) * 32830)):=hsf
        have HSG:Hid (St w w8 gl Xg F2 ((i + 1) * 32830)):=hsg
        have HM8:Hid (MyR w.heap.size w8 (.slice PL n cl) L n):=HM7.out.on hb8
        have HQ9:Hid (Calls Tryz.prog 18 #[.pointer (some ⟨gl,0,none⟩),.int .i64 0,.slice PP p.length pc] w8 fun e w'=>e=.returned (.int .i64 (crashM F2 0 p).2)∧∃ Xg',St w w' gl Xg' (crashM F2 0 p).1 ((i + 1) * 32830 + 1)∧St w w' g X4 F2 ((i + 1) * 32830)∧ModP (Own gl F2 Xg) w8 w'):=by
          have hk:KR pinE w8 (.slice PP p.length pc) p:=kr_under HP.out HPB.out hsg.bel
          exact crash_two hsg hsf hdj HIB.out (by have:=HPL.out; omega) ⟨hk,fun hp b x n c e hs=>by have:=HPB.out hp b x n c e; have:=hsg.own b hs; omega⟩
        clear hsg hsf hdj hb8 HQ HS7 HM7
        obtain ⟨D,e9,hD⟩:∃ D e9,crashM F2 0 p=(D,e9):=⟨_,_,rfl⟩
        have HDD:Hid (Dw D):=by have:=HD4.out.crash 0 p; rw [hD] at this; exact this
        have HDT:Hid (safeM D=nowM D):=by
          have h1:=HD4.out.crash 0 p
          have h2:=crash_down F2 p
          rw [hD] at h1 h2
          exact (h1.dn h2).1.safe
        have HDS:Hid (D.sure.length=D.dir.length):=by
          have h1:=HD4.out.crash 0 p
          have h2:=crash_down F2 p
          rw [hD] at h1 h2
          show _=_
          rw [(h1.dn h2).1.su]
        have HDL:Hid (lookM (nowM D) liveN ∈ L):=by
          have h1:=HWa.out.crash 0 p
          rw [hD] at h1
          exact wh_look h1
        have HQ:Hid (Calls Tryz.prog 18 #[.pointer (some ⟨gl,0,none⟩),.int .i64 0,.slice PP p.length pc] w8 fun e w'=>e=.returned (.int .i64 e9)∧∃ Xg',St w w' gl Xg' D ((i + 1) * 32830 + 1)∧St w w' g X4 F2 ((i + 1) * 32830)∧ModP (Own gl F2 Xg) w8 w'):=by
          have:=HQ9.out
          rw [hD] at this
          exact this
        clear hD HQ9
        go_wp2_with fail
        refine (show Calls _ _ _ _ _ from HQ.out).mono ?_
        rintro e w9 ⟨rfl,Xg9,hs9,hf9,hm9⟩
        have HS9:Hid (St w w9 gl Xg9 D ((i + 1) * 32830 + 1)):=hs9
        have HF9:Hid (St w w9 g X4 F2 ((i + 1) * 32830)):=hf9
        have HM9:Hid (MyR w.heap.size w9 (.slice PL n cl) L n):=HM8.out.mod HSG.out.fs.toFsC hm9
        clear hs9 hf9 hm9 HQ HSF HSG HM8
        obtain ⟨nd,hnd⟩:∃ nd,D.dir.length=nd:=⟨_,rfl⟩
        have HND:Hid (D.dir.length=nd):=hnd
        have HNS:Hid (D.sure.length=nd):=by show _=_; rw [HDS.out,hnd]
        have HNDL:Hid (nd ≤ 64):=by show _ ≤ _; rw [← hnd]; exact HS9.out.few.1
        clear hnd HDS
        have HQ:Hid (Calls Tryz.prog 14 #[.pointer (some ⟨gl,0,none⟩)] w9 fun e w'=>NowP w9 (nowM D) nd e w'):=now_st HS9.out HND.out
        go_wp2_with fail
        refine (show Calls _ _ _ _ _ from HQ.out).mono ?_
        rintro e wa ⟨Pa,cA,rfl,hpa,hba⟩
        have HSA:Hid (St w wa gl Xg9 D ((i + 1) * 32830 + 1)):=HS9.out.on hba
        have HFA:Hid (St w wa g X4 F2 ((i + 1) * 32830)):=HF9.out.on hba
        have HMA:Hid (MyR w.heap.size wa (.slice PL n cl) L n):=HM9.out.on hba
        have HPA:Hid (PR wa (.slice Pa nd cA) (nowM D)):=hpa
        clear hpa hba HQ HS9 HF9 HM9
        obtain ⟨tv,tb,htv⟩:∃ tv tb,lookM (nowM D) { data:=#[100,117,109,112,46,114,100,98] }=(tv,tb):=⟨_,_,rfl⟩
        have HTV:Hid (lookM (nowM D) { data:=#[100,117,109,112,46,114,100,98] }=(tv,tb)):=htv
        have HIN:Hid (hasB L (tv,tb)=true):=hasB_yes (by rw [← htv]; exact HDL.out)
        clear htv HDL
        have HQ:Hid (Calls Tryz.prog 13 #[.slice Pa nd cA,.string { data:=#[100,117,109,112,46,114,100,98] }] wa fun e w'=>e=.returned (.tuple #[.string tv,.bool tb])∧w'=wa):=by
          have:=find24_any (.slice Pa nd cA) (nowM D) { data:=#[100,117,109,112,46,114,100,98] } (by rw [now_len,HND.out]; have:=HNDL.out; omega) wa HPA.out.kr
          rw [HTV.out] at this
          exact this
        go_wp2_with fail
        refine (show Calls _ _ _ _ _ from HQ.out).mono ?_
        rintro e wb ⟨rfl,rfl⟩
        clear HQ HPA
        have HQ:Hid (Calls Tryz.prog 22 #[.pointer (some ⟨gl,0,none⟩)] wb fun e w'=>NowP wb (nowM D) nd e w'):=by
          have:=safe_st HSA.out HNS.out
          rw [HDT.out] at this
          exact this
        go_wp2_with fail
        refine (show Calls _ _ _ _ _ from HQ.out).mono ?_
        rintro e wc ⟨Pc,cC,rfl,hpc,hbc⟩
        have HFC:Hid (St w wc g X4 F2 ((i + 1) * 32830)):=HFA.out.on hbc
        have HMC:Hid (MyR w.heap.size wc (.slice PL n cl) L n):=HMA.out.on hbc
        have HPC:Hid (PR wc (.slice Pc nd cC) (nowM D)):=hpc
        clear hpc hbc HQ HSA HFA HMA
        have HQ:Hid (Calls Tryz.prog 13 #[.slice Pc nd cC,.string { data:=#[100,117,109,112,46,114,100,98] }] wc fun e w'=>e=.returned (.tuple #[.string tv,.bool tb])∧w'=wc):=by
          have:=find24_any (.slice Pc nd cC) (nowM D) { data:=#[100,117,109,112,46,114,100,98] } (by rw [now_len,HND.out]; have:=HNDL.out; omega) wc HPC.out.kr
          rw [HTV.out] at this
          exact this
        go_wp2_with fail
        refine (show Calls _ _ _ _ _ from HQ.out).mono ?_
        rintro e wd ⟨rfl,rfl⟩
        clear HQ HPC HTV
        have HQ:Hid (Calls Tryz.prog 20 #[.slice PL n cl,.agg #[.string tv,.bool tb]] wd fun e w'=>e=.returned (.bool true)∧Below wd.heap.size wd w'):=by
          have:=has24_any (.slice PL n cl) L tv tb (by rw [HMC.out.1]; exact HNa.out) wd HMC.out.kr
          rw [HIN.out] at this
          exact this
        have q1:(tv.toList == tv.toList)=true:=beq_self_eq_true _
        have q2:(tb == tb)=true:=beq_self_eq_true _
        go_wp2_with fail
        refine (show Calls _ _ _ _ _ from HQ.out).mono ?_
        rintro e we ⟨rfl,hbe⟩
        have HFE:Hid (St w we g X4 F2 ((i + 1) * 32830)):=HFC.out.on hbe
        have HME:Hid (MyR w.heap.size we (.slice PL n cl) L n):=HMC.out.on hbe
        clear hbe HQ HFC HMC HIN
        have hiw:=HIW.out
        go_wp2
        go_roundw
        case rel=>exact ⟨i + 1,F2,X4,L,n,HLT.out,rfl,HFE.out,HI4.out,HD4.out,HWa.out,HNa2.out,HME.out⟩
        case measure=>have:=HLT.out; simp [intOf]; omega
    · have he:i=len:=by omega
      subst he
      clear hlt hi
      go_wp2
      go_returns
      exact ⟨rfl,HST.out.bel⟩
end Go.Proofs.YtbgbmfmgdgalbaaGreatDoor
