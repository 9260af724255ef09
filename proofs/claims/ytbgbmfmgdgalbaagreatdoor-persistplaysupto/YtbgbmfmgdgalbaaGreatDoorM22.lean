import Derived.Test.YtbgbmfmgdgalbaaGreatDoorM21
import Derived.Test.YtbgbmfmgdgalbaaGreatDoorRows
import Derived.JoinedCond
import Derived.ChangeArms
import Derived.Test.YtbgbmfmgdgalbaaGreatDoorM19
import Derived.Test.YtbgbmfmgdgalbaaGreatDoorM07
import Derived.Laws.BytesArg
namespace Go.Proofs.YtbgbmfmgdgalbaaGreatDoor
open Go.RowKit Go.Maps
set_option linter.unusedVariables false
set_option linter.unusedSimpArgs false
theorem St.more24 {w0 W:World} {g:Nat} {X:Gh} {F:Fs} {i j:Nat} (h:St w0 W g X F i) (hj:i ≤ j):St w0 W g X F j:=⟨⟨h.fs,Nat.le_trans h.q hj,h.bel,h.own⟩,Nat.le_trans h.st hj,Nat.le_trans h.fi hj,Nat.le_trans h.ch hj,h.pk⟩
theorem cal_of {w0 W:World} {g i j:Nat} {X:Gh} {F F':Fs} {r:Int} {e:Ending} {w':World} (h:BcP w0 W g X F F' r i e w') (hj:i + 1 ≤ j):CalP w0 W g X F F' j (.int .i64 r) e w':=by
  obtain ⟨he,X',hs,hb⟩:=h
  exact ⟨he,X',hs.more24 hj,Bt.of hb⟩
theorem cal_more {w0 W:World} {g i j:Nat} {X:Gh} {F F':Fs} {v:Value} {e:Ending} {w':World} (h:CalP w0 W g X F F' i v e w') (hj:i ≤ j):CalP w0 W g X F F' j v e w':=by
  obtain ⟨he,X',hs,hb⟩:=h
  exact ⟨he,X',hs.more24 hj,hb⟩
theorem create_cal {w0 W:World} {g i:Nat} {X:Gh} {F:Fs} {n:ByteArray} (h:St w0 W g X F i) (hi:i < 3298534883000) (hn:n.size ≤ 140737488355328):Calls Tryz.prog 82 #[ptr (some g),.string n] W (CalP w0 W g X F (createM F n).1 (i + 1) (.int .i64 (createM F n).2)):=
  (Create_any goDownC g X F n hn W h.fs (h.sm (by omega)) (by have:=h.st; omega) (by have:=h.fi; omega) h.pk).mono fun e w' hh=>cal_of (bc_of h (createM_gp _ F n) hh.1 hh.2) (Nat.le_refl _)
theorem append_cal {w0 W:World} {g i:Nat} {X:Gh} {F:Fs} {n d:ByteArray} (h:St w0 W g X F i) (hi:i < 3298534883000) (hn:n.size ≤ 140737488355328) (hd:d.size ≤ 140737488355328):Calls Tryz.prog 83 #[ptr (some g),.string n,.string d] W (CalP w0 W g X F (appendM F n d).1 (i + 1) (.int .i64 (appendM F n d).2)):=
  (Append_any goDownC g X F n d hn hd W h.fs (h.sm (by omega)) (by have:=h.st; omega) h.pk).mono fun e w' hh=>cal_of (bc_of h (appendM_gp _ F n d) hh.1 hh.2) (Nat.le_refl _)
theorem fails_cal {w0 W:World} {g i:Nat} {X:Gh} {F:Fs} {n p:Int} (h:St w0 W g X F i) (hi:i < 3298534883000):Calls Tryz.prog 15 #[ptr (some g),.int .i64 n,.int .i64 p] W (CalP w0 W g X F (failsM F n p).1 (i + 1) (.int .i64 (failsM F n p).2)):=
  (Fail_any g X F n p W h.fs (h.sm (by omega))).mono fun e w' hh=>cal_of (bc_of h (failsM_gp _ F n p) hh.1 hh.2) (Nat.le_refl _)
theorem crash_cal {w0 W:World} {g i:Nat} {X:Gh} {F:Fs} {n:Int} {p:List Int} {pv:Value} (h:St w0 W g X F i) (hi:i < 3298534883000) (hp:p.length ≤ 17592186044416) (hv:Pks W (Own g F X) pv p):Calls Tryz.prog 18 #[ptr (some g),.int .i64 n,pv] W (CalP w0 W g X F (crashM F n p).1 (i + 1) (.int .i64 (crashM F n p).2)):=
  (Crash_any g X F n pv p hp W h.fs (h.sm (by omega)) hv).mono fun e w' hh=>cal_of (bc_of h (crashM_gp _ F n p hp) hh.1 hh.2) (Nat.le_refl _)
theorem start_cal {w0 W:World} {g i:Nat} {X:Gh} {F:Fs} (h:St w0 W g X F i):Calls Tryz.prog 19 #[ptr (some g)] W (CalP w0 W g X F (startM F).1 (i + 1) (.int .i64 (startM F).2)):=
  (Start_any g X F W h.fs).mono fun e w' hh=>cal_of (bc_of h (startM_gp _ F) hh.1 ⟨X,hh.2⟩) (Nat.le_refl _)
def plantM (F:Fs) (n t:ByteArray):Fs × Int:=andM (createM F n) fun G=>appendM G n t
def doneL (F:Fs) (o:Qo):Fs × Int:=if o.k=0 then saveM F o.t o.m else if o.k=1 then ((loadM F).1,(loadM F).2.2.2) else if o.k=2 then ((tidyM F).1,(tidyM F).2.2) else if o.k=4 then failsM F o.m o.a else if o.k=5 then crashM F o.m o.p else if o.k=6 then startM F else if o.k=7 then plantM F o.n o.t else (F,0)
theorem ldQ {ops:Array Oper} {rest:List Oper} {op:Oper} {a:Act} {w:World} {Q:Exit → Act → World → Prop} (C:Array Value) (r:Nat) (x:Operand) (hg:op.guard=none) (ho:op.op=.load 47 x) (hx:a.eval x=.pointer (some ⟨r,0,none⟩)) (hc:w.heap[r]?=some (.cells C 47)) (h6:C.size=6) (h:wpList Tryz.prog ops Q rest (a.put op.dst (.agg C)) w):wpList Tryz.prog ops Q (op :: rest) a w:=by
  refine wpList_load_mid hg _ x ho r 0 hx C.toList _ (fun j v hv=>by rw [cell_of_row _ _ _ _ _ _ hc]; simpa using hv) Tryz.underlying47 rfl (by rw [Array.length_toList,h6]; exact szQ) ?_
  rw [Array.toArray_toList]
  exact h
set_option maxHeartbeats 4000000 in
set_option maxRecDepth 100000 in
theorem planted24_any {w0 w:World} {g i:Nat} {X:Gh} {F:Fs} {o:Qo} {pv:Value} {C:Array Value} (h:St w0 w g X F i) (hi:i + 2 < 3298534883000) (hC:C=qoArr o pv) (ok:QoOk o) (hpv:∃ Q n c,pv=.slice Q n c) :
    Calls Tryz.prog 40 #[ptr (some g),.agg C] w (CalP w0 w g X F (plantM F o.n o.t).1 (i + 2) (.int .i64 (plantM F o.n o.t).2)):=by
  obtain ⟨Q,np,c,rfl⟩:=hpv
  subst hC
  obtain ⟨k,t,m,a,p,n⟩:=o
  obtain ⟨ot,on,op,om⟩:=ok
  simp only at ot on op om
  obtain ⟨W0,hW0⟩:∃ W0,w.alloc (.cells #[.int .i64 k,.string t,.int .i64 m,.int .i64 a,.slice Q np c,.string n] 47)=W0:=⟨_,rfl⟩
  obtain ⟨R,hR⟩:∃ R,w.heap.size=R:=⟨_,rfl⟩
  have HB0:Hid (Below w.heap.size w W0):=by show Below _ _ _; rw [← hW0]; exact (Below.refl _ _).alloc (Nat.le_refl _) _
  have HR0:Hid (W0.heap[R]?=some (.cells #[.int .i64 k,.string t,.int .i64 m,.int .i64 a,.slice Q np c,.string n] 47)):=by show _=_; rw [← hW0,← hR]; exact one_alloc _ _
  obtain ⟨c0,c1,c2,c3,c4,c5⟩:=row6 HR0.out
  have H0:Hid (St w0 W0 g X F i):=h.on HB0.out
  have HWR:Hid (R < W0.heap.size):=row_lt HR0.out
  have HNO:Hid (¬ Own g F X R):=fun hq=>by have:=h.fs.own_lt hq; omega
  obtain ⟨F1,e1,hc1⟩:∃ F1 e1,createM F n=(F1,e1):=⟨_,_,rfl⟩
  have HC1:Hid (Calls Tryz.prog 82 #[.pointer (some ⟨g,0,none⟩),.string n] W0 (CalP w0 W0 g X F F1 (i + 1) (.int .i64 e1))):=by
    have:=create_cal (n:=n) H0.out (by omega) on
    rw [hc1] at this
    exact this
  have HPL:Hid (plantM F n t=if e1=0 then appendM F1 n t else (F1,e1)):=by
    show _=_
    unfold plantM andM
    rw [hc1]
  have HAP:Hid (∀ W X1,St w0 W g X1 F1 (i + 1) → Calls Tryz.prog 83 #[.pointer (some ⟨g,0,none⟩),.string n,.string t] W (CalP w0 W g X1 F1 (appendM F1 n t).1 (i + 2) (.int .i64 (appendM F1 n t).2))):=fun W X1 h1=>append_cal h1 (by omega) on ot
  clear h hi ot on op om hc1
  unfold ptr qoArr
  simp only
  go_enter Tryz.func40,Tryz.ntmps40
  go_upto_region 1 with fail
  clear hW0
  try rw [hR]
  go_wp2_with fail
  refine (show Calls _ _ _ _ _ from HC1.out).mono ?_
  rintro e w1 ⟨rfl,X1,hs1,hb1⟩
  have HS1:Hid (St w0 w1 g X1 F1 (i + 1)):=hs1
  have HB1:Hid (Bt w g X F w1 X1 F1):=Bt.pre HB0.out hb1
  have HR1:Hid (w1.heap[R]?=some (.cells #[.int .i64 k,.string t,.int .i64 m,.int .i64 a,.slice Q np c,.string n] 47)):=hb1.md.row HR0.out HNO.out
  clear c0 c1 c2 c3 c4 c5 hs1 hb1
  obtain ⟨c0,c1,c2,c3,c4,c5⟩:=row6 HR1.out
  by_cases h0:e1=0
  · subst h0
    have HV:Hid (plantM F n t=appendM F1 n t):=by show _=_; rw [HPL.out,if_pos rfl]
    obtain ⟨F2,e2,hc2⟩:∃ F2 e2,appendM F1 n t=(F2,e2):=⟨_,_,rfl⟩
    have HQ:Hid (Calls Tryz.prog 83 #[.pointer (some ⟨g,0,none⟩),.string n,.string t] w1 (CalP w0 w1 g X1 F1 F2 (i + 2) (.int .i64 e2))):=by
      have:=HAP.out w1 X1 HS1.out
      rw [hc2] at this
      exact this
    have HV2:Hid (plantM F n t=(F2,e2)):=by show _=_; rw [HV.out,hc2]
    clear HPL HAP HV hc2
    go_wp2_with fail
    refine (show Calls _ _ _ _ _ from HQ.out).mono ?_
    rintro e w2 ⟨rfl,X2,hs2,hb2⟩
    have HS2:Hid (St w0 w2 g X2 F2 (i + 2)):=hs2
    have HB2:Hid (Bt w g X F w2 X2 F2):=HB1.out.trans hb2
    clear hs2 hb2
    go_wp2
    go_returns
    rw [HV2.out]
    exact ⟨rfl,X2,HS2.out,HB2.out⟩
  · have HV:Hid (plantM F n t=(F1,e1)):=by show _=_; rw [HPL.out,if_neg h0]
    have heb:(e1 == 0)=false:=beq_eq_false_iff_ne.mpr h0
    clear HPL HAP h0
    go_wp2
    go_returns
    rw [HV.out]
    exact ⟨rfl,X1,HS1.out.more24 (by omega),HB1.out⟩
end Go.Proofs.YtbgbmfmgdgalbaaGreatDoor
namespace Go.Proofs.YtbgbmfmgdgalbaaGreatDoor
open Go.ChangeShapes Go.WideShapes Go.RowKit Go.Maps
set_option linter.unusedVariables false
set_option linter.unusedSimpArgs false
def qoCells (o:Qo) (pv:Value):List Value:=[.int .i64 o.k,.string o.t,.int .i64 o.m,.int .i64 o.a,pv,.string o.n]
structure OpQ (N:Nat) (W:World) (g q:Nat) (o:Qo) (pv:Value):Prop where
  cells:∀ j u,(qoCells o pv)[j]?=some u → W.cell? ⟨g,q + j,none⟩=some u
  ok:QoOk o
  kr:KR pinE W pv o.p
  lt:o.p ≠ [] → ∀ b x n c,pv=.slice (some ⟨b,x,none⟩) n c → b < N
  gt:g < N
theorem OpQ.on {N:Nat} {W W':World} {g q:Nat} {o:Qo} {pv:Value} (h:OpQ N W g q o pv) (hb:Below N W W'):OpQ N W' g q o pv:=
  ⟨fun j u hu=>by rw [pcell_same (hb.block g h.gt)]; exact h.cells j u hu,h.ok,kr_under h.kr h.lt hb,h.lt,h.gt⟩
theorem OpQ.pks {N:Nat} {W:World} {g q:Nat} {o:Qo} {pv:Value} (h:OpQ N W g q o pv) {S:Nat → Prop} (hS:∀ b,S b → N ≤ b):Pks W S pv o.p:=⟨h.kr,fun hp b x n c e hs=>by have:=h.lt hp b x n c e; have:=hS b hs; omega⟩
theorem cellsQx:Tryz.prog.cellsOf 47=6:=by kernel_rfl
theorem bulk_small {H:Type} {l:List (DataW H)} (hk:Rows.uptoSmall H l=true):Rows.uptoBulkAll l ≤ 1048576:=of_decide_eq_true hk
theorem bulk_one {H:Type} (d:DataW H):1 ≤ Rows.uptoBulk d:=by
  cases d with
  | lit l=>cases l <;> simp [Rows.uptoBulk]
  | nil=>simp [Rows.uptoBulk]
  | ptr d=>simp [Rows.uptoBulk]
  | slice elems spare=>simp [Rows.uptoBulk]
  | agg parts=>simp [Rows.uptoBulk]
  | iface t d=>simp [Rows.uptoBulk]
  | map entries=>simp [Rows.uptoBulk]
  | held h=>simp [Rows.uptoBulk]
theorem bulk_part {H:Type} {d:DataW H} {l:List (DataW H)} (h:d ∈ l):Rows.uptoBulk d ≤ Rows.uptoBulkAll l:=by
  induction l with
  | nil=>cases h
  | cons x r ih =>
    simp only [Rows.uptoBulkAll]
    cases List.mem_cons.1 h with
    | inl e=>subst e; omega
    | inr e=>have:=ih e; omega
theorem bulk_len {H:Type} (l:List (DataW H)):l.length ≤ Rows.uptoBulkAll l:=by
  induction l with
  | nil=>simp [Rows.uptoBulkAll]
  | cons x r ih=>have:=bulk_one x; simp only [Rows.uptoBulkAll,List.length_cons]; omega
theorem openU_picks {H:Type} {enc:TypeId × Value → H} {W:World} {fuel:Nat} {v:Value} {y:DataW H × List MemPlace}
    (h:DataW.trod enc Tryz.prog W 0 (fun _=>true) true fuel 44 [v]=some y) (hb:Rows.uptoBulk y.1 ≤ 1048576) :
    ∃ p:List Int,KR pinE W v p∧p.length ≤ 1048576∧(p ≠ [] → ∀ b x n c,v=.slice (some ⟨b,x,none⟩) n c → b < W.heap.size):=by
  rcases open_ints Tryz.underlying44 Tryz.underlying3 cellsI h with ⟨hcs,hx⟩ | ⟨a,len,cap,zs,hcs,_,hl,hm,hz,hx,hcell,hwz⟩
  · have e:v=.slice none 0 0:=by simpa using hcs
    subst e
    exact ⟨[],KR.nil,by simp,fun h=>absurd rfl h⟩
  · have e:v=.slice (some a) len cap:=by simpa using hcs
    subst e
    simp only [if_true] at hz
    have hlen:(zs.take len).length=len:=by rw [List.length_take]; omega
    have hr:len ≤ 1048576:=by
      rw [hx] at hb
      simp only [Rows.uptoBulk] at hb
      have h1:=bulk_len (H:=H) (lits .i64 (zs.take len))
      have h2:(lits (H:=H) .i64 (zs.take len)).length=len:=by unfold lits; rw [List.length_map,hlen]
      omega
    refine ⟨zs.take len,?_,by omega,fun hne b x n c e=>?_⟩
    · by_cases h0:len=0
      · subst h0
        exact Or.inl ⟨by simp,some a,cap,rfl,fun h=>by cases h⟩
      · obtain ⟨b,off,spot⟩:=a
        have hspot:spot=none:=by simpa [Addr.add] using World.cell?_spot (hcell 0 (by omega))
        subst hspot
        refine Or.inr ⟨b,off,cap,by rw [hlen],fun j u hu=>?_⟩
        rw [pin_fl,List.getElem?_map] at hu
        have hj:j < len:=by
          rcases hq:(zs.take len)[j]? with _ | z
          · rw [hq] at hu; cases hu
          · have:=(List.getElem?_eq_some_iff.1 hq).1; omega
        have:=hcell j (by omega)
        rw [Lib.add_plain] at this
        rw [this,List.getD_eq_getElem?_getD,← hu,List.getElem?_take_of_lt hj,List.getElem?_eq_getElem (by omega)]
        rfl
    · injection e with e _ _
      injection e with e
      subst e
      have h0:0 < len:=by
        have:=List.length_pos_iff.2 hne
        omega
      have:=hcell 0 (by omega)
      exact lt_of_cell this
set_option maxRecDepth 100000 in
theorem openU_qops {H:Type} {enc:TypeId × Value → H} {W:World} {fuel:Nat} {ad:Option Addr} {len cap:Nat} {x:DataW H × List MemPlace}
    (h:DataW.trod enc Tryz.prog W 0 (fun _=>true) true fuel 43 [.slice ad len cap]=some x) (hb:Rows.uptoBulk x.1 ≤ 1048576) :
    ∃ g off,(len ≠ 0 → ad=some ⟨g,off,none⟩)∧len ≤ 1048576∧∀ i,i < len → ∃ o pv,OpQ W.heap.size W g (off + i * 6) o pv:=by
  rcases Go.Deep.open_slice Tryz.underlying43 h with ⟨hcs,hx⟩ | ⟨a,len',cap',m,n,D,Pl,hcs,_,hl,hm,hmm,hx,hcell⟩
  · simp at hcs
    obtain ⟨rfl,rfl,rfl⟩:=hcs
    exact ⟨0,0,fun h=>absurd rfl h,Nat.zero_le _,fun i hi=>by omega⟩
  · simp at hcs
    obtain ⟨rfl,rfl,rfl⟩:=hcs
    subst hx
    simp only [if_true] at hmm
    subst hmm
    have hel:∀ i,i < len → Rows.uptoBulk (D i) ≤ 1048576:=by
      intro i hi
      have h1:=bulk_part (List.mem_map.2 ⟨i,List.mem_range.2 hi,rfl⟩:D i ∈ (List.range len).map D)
      simp only [Rows.uptoBulk] at hb
      omega
    have hlen:len ≤ 1048576:=by
      have h1:=bulk_len ((List.range len).map D)
      simp only [List.length_map,List.length_range] at h1
      simp only [Rows.uptoBulk] at hb
      omega
    obtain ⟨g,off,spot⟩:=a
    have hsp:len ≠ 0 → spot=none:=fun h=>by
      obtain ⟨cs',h1,h2⟩:=hcell 0 (by omega)
      rw [cellsQx] at h1
      obtain ⟨_,hlen4,hc4⟩:=World.cells?_some h1
      have c0:=hc4 0 (by omega)
      obtain ⟨v0,hv0⟩:∃ v0,cs'[0]?=some v0:=⟨_,List.getElem?_eq_getElem (by omega)⟩
      rw [hv0] at c0
      simpa [Addr.add] using World.cell?_spot c0
    refine ⟨g,off,fun h=>by rw [hsp h],hlen,fun i hi=>?_⟩
    obtain ⟨cs',h1,h2⟩:=hcell i (by omega)
    have hs:=hsp (by omega)
    subst hs
    rw [cellsQx] at h1
    obtain ⟨_,hlen4,hc4⟩:=World.cells?_some h1
    obtain ⟨xs,k,hk,hxy,_,hxl,hf⟩:=DataW.trod_struct Tryz.underlying47 h2
    match xs,hxl,cs',hlen4 with
    | [y0,y1,y2,y3,y4,y5],_,[v0,v1,v2,v3,v4,v5],_ =>
      have g0:=hf 0 _ rfl
      have g1:=hf 1 _ rfl
      have g2:=hf 2 _ rfl
      have g3:=hf 3 _ rfl
      have g4:=hf 4 _ rfl
      have g5:=hf 5 _ rfl
      simp [cellsI,cellsS,cellsPk] at g0 g1 g2 g3 g4 g5
      simp only [Prod.mk.injEq] at hxy
      obtain ⟨z0,e0,_,_⟩:=DataW.trod_int Tryz.underlying3 g0
      obtain ⟨z1,e1,hy1,_⟩:=DataW.trod_string Tryz.underlying9 g1
      obtain ⟨z2,e2,_,hw2⟩:=DataW.trod_int Tryz.underlying3 g2
      obtain ⟨z3,e3,_,_⟩:=DataW.trod_int Tryz.underlying3 g3
      obtain ⟨z5,e5,hy5,_⟩:=DataW.trod_string Tryz.underlying9 g5
      simp at e0 e1 e2 e3 e5
      have q:=hel i hi
      rw [hxy.1] at q
      simp only [List.map_cons,List.map_nil,Rows.uptoBulk,Rows.uptoBulkAll] at q
      rw [hy1,hy5] at q
      simp only [Rows.uptoBulk,list_len] at q
      have hs1:z1.size ≤ 140737488355328:=by omega
      have hs5:z5.size ≤ 140737488355328:=by omega
      obtain ⟨p,hp1,hp2,hp3⟩:=openU_picks (y:=(y4.1,y4.2)) g4 (by show Rows.uptoBulk y4.1 ≤ _; omega)
      subst e0; subst e1; subst e2; subst e3; subst e5
      have hall:∀ j u,(qoCells ⟨z0,z1,z2,z3,p,z5⟩ v4)[j]?=some u → W.cell? ⟨g,off + i * 6 + j,none⟩=some u:=fun q u hu=>by
        have hj:q < 6:=(List.getElem?_eq_some_iff.1 hu).1
        have c0:=hc4 q hj
        rw [show [Value.int .i64 z0,.string z1,.int .i64 z2,.int .i64 z3,v4,.string z5][q]?=some u from hu,Go.Deep.add_add,Lib.add_plain] at c0
        rw [← c0]
        congr 2
        omega
      exact ⟨⟨z0,z1,z2,z3,p,z5⟩,v4,hall,⟨hs1,hs5,by show p.length ≤ _; omega,bounds_i64 hw2⟩,hp1,hp3,lt_of_cell (hall 0 _ rfl)⟩
end Go.Proofs.YtbgbmfmgdgalbaaGreatDoor
namespace Go.Proofs.YtbgbmfmgdgalbaaGreatDoor
open Go.RowKit Go.Maps
set_option linter.unusedVariables false
set_option linter.unusedSimpArgs false
theorem inv_doneL {F:Fs} {i:Nat} (h:Inv F i) {o:Qo} (ok:QoOk o):Inv (doneL F o).1 (i + 32830):=by
  unfold doneL
  by_cases e0:o.k=0
  · rw [if_pos e0]; exact (h.save o.t o.m).more (by omega)
  rw [if_neg e0]
  by_cases e1:o.k=1
  · rw [if_pos e1]; exact h.load.more (by omega)
  rw [if_neg e1]
  by_cases e2:o.k=2
  · rw [if_pos e2]; exact h.tidy.more (by omega)
  rw [if_neg e2]
  by_cases e4:o.k=4
  · rw [if_pos e4]
    exact (h.done ⟨6,⟨#[]⟩,⟨#[]⟩,⟨#[]⟩,o.m,o.a,[]⟩ (Nat.zero_le _)).more (by omega)
  rw [if_neg e4]
  by_cases e5:o.k=5
  · rw [if_pos e5]
    exact (h.done ⟨7,⟨#[]⟩,⟨#[]⟩,⟨#[]⟩,o.m,0,o.p⟩ ok.p).more (by omega)
  rw [if_neg e5]
  by_cases e6:o.k=6
  · rw [if_pos e6]
    exact (h.done ⟨8,⟨#[]⟩,⟨#[]⟩,⟨#[]⟩,0,0,[]⟩ (Nat.zero_le _)).more (by omega)
  rw [if_neg e6]
  by_cases e7:o.k=7
  · rw [if_pos e7]
    unfold plantM
    exact inv_and (i:=i + 1) (h.create o.n) (by omega) (fun h2=>(h2.append o.n o.t).more (by omega))
  rw [if_neg e7]
  exact h.more (by omega)
end Go.Proofs.YtbgbmfmgdgalbaaGreatDoor
namespace Go.Proofs.YtbgbmfmgdgalbaaGreatDoor
open Go.RowKit Go.Maps
set_option linter.unusedVariables false
set_option linter.unusedSimpArgs false
theorem qo_mod {W W':World} {R:Nat} {C:Array Value} {g:Nat} {X:Gh} {F:Fs} (h:W.heap[R]?=some (.cells C 47)) (hf:FsC W g X F) (hm:ModP (Own g F X) W W'):W'.heap[R]?=some (.cells C 47):=(hm.oth R (row_lt h) (fun ho=>by have:=hf.own_ty ho h; exact absurd this (by unfold tyOwn; decide))).trans h
end Go.Proofs.YtbgbmfmgdgalbaaGreatDoor
namespace Go.Proofs.YtbgbmfmgdgalbaaGreatDoor
open Go.RowKit
set_option linter.unusedVariables false
set_option linter.unusedSimpArgs false
def RP (s:Fs) (V:FV) (w:World) (R:Fs × Int) (e:Ending) (w':World):Prop:=∃ V',e=.returned (.tuple #[.agg (fsC R.1 V'),.int .i64 R.2])∧Made s V w R.1 V' w'
theorem rremove_i {s:Fs} {V:FV} {i:Nat} (h:Inv s i) (hi:i ≤ 3298534883000) (n:ByteArray) (hn:n.size ≤ 140737488355328) (w:World) (ha:FsAt s V w):Calls Tryz.prog 94 #[.agg (fsC s V),.string n] w (RP s V w (removeM s n)):=remove_any s V n (h.bd hi) hn w ha
theorem rrename_i {s:Fs} {V:FV} {i:Nat} (h:Inv s i) (hi:i ≤ 3298534883000) (n t:ByteArray) (hn:n.size ≤ 140737488355328) (ht:t.size ≤ 140737488355328) (w:World) (ha:FsAt s V w):Calls Tryz.prog 134 #[.agg (fsC s V),.string n,.string t] w (RP s V w (renameM s n t)):=rename_any s V n t (h.bd hi) hn ht w ha
theorem rcreate_i {s:Fs} {V:FV} {i:Nat} (h:Inv s i) (hi:i ≤ 3298534883000) (n:ByteArray) (hn:n.size ≤ 140737488355328) (w:World) (ha:FsAt s V w):Calls Tryz.prog 58 #[.agg (fsC s V),.string n] w (RP s V w (createM s n)):=create_any s V n (h.bd hi) hn w ha
theorem rsync_i {s:Fs} {V:FV} {i:Nat} (h:Inv s i) (hi:i ≤ 3298534883000) (n:ByteArray) (hn:n.size ≤ 140737488355328) (w:World) (ha:FsAt s V w):Calls Tryz.prog 160 #[.agg (fsC s V),.string n] w (RP s V w (syncM s n)):=r_sync_any s V n (h.bd hi) hn (h.find n) w ha
theorem rappend_i {s:Fs} {V:FV} {i:Nat} (h:Inv s i) (hi:i ≤ 3298534883000) (n d:ByteArray) (hn:n.size ≤ 140737488355328) (hd:d.size ≤ 140737488355328) (w:World) (ha:FsAt s V w):Calls Tryz.prog 59 #[.agg (fsC s V),.string n,.string d] w (RP s V w (appendM s n d)):=append_any s V n d (h.bd hi) hn hd (h.find n) w ha
theorem rread_i {s:Fs} {V:FV} {i:Nat} (h:Inv s i) (hi:i ≤ 3298534883000) (n:ByteArray) (hn:n.size ≤ 140737488355328) (w:World) (ha:FsAt s V w):Calls Tryz.prog 92 #[.agg (fsC s V),.string n] w fun e w'=>e=.returned (.tuple #[.string (readM s n).1,.int .i64 (readM s n).2])∧Below w.heap.size w w':=read_any s V n (h.bd hi) hn (h.find n) w ha
set_option maxHeartbeats 1000000 in
theorem rthere_any {s:Fs} {V:FV} {i:Nat} (h:Inv s i) (hi:i ≤ 3298534883000) (n:ByteArray) (hn:n.size ≤ 140737488355328) (w:World) (ha:FsAt s V w):Calls Tryz.prog 132 #[.agg (fsC s V),.string n] w fun e w'=>e=.returned (.bool (thereM s n))∧Below w.heap.size w w':=by
  obtain ⟨W0,hW0⟩:∃ W0,W0=w.alloc (.cells (fsC s V) 61):=⟨_,rfl⟩
  have hB0:Below w.heap.size w W0:=by rw [hW0]; exact (Below.refl _ _).alloc (Nat.le_refl _) _
  have hX0:W0.heap[w.heap.size]?=some (.cells (fsC s V) 61):=by rw [hW0]; exact one_alloc _ _
  obtain ⟨r,hr⟩:∃ r,w.heap.size=r:=⟨_,rfl⟩
  have HR:Hid (w.heap.size=r):=hr
  have HB:Hid (Below w.heap.size w W0):=hB0
  rw [hr] at hX0
  have HX:Hid (W0.heap[r]?=some (.cells (fsC s V) 61)):=hX0
  obtain ⟨rt,rn,hrd⟩:∃ rt rn,readM s n=(rt,rn):=⟨_,_,rfl⟩
  have HQ:Hid (Calls Tryz.prog 92 #[.agg (fsC s V),.string n] W0 fun e w'=>e=.returned (.tuple #[.string rt,.int .i64 rn])∧Below W0.heap.size W0 w'):=by
    have:=rread_i h hi n hn W0 (ha.on hB0)
    rw [hrd] at this
    exact this
  have HT:Hid (thereM s n=decide (rn=0)):=by show _=_; unfold thereM; rw [hrd]
  clear h hi hn ha hB0 hX0 hr hrd
  rw [show fsC s V=#[.bool s.down,.int .i64 (s.steps:Int),V.f,V.d,V.s,V.c,V.p,.int .i64 s.crash,V.k] from rfl] at hW0
  rw [show fsC s V=#[.bool s.down,.int .i64 (s.steps:Int),V.f,V.d,V.s,V.c,V.p,.int .i64 s.crash,V.k] from rfl]
  go_enter Tryz.func132,Tryz.ntmps132
  go_upto_region 1 with fail
  rw [← hW0,HR.out]
  clear hW0
  go_wp2_with (refine ldF (fsC s V) r _ rfl rfl rfl HX.out rfl ?_)
  refine (show Calls _ _ _ _ _ from HQ.out).mono ?_
  rintro e w1 ⟨rfl,hb1⟩
  have HB1:Hid (Below w.heap.size w w1):=HB.out.trans (hb1.mono HB.out.size)
  clear hb1 HQ HX HB
  by_cases h0:rn=0
  · have e0:(rn == 0)=true:=by simpa using h0
    have HV:Hid (thereM s n=true):=by show _=_; rw [HT.out]; simpa using h0
    go_wp2
    go_ret
    exact ⟨by rw [HV.out]; first | rfl | (simp [h0]),HB1.out⟩
  · have e0:(rn == 0)=false:=by simpa using h0
    have HV:Hid (thereM s n=false):=by show _=_; rw [HT.out]; simpa using h0
    go_wp2
    go_ret
    exact ⟨by rw [HV.out]; first | rfl | (simp [h0]),HB1.out⟩
theorem conv1d (w:World) (T:TypeId) (x:Int) :
    Sem.run Tryz.prog (convert 129 9 (.slice (some ⟨w.heap.size,0,none⟩) 1 1)) (w.alloc (.cells #[.int .u8 x] T)) =
      .ok (.string (strOfNums [x])) (w.alloc (.cells #[.int .u8 x] T)):=by
  refine run_convert_bytes_arg _ 129 5 Tryz.underlying129 Tryz.underlying5 w.heap.size 0 1 1 _ rfl ?_ 9 Tryz.underlying9
  intro i hi
  rw [World.cell?_alloc_at _ _ _ _ rfl]
  match i,hi with
  | 0,_=>rfl
theorem one_sized (x:Int):(strOfNums [x]).size=1:=rfl
set_option maxHeartbeats 2000000 in
set_option maxRecDepth 20000 in
theorem rdigits_any (N:Nat) (h1:1 ≤ N) (h2:N ≤ 9) (w:World):Calls Tryz.prog 135 #[.int .i64 (N:Int)] w fun e w'=>e=.returned (.string ⟨#[UInt8.ofNat (48 + N)]⟩)∧Below w.heap.size w w':=by
  have hn0:((N:Int) == 0)=false:=by simp; omega
  have hng:decide ((N:Int) < 0)=false:=by simp
  have HN:Hid (1 ≤ N∧N ≤ 9):=⟨h1,h2⟩
  clear h1 h2
  go_enter Tryz.func135,Tryz.ntmps135
  go_wp2
  go_loopw [3,4,5] (fun t m d wr=>∃ (u:Nat) (r:ByteArray),((u=N∧r=⟨#[]⟩) ∨ (u=0∧r=⟨#[UInt8.ofNat (48 + N)]⟩))∧m=.int .i64 (u:Int)∧t=.string r∧Below w.heap.size w wr) (fun _ m _ _=>(intOf m).toNat)
  case atStart=>exact ⟨N,⟨#[]⟩,Or.inl ⟨rfl,rfl⟩,rfl,rfl,Below.refl _ _⟩
  case round =>
    obtain ⟨u,r,hur,rfl,rfl,hbel⟩:=hrel
    by_cases hz:u=0
    · subst hz
      have hr:r=⟨#[UInt8.ofNat (48 + N)]⟩:=by
        rcases hur with ⟨h,_⟩ | ⟨_,h⟩
        · have:=HN.out; omega
        · exact h
      have HR:Hid (r=⟨#[UInt8.ofNat (48 + N)]⟩):=hr
      clear hur hr
      go_wp2
      go_ret
      exact ⟨by rw [← HR.out]; rfl,hbel⟩
    · have hur2:u=N∧r=⟨#[]⟩:=by
        rcases hur with h | ⟨h,_⟩
        · exact h
        · exact absurd h hz
      obtain ⟨hu,hr⟩:=hur2
      have hne:((u:Int) != 0)=true:=by simp; omega
      have hcv:=conv1d wr
      have hub:(u:Int) ≤ 9223372036854775807:=by have:=HN.out; omega
      have hu0:0 ≤ (u:Int):=by omega
      have hd:decide ((u:Int) % 10 < 0)=false:=by simp; omega
      have hsz:=one_sized (48 + (u:Int) % 10)
      have hrs:r.size=0:=by rw [hr]; rfl
      have HU:Hid (u=N):=hu
      have HS:Hid (strOfNums [48 + (u:Int) % 10] ++ r=⟨#[UInt8.ofNat (48 + N)]⟩):=by
        show _=_
        have hm:(48 + (u:Int) % 10).toNat=48 + N:=by have:=HN.out; omega
        unfold strOfNums
        simp only [List.map]
        rw [hm,hr]
        rfl
      clear hu hr hur
      go_wp2
      go_roundw
      case rel =>
        refine ⟨u / 10,_,Or.inr ⟨by have:=HN.out; have:=HU.out; omega,rfl⟩,by go_num,by rw [HS.out],hbel.alloc hbel.size _⟩
      case measure=>simp [intOf]; omega
set_option maxHeartbeats 1000000 in
theorem rolder_any (i:Nat) (h1:1 ≤ i) (h2:i ≤ 9) (w:World):Calls Tryz.prog 96 #[.int .i64 (i:Int)] w fun e w'=>e=.returned (.string (oldN i))∧Below w.heap.size w w':=by
  have HQ:Hid _:=rdigits_any i h1 h2 w
  have HS:Hid ((9:Nat) + 1 ≤ 9223372036854775807):=by show _ ≤ _; omega
  have HO:Hid ((⟨#[100,117,109,112,46,114,100,98,46]⟩:ByteArray) ++ ⟨#[UInt8.ofNat (48 + i)]⟩=oldN i):=rfl
  clear h1 h2
  go_enter Tryz.func96,Tryz.ntmps96
  go_wp2_with fail
  refine (show Calls _ _ _ _ _ from HQ.out).mono ?_
  rintro e w1 ⟨rfl,hb1⟩
  obtain ⟨dg,hdg⟩:∃ dg:ByteArray,dg=⟨#[UInt8.ofNat (48 + i)]⟩:=⟨_,rfl⟩
  rw [← hdg] at HO ⊢
  have hds:dg.size=1:=by rw [hdg]; rfl
  have hsz:(⟨#[100,117,109,112,46,114,100,98,46]⟩:ByteArray).size + dg.size ≤ 9223372036854775807:=by rw [hds]; decide
  have HB:Hid (Below w.heap.size w w1):=hb1
  clear hb1 HQ hdg
  go_wp2
  go_ret
  exact ⟨by rw [← HO.out]; rfl,HB.out⟩
end Go.Proofs.YtbgbmfmgdgalbaaGreatDoor
