import Derived.Test.YtbgbmfmgdgalbaaGreatDoorM26
import Derived.Test.YtbgbmfmgdgalbaaGreatDoorRows
import Derived.JoinedCond
import Derived.ChangeArms
namespace Go.Proofs.YtbgbmfmgdgalbaaGreatDoor
open Go.ChangeShapes Go.WideShapes Go.RowKit Go.Maps
set_option linter.unusedVariables false
set_option linter.unusedSimpArgs false
def qoCells (o:Qo) (pv:Value):List Value:=[.int .i64 o.k,.string o.t,.int .i64 o.m,.int .i64 o.a,pv,.string o.n]
structure OpQ (N:Nat) (W:World) (g q:Nat) (o:Qo) (pv:Value):Prop where
  cells:∀ j u,(qoCells o pv)[j]?=some u → W.cell? ⟨g,q + j,none⟩=some u
  ok:QoOk o
  kr:KR pinE W pv o.p
  lt:o.p ≠ [] → ∀ b x n c,pv=.slice (some ⟨b,x,none⟩) n c → b < N
  gt:g < N
theorem OpQ.on {N:Nat} {W W':World} {g q:Nat} {o:Qo} {pv:Value} (h:OpQ N W g q o pv) (hb:Below N W W'):OpQ N W' g q o pv:=
  ⟨fun j u hu=>by rw [pcell_same (hb.block g h.gt)]; exact h.cells j u hu,h.ok,kr_under h.kr h.lt hb,h.lt,h.gt⟩
theorem OpQ.pks {N:Nat} {W:World} {g q:Nat} {o:Qo} {pv:Value} (h:OpQ N W g q o pv) {S:Nat → Prop} (hS:∀ b,S b → N ≤ b):Pks W S pv o.p:=⟨h.kr,fun hp b x n c e hs=>by have:=h.lt hp b x n c e; have:=hS b hs; omega⟩
theorem ldQo {ops:Array Oper} {rest:List Oper} {op:Oper} {a:Act} {w:World} {Q:Exit → Act → World → Prop} (C:Array Value) (N g q:Nat) (o:Qo) (pv:Value) (x:Operand) (hg:op.guard=none) (ho:op.op=.load 47 x) (hx:a.eval x=.pointer (some ⟨g,q,none⟩)) (hc:OpQ N w g q o pv) (hC:C=qoArr o pv) (h:wpList Tryz.prog ops Q rest (a.put op.dst (.agg C)) w):wpList Tryz.prog ops Q (op :: rest) a w:=by
  subst hC
  exact wpList_load_mid hg _ x ho g q hx (qoCells o pv) _ (fun j v hv=>hc.cells j v hv) Tryz.underlying47 rfl szQ h
theorem cellsQx:Tryz.prog.cellsOf 47=6:=by kernel_rfl
theorem bulk_small {H:Type} {l:List (DataW H)} (hk:Rows.uptoSmall H l=true):Rows.uptoBulkAll l ≤ 1048576:=of_decide_eq_true hk
theorem bulk_one {H:Type} (d:DataW H):1 ≤ Rows.uptoBulk d:=by
  cases d with
  | lit l=>cases l <;> simp [Rows.uptoBulk]
  | nil=>simp [Rows.uptoBulk]
  | ptr d=>simp [Rows.uptoBulk]
  | slice elems spare=>simp [Rows.uptoBulk]
  | agg parts=>simp [Rows.uptoBulk]
  | iface t d=>simp [Rows.uptoBulk]
  | map entries=>simp [Rows.uptoBulk]
  | held h=>simp [Rows.uptoBulk]
theorem bulk_part {H:Type} {d:DataW H} {l:List (DataW H)} (h:d ∈ l):Rows.uptoBulk d ≤ Rows.uptoBulkAll l:=by
  induction l with
  | nil=>cases h
  | cons x r ih =>
    simp only [Rows.uptoBulkAll]
    cases List.mem_cons.1 h with
    | inl e=>subst e; omega
    | inr e=>have:=ih e; omega
theorem bulk_len {H:Type} (l:List (DataW H)):l.length ≤ Rows.uptoBulkAll l:=by
  induction l with
  | nil=>simp [Rows.uptoBulkAll]
  | cons x r ih=>have:=bulk_one x; simp only [Rows.uptoBulkAll,List.length_cons]; omega
theorem openU_picks {H:Type} {enc:TypeId × Value → H} {W:World} {fuel:Nat} {v:Value} {y:DataW H × List MemPlace}
    (h:DataW.trod enc Tryz.prog W 0 (fun _=>true) true fuel 44 [v]=some y) (hb:Rows.uptoBulk y.1 ≤ 1048576) :
    ∃ p:List Int,KR pinE W v p∧p.length ≤ 1048576∧(p ≠ [] → ∀ b x n c,v=.slice (some ⟨b,x,none⟩) n c → b < W.heap.size):=by
  rcases open_ints Tryz.underlying44 Tryz.underlying3 cellsI h with ⟨hcs,hx⟩ | ⟨a,len,cap,zs,hcs,_,hl,hm,hz,hx,hcell,hwz⟩
  · have e:v=.slice none 0 0:=by simpa using hcs
    subst e
    exact ⟨[],KR.nil,by simp,fun h=>absurd rfl h⟩
  · have e:v=.slice (some a) len cap:=by simpa using hcs
    subst e
    simp only [if_true] at hz
    have hlen:(zs.take len).length=len:=by rw [List.length_take]; omega
    have hr:len ≤ 1048576:=by
      rw [hx] at hb
      simp only [Rows.uptoBulk] at hb
      have h1:=bulk_len (H:=H) (lits .i64 (zs.take len))
      have h2:(lits (H:=H) .i64 (zs.take len)).length=len:=by unfold lits; rw [List.length_map,hlen]
      omega
    refine ⟨zs.take len,?_,by omega,fun hne b x n c e=>?_⟩
    · by_cases h0:len=0
      · subst h0
        exact Or.inl ⟨by simp,some a,cap,rfl,fun h=>by cases h⟩
      · obtain ⟨b,off,spot⟩:=a
        have hspot:spot=none:=by simpa [Addr.add] using World.cell?_spot (hcell 0 (by omega))
        subst hspot
        refine Or.inr ⟨b,off,cap,by rw [hlen],fun j u hu=>?_⟩
        rw [pin_fl,List.getElem?_map] at hu
        have hj:j < len:=by
          rcases hq:(zs.take len)[j]? with _ | z
          · rw [hq] at hu; cases hu
          · have:=(List.getElem?_eq_some_iff.1 hq).1; omega
        have:=hcell j (by omega)
        rw [Lib.add_plain] at this
        rw [this,List.getD_eq_getElem?_getD,← hu,List.getElem?_take_of_lt hj,List.getElem?_eq_getElem (by omega)]
        rfl
    · injection e with e _ _
      injection e with e
      subst e
      have h0:0 < len:=by
        have:=List.length_pos_iff.2 hne
        omega
      have:=hcell 0 (by omega)
      exact lt_of_cell this
set_option maxRecDepth 100000 in
theorem openU_qops {H:Type} {enc:TypeId × Value → H} {W:World} {fuel:Nat} {ad:Option Addr} {len cap:Nat} {x:DataW H × List MemPlace}
    (h:DataW.trod enc Tryz.prog W 0 (fun _=>true) true fuel 43 [.slice ad len cap]=some x) (hb:Rows.uptoBulk x.1 ≤ 1048576) :
    ∃ g off,(len ≠ 0 → ad=some ⟨g,off,none⟩)∧len ≤ 1048576∧∀ i,i < len → ∃ o pv,OpQ W.heap.size W g (off + i * 6) o pv:=by
  rcases Go.Deep.open_slice Tryz.underlying43 h with ⟨hcs,hx⟩ | ⟨a,len',cap',m,n,D,Pl,hcs,_,hl,hm,hmm,hx,hcell⟩
  · simp at hcs
    obtain ⟨rfl,rfl,rfl⟩:=hcs
    exact ⟨0,0,fun h=>absurd rfl h,Nat.zero_le _,fun i hi=>by omega⟩
  · simp at hcs
    obtain ⟨rfl,rfl,rfl⟩:=hcs
    subst hx
    simp only [if_true] at hmm
    subst hmm
    have hel:∀ i,i < len → Rows.uptoBulk (D i) ≤ 1048576:=by
      intro i hi
      have h1:=bulk_part (List.mem_map.2 ⟨i,List.mem_range.2 hi,rfl⟩:D i ∈ (List.range len).map D)
      simp only [Rows.uptoBulk] at hb
      omega
    have hlen:len ≤ 1048576:=by
      have h1:=bulk_len ((List.range len).map D)
      simp only [List.length_map,List.length_range] at h1
      simp only [Rows.uptoBulk] at hb
      omega
    obtain ⟨g,off,spot⟩:=a
    have hsp:len ≠ 0 → spot=none:=fun h=>by
      obtain ⟨cs',h1,h2⟩:=hcell 0 (by omega)
      rw [cellsQx] at h1
      obtain ⟨_,hlen4,hc4⟩:=World.cells?_some h1
      have c0:=hc4 0 (by omega)
      obtain ⟨v0,hv0⟩:∃ v0,cs'[0]?=some v0:=⟨_,List.getElem?_eq_getElem (by omega)⟩
      rw [hv0] at c0
      simpa [Addr.add] using World.cell?_spot c0
    refine ⟨g,off,fun h=>by rw [hsp h],hlen,fun i hi=>?_⟩
    obtain ⟨cs',h1,h2⟩:=hcell i (by omega)
    have hs:=hsp (by omega)
    subst hs
    rw [cellsQx] at h1
    obtain ⟨_,hlen4,hc4⟩:=World.cells?_some h1
    obtain ⟨xs,k,hk,hxy,_,hxl,hf⟩:=DataW.trod_struct Tryz.underlying47 h2
    match xs,hxl,cs',hlen4 with
    | [y0,y1,y2,y3,y4,y5],_,[v0,v1,v2,v3,v4,v5],_ =>
      have g0:=hf 0 _ rfl
      have g1:=hf 1 _ rfl
      have g2:=hf 2 _ rfl
      have g3:=hf 3 _ rfl
      have g4:=hf 4 _ rfl
      have g5:=hf 5 _ rfl
      simp [cellsI,cellsS,cellsPk] at g0 g1 g2 g3 g4 g5
      simp only [Prod.mk.injEq] at hxy
      obtain ⟨z0,e0,_,_⟩:=DataW.trod_int Tryz.underlying3 g0
      obtain ⟨z1,e1,hy1,_⟩:=DataW.trod_string Tryz.underlying9 g1
      obtain ⟨z2,e2,_,hw2⟩:=DataW.trod_int Tryz.underlying3 g2
      obtain ⟨z3,e3,_,_⟩:=DataW.trod_int Tryz.underlying3 g3
      obtain ⟨z5,e5,hy5,_⟩:=DataW.trod_string Tryz.underlying9 g5
      simp at e0 e1 e2 e3 e5
      have q:=hel i hi
      rw [hxy.1] at q
      simp only [List.map_cons,List.map_nil,Rows.uptoBulk,Rows.uptoBulkAll] at q
      rw [hy1,hy5] at q
      simp only [Rows.uptoBulk,list_len] at q
      have hs1:z1.size ≤ 140737488355328:=by omega
      have hs5:z5.size ≤ 140737488355328:=by omega
      obtain ⟨p,hp1,hp2,hp3⟩:=openU_picks (y:=(y4.1,y4.2)) g4 (by show Rows.uptoBulk y4.1 ≤ _; omega)
      subst e0; subst e1; subst e2; subst e3; subst e5
      have hall:∀ j u,(qoCells ⟨z0,z1,z2,z3,p,z5⟩ v4)[j]?=some u → W.cell? ⟨g,off + i * 6 + j,none⟩=some u:=fun q u hu=>by
        have hj:q < 6:=(List.getElem?_eq_some_iff.1 hu).1
        have c0:=hc4 q hj
        rw [show [Value.int .i64 z0,.string z1,.int .i64 z2,.int .i64 z3,v4,.string z5][q]?=some u from hu,Go.Deep.add_add,Lib.add_plain] at c0
        rw [← c0]
        congr 2
        omega
      exact ⟨⟨z0,z1,z2,z3,p,z5⟩,v4,hall,⟨hs1,hs5,by show p.length ≤ _; omega,bounds_i64 hw2⟩,hp1,hp3,lt_of_cell (hall 0 _ rfl)⟩
end Go.Proofs.YtbgbmfmgdgalbaaGreatDoor
namespace Go.Proofs.YtbgbmfmgdgalbaaGreatDoor
open Go.RowKit Go.Maps
set_option linter.unusedVariables false
set_option linter.unusedSimpArgs false
theorem inv_doneL {F:Fs} {i:Nat} (h:Inv F i) {o:Qo} (ok:QoOk o):Inv (doneL F o).1 (i + 32830):=by
  unfold doneL
  by_cases e0:o.k=0
  · rw [if_pos e0]; exact (h.save o.t o.m).more (by omega)
  rw [if_neg e0]
  by_cases e1:o.k=1
  · rw [if_pos e1]; exact h.load.more (by omega)
  rw [if_neg e1]
  by_cases e2:o.k=2
  · rw [if_pos e2]; exact h.tidy.more (by omega)
  rw [if_neg e2]
  by_cases e4:o.k=4
  · rw [if_pos e4]
    exact (h.done ⟨6,⟨#[]⟩,⟨#[]⟩,⟨#[]⟩,o.m,o.a,[]⟩ (Nat.zero_le _)).more (by omega)
  rw [if_neg e4]
  by_cases e5:o.k=5
  · rw [if_pos e5]
    exact (h.done ⟨7,⟨#[]⟩,⟨#[]⟩,⟨#[]⟩,o.m,0,o.p⟩ ok.p).more (by omega)
  rw [if_neg e5]
  by_cases e6:o.k=6
  · rw [if_pos e6]
    exact (h.done ⟨8,⟨#[]⟩,⟨#[]⟩,⟨#[]⟩,0,0,[]⟩ (Nat.zero_le _)).more (by omega)
  rw [if_neg e6]
  by_cases e7:o.k=7
  · rw [if_pos e7]
    unfold plantM
    exact inv_and (i:=i + 1) (h.create o.n) (by omega) (fun h2=>(h2.append o.n o.t).more (by omega))
  rw [if_neg e7]
  exact h.more (by omega)
theorem dw_doneL {F:Fs} (h:Dw F) (o:Qo):Dw (doneL F o).1:=by
  unfold doneL
  by_cases e0:o.k=0
  · rw [if_pos e0]; exact dwClo.save h o.t o.m
  rw [if_neg e0]
  by_cases e1:o.k=1
  · rw [if_pos e1]; exact dwClo.load h
  rw [if_neg e1]
  by_cases e2:o.k=2
  · rw [if_pos e2]; exact dwClo.tidy h
  rw [if_neg e2]
  by_cases e4:o.k=4
  · rw [if_pos e4]; exact h.fails _ _
  rw [if_neg e4]
  by_cases e5:o.k=5
  · rw [if_pos e5]; exact h.crash _ _
  rw [if_neg e5]
  by_cases e6:o.k=6
  · rw [if_pos e6]; exact h.start
  rw [if_neg e6]
  by_cases e7:o.k=7
  · rw [if_pos e7]
    exact clo_and (h.create o.n) (fun h2=>h2.append o.n o.t)
  rw [if_neg e7]
  exact h
set_option maxHeartbeats 16000000 in
set_option maxRecDepth 100000 in
theorem Found_walk (hSV:SaveC) (hLD:LoadC) (hTD:TidyC) (hOL:OlderC) (ad:Option Addr) (G off len cap:Nat) (pv:Value) (p:List Int) (w:World) (hA:len ≠ 0 → ad=some ⟨G,off,none⟩) (hL:len ≤ 1048576) (hO:∀ i,i < len → ∃ o pv,OpQ w.heap.size w G (off + i * 6) o pv) (hP:KR pinE w pv p) (hPL:p.length ≤ 1048576) (hPB:p ≠ [] → ∀ b x n c,pv=.slice (some ⟨b,x,none⟩) n c → b < w.heap.size) :
    Calls Tryz.prog 4 #[.slice ad len cap,pv] w fun e w'=>e=.returned (.bool true)∧Below w.heap.size w w':=by
  obtain ⟨PP,pc,rfl⟩:=hP.form
  have HNW:Hid _:=NewW_any w
  have HWK:Hid (∀ W,Calls Tryz.prog 8 #[] W fun e w'=>e=.returned (.bool true)∧Below W.heap.size W w'):=works24_any hSV hLD hOL
  have HOW:Hid (∀ o (ok:QoOk o) pv (hpv:∃ Q n c,pv=Value.slice Q n c) W,Calls Tryz.prog 16 #[qoV o pv] W fun e w'=>e=.returned (.bool (ownM o))∧Below W.heap.size W w'):=own24_any
  have HDN:Hid (∀ {W:World} {g i:Nat} {X:Gh} {F:Fs} {o:Qo} {pv:Value} {C:Array Value},St w W g X F i → Inv F i → i + 32830 ≤ 3298534883000 → C=qoArr o pv → QoOk o → Pks W (Own g F X) pv o.p → Calls Tryz.prog 17 #[.pointer (some ⟨g,0,none⟩),.agg C] W (CalP w W g X F (doneL F o).1 (i + 32830) (.int .i64 (doneL F o).2))):=fun a b c d e f=>done24_any hSV hLD hTD a b c d e f
  have HLDC:Hid LoadC:=hLD
  have HO:Hid _:=hO
  have HA:Hid _:=hA
  have HL:Hid (len ≤ 1048576):=hL
  have HP:Hid (KR pinE w (.slice PP p.length pc) p):=hP
  have HPL:Hid (p.length ≤ 1048576):=hPL
  have HPB:Hid (p ≠ [] → ∀ b x n c,(Value.slice PP p.length pc)=.slice (some ⟨b,x,none⟩) n c → b < w.heap.size):=hPB
  clear hO hA hP hPB hL hPL hSV hLD hTD hOL
  go_enter Tryz.func4,Tryz.ntmps4
  go_wp2_with fail
  refine (show Calls _ _ _ _ _ from HNW.out).mono ?_
  rintro e w1 ⟨g,X,rfl,hk⟩
  have H1:Hid (St w w1 g X newM 0):=St.new hk
  clear hk HNW
  go_wp2_with fail
  refine (show Calls _ _ _ _ _ from HWK.out _).mono ?_
  rintro e w2 ⟨rfl,hb2⟩
  have H2:Hid (St w w2 g X newM 0):=H1.out.on hb2
  clear hb2 H1 HWK
  go_wp2
  go_loopw [6] (fun ci wr=>∃ (i:Nat) (F:Fs) (X:Gh),i ≤ len∧ci=.int .i64 (i:Int)∧St w wr g X F (i * 32830)∧Inv F (i * 32830)∧Dw F) (fun ci _=>len - (intOf ci).toNat)
  case atStart=>exact ⟨0,newM,X,Nat.zero_le _,rfl,H2.out,Inv.new,Dw.new⟩
  case round =>
    obtain ⟨i,F,X,hi,rfl,hst,hiv,hdw⟩:=hrel
    have HST:Hid (St w wr g X F (i * 32830)):=hst
    have HIV:Hid (Inv F (i * 32830)):=hiv
    have HDW:Hid (Dw F):=hdw
    clear hst hiv hdw H2
    by_cases hlt:i < len
    · have had:=HA.out (by omega)
      subst had
      obtain ⟨o,pv,hop⟩:=HO.out i hlt
      have HOP:Hid (OpQ w.heap.size wr G (off + i * 6) o pv):=hop.on HST.out.bel
      obtain ⟨C,hC⟩:∃ C,C=qoArr o pv:=⟨_,rfl⟩
      have HC:Hid (C=qoArr o pv):=hC
      have hz3:(0:Int) ≤ (i:Int):=by omega
      have hz4:(i:Int) < (len:Int):=by omega
      have HLT:Hid (i < len):=hlt
      have HOK:Hid (QoOk o):=hop.ok
      have HFM:Hid (∃ Q n c,pv=Value.slice Q n c):=by
        obtain ⟨P,c,e⟩:=hop.kr.form
        exact ⟨_,_,_,e⟩
      have HIW:Hid (IntKind.i64.wrap ((i:Int) + 1)=(i:Int) + 1):=by have:=HL.out; show _=_; rw [IntKind.wrap_i64] <;> omega
      have HQ:Hid (Calls Tryz.prog 16 #[.agg C] wr fun e w'=>e=.returned (.bool (ownM o))∧Below wr.heap.size wr w'):=by
        have:=HOW.out o HOK.out pv HFM.out wr
        rw [show qoV o pv=.agg C from by rw [hC]; rfl] at this
        exact this
      clear hop hC hlt
      go_upto_region 7 with fail
      go_wp2_with (refine ldQo C w.heap.size G (off + i * 6) o pv _ rfl rfl rfl HOP.out HC.out ?_)
      refine (show Calls _ _ _ _ _ from HQ.out).mono ?_
      rintro e w3 ⟨rfl,hb3⟩
      have HS3:Hid (St w w3 g X F (i * 32830)):=HST.out.on hb3
      have HO3:Hid (OpQ w.heap.size w3 G (off + i * 6) o pv):=HOP.out.on (hb3.mono HST.out.bel.size)
      clear hb3 HQ HST HOP
      rcases how:ownM o with _ | _
      · have hiw:=HIW.out
        clear how
        go_wp2
        go_roundw
        case rel=>exact ⟨i + 1,F,X,HLT.out,rfl,HS3.out.more24 (by omega),HIV.out.more (by omega),HDW.out⟩
        case measure=>have:=HLT.out; simp [intOf]; omega
      · clear how
        have HQ:Hid _:=HDN.out HS3.out HIV.out (by have:=HLT.out; have:=HL.out; omega) HC.out HOK.out (HO3.out.pks HS3.out.own)
        go_wp2_with (refine ldQo C w.heap.size G (off + i * 6) o pv _ rfl rfl rfl HO3.out HC.out ?_)
        refine (show Calls _ _ _ _ _ from HQ.out).mono ?_
        rintro e w4 ⟨rfl,X4,hs4,_⟩
        have HS4:Hid (St w w4 g X4 (doneL F o).1 ((i + 1) * 32830)):=by show St _ _ _ _ _ _; rw [show (i + 1) * 32830=i * 32830 + 32830 by omega]; exact hs4
        have HI4:Hid (Inv (doneL F o).1 ((i + 1) * 32830)):=by show Inv _ _; rw [show (i + 1) * 32830=i * 32830 + 32830 by omega]; exact inv_doneL HIV.out HOK.out
        have HD4:Hid (Dw (doneL F o).1):=dw_doneL HDW.out o
        generalize doneL F o=M at *
        have hiw:=HIW.out
        clear hs4 HQ HS3 HO3 HIV HDW
        go_wp2
        go_roundw
        case rel=>exact ⟨i + 1,M.1,X4,HLT.out,rfl,HS4.out,HI4.out,HD4.out⟩
        case measure=>have:=HLT.out; simp [intOf]; omega
    · have he:i=len:=by omega
      subst he
      have HB:Hid (i * 32830 + 200000 ≤ 3298534883000):=by have:=HL.out; show _ ≤ _; omega
      obtain ⟨K,hK⟩:∃ K,i * 32830=K:=⟨_,rfl⟩
      have HKB:Hid (K + 200000 ≤ 3298534883000):=by show _ ≤ _; rw [← hK]; exact HB.out
      rw [hK] at HST HIV
      obtain ⟨f1,f2,H,f3,f4,f5,f6,f7⟩:=found HDW.out [] p
      obtain ⟨A,hA⟩:∃ A,(crashM F 0 []).1=A:=⟨_,rfl⟩
      rw [hA] at f1 f2 f3 f7
      obtain ⟨B,hB⟩:∃ B,(startM A).1=B:=⟨_,rfl⟩
      rw [hB] at f2 f3 f7
      have iA:Inv A (K + 1):=by
        rw [← hA]
        exact HIV.out.done ⟨7,⟨#[]⟩,⟨#[]⟩,⟨#[]⟩,0,0,[]⟩ (Nat.zero_le _)
      have iB:Inv B (K + 2):=by
        rw [← hB]
        exact iA.done ⟨8,⟨#[]⟩,⟨#[]⟩,⟨#[]⟩,0,0,[]⟩ (Nat.zero_le _)
      have iH:Inv H (K + 67):=by
        have:=iB.load
        rw [f3] at this
        exact this
      obtain ⟨sv,sb,hsv⟩:∃ sv sb,orNo (viewM B liveN)=(sv,sb):=⟨_,_,rfl⟩
      have hlB:=look_now iB.ok liveN
      rw [hsv] at f3 f7 hlB
      simp only at f3
      have HQ1:Hid (Calls Tryz.prog 18 #[.pointer (some ⟨g,0,none⟩),.int .i64 0,.slice none 0 0] wr (CalP w wr g X F A (K + 1) (.int .i64 (crashM F 0 []).2))):=by
        have:=crash_cal (n:=0) (p:=[]) (pv:=.slice none 0 0) HST.out (by have:=HKB.out; omega) (Nat.zero_le _) Pks.nil
        rw [hA] at this
        exact this
      have HQ2:Hid (∀ W X,St w W g X A (K + 1) → Calls Tryz.prog 19 #[.pointer (some ⟨g,0,none⟩)] W (CalP w W g X A B (K + 2) (.int .i64 0))):=fun W X h=>by
        have:=start_cal h
        rw [hB,f1] at this
        exact this
      have HQ4:Hid (∀ W X,St w W g X B (K + 2) → Calls Tryz.prog 11 #[.pointer (some ⟨g,0,none⟩)] W (CalP w W g X B H (K + 67) (.tuple #[.string sv,.bool sb,.int .i64 0]))):=fun W X h=>by
        have:=HLDC.out w W g X B (K + 2) h iB (by have:=HKB.out; omega)
        rw [f3] at this
        exact this
      have HQ5:Hid (∀ W X,St w W g X H (K + 67) → Calls Tryz.prog 18 #[.pointer (some ⟨g,0,none⟩),.int .i64 0,.slice PP p.length pc] W (CalP w W g X H (downM H p) (K + 68) (.int .i64 0))):=fun W X h=>by
        have hb:=h.bel
        have hk:KR pinE W (.slice PP p.length pc) p:=kr_under HP.out HPB.out hb
        have:=crash_cal (n:=0) (p:=p) (pv:=.slice PP p.length pc) h (by have:=HKB.out; omega) (by have:=HPL.out; omega) ⟨hk,fun hp b x n c e hs=>by have:=HPB.out hp b x n c e; have:=h.own b hs; omega⟩
        rw [f5] at this
        exact this
      have HLB:Hid (lookM (nowM B) { data:=#[100,117,109,112,46,114,100,98] }=(sv,sb)):=hlB
      have HF6:Hid (∀ x ∈ nowM (downM H p),isTmp x.1=false):=f6
      have HF7:Hid (lookM (nowM (downM H p)) { data:=#[100,117,109,112,46,114,100,98] }=(sv,sb)):=f7
      have HS0:Hid (St w wr g X F K):=HST.out
      clear f1 f2 f3 f4 f5 f6 f7 hA hB iA iB iH hsv hlB hK HB hlt hi HDW HIV HDN HOW
      generalize (crashM F 0 []).2=e0 at *
      go_wp2_with fail
      refine (show Calls _ _ _ _ _ from HQ1.out).mono ?_
      rintro e w3 ⟨rfl,X3,hs3,_⟩
      have HS3:Hid (St w w3 g X3 A (K + 1)):=hs3
      clear hs3 HQ1 HST HS0
      have HQ:Hid _:=HQ2.out w3 X3 HS3.out
      go_wp2_with fail
      refine (show Calls _ _ _ _ _ from HQ.out).mono ?_
      rintro e w4 ⟨rfl,X4,hs4,_⟩
      have HS4:Hid (St w w4 g X4 B (K + 2)):=hs4
      clear hs4 HQ HQ2 HS3
      obtain ⟨nb,hnb⟩:∃ nb,B.dir.length=nb:=⟨_,rfl⟩
      have HNB:Hid (B.dir.length=nb):=hnb
      have HNL:Hid (nb ≤ 64):=by show _ ≤ _; rw [← hnb]; exact HS4.out.few.1
      clear hnb
      have HQ:Hid (Calls Tryz.prog 14 #[.pointer (some ⟨g,0,none⟩)] w4 fun e w'=>NowP w4 (nowM B) nb e w'):=now_st HS4.out HNB.out
      go_wp2_with fail
      refine (show Calls _ _ _ _ _ from HQ.out).mono ?_
      rintro e w5 ⟨P5,c5,rfl,hp5,hb5⟩
      have HS5:Hid (St w w5 g X4 B (K + 2)):=HS4.out.on hb5
      have HP5:Hid (PR w5 (.slice P5 nb c5) (nowM B)):=hp5
      clear hp5 hb5 HQ HS4
      have HQ:Hid (Calls Tryz.prog 13 #[.slice P5 nb c5,.string { data:=#[100,117,109,112,46,114,100,98] }] w5 fun e w'=>e=.returned (.tuple #[.string sv,.bool sb])∧w'=w5):=by
        have:=find24_any (.slice P5 nb c5) (nowM B) { data:=#[100,117,109,112,46,114,100,98] } (by rw [now_len,HNB.out]; have:=HNL.out; omega) w5 HP5.out.kr
        rw [HLB.out] at this
        exact this
      go_wp2_with fail
      refine (show Calls _ _ _ _ _ from HQ.out).mono ?_
      rintro e w6 ⟨rfl,rfl⟩
      clear HQ HP5 HLB
      have HQ:Hid _:=HQ4.out w6 X4 HS5.out
      go_wp2_with fail
      refine (show Calls _ _ _ _ _ from HQ.out).mono ?_
      rintro e w7 ⟨rfl,X7,hs7,_⟩
      have HS7:Hid (St w w7 g X7 H (K + 67)):=hs7
      clear hs7 HQ HQ4 HS5
      have HQ:Hid _:=HQ5.out w7 X7 HS7.out
      have q1:(sv.toList == sv.toList)=true:=beq_self_eq_true _
      have q2:(sb == sb)=true:=beq_self_eq_true _
      go_wp2_with fail
      refine (show Calls _ _ _ _ _ from HQ.out).mono ?_
      rintro e w8 ⟨rfl,X8,hs8,_⟩
      have HS8:Hid (St w w8 g X8 (downM H p) (K + 68)):=hs8
      clear hs8 HQ HQ5 HS7
      generalize downM H p=D at *
      obtain ⟨nd,hnd⟩:∃ nd,D.dir.length=nd:=⟨_,rfl⟩
      have HND:Hid (D.dir.length=nd):=hnd
      have HNDL:Hid (nd ≤ 64):=by show _ ≤ _; rw [← hnd]; exact HS8.out.few.1
      clear hnd
      have HQ:Hid (Calls Tryz.prog 14 #[.pointer (some ⟨g,0,none⟩)] w8 fun e w'=>NowP w8 (nowM D) nd e w'):=now_st HS8.out HND.out
      go_wp2_with fail
      refine (show Calls _ _ _ _ _ from HQ.out).mono ?_
      rintro e w9 ⟨P9,c9,rfl,hp9,hb9⟩
      have HS9:Hid (St w w9 g X8 D (K + 68)):=HS8.out.on hb9
      have HP9:Hid (PR w9 (.slice P9 nd c9) (nowM D)):=hp9
      have HLN:Hid ((nowM D).length=nd):=by show _=_; rw [now_len,HND.out]
      clear hp9 hb9 HQ HS8
      go_wp2
      go_loopw [13] (fun ci wr=>∃ j:Nat,j ≤ nd∧ci=.int .i64 (j:Int)∧wr=w9) (fun ci _=>nd - (intOf ci).toNat)
      case atStart=>exact ⟨0,Nat.zero_le _,rfl,rfl⟩
      case round =>
        obtain ⟨j,hj,rfl,hwe⟩:=hrel
        subst hwe
        by_cases hlt:j < nd
        · obtain ⟨gp,op,c',he,hc⟩:=HP9.out.kr.cell pprOk (j:=j) (by rw [HLN.out]; exact hlt)
          injection he with h1 _ h2
          subst h1
          have hm:=HF6.out _ (List.getElem_mem (l:=nowM D) (n:=j) (by rw [HLN.out]; exact hlt))
          obtain ⟨⟨X1,X2⟩,hX⟩:∃ X,(nowM D)[j]'(by rw [HLN.out]; exact hlt)=X:=⟨_,rfl⟩
          rw [hX] at hc hm
          have x0:wr.cell? ⟨gp,op + j * 2,none⟩=some (.string X1):=hc 0 _ rfl
          have hz0:(0:Int) ≤ (j:Int):=by omega
          have hz1:(j:Int) < (nd:Int):=by omega
          have HLT:Hid (j < nd):=hlt
          have hiw:IntKind.i64.wrap ((j:Int) + 1)=(j:Int) + 1:=by have:=HNDL.out; rw [IntKind.wrap_i64] <;> omega
          have HM:Hid (isTmp X1=false):=hm
          clear hc h2 hX hm hlt
          by_cases h5:5 ≤ X1.size
          · have hi5:(5:Int) ≤ (X1.size:Int):=by omega
            have q3:((X1.extract 0 5).toList == [116,101,109,112,45])=false:=by
              rw [← temp_list]
              refine str_other (ba_ne (fun e=>?_))
              have:=HM.out
              unfold isTmp at this
              rw [decide_eq_true h5,decide_eq_true e] at this
              cases this
            clear h5
            go_wp2
            go_roundw
            case rel=>exact ⟨j + 1,HLT.out,rfl,by first | rfl | trivial⟩
            case measure=>have:=HLT.out; simp [intOf]; omega
          · have hi5:¬ (5:Int) ≤ (X1.size:Int):=by omega
            clear h5
            go_wp2
            go_roundw
            case rel=>exact ⟨j + 1,HLT.out,rfl,by first | rfl | trivial⟩
            case measure=>have:=HLT.out; simp [intOf]; omega
        · have he:j=nd:=by omega
          subst he
          have HQ:Hid (Calls Tryz.prog 13 #[.slice P9 j c9,.string { data:=#[100,117,109,112,46,114,100,98] }] wr fun e w'=>e=.returned (.tuple #[.string sv,.bool sb])∧w'=wr):=by
            have:=find24_any (.slice P9 j c9) (nowM D) { data:=#[100,117,109,112,46,114,100,98] } (by rw [HLN.out]; have:=HNDL.out; omega) wr HP9.out.kr
            rw [HF7.out] at this
            exact this
          clear hlt hj
          go_wp2_with fail
          refine (show Calls _ _ _ _ _ from HQ.out).mono ?_
          rintro e w10 ⟨rfl,rfl⟩
          clear HQ
          go_wp2
          go_returns
          exact ⟨rfl,HS9.out.bel⟩
end Go.Proofs.YtbgbmfmgdgalbaaGreatDoor
