import Derived.Test.YtbgbmfmgdgalbaaGreatDoorM28
import Derived.Test.YtbgbmfmgdgalbaaGreatDoorM19
namespace Go.Proofs.YtbgbmfmgdgalbaaGreatDoor
open Go.RowKit Go.Maps
set_option linter.unusedVariables false
set_option linter.unusedSimpArgs false
theorem ylQ {ops:Array Oper} {S:World → Prop} {op:Oper} {a:Act} (C:Array Value) (g q:Nat) (x:Operand) (ho:op.op=.load 47 x) (hx:a.eval x=.pointer (some ⟨g,q,none⟩)) (hS:∀ w,S w → w.rangeAt g q C.toList) (h6:C.size=6) (hw:Region.wanted op (yielded ops a.tmps)=true:=by rfl):YieldsIf Tryz.prog ops S op (.agg C) a:=by
  have:=yieldsIf_load_mid (P:=Tryz.prog) (ops:=ops) (S:=S) (a:=a) hw 47 x ho g q hx C.toList _ hS Tryz.underlying47 rfl (by rw [Array.length_toList,h6]; exact szQ)
  rw [Array.toArray_toList] at this
  exact this
theorem OpQ.range {N:Nat} {W:World} {g q:Nat} {o:Qo} {pv:Value} {C:Array Value} (h:OpQ N W g q o pv) (hC:C=qoArr o pv):W.rangeAt g q C.toList:=by subst hC; exact fun j v hv=>h.cells j v hv
theorem range_on {W W':World} {g q:Nat} {l:List Value} (h:W.rangeAt g q l) (hb:Below W.heap.size W W'):W'.rangeAt g q l:=fun j v hv=>cell_on (h j v hv) hb
theorem range_mod {W W':World} {g q N:Nat} {l:List Value} (h:W.rangeAt g q l) (hm:Mod N W W') (hn:g ≠ N):W'.rangeAt g q l:=fun j v hv=>(cell_same (hm.oth g (lt_of_cell (h j v hv)) hn)).trans (h j v hv)
structure P4 (w0 W:World) (g:Nat) (X:Gh) (F:Fs) (i:Nat) (V:FV) (r:Nat):Prop where
  dv:Dv w0 W g X F i F V
  ro:W.heap[r]?=some (.cells (fsC F V) 61)
  rv:Av (fun k=>k=r) F V
  iv:Inv F i
  rb:w0.heap.size ≤ r
theorem P4.on {w0 W W':World} {g i r:Nat} {X:Gh} {F:Fs} {V:FV} (h:P4 w0 W g X F i V r) (hb:Below W.heap.size W W'):P4 w0 W' g X F i V r:=⟨h.dv.on hb,keep_row h.ro hb,h.rv,h.iv,h.rb⟩
theorem P4.new {w0 W:World} {g r:Nat} {X:Gh} (h:St w0 W g X newM 0) (hr:W.heap[r]?=some (.cells (fsC newM nilV) 61)) (hb:w0.heap.size ≤ r):P4 w0 W g X newM 0 nilV r:=⟨⟨h,newAt W,newAv _⟩,hr,newAv _,Inv.new,hb⟩
structure S8 (w0 W:World) (g:Nat) (X:Gh) (F F':Fs) (V:FV) (k:Nat) (V':FV) (X':Gh) (w':World):Prop where
  st:St w0 w' g X' F' k
  bt:Bt W g X F w' X' F'
  at_:FsAt F' V' w'
  av:Av (Own g F' X') F' V'
  al:∀ S:Nat → Prop,(∀ k,S k → k < W.heap.size) → Av S F V → Av S F' V'
theorem S8.row {w0 W w':World} {g i k r:Nat} {X X':Gh} {F F':Fs} {V V':FV} {C:Array Value} (h:S8 w0 W g X F F' V k V' X' w') (hs:St w0 W g X F i) (hr:W.heap[r]?=some (.cells C 61)):w'.heap[r]?=some (.cells C 61):=h.bt.md.row hr (ref_own hs.fs.toFsC hr)
theorem S8.bel {w0 W w':World} {g i k:Nat} {X X':Gh} {F F':Fs} {V V':FV} (h:S8 w0 W g X F F' V k V' X' w') (hs:St w0 W g X F i):Below w0.heap.size W w':=h.bt.md.bel (fun q hq ho=>by have:=hs.own q ho; omega) hs.bel.size
structure P8 (w0 W:World) (g:Nat) (X:Gh) (F:Fs) (k:Nat) (V:FV) (r N:Nat) (C0:Array Value):Prop where
  dv:Dv w0 W g X F k F V
  ro:W.heap[r]?=some (.cells C0 61)
  no:W.heap[N]?=some (.cells (fsC F V) 61)
  rv:Av (fun k=>k=r) F V
  iv:Inv F k
theorem p8_a {w0 W wu W6:World} {g i k r:Nat} {X X':Gh} {F F':Fs} {V V':FV} {C0:Array Value} (h:P4 w0 W g X F i V r) (hC:C0=fsC F V) (s:S8 w0 W g X F F' V k V' X' wu) (hI:Inv F' k) (hb:Below wu.heap.size wu W6) (hN:W6.heap[wu.heap.size]?=some (.cells (fsC F' V') 61)):P8 w0 W6 g X' F' k V' r wu.heap.size C0:=by
  subst hC
  exact ⟨⟨s.st.on hb,s.at_.on hb,s.av⟩,keep_row (s.row h.dv.st h.ro) hb,hN,s.al _ (fun q e=>by rw [e]; exact row_lt h.ro) h.rv,hI⟩
theorem p8_b {w0 W wu W6:World} {g i k r:Nat} {X X':Gh} {F F':Fs} {V V':FV} {C0 Z:Array Value} (h:P4 w0 W g X F i V r) (hC:C0=fsC F V) (s:S8 w0 (W.alloc (.cells Z 61)) g X F F' V k V' X' wu) (hI:Inv F' k) (hm:Mod W.heap.size wu W6) (hN:W6.heap[W.heap.size]?=some (.cells (fsC F' V') 61)):P8 w0 W6 g X' F' k V' r W.heap.size C0:=by
  subst hC
  have hb:Below W.heap.size W (W.alloc (.cells Z 61)):=(Below.refl _ W).alloc (Nat.le_refl _) _
  have hs:(W.alloc (.cells Z 61)).heap.size=W.heap.size + 1:=by simp [World.size_alloc]
  have hst:=h.dv.st.on hb
  have hrN:=s.row hst (one_alloc W (.cells Z 61))
  have h0:=h.dv.st.bel.size
  have hrl:=row_lt h.ro
  have hav:Av (fun k=>k=W.heap.size) F' V':=s.al _ (fun q e=>by rw [e,hs]; omega) (h.dv.dc.av.weak (fun q e=>by omega))
  exact ⟨⟨s.st.one hm.modP hrN (by unfold tyOwn; decide) (by decide) (by decide) h0,s.at_.mod hm hav,s.av⟩,hm.row (s.row hst (keep_row h.ro hb)) (by omega),hN,s.al _ (fun q e=>by rw [e,hs]; omega) h.rv,hI⟩
theorem P8.put {w0 W W':World} {g k r N:Nat} {X:Gh} {F:Fs} {V:FV} {C0:Array Value} (h:P8 w0 W g X F k V r N C0) (hb:w0.heap.size ≤ r) (hm:Mod r W W') (hr:W'.heap[r]?=some (.cells (fsC F V) 61)):P4 w0 W' g X F k V r:=
  ⟨⟨h.dv.st.one hm.modP h.ro (by unfold tyOwn; decide) (by decide) (by decide) hb,h.dv.dc.mod hm h.rv,h.dv.av⟩,hr,h.rv,h.iv,hb⟩
set_option maxHeartbeats 16000000 in
set_option maxRecDepth 100000 in
theorem Plays24_walk (hSV:SaveC) (hLD:LoadC) (hTD:TidyC) (hOL:OlderC) (ad:Option Addr) (G off len cap:Nat) (w:World) (hA:len ≠ 0 → ad=some ⟨G,off,none⟩) (hL:len ≤ 1048576) (hO:∀ i,i < len → ∃ o pv,OpQ w.heap.size w G (off + i * 6) o pv) :
    Calls Tryz.prog 6 #[.slice ad len cap] w fun e w'=>e=.returned (.bool true)∧Below w.heap.size w w':=by
  have HNW:Hid _:=NewW_any w
  have HWK:Hid (∀ W,Calls Tryz.prog 8 #[] W fun e w'=>e=.returned (.bool true)∧Below W.heap.size W w'):=works24_any hSV hLD hOL
  have HSTEP:Hid (∀ {w0 w:World} {g i:Nat} {X:Gh} {F:Fs} {V:FV} {o:Qo} {pv:Value} {C O:Array Value},Dv w0 w g X F i F V → Inv F i → i + 32830 ≤ 3298534883000 → C=fsC F V → O=qoArr o pv → QoOk o → Pks w (Own g F X) pv o.p → Calls Tryz.prog 24 #[.pointer (some ⟨g,0,none⟩),.agg C,.agg O] w (StpP w0 w g X F (doneL F o).1 V (i + 32830))):=fun a b c d e f h=>step24_any hSV hLD hTD hOL a b c d e f h
  have HO:Hid _:=hO
  have HA:Hid _:=hA
  have HL:Hid (len ≤ 1048576):=hL
  obtain ⟨Z,hZ⟩:∃ Z,Z=zF:=⟨_,rfl⟩
  have HZZ:Hid (Z=zF):=hZ
  have HZS:Hid (Z.size=9):=by show _=_; rw [hZ]; rfl
  clear hO hA hL hZ hSV hLD hTD hOL
  go_enter Tryz.func6,Tryz.ntmps6
  go_wp2_with fail
  refine (show Calls _ _ _ _ _ from HNW.out).mono ?_
  rintro e w1 ⟨g,X,rfl,hk⟩
  have H1:Hid (St w w1 g X newM 0):=St.new hk
  clear hk HNW
  have HRN:Hid (Calls Tryz.prog 23 #[] w1 fun e w'=>e=.returned (.agg (fsC newM nilV))∧Below w1.heap.size w1 w'):=new_any w1
  go_wp2_with fail
  refine (show Calls _ _ _ _ _ from HRN.out).mono ?_
  rintro e w2 ⟨rfl,hb2⟩
  have H2:Hid (St w w2 g X newM 0):=H1.out.on hb2
  clear hb2 H1 HRN
  obtain ⟨r,hr⟩:∃ r,w2.heap.size=r:=⟨_,rfl⟩
  have HR:Hid (w2.heap.size=r):=hr
  go_upto_region 3 with (first
    | (refine alF rfl rfl Z HZZ.out ?_)
    | (refine stF rfl _ _ rfl w2.heap.size (fsC newM nilV) Z rfl rfl rfl (fsC_one (newAt w2)) HZS.out (one_alloc _ _) ?_; intro w3 hr3 hm3))
  have hb3:Below w2.heap.size w2 w3:=((Below.refl _ w2).alloc (Nat.le_refl _) _).trans (hm3.below (Nat.le_refl _) (by simp [World.size_alloc]))
  have H3:Hid (P4 w w3 g X newM 0 nilV r):=P4.new (H2.out.on hb3) (by rw [← HR.out]; exact hr3) (by rw [← HR.out]; exact H2.out.bel.size)
  rw [hr]
  clear hb3 H2 hr3 hm3 hr HR
  go_wp2_with fail
  refine (show Calls _ _ _ _ _ from HWK.out _).mono ?_
  rintro e w4 ⟨rfl,hb4⟩
  have H4:Hid (P4 w w4 g X newM 0 nilV r):=H3.out.on hb4
  have HRB:Hid (w.heap.size ≤ r):=H3.out.rb
  clear hb4 H3 HWK
  go_wp2
  go_loopw [5] (fun ci wr=>∃ (i:Nat) (F:Fs) (X:Gh) (V:FV),i ≤ len∧ci=.int .i64 (i:Int)∧P4 w wr g X F (i * 32830) V r) (fun ci _=>len - (intOf ci).toNat)
  case atStart=>exact ⟨0,newM,X,nilV,Nat.zero_le _,rfl,H4.out⟩
  case round =>
    obtain ⟨i,F,X,V,hi,rfl,hp4⟩:=hrel
    have HP:Hid (P4 w wr g X F (i * 32830) V r):=hp4
    clear hp4 H4
    by_cases hlt:i < len
    · have had:=HA.out (by omega)
      subst had
      obtain ⟨o,pv,hop⟩:=HO.out i hlt
      have HOK:Hid (QoOk o):=hop.ok
      obtain ⟨C,hC⟩:∃ C,C=qoArr o pv:=⟨_,rfl⟩
      have HC:Hid (C=qoArr o pv):=hC
      have HCS:Hid (C.size=6):=by show _=_; rw [hC]; rfl
      have hz3:(0:Int) ≤ (i:Int):=by omega
      have hz4:(i:Int) < (len:Int):=by omega
      have HLT:Hid (i < len):=hlt
      have HIW:Hid (IntKind.i64.wrap ((i:Int) + 1)=(i:Int) + 1):=by have:=HL.out; show _=_; rw [IntKind.wrap_i64] <;> omega
      have HIB:Hid ((i + 1) * 32830 ≤ 3298534883000):=by have:=HL.out; show _ ≤ _; omega
      have HOPx:Hid (∀ W,Below w.heap.size w W → OpQ w.heap.size W G (off + i * 6) o pv):=fun W hb=>hop.on hb
      have HGW:Hid (G < w.heap.size):=hop.gt
      clear hop hC hlt
      go_upto_region 8 with fail
      have hcur:Below wr.heap.size wr wr.drew:=(Below.refl _ wr).drew
      have HPd:Hid (P4 w wr.drew g X F (i * 32830) V r):=HP.out.on hcur
      obtain ⟨C0,hC0⟩:∃ C0,C0=fsC F V:=⟨_,rfl⟩
      have HC0:Hid (C0=fsC F V):=hC0
      have HC0S:Hid (C0.size=9):=by show _=_; rw [hC0]; rfl
      obtain ⟨F2,hF2⟩:∃ F2,(doneL F o).1=F2:=⟨_,rfl⟩
      have HI2:Hid (Inv F2 ((i + 1) * 32830)):=by
        have:=inv_doneL HP.out.iv HOK.out
        rw [hF2] at this
        show Inv _ _
        rw [show (i + 1) * 32830=i * 32830 + 32830 by omega]
        exact this
      have HMT:Hid (∀ W',Below wr.drew.heap.size wr.drew W' → Calls Tryz.prog 24 #[.pointer (some ⟨g,0,none⟩),.agg C0,.agg C] W' fun e w'=>∃ V2 X2 C1,C1=fsC F2 V2∧e=.returned (.tuple #[.agg C1,.bool true])∧S8 w W' g X F F2 V ((i + 1) * 32830) V2 X2 w'):=fun W' hb=>by
        have hd:=HPd.out.dv.on hb
        have:=HSTEP.out hd HPd.out.iv (by have:=HIB.out; omega) hC0 HC.out HOK.out ((HOPx.out W' hd.st.bel).pks hd.st.own)
        rw [hF2,show i * 32830 + 32830=(i + 1) * 32830 by omega] at this
        refine Calls.mono this ?_
        rintro e w' ⟨V2,X2,rfl,h1,h2,h3,h4,h5⟩
        exact ⟨V2,X2,_,rfl,rfl,h1,h2,h3,h4,h5⟩
      have HK0:Hid (wr.drew.rangeAt r 0 C0.toList∧wr.drew.rangeAt G (off + i * 6) C.toList):=⟨range_row (by rw [hC0]; exact HPd.out.ro),(HOPx.out _ HPd.out.dv.st.bel).range HC.out⟩
      have HKA:Hid (∀ W' wu V2 X2,Below wr.drew.heap.size wr.drew W' → S8 w W' g X F F2 V ((i + 1) * 32830) V2 X2 wu → wu.rangeAt r 0 C0.toList∧wu.rangeAt G (off + i * 6) C.toList):=fun W' wu V2 X2 hb s=>by
        have hd:=HPd.out.dv.on hb
        refine ⟨range_row (s.row hd.st (keep_row (by rw [hC0]; exact HPd.out.ro) hb)),((HOPx.out W' hd.st.bel).on (s.bel hd.st)).range HC.out⟩
      have HNE:Hid (r ≠ wr.drew.heap.size∧G ≠ wr.drew.heap.size):=by
        have h1:=row_lt HPd.out.ro
        have h2:=HPd.out.dv.st.bel.size
        have h3:=HGW.out
        exact ⟨by omega,by omega⟩
      clear hcur hC0 hF2 HP
      refine wp_region_held_drew (S:=fun W:World=>W.rangeAt r 0 C0.toList∧W.rangeAt G (off + i * 6) C.toList) (by kernel_rfl) (HK0.out) (fun hHeld=>?_)
      refine wpAnyH_take (i:=0) (oi:={ dst:=some 23,op:=Op.move (Operand.tmp 3),type:=25,pos:= "law.go:155",after:=#[],guard:=none }) (v:=.pointer (some ⟨g,0,none⟩)) rfl (by kernel_rfl) (by kernel_rfl) (by kernel_rfl) (fun _ _ _ h=>h) (Or.inl ⟨by rfl,?y0⟩) (by assumption) ?_
      case y0=>(intro w hSw; (try dsimp only at hSw); first | (go_simp; done) | (go_simp; with_reducible rfl) | (go_simp; rfl))
      try simp only [Act.put,List.setIfInBounds_toArray,List.set_cons_zero,List.set_cons_succ]
      refine wpAnyH_take (i:=1) (oi:={ dst:=some 24,op:=Op.load 61 (Operand.tmp 4),type:=61,pos:= "law.go:155",after:=#[],guard:=none }) (v:=.agg C0) rfl (by kernel_rfl) (by kernel_rfl) (by kernel_rfl) (fun _ _ _ h=>h) (ylF C0 r _ rfl rfl (fun _ h=>h.1) HC0S.out) (by assumption) ?_
      try simp only [Act.put,List.setIfInBounds_toArray,List.set_cons_zero,List.set_cons_succ]
      refine wpAnyH_take (i:=2) (oi:={ dst:=some 25,op:=Op.move (Operand.tmp 0),type:=43,pos:= "law.go:155",after:=#[],guard:=none }) (v:=.slice (some ⟨G,off,none⟩) len cap) rfl (by kernel_rfl) (by kernel_rfl) (by kernel_rfl) (fun _ _ _ h=>h) (Or.inl ⟨by rfl,?y2⟩) (by assumption) ?_
      case y2=>(intro w hSw; (try dsimp only at hSw); first | (go_simp; done) | (go_simp; with_reducible rfl) | (go_simp; rfl))
      try simp only [Act.put,List.setIfInBounds_toArray,List.set_cons_zero,List.set_cons_succ]
      refine wpAnyH_take (i:=3) (oi:={ dst:=some 26,op:=Op.move (Operand.tmp 5),type:=3,pos:= "law.go:155",after:=#[],guard:=none }) (v:=.int .i64 (i:Int)) rfl (by kernel_rfl) (by kernel_rfl) (by kernel_rfl) (fun _ _ _ h=>h) (Or.inl ⟨by rfl,?y3⟩) (by assumption) ?_
      case y3=>(intro w hSw; (try dsimp only at hSw); first | (go_simp; done) | (go_simp; with_reducible rfl) | (go_simp; rfl))
      try simp only [Act.put,List.setIfInBounds_toArray,List.set_cons_zero,List.set_cons_succ]
      refine wpAnyH_take (i:=4) (oi:={ dst:=some 27,op:=Op.indexAddr 43 (Operand.tmp 25) (Operand.tmp 26),type:=0,pos:= "law.go:155",after:=#[{ on:=2,ground:=Ground.data },{ on:=3,ground:=Ground.data }],guard:=none }) (v:=.pointer (some ⟨G,off + i * 6,none⟩)) rfl (by kernel_rfl) (by kernel_rfl) (by kernel_rfl) (fun _ _ _ h=>h) (Or.inl ⟨by rfl,?y4⟩) (by assumption) ?_
      case y4=>(intro w hSw; (try dsimp only at hSw); first | (go_simp; done) | (go_simp; with_reducible rfl) | (go_simp; rfl))
      try simp only [Act.put,List.setIfInBounds_toArray,List.set_cons_zero,List.set_cons_succ]
      refine wpAnyH_take (i:=5) (oi:={ dst:=some 28,op:=Op.load 47 (Operand.tmp 27),type:=47,pos:= "law.go:155",after:=#[{ on:=4,ground:=Ground.data }],guard:=none }) (v:=.agg C) rfl (by kernel_rfl) (by kernel_rfl) (by kernel_rfl) (fun _ _ _ h=>h) (ylQ C G (off + i * 6) _ rfl rfl (fun _ h=>h.2) HCS.out) (by assumption) ?_
      try simp only [Act.put,List.setIfInBounds_toArray,List.set_cons_zero,List.set_cons_succ]
      refine wpAnyH_ready (rs:=[6,10]) (by kernel_rfl) (by simp) ?_
      refine AllReadyH.cons (o:={ dst:=some 29,op:=Op.call { callee:=Callee.value (Operand.func 24),args:=#[Operand.tmp 23,Operand.tmp 24,Operand.tmp 28],argTypes:=#[25,61,47] },type:=63,pos:= "law.go:155",after:=#[{ on:=0,ground:=Ground.data },{ on:=1,ground:=Ground.data },{ on:=5,ground:=Ground.data }],guard:=none }) rfl (fun K hK=>?_) (AllReadyH.cons (o:={ dst:=some 6,op:=Op.alloc 61,type:=0,pos:= "law.go:155",after:=#[],guard:=none }) rfl (fun K hK=>?_) AllReadyH.nil)
      · first | (go_at_call 24; refine (show Calls _ _ _ _ _ from HMT.out _ (Below.refl _ _)).mono ?_; rintro e wu ⟨V2,X2,C1,hC1,rfl,hs8⟩; have hk8:=HKA.out _ _ _ _ (Below.refl _ _) hs8) | (go_simp; go_at_call 24; refine (show Calls _ _ _ _ _ from HMT.out _ (Below.refl _ _)).mono ?_; rintro e wu ⟨V2,X2,C1,hC1,rfl,hs8⟩; have hk8:=HKA.out _ _ _ _ (Below.refl _ _) hs8)
        refine hK.out _ _ (hk8) (fun hHeld=>?_)
        clear hK K
        try simp only [Act.put,List.setIfInBounds_toArray,List.set_cons_zero,List.set_cons_succ]
        refine wpAnyH_take (i:=7) (oi:={ dst:=some 22,op:=Op.move (Operand.tmp 29),type:=63,pos:= "law.go:155",after:=#[{ on:=6,ground:=Ground.data }],guard:=none }) (v:=.tuple #[.agg C1,.bool true]) rfl (by kernel_rfl) (by kernel_rfl) (by kernel_rfl) (fun _ _ _ h=>h) (Or.inl ⟨by rfl,?y7⟩) (by assumption) ?_
        case y7=>(intro w hSw; (try dsimp only at hSw); first | (go_simp; done) | (go_simp; with_reducible rfl) | (go_simp; rfl))
        try simp only [Act.put,List.setIfInBounds_toArray,List.set_cons_zero,List.set_cons_succ]
        refine wpAnyH_take (i:=8) (oi:={ dst:=some 30,op:=Op.extract (Operand.tmp 22) 0,type:=61,pos:= "law.go:155",after:=#[{ on:=7,ground:=Ground.data }],guard:=none }) (v:=.agg C1) rfl (by kernel_rfl) (by kernel_rfl) (by kernel_rfl) (fun _ _ _ h=>h) (Or.inl ⟨by rfl,?y8⟩) (by assumption) ?_
        case y8=>(intro w hSw; (try dsimp only at hSw); first | (go_simp; done) | (go_simp; with_reducible rfl) | (go_simp; rfl))
        try simp only [Act.put,List.setIfInBounds_toArray,List.set_cons_zero,List.set_cons_succ]
        refine wpAnyH_take (i:=9) (oi:={ dst:=some 31,op:=Op.extract (Operand.tmp 22) 1,type:=4,pos:= "law.go:155",after:=#[{ on:=7,ground:=Ground.data },{ on:=11,ground:=Ground.gcOnly Departure.lateStores }],guard:=none }) (v:=.bool true) rfl (by kernel_rfl) (by kernel_rfl) (by kernel_rfl) (fun _ _ _ h=>h) (Or.inl ⟨by rfl,?y9⟩) (by assumption) ?_
        case y9=>(intro w hSw; (try dsimp only at hSw); first | (go_simp; done) | (go_simp; with_reducible rfl) | (go_simp; rfl))
        try simp only [Act.put,List.setIfInBounds_toArray,List.set_cons_zero,List.set_cons_succ]
        refine wpAnyH_ready (rs:=[10]) (by kernel_rfl) (by simp) ?_
        refine AllReadyH.cons (o:={ dst:=some 6,op:=Op.alloc 61,type:=0,pos:= "law.go:155",after:=#[],guard:=none }) rfl (fun K hK=>?_) AllReadyH.nil
        refine rdA Z (by rfl) rfl HZZ.out ?_
        refine hK.out _ _ (⟨range_on hk8.1 ((Below.refl _ _).alloc (Nat.le_refl _) _),range_on hk8.2 ((Below.refl _ _).alloc (Nat.le_refl _) _)⟩) (fun hHeld=>?_)
        clear hK K
        try simp only [Act.put,List.setIfInBounds_toArray,List.set_cons_zero,List.set_cons_succ]
        refine wpAnyH_ready (rs:=[11]) (by kernel_rfl) (by simp) ?_
        refine AllReadyH.cons (o:={ dst:=none,op:=Op.store 61 (Operand.tmp 6) (Operand.tmp 30),type:=0,pos:= "law.go:155",after:=#[{ on:=10,ground:=Ground.data },{ on:=8,ground:=Ground.data },{ on:=6,ground:=Ground.chain },{ on:=0,ground:=Ground.phase },{ on:=1,ground:=Ground.phase },{ on:=2,ground:=Ground.phase },{ on:=3,ground:=Ground.phase },{ on:=4,ground:=Ground.phase },{ on:=5,ground:=Ground.phase },{ on:=6,ground:=Ground.phase },{ on:=7,ground:=Ground.phase },{ on:=8,ground:=Ground.phase },{ on:=9,ground:=Ground.textOnly Departure.lateStores },{ on:=10,ground:=Ground.phase }],guard:=none }) rfl (fun K hK=>?_) AllReadyH.nil
        refine rdF wu.heap.size C1 Z _ _ (by rfl) rfl rfl rfl (by rw [hC1]; rfl) (by rw [hC1]; exact fsC_one hs8.at_) HZS.out (one_alloc _ _) ?_; intro W6 hr6 hm6; have hb6:Below wu.heap.size wu W6:=((Below.refl _ wu).alloc (Nat.le_refl _) _).trans (hm6.below (Nat.le_refl _) (by simp [World.size_alloc]))
        refine hK.out _ _ (⟨range_on hk8.1 hb6,range_on hk8.2 hb6⟩) (fun hHeld=>?_)
        clear hK K
        try simp only [Act.put,List.setIfInBounds_toArray,List.set_cons_zero,List.set_cons_succ]
        refine wpAnyH_take (i:=12) (oi:={ dst:=some 7,op:=Op.assign (Operand.tmp 31),type:=4,pos:= "law.go:155",after:=#[{ on:=9,ground:=Ground.data },{ on:=11,ground:=Ground.chain },{ on:=0,ground:=Ground.phase },{ on:=1,ground:=Ground.phase },{ on:=2,ground:=Ground.phase },{ on:=3,ground:=Ground.phase },{ on:=4,ground:=Ground.phase },{ on:=5,ground:=Ground.phase },{ on:=6,ground:=Ground.phase },{ on:=7,ground:=Ground.phase },{ on:=8,ground:=Ground.phase },{ on:=9,ground:=Ground.phase },{ on:=10,ground:=Ground.phase },{ on:=11,ground:=Ground.phase }],guard:=none }) (v:=.bool true) rfl (by kernel_rfl) (by kernel_rfl) (by kernel_rfl) (fun _ _ _ h=>h) (Or.inl ⟨by rfl,?y12⟩) (by assumption) ?_
        case y12=>(intro w hSw; (try dsimp only at hSw); first | (go_simp; done) | (go_simp; with_reducible rfl) | (go_simp; rfl))
        try simp only [Act.put,List.setIfInBounds_toArray,List.set_cons_zero,List.set_cons_succ]
        refine wpAnyH_done (by kernel_rfl) ?_ _
        rw [hC1] at hr6
        have hp8:=p8_a HPd.out HC0.out hs8 HI2.out hb6 hr6
        obtain ⟨N,hN⟩:∃ N,wu.heap.size=N:=⟨_,rfl⟩
        rw [hN] at hp8
        try rw [hN]
        have HP8:Hid (P8 w W6 g X2 F2 ((i + 1) * 32830) V2 r N C0):=hp8
        clear hb6
        clear hC1 hr6 hm6 hN hs8 hk8 hp8 HMT HKA HK0 HNE
        go_upto_region 10 with (first
          | (refine ldF (fsC F2 V2) N _ rfl rfl rfl HP8.out.no rfl ?_)
          | (refine stF rfl _ _ rfl r (fsC F2 V2) C0 rfl rfl rfl (fsC_one HP8.out.dv.dc) HC0S.out HP8.out.ro ?_; intro wx hrx hmx))
        have HPx:Hid (P4 w wx g X2 F2 ((i + 1) * 32830) V2 r):=HP8.out.put HRB.out hmx hrx
        clear hrx hmx HP8 HPd
        have HBD:Hid (Bd F2):=HI2.out.bd HIB.out
        have HIN:Hid ((∀ x ∈ F2.dir,0 ≤ x.2∧x.2 < (F2.files.length:Int))∧∀ x ∈ F2.sure,0 ≤ x.2∧x.2 < (F2.files.length:Int)):=⟨fun x hx=>⟨HPx.out.dv.st.fs.ok.dir.ge x hx,HPx.out.dv.st.fs.ok.dir.lt x hx⟩,fun x hx=>⟨HPx.out.dv.st.fs.ok.sure.ge x hx,HPx.out.dv.st.fs.ok.sure.lt x hx⟩⟩
        have HFW:Hid (F2.dir.length ≤ 64∧F2.sure.length ≤ 64):=HPx.out.dv.st.few
        obtain ⟨nd,hnd⟩:∃ nd,F2.dir.length=nd:=⟨_,rfl⟩
        obtain ⟨ns,hns⟩:∃ ns,F2.sure.length=ns:=⟨_,rfl⟩
        have HND:Hid (F2.dir.length=nd∧F2.sure.length=ns):=⟨hnd,hns⟩
        have HNL:Hid ((nowM F2).length ≤ 4611686018427387000∧(safeM F2).length ≤ 4611686018427387000):=by
          have:=HFW.out
          refine ⟨?_,?_⟩
          · rw [now_len]; omega
          · rw [safe_len]; omega
        clear hnd hns
        have hcx:Below wx.heap.size wx wx.drew:=(Below.refl _ wx).drew
        have HAD:Hid (Ac w wx.drew g X2 F2 ((i + 1) * 32830) V2 r (fsC F2 V2)):=⟨HPx.out.dv.on hcx,keep_row HPx.out.ro hcx⟩
        have HBD_:Hid (P4 w wx.drew g X2 F2 ((i + 1) * 32830) V2 r):=HPx.out.on hcx
        have HBDX:Hid (Below wx.drew.heap.size wx.drew wx.drew):=Below.refl _ _
        have HUP:Hid (Calls Tryz.prog 26 #[.pointer (some ⟨g,0,none⟩)] wx.drew fun e w'=>e=.returned (.bool (!F2.down))∧w'=wx.drew):=Up_any g X2 F2 wx.drew HAD.out.dv.st.fs
        have HSS:Hid (Calls Tryz.prog 25 #[.pointer (some ⟨g,0,none⟩)] wx.drew fun e w'=>e=.returned (.int .i64 (F2.steps:Int))∧w'=wx.drew):=steps_st HAD.out.dv.st rfl
        have HNW:Hid (Calls Tryz.prog 14 #[.pointer (some ⟨g,0,none⟩)] wx.drew fun e w'=>NowP wx.drew (nowM F2) nd e w'):=now_st HAD.out.dv.st HND.out.1
        obtain ⟨y0,y1,y2,y3,y4,y5,y6,y7,y8,_⟩:=row9 (v0:=.bool F2.down) (v1:=.int .i64 (F2.steps:Int)) (v2:=V2.f) (v3:=V2.d) (v4:=V2.s) (v5:=V2.c) (v6:=V2.p) (v7:=.int .i64 F2.crash) (v8:=V2.k) HAD.out.ro
        clear hcx HPx
        go_region_held3 (fun W:World=>W.cell? ⟨r,0,none⟩=some (.bool F2.down)∧W.cell? ⟨r,1,none⟩=some (.int .i64 (F2.steps:Int))∧W.cell? ⟨r,2,none⟩=some (V2.f)∧W.cell? ⟨r,3,none⟩=some (V2.d)∧W.cell? ⟨r,4,none⟩=some (V2.s)∧W.cell? ⟨r,5,none⟩=some (V2.c)∧W.cell? ⟨r,6,none⟩=some (V2.p)∧W.cell? ⟨r,7,none⟩=some (.int .i64 F2.crash)∧W.cell? ⟨r,8,none⟩=some (V2.k))
          (first | with_reducible exact ⟨q0,q1,q2,q3,q4,q5,q6,q7,q8⟩ | with_reducible exact ⟨y0,y1,y2,y3,y4,y5,y6,y7,y8⟩)
          (first
            | (go_at_call 26; (with_reducible refine (show Calls _ _ _ _ _ from HUP.out).mono ?_); rintro e wz ⟨rfl,rfl⟩)
                |(go_at_call 25; (with_reducible refine (show Calls _ _ _ _ _ from HSS.out).mono ?_); rintro e wz ⟨rfl,rfl⟩)
                |(go_at_call 14; (with_reducible refine (show Calls _ _ _ _ _ from HNW.out).mono ?_); rintro e w6 ⟨P6,c6,rfl,hp6,hb6⟩; have HA6:Hid (Ac w w6 g X2 F2 ((i + 1) * 32830) V2 r (fsC F2 V2)):=HAD.out.on hb6; have HB6:Hid (Below wx.drew.heap.size wx.drew w6):=HBDX.out.trans (hb6.mono HBDX.out.size); obtain ⟨q0,q1,q2,q3,q4,q5,q6,q7,q8,_⟩:=row9 (v0:=.bool F2.down) (v1:=.int .i64 (F2.steps:Int)) (v2:=V2.f) (v3:=V2.d) (v4:=V2.s) (v5:=V2.c) (v6:=V2.p) (v7:=.int .i64 F2.crash) (v8:=V2.k) HA6.out.ro; have HP6:Hid (PR w6 (.slice P6 nd c6) (nowM F2)):=hp6; have HRN:Hid (Calls Tryz.prog 28 #[.agg #[.bool F2.down,.int .i64 (F2.steps:Int),V2.f,V2.d,V2.s,V2.c,V2.p,.int .i64 F2.crash,V2.k]] w6 fun e w'=>∃ P c,e=.returned (.slice P nd c)∧KR pprE w' (.slice P nd c) (nowM F2)∧Below w6.heap.size w6 w'):=rnow_ac HA6.out HBD.out HIN.out.1 HND.out.1; clear hp6)
                |(go_at_call 28; (with_reducible refine (show Calls _ _ _ _ _ from HRN.out).mono ?_); rintro e w7 ⟨P7,c7,rfl,hk7,hb7⟩; have HA7:Hid (Ac w w7 g X2 F2 ((i + 1) * 32830) V2 r (fsC F2 V2)):=HA6.out.on hb7; have HB7:Hid (Below wx.drew.heap.size wx.drew w7):=HB6.out.trans (hb7.mono HB6.out.size); obtain ⟨q0,q1,q2,q3,q4,q5,q6,q7,q8,_⟩:=row9 (v0:=.bool F2.down) (v1:=.int .i64 (F2.steps:Int)) (v2:=V2.f) (v3:=V2.d) (v4:=V2.s) (v5:=V2.c) (v6:=V2.p) (v7:=.int .i64 F2.crash) (v8:=V2.k) HA7.out.ro; have HSP:Hid (Calls Tryz.prog 27 #[.slice P6 nd c6,.slice P7 nd c7] w7 fun e w'=>e=.returned (.bool true)∧Below w7.heap.size w7 w'):=same_kr HNL.out.1 (HP6.out.on hb7).kr hk7; clear hk7)
                |(go_at_call 27; (with_reducible refine (show Calls _ _ _ _ _ from HSP.out).mono ?_); rintro e w8 ⟨rfl,hb8⟩; have HA8:Hid (Ac w w8 g X2 F2 ((i + 1) * 32830) V2 r (fsC F2 V2)):=HA7.out.on hb8; have HB8:Hid (Below wx.drew.heap.size wx.drew w8):=HB7.out.trans (hb8.mono HB7.out.size); obtain ⟨q0,q1,q2,q3,q4,q5,q6,q7,q8,_⟩:=row9 (v0:=.bool F2.down) (v1:=.int .i64 (F2.steps:Int)) (v2:=V2.f) (v3:=V2.d) (v4:=V2.s) (v5:=V2.c) (v6:=V2.p) (v7:=.int .i64 F2.crash) (v8:=V2.k) HA8.out.ro; have HSF:Hid (Calls Tryz.prog 22 #[.pointer (some ⟨g,0,none⟩)] w8 fun e w'=>NowP w8 (safeM F2) ns e w'):=safe_st HA8.out.dv.st HND.out.2; clear HSP)
                |(go_at_call 22; (with_reducible refine (show Calls _ _ _ _ _ from HSF.out).mono ?_); rintro e w9 ⟨P9,c9,rfl,hp9,hb9⟩; have HA9:Hid (Ac w w9 g X2 F2 ((i + 1) * 32830) V2 r (fsC F2 V2)):=HA8.out.on hb9; have HB9:Hid (Below wx.drew.heap.size wx.drew w9):=HB8.out.trans (hb9.mono HB8.out.size); obtain ⟨q0,q1,q2,q3,q4,q5,q6,q7,q8,_⟩:=row9 (v0:=.bool F2.down) (v1:=.int .i64 (F2.steps:Int)) (v2:=V2.f) (v3:=V2.d) (v4:=V2.s) (v5:=V2.c) (v6:=V2.p) (v7:=.int .i64 F2.crash) (v8:=V2.k) HA9.out.ro; have HP9:Hid (PR w9 (.slice P9 ns c9) (safeM F2)):=hp9; have HRS:Hid (Calls Tryz.prog 29 #[.agg #[.bool F2.down,.int .i64 (F2.steps:Int),V2.f,V2.d,V2.s,V2.c,V2.p,.int .i64 F2.crash,V2.k]] w9 fun e w'=>∃ P c,e=.returned (.slice P ns c)∧KR pprE w' (.slice P ns c) (safeM F2)∧Below w9.heap.size w9 w'):=rsafe_ac HA9.out HBD.out HIN.out.2 HND.out.2; clear hp9)
                |(go_at_call 29; (with_reducible refine (show Calls _ _ _ _ _ from HRS.out).mono ?_); rintro e w10 ⟨P10,c10,rfl,hk10,hb10⟩; have HA10:Hid (Ac w w10 g X2 F2 ((i + 1) * 32830) V2 r (fsC F2 V2)):=HA9.out.on hb10; have HB10:Hid (Below wx.drew.heap.size wx.drew w10):=HB9.out.trans (hb10.mono HB9.out.size); obtain ⟨q0,q1,q2,q3,q4,q5,q6,q7,q8,_⟩:=row9 (v0:=.bool F2.down) (v1:=.int .i64 (F2.steps:Int)) (v2:=V2.f) (v3:=V2.d) (v4:=V2.s) (v5:=V2.c) (v6:=V2.p) (v7:=.int .i64 F2.crash) (v8:=V2.k) HA10.out.ro; have HSQ:Hid (Calls Tryz.prog 27 #[.slice P9 ns c9,.slice P10 ns c10] w10 fun e w'=>e=.returned (.bool true)∧Below w10.heap.size w10 w'):=same_kr HNL.out.2 (HP9.out.on hb10).kr hk10; clear hk10)
                |(go_at_call 27; (with_reducible refine (show Calls _ _ _ _ _ from HSQ.out).mono ?_); rintro e w11 ⟨rfl,hb11⟩; have HA11:Hid (Ac w w11 g X2 F2 ((i + 1) * 32830) V2 r (fsC F2 V2)):=HA10.out.on hb11; have HB11:Hid (Below wx.drew.heap.size wx.drew w11):=HB10.out.trans (hb11.mono HB10.out.size); obtain ⟨q0,q1,q2,q3,q4,q5,q6,q7,q8,_⟩:=row9 (v0:=.bool F2.down) (v1:=.int .i64 (F2.steps:Int)) (v2:=V2.f) (v3:=V2.d) (v4:=V2.s) (v5:=V2.c) (v6:=V2.p) (v7:=.int .i64 F2.crash) (v8:=V2.k) HA11.out.ro))
        have HPz:Hid (P4 w w11 g X2 F2 ((i + 1) * 32830) V2 r):=HBD_.out.on HB11.out
        clear q0 q1 q2 q3 q4 q5 q6 q7 q8 y0 y1 y2 y3 y4 y5 y6 y7 y8
        have hiw:=HIW.out
        go_wp2
        go_roundw
        case rel=>exact ⟨i + 1,F2,X2,V2,HLT.out,rfl,HPz.out⟩
        case measure=>have:=HLT.out; simp [intOf]; omega
      · refine rdA Z (by rfl) rfl HZZ.out ?_
        refine hK.out _ _ (⟨range_on HK0.out.1 ((Below.refl _ _).alloc (Nat.le_refl _) _),range_on HK0.out.2 ((Below.refl _ _).alloc (Nat.le_refl _) _)⟩) (fun hHeld=>?_)
        clear hK K
        try simp only [Act.put,List.setIfInBounds_toArray,List.set_cons_zero,List.set_cons_succ]
        refine wpAnyH_ready (rs:=[6]) (by kernel_rfl) (by simp) ?_
        refine AllReadyH.cons (o:={ dst:=some 29,op:=Op.call { callee:=Callee.value (Operand.func 24),args:=#[Operand.tmp 23,Operand.tmp 24,Operand.tmp 28],argTypes:=#[25,61,47] },type:=63,pos:= "law.go:155",after:=#[{ on:=0,ground:=Ground.data },{ on:=1,ground:=Ground.data },{ on:=5,ground:=Ground.data }],guard:=none }) rfl (fun K hK=>?_) AllReadyH.nil
        first | (go_at_call 24; refine (show Calls _ _ _ _ _ from HMT.out _ ((Below.refl _ _).alloc (Nat.le_refl _) _)).mono ?_; rintro e wu ⟨V2,X2,C1,hC1,rfl,hs8⟩; have hk8:=HKA.out _ _ _ _ ((Below.refl _ _).alloc (Nat.le_refl _) _) hs8) | (go_simp; go_at_call 24; refine (show Calls _ _ _ _ _ from HMT.out _ ((Below.refl _ _).alloc (Nat.le_refl _) _)).mono ?_; rintro e wu ⟨V2,X2,C1,hC1,rfl,hs8⟩; have hk8:=HKA.out _ _ _ _ ((Below.refl _ _).alloc (Nat.le_refl _) _) hs8)
        refine hK.out _ _ (hk8) (fun hHeld=>?_)
        clear hK K
        try simp only [Act.put,List.setIfInBounds_toArray,List.set_cons_zero,List.set_cons_succ]
        refine wpAnyH_take (i:=7) (oi:={ dst:=some 22,op:=Op.move (Operand.tmp 29),type:=63,pos:= "law.go:155",after:=#[{ on:=6,ground:=Ground.data }],guard:=none }) (v:=.tuple #[.agg C1,.bool true]) rfl (by kernel_rfl) (by kernel_rfl) (by kernel_rfl) (fun _ _ _ h=>h) (Or.inl ⟨by rfl,?y7⟩) (by assumption) ?_
        case y7=>(intro w hSw; (try dsimp only at hSw); first | (go_simp; done) | (go_simp; with_reducible rfl) | (go_simp; rfl))
        try simp only [Act.put,List.setIfInBounds_toArray,List.set_cons_zero,List.set_cons_succ]
        refine wpAnyH_take (i:=8) (oi:={ dst:=some 30,op:=Op.extract (Operand.tmp 22) 0,type:=61,pos:= "law.go:155",after:=#[{ on:=7,ground:=Ground.data }],guard:=none }) (v:=.agg C1) rfl (by kernel_rfl) (by kernel_rfl) (by kernel_rfl) (fun _ _ _ h=>h) (Or.inl ⟨by rfl,?y8⟩) (by assumption) ?_
        case y8=>(intro w hSw; (try dsimp only at hSw); first | (go_simp; done) | (go_simp; with_reducible rfl) | (go_simp; rfl))
        try simp only [Act.put,List.setIfInBounds_toArray,List.set_cons_zero,List.set_cons_succ]
        refine wpAnyH_take (i:=9) (oi:={ dst:=some 31,op:=Op.extract (Operand.tmp 22) 1,type:=4,pos:= "law.go:155",after:=#[{ on:=7,ground:=Ground.data },{ on:=11,ground:=Ground.gcOnly Departure.lateStores }],guard:=none }) (v:=.bool true) rfl (by kernel_rfl) (by kernel_rfl) (by kernel_rfl) (fun _ _ _ h=>h) (Or.inl ⟨by rfl,?y9⟩) (by assumption) ?_
        case y9=>(intro w hSw; (try dsimp only at hSw); first | (go_simp; done) | (go_simp; with_reducible rfl) | (go_simp; rfl))
        try simp only [Act.put,List.setIfInBounds_toArray,List.set_cons_zero,List.set_cons_succ]
        refine wpAnyH_ready (rs:=[11]) (by kernel_rfl) (by simp) ?_
        refine AllReadyH.cons (o:={ dst:=none,op:=Op.store 61 (Operand.tmp 6) (Operand.tmp 30),type:=0,pos:= "law.go:155",after:=#[{ on:=10,ground:=Ground.data },{ on:=8,ground:=Ground.data },{ on:=6,ground:=Ground.chain },{ on:=0,ground:=Ground.phase },{ on:=1,ground:=Ground.phase },{ on:=2,ground:=Ground.phase },{ on:=3,ground:=Ground.phase },{ on:=4,ground:=Ground.phase },{ on:=5,ground:=Ground.phase },{ on:=6,ground:=Ground.phase },{ on:=7,ground:=Ground.phase },{ on:=8,ground:=Ground.phase },{ on:=9,ground:=Ground.textOnly Departure.lateStores },{ on:=10,ground:=Ground.phase }],guard:=none }) rfl (fun K hK=>?_) AllReadyH.nil
        refine rdF wr.drew.heap.size C1 Z _ _ (by rfl) rfl rfl rfl (by rw [hC1]; rfl) (by rw [hC1]; exact fsC_one hs8.at_) HZS.out (hs8.row (HPd.out.dv.st.on ((Below.refl _ _).alloc (Nat.le_refl _) _)) (one_alloc _ _)) ?_; intro W6 hr6 hm6
        refine hK.out _ _ (⟨range_mod hk8.1 hm6 HNE.out.1,range_mod hk8.2 hm6 HNE.out.2⟩) (fun hHeld=>?_)
        clear hK K
        try simp only [Act.put,List.setIfInBounds_toArray,List.set_cons_zero,List.set_cons_succ]
        refine wpAnyH_take (i:=12) (oi:={ dst:=some 7,op:=Op.assign (Operand.tmp 31),type:=4,pos:= "law.go:155",after:=#[{ on:=9,ground:=Ground.data },{ on:=11,ground:=Ground.chain },{ on:=0,ground:=Ground.phase },{ on:=1,ground:=Ground.phase },{ on:=2,ground:=Ground.phase },{ on:=3,ground:=Ground.phase },{ on:=4,ground:=Ground.phase },{ on:=5,ground:=Ground.phase },{ on:=6,ground:=Ground.phase },{ on:=7,ground:=Ground.phase },{ on:=8,ground:=Ground.phase },{ on:=9,ground:=Ground.phase },{ on:=10,ground:=Ground.phase },{ on:=11,ground:=Ground.phase }],guard:=none }) (v:=.bool true) rfl (by kernel_rfl) (by kernel_rfl) (by kernel_rfl) (fun _ _ _ h=>h) (Or.inl ⟨by rfl,?y12⟩) (by assumption) ?_
        case y12=>(intro w hSw; (try dsimp only at hSw); first | (go_simp; done) | (go_simp; with_reducible rfl) | (go_simp; rfl))
        try simp only [Act.put,List.setIfInBounds_toArray,List.set_cons_zero,List.set_cons_succ]
        refine wpAnyH_done (by kernel_rfl) ?_ _
        rw [hC1] at hr6
        have hp8:=p8_b HPd.out HC0.out hs8 HI2.out hm6 hr6
        obtain ⟨N,hN⟩:∃ N,wr.drew.heap.size=N:=⟨_,rfl⟩
        rw [hN] at hp8
        try rw [hN]
        try rw [show wr.heap.size=N from hN]
        have HP8:Hid (P8 w W6 g X2 F2 ((i + 1) * 32830) V2 r N C0):=hp8
        clear hC1 hr6 hm6 hN hs8 hk8 hp8 HMT HKA HK0 HNE
        go_upto_region 10 with (first
          | (refine ldF (fsC F2 V2) N _ rfl rfl rfl HP8.out.no rfl ?_)
          | (refine stF rfl _ _ rfl r (fsC F2 V2) C0 rfl rfl rfl (fsC_one HP8.out.dv.dc) HC0S.out HP8.out.ro ?_; intro wx hrx hmx))
        have HPx:Hid (P4 w wx g X2 F2 ((i + 1) * 32830) V2 r):=HP8.out.put HRB.out hmx hrx
        clear hrx hmx HP8 HPd
        have HBD:Hid (Bd F2):=HI2.out.bd HIB.out
        have HIN:Hid ((∀ x ∈ F2.dir,0 ≤ x.2∧x.2 < (F2.files.length:Int))∧∀ x ∈ F2.sure,0 ≤ x.2∧x.2 < (F2.files.length:Int)):=⟨fun x hx=>⟨HPx.out.dv.st.fs.ok.dir.ge x hx,HPx.out.dv.st.fs.ok.dir.lt x hx⟩,fun x hx=>⟨HPx.out.dv.st.fs.ok.sure.ge x hx,HPx.out.dv.st.fs.ok.sure.lt x hx⟩⟩
        have HFW:Hid (F2.dir.length ≤ 64∧F2.sure.length ≤ 64):=HPx.out.dv.st.few
        obtain ⟨nd,hnd⟩:∃ nd,F2.dir.length=nd:=⟨_,rfl⟩
        obtain ⟨ns,hns⟩:∃ ns,F2.sure.length=ns:=⟨_,rfl⟩
        have HND:Hid (F2.dir.length=nd∧F2.sure.length=ns):=⟨hnd,hns⟩
        have HNL:Hid ((nowM F2).length ≤ 4611686018427387000∧(safeM F2).length ≤ 4611686018427387000):=by
          have:=HFW.out
          refine ⟨?_,?_⟩
          · rw [now_len]; omega
          · rw [safe_len]; omega
        clear hnd hns
        have hcx:Below wx.heap.size wx wx.drew:=(Below.refl _ wx).drew
        have HAD:Hid (Ac w wx.drew g X2 F2 ((i + 1) * 32830) V2 r (fsC F2 V2)):=⟨HPx.out.dv.on hcx,keep_row HPx.out.ro hcx⟩
        have HBD_:Hid (P4 w wx.drew g X2 F2 ((i + 1) * 32830) V2 r):=HPx.out.on hcx
        have HBDX:Hid (Below wx.drew.heap.size wx.drew wx.drew):=Below.refl _ _
        have HUP:Hid (Calls Tryz.prog 26 #[.pointer (some ⟨g,0,none⟩)] wx.drew fun e w'=>e=.returned (.bool (!F2.down))∧w'=wx.drew):=Up_any g X2 F2 wx.drew HAD.out.dv.st.fs
        have HSS:Hid (Calls Tryz.prog 25 #[.pointer (some ⟨g,0,none⟩)] wx.drew fun e w'=>e=.returned (.int .i64 (F2.steps:Int))∧w'=wx.drew):=steps_st HAD.out.dv.st rfl
        have HNW:Hid (Calls Tryz.prog 14 #[.pointer (some ⟨g,0,none⟩)] wx.drew fun e w'=>NowP wx.drew (nowM F2) nd e w'):=now_st HAD.out.dv.st HND.out.1
        obtain ⟨y0,y1,y2,y3,y4,y5,y6,y7,y8,_⟩:=row9 (v0:=.bool F2.down) (v1:=.int .i64 (F2.steps:Int)) (v2:=V2.f) (v3:=V2.d) (v4:=V2.s) (v5:=V2.c) (v6:=V2.p) (v7:=.int .i64 F2.crash) (v8:=V2.k) HAD.out.ro
        clear hcx HPx
        go_region_held3 (fun W:World=>W.cell? ⟨r,0,none⟩=some (.bool F2.down)∧W.cell? ⟨r,1,none⟩=some (.int .i64 (F2.steps:Int))∧W.cell? ⟨r,2,none⟩=some (V2.f)∧W.cell? ⟨r,3,none⟩=some (V2.d)∧W.cell? ⟨r,4,none⟩=some (V2.s)∧W.cell? ⟨r,5,none⟩=some (V2.c)∧W.cell? ⟨r,6,none⟩=some (V2.p)∧W.cell? ⟨r,7,none⟩=some (.int .i64 F2.crash)∧W.cell? ⟨r,8,none⟩=some (V2.k))
          (first | with_reducible exact ⟨q0,q1,q2,q3,q4,q5,q6,q7,q8⟩ | with_reducible exact ⟨y0,y1,y2,y3,y4,y5,y6,y7,y8⟩)
          (first
            | (go_at_call 26; (with_reducible refine (show Calls _ _ _ _ _ from HUP.out).mono ?_); rintro e wz ⟨rfl,rfl⟩)
                |(go_at_call 25; (with_reducible refine (show Calls _ _ _ _ _ from HSS.out).mono ?_); rintro e wz ⟨rfl,rfl⟩)
                |(go_at_call 14; (with_reducible refine (show Calls _ _ _ _ _ from HNW.out).mono ?_); rintro e w6 ⟨P6,c6,rfl,hp6,hb6⟩; have HA6:Hid (Ac w w6 g X2 F2 ((i + 1) * 32830) V2 r (fsC F2 V2)):=HAD.out.on hb6; have HB6:Hid (Below wx.drew.heap.size wx.drew w6):=HBDX.out.trans (hb6.mono HBDX.out.size); obtain ⟨q0,q1,q2,q3,q4,q5,q6,q7,q8,_⟩:=row9 (v0:=.bool F2.down) (v1:=.int .i64 (F2.steps:Int)) (v2:=V2.f) (v3:=V2.d) (v4:=V2.s) (v5:=V2.c) (v6:=V2.p) (v7:=.int .i64 F2.crash) (v8:=V2.k) HA6.out.ro; have HP6:Hid (PR w6 (.slice P6 nd c6) (nowM F2)):=hp6; have HRN:Hid (Calls Tryz.prog 28 #[.agg #[.bool F2.down,.int .i64 (F2.steps:Int),V2.f,V2.d,V2.s,V2.c,V2.p,.int .i64 F2.crash,V2.k]] w6 fun e w'=>∃ P c,e=.returned (.slice P nd c)∧KR pprE w' (.slice P nd c) (nowM F2)∧Below w6.heap.size w6 w'):=rnow_ac HA6.out HBD.out HIN.out.1 HND.out.1; clear hp6)
                |(go_at_call 28; (with_reducible refine (show Calls _ _ _ _ _ from HRN.out).mono ?_); rintro e w7 ⟨P7,c7,rfl,hk7,hb7⟩; have HA7:Hid (Ac w w7 g X2 F2 ((i + 1) * 32830) V2 r (fsC F2 V2)):=HA6.out.on hb7; have HB7:Hid (Below wx.drew.heap.size wx.drew w7):=HB6.out.trans (hb7.mono HB6.out.size); obtain ⟨q0,q1,q2,q3,q4,q5,q6,q7,q8,_⟩:=row9 (v0:=.bool F2.down) (v1:=.int .i64 (F2.steps:Int)) (v2:=V2.f) (v3:=V2.d) (v4:=V2.s) (v5:=V2.c) (v6:=V2.p) (v7:=.int .i64 F2.crash) (v8:=V2.k) HA7.out.ro; have HSP:Hid (Calls Tryz.prog 27 #[.slice P6 nd c6,.slice P7 nd c7] w7 fun e w'=>e=.returned (.bool true)∧Below w7.heap.size w7 w'):=same_kr HNL.out.1 (HP6.out.on hb7).kr hk7; clear hk7)
                |(go_at_call 27; (with_reducible refine (show Calls _ _ _ _ _ from HSP.out).mono ?_); rintro e w8 ⟨rfl,hb8⟩; have HA8:Hid (Ac w w8 g X2 F2 ((i + 1) * 32830) V2 r (fsC F2 V2)):=HA7.out.on hb8; have HB8:Hid (Below wx.drew.heap.size wx.drew w8):=HB7.out.trans (hb8.mono HB7.out.size); obtain ⟨q0,q1,q2,q3,q4,q5,q6,q7,q8,_⟩:=row9 (v0:=.bool F2.down) (v1:=.int .i64 (F2.steps:Int)) (v2:=V2.f) (v3:=V2.d) (v4:=V2.s) (v5:=V2.c) (v6:=V2.p) (v7:=.int .i64 F2.crash) (v8:=V2.k) HA8.out.ro; have HSF:Hid (Calls Tryz.prog 22 #[.pointer (some ⟨g,0,none⟩)] w8 fun e w'=>NowP w8 (safeM F2) ns e w'):=safe_st HA8.out.dv.st HND.out.2; clear HSP)
                |(go_at_call 22; (with_reducible refine (show Calls _ _ _ _ _ from HSF.out).mono ?_); rintro e w9 ⟨P9,c9,rfl,hp9,hb9⟩; have HA9:Hid (Ac w w9 g X2 F2 ((i + 1) * 32830) V2 r (fsC F2 V2)):=HA8.out.on hb9; have HB9:Hid (Below wx.drew.heap.size wx.drew w9):=HB8.out.trans (hb9.mono HB8.out.size); obtain ⟨q0,q1,q2,q3,q4,q5,q6,q7,q8,_⟩:=row9 (v0:=.bool F2.down) (v1:=.int .i64 (F2.steps:Int)) (v2:=V2.f) (v3:=V2.d) (v4:=V2.s) (v5:=V2.c) (v6:=V2.p) (v7:=.int .i64 F2.crash) (v8:=V2.k) HA9.out.ro; have HP9:Hid (PR w9 (.slice P9 ns c9) (safeM F2)):=hp9; have HRS:Hid (Calls Tryz.prog 29 #[.agg #[.bool F2.down,.int .i64 (F2.steps:Int),V2.f,V2.d,V2.s,V2.c,V2.p,.int .i64 F2.crash,V2.k]] w9 fun e w'=>∃ P c,e=.returned (.slice P ns c)∧KR pprE w' (.slice P ns c) (safeM F2)∧Below w9.heap.size w9 w'):=rsafe_ac HA9.out HBD.out HIN.out.2 HND.out.2; clear hp9)
                |(go_at_call 29; (with_reducible refine (show Calls _ _ _ _ _ from HRS.out).mono ?_); rintro e w10 ⟨P10,c10,rfl,hk10,hb10⟩; have HA10:Hid (Ac w w10 g X2 F2 ((i + 1) * 32830) V2 r (fsC F2 V2)):=HA9.out.on hb10; have HB10:Hid (Below wx.drew.heap.size wx.drew w10):=HB9.out.trans (hb10.mono HB9.out.size); obtain ⟨q0,q1,q2,q3,q4,q5,q6,q7,q8,_⟩:=row9 (v0:=.bool F2.down) (v1:=.int .i64 (F2.steps:Int)) (v2:=V2.f) (v3:=V2.d) (v4:=V2.s) (v5:=V2.c) (v6:=V2.p) (v7:=.int .i64 F2.crash) (v8:=V2.k) HA10.out.ro; have HSQ:Hid (Calls Tryz.prog 27 #[.slice P9 ns c9,.slice P10 ns c10] w10 fun e w'=>e=.returned (.bool true)∧Below w10.heap.size w10 w'):=same_kr HNL.out.2 (HP9.out.on hb10).kr hk10; clear hk10)
                |(go_at_call 27; (with_reducible refine (show Calls _ _ _ _ _ from HSQ.out).mono ?_); rintro e w11 ⟨rfl,hb11⟩; have HA11:Hid (Ac w w11 g X2 F2 ((i + 1) * 32830) V2 r (fsC F2 V2)):=HA10.out.on hb11; have HB11:Hid (Below wx.drew.heap.size wx.drew w11):=HB10.out.trans (hb11.mono HB10.out.size); obtain ⟨q0,q1,q2,q3,q4,q5,q6,q7,q8,_⟩:=row9 (v0:=.bool F2.down) (v1:=.int .i64 (F2.steps:Int)) (v2:=V2.f) (v3:=V2.d) (v4:=V2.s) (v5:=V2.c) (v6:=V2.p) (v7:=.int .i64 F2.crash) (v8:=V2.k) HA11.out.ro))
        have HPz:Hid (P4 w w11 g X2 F2 ((i + 1) * 32830) V2 r):=HBD_.out.on HB11.out
        clear q0 q1 q2 q3 q4 q5 q6 q7 q8 y0 y1 y2 y3 y4 y5 y6 y7 y8
        have hiw:=HIW.out
        go_wp2
        go_roundw
        case rel=>exact ⟨i + 1,F2,X2,V2,HLT.out,rfl,HPz.out⟩
        case measure=>have:=HLT.out; simp [intOf]; omega
    · have hil:i=len:=by omega
      subst hil
      clear hlt
      go_wp2
      go_returns
      exact ⟨rfl,HP.out.dv.st.bel⟩
end Go.Proofs.YtbgbmfmgdgalbaaGreatDoor
