import Derived.Test.YtbgbmfmgdgalbaaGreatDoorM01
import Derived.Maps.AppendAt
namespace Go.Proofs.YtbgbmfmgdgalbaaGreatDoor
open Go.RowKit
set_option linter.unusedVariables false
set_option linter.unusedSimpArgs false
section
variable {α:Type} {E:ET α}
theorem step_appG (ok:ETok E) {w:World} {ops:Array Oper} {o:Oper} {a:Act} {K:Act → World → Prop} {Q:Exit → Act → World → Prop} {E0:Prop} (cs:Array Value) (x1:α) (hcs:cs.toList=E.enc x1) (hg:o.guard=none) (s x:Operand)
    (hop:o.op=Op.call { callee:=Callee.builtin Builtin.append,args:=#[s,x],argTypes:=#[E.ST,E.ST] })
    (v:Value) (xs:List α) (hs:a.eval s=v) (hown:w.ownsRow 0 E.T E.k v xs.length (E.fl xs)) (B:Nat) (hx:a.eval x=.slice (some ⟨B,0,none⟩) 1 1) (hB:w.heap[B]?=some (.cells cs E.T)) (hl:xs.length + 1 ≤ maxLen) (hby:(xs.length + 1) * E.by_ ≤ 140737488355328)
    (h:∀ v' w',w'.ownsRow 0 E.T E.k v' (xs.length + 1) (E.fl (xs ++ [x1])) → w.grownBy w' v.ownBlock → (v'.ownBlock=v.ownBlock ∨ v'.ownBlock=some w.heap.size) → K (a.put o.dst v') w') :
    if Region.wanted o (yielded ops a.tmps)=true then Oper.wp Tryz.prog o a w K Q else E0:=by
  have hw:Region.wanted o (yielded ops a.tmps)=true:=by simp [Region.wanted,hg]
  rw [if_pos hw]
  obtain ⟨i0,hi,hz0,hz1,hz2⟩:=info_of ok.inf
  have hfl:E.fl [x1]=cs.toList:=by simp [ET.fl,hcs]
  obtain ⟨v',w',hrun,h2,h3,h4,h5⟩:=run_append_own_at (P:=Tryz.prog) w 0 E.ST o.type E.T i0 E.z E.k E.by_ ok.und hi hz0 hz1 hz2 ok.zc ok.kp v xs.length (E.fl xs) hown ⟨B,0,none⟩ 1 1 (E.fl [x1]) (ET.fl_len ok [x1]) (fun j u hu=>by
    rw [Lib.add_plain,Nat.zero_add,cell_of_row _ _ _ _ _ _ hB]; rw [hfl] at hu; simpa using hu) (ET.fl_one ok [x1]) hl hby (Nat.zero_le _)
  unfold Oper.wp
  simp [execOp,hop,resolve,invoke,builtin,hs,hx,hrun,Result.andThen]
  exact h v' w' (by rw [ET.fl_app]; exact h2) h3 h5
end
theorem own_alloc {w:World} {base e size n:Nat} {v:Value} {xs:List Value} (h:w.ownsRow base e size v n xs) (o:Obj):(w.alloc o).ownsRow base e size v n xs:=own_keep h (fun k _ hk=>heap_alloc_old _ _ hk)
theorem own_bel {w w':World} {base e size n:Nat} {v:Value} {xs:List Value} (h:w.ownsRow base e size v n xs) (hb:Below w.heap.size w w'):w'.ownsRow base e size v n xs:=own_keep h (fun k _ hk=>hb.block k hk)
theorem own_type {w:World} {base e size n:Nat} {v:Value} {xs:List Value} (h:w.ownsRow base e size v n xs) {k:Nat} (hk:v.ownBlock=some k):∃ cur,w.heap[k]?=some (.cells cur e (0,0)):=by
  rcases h.2 with ⟨rfl,_⟩ | ⟨g,cap,cur,rfl,_,hg,_⟩
  · cases hk
  · cases hk; exact ⟨cur,hg⟩
theorem own_to {w w':World} {base e size n:Nat} {v:Value} {xs:List Value} (h:w.ownsRow base e size v n xs) (hk:∀ k,v.ownBlock=some k → w'.heap[k]?=w.heap[k]?):w'.ownsRow base e size v n xs:=by
  refine ⟨h.1,?_⟩
  rcases h.2 with h1 | ⟨g,cap,cur,hv,hb,hg,r⟩
  · exact Or.inl h1
  · exact Or.inr ⟨g,cap,cur,hv,hb,by rw [hk g (by rw [hv]; rfl)]; exact hg,r⟩
theorem own_lt {w:World} {base e size n:Nat} {v:Value} {xs:List Value} (h:w.ownsRow base e size v n xs) {k:Nat} (hk:v.ownBlock=some k):k < w.heap.size:=by
  obtain ⟨cur,hc⟩:=own_type h hk; exact row_lt hc
structure FileAt (W:World) (b i:Nat) (x:Fi) (pv:Value) (ps:List ByteArray):Prop where
  blk:W.heap[b]?=some (.cells #[.int .i64 ((i + 1:Nat):Int),pv,.int .i64 (x.d.size:Int),.int .i64 (x.s:Int)] 85)
  own:W.ownsRow 0 9 1 pv ps.length (psE.fl ps)
  jn:joinB ps=x.d.data.toList
  few:ps.length ≤ x.d.size + 1
  big:x.d.size ≤ 1073741824
  sf:x.s ≤ x.d.size
theorem FileAt.ne {W:World} {b i:Nat} {x:Fi} {pv:Value} {ps:List ByteArray} (h:FileAt W b i x pv ps) {k:Nat} (hk:pv.ownBlock=some k):k ≠ b:=fun e=>by
  subst e
  obtain ⟨cur,hc⟩:=own_type h.own hk
  have:=hc.symm.trans h.blk
  injection this with this
  injection this with _ h2
  exact absurd h2 (by decide)
theorem FileAt.to {W W':World} {b i:Nat} {x:Fi} {pv:Value} {ps:List ByteArray} (h:FileAt W b i x pv ps) (hb:W'.heap[b]?=W.heap[b]?) (hk:∀ k,pv.ownBlock=some k → W'.heap[k]?=W.heap[k]?):FileAt W' b i x pv ps:=⟨hb.trans h.blk,own_to h.own hk,h.jn,h.few,h.big,h.sf⟩
theorem FileAt.first {W:World} {b i:Nat} {x:Fi} {pv:Value} {ps:List ByteArray} (h:FileAt W b i x pv ps) (n:Nat) (hn:n ≤ x.d.size):Calls Tryz.prog 36 #[ptr (some b),.int .i64 (n:Int)] W fun e w'=>e=.returned (.string (x.d.extract 0 n))∧Below W.heap.size W w':=by
  have h1:=h.big
  have h2:=h.few
  have:=first_any b _ ps n pv (by rfl) W h.blk h.own (by omega) (by rw [h.jn,list_len]; omega) (by omega)
  have e:strB ((joinB ps).take n)=x.d.extract 0 n:=by
    refine ByteArray.ext (Array.toList_inj.1 ?_)
    rw [strB_list,ext_any,h.jn,List.drop_zero,Nat.sub_zero]
  rw [e] at this
  exact this
set_option maxHeartbeats 1000000 in
theorem sync_any (b:Nat) (c0 pv:Value) (sz sf:Int) (w:World) (h:w.heap[b]?=some (.cells #[c0,pv,.int .i64 sz,.int .i64 sf] 85)):Calls Tryz.prog 129 #[ptr (some b)] w fun e w'=>e=.returned (.tuple #[])∧w'.heap[b]?=some (.cells #[c0,pv,.int .i64 sz,.int .i64 sz] 85)∧Only w w' b:=by
  have c2:w.cell? ⟨b,2,none⟩=some (.int .i64 sz):=by rw [cell_of_row _ _ _ _ _ _ h]; rfl
  have c3:w.cell? ⟨b,3,none⟩=some (.int .i64 sf):=by rw [cell_of_row _ _ _ _ _ _ h]; rfl
  have f3:w.frozen? ⟨b,3,none⟩=false:=frozen_of_row _ _ _ _ _ h
  have HS:Hid ((w.setCell ⟨b,3,none⟩ (.int .i64 sz)).heap[b]?=some (.cells #[c0,pv,.int .i64 sz,.int .i64 sz] 85)):=by
    have:=heap_setCell_same w b 3 _ _ (.int .i64 sz) h
    exact this
  clear h
  unfold ptr
  go_enter Tryz.func129,Tryz.ntmps129
  go_wp2
  go_end0
  exact ⟨rfl,HS.out,(Only.refl _ _).set _ _⟩
end Go.Proofs.YtbgbmfmgdgalbaaGreatDoor
namespace Go.Proofs.YtbgbmfmgdgalbaaGreatDoor
open Go.RowKit
set_option linter.unusedVariables false
set_option linter.unusedSimpArgs false
theorem ba_app_size (a b:ByteArray):(a ++ b).size=a.size + b.size:=by simp
theorem ba_app_list (a b:ByteArray):(a ++ b).data.toList=a.data.toList ++ b.data.toList:=by simp
theorem ba_nil {d:ByteArray} (h:d.size=0):d=⟨#[]⟩:=by
  refine ByteArray.ext (Array.toList_inj.1 ?_)
  exact List.length_eq_zero_iff.1 (by rw [list_len]; exact h)
theorem bel_drew {w w':World} (h:Below w.drew.heap.size w.drew w'):Below w.heap.size w w':=⟨h.os,h.tape,h.output,h.size,h.block⟩
def Loc (w:World) (v v':Value):Prop:=v'.ownBlock=v.ownBlock ∨ ∀ k,v'.ownBlock=some k → w.heap.size ≤ k
def Lyd (w:World) (b i:Nat) (x:Fi) (pv:Value) (w':World):Prop:=∃ pv' ps',FileAt w' b i x pv' ps'∧ModP (fun k=>k=b ∨ pv.ownBlock=some k) w w'∧Loc w pv pv'
theorem lay_keep {w w2 w5:World} {o:Obj} {b i:Nat} {x:Fi} {pv:Value} {ps:List ByteArray} (HF:FileAt w b i x pv ps) (hb2:Below w.heap.size w w2) (hg5:(w2.alloc o).grownBy w5 pv.ownBlock):w5.heap[b]?=w.heap[b]?:=by
  have h1:=row_lt HF.blk
  have h2:=hb2.size
  refine (hg5.block b (by rw [show (w2.alloc o).heap.size=w2.heap.size + 1 by simp]; omega) (fun e=>HF.ne e.symm rfl)).trans ?_
  exact (heap_alloc_old _ _ (by omega)).trans (hb2.block b h1)
theorem file_cells {W:World} {b:Nat} {n sz sf:Int} {pv:Value} (h:W.heap[b]?=some (.cells #[.int .i64 n,pv,.int .i64 sz,.int .i64 sf] 85)):W.cell? ⟨b,0,none⟩=some (.int .i64 n)∧W.cell? ⟨b,1,none⟩=some pv∧W.cell? ⟨b,2,none⟩=some (.int .i64 sz)∧W.cell? ⟨b,3,none⟩=some (.int .i64 sf)∧∀ j,W.frozen? ⟨b,j,none⟩=false:=by
  refine ⟨?_,?_,?_,?_,fun j=>frozen_of_row _ _ _ _ _ h⟩ <;> (rw [cell_of_row _ _ _ _ _ _ h]; rfl)
set_option maxHeartbeats 4000000 in
set_option maxRecDepth 100000 in
theorem lay_any (b i:Nat) (x:Fi) (pv:Value) (ps:List ByteArray) (dat:ByteArray) (w:World) (h:FileAt w b i x pv ps) (hd:x.d.size + dat.size ≤ 1073741824) :
    Calls Tryz.prog 127 #[ptr (some b),.string dat] w fun e w'=>e=.returned (.tuple #[])∧Lyd w b i ⟨x.d ++ dat,x.s⟩ pv w':=by
  by_cases h0:dat.size=0
  · have e0:dat.toList.isEmpty=true:=str_empty h0
    have HF:Hid (Lyd w b i ⟨x.d ++ dat,x.s⟩ pv w):=by
      refine ⟨pv,ps,?_,ModP.refl _ _,Or.inl rfl⟩
      have e:x.d ++ dat=x.d:=by
        refine ByteArray.ext (Array.toList_inj.1 ?_)
        rw [ba_app_list,ba_nil h0]; simp
      rw [e]; exact h
    clear h h0
    go_enter Tryz.func127,Tryz.ntmps127
    go_wp2
    go_returns
    exact ⟨rfl,HF.out⟩
  · have e0:dat.toList.isEmpty=false:=str_full h0
    have c1:w.drew.cell? ⟨b,1,none⟩=some pv:=by
      show w.cell? _=_
      rw [cell_of_row _ _ _ _ _ _ h.blk]; rfl
    have HCL:Hid (∀ W,Calls Tryz.prog 117 #[.string dat] W fun e w'=>e=.returned (.string dat)∧Below W.heap.size W w'):=fun W=>clone_any dat (by omega) W
    have HF:Hid (FileAt w b i x pv ps):=h
    have H0:Hid (¬ dat.size=0):=h0
    obtain ⟨Q,c,hpv⟩:=own_form h.own
    subst hpv
    obtain ⟨sz,hsz⟩:∃ sz,x.d.size=sz:=⟨_,rfl⟩
    have HSZ:Hid (x.d.size=sz):=hsz
    have hw1:IntKind.i64.wrap ((sz:Int) + (dat.size:Int))=((sz + dat.size:Nat):Int):=by rw [IntKind.wrap_i64] <;> omega
    have HMX:Hid (ps.length + 1 ≤ 4294967296):=by
      have:=h.big; have:=h.few
      show _ ≤ _; omega
    have HLT:Hid (b < w.heap.size):=row_lt h.blk
    clear h h0 hsz
    unfold ptr
    go_enter Tryz.func127,Tryz.ntmps127
    go_upto_region 1 with fail
    go_region_law (first
      | (refine step_appG psOk #[.string dat] dat rfl rfl (.tmp 10) (.tmp 13) rfl (.slice Q ps.length c) ps rfl (own_alloc ho2 _) w2.heap.size rfl (one_alloc _ _) (by have:=HMX.out; unfold maxLen; omega) (by have:=HMX.out; show _ * 16 ≤ _; omega) ?_; intro v5 w5 ho5 hg5 hl5; have hbb:=lay_keep HF.out hb2 hg5; have hb5:=hbb.trans HF.out.blk; obtain ⟨P5,k5,hf5⟩:=own_form ho5; subst hf5; obtain ⟨_,d5,e5,_,f5x⟩:=file_cells hb5; have f5:=f5x 1)
      | (go_simp; refine (show Calls _ _ _ _ _ from HCL.out _).mono ?_; rintro e w2 ⟨rfl,hb2x⟩; have hb2:=bel_drew hb2x; have ho2:=own_bel (w':=w2) HF.out.own hb2; have d2:w2.cell? ⟨b,1,none⟩=some (.slice Q ps.length c):=cell_on c1 hb2x; have d2a:=cell_on d2 ((Below.refl _ w2).alloc (Nat.le_refl _) (.cells #[.string dat] 9))))
    all_goals
      obtain ⟨W6,hW6⟩:∃ W,W=w5.setCell ⟨b,1,none⟩ (.slice P5 (ps.length + 1) k5):=⟨_,rfl⟩
      rw [← hW6]
      have hb6:W6.heap[b]?=some (.cells #[.int .i64 ((i + 1:Nat):Int),.slice P5 (ps.length + 1) k5,.int .i64 (x.d.size:Int),.int .i64 (x.s:Int)] 85):=by
        rw [hW6]; exact heap_setCell_same w5 b 1 _ _ _ hb5
      have ho6:Only w5 W6 b:=by rw [hW6]; exact (Only.refl _ _).set _ _
      have HB6:Hid (W6.heap[b]?=some (.cells #[.int .i64 ((i + 1:Nat):Int),.slice P5 (ps.length + 1) k5,.int .i64 (x.d.size:Int),.int .i64 (x.s:Int)] 85)):=hb6
      have HO6:Hid (Only w5 W6 b):=ho6
      have HO5:Hid (w5.ownsRow 0 9 1 (.slice P5 (ps.length + 1) k5) (ps.length + 1) (psE.fl (ps ++ [dat]))):=ho5
      have HG5:Hid ((w2.alloc (.cells #[.string dat] 9)).grownBy w5 (Value.slice Q ps.length c).ownBlock):=hg5
      have HL5:Hid ((Value.slice P5 (ps.length + 1) k5).ownBlock=(Value.slice Q ps.length c).ownBlock ∨ (Value.slice P5 (ps.length + 1) k5).ownBlock=some (w2.alloc (.cells #[.string dat] 9)).heap.size):=hl5
      have HB2:Hid (Below w.heap.size w w2):=hb2
      obtain ⟨_,_,g2,_,g3⟩:=file_cells hb6
      rw [HSZ.out] at g2
      have g4:=g3 2
      clear hW6 hb6 ho6 ho5 hg5 hl5 hb2 hbb hb5 d5 e5 f5x f5 g3 c1 ho2 d2
      try clear d2a
      try clear hb2x
      go_wp2
      go_end0
      refine ⟨rfl,.slice P5 (ps.length + 1) k5,ps ++ [dat],⟨?_,?_,?_,?_,?_,?_⟩,?_,?_⟩
      · have:=heap_setCell_same W6 b 2 _ _ (.int .i64 ((sz + dat.size:Nat):Int)) HB6.out
        rw [ba_app_size,HSZ.out]
        exact this
      · rw [List.length_append]
        refine own_to HO5.out (fun k hk=>?_)
        have hne:k ≠ b:=fun e=>by
          subst e
          obtain ⟨cur,hc⟩:=own_type HO5.out hk
          have h9:=lay_keep HF.out HB2.out HG5.out
          have:=hc.symm.trans (h9.trans HF.out.blk)
          injection this with this
          injection this with _ h2
          exact absurd h2 (by decide)
        rw [heap_setCell_other _ _ _ _ hne,HO6.out.other k hne]
      · rw [joinB_app,joinB_one,HF.out.jn,ba_app_list]
      · rw [List.length_append,ba_app_size]
        have:=HF.out.few; have:=H0.out
        simp; omega
      · rw [ba_app_size]; exact hd
      · rw [ba_app_size]; have:=HF.out.sf; show x.s ≤ _; omega
      · refine ((ModP.below HB2.out).trans (ModP.below ((Below.refl _ _).alloc (Nat.le_refl _) _))).trans (ModP.trans (ModP.grown HG5.out (fun k hk=>Or.inr hk)) (ModP.trans (ModP.only HO6.out (Or.inl rfl)) (ModP.only ((Only.refl _ _).set _ _) (Or.inl rfl))))
      · rcases HL5.out with h7 | h7
        · exact Or.inl h7
        · refine Or.inr (fun k hk=>?_)
          rw [h7] at hk
          cases hk
          have:=HB2.out.size
          simp; omega
end Go.Proofs.YtbgbmfmgdgalbaaGreatDoor
namespace Go.Proofs.YtbgbmfmgdgalbaaGreatDoor
open Go.RowKit
set_option linter.unusedVariables false
set_option linter.unusedSimpArgs false
theorem ext_all (d:ByteArray):d.extract 0 d.size=d:=by
  refine ByteArray.ext (Array.toList_inj.1 ?_)
  rw [ext_any,List.drop_zero,Nat.sub_zero,← list_len,List.take_length]
set_option maxHeartbeats 4000000 in
set_option maxRecDepth 100000 in
theorem keep_any (b i:Nat) (x:Fi) (pv:Value) (ps:List ByteArray) (k:Nat) (w:World) (h:FileAt w b i x pv ps) (hk:x.s + k ≤ x.d.size) :
    Calls Tryz.prog 86 #[ptr (some b),.int .i64 (k:Int)] w fun e w'=>e=.returned (.tuple #[])∧∃ pv' ps',FileAt w' b i (cutF x k) pv' ps'∧ModP (fun j=>j=b) w w'∧Loc w pv pv':=by
  obtain ⟨d0,d1,d2,d3,df⟩:=file_cells h.blk
  have f1:=df 1
  have f2:=df 2
  have hbig:=h.big
  obtain ⟨sz,hsz⟩:∃ sz,x.d.size=sz:=⟨_,rfl⟩
  obtain ⟨sf,hsf⟩:∃ sf,x.s=sf:=⟨_,rfl⟩
  have HSZ:Hid (x.d.size=sz):=hsz
  have HSF:Hid (x.s=sf):=hsf
  rw [hsz,hsf] at hk
  rw [hsz] at d2 hbig
  rw [hsf] at d3
  have hw1:IntKind.i64.wrap ((sf:Int) + (k:Int))=((sf + k:Nat):Int):=by rw [IntKind.wrap_i64] <;> omega
  obtain ⟨lf,hlf⟩:∃ lf,sf + k=lf:=⟨_,rfl⟩
  rw [hlf] at hw1 hk
  have HLF:Hid (sf + k=lf):=hlf
  have HF:Hid (FileAt w b i x pv ps):=h
  clear df hsz hsf hlf
  by_cases hlt:lf < sz
  · have hz:(lf:Int) < (sz:Int):=by omega
    have HFI:Hid (Calls Tryz.prog 36 #[ptr (some b),.int .i64 (lf:Int)] w fun e w'=>e=.returned (.string (x.d.extract 0 lf))∧Below w.heap.size w w'):=h.first lf (by rw [HSZ.out]; omega)
    clear h
    unfold ptr at HFI ⊢
    go_enter Tryz.func86,Tryz.ntmps86
    go_wp2_with fail
    refine (show Calls _ _ _ _ _ from HFI.out).mono ?_
    rintro e w1 ⟨rfl,hb1⟩
    have hb2:Below w.heap.size w (w1.alloc (.cells #[.string (x.d.extract 0 lf)] 9)):=hb1.alloc (hb1.size) _
    have hbk2:=(hb2.block b (row_lt HF.out.blk)).trans HF.out.blk
    obtain ⟨W2,hW2⟩:∃ W2,W2=w1.alloc (.cells #[.string (x.d.extract 0 lf)] 9):=⟨_,rfl⟩
    have hnew:W2.heap[w1.heap.size]?=some (.cells #[.string (x.d.extract 0 lf)] 9):=by rw [hW2]; exact one_alloc _ _
    rw [← hW2] at hb2 hbk2
    obtain ⟨R,hR⟩:∃ R,w1.heap.size=R:=⟨_,rfl⟩
    rw [hR] at hnew
    have HRL:Hid (w.heap.size ≤ R):=by have:=hb1.size; show _ ≤ _; omega
    obtain ⟨y0,y1,y2,y3,yf⟩:=file_cells hbk2
    have yf1:=yf 1
    obtain ⟨W3,hW3⟩:∃ W3,W2.setCell ⟨b,1,none⟩ (.slice (some ⟨R,0,none⟩) 1 1)=W3:=⟨_,rfl⟩
    have hbk3:W3.heap[b]?=some (.cells #[.int .i64 ((i + 1:Nat):Int),.slice (some ⟨R,0,none⟩) 1 1,.int .i64 (x.d.size:Int),.int .i64 (x.s:Int)] 85):=by rw [← hW3]; exact heap_setCell_same W2 b 1 _ _ _ hbk2
    have ho3:Only W2 W3 b:=by rw [← hW3]; exact (Only.refl _ _).set _ _
    obtain ⟨z0,z1,z2,z3,zf⟩:=file_cells hbk3
    have zf2:=zf 2
    obtain ⟨W4,hW4⟩:∃ W4,W3.setCell ⟨b,2,none⟩ (.int .i64 (lf:Int))=W4:=⟨_,rfl⟩
    have hbk4:W4.heap[b]?=some (.cells #[.int .i64 ((i + 1:Nat):Int),.slice (some ⟨R,0,none⟩) 1 1,.int .i64 (lf:Int),.int .i64 (x.s:Int)] 85):=by rw [← hW4]; exact heap_setCell_same W3 b 2 _ _ _ hbk3
    have ho4:Only W2 W4 b:=by rw [← hW4]; exact ho3.set _ _
    have HSY:Hid _:=sync_any b _ _ _ _ W4 hbk4
    have hbR:b ≠ R:=fun e=>by
      subst e
      have:=hbk2.symm.trans hnew
      injection this with this
      injection this with h1 _
      have:=congrArg Array.size h1
      simp at this
    have HNEW:Hid (W4.heap[R]?=some (.cells #[.string (x.d.extract 0 lf)] 9)):=(ho4.other R (Ne.symm hbR)).trans hnew
    have HBR:Hid (b ≠ R):=hbR
    have HM4:Hid (ModP (fun j=>j=b) w W4):=(ModP.below hb2).trans (ModP.only ho4 rfl)
    have hW2':w1.alloc (.cells #[.string (x.d.extract 0 lf)] 9)=W2:=hW2.symm
    unfold ptr at HSY
    clear hW2 hb1 hb2 hbk2 hnew yf d0 d1 d2 d3 f1 f2 hbk3 ho3 zf hbk4 ho4 hbR y0 y2 y3 z0 z1 z3
    go_wp2_with fail
    refine (show Calls _ _ _ _ _ from HSY.out).mono ?_
    rintro e w5 ⟨rfl,hb5,ho5⟩
    have HB5:Hid _:=hb5
    have HO5:Hid (Only W4 w5 b):=ho5
    clear hb5 ho5
    go_wp2
    go_end0
    refine ⟨rfl,.slice (some ⟨R,0,none⟩) 1 1,[x.d.extract 0 lf],⟨?_,?_,?_,?_,?_,?_⟩,HM4.out.trans (ModP.only HO5.out rfl),Or.inr (fun q hq=>by cases hq; exact HRL.out)⟩
    · have e1:(cutF x k).d.size=lf:=by unfold cutF; simp only []; rw [HSF.out,HLF.out]; exact (ext_size _ _ _ (by rw [HSZ.out]; omega)).trans (by omega)
      have e2:(cutF x k).s=lf:=by unfold cutF; simp only []; rw [HSF.out,HLF.out]
      rw [e1,e2]; exact HB5.out
    · refine ⟨rfl,Or.inr ⟨R,1,#[.string (x.d.extract 0 lf)],rfl,Nat.zero_le _,(HO5.out.other R (Ne.symm HBR.out)).trans HNEW.out,Nat.le_refl _,by unfold maxLen; omega,rfl,rfl⟩⟩
    · rw [joinB_one]; unfold cutF; simp only []; rw [HSF.out,HLF.out]
    · simp
    · have e1:(cutF x k).d.size=lf:=by unfold cutF; simp only []; rw [HSF.out,HLF.out]; exact (ext_size _ _ _ (by rw [HSZ.out]; omega)).trans (by omega)
      rw [e1]; omega
    · have e1:(cutF x k).d.size=lf:=by unfold cutF; simp only []; rw [HSF.out,HLF.out]; exact (ext_size _ _ _ (by rw [HSZ.out]; omega)).trans (by omega)
      have e2:(cutF x k).s=lf:=by unfold cutF; simp only []; rw [HSF.out,HLF.out]
      rw [e1,e2]; exact Nat.le_refl _
  · have he:lf=sz:=by omega
    have HSY:Hid _:=sync_any b _ _ _ _ w h.blk
    clear h
    have hz:¬ (lf:Int) < (sz:Int):=by omega
    unfold ptr at HSY ⊢
    go_enter Tryz.func86,Tryz.ntmps86
    go_wp2_with fail
    refine (show Calls _ _ _ _ _ from HSY.out).mono ?_
    rintro e w5 ⟨rfl,hb5,ho5⟩
    have HB5:Hid _:=hb5
    have HO5:Hid (Only w w5 b):=ho5
    clear hb5 ho5
    go_wp2
    go_end0
    have e3:x.d.extract 0 (x.s + k)=x.d:=by rw [HSF.out,HLF.out,he,← HSZ.out]; exact ext_all _
    have e4:x.s + k=x.d.size:=by rw [HSF.out,HLF.out,he,HSZ.out]
    refine ⟨rfl,pv,ps,⟨?_,?_,?_,?_,?_,?_⟩,ModP.only HO5.out rfl,Or.inl rfl⟩
    · unfold cutF; simp only []; rw [e3,e4]; exact HB5.out
    · exact own_to HF.out.own (fun q hq=>HO5.out.other q (HF.out.ne hq))
    · unfold cutF; simp only []; rw [e3]; exact HF.out.jn
    · unfold cutF; simp only []; rw [e3]; exact HF.out.few
    · unfold cutF; simp only []; rw [e3]; exact HF.out.big
    · unfold cutF; simp only []; rw [e3,e4]; exact Nat.le_refl _
end Go.Proofs.YtbgbmfmgdgalbaaGreatDoor
