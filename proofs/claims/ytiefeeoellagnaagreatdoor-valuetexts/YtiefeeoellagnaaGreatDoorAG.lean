import Derived.Test.YtiefeeoellagnaaGreatDoorS6RdT
import Derived.Test.YtiefeeoellagnaaGreatDoorS6RdU
import Derived.Test.YtiefeeoellagnaaGreatDoorAF
namespace Go.Proofs.YtiefeeoellagnaaGreatDoor.S6
open Go.RowKit
set_option linter.unusedVariables false
attribute [local go_sem] Oper.semAt_some
theorem WpB_act {P:Program} {f0:FuncId} {c:Code} {Q:Exit → Act → World → Prop} {a:Act} {w:World} (h:∀ a0,a0=a → WpB P f0 c Q a0 w):WpB P f0 c Q a w:=h a rfl
theorem own_row {A B:World} {row:Option Nat} {b0 k:Nat} {cs:Array Value} {T:TypeId} {fr:Nat × Nat} (h:A.heap[k]?=some (.cells cs T fr)) (hg:A.grownBy B row) (hr:∀ r,row=some r → b0 ≤ r∧∃ o:Obj,A.heap[r]?=some o∧o.isCells=false):B.heap[k]?=some (.cells cs T fr):=
  (grownBy_keeps_cells hg (fun r e=>(hr r e).2) h rfl).trans h
set_option maxHeartbeats 2000000 in
set_option maxRecDepth 100000 in
theorem read_any (p:ByteArray) (hp:p.size ≤ 281474976710656) (w:World) (hw:Lay w):Calls Tryz.prog 257 #[.string p] w (rdP p w):=by
  have hmf:∀ (fn:Fn) (first cap:Array Value) (w:World),(Instr.makeFunc fn first cap).run Tryz.prog w=.ok (.func fn first cap) w:=fun _ _ _ _=>rfl
  have HW:Hid (Lay w):=hw
  clear hw
  refine calls_of_wpB (n:=10) Tryz.func257 rfl ?_
  simp only [Tryz.ntmps257,List.size_toArray,List.length_cons,List.length_nil,Nat.reduceAdd,Nat.reduceSub,Array.replicate_succ,Array.replicate_zero,List.push_toArray,List.append_toArray,List.nil_append,List.cons_append]
  refine wpB_then (n:=10) ?_
  gi_wp2
  obtain ⟨W1,hW1⟩:∃ W1,W1=(w.alloc (.cells #[.string ⟨#[]⟩,.int .i64 0] 349)).alloc (.cells #[.int .i64 0] 28):=⟨_,rfl⟩
  have HB1:Hid (Below w.heap.size w W1):=by rw [hW1]; exact ((Below.refl _ w).alloc (Nat.le_refl _) _).alloc (by simp) _
  have HE1:Hid (W1.heap[w.heap.size + 1]?=some (.cells #[.int .i64 0] 28)):=by
    rw [hW1]; have:=one_alloc (w.alloc (.cells #[.string ⟨#[]⟩,.int .i64 0] 349)) (.cells #[.int .i64 0] 28)
    rwa [World.size_alloc] at this
  have HL1:Hid (W1.heap[w.heap.size]?=some (.cells #[.string ⟨#[]⟩,.int .i64 0] 349)):=by
    rw [hW1]; exact keep_row (one_alloc w _) ((Below.refl _ _).alloc (Nat.le_refl _) _)
  rw [← hW1]
  clear hW1
  refine wpB_then (n:=10) ?_
  gi_wp2
  by_cases h7:7 ≤ p.size
  · by_cases h30:p.size ≤ 1073741824
    · obtain ⟨k,hk⟩:∃ k,p.size=k + 1:=⟨p.size - 1,by omega⟩
      have hkl:k < p.size:=by omega
      have hd7:decide ((7:Int) ≤ (p.size:Int))=true:=dec_t (by omega)
      have hd30:decide ((p.size:Int) ≤ 1073741824)=true:=dec_t (by omega)
      have hks:(p.size:Int) - 1=(k:Int):=by omega
      have hwk:wrap64 (k:Int)=(k:Int):=by unfold wrap64; omega
      have HP:Hid (7 ≤ p.size∧p.size ≤ 1073741824):=⟨h7,h30⟩
      have hk7:(6:Int) ≤ (k:Int):=by omega
      obtain ⟨x,hx⟩:∃ x:Int,((p[k]'hkl).toNat:Int)=x:=⟨_,rfl⟩
      by_cases hl:x=255
      · have HX:Hid _:=hx
        have HXX:Hid (x=255):=hl
        have HIX:Hid ((p.data.toList.getD (p.data.toList.length - 1) 0)=255):=by
          show _=_
          rw [list_len,List.getD_eq_getElem?_getD,show p.size - 1=k by omega,at_list p k hkl]
          apply UInt8.toNat_inj.1
          have:=HX.out
          have:=HXX.out
          show (p[k]'hkl).toNat=255
          omega
        rw [hl] at hx
        have HK:Hid _:=hk
        clear hl HX HXX h7 h30 hp hk
        refine wpB_then (n:=10) ?_
        gi_wp2_with fail
        refine ⟨trivial,(callsIn_wide.2 (must_ok _)).mono ?_⟩
        rintro e w3 ⟨rfl,rfl⟩
        gi_wp2
        obtain ⟨Q4,hQ4⟩:∃ Q4,p.extract 0 4=Q4:=⟨_,rfl⟩
        have hQ4s:Q4.size=4:=by rw [← hQ4,ext_size _ _ _ (by have:=HP.out.1; omega)]
        have HQ4:Hid (Q4.data.toList=p.data.toList.take 4):=by show _=_; rw [← hQ4,ext_any]; simp
        obtain ⟨Y,hY⟩:∃ Y:Int,wrap64 ((LM.leN Q4.data.toList:Nat):Int)=Y:=⟨_,rfl⟩
        have HY:Hid (Y=(LM.leN (p.data.toList.take 4):Int)):=by
          show _=_
          have h4:=LM.leN_lt Q4.data.toList
          rw [list_len,hQ4s] at h4
          rw [← hY,HQ4.out] at *
          unfold wrap64; omega
        have HLO:Hid (∀ W,Calls Tryz.prog 318 #[.string Q4] W fun e w'=>e=.returned (.int .i64 Y)∧w'=W):=fun W=>by rw [← hY]; exact low_any Q4 (by omega) W
        have hp4:(4:Int) ≤ (p.size:Int):=by have:=HP.out.1; omega
        clear hY hQ4s
        refine wpB_then (n:=10) ?_
        gi_wp2_with fail
        refine ⟨trivial,(callsIn_wide.2 (HLO.out _)).mono ?_⟩
        rintro e w3 ⟨rfl,rfl⟩
        by_cases hys:Y=(p.size:Int)
        · have hyt:(Y == (p.size:Int))=true:=by simpa using hys
          have HHD:Hid (LM.leN (p.data.toList.take 4)=p.data.toList.length):=by
            show _=_; rw [list_len]; have:=HY.out; omega
          clear hys
          gi_wp2_with fail
          refine ⟨trivial,(callsIn_wide.2 (must_ok _)).mono ?_⟩
          rintro e w3 ⟨rfl,rfl⟩
          gi_wp2
          obtain ⟨Bo,hBo⟩:∃ Bo,p.extract 6 k=Bo:=⟨_,rfl⟩
          have HBL:Hid (Bo.data.toList=LM.bod p.data.toList):=by
            show _=_; rw [← hBo,ext_any]; unfold LM.bod; rw [list_len,show k - 6=p.size - 7 by have:=HK.out; omega]
          have hBs:Bo.size=k - 6:=by rw [← hBo,ext_size p 6 k (by omega)]
          obtain ⟨l0,l1,lf⟩:=prow2 HL1.out
          have hkk:(k:Int) ≤ (p.size:Int):=by exact Int.ofNat_le.2 (Nat.le_of_lt hkl)
          refine wpB_then (n:=10) ?_
          gi_wp2
          obtain ⟨W2,hW2⟩:∃ W2,W2=w3.setCell ⟨w.heap.size,0,none⟩ (.string Bo):=⟨_,rfl⟩
          have HL2:Hid (W2.heap[w.heap.size]?=some (.cells #[.string Bo,.int .i64 0] 349)):=by
            rw [hW2,heap_setCell_same _ _ _ _ _ _ HL1.out]; rfl
          have HE2:Hid (W2.heap[w.heap.size + 1]?=some (.cells #[.int .i64 0] 28)):=by
            rw [hW2]; exact (heap_setCell_other _ _ _ _ (show w.heap.size + 1 ≠ w.heap.size by omega)).trans HE1.out
          have HB2:Hid (Below w.heap.size w W2):=by rw [hW2]; exact HB1.out.setCell (p:=⟨w.heap.size,0,none⟩) (Nat.le_refl _) _
          rw [← hW2]
          clear hW2 l0 l1 lf
          obtain ⟨l0,l1,lf⟩:=prow2 HL2.out
          refine wpB_seq (wpB_then (n:=10) ?_)
          gi_wp2_with fail
          refine ⟨trivial,(callsIn_wide.2 (fwd_any Bo 0 _)).mono ?_⟩
          rintro e w4 ⟨rfl,hw4⟩
          have HX2:Hid (w4.heap[W2.heap.size]?=some (.cells #[.string Bo,.int .i64 0] 349)):=by rw [hw4]; exact one_alloc W2 _
          have hs4:w4.heap.size=W2.heap.size + 1:=by rw [hw4,World.size_alloc]
          have hbw:Below W2.heap.size W2 w4:=by rw [hw4]; exact (Below.refl _ _).alloc (Nat.le_refl _) _
          have HL4:Hid _:=keep_row HL2.out hbw
          have HE4:Hid _:=keep_row HE2.out hbw
          have HB4:Hid (Below w.heap.size w w4):=bel_to HB2.out hbw (Nat.le_refl _)
          clear hw4 hbw l0 l1 lf
          gi_wp2
          refine wpB_block ?_
          have hseq:=fwd_seq 9 Bo 0 W2.heap.size (p.size + 1) w4.heap.size (by have:=HP.out.2; omega) (by omega)
          generalize hPP:LM.parse (p.size + 1) 0 0 Bo.data.toList=PP at hseq
          have HPP:Hid _:=hPP
          clear hPP
          have hW1:w.heap.size + 1 < W2.heap.size:=row_lt HE2.out
          have HRD:Hid (LM.Reads p.data.toList ↔ (PP.2=false∧(∀ e ∈ PP.1,LM.okEnt Bo.data.toList e)∧PP.1.length ≤ 1048576∧LM.leN ((p.data.toList.drop 4).take 2)=min PP.1.length 65535)):=by
            show _ ↔ _
            rw [← HPP.out,HBL.out]
            constructor
            · intro h
              have h1:=h.ok; have h2:=h.one; have h3:=h.many; have h4:=h.cnt
              rw [list_len] at h1 h2 h3 h4
              exact ⟨h1,h2,h3,h4⟩
            · rintro ⟨h1,h2,h3,h4⟩
              refine ⟨by rw [list_len]; exact HP.out.1,by rw [list_len]; exact HP.out.2,HIX.out,HHD.out,?_,?_,?_,?_⟩
              · rw [list_len]; exact h1
              · rw [list_len]; exact h2
              · rw [list_len]; exact h3
              · rw [list_len]; exact h4
          refine WpB_act (fun a0 ha0=>?_)
          refine wpB_range (n:=10) (α:=LM.Ent) (encs:=encs) (L:=PP.1) (bad:=PP.2) (pch:=pch) (box:=Box Bo 0 W2.heap.size) Tryz.func257 (gf:=320) (lb:=#[.pointer (some ⟨W2.heap.size,0,none⟩)]) (by rw [ha0]; rfl) (enters_of Tryz.func320 (by kernel_rfl) rfl) hseq (fun _=>rfl)
            (fun pre W=>W.heap[w.heap.size]?=some (.cells #[.string Bo,.int .i64 (pre.length:Int)] 349)∧W.heap[w.heap.size + 1]?=some (.cells #[.int .i64 0] 28)∧W.heap[W2.heap.size]?=some (.cells #[.string Bo,.int .i64 0] 349)∧Below w.heap.size w W∧∀ e ∈ pre,LM.okEnt Bo.data.toList e)
            (fun _ _ _=>False)
            (fun W=>(∃ c,W.heap[w.heap.size]?=some (.cells #[.string Bo,.int .i64 c] 349))∧W.heap[w.heap.size + 1]?=some (.cells #[.int .i64 0] 28)∧Below w.heap.size w W∧∃ e ∈ PP.1,¬ LM.okEnt Bo.data.toList e)
            ?hI (fun _ _ _ _ _ hs _ _=>hs) ?hIp ?hbox ?h0
            (fun (x:LM.Ent) (a':Act) (W:World)=>∃ kk:Nat,a'={ tmps:=(((a0.tmps.setIfInBounds 39 (.int .i64 (x.place:Int))).setIfInBounds 40 (encE x.it x.begin x.span)).setIfInBounds 4 (.int .i64 (x.place:Int))).setIfInBounds 5 (.pointer (some ⟨kk,0,none⟩)),defers:=[] }∧W.heap[kk]?=some (.cells #[.string (strB x.it.txt),.int .i64 x.it.num,.bool x.it.isN,.int .i64 (x.begin:Int),.int .i64 (x.span:Int)] 387)) ?hAx ?assign ?body ?done ?stop ?pan
          case hI =>
            rintro s A B row ⟨h1,h2,h3,h4,h5⟩ hg hr
            exact ⟨own_row h1 hg hr,own_row h2 hg hr,own_row h3 hg hr,ownFrom_below (β:=Unit) (Nat.le_refl _) (by have:=HB4.out.size; exact this) () A B row h4 hg hr,h5⟩
          case hIp =>
            rintro s A B row ⟨⟨c,h1⟩,h2,h4,h5⟩ hg hr
            exact ⟨⟨c,own_row h1 hg hr⟩,own_row h2 hg hr,ownFrom_below (β:=Unit) (Nat.le_refl _) (by have:=HB4.out.size; exact this) () A B row h4 hg hr,h5⟩
          case hbox =>
            rintro pre W ⟨h1,h2,h3,h4,h5⟩
            exact ⟨h3,(HW.out.on h4).wid⟩
          case h0=>exact ⟨HL4.out,HE4.out,HX2.out,HB4.out,fun e he=>absurd he (by simp)⟩
          case hAx =>
            rintro x a' s A B row ⟨kk,h1,h2⟩ hg hr
            exact ⟨kk,h1,own_row h2 hg hr⟩
          case stop=>intro D c pre W _ _ h; exact h.elim
          case assign =>
            intro l pre x W K hpre hI hK
            have HKK:Hid _:=hK
            clear hK hI hseq
            obtain ⟨pl,⟨t,m,q⟩,a,n⟩:=x
            obtain ⟨T,hT⟩:∃ T,strB t=T:=⟨_,rfl⟩
            have HA0:Hid _:=ha0
            rw [ha0]
            simp only [encs,encE,hT,List.zip_toArray,List.zip_cons_cons,List.zip_nil_right,List.foldl_toArray,List.foldl_cons,List.foldl_nil,List.setIfInBounds_toArray,List.set_cons_zero,List.set_cons_succ]
            clear ha0
            gi_wp2
            refine HKK.out _ _ ((Below.refl _ W).alloc (Nat.le_refl _) _) ⟨W.heap.size,?_,?_⟩
            · rw [HA0.out,← hT]; rfl
            · rw [hT]; exact one_alloc W _
          case body =>
            rintro l pre x a' W hl hpre ⟨hL,hE,hX,hb,hall⟩ ⟨kk,ha',hrow⟩
            obtain ⟨hxm,hxr⟩:=LM.parse_mem Bo.data.toList (p.size + 1) 0 0 Bo.data.toList rfl x (by rw [HPP.out]; exact LM.pre_mem hpre)
            have hxp:x.place=pre.length:=by
              have:=LM.parse_place (p.size + 1) 0 0 Bo.data.toList pre x (by rw [HPP.out]; exact hpre)
              omega
            have hlen:pre.length < 1073741826:=by
              have h1:=LM.pre_len hpre
              have h2:=LM.parse_len (p.size + 1) 0 0 Bo.data.toList
              rw [HPP.out] at h2
              have:=HP.out.2
              omega
            have hone:=fun W' (hW':Lay W')=>one_any Bo (pre.length:Int) x (by have:=HP.out.2; omega) (by rw [list_len] at hxm; exact hxm) hxr W' hW'
            have HPM:Hid (x ∈ PP.1):=LM.pre_mem hpre
            obtain ⟨pl,⟨t,m,q⟩,a,n⟩:=x
            simp only at hxp
            subst hxp
            obtain ⟨T,hT⟩:∃ T,strB t=T:=⟨_,rfl⟩
            simp only [encE,hT] at hone ha' hrow
            have HON:Hid (∀ W',Lay W' → Calls Tryz.prog 319 #[.agg #[.string Bo,.int .i64 (pre.length:Int)],.agg #[.string T,.int .i64 m,.bool q,.int .i64 (a:Int),.int .i64 (n:Int)]] W' (oneP Bo W' t m q a n)):=hone
            have HL:Hid _:=hL
            have HE:Hid _:=hE
            have HXX:Hid _:=hX
            have HB:Hid (Below w.heap.size w W):=hb
            have HALL:Hid _:=hall
            obtain ⟨d0,d1,df⟩:=prow2 hL
            obtain ⟨k0,k1,k2,k3,k4,kf⟩:=row5 hrow
            rw [ha',ha0]
            simp only [List.setIfInBounds_toArray,List.set_cons_zero,List.set_cons_succ]
            clear ha' ha0 hone hL hE hX hb hall hpre hxm hxr hseq
            gi_wp2_with fail
            refine ⟨trivial,(show CallsIn (Fence.wide.inRound l) 7 _ _ _ _ _ from callsIn_wide.2 (HON.out _ (HW.out.on HB.out))).mono ?_⟩
            rintro e w5 ⟨⟨rfl,hok⟩ | ⟨rfl,hno⟩,hb5⟩
            · have hL5:=keep_row HL.out hb5
              have hE5:=keep_row HE.out hb5
              have hX5:=keep_row HXX.out hb5
              have HL5:Hid _:=hL5
              have HE5:Hid _:=hE5
              have HX5:Hid _:=hX5
              have HB5:Hid (Below W.heap.size W w5):=hb5
              have HOK:Hid _:=hok
              obtain ⟨g0,g1,gf⟩:=prow2 hL5
              clear hL5 hE5 hX5 hb5 hok d0 d1 df k0 k1 k2 k3 k4 kf
              gi_wp2
              refine ⟨(KA.of_below HB5.out).trans (KA.setCell _ _ _ (by show w.heap.size < w4.heap.size; omega)),?_,?_,?_,?_,?_⟩
              · rw [heap_setCell_same _ _ _ _ _ _ HL5.out]
                simp
              · exact (heap_setCell_other _ _ _ _ (show w.heap.size + 1 ≠ w.heap.size by omega)).trans HE5.out
              · exact (heap_setCell_other _ _ _ _ (show W2.heap.size ≠ w.heap.size by omega)).trans HX5.out
              · exact (bel_to HB.out HB5.out (Nat.le_refl _)).setCell (p:=⟨w.heap.size,1,none⟩) (Nat.le_refl _) _
              · intro e he
                rcases List.mem_append.1 he with he | he
                · exact HALL.out e he
                · rw [List.mem_singleton.1 he]; exact HOK.out
            · refine ⟨rfl,rfl,KA.of_below hb5,⟨_,keep_row HL.out hb5⟩,keep_row HE.out hb5,bel_to HB.out hb5 (Nat.le_refl _),_,HPM.out,hno⟩
          case pan =>
            rintro D W hD hc hDr
            rw [ha0]
            rcases hc with ⟨⟨c,h1⟩,h2,h4,e,he,hn⟩ | ⟨hbad,h1,h2,h3,h4,h5⟩
            · exact leave_bad_m hDr (by have:=HB4.out.size; omega) rfl rfl h1 h2 (Nat.le_refl _) (by omega) h4 (no_pk (fun h=>hn ((HRD.out.1 h).2.1 e he)))
            · exact leave_bad_m hDr (by have:=HB4.out.size; omega) rfl rfl h1 h2 (Nat.le_refl _) (by omega) h4 (no_pk (fun h=>by have:=(HRD.out.1 h).1; rw [hbad] at this; cases this))
          case done =>
            rintro D W hD hbad ⟨h1,h2,h3,h4,h5⟩ hDr
            rw [ha0]
            have HL:Hid _:=h1
            have HE:Hid _:=h2
            have HB:Hid (Below w.heap.size w W):=h4
            have HDR:Hid _:=hDr
            have HRR:Hid (LM.Reads p.data.toList ↔ (PP.1.length ≤ 1048576∧LM.leN ((p.data.toList.drop 4).take 2)=min PP.1.length 65535)):=by
              show _ ↔ _
              rw [HRD.out]
              exact ⟨fun h=>h.2.2,fun h=>⟨hbad,h5,h⟩⟩
            have hBD:w.heap.size ≤ D:=by have:=HB4.out.size; omega
            by_cases hc20:PP.1.length ≤ 1048576
            · obtain ⟨Q2,hQ2⟩:∃ Q2,p.extract 4 6=Q2:=⟨_,rfl⟩
              have hQ2s:Q2.size=2:=by rw [← hQ2,ext_size p 4 6 (by have:=HP.out.1; omega)]
              have HQ2:Hid (Q2.data.toList=(p.data.toList.drop 4).take 2):=by show _=_; rw [← hQ2,ext_any]
              obtain ⟨Z,hZ⟩:∃ Z:Int,wrap64 ((LM.leN Q2.data.toList:Nat):Int)=Z:=⟨_,rfl⟩
              have HZ:Hid (Z=(LM.leN ((p.data.toList.drop 4).take 2):Int)):=by
                show _=_
                have h4:=LM.leN_lt Q2.data.toList
                rw [list_len,hQ2s] at h4
                rw [← hZ,HQ2.out] at *
                unfold wrap64; omega
              have hlo:∀ W,Calls Tryz.prog 318 #[.string Q2] W fun e w'=>e=.returned (.int .i64 Z)∧w'=W:=fun W=>by rw [← hZ]; exact low_any Q2 (by omega) W
              have hp6:(6:Int) ≤ (p.size:Int):=by have:=HP.out.1; omega
              obtain ⟨M,hM⟩:∃ M:Int,min (PP.1.length:Int) 65535=M:=⟨_,rfl⟩
              have HM:Hid (M=((min PP.1.length 65535:Nat):Int)):=by show _=_; omega
              by_cases hzm:Z=M
              · obtain ⟨l,hpk,hent⟩:=LM.Reads.pk (HRR.out.2 ⟨hc20,by have:=HZ.out; have:=HM.out; omega⟩)
                have hcl:PP.1.length=l.length:=by
                  rw [← HPP.out,HBL.out,← list_len p,hent,LM.ents_len]
                have hbd:Bo=strB (LM.bodyOf l):=by
                  rw [← strB_of Bo,HBL.out,hpk.eq,LM.build_body]
                exact tail_ok rfl p Bo PP.1.length D w W Q2 Z M hQ2 hp6 hM hlo hc20 (by simpa using hzm) l hpk hcl hbd hBD h1 h2 h4 hDr
              · exact tail_bad2 rfl p Bo PP.1.length D w W Q2 Z M hQ2 hp6 hM hlo hc20 (by simpa using hzm) (no_pk (fun h=>by
                  have h2:=(HRR.out.1 h).2
                  apply hzm
                  rw [HZ.out,HM.out,h2])) hBD h1 h2 h4 hDr
            · exact tail_bad1 rfl p Bo PP.1.length D w W hc20 (no_pk (fun h=>hc20 (HRR.out.1 h).1)) hBD h1 h2 h4 hDr
        · have hyf:(Y == (p.size:Int))=false:=by simpa using hys
          have HNO:Hid (∀ l,¬ LM.Pk p.data.toList l):=no_pk (fun h=>by
            have h2:=h.head
            rw [list_len] at h2
            apply hys; rw [HY.out,h2])
          clear hys
          gi_wp2_with fail
          refine ⟨trivial,(callsIn_wide.2 (must_bad _)).mono ?_⟩
          rintro e w3 ⟨rfl,rfl⟩
          exact leave_bad rfl rfl HL1.out HE1.out (Nat.le_refl _) (by omega) HB1.out HNO.out
      · have HX:Hid _:=hx
        have hxf:(x == 255)=false:=by simpa using hl
        have HNO:Hid (∀ l,¬ LM.Pk p.data.toList l):=no_pk (fun h=>by
          have h2:=h.last
          rw [list_len,List.getD_eq_getElem?_getD,show p.size - 1=k by omega,at_list p k hkl] at h2
          apply hl
          have h3:(p[k]'hkl)=255:=h2
          rw [← HX.out,h3]; rfl)
        clear hl h7 h30 hp hk
        refine wpB_then (n:=10) ?_
        gi_wp2_with fail
        refine ⟨trivial,(callsIn_wide.2 (must_bad _)).mono ?_⟩
        rintro e w3 ⟨rfl,rfl⟩
        exact leave_bad rfl rfl HL1.out HE1.out (Nat.le_refl _) (by omega) HB1.out HNO.out
    · have HNO:Hid (∀ l,¬ LM.Pk p.data.toList l):=no_pk (fun h=>by have:=h.size; rw [list_len] at this; omega)
      have hd7:decide ((7:Int) ≤ (p.size:Int))=true:=dec_t (by omega)
      have hd30:decide ((p.size:Int) ≤ 1073741824)=false:=dec_f (by omega)
      refine wpB_then (n:=10) ?_
      gi_wp2_with fail
      refine ⟨trivial,(callsIn_wide.2 (must_bad _)).mono ?_⟩
      rintro e w3 ⟨rfl,rfl⟩
      exact leave_bad rfl rfl HL1.out HE1.out (Nat.le_refl _) (by omega) HB1.out HNO.out
  · have HNO:Hid (∀ l,¬ LM.Pk p.data.toList l):=no_pk (fun h=>by have:=h.len7; rw [list_len] at this; omega)
    refine wpB_then (n:=10) ?_
    gi_wp2_with fail
    refine ⟨trivial,(callsIn_wide.2 (must_bad _)).mono ?_⟩
    rintro e w3 ⟨rfl,rfl⟩
    exact leave_bad rfl rfl HL1.out HE1.out (Nat.le_refl _) (by omega) HB1.out HNO.out
end Go.Proofs.YtiefeeoellagnaaGreatDoor.S6
namespace Go.Proofs.YtiefeeoellagnaaGreatDoor.S6
open Go.RowKit
set_option linter.unusedVariables false
attribute [local go_sem] Oper.semAt_some
def BegC (l:List LM.Item):Prop:=∀ (k:Nat),k ≤ l.length → ∀ W,Lay W → Calls Tryz.prog 293 #[.agg #[.string (strB (LM.bodyOf l)),.int .i64 (l.length:Int)],.int .i64 (k:Int)] W fun e w'=>e=.returned (.int .i64 (LM.bsum (l.take k):Nat))∧Below W.heap.size W w'
set_option maxHeartbeats 1000000 in
theorem begin_end (B:ByteArray) (k:Nat) (w:World):Calls Tryz.prog 293 #[.agg #[.string B,.int .i64 (k:Int)],.int .i64 (k:Int)] w fun e w'=>e=.returned (.int .i64 (B.size:Int))∧Below w.heap.size w w':=by
  go_enter Tryz.func293,Tryz.ntmps293
  go_wp2
  go_ret
  exact ⟨rfl,((Below.refl _ w).alloc (Nat.le_refl _) _).alloc (by simp) _⟩
theorem begC_nil:BegC []:=fun k hk W _=>by
  obtain rfl:k=0:=by simpa using hk
  have:=begin_end (strB (LM.bodyOf [])) 0 W
  rwa [strB_size,LM.bodyOf_len] at this
end Go.Proofs.YtiefeeoellagnaaGreatDoor.S6
