import Derived.Test.YtijambehfobopaaGreatDoorWAW
import Derived.Maps.AppendAt
namespace Go.Proofs.YtijambehfobopaaGreatDoor
open Go.RowKit Go.Shelf
set_option linter.unusedVariables false
set_option linter.unusedSimpArgs false
attribute [local go_sem] Oper.semAt_some
theorem wkQ_pre {back:Bool} {t cnt:Nat} {pre:List Nat} {x:Nat} (h:pre ++ [x] <+: wkQ back t cnt):pre.length < cnt∧x=curQ back t pre.length:=by
  have hl:=h.length_le
  have hw:(wkQ back t cnt).length=cnt:=by simp [wkQ]
  rw [hw,List.length_append] at hl
  have h1:pre.length < cnt:=by simp at hl; omega
  refine ⟨h1,?_⟩
  obtain ⟨r,hr⟩:=h
  have h2:=congrArg (fun l=>l[pre.length]?) hr
  simp [wkQ,h1] at h2
  exact h2
section
variable {b0 g r c:Nat} {rest:List Value} {nv:Value} {E B:Nat} {N:QM.NL}
theorem flat_take (N:QM.NL) (i:Nat) (hi:i < N.length) (k:Nat) (hk:k ≤ N[i].length):N.flatten.take ((N.take i).flatten.length + k)=(N.take i).flatten ++ N[i].take k:=by
  have e:N=N.take i ++ N[i] :: N.drop (i + 1):=by rw [← List.drop_eq_getElem_cons hi,List.take_append_drop]
  have e2:N.flatten=(N.take i).flatten ++ (N[i] ++ (N.drop (i + 1)).flatten):=by
    have:=congrArg List.flatten e
    rw [List.flatten_append,List.flatten_cons] at this; exact this
  rw [e2,List.take_append,List.take_of_length_le (by omega),Nat.add_sub_cancel_left,List.take_append_of_le_length hk]
theorem part_app (N:QM.NL) (i:Nat) (hi:i < N.length) (k hh a p p':Nat) (hk:k ≤ hh) (hh1:hh ≤ N[i].length) (hp:(N.take i).flatten.length + k=p) (hp':(N.take i).flatten.length + hh=p') (ha:a ≤ p):(N.flatten.take p').drop a=(N.flatten.take p).drop a ++ (N[i].take hh).drop k:=by
  subst hp hp'
  rw [flat_take N i hi hh hh1,flat_take N i hi k (by omega)]
  have e:N[i].take hh=N[i].take k ++ (N[i].take hh).drop k:=by
    have h1:=List.take_append_drop k (N[i].take hh)
    rw [List.take_take,Nat.min_eq_left hk] at h1
    exact h1.symm
  conv=>lhs; rw [e]
  rw [← List.append_assoc,List.drop_append_of_le_length (by rw [List.length_append,List.length_take]; omega)]
set_option maxHeartbeats 4000000 in
set_option maxRecDepth 100000 in
theorem Range_yes (fr tt:Int) (a z:Nat) (ha:max fr 0=(a:Int)) (hz:min tt ((N.flatten.length:Int) - 1)=(z:Int)) (haz:a ≤ z) (hl:N.flatten.length ≤ 1000) (hI:QM.Inv E B N) (w:World) (hw:Lay w) (h:LS w b0 g r c rest nv E B (nds B N)) :
    Calls Tryz.prog 18 #[ptr g,.int .i64 fr,.int .i64 tt] w fun e w'=>∃ v',e=.returned v'∧w'.ownsRow w.heap.size 9 1 v' (z + 1 - a) (strV ((N.flatten.take (z + 1)).drop a))∧Below w.heap.size w w':=by
  have HL:Hid (LS w b0 g r c rest nv E B (nds B N)):=h
  have HW:Hid (Lay w):=hw
  have hln:N.length ≤ 1000:=Nat.le_trans (QM.len_le hI.some) hl
  have hzF:z < N.flatten.length:=by omega
  obtain ⟨l0,l1,l2,l3,lf⟩:=lrow4 h.hd
  rw [cnt_nds] at l2
  obtain ⟨ht,hq,he⟩:=QM.plc_lt N a (by omega)
  have HFD:Hid (∀ W,Below w.heap.size w W → Calls Tryz.prog 45 #[ptr g,.int .i64 (a:Int)] W fun e w'=>e=.returned (plV (QM.plc N a).1 (QM.plc N a).2)∧Below W.heap.size W w'):=fun W hW=>findN_any a (by omega) hl hI W (h.on hW)
  obtain ⟨t,hte⟩:∃ t,(QM.plc N a).1=t:=⟨_,rfl⟩
  obtain ⟨q,hqe⟩:∃ q,(QM.plc N a).2=q:=⟨_,rfl⟩
  rw [hte,hqe] at HFD
  have hq':q < (N[t]'(by rw [← hte]; exact ht)).length:=by subst hte hqe; exact hq
  rw [hte] at ht
  rw [hte,hqe] at he
  clear hq
  obtain ⟨FN,hFN⟩:∃ FN:Nat → Nat,∀ i,FN i=(N.take i).flatten.length:=⟨_,fun _=>rfl⟩
  obtain ⟨PS,hPS⟩:∃ PS:Nat → Nat,∀ j,PS j=if j=0 then a else FN (t + j):=⟨_,fun _=>rfl⟩
  obtain ⟨KQ,hKQ⟩:∃ KQ:Nat → Nat,∀ j,KQ j=if j=0 then q else 0:=⟨_,fun _=>rfl⟩
  obtain ⟨SL,hSL⟩:∃ SL:Nat → List Value,∀ p,SL p=strV ((N.flatten.take p).drop a):=⟨_,fun _=>rfl⟩
  have HPK:Hid (∀ j,FN (t + j) + KQ j=PS j):=fun j=>by
    rw [hPS,hKQ]
    by_cases hj:j=0
    · subst hj; simp; rw [hFN]; exact he
    · simp [hj]
  have HFS:Hid (∀ i (hi:i < N.length),FN (i + 1)=FN i + N[i].length):=fun i hi=>by rw [hFN,hFN,takeN_snoc N i hi,List.flatten_append,List.length_append]; simp
  have HPE:Hid (N.length - t=0 ∨ PS (N.length - t)=N.flatten.length):=by
    right
    rw [hPS,if_neg (by omega),hFN,show t + (N.length - t)=N.length by omega,List.take_length]
  have HP0:Hid (PS 0=a∧KQ 0=q∧SL a=[]):=⟨by rw [hPS]; rfl,by rw [hKQ]; rfl,by rw [hSL,List.drop_eq_nil_of_le (by rw [List.length_take]; omega)]; rfl⟩
  have HK1:Hid (∀ j,KQ (j + 1)=0∧PS (j + 1)=FN (t + j + 1)):=fun j=>⟨by rw [hKQ,if_neg (by omega)],by rw [hPS,if_neg (by omega)]; rfl⟩
  have HPG:Hid (∀ j,j < N.length - t → a ≤ PS j):=fun j hj=>by
    by_cases h0:j=0
    · subst h0; rw [HP0.out.1]; exact Nat.le_refl _
    · obtain ⟨i,rfl⟩:∃ i,j=i + 1:=⟨j - 1,by omega⟩
      rw [(HK1.out i).2]
      have h1:=HFS.out t ht
      have h2:∀ d,t + 1 + d ≤ N.length → FN (t + 1) ≤ FN (t + 1 + d):=fun d=>by
        induction d with
        | zero=>intro _; exact Nat.le_refl _
        | succ d ih=>intro hd; have h5:=HFS.out (t + 1 + d) (by omega); have h6:=ih (by omega); show FN (t + 1) ≤ FN (t + 1 + d + 1); omega
      have h3:=h2 i (by omega)
      rw [show t + i + 1=t + 1 + i by omega]
      have h4:=HPK.out 0
      rw [Nat.add_zero,HP0.out.1,HP0.out.2.1] at h4
      omega
  have HKX:Hid (∀ j (hj:t + j < N.length),KQ j < N[t + j].length):=fun j hj=>by
    by_cases h0:j=0
    · subst h0; rw [HP0.out.2.1]; exact hq'
    · obtain ⟨i,rfl⟩:∃ i,j=i + 1:=⟨j - 1,by omega⟩
      rw [(HK1.out i).1]
      exact List.length_pos_iff.2 (hI.some _ (List.getElem_mem hj))
  have HAP:Hid (∀ j (hj:t + j < N.length) (hh:Nat),KQ j ≤ hh → hh ≤ N[t + j].length → SL (FN (t + j) + hh)=SL (PS j) ++ strV ((N[t + j].take hh).drop (KQ j))):=fun j hj hh h1 h2=>by
    rw [hSL,hSL,part_app N (t + j) hj (KQ j) hh a (PS j) (FN (t + j) + hh) h1 h2 (by rw [← hFN]; exact HPK.out j) (by rw [hFN]) (HPG.out j (by omega))]
    simp [strV]
  have HPA:Hid (∀ j (hj:t + j < N.length) (a1 b1:Nat),a1 ≤ b1 → b1 ≤ N[t + j].length → ∀ W,Lay W → Calls Tryz.prog 47 #[ndV B N (t + j),.int .i64 (a1:Int),.int .i64 (b1:Int)] W fun e w'=>(∃ P c,e=.returned (.slice P (b1 - a1) c)∧DRow (fun k=>W.heap.size ≤ k) w' (.slice P (b1 - a1) c) (strV ((N[t + j].take b1).drop a1)))∧Below W.heap.size W w'):=fun j hj a1 b1 h1 h2 W hW=>by
    have:=part_any N[t + j] (fit_node hI (List.getElem_mem hj)) (QM.lg B N[t + j]) a1 b1 h1 h2 W hW
    unfold ndV; rw [QM.getD_at N _ hj]; exact this
  have HBD:Hid (∀ j,j < N.length - t → PS j ≤ z → ∃ (PK:ByteArray) (LG:Bool) (LX hh s1 mm l2:Nat) (NW:List Value),ndV B N (t + j)=.agg #[.string PK,.int .i64 (LX:Int),.bool LG]∧PK=packN (N.getD (t + j) [])∧LX=(N.getD (t + j) []).length∧LG=QM.lg B (N.getD (t + j) [])∧(∀ W,Lay W → Calls Tryz.prog 47 #[.agg #[.string PK,.int .i64 (LX:Int),.bool LG],.int .i64 (KQ j:Int),.int .i64 (hh:Int)] W fun e w'=>(∃ P c,e=.returned (.slice P mm c)∧DRow (fun k=>W.heap.size ≤ k) w' (.slice P mm c) NW)∧Below W.heap.size W w')∧IntKind.i64.wrap ((KQ j:Int) + ((z + 1 - PS j:Nat):Int))=(s1:Int)∧min (LX:Int) (s1:Int)=(hh:Int)∧IntKind.i64.wrap (((z + 1 - PS j:Nat):Int) - (mm:Int))=(l2:Int)∧NW.length=mm∧(∀ u ∈ NW,u.oneCell'=true)∧(PS j - a) + mm ≤ z + 1 - a∧0 < mm∧SL (PS j + mm)=SL (PS j) ++ NW∧(l2=0 → PS j + mm=z + 1∧PS j - a + mm=z + 1 - a)∧(l2 ≠ 0 → PS (j + 1)=PS j + mm∧KQ (j + 1)=0∧z + 1 - PS (j + 1)=l2∧PS (j + 1) ≤ z∧PS j - a + mm=PS (j + 1) - a)):=fun j hj hpz=>by
    have htj:t + j < N.length:=by omega
    have hgd:=QM.getD_at N (t + j) htj
    have hkx:=HKX.out j htj
    have hpk:=HPK.out j
    have hfs:=HFS.out (t + j) htj
    have hpg:=HPG.out j hj
    obtain ⟨hk1,hp1⟩:=HK1.out j
    have hPAj:=HPA.out j htj
    have hAPj:=HAP.out j htj
    refine ⟨packN (N.getD (t + j) []),QM.lg B (N.getD (t + j) []),(N.getD (t + j) []).length,min N[t + j].length (KQ j + (z + 1 - PS j)),KQ j + (z + 1 - PS j),min N[t + j].length (KQ j + (z + 1 - PS j)) - KQ j,(z + 1 - PS j) - (min N[t + j].length (KQ j + (z + 1 - PS j)) - KQ j),strV ((N[t + j].take (min N[t + j].length (KQ j + (z + 1 - PS j)))).drop (KQ j)),rfl,rfl,rfl,rfl,?_⟩
    rw [hgd]
    have hLX2:N[t + j].length ≤ 4096:=Nat.le_trans (hI.few _ (List.getElem_mem htj)) hI.le.2
    have hone:=one_str ((N[t + j].take (min N[t + j].length (KQ j + (z + 1 - PS j)))).drop (KQ j))
    unfold ndV at hPAj
    rw [hgd] at hPAj
    generalize packN N[t + j]=PK at *
    generalize QM.lg B N[t + j]=LG at *
    generalize N[t + j]=X at *
    obtain ⟨LX,hLX⟩:∃ LX,X.length=LX:=⟨_,rfl⟩
    have HLX:Hid (X.length=LX):=hLX
    simp only [hLX] at hkx hfs hLX2 hPAj hAPj hone ⊢
    obtain ⟨hh,hhh⟩:∃ hh,min LX (KQ j + (z + 1 - PS j))=hh:=⟨_,rfl⟩
    simp only [hhh] at hone ⊢
    have hzF1:z < 1000:=by omega
    refine ⟨fun W hW=>hPAj (KQ j) hh (by omega) (by omega) W hW,by rw [IntKind.wrap_i64] <;> omega,by omega,by rw [IntKind.wrap_i64] <;> omega,by rw [List.length_map,List.length_drop,List.length_take,HLX.out]; omega,hone,by omega,by omega,?_,fun h=>⟨by omega,by omega⟩,fun h=>?_⟩
    · have:=hAPj hh (by omega) (by omega)
      rw [show FN (t + j) + hh=PS j + (hh - KQ j) by omega] at this; exact this
    · have h1:hh=LX:=by omega
      have h2:PS (j + 1)=PS j + (hh - KQ j):=by rw [hp1]; omega
      exact ⟨h2,hk1,by omega,by omega,by omega⟩
  have HSE:Hid (SL (z + 1)=strV ((N.flatten.take (z + 1)).drop a)):=by show _=_; rw [hSL]
  obtain ⟨F,hF⟩:∃ F,N.flatten.length=F:=⟨_,rfl⟩
  rw [hF] at l2 hl hz hzF HPE
  have hw1:IntKind.i64.wrap ((F:Int) - 1)=(F:Int) - 1:=by rw [IntKind.wrap_i64] <;> omega
  obtain ⟨tot,htot⟩:∃ tot,z + 1 - a=tot:=⟨_,rfl⟩
  have hw2:IntKind.i64.wrap ((z:Int) - (a:Int))=(z:Int) - (a:Int):=by rw [IntKind.wrap_i64] <;> omega
  have hw3:IntKind.i64.wrap ((z:Int) - (a:Int) + 1)=(tot:Int):=by rw [IntKind.wrap_i64] <;> omega
  have hza:¬ ((z:Int) < (a:Int)):=by omega
  rw [← HSE.out,htot]
  obtain ⟨i9,hi9,hz0,hz1,hz2⟩:=info_parts info9
  have HI9:Hid (Tryz.prog.info? 9=some i9∧i9.zero=some (.string ⟨#[]⟩)∧i9.size=1∧i9.bytes=16):=⟨hi9,hz0,hz1,hz2⟩
  clear hi9 hz0 hz1 hz2 h hw hFN hPS hKQ hSL hF hte hqe he hq'
  refine calls_of_wpB (n:=10) Tryz.func18 rfl ?_
  simp only [Tryz.ntmps18,List.size_toArray,List.length_cons,List.length_nil,Nat.reduceAdd,Nat.reduceSub,Array.replicate_succ,Array.replicate_zero,List.push_toArray,List.append_toArray,List.nil_append,List.cons_append]
  refine wpB_then (n:=10) ?_
  gi_wp2
  refine wpB_then (n:=10) ?_
  refine wpIn_wide.2 ?_
  go_region
  show WpB _ _ _ _ _ _
  obtain ⟨wd,hwd⟩:∃ wd,wd=w.drew:=⟨_,rfl⟩
  rw [← hwd]
  have HBd:Hid (Below w.heap.size w wd):=by show Below _ _ _; rw [hwd]; exact (Below.refl _ _).drew
  clear hwd l0 l1 l2 l3 lf
  refine wpB_then (n:=10) ?_
  gi_wp2
  refine wpB_then (n:=10) ?_
  gi_wp2
  obtain ⟨kl,hkl⟩:∃ kl,wd.heap.size=kl:=⟨_,rfl⟩
  obtain ⟨W1,hW1⟩:∃ W1,W1=wd.alloc (.cells #[.int .i64 (tot:Int)] 3):=⟨_,rfl⟩
  rw [← hW1,hkl]
  have HB1:Hid (Below w.heap.size w W1):=by show Below _ _ _; rw [hW1]; exact HBd.out.alloc HBd.out.size _
  have HL1:Hid (W1.heap[kl]?=some (.cells #[.int .i64 (tot:Int)] 3)):=by show _=_; rw [hW1,← hkl]; exact one_alloc wd _
  have HKL:Hid (w.heap.size ≤ kl):=by show _ ≤ _; rw [← hkl]; exact HBd.out.size
  clear hW1 hkl
  obtain ⟨e0,ef⟩:=row1 HL1.out
  refine wpB_then (n:=10) ?_
  gi_wp2_with (gi_at_make; refine wpListIn_make_own _ rfl _ _ 22 rfl w.heap.size 9 i9 (.string ⟨#[]⟩) 1 Tryz.underlying22 HI9.out.1 HI9.out.2.1 HI9.out.2.2.1 .i64 .i64 (tot:Int) tot rfl rfl rfl (by rw [HI9.out.2.2.2]; omega) (by unfold maxLen; omega) HB1.out.size ?_; intro w2 hown2 hgrow2)
  obtain ⟨g9,hg9⟩:∃ g9,W1.heap.size=g9:=⟨_,rfl⟩
  obtain ⟨kL,hkL⟩:∃ kL,w2.heap.size=kL:=⟨_,rfl⟩
  obtain ⟨w3,hw3⟩:∃ w3,w3=w2.alloc (.cells #[.slice (some ⟨W1.heap.size,0,none⟩) 0 tot] 22):=⟨_,rfl⟩
  rw [← hw3,hkL]
  rw [hg9] at hw3 hown2 ⊢
  have hb2:Below W1.heap.size W1 w2:=(Below.refl _ W1).grown hgrow2 (Nat.le_refl _) (fun k hk=>by cases hk)
  have HB2:Hid (Below w.heap.size w w2):=bel_to HB1.out hb2 (Nat.le_refl _)
  have hL2:=keep_row HL1.out hb2
  have hG2:=rown_form hown2
  have hbw:Below w2.heap.size w2 w3:=by rw [hw3]; exact (Below.refl _ _).alloc (Nat.le_refl _) _
  have HB3:Hid (Below w.heap.size w w3):=bel_to HB2.out hbw (Nat.le_refl _)
  have HL3:Hid (w3.heap[kl]?=some (.cells #[.int .i64 (tot:Int)] 3)):=keep_row hL2 hbw
  have HG3:Hid (∃ cur,w3.heap[g9]?=some (.cells cur 9)∧cur.size=tot∧cur.toList.take 0=[]):=by
    obtain ⟨cur,h1,h2,h3⟩:=hG2
    exact ⟨cur,keep_row h1 hbw,h2,h3⟩
  have HK3:Hid (w3.heap[kL]?=some (.cells #[.slice (some ⟨g9,0,none⟩) 0 tot] 22)):=by show _=_; rw [hw3,← hkL]; exact one_alloc w2 _
  have HD3:Hid (w.heap.size ≤ g9∧w.heap.size ≤ kL∧g9 ≠ kL∧g9 ≠ kl∧kL ≠ kl):=by
    obtain ⟨cur,h1,_,_⟩:=hG2
    have h2:=row_lt h1
    have h3:=row_lt HL1.out
    have h4:=HB1.out.size
    have h5:=hb2.size
    exact ⟨by omega,by omega,by omega,by omega,by omega⟩
  clear hw3 hbw hb2 hown2 hgrow2 hg9 hkL hL2 hG2 e0 ef
  refine wpB_then (n:=10) ?_
  gi_wp2_with fail
  refine ⟨trivial,(callsIn_wide.2 (HFD.out w3 HB3.out)).mono ?_⟩
  rintro e w4 ⟨rfl,hb4⟩
  have HB4:Hid (Below w3.heap.size w3 w4):=hb4
  clear hb4
  gi_wp2
  obtain ⟨kp,hkp⟩:∃ kp,w4.heap.size=kp:=⟨_,rfl⟩
  obtain ⟨w5,hw5⟩:∃ w5,w5=w4.alloc (.cells #[.int .i64 0,.int .i64 (t:Int),.int .i64 (q:Int)] 65):=⟨_,rfl⟩
  rw [← hw5,hkp]
  have hb5:Below w4.heap.size w4 w5:=by rw [hw5]; exact (Below.refl _ _).alloc (Nat.le_refl _) _
  have HB5:Hid (Below w3.heap.size w3 w5):=bel_to HB4.out hb5 (Nat.le_refl _)
  have HP5:Hid (w5.heap[kp]?=some (.cells #[.int .i64 0,.int .i64 (t:Int),.int .i64 (q:Int)] 65)):=by show _=_; rw [hw5,← hkp]; exact one_alloc _ _
  clear hw5 hkp hb5
  obtain ⟨p0,p1,p2,pf⟩:=row3 HP5.out
  refine wpB_then (n:=10) ?_
  gi_wp2
  obtain ⟨kk,hkk⟩:∃ kk,w5.heap.size=kk:=⟨_,rfl⟩
  obtain ⟨w6,hw6⟩:∃ w6,w6=w5.alloc (.cells #[.int .i64 (q:Int)] 3):=⟨_,rfl⟩
  rw [← hw6,hkk]
  have hb6:Below w5.heap.size w5 w6:=by rw [hw6]; exact (Below.refl _ _).alloc (Nat.le_refl _) _
  have HB6:Hid (Below w3.heap.size w3 w6):=bel_to HB5.out hb6 (Nat.le_refl _)
  have HP6:Hid (w6.heap[kp]?=some (.cells #[.int .i64 0,.int .i64 (t:Int),.int .i64 (q:Int)] 65)):=keep_row HP5.out hb6
  have HQ6:Hid (w6.heap[kk]?=some (.cells #[.int .i64 (q:Int)] 3)):=by show _=_; rw [hw6,← hkk]; exact one_alloc _ _
  have HD6:Hid (w3.heap.size ≤ kk):=by show _ ≤ _; rw [← hkk]; exact HB5.out.size
  clear hw6 hkk hb6 p0 p1 p2 pf
  obtain ⟨p0,p1,p2,pf⟩:=row3 HP6.out
  have HBW6:Hid (Below w.heap.size w w6):=bel_to HB3.out HB6.out (Nat.le_refl _)
  refine wpB_seq (wpB_then (n:=10) ?_)
  gi_wp2_with fail
  refine ⟨trivial,(callsIn_wide.2 (walkQ_any t q false w6 (HL.out.on HBW6.out))).mono ?_⟩
  rintro e w7 ⟨rfl,hx7,hb7⟩
  obtain ⟨bx,hbx⟩:∃ bx,w6.heap.size=bx:=⟨_,rfl⟩
  rw [hbx] at hx7 ⊢
  have HX7:Hid (WB b0 g r c rest nv E B N t q bx false w7):=hx7
  have HBX:Hid (w6.heap.size=bx):=hbx
  have HB7:Hid (Below w3.heap.size w3 w7):=bel_to HB6.out hb7 (Nat.le_refl _)
  have HBW7:Hid (Below w.heap.size w w7):=bel_to HB3.out HB7.out (Nat.le_refl _)
  have HQ7:Hid (w7.heap[kk]?=some (.cells #[.int .i64 (q:Int)] 3)):=keep_row HQ6.out hb7
  clear hx7 hb7 hbx p0 p1 p2 pf
  gi_wp2
  refine wpB_block ?_
  have HSQ:Hid _:=walkQ_seq (b0:=b0) (g:=g) (r:=r) (c:=c) (rest:=rest) (nv:=nv) (E:=E) (B:=B) (N:=N) 9 t q bx w7.heap.size false pch ht hln
  have hcq:cntQ false N.length t=N.length - t:=by unfold cntQ; simp
  rw [hcq] at HSQ
  have HDS:Hid (w.heap.size ≤ kl∧w.heap.size ≤ g9∧w.heap.size ≤ kL∧w.heap.size ≤ kk∧g9 ≠ kL∧g9 ≠ kl∧kL ≠ kl∧kk ≠ kl∧kk ≠ kL∧kk ≠ g9∧kl < w7.heap.size∧kL < w7.heap.size∧kk < w7.heap.size∧g9 < w7.heap.size∧(∀ y,y=bx ∨ y=bx + 1 ∨ y=bx + 1 + 1 → y ≠ kl∧y ≠ kL∧y ≠ kk∧y ≠ g9)):=by
    obtain ⟨h1,h2,h3,h4,h5⟩:=HD3.out
    obtain ⟨cur,hg,_,_⟩:=HG3.out
    have q1:=row_lt hg
    have q2:=row_lt HK3.out
    have q3:=row_lt HL3.out
    have q4:=HB7.out.size
    have q5:=row_lt HQ6.out
    have q6:=HD6.out
    have q7:=row_lt HX7.out.x0
    have q8:=HKL.out
    have q9:=HB3.out.size
    have qk:=row_lt HQ7.out
    refine ⟨by omega,by omega,by omega,by omega,h3,h4,h5,by omega,by omega,by omega,by omega,by omega,by omega,by omega,fun y hy=>?_⟩
    have:w6.heap.size ≤ bx:=by rw [← HBX.out]; exact Nat.le_refl _
    have q10:=HB6.out.size
    refine ⟨by omega,by omega,by omega,by omega⟩
  have HR0:Hid (RS g t q kl kL kk g9 bx tot 0 tot q [] w w7):=by
    obtain ⟨cur,h1,h2,h3⟩:=HG3.out
    exact ⟨⟨cur,keep_row h1 HB7.out,h2,h3⟩,keep_row HK3.out HB7.out,keep_row HL3.out HB7.out,HQ7.out,HX7.out.x0,HX7.out.x1,HX7.out.x2,HBW7.out⟩
  refine WpB_act (fun a0 ha0=>?_)
  refine wpB_range (n:=10) (α:=Nat) (encs:=fun i=>#[ndV B N i]) (L:=wkQ false t (N.length - t)) (bad:=false) (pch:=pch) (box:=WB b0 g r c rest nv E B N t q bx false) Tryz.func18 (gf:=85) (lb:=#[ptr (bx + 1),ptr bx,ptr (bx + 1 + 1)]) (by rw [ha0]; rfl) (enters_of Tryz.func85 (by kernel_rfl) rfl) HSQ.out (fun _=>rfl)
    (fun pre W=>RS g t q kl kL kk g9 bx tot (PS pre.length - a) (z + 1 - PS pre.length) (KQ pre.length) (SL (PS pre.length)) w W∧PS pre.length ≤ z)
    (fun cd pre W=>cd=.exit 0∧(∃ cur,W.heap[g9]?=some (.cells cur 9)∧cur.size=tot∧cur.toList.take tot=SL (z + 1))∧W.heap[kL]?=some (.cells #[.slice (some ⟨g9,0,none⟩) tot tot] 22)∧Below w.heap.size w W)
    (fun _=>False)
    ?hI ?hIx (fun _ _ _ _ hs _ _=>hs) ?hbox ?h0
    (fun (x:Nat) (a':Act) (W:World)=>∃ kn:Nat,a'={ tmps:=(a0.tmps.setIfInBounds 39 (ndV B N x)).setIfInBounds 11 (.pointer (some ⟨kn,0,none⟩)),defers:=[] }∧W.heap[kn]?=some (.cells #[.string (packN (N.getD x [])),.int .i64 ((N.getD x []).length:Int),.bool (QM.lg B (N.getD x []))] 55)) ?hAx ?assign ?body ?done ?stop ?pan
  case hI =>
    rintro s A B row ⟨⟨⟨cur,h1,h2,h3⟩,h4,h5,h6,h7,h8,h9,h10⟩,h11⟩ hg hr
    exact ⟨⟨⟨cur,own_row h1 hg hr,h2,h3⟩,own_row h4 hg hr,own_row h5 hg hr,own_row h6 hg hr,own_row h7 hg hr,own_row h8 hg hr,own_row h9 hg hr,ownFrom_below (β:=Unit) (Nat.le_refl _) HBW7.out.size () A B row h10 hg hr⟩,h11⟩
  case hIx =>
    rintro cd s A B row ⟨h1,⟨cur,h2,h3,h4⟩,h5,h6⟩ hg hr
    exact ⟨h1,⟨cur,own_row h2 hg hr,h3,h4⟩,own_row h5 hg hr,ownFrom_below (β:=Unit) (Nat.le_refl _) HBW7.out.size () A B row h6 hg hr⟩
  case hbox =>
    rintro pre W ⟨h1,_⟩
    exact ⟨h1.x0,h1.x1,h1.x2,HL.out.on h1.bel⟩
  case h0 =>
    have h0:=HP0.out
    refine ⟨?_,by rw [List.length_nil,h0.1]; exact haz⟩
    rw [List.length_nil,h0.1,h0.2.1,h0.2.2,Nat.sub_self,htot]
    exact HR0.out
  case hAx =>
    rintro x a' s A B row ⟨kn,h1,h2⟩ hg hr
    exact ⟨kn,h1,own_row h2 hg hr⟩
  case pan=>intro D W _ h; rcases h with h | ⟨h,_⟩; exact h.elim; cases h
  case assign =>
    intro ll pre x W K hpre hI hK
    have HKK:Hid _:=hK
    clear hK hI
    have HA0:Hid _:=ha0
    rw [ha0]
    unfold ndV
    simp only [List.zip_toArray,List.zip_cons_cons,List.zip_nil_right,List.foldl_toArray,List.foldl_cons,List.foldl_nil,List.setIfInBounds_toArray,List.set_cons_zero,List.set_cons_succ]
    clear ha0
    gi_wp2
    refine HKK.out _ _ ((Below.refl _ W).alloc (Nat.le_refl _) _) ⟨W.heap.size,?_,?_⟩
    · rw [HA0.out]; rfl
    · exact one_alloc W _
  case stop =>
    rintro D cd pre W hD hpre ⟨rfl,⟨cur,hG,hGs,hGt⟩,hK,hb⟩ hDr
    rw [ha0]
    obtain ⟨i0,if0⟩:=row1 hK
    have HG:Hid _:=hG
    have HGT:Hid _:=hGt
    have HGS:Hid _:=hGs
    have HDR:Hid _:=hDr
    have HB:Hid (Below w.heap.size w W):=hb
    have HLM:Hid (tot ≤ maxLen):=by show _ ≤ _; unfold maxLen; omega
    clear ha0 hb hDr hK hG hGt hGs
    refine wpB_of (n:=10) ?_
    gi_wp2
    refine wpB_then (n:=10) ?_
    gi_wp2
    refine wpB_of (n:=10) ?_
    gi_wp2
    refine ⟨by simp,.inl ⟨_,_,rfl,run_takeDeferred HDR.out,?_⟩⟩
    have h1:g9 ≠ D:=by rintro rfl; have:=HDR.out; rw [HG.out] at this; cases this
    refine ⟨.slice (some ⟨g9,0,none⟩) tot tot,?_,⟨_,rfl,rown_mk HDS.out.2.1 (Nat.le_refl _) HLM.out (put_keep HG.out h1) HGS.out HGT.out,put_below HB.out (by have:=HBW7.out.size; omega)⟩⟩
    simp [results,Tryz.results18,go_sem]
  case done =>
    rintro D W hD _ ⟨_,hp⟩ hDr
    exfalso
    have hwl:(wkQ false t (N.length - t)).length=N.length - t:=by simp [wkQ]
    rw [hwl] at hp
    rcases HPE.out with h | h
    · omega
    · omega
  case body =>
    rintro ll pre x a' W hll hpre ⟨hRS,hpz⟩ ⟨kn,ha',hrow⟩
    obtain ⟨hj,hx⟩:=wkQ_pre hpre
    have hx':x=t + pre.length:=by rw [hx]; unfold curQ; simp
    clear hx
    subst hx'
    obtain ⟨PK,LG,LX,hh,s1,mm,l2,NW,e1,e2,e3,e4,e5,e6,e7,e8,e9,e10,e11,e12,e13,e14,e15⟩:=HBD.out pre.length hj hpz
    rw [← e2,← e3,← e4] at hrow
    rw [e1] at ha'
    subst ha'
    subst ha0
    have hl2:(pre ++ [t + pre.length]).length=pre.length + 1:=by simp
    refine rng_body 8 ll w7.heap.size t q kl kL kk g9 bx tot (PS pre.length - a) (z + 1 - PS pre.length) (KQ pre.length) kn hh s1 mm l2 LX PK LG (SL (PS pre.length)) NW w W _ _ _ _ _ _ _ _ _ _ _ _ _ _ _ _ _ _ _ _ _ _ _ _ _ _ _ _ _ _ _ _ _ _ _ _ _ _ _ _ _ _ _ _ _ _ _ _ _ _ _ _ _ _ _ _ _ _ _ hRS hrow (e5 W (HW.out.on hRS.bel)) e6 e7 e8 e9 e10 (by rw [← htot]; exact e11) e12 (by omega) ⟨HDS.out.1,HDS.out.2.1,HDS.out.2.2.1,HDS.out.2.2.2.1,HDS.out.2.2.2.2.1,HDS.out.2.2.2.2.2.1,HDS.out.2.2.2.2.2.2.1,HDS.out.2.2.2.2.2.2.2.1,HDS.out.2.2.2.2.2.2.2.2.1,HDS.out.2.2.2.2.2.2.2.2.2.1,HDS.out.2.2.2.2.2.2.2.2.2.2.1,HDS.out.2.2.2.2.2.2.2.2.2.2.2.1,HDS.out.2.2.2.2.2.2.2.2.2.2.2.2.1,HDS.out.2.2.2.2.2.2.2.2.2.2.2.2.2.1⟩ HDS.out.2.2.2.2.2.2.2.2.2.2.2.2.2.2 ?_ ?_
    · intro h0 W' hW'
      obtain ⟨q1,q2,q3,q4,q5⟩:=e15 h0
      rw [hl2]
      refine ⟨?_,q4⟩
      rw [q2,q3,← q5,q1,e13]; exact hW'
    · intro h0 W' hW'
      obtain ⟨q1,q2⟩:=e14 h0
      rw [q2,htot,← e13,q1] at hW'
      obtain ⟨cur,c1,c2,c3⟩:=hW'.own
      exact ⟨rfl,⟨cur,c1,c2,c3⟩,hW'.lst,hW'.bel⟩
end
end Go.Proofs.YtijambehfobopaaGreatDoor
