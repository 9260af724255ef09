import Derived.Test.YtijambehfobopaaGreatDoorWAR
import Derived.Test.YtijambehfobopaaGreatDoorQmH
import Derived.Test.YtijambehfobopaaGreatDoorQNw
import Derived.Test.YtijambehfobopaaGreatDoorWAS
import Derived.Test.YtijambehfobopaaGreatDoorWAT
import Derived.Deep.RegionHeld3
namespace Go.Proofs.YtijambehfobopaaGreatDoor
open Go.RowKit
set_option linter.unusedVariables false
set_option linter.unusedSimpArgs false
theorem cntN_all (S:List RwD) (ns:List Nd):cntN (allN S ns)=cntS S + cntN ns:=by
  unfold allN
  rw [cntN_app]
  congr 1
  induction S with
  | nil=>rfl
  | cons r S ih=>rw [List.map_cons,List.flatten_cons,cntN_app,ih]; simp [cntS]
theorem LM.start {W:World} {b0 g r E B:Nat} (h:LS W b0 g r 1 [] (.slice none 0 0) E B (nds B [])):LM W b0 g r 1 [] (.slice none 0 0) E B []:=
  ⟨h.hd,⟨rfl,Or.inr ⟨r,1,_,rfl,h.hr,h.rw_,Nat.le_refl _,by unfold maxLen; omega,rfl,rfl⟩⟩,fun r hr=>absurd hr (by simp),Or.inl ⟨rfl,rfl⟩,fun r hr=>absurd hr (by simp),h.hg⟩
theorem fr_bel {b:Nat} {w a w':World} {P:Nat → Prop} (hb:Below b w a) (hf:Fr a w' P) (hp:∀ k,P k → b ≤ k) (hs:b ≤ w.heap.size):Below b w w':=
  ⟨hf.os.trans hb.os,hf.tape.trans hb.tape,hf.output.trans hb.output,Nat.le_trans hb.size hf.size,fun k hk=>(hf.block k (Nat.lt_of_lt_of_le hk (Nat.le_trans hs hb.size)) (fun e=>absurd (hp k e) (by omega))).trans (hb.block k hk)⟩
/-- a list in memory whose nodes are those of N. -/
def LN (W:World) (b0 g E B:Nat) (N:QM.NL):Prop:=∃ rb rc S lv ns,LM W b0 g rb rc S lv E B ns∧allN S ns=nds B N∧S.length ≤ N.length∧ns.length ≤ 1024
/-- what a call that adds a node does. -/
def ChM (a w':World) (b0 g rb:Nat) (S:List RwD) (lv:Value) (E B:Nat) (N:QM.NL):Prop:=LN w' b0 g E B N∧Fr a w' (fun k=>LMb g rb S lv k)
set_option maxHeartbeats 8000000 in
set_option maxRecDepth 100000 in
/-- Load of nodes,the first of which may be nodes of a list: all of them,or all ahead of one that may not. -/
theorem LoadM (E B:Nat) (hm:mayB (E:Int) (B:Int)=true) (N:QM.NL) (ps:List ByteArray) (hN:∀ X ∈ N,goodX E B X) (hl:N.flatten.length ≤ 1048576) (hln:ps.length ≤ 8796093022208) (hsz:∀ p ∈ ps,p.size ≤ 281474976710656) (hle:N.length ≤ ps.length) (hps:∀ j (hj:j < N.length),ps[j]'(by omega)=packN N[j]) (hbad:∀ h:N.length < ps.length,¬ goodP E B ps[N.length] ∨ ∃ X,ps[N.length]=packN X∧goodX E B X∧1048576 < N.flatten.length + X.length)
    (P:Option Addr) (cc:Nat) (w:World) (hw:Lay w) (hrow:∀ j (hj:j < ps.length),∃ Y,P=some ⟨Y,0,none⟩∧w.cell? ⟨Y,j,none⟩=some (.string ps[j])) :
    Calls Tryz.prog 5 #[.int .i64 (E:Int),.int .i64 (B:Int),.slice P ps.length cc] w fun e w'=>(if N.length=ps.length then ∃ g,e=.returned (.tuple #[ptr g,.int .i64 0])∧LN w' w.heap.size g E B N else e=.returned (.tuple #[.pointer none,.int .i64 70]))∧Below w.heap.size w w':=by
  obtain ⟨Q,hQ⟩:∃ Q:Ending → World → Prop,Q=fun e w'=>if N.length=ps.length then ∃ g,e=.returned (.tuple #[ptr g,.int .i64 0])∧LN w' w.heap.size g E B N else e=.returned (.tuple #[.pointer none,.int .i64 70]):=⟨_,rfl⟩
  have hQ1:∀ g w',N.length=ps.length → LN w' w.heap.size g E B N → Q (.returned (.tuple #[ptr g,.int .i64 0])) w':=fun g w' h h2=>by rw [hQ]; show (if N.length=ps.length then _ else _); rw [if_pos h]; exact ⟨g,rfl,h2⟩
  have hQ2:∀ w',¬ N.length=ps.length → Q (.returned (.tuple #[.pointer none,.int .i64 70])) w':=fun w' h=>by rw [hQ]; show (if N.length=ps.length then _ else _); rw [if_neg h]
  suffices hs:Calls Tryz.prog 5 #[.int .i64 (E:Int),.int .i64 (B:Int),.slice P ps.length cc] w fun e w'=>Q e w'∧Below w.heap.size w w' by rw [hQ] at hs; exact hs
  clear hQ
  have hEB:E ≤ 4096∧B ≤ 4096:=by unfold mayB at hm; simp at hm; omega
  have hE:=hEB.1
  have hB:=hEB.2
  have HW:Hid (Lay w):=hw
  have HGX:Hid (∀ X ∈ N,goodX E B X):=hN
  have HR:Hid _:=hrow
  have HPS:Hid (∀ j (hj:j < N.length),ps[j]'(by omega)=packN N[j]):=hps
  have HBAD:Hid (∀ h:N.length < ps.length,¬ goodP E B ps[N.length] ∨ ∃ X,ps[N.length]=packN X∧goodX E B X∧1048576 < N.flatten.length + X.length):=hbad
  have hNl:N.length ≤ 1048576:=Nat.le_trans (QM.len_le (fun X hX e0=>by
    have h9:=(hN X hX).2.1
    rw [e0] at h9
    simp at h9)) hl
  have HSZ:Hid (∀ p ∈ ps,p.size ≤ 281474976710656):=hsz
  have HN:Hid _:=New_yes E B hm w
  have HNL:Hid (N.flatten.length ≤ 1048576):=hl
  obtain ⟨n,hn⟩:∃ n,ps.length=n:=⟨_,rfl⟩
  have HNN:Hid (ps.length=n):=hn
  obtain ⟨n1,hn1⟩:∃ n,N.length=n:=⟨_,rfl⟩
  have HN1:Hid (N.length=n1):=hn1
  rw [hn1,hn] at hQ1 hQ2
  have HQ1:Hid (∀ g w',n1=n → LN w' w.heap.size g E B N → Q (.returned (.tuple #[ptr g,.int .i64 0])) w'):=hQ1
  have HQ2:Hid (∀ w',¬ n1=n → Q (.returned (.tuple #[.pointer none,.int .i64 70])) w'):=hQ2
  rw [hn1] at hle hNl
  rw [hn] at hle hln ⊢
  clear hQ1 hQ2 hw hN hrow hps hbad hsz hm hl hn hn1 hEB
  go_enter Tryz.func5,Tryz.ntmps5
  go_wp2_with fail
  refine (show Calls _ _ _ _ _ from HN.out).mono ?_
  rintro e w1 ⟨g,r,rfl,hL1,hb1⟩
  have HL1:Hid (LM w1 w.heap.size g r 1 [] (.slice none 0 0) E B []):=LM.start hL1
  have HB1:Hid (Below w.heap.size w w1):=hb1
  clear hL1 hb1
  go_wp2
  go_loopw [25] (fun ci wr=>∃ (i rb rc:Nat) (S:List RwD) (lv:Value) (ns:List Nd),(i ≤ n1∧LM wr w.heap.size g rb rc S lv E B ns∧allN S ns=nds B (N.take i)∧ns.length ≤ 1024∧S.length ≤ i∧Below w.heap.size w wr)∧ci=.int .i64 (i:Int)) (fun ci _=>n - (intOf ci).toNat)
  case atStart=>exact ⟨0,r,1,[],_,[],⟨by omega,HL1.out,rfl,by simp,by simp,HB1.out⟩,rfl⟩
  case round =>
    obtain ⟨i,rb,rc,S,lv,ns,⟨hi,hL,hal,hns,hSl,hb⟩,rfl⟩:=hrel
    have HL:Hid (LM wr w.heap.size g rb rc S lv E B ns):=hL
    have HB:Hid (Below w.heap.size w wr):=hb
    have HAL:Hid (allN S ns=nds B (N.take i)):=hal
    have hcn:cntS S + cntN ns=(N.take i).flatten.length:=by rw [← cntN_all,hal,cnt_nds]
    have htf:(N.take i).flatten.length ≤ N.flatten.length:=by
      conv=>rhs; rw [← List.take_append_drop i N]
      rw [List.flatten_append,List.length_append]; omega
    have hK0:cntS S + cntN ns ≤ 1048576:=by have:=HNL.out; omega
    obtain ⟨l0,l1,l2,l3,lf⟩:=lrow4 hL.hd
    by_cases hlt:i < n
    · have hix:i < ps.length:=by rw [HNN.out]; exact hlt
      obtain ⟨Y,hP,y0⟩:=HR.out i hix
      subst hP
      have y0:=cell_on y0 hb
      have hz0:(0:Int) ≤ (i:Int):=by omega
      have hz1:(i:Int) < (n:Int):=by omega
      by_cases hgd:i < n1
      · have hiN:i < N.length:=by rw [HN1.out]; exact hgd
        have hpe:=HPS.out i hiN
        rw [hpe] at y0
        have hxm:N[i] ∈ N:=List.getElem_mem _
        have hgx:=HGX.out _ hxm
        have HRE:Hid (Calls Tryz.prog 20 #[.agg #[.int .i64 (E:Int),.int .i64 (B:Int)],.string (packN N[i])] wr fun e w'=>e=.returned (.tuple #[.agg #[.string (packN N[i]),.int .i64 (N[i].length:Int),.bool (QM.lg B N[i])],.bool true])∧Below wr.heap.size wr w'):=read_good E B hE hB N[i] hgx wr (HW.out.on hb)
        have hne:1 ≤ N[i].length:=hgx.2.1
        have hfe:N[i].length ≤ E:=hgx.2.2.1
        have htk:(N.take (i + 1)).flatten.length=(N.take i).flatten.length + N[i].length:=by rw [List.take_succ_eq_append_getElem hiN,List.flatten_append,List.length_append]; simp
        have htf2:(N.take (i + 1)).flatten.length ≤ N.flatten.length:=by
          conv=>rhs; rw [← List.take_append_drop (i + 1) N]
          rw [List.flatten_append,List.length_append]; omega
        have hK1:cntS S + cntN ns + N[i].length ≤ 1048576:=by have:=HNL.out; omega
        have HGA:Hid (∀ W,LM W w.heap.size g rb rc S lv E B ns → Calls Tryz.prog 22 #[ptr g,.bool false] W fun e w'=>e=.returned (plR S.length ns.length)∧Below W.heap.size W w'):=fun W hW=>gapM (by omega) (by omega) W hW
        have HNS:Hid (allN S ns ++ [ndOf B N[i]]=nds B (N.take (i + 1))):=by
          show _=_
          rw [hal,List.take_succ_eq_append_getElem hiN]; unfold nds; rw [List.map_append]; rfl
        have HRP:Hid (∀ a a5 X,Below wr.heap.size wr a → Below a.heap.size a a5 → NX a5 X 1 [(packN N[i],N[i].length,QM.lg B N[i])] → a.heap.size ≤ X → Calls Tryz.prog 21 #[ptr g,plR S.length ns.length,.int .i64 0,.slice (some ⟨X,0,none⟩) 1 1] a5 fun e w'=>e=.returned (.tuple #[])∧ChM a w' w.heap.size g rb S lv E B (N.take (i + 1))):=fun a a5 X ha hba hX hXs=>by
          have hLa:=HL.out.on ha
          refine (replaceM ns.length 0 X (packN N[i],N[i].length,QM.lg B N[i]) rfl rfl a5 (hLa.on hba) (by omega) hns (by show _ + N[i].length ≤ _; omega) hne hX (fun hk=>by have:=(hLa.lt X hk).1; omega)).mono ?_
          rintro e w' ⟨rfl,rb',rc',S',lv',ns',q1,q2,⟨q3,q4,q5⟩,q6⟩
          refine ⟨rfl,⟨rb',rc',S',lv',ns',q1,q2.trans HNS.out,by rw [List.length_take]; omega,q4⟩,?_⟩
          exact ⟨q6.os.trans hba.os,q6.tape.trans hba.tape,q6.output.trans hba.output,Nat.le_trans hba.size q6.size,fun k hk hn=>(q6.block k (Nat.lt_of_lt_of_le hk hba.size) (fun e=>by rcases e with e | e; exact hn e; omega)).trans (hba.block k hk)⟩
        have HNX:Hid (∀ W:World,NX (W.alloc (.cells #[.string (packN N[i]),.int .i64 (N[i].length:Int),.bool (QM.lg B N[i])] 55)) W.heap.size 1 [(packN N[i],N[i].length,QM.lg B N[i])]):=fun W=>nx_one W (packN N[i],N[i].length,QM.lg B N[i])
        obtain ⟨K,hK⟩:∃ K,cntS S + cntN ns=K:=⟨_,rfl⟩
        rw [hK] at l2 hK0 hK1
        have HKK:Hid (cntS S + cntN ns=K):=hK
        have HLT:Hid (∀ k,LMb g rb S lv k → k < wr.heap.size∧w.heap.size ≤ k):=fun k hk=>hL.lt k hk
        clear hK hxm hgx hpe htk htf2 htf hcn hal HNS
        generalize packN N[i]=PK at *
        generalize N[i].length=CN at *
        generalize QM.lg B N[i]=LG at *
        have hiw:IntKind.i64.wrap ((i:Int) + 1)=(i:Int) + 1:=by rw [IntKind.wrap_i64] <;> omega
        obtain ⟨Z,hZ⟩:∃ Z:Int,(K:Int) + (CN:Int)=Z:=⟨_,rfl⟩
        have hsw:IntKind.i64.wrap ((K:Int) + (CN:Int))=Z:=by rw [IntKind.wrap_i64] <;> omega
        have hS1:¬ (Z > 1048576):=by omega
        obtain ⟨SL,hSLe⟩:∃ SL,S.length=SL:=⟨_,rfl⟩
        obtain ⟨NL,hNLe⟩:∃ NL,ns.length=NL:=⟨_,rfl⟩
        rw [hSLe,hNLe] at HGA HRP
        clear hL hb hZ hSLe hNLe hns hSl
        go_wp2_with fail
        refine (show Calls _ _ _ _ _ from HRE.out).mono ?_
        rintro e w2 ⟨rfl,hb2⟩
        have hwy:Below wr.heap.size wr (w2.alloc (.cells #[.string PK,.int .i64 (CN:Int),.bool LG] 55)):=hb2.alloc hb2.size _
        have hpy:=one_alloc w2 (.cells #[.string PK,.int .i64 (CN:Int),.bool LG] 55)
        have HK2:Hid (wr.heap.size ≤ w2.heap.size):=hb2.size
        clear hb2 l0 l1 l2 l3 lf y0
        go_upto_region 8 with fail
        generalize w2.alloc (.cells #[.string PK,.int .i64 (CN:Int),.bool LG] 55)=y at *
        have HBY:Hid (∀ W,Below y.heap.size y W → Below wr.heap.size wr W):=fun W hW=>bel_to hwy hW (Nat.le_refl _)
        have HYL:Hid (w2.heap.size < y.heap.size):=row_lt hpy
        obtain ⟨l0,l1,l2,l3,lf⟩:=lrow4 (HL.out.on hwy).hd
        obtain ⟨p0,p1,p2,pf⟩:=row3 hpy
        rw [HKK.out] at l2
        have HKS:Hid (∀ w':World,Below y.heap.size y w' → w'.cell? ⟨w2.heap.size,0,none⟩=some (.string PK)∧w'.cell? ⟨w2.heap.size,1,none⟩=some (.int .i64 (CN:Int))∧w'.cell? ⟨w2.heap.size,2,none⟩=some (.bool LG)):=fun W hW=>And.intro (cell_on p0 hW) (And.intro (cell_on p1 hW) (cell_on p2 hW))
        have HKC:Hid (∀ (a w':World) (N':QM.NL),Below y.heap.size y a → ChM a w' w.heap.size g rb S lv E B N' → w'.cell? ⟨w2.heap.size,0,none⟩=some (.string PK)∧w'.cell? ⟨w2.heap.size,1,none⟩=some (.int .i64 (CN:Int))∧w'.cell? ⟨w2.heap.size,2,none⟩=some (.bool LG)):=fun a W N' ha hc=>by
          have e:W.heap[w2.heap.size]?=a.heap[w2.heap.size]?:=hc.2.block _ (Nat.lt_of_lt_of_le HYL.out ha.size) (fun hk=>by have:=(HLT.out _ hk).1; have:=HK2.out; omega)
          obtain ⟨q0,q1,q2⟩:=HKS.out a ha
          exact ⟨(World.cell?_of_block (a:=⟨w2.heap.size,0,none⟩) e).trans q0,(World.cell?_of_block (a:=⟨w2.heap.size,1,none⟩) e).trans q1,(World.cell?_of_block (a:=⟨w2.heap.size,2,none⟩) e).trans q2⟩
        clear hwy hpy
        go_quiet (fail)
        have HX3:Hid (Below y.heap.size y (y.drewN nq)):=below_dn (Below.refl _ y) _
        generalize y.drewN nq=D at *
        have hSB:=HKS.out _ HX3.out
        have HXY:Hid (Below y.heap.size y y):=Below.refl _ _
        have HRY:Hid _:=fun a5 X=>HRP.out y a5 X (HBY.out y (Below.refl _ _))
        have HXD:Hid (Below y.heap.size y D.drew):=HX3.out.drew
        have HXA:Hid (Below y.heap.size y (D.alloc (.cells #[.string PK,.int .i64 (CN:Int),.bool LG] 55)).drew):=(HX3.out.alloc HX3.out.size _).drew
        have HND:Hid (NX (D.alloc (.cells #[.string PK,.int .i64 (CN:Int),.bool LG] 55)).drew D.heap.size 1 [(PK,CN,LG)]):=(HNX.out D).on (Below.refl _ _).drew
        have HLD:Hid _:=HL.out.on (HBY.out _ HXD.out)
        have HLA:Hid _:=HL.out.on (HBY.out _ HXA.out)
        clear l0 l1 l2 l3 lf p0 p1 p2 pf
        go_wp2_with fail
        go_region_held3 (fun w':World=>w'.cell? ⟨w2.heap.size,0,none⟩=some (.string PK)∧w'.cell? ⟨w2.heap.size,1,none⟩=some (.int .i64 (CN:Int))∧w'.cell? ⟨w2.heap.size,2,none⟩=some (.bool LG))
          (first | with_reducible exact hSB | with_reducible exact HKS.out _ HXD.out | with_reducible exact HKS.out _ HXA.out | with_reducible exact HKS.out _ hx4 | with_reducible exact HKS.out _ (hx4.alloc hx4.size _) | with_reducible exact HKC.out _ _ _ HXY.out hc5)
          (first | (go_at_call 21; refine Calls.mono (HRY.out _ _ ?_ ?_ ?_) ?_; (any_goals (first | with_reducible exact hx4 | with_reducible exact (hx4.alloc hx4.size _) | with_reducible exact HNX.out _ | with_reducible exact HND.out.on hb4 | with_reducible exact hx4.size | with_reducible exact HX3.out.size | with_reducible exact Nat.le_refl _)); rintro e a6 ⟨rfl,hc5⟩) | (go_at_call 22; refine Calls.mono (HGA.out _ ?_) ?_; (any_goals (first | with_reducible exact HLD.out | with_reducible exact HLA.out)); rintro e a4 ⟨rfl,hb4⟩; have hx4:Below y.heap.size y a4:=by first | with_reducible exact bel_to HXD.out hb4 (Nat.le_refl _) | with_reducible exact bel_to HXA.out hb4 (Nat.le_refl _)))
        all_goals
          have HC5:Hid (ChM y a6 w.heap.size g rb S lv E B (N.take (i + 1))):=hc5
          have HB6:Hid (Below w.heap.size w a6):=fr_bel (bel_to HB.out (HBY.out _ HXY.out) (Nat.le_refl _)) hc5.2 (fun k hk=>(HLT.out k hk).2) (Nat.le_refl _)
          clear hc5 hx4 hb4 hSB
          go_wp2
          obtain ⟨⟨rb',rc',S',lv',ns',q1,q2,q3,q4⟩,_⟩:=HC5.out
          exact ⟨⟨i + 1,rb',rc',S',lv',ns',⟨hgd,q1,q2,q4,by rw [List.length_take] at q3; omega,HB6.out⟩,by congr 1⟩,by simp [intOf]; omega⟩
      · have hie:i=n1:=by omega
        have HNE:Hid (¬ n1=n):=by show ¬ _; omega
        have hNi:N.take i=N:=List.take_of_length_le (by rw [HN1.out]; omega)
        have hbp:¬ goodP E B ps[i] ∨ ∃ X,ps[i]=packN X∧goodX E B X∧1048576 < N.flatten.length + X.length:=by
          have h9:=HBAD.out (by rw [HN1.out,HNN.out]; omega)
          have e:ps[N.length]'(by rw [HN1.out,HNN.out]; omega)=ps[i]:=by congr 1; rw [HN1.out]; exact hie.symm
          rw [e] at h9; exact h9
        have hps:=HSZ.out ps[i] (List.getElem_mem _)
        rw [hNi] at hcn
        rcases hbp with hbp | ⟨X,hpX,hgX,hov⟩
        · have HRE:Hid _:=read_bad E B hE hB ps[i] (by omega) hbp wr (HW.out.on hb)
          generalize ps[i]=PS at *
          clear hL hb hcn htf hal hbp hns hSl hie hNi
          go_wp2_with fail
          refine (show Calls _ _ _ _ _ from HRE.out).mono ?_
          rintro e w2 ⟨s,c,lg,rfl,hb2⟩
          have HB3:Hid (Below w.heap.size w (w2.alloc (.cells #[.string s,.int .i64 (c:Int),.bool lg] 55))):=(bel_to HB.out hb2 (Nat.le_refl _)).alloc (bel_to HB.out hb2 (Nat.le_refl _)).size _
          clear hb2 l0 l1 l2 l3 lf y0
          go_upto_region 8 with fail
          generalize w2.alloc (.cells #[.string s,.int .i64 (c:Int),.bool lg] 55)=y at *
          go_quiet (fail)
          have HX3:Hid (Below w.heap.size w (y.drewN nq)):=below_dn HB3.out _
          generalize y.drewN nq=D at *
          go_wp2
          go_returns
          exact ⟨HQ2.out _ HNE.out,HX3.out⟩
        · rw [hpX] at y0
          have HRE:Hid (Calls Tryz.prog 20 #[.agg #[.int .i64 (E:Int),.int .i64 (B:Int)],.string (packN X)] wr fun e w'=>e=.returned (.tuple #[.agg #[.string (packN X),.int .i64 (X.length:Int),.bool (QM.lg B X)],.bool true])∧Below wr.heap.size wr w'):=read_good E B hE hB X hgX wr (HW.out.on hb)
          have hfe:X.length ≤ E:=hgX.2.2.1
          obtain ⟨K,hK⟩:∃ K,cntS S + cntN ns=K:=⟨_,rfl⟩
          rw [hK] at l2 hK0 hcn
          rw [← hcn] at hov
          have HKK:Hid (cntS S + cntN ns=K):=hK
          generalize packN X=PK at *
          generalize X.length=CN at *
          generalize QM.lg B X=LG at *
          obtain ⟨Z,hZ⟩:∃ Z:Int,(K:Int) + (CN:Int)=Z:=⟨_,rfl⟩
          have hsw:IntKind.i64.wrap ((K:Int) + (CN:Int))=Z:=by rw [IntKind.wrap_i64] <;> omega
          have hS1:(1048576:Int) < Z:=by omega
          clear hL hb hcn htf hal hns hSl hie hNi hpX hgX hK hZ hov
          go_wp2_with fail
          refine (show Calls _ _ _ _ _ from HRE.out).mono ?_
          rintro e w2 ⟨rfl,hb2⟩
          have hwy:Below wr.heap.size wr (w2.alloc (.cells #[.string PK,.int .i64 (CN:Int),.bool LG] 55)):=hb2.alloc hb2.size _
          have hpy:=one_alloc w2 (.cells #[.string PK,.int .i64 (CN:Int),.bool LG] 55)
          clear hb2 l0 l1 l2 l3 lf y0
          go_upto_region 8 with fail
          generalize w2.alloc (.cells #[.string PK,.int .i64 (CN:Int),.bool LG] 55)=y at *
          obtain ⟨l0,l1,l2,l3,lf⟩:=lrow4 (HL.out.on hwy).hd
          obtain ⟨p0,p1,p2,pf⟩:=row3 hpy
          rw [HKK.out] at l2
          have HB3:Hid (Below w.heap.size w y):=bel_to HB.out hwy (Nat.le_refl _)
          clear hwy hpy
          go_quiet (fail)
          have HX3:Hid (Below w.heap.size w (y.drewN nq)):=below_dn HB3.out _
          generalize y.drewN nq=D at *
          go_wp2
          go_returns
          exact ⟨HQ2.out _ HNE.out,HX3.out⟩
    · have hz1:¬ (i:Int) < (n:Int):=by omega
      have hie:i=n:=by omega
      have hn2:n1=n:=by omega
      subst hie
      have hiN:N.take i=N:=List.take_of_length_le (by rw [HN1.out]; omega)
      have HLN:Hid (LN wr w.heap.size g E B N):=⟨rb,rc,S,lv,ns,hL,by rw [hal,hiN],by rw [HN1.out]; omega,hns⟩
      have HN2:Hid (n1=i):=hn2
      clear hL hb hal hcn htf hiN hn2 hns hSl l0 l1 l2 l3 lf
      go_wp2
      go_returns
      exact ⟨HQ1.out g _ HN2.out HLN.out,HB.out⟩
end Go.Proofs.YtijambehfobopaaGreatDoor
