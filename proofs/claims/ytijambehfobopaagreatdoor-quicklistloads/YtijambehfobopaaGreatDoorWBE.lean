import Derived.Test.YtijambehfobopaaGreatDoorQmI
import Derived.Test.YtijambehfobopaaGreatDoorWAT
import Derived.Test.YtijambehfobopaaGreatDoorDmA
import Derived.Test.YtijambehfobopaaGreatDoorSur
import Derived.Deep.RegionHeld3
import Derived.Deep.RegionWith
namespace Go.Proofs.YtijambehfobopaaGreatDoor
open Go.RowKit
set_option linter.unusedVariables false
set_option linter.unusedSimpArgs false
section
variable {ok:Nat → Prop}
set_option maxHeartbeats 2000000 in
set_option maxRecDepth 100000 in
theorem rnodesB (E B:Nat) (v:Value) (N:QM.NL) (hx:∀ x ∈ N,x.length ≤ 4096∧∀ t ∈ x,t.size ≤ 524288) (hn:N.length ≤ 1048576) (w:World) (h:RL ok w v N) :
    Calls Tryz.prog 10 #[rlV E B v] w fun e w'=>∃ v',e=.returned v'∧w'.ownsRow w.heap.size 9 1 v' N.length (pkV N)∧Below w.heap.size w w':=by
  obtain ⟨P,c,rfl⟩:=h.form
  have HL:Hid (RL ok w (.slice P N.length c) N):=h
  obtain ⟨W0,hW0⟩:∃ W0,W0=w.alloc (.cells #[.int .i64 (E:Int),.int .i64 (B:Int),.slice P N.length c] 29):=⟨_,rfl⟩
  have hb0:Below w.heap.size w W0:=by rw [hW0]; exact (Below.refl _ _).alloc (Nat.le_refl _) _
  have hrow:W0.heap[w.heap.size]?=some (.cells #[.int .i64 (E:Int),.int .i64 (B:Int),.slice P N.length c] 29):=by rw [hW0]; exact one_alloc _ _
  have HB0:Hid _:=hb0
  have HR0:Hid _:=hrow
  have HSZ:Hid (w.heap.size ≤ W0.heap.size):=HB0.out.size
  obtain ⟨PN,hPN⟩:∃ PN:Nat → List Value,∀ i,PN i=pkV (N.take i):=⟨_,fun _=>rfl⟩
  have HP0:Hid (PN 0=[]):=by show _=_; rw [hPN]; rfl
  have HPS:Hid (∀ i (hi:i < N.length),PN (i + 1)=PN i ++ [Value.string (packN N[i])]):=fun i hi=>by
    rw [hPN,hPN,takeN_snoc N i hi]; unfold pkV; rw [List.map_append]; rfl
  have HPE:Hid (PN N.length=pkV N):=by show _=_; rw [hPN,List.take_length]
  have HBL:Hid (∀ i (hi:i < N.length) (W W':World) (u:Value),DRow ok W u (strV N[i]) → W'=W → Calls Tryz.prog 24 #[u] W' fun e w'=>e=.returned (.string (packN N[i]))∧Below W'.heap.size W' w'):=fun i hi W W' u hu e=>by
    subst e
    have hq:=hx N[i] (List.getElem_mem hi)
    exact rBuild_any u N[i] (by omega) hq.2 W' hu.srow
  clear h hb0 hrow hPN hx
  go_enter Tryz.func10,Tryz.ntmps10
  go_wp2
  rw [← hW0]
  clear hW0
  go_loopw [3,4] (fun co ci wr=>∃ i:Nat,i ≤ N.length∧ci=.int .i64 (i:Int)∧Below W0.heap.size W0 wr∧wr.ownsRow W0.heap.size 9 1 co i (PN i)) (fun _ ci _=>N.length - (intOf ci).toNat)
  case atStart=>exact ⟨0,by omega,rfl,Below.refl _ _,by rw [HP0.out]; exact own_nil W0 W0.heap.size 9⟩
  case round =>
    obtain ⟨i,hi,rfl,hb,ho⟩:=hrel
    have HB:Hid (Below W0.heap.size W0 wr):=hb
    have HO:Hid (wr.ownsRow W0.heap.size 9 1 _ i (PN i)):=ho
    have hrr:=keep_row HR0.out hb
    obtain ⟨c0,c1,c2,cf⟩:=row3 hrr
    obtain ⟨Q8,d8,hqf⟩:=own_form ho
    subst hqf
    by_cases hlt:i < N.length
    · obtain ⟨g,o,c',u,e,hcell,hdr⟩:=HL.out.at_ hlt
      injection e with e1 e2 e3
      subst e1 e3
      obtain ⟨U,uc,hu⟩:=hdr.sform
      subst hu
      have hbw:Below w.heap.size w wr:=HB0.out.trans (hb.mono HSZ.out)
      have y0:=cell_on hcell hbw
      have HDR:Hid (DRow ok wr (.slice U N[i].length uc) (strV N[i])):=hdr.on hbw
      have hi0:(0:Int) ≤ (i:Int):=by omega
      have hi1:(i:Int) < (N.length:Int):=by omega
      have HF:Hid (PN (i + 1)=PN i ++ [Value.string (packN N[i])]):=HPS.out i hlt
      have HBLi:Hid (Calls Tryz.prog 24 #[.slice U N[i].length uc] wr fun e w'=>e=.returned (.string (packN N[i]))∧Below wr.heap.size wr w'):=HBL.out i hlt wr wr _ HDR.out rfl
      obtain ⟨LN,hLN⟩:∃ LN,N[i].length=LN:=⟨_,rfl⟩
      rw [hLN] at y0 HBLi
      generalize packN N[i]=PK at *
      clear ho hb hdr hcell hrr hLN HDR
      go_wp2_with fail
      refine (show Calls _ _ _ _ _ from HBLi.out).mono ?_
      rintro e w1 ⟨rfl,hb1⟩
      have HB1:Hid (Below wr.heap.size wr w1):=hb1
      obtain ⟨W2,hW2⟩:∃ W2,W2=w1.alloc (.cells #[.string PK] 9):=⟨_,rfl⟩
      have HI2:Hid (DRow (fun _=>True) W2 (.slice (some ⟨w1.heap.size,0,none⟩) 1 1) [.string PK]):=by show DRow _ _ _ _; rw [hW2]; exact drow_one _ _ _
      have hb2:Below w1.heap.size w1 W2:=by rw [hW2]; exact (Below.refl _ _).alloc (Nat.le_refl _) _
      have hb3:Below wr.heap.size wr W2:=HB1.out.trans (hb2.mono HB1.out.size)
      have HO2:Hid (W2.ownsRow W0.heap.size 9 1 (.slice Q8 i d8) i (PN i)):=own_on HO.out hb3
      have HB2:Hid (Below W0.heap.size W0 W2):=HB.out.trans (hb3.mono HB.out.size)
      clear hb1 hb2 hb3
      go_wp2_with (at_builtin; rw [← hW2]; go_must (refine app_str rfl _ _ rfl W0.heap.size _ i (PN i) rfl HO2.out _ [.string PK] rfl HI2.out ?q9 (i + 1) rfl ?q1 HB2.out.size ?_))
      case q9=>intro u hu; simp at hu; subst hu; rfl
      case q1=>omega
      intro v3 w3 ho3 hg3
      rw [← hW2] at hg3
      have HB3:Hid (Below W0.heap.size W0 w3):=HB2.out.grown hg3 HB2.out.size (fun q hq=>(World.ownsRow.lt HO2.out q hq).1)
      have HO3:Hid (w3.ownsRow W0.heap.size 9 1 v3 (i + 1) (PN i ++ [.string PK])):=ho3
      clear ho3 hg3
      go_wp2
      exact ⟨⟨i + 1,hlt,by congr 1,HB3.out,by rw [HF.out]; exact HO3.out⟩,by simp [intOf]; omega⟩
    · have he:i=N.length:=by omega
      subst he
      clear ho hb hrr
      go_wp2
      go_returns
      refine ⟨_,rfl,?_,HB0.out.trans (HB.out.mono HSZ.out)⟩
      rw [← HPE.out]
      exact own_lower HO.out HSZ.out
set_option maxHeartbeats 2000000 in
set_option maxRecDepth 100000 in
theorem elemsB (E B:Nat) (v:Value) (N:QM.NL) (hl:N.flatten.length ≤ 2000000) (hn:N.length ≤ 2000000) (w:World) (h:RL ok w v N) :
    Calls Tryz.prog 25 #[rlV E B v] w fun e w'=>∃ v',e=.returned v'∧w'.ownsRow w.heap.size 9 1 v' N.flatten.length (strV N.flatten)∧Below w.heap.size w w':=by
  obtain ⟨P,c,rfl⟩:=h.form
  have HL:Hid (RL ok w (.slice P N.length c) N):=h
  obtain ⟨W0,hW0⟩:∃ W0,W0=w.alloc (.cells #[.int .i64 (E:Int),.int .i64 (B:Int),.slice P N.length c] 29):=⟨_,rfl⟩
  have hb0:Below w.heap.size w W0:=by rw [hW0]; exact (Below.refl _ _).alloc (Nat.le_refl _) _
  have hrow:W0.heap[w.heap.size]?=some (.cells #[.int .i64 (E:Int),.int .i64 (B:Int),.slice P N.length c] 29):=by rw [hW0]; exact one_alloc _ _
  have HB0:Hid _:=hb0
  have HR0:Hid _:=hrow
  have HSZ:Hid (w.heap.size ≤ W0.heap.size):=HB0.out.size
  obtain ⟨FL,hFL⟩:∃ FL:Nat → List ByteArray,∀ i,FL i=(N.take i).flatten:=⟨_,fun _=>rfl⟩
  obtain ⟨FN,hFN⟩:∃ FN:Nat → Nat,∀ i,FN i=(FL i).length:=⟨_,fun _=>rfl⟩
  have HFL0:Hid (FL 0=[]):=by show _=_; rw [hFL]; rfl
  have HFN0:Hid (FN 0=0):=by show _=_; rw [hFN,HFL0.out]; rfl
  have HFS:Hid (∀ i (hi:i < N.length),FL (i + 1)=FL i ++ N[i]∧FN (i + 1)=FN i + N[i].length∧FN (i + 1) ≤ 2000000):=fun i hi=>by
    have e1:FL (i + 1)=FL i ++ N[i]:=by rw [hFL,hFL,takeN_snoc N i hi,List.flatten_append]; simp
    refine ⟨e1,by rw [hFN,hFN,e1,List.length_append],?_⟩
    rw [hFN,hFL]
    have:=congrArg (fun M=>(List.flatten M).length) (List.take_append_drop (i + 1) N)
    simp only [List.flatten_append,List.length_append] at this
    omega
  have HFE:Hid (FL N.length=N.flatten∧FN N.length=N.flatten.length):=by
    show _∧_
    rw [hFN,hFL,List.take_length]; exact ⟨rfl,rfl⟩
  clear h hb0 hrow hFL hFN hl
  go_enter Tryz.func25,Tryz.ntmps25
  go_wp2
  rw [← hW0]
  clear hW0
  go_loopw [3,4] (fun co ci wr=>∃ i:Nat,i ≤ N.length∧ci=.int .i64 (i:Int)∧Below W0.heap.size W0 wr∧wr.ownsRow W0.heap.size 9 1 co (FN i) (strV (FL i))) (fun _ ci _=>N.length - (intOf ci).toNat)
  case atStart=>exact ⟨0,by omega,rfl,Below.refl _ _,by rw [HFL0.out,HFN0.out]; exact own_nil W0 W0.heap.size 9⟩
  case round =>
    obtain ⟨i,hi,rfl,hb,ho⟩:=hrel
    have HB:Hid (Below W0.heap.size W0 wr):=hb
    have HO:Hid _:=ho
    have hrr:=keep_row HR0.out hb
    obtain ⟨c0,c1,c2,cf⟩:=row3 hrr
    obtain ⟨Q8,d8,hqf⟩:=own_form ho
    subst hqf
    by_cases hlt:i < N.length
    · obtain ⟨g,o,c',u,e,hcell,hdr⟩:=HL.out.at_ hlt
      injection e with e1 e2 e3
      subst e1 e3
      obtain ⟨U,uc,hu⟩:=hdr.sform
      subst hu
      have hbw:Below w.heap.size w wr:=HB0.out.trans (hb.mono HSZ.out)
      have y0:=cell_on hcell hbw
      have HDR:Hid (DRow ok wr (.slice U N[i].length uc) (strV N[i])):=hdr.on hbw
      have hi0:(0:Int) ≤ (i:Int):=by omega
      have hi1:(i:Int) < (N.length:Int):=by omega
      obtain ⟨f1,f2,f3⟩:=HFS.out i hlt
      have HF1:Hid _:=f1
      have HF2:Hid _:=f2
      have HN1:Hid _:=one_str N[i]
      clear ho hb hdr hcell hrr f1 f2
      go_wp2_with (at_builtin; go_must (refine app_str rfl _ _ rfl W0.heap.size _ _ _ rfl HO.out _ (strV N[i]) rfl HDR.out HN1.out (FN (i + 1)) ?p0 ?p1 HB.out.size ?_))
      case p0=>(rw [HF2.out]; try simp)
      case p1=>omega
      intro v1 w1 ho1 hg1
      have HB1:Hid (Below W0.heap.size W0 w1):=HB.out.grown hg1 HB.out.size (fun q hq=>(World.ownsRow.lt HO.out q hq).1)
      have HO1:Hid (w1.ownsRow W0.heap.size 9 1 v1 (FN (i + 1)) (strV (FL i) ++ strV N[i])):=ho1
      clear ho1 hg1
      go_wp2
      exact ⟨⟨i + 1,hlt,by congr 1,HB1.out,by rw [show strV (FL (i + 1))=strV (FL i) ++ strV N[i] by rw [HF1.out]; simp]; exact HO1.out⟩,by simp [intOf]; omega⟩
    · have he:i=N.length:=by omega
      subst he
      have HO2:Hid (wr.ownsRow W0.heap.size 9 1 _ (FN N.length) (strV (FL N.length))):=ho
      clear ho hb hrr
      go_wp2
      go_returns
      refine ⟨_,rfl,?_,HB0.out.trans (HB.out.mono HSZ.out)⟩
      rw [← HFE.out.2,← HFE.out.1]
      exact own_lower HO2.out HSZ.out
set_option maxHeartbeats 1000000 in
set_option maxRecDepth 100000 in
theorem rlenB (E B:Nat) (v:Value) (N:QM.NL) (hl:N.flatten.length ≤ 2000000) (hn:N.length ≤ 2000000) (w:World) (h:RL ok w v N) :
    Calls Tryz.prog 12 #[rlV E B v] w fun e w'=>e=.returned (.int .i64 (N.flatten.length:Int))∧Below w.heap.size w w':=by
  have HE:Hid (∀ W,Below w.heap.size w W → Calls Tryz.prog 25 #[rlV E B v] W fun e w'=>∃ v',e=.returned v'∧w'.ownsRow W.heap.size 9 1 v' N.flatten.length (strV N.flatten)∧Below W.heap.size W w'):=fun W hW=>elemsB E B v N hl hn W (h.on hW)
  obtain ⟨P,c,rfl⟩:=h.form
  obtain ⟨F,hF⟩:∃ F,N.flatten.length=F:=⟨_,rfl⟩
  rw [hF] at HE ⊢
  clear h hF hl
  go_enter Tryz.func12,Tryz.ntmps12
  go_wp2_with fail
  refine (show Calls _ _ _ _ _ from HE.out _ ?b1).mono ?_
  case b1=>first | exact Below.refl _ _ | exact (Below.refl _ _).alloc (Nat.le_refl _) _
  rintro e w1 ⟨v',rfl,ho,hb⟩
  obtain ⟨P8,k8,hkf⟩:=own_form ho
  subst hkf
  have HB:Hid (Below w.heap.size w w1):=by first | exact hb | exact bel_to ((Below.refl _ w).alloc (Nat.le_refl _) _) hb (Nat.le_refl _)
  clear ho hb
  go_wp2
  go_returns
  exact ⟨rfl,HB.out⟩
end
/-- the nodes ahead of the first that may not be one. -/
theorem good_prefix (E B:Nat):∀ ps:List ByteArray,∃ N:QM.NL,∃ hle:N.length ≤ ps.length,(∀ X ∈ N,goodX E B X)∧(∀ j (hj:j < N.length),ps[j]'(by omega)=packN N[j])∧(∀ h:N.length < ps.length,¬ goodP E B ps[N.length])
  | []=>⟨[],Nat.le_refl _,fun X hX=>absurd hX (by simp),fun j hj=>absurd hj (Nat.not_lt_zero _),fun h=>absurd h (Nat.lt_irrefl _)⟩
  | p :: ps=>by
    by_cases hp:goodP E B p
    · obtain ⟨X,rfl,hX⟩:=hp
      obtain ⟨N,hle,h1,h2,h3⟩:=good_prefix E B ps
      refine ⟨X :: N,by simpa using hle,fun Y hY=>?_,fun j hj=>?_,fun h=>?_⟩
      · rcases List.mem_cons.1 hY with rfl | hY
        · exact hX
        · exact h1 Y hY
      · cases j with
        | zero=>rfl
        | succ j=>exact h2 j (by simpa using hj)
      · have hlt:N.length < ps.length:=by simpa using h
        exact h3 hlt
    · exact ⟨[],Nat.zero_le _,fun X hX=>absurd hX (by simp),fun j hj=>absurd hj (Nat.not_lt_zero _),fun h=>hp⟩
theorem cutN (N:QM.NL):∀ k,k ≤ N.length → 1048576 < (N.take k).flatten.length → ∃ m,∃ hm:m < N.length,(N.take m).flatten.length ≤ 1048576∧1048576 < (N.take m).flatten.length + N[m].length
  | 0,_,h=>by simp at h
  | k + 1,hk,h=>by
    by_cases h0:1048576 < (N.take k).flatten.length
    · exact cutN N k (by omega) h0
    · refine ⟨k,by omega,by omega,?_⟩
      rw [List.take_succ_eq_append_getElem (by omega),List.flatten_append,List.length_append] at h
      simpa using h
set_option maxHeartbeats 2000000 in
set_option maxRecDepth 100000 in
theorem Load_no (e b:Int) (h:mayB e b=false) (P:Option Addr) (n cc:Nat) (w:World):Calls Tryz.prog 5 #[.int .i64 e,.int .i64 b,.slice P n cc] w fun r w'=>r=.returned (.tuple #[.pointer none,.int .i64 1])∧Below w.heap.size w w':=by
  have HN:Hid _:=New_no e b h w
  clear h
  go_enter Tryz.func5,Tryz.ntmps5
  go_wp2_with fail
  refine (show Calls _ _ _ _ _ from HN.out).mono ?_
  rintro r w1 ⟨rfl,hb1⟩
  have HB:Hid (Below w.heap.size w w1):=hb1
  clear hb1
  go_wp2
  go_returns
  exact ⟨rfl,HB.out⟩
set_option maxHeartbeats 2000000 in
set_option maxRecDepth 100000 in
theorem rLoad_no (e b:Int) (h:mayB e b=false) (P:Option Addr) (n cc:Nat) (w:World):Calls Tryz.prog 6 #[.int .i64 e,.int .i64 b,.slice P n cc] w fun r w'=>r=.returned (.tuple #[rlV 0 0 (.slice none 0 0),.int .i64 1])∧Below w.heap.size w w':=by
  obtain ⟨W0,hW0⟩:∃ W0,W0=w.alloc (.cells #[.int .i64 0,.int .i64 0,.slice none 0 0] 29):=⟨_,rfl⟩
  have HB0:Hid (Below w.heap.size w W0):=by show Below _ _ _; rw [hW0]; exact (Below.refl _ _).alloc (Nat.le_refl _) _
  obtain ⟨q6,hq6⟩:∃ q,w.heap.size=q:=⟨_,rfl⟩
  have HQ6:Hid (w.heap.size=q6):=hq6
  have HR6:Hid (W0.heap[q6]?=some (.cells #[.int .i64 0,.int .i64 0,.slice none 0 0] 29)):=by show _=_; rw [hW0,← hq6]; exact one_alloc _ _
  have HN:Hid _:=rnew_no e b h W0
  clear h hq6
  go_enter Tryz.func6,Tryz.ntmps6
  go_upto_region 1 with fail
  rw [← hW0,HQ6.out]
  clear hW0
  go_wp2_with fail
  refine (show Calls _ _ _ _ _ from HN.out).mono ?_
  rintro r w1 ⟨rfl,hb1⟩
  obtain ⟨W1,hW1⟩:∃ W1,W1=w1.alloc (.cells #[.int .i64 0,.int .i64 0,.slice none 0 0] 29):=⟨_,rfl⟩
  obtain ⟨lb,hlb⟩:∃ l,w1.heap.size=l:=⟨_,rfl⟩
  have hrl:W1.heap[lb]?=some (.cells #[.int .i64 0,.int .i64 0,.slice none 0 0] 29):=by rw [hW1,← hlb]; exact one_alloc _ _
  have hb2:Below W0.heap.size W0 W1:=by rw [hW1]; exact hb1.alloc hb1.size _
  have HLB:Hid (w1.heap.size=lb):=hlb
  have HR62:Hid (W1.heap[q6]?=some (.cells #[.int .i64 0,.int .i64 0,.slice none 0 0] 29)):=keep_row HR6.out hb2
  have HB3:Hid (Below w.heap.size w W1):=HB0.out.trans (hb2.mono HB0.out.size)
  have HQB:Hid (w.heap.size ≤ q6):=by have:=HQ6.out; show _ ≤ _; omega
  obtain ⟨c0,c1,c2,cf⟩:=row3 hrl
  clear hb1 hb2 hrl hlb
  go_upto_region 2 with fail
  rw [← hW1,HLB.out]
  clear hW1
  obtain ⟨z0,z1,z2,zf⟩:=row3 HR62.out
  have HBF:Hid (Below w.heap.size w (((W1.setCell ⟨q6,0,none⟩ (.int .i64 0)).setCell ⟨q6,1,none⟩ (.int .i64 0)).setCell ⟨q6,2,none⟩ (.slice none 0 0))):=((HB3.out.setCell (p:=⟨q6,0,none⟩) HQB.out _).setCell (p:=⟨q6,1,none⟩) HQB.out _).setCell (p:=⟨q6,2,none⟩) HQB.out _
  have HGG:Hid _:=heap_set3 W1 q6 29 _ _ _ (.int .i64 0) (.int .i64 0) (.slice none 0 0) HR62.out
  go_wp2
  obtain ⟨g0,g1,g2,gf⟩:=row3 HGG.out.1
  exact bodyPost_ret (v:=.tuple #[rlV 0 0 (.slice none 0 0),.int .i64 1]) (by simp [results,Tryz.results6,go_sem,g0,g1,g2]) rfl ⟨rfl,HBF.out⟩
end Go.Proofs.YtijambehfobopaaGreatDoor
namespace Go.Proofs.YtijambehfobopaaGreatDoor
open Go.RowKit
set_option linter.unusedVariables false
set_option linter.unusedSimpArgs false
/-- append of a row of texts. -/
theorem append_srowL {w:World} {ops:Array Oper} {rest:List Oper} {o:Oper} {a:Act} {Q:Exit → Act → World → Prop} (hg:o.guard=none) (s x:Operand)
    (hop:o.op=Op.call { callee:=Callee.builtin Builtin.append,args:=#[s,x],argTypes:=#[22,22] })
    (base:Nat) (v:Value) (n:Nat) (xs:List Value) (hs:a.eval s=v) (hown:w.ownsRow base 9 1 v n xs) (xv:Value) (ys:List ByteArray) (hx:a.eval x=xv) (hy:SRow w xv ys) (hnil:∀ c,xv=.slice none 0 c → c=0)
    (hl:(n + ys.length) * 16 ≤ 140737488351232) (hb:base ≤ w.heap.size)
    (h:∀ v' w',w'.ownsRow base 9 1 v' (n + ys.length) (xs ++ ys.map Value.string) → w.grownBy w' v.ownBlock → wpList Tryz.prog ops Q rest (a.put o.dst v') w') :
    wpList Tryz.prog ops Q (o :: rest) a w:=by
  obtain ⟨i0,hi,hz0,hz1,hz2⟩:=info_parts info9
  rcases hy.forms hnil with ⟨rfl,rfl⟩ | ⟨ad,c,rfl,hc⟩
  · refine wpList_append_own_none hg s x 22 hop base 9 i0 1 Tryz.underlying22 hi v n xs hs hown hx ?_
    exact h v w (by simpa using hown) (World.grownBy.refl w _)
  · refine wpList_append_own _ hg s x 22 hop base 9 i0 (.string ⟨#[]⟩) 1 16 Tryz.underlying22 hi hz0 hz1 hz2 rfl (by decide) v n xs hs hown ad ys.length c (ys.map Value.string) hx (by simp) hc ?_ ?_ ?_ hb ?_
    · intro u hu; obtain ⟨y,_,rfl⟩:=List.mem_map.1 hu; rfl
    · unfold maxLen; omega
    · omega
    · intro v' w' h1 h2 h3; exact h v' w' h1 h2
theorem LenM {b0 g E B:Nat} {N:QM.NL} (w:World) (h:LN w b0 g E B N):Calls Tryz.prog 11 #[ptr g] w fun e w'=>e=.returned (.int .i64 (N.flatten.length:Int))∧Below w.heap.size w w':=by
  obtain ⟨rb,rc,S,lv,ns,hL,ha,_⟩:=h
  have hc:cntS S + cntN ns=N.flatten.length:=by rw [← cntN_all,ha,cnt_nds]
  obtain ⟨l0,l1,l2,l3,lf⟩:=lrow4 hL.hd
  obtain ⟨FL,hFL⟩:∃ FL,N.flatten.length=FL:=⟨_,rfl⟩
  rw [hc,hFL] at l2
  rw [hFL]
  clear hL hc hFL
  go_enter Tryz.func11,Tryz.ntmps11
  go_wp2
  go_returns
  exact ⟨rfl,Below.refl _ _⟩
theorem rowsN_all (S:List RwD) (ns:List Nd):(rowsN S ns).flatten=allN S ns:=by simp [rowsN,allN]
theorem NodesL {b0 g E B:Nat} {N:QM.NL} (hG:∀ X ∈ N,Fit X) (hn:N.length ≤ 1048576) (w:World) (h:LN w b0 g E B N):Calls Tryz.prog 9 #[ptr g] w fun e w'=>∃ v,e=.returned v∧SRow w' v (N.map packN)∧Below w.heap.size w w':=by
  obtain ⟨rb,rc,S,lv,ns,hL,ha,hs,_⟩:=h
  have e1:(rowsN S ns).flatten=nds B N:=(rowsN_all S ns).trans ha
  refine (NodesM (by omega) (by rw [e1]; simp [nds]; omega) (fun x hx=>?_) w hL).mono ?_
  · rw [e1] at hx
    obtain ⟨X,hX,rfl⟩:=List.mem_map.1 hx
    have:=(hG X hX).pk.size
    rw [list_len] at this
    show (packN X).size ≤ _
    omega
  · rintro e w' ⟨v,rfl,ho,hb⟩
    rw [e1] at ho
    refine ⟨v,rfl,srow_of_own (base:=w.heap.size) (vs:=N.map packN) (n:=(nds B N).length) ?_ (by simp [nds]),hb⟩
    have e2:(nds B N).map (fun n=>Value.string n.1)=(N.map packN).map Value.string:=by simp [nds,ndOf]
    rw [← e2]; exact ho
theorem rNodesL {ok:Nat → Prop} (E B:Nat) (v:Value) (N:QM.NL) (hx:∀ x ∈ N,x.length ≤ 4096∧∀ t ∈ x,t.size ≤ 524288) (hn:N.length ≤ 1048576) (w:World) (h:RL ok w v N) :
    Calls Tryz.prog 10 #[rlV E B v] w fun e w'=>∃ v',e=.returned v'∧SRow w' v' (N.map packN)∧Below w.heap.size w w':=by
  refine (rnodesB E B v N hx hn w h).mono ?_
  rintro e w' ⟨v',rfl,ho,hb⟩
  refine ⟨v',rfl,srow_of_own (base:=w.heap.size) (vs:=N.map packN) (n:=N.length) ?_ (by simp),hb⟩
  have e2:pkV N=(N.map packN).map Value.string:=by simp [pkV]
  rw [← e2]; exact ho
theorem sameR {R:List ByteArray} (hR:R.length ≤ 70368744177664) (W:World) (va vb:Value) (h1:SRow W va R) (h2:SRow W vb R):Calls Tryz.prog 8 #[va,vb] W fun e w'=>e=.returned (.bool true)∧Below W.heap.size W w':=by
  refine (same_any va vb R R hR hR W h1 h2).mono ?_
  rintro e w' ⟨⟨bb,rfl,hbb⟩,k,rfl⟩
  rw [hbb.2 rfl]
  exact ⟨rfl,below_dn (Below.refl _ _) _⟩
theorem LN.same {W W':World} {b0 g E B:Nat} {N:QM.NL} (h:LN W b0 g E B N) (hb:∀ k,b0 ≤ k → k < W.heap.size → W'.heap[k]?=W.heap[k]?):LN W' b0 g E B N:=by
  obtain ⟨rb,rc,S,lv,ns,hL,r⟩:=h
  exact ⟨rb,rc,S,lv,ns,hL.same (fun k hk=>hb k (hL.lt k hk).2 (hL.lt k hk).1),r⟩
set_option maxHeartbeats 8000000 in
set_option maxRecDepth 100000 in
theorem Loads_bad (e b:Int) (P:Option Addr) (c:Nat) (ps:List ByteArray) (hln:ps.length * 16 ≤ 140737488351232) (hnil:∀ c',Value.slice P ps.length c=.slice none 0 c' → c'=0) (w:World) (hw:Lay w) (hS:SRow w (.slice P ps.length c) ps)
    (err:Int) (h0:err ≠ 0) (hp:∀ W (MP:Option Addr) (mc:Nat),Lay W → (∀ j (hj:j < ps.length),∃ Y,MP=some ⟨Y,0,none⟩∧W.cell? ⟨Y,j,none⟩=some (.string ps[j])) → Calls Tryz.prog 5 #[.int .i64 e,.int .i64 b,.slice MP ps.length mc] W fun r w'=>r=.returned (.tuple #[.pointer none,.int .i64 err])∧Below W.heap.size W w')
    (hd:∀ W,SRow W (.slice P ps.length c) ps → Calls Tryz.prog 6 #[.int .i64 e,.int .i64 b,.slice P ps.length c] W fun r w'=>r=.returned (.tuple #[rlV 0 0 (.slice none 0 0),.int .i64 err])∧Below W.heap.size W w') :
    Calls Tryz.prog 3 #[.int .i64 e,.int .i64 b,.slice P ps.length c] w fun r w'=>r=.returned (.bool true)∧Below w.heap.size w w':=by
  have HW:Hid (Lay w):=hw
  have HSR:Hid (SRow w (.slice P ps.length c) ps):=hS
  have HNIL:Hid _:=hnil
  have HP:Hid _:=hp
  have HD:Hid _:=hd
  have hq0:(err != 0)=true:=by simpa using h0
  clear hp hd h0
  have hb0:Below w.heap.size w (w.alloc (.cells #[] 9)):=(Below.refl _ _).alloc (Nat.le_refl _) _
  have HB0:Hid (Below w.heap.size w (w.alloc (.cells #[] 9))):=hb0
  have HON:Hid ((w.alloc (.cells #[] 9)).ownsRow w.heap.size 9 1 (.slice (some ⟨w.heap.size,0,none⟩) 0 0) 0 []):=⟨rfl,Or.inr ⟨w.heap.size,0,#[],rfl,Nat.le_refl _,one_alloc _ _,Nat.le_refl _,by unfold maxLen; omega,rfl,rfl⟩⟩
  have HS0:Hid (SRow (w.alloc (.cells #[] 9)) (.slice P ps.length c) ps):=hS.on hb0
  obtain ⟨n,hn⟩:∃ n,ps.length=n:=⟨_,rfl⟩
  have HNN:Hid (ps.length=n):=hn
  clear hS hw hnil hb0
  rw [hn] at hln HSR HNIL HS0 ⊢
  clear hn
  go_enter Tryz.func3,Tryz.ntmps3
  go_wp2_with (at_builtin; go_must (refine append_srowL rfl _ _ rfl w.heap.size (.slice (some ⟨w.heap.size,0,none⟩) 0 0) 0 [] rfl HON.out (.slice P n c) ps rfl HS0.out HNIL.out (by rw [HNN.out]; omega) HB0.out.size ?_))
  intro v' w1 hown hgr
  simp only [Nat.zero_add,List.nil_append,HNN.out] at hown
  obtain ⟨MP,mc,hmv⟩:=own_form hown
  subst hmv
  have HB1:Hid (Below w.heap.size w w1):=HB0.out.grown hgr HB0.out.size (fun b hb=>by simp [Value.ownBlock] at hb; omega)
  have HOW:Hid (w1.ownsRow w.heap.size 9 1 (.slice MP n mc) n (ps.map Value.string)):=hown
  have HMR:Hid (∀ j (hj:j < ps.length),∃ Y,MP=some ⟨Y,0,none⟩∧w1.cell? ⟨Y,j,none⟩=some (.string ps[j])):=fun j hj=>by
    rcases hown.2 with ⟨_,e2⟩ | ⟨gg,cap,cur,e2,_,r2,_,_,_,r6⟩
    · have:=HNN.out; omega
    · injection e2 with e3 _ _
      refine ⟨gg,e3,?_⟩
      rw [cell_of_row _ _ _ _ _ _ r2,← Array.getElem?_toList,← List.getElem?_take_of_lt (show j < n * 1 by have:=HNN.out; omega),r6]
      simp [hj]
  have HMB:Hid (∀ Y,(Value.slice MP n mc).ownBlock=some Y → w.heap.size ≤ Y∧Y < w1.heap.size):=fun Y hY=>by
    obtain ⟨q1,cur,q2⟩:=own_cells hown Y hY
    exact ⟨q1,row_lt q2⟩
  clear hown hgr HON HS0
  have HPL:Hid (Calls Tryz.prog 5 #[.int .i64 e,.int .i64 b,.slice MP n mc] w1 fun r w'=>r=.returned (.tuple #[.pointer none,.int .i64 err])∧Below w1.heap.size w1 w'):=by
    have h9:=HP.out w1 MP mc (HW.out.on HB1.out) HMR.out
    rw [HNN.out] at h9; exact h9
  go_wp2_with fail
  refine (show Calls _ _ _ _ _ from HPL.out).mono ?_
  rintro r w2 ⟨rfl,hb2⟩
  have HB2:Hid (Below w1.heap.size w1 w2):=hb2
  have HDL:Hid (Calls Tryz.prog 6 #[.int .i64 e,.int .i64 b,.slice P n c] w2 fun r w'=>r=.returned (.tuple #[rlV 0 0 (.slice none 0 0),.int .i64 err])∧Below w2.heap.size w2 w'):=by
    have h9:=HD.out w2 (by rw [HNN.out]; exact HSR.out.on (bel_to HB1.out hb2 (Nat.le_refl _)))
    rw [HNN.out] at h9; exact h9
  clear hb2
  go_wp2_with fail
  refine (show Calls _ _ _ _ _ from HDL.out).mono ?_
  rintro r w3 ⟨rfl,hb3⟩
  obtain ⟨W3,hW3⟩:∃ W,W=w3.alloc (.cells #[.int .i64 0,.int .i64 0,.slice none 0 0] 29):=⟨_,rfl⟩
  have HB3:Hid (Below w1.heap.size w1 W3):=by show Below _ _ _; rw [hW3]; exact (bel_to HB2.out hb3 (Nat.le_refl _)).alloc (bel_to HB2.out hb3 (Nat.le_refl _)).size _
  have HNU:Hid _:=num_any err W3
  have HOW3:Hid (W3.ownsRow w.heap.size 9 1 (.slice MP n mc) n (ps.map Value.string)):=own_on HOW.out HB3.out
  have HSM:Hid (Calls Tryz.prog 8 #[.slice MP n mc,.slice P n c] W3 fun e w'=>e=.returned (.bool true)∧Below W3.heap.size W3 w'):=sameR (R:=ps) (by rw [HNN.out]; omega) W3 _ _ (srow_of_own HOW3.out HNN.out.symm) (HSR.out.on (bel_to HB1.out HB3.out (Nat.le_refl _)))
  clear hb3
  go_wp2_with fail
  rw [← hW3]
  clear hW3
  refine (show Calls _ _ _ _ _ from HNU.out).mono ?_
  rintro r w4 ⟨rfl,hw4⟩
  have hw4:=hw4.symm
  subst hw4
  go_wp2_with fail
  refine (show Calls _ _ _ _ _ from HSM.out).mono ?_
  rintro r W4 ⟨rfl,hb4⟩
  have HB4:Hid (Below w.heap.size w W4):=bel_to HB1.out (bel_to HB3.out hb4 (Nat.le_refl _)) (Nat.le_refl _)
  have HCU:Hid (∀ Y,(Value.slice MP n mc).ownBlock=some Y → ∃ cur:Array Value,W4.heap[Y]?=some (.cells cur 9)∧n ≤ cur.size):=fun Y hY=>by
    rcases (own_on HOW3.out hb4).2 with ⟨e2,_⟩ | ⟨gg,cap,cur,e2,_,r2,r3,_,r5,_⟩
    · rw [e2] at hY; cases hY
    · rw [e2] at hY
      have:gg=Y:=by simpa [Value.ownBlock] using hY
      subst this
      exact ⟨cur,r2,by omega⟩
  clear hb4
  go_wp2
  go_loopw [12] (fun ci wr=>∃ i:Nat,(i ≤ n∧Fr W4 wr (fun k=>(Value.slice MP n mc).ownBlock=some k)∧(∀ Y,(Value.slice MP n mc).ownBlock=some Y → ∃ cur:Array Value,wr.heap[Y]?=some (.cells cur 9)∧n ≤ cur.size))∧ci=.int .i64 (i:Int)) (fun ci _=>n - (intOf ci).toNat)
  case atStart=>exact ⟨0,⟨Nat.zero_le _,⟨rfl,rfl,rfl,Nat.le_refl _,fun _ _ _=>rfl⟩,HCU.out⟩,rfl⟩
  case round =>
    obtain ⟨i,⟨hi,hF,hC⟩,rfl⟩:=hrel
    have HF:Hid (Fr W4 wr (fun k=>(Value.slice MP n mc).ownBlock=some k)):=hF
    have HC:Hid (∀ Y,(Value.slice MP n mc).ownBlock=some Y → ∃ cur:Array Value,wr.heap[Y]?=some (.cells cur 9)∧n ≤ cur.size):=hC
    by_cases hlt:i < n
    · obtain ⟨mb,hMP,_⟩:=HMR.out i (by rw [HNN.out]; exact hlt)
      subst hMP
      obtain ⟨cur,q1,q2⟩:=hC mb rfl
      have hz0:(0:Int) ≤ (i:Int):=by omega
      have hz1:(i:Int) < (n:Int):=by omega
      have hiw:IntKind.i64.wrap ((i:Int) + 1)=(i:Int) + 1:=by rw [IntKind.wrap_i64] <;> omega
      have y0:∃ u,wr.cell? ⟨mb,i,none⟩=some u:=by rw [cell_of_row _ _ _ _ _ _ q1]; exact ⟨cur[i]'(by omega),by simp [show i < cur.size by omega]⟩
      obtain ⟨u,y0⟩:=y0
      have yf:wr.frozen? ⟨mb,i,none⟩=false:=frozen_of_row _ _ _ _ _ q1
      have HF2:Hid (Fr W4 (wr.setCell ⟨mb,i,none⟩ (.string ⟨#[115,112,111,105,108,116]⟩)) (fun k=>(Value.slice (some ⟨mb,0,none⟩) n mc).ownBlock=some k)):=hF.trans (Fr.set _ _ rfl)
      have HC2:Hid (∀ Y,(Value.slice (some ⟨mb,0,none⟩) n mc).ownBlock=some Y → ∃ cur:Array Value,(wr.setCell ⟨mb,i,none⟩ (.string ⟨#[115,112,111,105,108,116]⟩)).heap[Y]?=some (.cells cur 9)∧n ≤ cur.size):=fun Y hY=>by
        have e1:mb=Y:=by simpa [Value.ownBlock] using hY
        subst e1
        exact ⟨_,heap_setCell_same _ _ _ _ _ _ q1,by simpa using q2⟩
      clear hF hC q1 q2
      go_wp2
      go_roundw
      case rel=>exact ⟨i + 1,⟨hlt,HF2.out,HC2.out⟩,rfl⟩
      case measure=>simp [intOf]; omega
    · have hz1:¬ (i:Int) < (n:Int):=by omega
      have HB5:Hid (Below w.heap.size w wr):=fr_bel HB4.out hF (fun k hk=>(HMB.out k hk).1) (Nat.le_refl _)
      have HSU:Hid (Calls Tryz.prog 13 #[] wr.drew fun e w'=>e=.returned (.bool true)∧Below wr.drew.heap.size wr.drew w'):=sure_any wr.drew (HW.out.on (HB5.out.drew))
      clear hF hC
      go_upto_region 10 with fail
      refine wp_region_noPanic ?_
      refine wp_region_held_drew (S:=(fun _:World=>True)) (by kernel_rfl) ?_ (fun hHeld=>?_)
      · exact trivial
      refine wpAnyH_take (i:=0) (oi:={ dst:=some 56,op:=Op.move (Operand.tmp 8),type:=23,pos:= "law.go:143",after:=#[],guard:=none }) (v:=?vr0) rfl (by kernel_rfl) (by kernel_rfl) (by kernel_rfl) (fun _ _ _ h=>h) (Or.inl ⟨by rfl,?hr0⟩) (by assumption) ?rr0
      case hr0=>(intro w hSw; (try dsimp only at hSw); go_simp; try with_reducible rfl)
      try simp only [Act.put,List.setIfInBounds_toArray,List.set_cons_zero,List.set_cons_succ]
      refine wpAnyH_take (i:=1) (oi:={ dst:=some 57,op:=Op.binOp BinOp.eql 23 (Operand.tmp 56) (Operand.const (Value.pointer none)) 23,type:=4,pos:= "law.go:143",after:=#[{ on:=0,ground:=Ground.data }],guard:=none }) (v:=?vr1) rfl (by kernel_rfl) (by kernel_rfl) (by kernel_rfl) (fun _ _ _ h=>h) (Or.inl ⟨by rfl,?hr1⟩) (by assumption) ?rr1
      case hr1=>(intro w hSw; (try dsimp only at hSw); go_simp; try with_reducible rfl)
      try simp only [Act.put,List.setIfInBounds_toArray,List.set_cons_zero,List.set_cons_succ]
      refine wpAnyH_take (i:=2) (oi:={ dst:=some 58,op:=Op.move (Operand.tmp 57),type:=4,pos:= "law.go:143",after:=#[{ on:=1,ground:=Ground.data }],guard:=none }) (v:=?vr2) rfl (by kernel_rfl) (by kernel_rfl) (by kernel_rfl) (fun _ _ _ h=>h) (Or.inl ⟨by rfl,?hr2⟩) (by assumption) ?rr2
      case hr2=>(intro w hSw; (try dsimp only at hSw); go_simp; try with_reducible rfl)
      try simp only [Act.put,List.setIfInBounds_toArray,List.set_cons_zero,List.set_cons_succ]
      refine wpAnyH_take (i:=3) (oi:={ dst:=some 59,op:=Op.move (Operand.tmp 8),type:=23,pos:= "law.go:143",after:=#[{ on:=2,ground:=Ground.guard }],guard:=some (2,false) }) (v:=undef) rfl (by kernel_rfl) (by kernel_rfl) (by kernel_rfl) (fun _ _ _ h=>h) (Or.inr ⟨by rfl,rfl⟩) (by assumption) ?_
      try simp only [Act.put,List.setIfInBounds_toArray,List.set_cons_zero,List.set_cons_succ]
      refine wpAnyH_take (i:=4) (oi:={ dst:=some 60,op:=Op.call { callee:=Callee.value (Operand.func 9),args:=#[Operand.tmp 59],argTypes:=#[23] },type:=22,pos:= "law.go:143",after:=#[{ on:=3,ground:=Ground.data },{ on:=2,ground:=Ground.chain },{ on:=2,ground:=Ground.guard }],guard:=some (2,false) }) (v:=undef) rfl (by kernel_rfl) (by kernel_rfl) (by kernel_rfl) (fun _ _ _ h=>h) (Or.inr ⟨by rfl,rfl⟩) (by assumption) ?_
      try simp only [Act.put,List.setIfInBounds_toArray,List.set_cons_zero,List.set_cons_succ]
      refine wpAnyH_take (i:=5) (oi:={ dst:=some 61,op:=Op.load 29 (Operand.tmp 10),type:=29,pos:= "law.go:143",after:=#[{ on:=2,ground:=Ground.guard }],guard:=some (2,false) }) (v:=undef) rfl (by kernel_rfl) (by kernel_rfl) (by kernel_rfl) (fun _ _ _ h=>h) (Or.inr ⟨by rfl,rfl⟩) (by assumption) ?_
      try simp only [Act.put,List.setIfInBounds_toArray,List.set_cons_zero,List.set_cons_succ]
      refine wpAnyH_take (i:=6) (oi:={ dst:=some 62,op:=Op.call { callee:=Callee.value (Operand.func 10),args:=#[Operand.tmp 61],argTypes:=#[29] },type:=22,pos:= "law.go:143",after:=#[{ on:=5,ground:=Ground.data },{ on:=4,ground:=Ground.chain },{ on:=2,ground:=Ground.guard }],guard:=some (2,false) }) (v:=undef) rfl (by kernel_rfl) (by kernel_rfl) (by kernel_rfl) (fun _ _ _ h=>h) (Or.inr ⟨by rfl,rfl⟩) (by assumption) ?_
      try simp only [Act.put,List.setIfInBounds_toArray,List.set_cons_zero,List.set_cons_succ]
      refine wpAnyH_take (i:=7) (oi:={ dst:=some 63,op:=Op.call { callee:=Callee.value (Operand.func 8),args:=#[Operand.tmp 60,Operand.tmp 62],argTypes:=#[22,22] },type:=4,pos:= "law.go:143",after:=#[{ on:=4,ground:=Ground.data },{ on:=6,ground:=Ground.data },{ on:=6,ground:=Ground.chain },{ on:=2,ground:=Ground.guard }],guard:=some (2,false) }) (v:=undef) rfl (by kernel_rfl) (by kernel_rfl) (by kernel_rfl) (fun _ _ _ h=>h) (Or.inr ⟨by rfl,rfl⟩) (by assumption) ?_
      try simp only [Act.put,List.setIfInBounds_toArray,List.set_cons_zero,List.set_cons_succ]
      refine wpAnyH_take (i:=8) (oi:={ dst:=some 64,op:=Op.move (Operand.tmp 63),type:=4,pos:= "law.go:143",after:=#[{ on:=7,ground:=Ground.data },{ on:=7,ground:=Ground.chain },{ on:=2,ground:=Ground.guard }],guard:=some (2,false) }) (v:=undef) rfl (by kernel_rfl) (by kernel_rfl) (by kernel_rfl) (fun _ _ _ h=>h) (Or.inr ⟨by rfl,rfl⟩) (by assumption) ?_
      try simp only [Act.put,List.setIfInBounds_toArray,List.set_cons_zero,List.set_cons_succ]
      refine wpAnyH_take (i:=9) (oi:={ dst:=some 65,op:=Op.move (Operand.tmp 8),type:=23,pos:= "law.go:143",after:=#[{ on:=8,ground:=Ground.guard }],guard:=some (8,true) }) (v:=undef) rfl (by kernel_rfl) (by kernel_rfl) (by kernel_rfl) (fun _ _ _ h=>h) (Or.inr ⟨by rfl,rfl⟩) (by assumption) ?_
      try simp only [Act.put,List.setIfInBounds_toArray,List.set_cons_zero,List.set_cons_succ]
      refine wpAnyH_take (i:=10) (oi:={ dst:=some 66,op:=Op.call { callee:=Callee.value (Operand.func 11),args:=#[Operand.tmp 65],argTypes:=#[23] },type:=3,pos:= "law.go:143",after:=#[{ on:=9,ground:=Ground.data },{ on:=8,ground:=Ground.chain },{ on:=8,ground:=Ground.guard }],guard:=some (8,true) }) (v:=undef) rfl (by kernel_rfl) (by kernel_rfl) (by kernel_rfl) (fun _ _ _ h=>h) (Or.inr ⟨by rfl,rfl⟩) (by assumption) ?_
      try simp only [Act.put,List.setIfInBounds_toArray,List.set_cons_zero,List.set_cons_succ]
      refine wpAnyH_take (i:=11) (oi:={ dst:=some 67,op:=Op.load 29 (Operand.tmp 10),type:=29,pos:= "law.go:143",after:=#[{ on:=8,ground:=Ground.guard }],guard:=some (8,true) }) (v:=undef) rfl (by kernel_rfl) (by kernel_rfl) (by kernel_rfl) (fun _ _ _ h=>h) (Or.inr ⟨by rfl,rfl⟩) (by assumption) ?_
      try simp only [Act.put,List.setIfInBounds_toArray,List.set_cons_zero,List.set_cons_succ]
      refine wpAnyH_take (i:=12) (oi:={ dst:=some 68,op:=Op.call { callee:=Callee.value (Operand.func 12),args:=#[Operand.tmp 67],argTypes:=#[29] },type:=3,pos:= "law.go:143",after:=#[{ on:=11,ground:=Ground.data },{ on:=10,ground:=Ground.chain },{ on:=8,ground:=Ground.guard }],guard:=some (8,true) }) (v:=undef) rfl (by kernel_rfl) (by kernel_rfl) (by kernel_rfl) (fun _ _ _ h=>h) (Or.inr ⟨by rfl,rfl⟩) (by assumption) ?_
      try simp only [Act.put,List.setIfInBounds_toArray,List.set_cons_zero,List.set_cons_succ]
      refine wpAnyH_take (i:=13) (oi:={ dst:=some 69,op:=Op.binOp BinOp.eql 3 (Operand.tmp 66) (Operand.tmp 68) 3,type:=4,pos:= "law.go:143",after:=#[{ on:=10,ground:=Ground.data },{ on:=12,ground:=Ground.data },{ on:=8,ground:=Ground.guard }],guard:=some (8,true) }) (v:=undef) rfl (by kernel_rfl) (by kernel_rfl) (by kernel_rfl) (fun _ _ _ h=>h) (Or.inr ⟨by rfl,rfl⟩) (by assumption) ?_
      try simp only [Act.put,List.setIfInBounds_toArray,List.set_cons_zero,List.set_cons_succ]
      refine wpAnyH_take (i:=14) (oi:={ dst:=some 70,op:=Op.pick (Operand.tmp 64) (Operand.tmp 69) (Operand.const (Value.bool false)),type:=4,pos:= "law.go:143",after:=#[{ on:=8,ground:=Ground.data },{ on:=13,ground:=Ground.data },{ on:=2,ground:=Ground.guard }],guard:=some (2,false) }) (v:=undef) rfl (by kernel_rfl) (by kernel_rfl) (by kernel_rfl) (fun _ _ _ h=>h) (Or.inr ⟨by rfl,rfl⟩) (by assumption) ?_
      try simp only [Act.put,List.setIfInBounds_toArray,List.set_cons_zero,List.set_cons_succ]
      refine wpAnyH_take (i:=15) (oi:={ dst:=some 71,op:=Op.pick (Operand.tmp 58) (Operand.const (Value.bool true)) (Operand.tmp 70),type:=4,pos:= "law.go:143",after:=#[{ on:=2,ground:=Ground.data },{ on:=14,ground:=Ground.data }],guard:=none }) (v:=?vr15) rfl (by kernel_rfl) (by kernel_rfl) (by kernel_rfl) (fun _ _ _ h=>h) (Or.inl ⟨by rfl,?hr15⟩) (by assumption) ?rr15
      case hr15=>(intro w hSw; (try dsimp only at hSw); go_simp; try with_reducible rfl)
      try simp only [Act.put,List.setIfInBounds_toArray,List.set_cons_zero,List.set_cons_succ]
      refine wpAnyH_take (i:=16) (oi:={ dst:=some 72,op:=Op.move (Operand.tmp 71),type:=4,pos:= "law.go:143",after:=#[{ on:=15,ground:=Ground.data },{ on:=12,ground:=Ground.chain }],guard:=none }) (v:=?vr16) rfl (by kernel_rfl) (by kernel_rfl) (by kernel_rfl) (fun _ _ _ h=>h) (Or.inl ⟨by rfl,?hr16⟩) (by assumption) ?rr16
      case hr16=>(intro w hSw; (try dsimp only at hSw); go_simp; try with_reducible rfl)
      try simp only [Act.put,List.setIfInBounds_toArray,List.set_cons_zero,List.set_cons_succ]
      refine wpAnyH_ready (rs:=[17]) (by kernel_rfl) (by simp) ?_
      refine AllReadyH.cons (o:={ dst:=some 73,op:=Op.call { callee:=Callee.value (Operand.func 13),args:=#[],argTypes:=#[] },type:=4,pos:= "law.go:143",after:=#[{ on:=16,ground:=Ground.chain },{ on:=16,ground:=Ground.guard }],guard:=some (16,true) }) rfl (fun K hK=>?_) AllReadyH.nil
      go_simp
      refine (show Calls _ _ _ _ _ from HSU.out).mono ?_
      rintro r w6 ⟨rfl,hb6⟩
      have HB6:Hid (Below w.heap.size w w6):=bel_to HB5.out.drew hb6 (Nat.le_refl _)
      go_wp2_with fail
      refine hK.out _ _ ?_ (fun hHeld=>?_)
      · exact trivial
      clear hK K
      try simp only [Act.put,List.setIfInBounds_toArray,List.set_cons_zero,List.set_cons_succ]
      refine wpAnyH_take (i:=18) (oi:={ dst:=some 74,op:=Op.pick (Operand.tmp 72) (Operand.tmp 73) (Operand.const (Value.bool false)),type:=4,pos:= "law.go:143",after:=#[{ on:=16,ground:=Ground.data },{ on:=17,ground:=Ground.data }],guard:=none }) (v:=?vr18) rfl (by kernel_rfl) (by kernel_rfl) (by kernel_rfl) (fun _ _ _ h=>h) (Or.inl ⟨by rfl,?hr18⟩) (by assumption) ?rr18
      case hr18=>(intro w hSw; (try dsimp only at hSw); go_simp; try with_reducible rfl)
      try simp only [Act.put,List.setIfInBounds_toArray,List.set_cons_zero,List.set_cons_succ]
      refine wpAnyH_take (i:=19) (oi:={ dst:=some 6,op:=Op.assign (Operand.tmp 74),type:=4,pos:= "law.go:143",after:=#[{ on:=18,ground:=Ground.data },{ on:=17,ground:=Ground.chain },{ on:=0,ground:=Ground.phase },{ on:=1,ground:=Ground.phase },{ on:=2,ground:=Ground.phase },{ on:=3,ground:=Ground.phase },{ on:=4,ground:=Ground.phase },{ on:=5,ground:=Ground.phase },{ on:=6,ground:=Ground.phase },{ on:=7,ground:=Ground.phase },{ on:=8,ground:=Ground.phase },{ on:=9,ground:=Ground.phase },{ on:=10,ground:=Ground.phase },{ on:=11,ground:=Ground.phase },{ on:=12,ground:=Ground.phase },{ on:=13,ground:=Ground.phase },{ on:=14,ground:=Ground.phase },{ on:=15,ground:=Ground.phase },{ on:=16,ground:=Ground.phase },{ on:=17,ground:=Ground.phase },{ on:=18,ground:=Ground.phase }],guard:=none }) (v:=?vr19) rfl (by kernel_rfl) (by kernel_rfl) (by kernel_rfl) (fun _ _ _ h=>h) (Or.inl ⟨by rfl,?hr19⟩) (by assumption) ?rr19
      case hr19=>(intro w hSw; (try dsimp only at hSw); go_simp; try with_reducible rfl)
      try simp only [Act.put,List.setIfInBounds_toArray,List.set_cons_zero,List.set_cons_succ]
      refine wpAnyH_done (by kernel_rfl) ?_ _
      refine NoPanic.normal ?_
      clear hb6
      go_wp2
      go_returns
      exact ⟨rfl,HB6.out⟩
end Go.Proofs.YtijambehfobopaaGreatDoor
namespace Go.Proofs.YtijambehfobopaaGreatDoor
open Go.RowKit
set_option linter.unusedVariables false
set_option linter.unusedSimpArgs false
set_option maxHeartbeats 8000000 in
set_option maxRecDepth 100000 in
theorem Loads_good (e b:Int) (P:Option Addr) (c:Nat) (ps:List ByteArray) (hln:ps.length * 16 ≤ 140737488351232) (hnil:∀ c',Value.slice P ps.length c=.slice none 0 c' → c'=0) (w:World) (hw:Lay w) (hS:SRow w (.slice P ps.length c) ps)
    (E B:Nat) (N:QM.NL) (hG:∀ X ∈ N,Fit X) (hx:∀ x ∈ N,x.length ≤ 4096∧∀ t ∈ x,t.size ≤ 524288) (hn1:N.length ≤ 1048576) (hfl:N.flatten.length ≤ 1048576) (hp:∀ W (MP:Option Addr) (mc:Nat),Lay W → (∀ j (hj:j < ps.length),∃ Y,MP=some ⟨Y,0,none⟩∧W.cell? ⟨Y,j,none⟩=some (.string ps[j])) → Calls Tryz.prog 5 #[.int .i64 e,.int .i64 b,.slice MP ps.length mc] W fun r w'=>(∃ g,r=.returned (.tuple #[ptr g,.int .i64 0])∧LN w' W.heap.size g E B N)∧Below W.heap.size W w')
    (hd:∀ W,SRow W (.slice P ps.length c) ps → Calls Tryz.prog 6 #[.int .i64 e,.int .i64 b,.slice P ps.length c] W fun r w'=>(∃ v,r=.returned (.tuple #[rlV E B v,.int .i64 0])∧RL (fun k=>W.heap.size ≤ k) w' v N)∧Below W.heap.size W w') :
    Calls Tryz.prog 3 #[.int .i64 e,.int .i64 b,.slice P ps.length c] w fun r w'=>r=.returned (.bool true)∧Below w.heap.size w w':=by
  have HW:Hid (Lay w):=hw
  have HSR:Hid (SRow w (.slice P ps.length c) ps):=hS
  have HNIL:Hid _:=hnil
  have HP:Hid _:=hp
  have HD:Hid _:=hd
  have HND:Hid (∀ (b0 g:Nat) W,LN W b0 g E B N → Calls Tryz.prog 9 #[ptr g] W fun e w'=>∃ v,e=.returned v∧SRow w' v (N.map packN)∧Below W.heap.size W w'):=fun b0 g W hW=>NodesL hG (by omega) W hW
  have HNR:Hid (∀ (ok:Nat → Prop) (v:Value) W,RL ok W v N → Calls Tryz.prog 10 #[rlV E B v] W fun e w'=>∃ v',e=.returned v'∧SRow w' v' (N.map packN)∧Below W.heap.size W w'):=fun ok v W hW=>rNodesL E B v N hx (by omega) W hW
  have HLE:Hid (∀ (b0 g:Nat) W,LN W b0 g E B N → Calls Tryz.prog 11 #[ptr g] W fun e w'=>e=.returned (.int .i64 (N.flatten.length:Int))∧Below W.heap.size W w'):=fun b0 g W hW=>LenM W hW
  have HLR:Hid (∀ (ok:Nat → Prop) (v:Value) W,RL ok W v N → Calls Tryz.prog 12 #[rlV E B v] W fun e w'=>e=.returned (.int .i64 (N.flatten.length:Int))∧Below W.heap.size W w'):=fun ok v W hW=>rlenB E B v N (by omega) (by omega) W hW
  have HSQ:Hid (∀ W va vb,SRow W va (N.map packN) → SRow W vb (N.map packN) → Calls Tryz.prog 8 #[va,vb] W fun e w'=>e=.returned (.bool true)∧Below W.heap.size W w'):=fun W va vb h1 h2=>sameR (by simp; omega) W va vb h1 h2
  generalize N.flatten.length=FL at *
  clear hp hd hG hx
  have hb0:Below w.heap.size w (w.alloc (.cells #[] 9)):=(Below.refl _ _).alloc (Nat.le_refl _) _
  have HB0:Hid (Below w.heap.size w (w.alloc (.cells #[] 9))):=hb0
  have HON:Hid ((w.alloc (.cells #[] 9)).ownsRow w.heap.size 9 1 (.slice (some ⟨w.heap.size,0,none⟩) 0 0) 0 []):=⟨rfl,Or.inr ⟨w.heap.size,0,#[],rfl,Nat.le_refl _,one_alloc _ _,Nat.le_refl _,by unfold maxLen; omega,rfl,rfl⟩⟩
  have HS0:Hid (SRow (w.alloc (.cells #[] 9)) (.slice P ps.length c) ps):=hS.on hb0
  obtain ⟨n,hn⟩:∃ n,ps.length=n:=⟨_,rfl⟩
  have HNN:Hid (ps.length=n):=hn
  clear hS hw hnil hb0
  rw [hn] at hln HSR HNIL HS0 ⊢
  clear hn
  go_enter Tryz.func3,Tryz.ntmps3
  go_wp2_with (at_builtin; go_must (refine append_srowL rfl _ _ rfl w.heap.size (.slice (some ⟨w.heap.size,0,none⟩) 0 0) 0 [] rfl HON.out (.slice P n c) ps rfl HS0.out HNIL.out (by rw [HNN.out]; omega) HB0.out.size ?_))
  intro v' w1 hown hgr
  simp only [Nat.zero_add,List.nil_append,HNN.out] at hown
  obtain ⟨MP,mc,hmv⟩:=own_form hown
  subst hmv
  have HB1:Hid (Below w.heap.size w w1):=HB0.out.grown hgr HB0.out.size (fun b hb=>by simp [Value.ownBlock] at hb; omega)
  have HOW:Hid (w1.ownsRow w.heap.size 9 1 (.slice MP n mc) n (ps.map Value.string)):=hown
  have HMR:Hid (∀ j (hj:j < ps.length),∃ Y,MP=some ⟨Y,0,none⟩∧w1.cell? ⟨Y,j,none⟩=some (.string ps[j])):=fun j hj=>by
    rcases hown.2 with ⟨_,e2⟩ | ⟨gg,cap,cur,e2,_,r2,_,_,_,r6⟩
    · have:=HNN.out; omega
    · injection e2 with e3 _ _
      refine ⟨gg,e3,?_⟩
      rw [cell_of_row _ _ _ _ _ _ r2,← Array.getElem?_toList,← List.getElem?_take_of_lt (show j < n * 1 by have:=HNN.out; omega),r6]
      simp [hj]
  have HMB:Hid (∀ Y,(Value.slice MP n mc).ownBlock=some Y → w.heap.size ≤ Y∧Y < w1.heap.size):=fun Y hY=>by
    obtain ⟨q1,cur,q2⟩:=own_cells hown Y hY
    exact ⟨q1,row_lt q2⟩
  clear hown hgr HON HS0
  have HPL:Hid (Calls Tryz.prog 5 #[.int .i64 e,.int .i64 b,.slice MP n mc] w1 fun r w'=>(∃ g,r=.returned (.tuple #[ptr g,.int .i64 0])∧LN w' w1.heap.size g E B N)∧Below w1.heap.size w1 w'):=by
    have h9:=HP.out w1 MP mc (HW.out.on HB1.out) HMR.out
    rw [HNN.out] at h9; exact h9
  go_wp2_with fail
  refine (show Calls _ _ _ _ _ from HPL.out).mono ?_
  rintro r w2 ⟨⟨g,rfl,hLN⟩,hb2⟩
  have HB2:Hid (Below w1.heap.size w1 w2):=hb2
  have HLN2:Hid (LN w2 w1.heap.size g E B N):=hLN
  have HDL:Hid (Calls Tryz.prog 6 #[.int .i64 e,.int .i64 b,.slice P n c] w2 fun r w'=>(∃ v,r=.returned (.tuple #[rlV E B v,.int .i64 0])∧RL (fun k=>w2.heap.size ≤ k) w' v N)∧Below w2.heap.size w2 w'):=by
    have h9:=HD.out w2 (by rw [HNN.out]; exact HSR.out.on (bel_to HB1.out hb2 (Nat.le_refl _)))
    rw [HNN.out] at h9; exact h9
  clear hb2 hLN
  go_wp2_with fail
  refine (show Calls _ _ _ _ _ from HDL.out).mono ?_
  rintro r w3 ⟨⟨v,rfl,hRL⟩,hb3⟩
  obtain ⟨VP,vc,hvf⟩:=hRL.form
  obtain ⟨VL,hVL⟩:∃ VL,N.length=VL:=⟨_,rfl⟩
  rw [hVL] at hvf
  subst hvf
  obtain ⟨W3,hW3⟩:∃ W,W=w3.alloc (.cells #[.int .i64 (E:Int),.int .i64 (B:Int),.slice VP VL vc] 29):=⟨_,rfl⟩
  have hb3a:Below w3.heap.size w3 W3:=by rw [hW3]; exact (Below.refl _ _).alloc (Nat.le_refl _) _
  have HB3:Hid (Below w1.heap.size w1 W3):=bel_to (bel_to HB2.out hb3 (Nat.le_refl _)) hb3a (Nat.le_refl _)
  obtain ⟨db,hdb⟩:∃ d,w3.heap.size=d:=⟨_,rfl⟩
  have HDB:Hid (w3.heap.size=db):=hdb
  have HRD:Hid (W3.heap[db]?=some (.cells #[.int .i64 (E:Int),.int .i64 (B:Int),.slice VP VL vc] 29)):=by show _=_; rw [hW3,← hdb]; exact one_alloc _ _
  have HRL3:Hid (RL (fun k=>w2.heap.size ≤ k) W3 (.slice VP VL vc) N):=hRL.on hb3a
  have HLN3:Hid (LN W3 w1.heap.size g E B N):=HLN2.out.same (fun k _ hk=>(bel_to hb3 hb3a (Nat.le_refl _)).block k hk)
  have HS12:Hid (w1.heap.size ≤ w2.heap.size∧w2.heap.size ≤ db):=⟨HB2.out.size,by rw [← hdb]; exact hb3.size⟩
  have HNU:Hid _:=num_any 0 W3
  have HOW3:Hid (W3.ownsRow w.heap.size 9 1 (.slice MP n mc) n (ps.map Value.string)):=own_on HOW.out HB3.out
  have HSM:Hid (Calls Tryz.prog 8 #[.slice MP n mc,.slice P n c] W3 fun e w'=>e=.returned (.bool true)∧Below W3.heap.size W3 w'):=sameR (R:=ps) (by rw [HNN.out]; omega) W3 _ _ (srow_of_own HOW3.out HNN.out.symm) (HSR.out.on (bel_to HB1.out HB3.out (Nat.le_refl _)))
  clear hb3 hb3a hRL hdb hVL
  go_wp2_with fail
  rw [← hW3,HDB.out]
  clear hW3
  refine (show Calls _ _ _ _ _ from HNU.out).mono ?_
  rintro r w4 ⟨rfl,hw4⟩
  have hw4:=hw4.symm
  subst hw4
  go_wp2_with fail
  refine (show Calls _ _ _ _ _ from HSM.out).mono ?_
  rintro r W4 ⟨rfl,hb4⟩
  have HB34:Hid (Below W3.heap.size W3 W4):=hb4
  have HB4:Hid (Below w.heap.size w W4):=bel_to HB1.out (bel_to HB3.out hb4 (Nat.le_refl _)) (Nat.le_refl _)
  have HCU:Hid (∀ Y,(Value.slice MP n mc).ownBlock=some Y → ∃ cur:Array Value,W4.heap[Y]?=some (.cells cur 9)∧n ≤ cur.size):=fun Y hY=>by
    rcases (own_on HOW3.out hb4).2 with ⟨e2,_⟩ | ⟨gg,cap,cur,e2,_,r2,r3,_,r5,_⟩
    · rw [e2] at hY; cases hY
    · rw [e2] at hY
      have:gg=Y:=by simpa [Value.ownBlock] using hY
      subst this
      exact ⟨cur,r2,by omega⟩
  clear hb4
  go_wp2
  go_loopw [12] (fun ci wr=>∃ i:Nat,(i ≤ n∧Fr W4 wr (fun k=>(Value.slice MP n mc).ownBlock=some k)∧(∀ Y,(Value.slice MP n mc).ownBlock=some Y → ∃ cur:Array Value,wr.heap[Y]?=some (.cells cur 9)∧n ≤ cur.size))∧ci=.int .i64 (i:Int)) (fun ci _=>n - (intOf ci).toNat)
  case atStart=>exact ⟨0,⟨Nat.zero_le _,⟨rfl,rfl,rfl,Nat.le_refl _,fun _ _ _=>rfl⟩,HCU.out⟩,rfl⟩
  case round =>
    obtain ⟨i,⟨hi,hF,hC⟩,rfl⟩:=hrel
    have HF:Hid (Fr W4 wr (fun k=>(Value.slice MP n mc).ownBlock=some k)):=hF
    have HC:Hid (∀ Y,(Value.slice MP n mc).ownBlock=some Y → ∃ cur:Array Value,wr.heap[Y]?=some (.cells cur 9)∧n ≤ cur.size):=hC
    by_cases hlt:i < n
    · obtain ⟨mb,hMP,_⟩:=HMR.out i (by rw [HNN.out]; exact hlt)
      subst hMP
      obtain ⟨cur,q1,q2⟩:=hC mb rfl
      have hz0:(0:Int) ≤ (i:Int):=by omega
      have hz1:(i:Int) < (n:Int):=by omega
      have hiw:IntKind.i64.wrap ((i:Int) + 1)=(i:Int) + 1:=by rw [IntKind.wrap_i64] <;> omega
      have y0:∃ u,wr.cell? ⟨mb,i,none⟩=some u:=by rw [cell_of_row _ _ _ _ _ _ q1]; exact ⟨cur[i]'(by omega),by simp [show i < cur.size by omega]⟩
      obtain ⟨u,y0⟩:=y0
      have yf:wr.frozen? ⟨mb,i,none⟩=false:=frozen_of_row _ _ _ _ _ q1
      have HF2:Hid (Fr W4 (wr.setCell ⟨mb,i,none⟩ (.string ⟨#[115,112,111,105,108,116]⟩)) (fun k=>(Value.slice (some ⟨mb,0,none⟩) n mc).ownBlock=some k)):=hF.trans (Fr.set _ _ rfl)
      have HC2:Hid (∀ Y,(Value.slice (some ⟨mb,0,none⟩) n mc).ownBlock=some Y → ∃ cur:Array Value,(wr.setCell ⟨mb,i,none⟩ (.string ⟨#[115,112,111,105,108,116]⟩)).heap[Y]?=some (.cells cur 9)∧n ≤ cur.size):=fun Y hY=>by
        have e1:mb=Y:=by simpa [Value.ownBlock] using hY
        subst e1
        exact ⟨_,heap_setCell_same _ _ _ _ _ _ q1,by simpa using q2⟩
      clear hF hC q1 q2
      go_wp2
      go_roundw
      case rel=>exact ⟨i + 1,⟨hlt,HF2.out,HC2.out⟩,rfl⟩
      case measure=>simp [intOf]; omega
    · have hz1:¬ (i:Int) < (n:Int):=by omega
      have HB5:Hid (Below w.heap.size w wr):=fr_bel HB4.out hF (fun k hk=>(HMB.out k hk).1) (Nat.le_refl _)
      have hFb:∀ k,w1.heap.size ≤ k → k < W4.heap.size → wr.heap[k]?=W4.heap[k]?:=fun k hk hk2=>hF.block k hk2 (fun e=>by have:=(HMB.out k e).2; omega)
      have HLNr:Hid (LN wr w1.heap.size g E B N):=(HLN3.out.same (fun k _ hk=>HB34.out.block k hk)).same (fun k h1 h2=>hFb k h1 h2)
      have HRLr:Hid (RL (fun k=>w2.heap.size ≤ k) wr (.slice VP VL vc) N):=(HRL3.out.on HB34.out).fr hF (fun k hk e=>by have:=(HMB.out k e).2; have:=HS12.out.1; omega)
      have HRDr:Hid (wr.heap[db]?=some (.cells #[.int .i64 (E:Int),.int .i64 (B:Int),.slice VP VL vc] 29)):=by
        have h1:=keep_row HRD.out HB34.out
        have:=HS12.out
        exact (hFb db (by omega) (row_lt h1)).trans h1
      have HKS:Hid (∀ W,Below wr.heap.size wr W → W.cell? ⟨db,0,none⟩=some (.int .i64 (E:Int))∧W.cell? ⟨db,1,none⟩=some (.int .i64 (B:Int))∧W.cell? ⟨db,2,none⟩=some (.slice VP VL vc)):=fun W hW=>by
        obtain ⟨q0,q1,q2,_⟩:=row3 (keep_row HRDr.out hW)
        exact ⟨q0,q1,q2⟩
      have HXD:Hid (Below wr.heap.size wr wr.drew):=(Below.refl _ wr).drew
      have HLY:Hid (∀ W,Below wr.heap.size wr W → Lay W):=fun W hW=>HW.out.on (bel_to HB5.out hW (Nat.le_refl _))
      have HSU:Hid (∀ W,Below wr.heap.size wr W → Calls Tryz.prog 13 #[] W fun e w'=>e=.returned (.bool true)∧Below W.heap.size W w'):=fun W hW=>sure_any W (HLY.out W hW)
      have HN1:Hid (∀ W,Below wr.heap.size wr W → Calls Tryz.prog 9 #[ptr g] W fun e w'=>∃ v,e=.returned v∧SRow w' v (N.map packN)∧Below W.heap.size W w'):=fun W hW=>HND.out _ g W (HLNr.out.same (fun k _ hk=>hW.block k hk))
      have HN2:Hid (∀ W,Below wr.heap.size wr W → Calls Tryz.prog 10 #[rlV E B (.slice VP VL vc)] W fun e w'=>∃ v',e=.returned v'∧SRow w' v' (N.map packN)∧Below W.heap.size W w'):=fun W hW=>HNR.out _ _ W (HRLr.out.on hW)
      have HN3:Hid (∀ W,Below wr.heap.size wr W → Calls Tryz.prog 11 #[ptr g] W fun e w'=>e=.returned (.int .i64 (FL:Int))∧Below W.heap.size W w'):=fun W hW=>HLE.out _ g W (HLNr.out.same (fun k _ hk=>hW.block k hk))
      have HN4:Hid (∀ W,Below wr.heap.size wr W → Calls Tryz.prog 12 #[rlV E B (.slice VP VL vc)] W fun e w'=>e=.returned (.int .i64 (FL:Int))∧Below W.heap.size W w'):=fun W hW=>HLR.out _ _ W (HRLr.out.on hW)
      have hSB:=HKS.out _ HXD.out
      clear hF hC hFb
      go_upto_region 10 with fail
      refine wp_region_noPanic ?_
      refine wp_region_held_drew (S:=(fun W:World=>W.cell? ⟨db,0,none⟩=some (.int .i64 (E:Int))∧W.cell? ⟨db,1,none⟩=some (.int .i64 (B:Int))∧W.cell? ⟨db,2,none⟩=some (.slice VP VL vc))) (by kernel_rfl) ?_ (fun hHeld=>?_)
      · exact hSB
      refine wpAnyH_take (i:=0) (oi:={ dst:=some 56,op:=Op.move (Operand.tmp 8),type:=23,pos:= "law.go:143",after:=#[],guard:=none }) (v:=?vr0) rfl (by kernel_rfl) (by kernel_rfl) (by kernel_rfl) (fun _ _ _ h=>h) (Or.inl ⟨by rfl,?hr0⟩) (by assumption) ?rr0
      case hr0=>(intro w hSw; (try dsimp only at hSw); go_simp; try with_reducible rfl)
      try simp only [Act.put,List.setIfInBounds_toArray,List.set_cons_zero,List.set_cons_succ]
      refine wpAnyH_take (i:=1) (oi:={ dst:=some 57,op:=Op.binOp BinOp.eql 23 (Operand.tmp 56) (Operand.const (Value.pointer none)) 23,type:=4,pos:= "law.go:143",after:=#[{ on:=0,ground:=Ground.data }],guard:=none }) (v:=?vr1) rfl (by kernel_rfl) (by kernel_rfl) (by kernel_rfl) (fun _ _ _ h=>h) (Or.inl ⟨by rfl,?hr1⟩) (by assumption) ?rr1
      case hr1=>(intro w hSw; (try dsimp only at hSw); go_simp; try with_reducible rfl)
      try simp only [Act.put,List.setIfInBounds_toArray,List.set_cons_zero,List.set_cons_succ]
      refine wpAnyH_take (i:=2) (oi:={ dst:=some 58,op:=Op.move (Operand.tmp 57),type:=4,pos:= "law.go:143",after:=#[{ on:=1,ground:=Ground.data }],guard:=none }) (v:=?vr2) rfl (by kernel_rfl) (by kernel_rfl) (by kernel_rfl) (fun _ _ _ h=>h) (Or.inl ⟨by rfl,?hr2⟩) (by assumption) ?rr2
      case hr2=>(intro w hSw; (try dsimp only at hSw); go_simp; try with_reducible rfl)
      try simp only [Act.put,List.setIfInBounds_toArray,List.set_cons_zero,List.set_cons_succ]
      refine wpAnyH_take (i:=3) (oi:={ dst:=some 59,op:=Op.move (Operand.tmp 8),type:=23,pos:= "law.go:143",after:=#[{ on:=2,ground:=Ground.guard }],guard:=some (2,false) }) (v:=?vr3) rfl (by kernel_rfl) (by kernel_rfl) (by kernel_rfl) (fun _ _ _ h=>h) (Or.inl ⟨by rfl,?hr3⟩) (by assumption) ?rr3
      case hr3=>(intro w hSw; (try dsimp only at hSw); go_simp; try with_reducible rfl)
      try simp only [Act.put,List.setIfInBounds_toArray,List.set_cons_zero,List.set_cons_succ]
      refine wpAnyH_take (i:=5) (oi:={ dst:=some 61,op:=Op.load 29 (Operand.tmp 10),type:=29,pos:= "law.go:143",after:=#[{ on:=2,ground:=Ground.guard }],guard:=some (2,false) }) (v:=?vr5) rfl (by kernel_rfl) (by kernel_rfl) (by kernel_rfl) (fun _ _ _ h=>h) (Or.inl ⟨by rfl,?hr5⟩) (by assumption) ?rr5
      case hr5=>(intro w hSw; (try dsimp only at hSw); go_simp; try with_reducible rfl)
      try simp only [Act.put,List.setIfInBounds_toArray,List.set_cons_zero,List.set_cons_succ]
      refine wpAnyH_ready (rs:=[4]) (by kernel_rfl) (by simp) ?_
      refine AllReadyH.cons (o:={ dst:=some 60,op:=Op.call { callee:=Callee.value (Operand.func 9),args:=#[Operand.tmp 59],argTypes:=#[23] },type:=22,pos:= "law.go:143",after:=#[{ on:=3,ground:=Ground.data },{ on:=2,ground:=Ground.chain },{ on:=2,ground:=Ground.guard }],guard:=some (2,false) }) rfl (fun K hK=>?_) AllReadyH.nil
      go_simp
      refine (show Calls _ _ _ _ _ from HN1.out _ HXD.out).mono ?_
      rintro r a1 ⟨v1,rfl,s1,hb1⟩
      have x1:=bel_to HXD.out hb1 (Nat.le_refl _)
      go_wp2_with fail
      refine hK.out _ _ ?_ (fun hHeld=>?_)
      · exact (HKS.out _ x1)
      clear hK K
      try simp only [Act.put,List.setIfInBounds_toArray,List.set_cons_zero,List.set_cons_succ]
      refine wpAnyH_ready (rs:=[6]) (by kernel_rfl) (by simp) ?_
      refine AllReadyH.cons (o:={ dst:=some 62,op:=Op.call { callee:=Callee.value (Operand.func 10),args:=#[Operand.tmp 61],argTypes:=#[29] },type:=22,pos:= "law.go:143",after:=#[{ on:=5,ground:=Ground.data },{ on:=4,ground:=Ground.chain },{ on:=2,ground:=Ground.guard }],guard:=some (2,false) }) rfl (fun K hK=>?_) AllReadyH.nil
      go_simp
      refine (show Calls _ _ _ _ _ from HN2.out _ x1).mono ?_
      rintro r a2 ⟨v2,rfl,s2,hb2⟩
      have x2:=bel_to x1 hb2 (Nat.le_refl _)
      go_wp2_with fail
      refine hK.out _ _ ?_ (fun hHeld=>?_)
      · exact (HKS.out _ x2)
      clear hK K
      try simp only [Act.put,List.setIfInBounds_toArray,List.set_cons_zero,List.set_cons_succ]
      refine wpAnyH_ready (rs:=[7]) (by kernel_rfl) (by simp) ?_
      refine AllReadyH.cons (o:={ dst:=some 63,op:=Op.call { callee:=Callee.value (Operand.func 8),args:=#[Operand.tmp 60,Operand.tmp 62],argTypes:=#[22,22] },type:=4,pos:= "law.go:143",after:=#[{ on:=4,ground:=Ground.data },{ on:=6,ground:=Ground.data },{ on:=6,ground:=Ground.chain },{ on:=2,ground:=Ground.guard }],guard:=some (2,false) }) rfl (fun K hK=>?_) AllReadyH.nil
      go_simp
      refine (show Calls _ _ _ _ _ from HSQ.out _ _ _ (s1.on hb2) s2).mono ?_
      rintro r a3 ⟨rfl,hb3⟩
      have x3:=bel_to x2 hb3 (Nat.le_refl _)
      go_wp2_with fail
      refine hK.out _ _ ?_ (fun hHeld=>?_)
      · exact (HKS.out _ x3)
      clear hK K
      try simp only [Act.put,List.setIfInBounds_toArray,List.set_cons_zero,List.set_cons_succ]
      refine wpAnyH_take (i:=8) (oi:={ dst:=some 64,op:=Op.move (Operand.tmp 63),type:=4,pos:= "law.go:143",after:=#[{ on:=7,ground:=Ground.data },{ on:=7,ground:=Ground.chain },{ on:=2,ground:=Ground.guard }],guard:=some (2,false) }) (v:=?vr8) rfl (by kernel_rfl) (by kernel_rfl) (by kernel_rfl) (fun _ _ _ h=>h) (Or.inl ⟨by rfl,?hr8⟩) (by assumption) ?rr8
      case hr8=>(intro w hSw; (try dsimp only at hSw); go_simp; try with_reducible rfl)
      try simp only [Act.put,List.setIfInBounds_toArray,List.set_cons_zero,List.set_cons_succ]
      refine wpAnyH_take (i:=9) (oi:={ dst:=some 65,op:=Op.move (Operand.tmp 8),type:=23,pos:= "law.go:143",after:=#[{ on:=8,ground:=Ground.guard }],guard:=some (8,true) }) (v:=?vr9) rfl (by kernel_rfl) (by kernel_rfl) (by kernel_rfl) (fun _ _ _ h=>h) (Or.inl ⟨by rfl,?hr9⟩) (by assumption) ?rr9
      case hr9=>(intro w hSw; (try dsimp only at hSw); go_simp; try with_reducible rfl)
      try simp only [Act.put,List.setIfInBounds_toArray,List.set_cons_zero,List.set_cons_succ]
      refine wpAnyH_take (i:=11) (oi:={ dst:=some 67,op:=Op.load 29 (Operand.tmp 10),type:=29,pos:= "law.go:143",after:=#[{ on:=8,ground:=Ground.guard }],guard:=some (8,true) }) (v:=?vr11) rfl (by kernel_rfl) (by kernel_rfl) (by kernel_rfl) (fun _ _ _ h=>h) (Or.inl ⟨by rfl,?hr11⟩) (by assumption) ?rr11
      case hr11=>(intro w hSw; (try dsimp only at hSw); go_simp; try with_reducible rfl)
      try simp only [Act.put,List.setIfInBounds_toArray,List.set_cons_zero,List.set_cons_succ]
      refine wpAnyH_ready (rs:=[10]) (by kernel_rfl) (by simp) ?_
      refine AllReadyH.cons (o:={ dst:=some 66,op:=Op.call { callee:=Callee.value (Operand.func 11),args:=#[Operand.tmp 65],argTypes:=#[23] },type:=3,pos:= "law.go:143",after:=#[{ on:=9,ground:=Ground.data },{ on:=8,ground:=Ground.chain },{ on:=8,ground:=Ground.guard }],guard:=some (8,true) }) rfl (fun K hK=>?_) AllReadyH.nil
      go_simp
      refine (show Calls _ _ _ _ _ from HN3.out _ x3).mono ?_
      rintro r a4 ⟨rfl,hb4⟩
      have x4:=bel_to x3 hb4 (Nat.le_refl _)
      go_wp2_with fail
      refine hK.out _ _ ?_ (fun hHeld=>?_)
      · exact (HKS.out _ x4)
      clear hK K
      try simp only [Act.put,List.setIfInBounds_toArray,List.set_cons_zero,List.set_cons_succ]
      refine wpAnyH_ready (rs:=[12]) (by kernel_rfl) (by simp) ?_
      refine AllReadyH.cons (o:={ dst:=some 68,op:=Op.call { callee:=Callee.value (Operand.func 12),args:=#[Operand.tmp 67],argTypes:=#[29] },type:=3,pos:= "law.go:143",after:=#[{ on:=11,ground:=Ground.data },{ on:=10,ground:=Ground.chain },{ on:=8,ground:=Ground.guard }],guard:=some (8,true) }) rfl (fun K hK=>?_) AllReadyH.nil
      go_simp
      refine (show Calls _ _ _ _ _ from HN4.out _ x4).mono ?_
      rintro r a5 ⟨rfl,hb5⟩
      have x5:=bel_to x4 hb5 (Nat.le_refl _)
      go_wp2_with fail
      refine hK.out _ _ ?_ (fun hHeld=>?_)
      · exact (HKS.out _ x5)
      clear hK K
      try simp only [Act.put,List.setIfInBounds_toArray,List.set_cons_zero,List.set_cons_succ]
      refine wpAnyH_take (i:=13) (oi:={ dst:=some 69,op:=Op.binOp BinOp.eql 3 (Operand.tmp 66) (Operand.tmp 68) 3,type:=4,pos:= "law.go:143",after:=#[{ on:=10,ground:=Ground.data },{ on:=12,ground:=Ground.data },{ on:=8,ground:=Ground.guard }],guard:=some (8,true) }) (v:=?vr13) rfl (by kernel_rfl) (by kernel_rfl) (by kernel_rfl) (fun _ _ _ h=>h) (Or.inl ⟨by rfl,?hr13⟩) (by assumption) ?rr13
      case hr13=>(intro w hSw; (try dsimp only at hSw); go_simp; try with_reducible rfl)
      try simp only [Act.put,List.setIfInBounds_toArray,List.set_cons_zero,List.set_cons_succ]
      refine wpAnyH_take (i:=14) (oi:={ dst:=some 70,op:=Op.pick (Operand.tmp 64) (Operand.tmp 69) (Operand.const (Value.bool false)),type:=4,pos:= "law.go:143",after:=#[{ on:=8,ground:=Ground.data },{ on:=13,ground:=Ground.data },{ on:=2,ground:=Ground.guard }],guard:=some (2,false) }) (v:=?vr14) rfl (by kernel_rfl) (by kernel_rfl) (by kernel_rfl) (fun _ _ _ h=>h) (Or.inl ⟨by rfl,?hr14⟩) (by assumption) ?rr14
      case hr14=>(intro w hSw; (try dsimp only at hSw); go_simp; try with_reducible rfl)
      try simp only [Act.put,List.setIfInBounds_toArray,List.set_cons_zero,List.set_cons_succ]
      refine wpAnyH_take (i:=15) (oi:={ dst:=some 71,op:=Op.pick (Operand.tmp 58) (Operand.const (Value.bool true)) (Operand.tmp 70),type:=4,pos:= "law.go:143",after:=#[{ on:=2,ground:=Ground.data },{ on:=14,ground:=Ground.data }],guard:=none }) (v:=?vr15) rfl (by kernel_rfl) (by kernel_rfl) (by kernel_rfl) (fun _ _ _ h=>h) (Or.inl ⟨by rfl,?hr15⟩) (by assumption) ?rr15
      case hr15=>(intro w hSw; (try dsimp only at hSw); go_simp; try with_reducible rfl)
      try simp only [Act.put,List.setIfInBounds_toArray,List.set_cons_zero,List.set_cons_succ]
      refine wpAnyH_take (i:=16) (oi:={ dst:=some 72,op:=Op.move (Operand.tmp 71),type:=4,pos:= "law.go:143",after:=#[{ on:=15,ground:=Ground.data },{ on:=12,ground:=Ground.chain }],guard:=none }) (v:=?vr16) rfl (by kernel_rfl) (by kernel_rfl) (by kernel_rfl) (fun _ _ _ h=>h) (Or.inl ⟨by rfl,?hr16⟩) (by assumption) ?rr16
      case hr16=>(intro w hSw; (try dsimp only at hSw); go_simp; try with_reducible rfl)
      try simp only [Act.put,List.setIfInBounds_toArray,List.set_cons_zero,List.set_cons_succ]
      refine wpAnyH_ready (rs:=[17]) (by kernel_rfl) (by simp) ?_
      refine AllReadyH.cons (o:={ dst:=some 73,op:=Op.call { callee:=Callee.value (Operand.func 13),args:=#[],argTypes:=#[] },type:=4,pos:= "law.go:143",after:=#[{ on:=16,ground:=Ground.chain },{ on:=16,ground:=Ground.guard }],guard:=some (16,true) }) rfl (fun K hK=>?_) AllReadyH.nil
      go_simp
      refine (show Calls _ _ _ _ _ from HSU.out _ x5).mono ?_
      rintro r a6 ⟨rfl,hb6⟩
      have x6:=bel_to x5 hb6 (Nat.le_refl _)
      go_wp2_with fail
      refine hK.out _ _ ?_ (fun hHeld=>?_)
      · exact (HKS.out _ x6)
      clear hK K
      try simp only [Act.put,List.setIfInBounds_toArray,List.set_cons_zero,List.set_cons_succ]
      refine wpAnyH_take (i:=18) (oi:={ dst:=some 74,op:=Op.pick (Operand.tmp 72) (Operand.tmp 73) (Operand.const (Value.bool false)),type:=4,pos:= "law.go:143",after:=#[{ on:=16,ground:=Ground.data },{ on:=17,ground:=Ground.data }],guard:=none }) (v:=?vr18) rfl (by kernel_rfl) (by kernel_rfl) (by kernel_rfl) (fun _ _ _ h=>h) (Or.inl ⟨by rfl,?hr18⟩) (by assumption) ?rr18
      case hr18=>(intro w hSw; (try dsimp only at hSw); go_simp; try with_reducible rfl)
      try simp only [Act.put,List.setIfInBounds_toArray,List.set_cons_zero,List.set_cons_succ]
      refine wpAnyH_take (i:=19) (oi:={ dst:=some 6,op:=Op.assign (Operand.tmp 74),type:=4,pos:= "law.go:143",after:=#[{ on:=18,ground:=Ground.data },{ on:=17,ground:=Ground.chain },{ on:=0,ground:=Ground.phase },{ on:=1,ground:=Ground.phase },{ on:=2,ground:=Ground.phase },{ on:=3,ground:=Ground.phase },{ on:=4,ground:=Ground.phase },{ on:=5,ground:=Ground.phase },{ on:=6,ground:=Ground.phase },{ on:=7,ground:=Ground.phase },{ on:=8,ground:=Ground.phase },{ on:=9,ground:=Ground.phase },{ on:=10,ground:=Ground.phase },{ on:=11,ground:=Ground.phase },{ on:=12,ground:=Ground.phase },{ on:=13,ground:=Ground.phase },{ on:=14,ground:=Ground.phase },{ on:=15,ground:=Ground.phase },{ on:=16,ground:=Ground.phase },{ on:=17,ground:=Ground.phase },{ on:=18,ground:=Ground.phase }],guard:=none }) (v:=?vr19) rfl (by kernel_rfl) (by kernel_rfl) (by kernel_rfl) (fun _ _ _ h=>h) (Or.inl ⟨by rfl,?hr19⟩) (by assumption) ?rr19
      case hr19=>(intro w hSw; (try dsimp only at hSw); go_simp; try with_reducible rfl)
      try simp only [Act.put,List.setIfInBounds_toArray,List.set_cons_zero,List.set_cons_succ]
      refine wpAnyH_done (by kernel_rfl) ?_ _
      refine NoPanic.normal ?_
      have HB6:Hid (Below w.heap.size w a6):=bel_to HB5.out x6 (Nat.le_refl _)
      clear hb1 hb2 hb3 hb4 hb5 hb6 x1 x2 x3 x4 x5 x6 s1 s2 hSB
      go_wp2
      go_returns
      exact ⟨rfl,HB6.out⟩
end Go.Proofs.YtijambehfobopaaGreatDoor
namespace Go.Proofs.YtijambehfobopaaGreatDoor
open Go.RowKit
set_option linter.unusedVariables false
set_option linter.unusedSimpArgs false
theorem srow_at {w:World} {P:Option Addr} {c:Nat} {ps:List ByteArray} (h:SRow w (.slice P ps.length c) ps):∀ j (hj:j < ps.length),∃ Y o,P=some ⟨Y,o,none⟩∧w.cell? ⟨Y,o + j,none⟩=some (.string ps[j]):=fun j hj=>by
  rcases h with ⟨rfl,_⟩ | ⟨g,o,c',e,hc⟩
  · simp at hj
  · injection e with e1 _ _
    exact ⟨g,o,e1,hc j hj⟩
/-- QuicklistLoads. -/
theorem Loads_walk (e b:Int) (v:Value) (ps:List ByteArray) (w:World) (hS:SRow w v ps) (hnil:∀ c,v=.slice none 0 c → c=0) (hln:ps.length * 16 ≤ 140737488351232) (hsz:∀ p ∈ ps,p.size ≤ 140737488351232) (hw:Lay w) :
    Calls Tryz.prog 3 #[.int .i64 e,.int .i64 b,v] w fun r w'=>r=.returned (.bool true)∧Below w.heap.size w w':=by
  obtain ⟨P,c,rfl⟩:=hS.form
  have hsz2:∀ p ∈ ps,p.size ≤ 281474976710656:=fun p hp=>Nat.le_trans (hsz p hp) (by omega)
  by_cases hm:mayB e b=true
  · obtain ⟨E,rfl⟩:∃ E:Nat,e=(E:Int):=⟨e.toNat,by unfold mayB at hm; simp at hm; omega⟩
    obtain ⟨B,rfl⟩:∃ B:Nat,b=(B:Int):=⟨b.toNat,by unfold mayB at hm; simp at hm; omega⟩
    have hE:E ≤ 4096:=by unfold mayB at hm; simp at hm; omega
    obtain ⟨N,hle,h1,h2,h3⟩:=good_prefix E B ps
    have hNl:N.length ≤ N.flatten.length:=QM.len_le (fun X hX=>by
      intro e0
      have:=(h1 X hX).2.1
      rw [e0] at this
      simp at this)
    by_cases hfl:N.flatten.length ≤ 1048576
    · by_cases hall:N.length=ps.length
      · refine Loads_good (E:Int) (B:Int) P c ps hln hnil w hw hS E B N (fun X hX=>(h1 X hX).1) (fun X hX=>⟨by have:=(h1 X hX).2.2.1; omega,(h1 X hX).1.short⟩) (by omega) (by omega) (fun W MP mc hL hrow=>?_) (fun W hSW=>?_)
        · refine (LoadM E B hm N ps h1 hfl (by omega) hsz2 hle h2 (fun h=>Or.inl (h3 h)) MP mc W hL hrow).mono ?_
          rintro r w' ⟨hr,hb⟩
          rw [if_pos hall] at hr
          exact ⟨hr,hb⟩
        · refine (rLoad E B hm N ps h1 (by omega) hsz hle h2 h3 P c W (srow_at hSW)).mono ?_
          rintro r w' ⟨hr,hb⟩
          rw [if_pos ⟨hall,hfl⟩] at hr
          exact ⟨hr,hb⟩
      · refine Loads_bad (E:Int) (B:Int) P c ps hln hnil w hw hS 70 (by decide) (fun W MP mc hL hrow=>?_) (fun W hSW=>?_)
        · refine (LoadM E B hm N ps h1 hfl (by omega) hsz2 hle h2 (fun h=>Or.inl (h3 h)) MP mc W hL hrow).mono ?_
          rintro r w' ⟨hr,hb⟩
          rw [if_neg hall] at hr
          exact ⟨hr,hb⟩
        · refine (rLoad E B hm N ps h1 (by omega) hsz hle h2 h3 P c W (srow_at hSW)).mono ?_
          rintro r w' ⟨hr,hb⟩
          rw [if_neg (fun h=>hall h.1)] at hr
          exact ⟨hr,hb⟩
    · obtain ⟨m,hmN,hm1,hm2⟩:=cutN N N.length (Nat.le_refl _) (by rw [List.take_length]; omega)
      have hlm:(N.take m).length=m:=by rw [List.length_take]; omega
      refine Loads_bad (E:Int) (B:Int) P c ps hln hnil w hw hS 70 (by decide) (fun W MP mc hL hrow=>?_) (fun W hSW=>?_)
      · refine (LoadM E B hm (N.take m) ps (fun X hX=>h1 X (List.mem_of_mem_take hX)) hm1 (by omega) hsz2 (by omega) (fun j hj=>?_) (fun h=>Or.inr ⟨N[m],?_,h1 _ (List.getElem_mem _),hm2⟩) MP mc W hL hrow).mono ?_
        · rw [List.getElem_take]; exact h2 j (by omega)
        · have h9:=h2 m hmN
          have e9:ps[(N.take m).length]'h=ps[m]'(by omega):=by congr 1
          rw [e9]; exact h9
        · rintro r w' ⟨hr,hb⟩
          rw [if_neg (by omega)] at hr
          exact ⟨hr,hb⟩
      · refine (rLoad E B hm N ps h1 (by omega) hsz hle h2 h3 P c W (srow_at hSW)).mono ?_
        rintro r w' ⟨hr,hb⟩
        rw [if_neg (fun h=>hfl h.2)] at hr
        exact ⟨hr,hb⟩
  · have hm':mayB e b=false:=by simpa using hm
    exact Loads_bad e b P c ps hln hnil w hw hS 1 (by decide) (fun W MP mc _ _=>Load_no e b hm' MP _ mc W) (fun W _=>rLoad_no e b hm' P _ c W)
end Go.Proofs.YtijambehfobopaaGreatDoor
