import Derived.Test.YtjnbjfjoejfmpaaGreatDoorWBF
import Derived.Deep.RegionHeld3
namespace Go.Proofs.YtjnbjfjoejfmpaaGreatDoor
open Go.RowKit
set_option linter.unusedVariables false
set_option linter.unusedSimpArgs false
abbrev spT:ByteArray:=⟨#[115,112,111,105,108,116]⟩
set_option maxHeartbeats 6000000 in
set_option maxRecDepth 100000 in
theorem play_yes (E B:Nat) (hm:mayB (E:Int) (B:Int)=true) (ad:Option Addr) (len cap G off:Nat) (klo khi:Int) (had:len ≠ 0 → ad=some ⟨G,off,none⟩) (hlen:len ≤ 9223372036854775807) (w:World) (hops:∀ i,i < len → ∃ o,OpAt w G off i o) (hw:Lay w):Calls Tryz.prog 18 #[.agg #[.int .i64 (E:Int),.int .i64 (B:Int),.slice ad len cap],.int .i64 klo,.int .i64 khi] w fun r w'=>r=.returned (.bool true)∧Below w.heap.size w w':=by
  obtain ⟨W0,hW0⟩:∃ W0,W0=w.alloc (.cells #[.int .i64 (E:Int),.int .i64 (B:Int),.slice ad len cap] 42):=⟨_,rfl⟩
  have HB0:Hid (Below w.heap.size w W0):=by show Below _ _ _; rw [hW0]; exact (Below.refl _ _).alloc (Nat.le_refl _) _
  have HC0:Hid (W0.heap[w.heap.size]?=some (.cells #[.int .i64 (E:Int),.int .i64 (B:Int),.slice ad len cap] 42)):=by show _=_; rw [hW0]; exact one_alloc _ _
  have HW:Hid (Lay w):=hw
  have HI0:Hid (QM.Inv E B []):=by
    have h:=hm
    unfold mayB at h; simp at h
    exact QM.Inv.empty (by omega) (by omega)
  have HN:Hid _:=New_yes E B hm W0
  have HRN:Hid _:=rnew_yes E B hm
  have HNU:Hid (∀ W,Calls Tryz.prog 11 #[.int .i64 0] W fun e w'=>e=.returned (.int .i64 0)∧w'=W):=fun W=>num_any 0 W
  have HOP:Hid (∀ i,i < len → ∃ o,OpAt w G off i o):=hops
  have HAD:Hid (len ≠ 0 → ad=some ⟨G,off,none⟩):=had
  clear hw hm hops had
  obtain ⟨c0,c1,c2,cf⟩:=row3 HC0.out
  go_enter Tryz.func18,Tryz.ntmps18
  go_upto_region 1 with fail
  rw [← hW0]
  clear hW0
  obtain ⟨cb,hcb⟩:∃ cb,w.heap.size=cb:=⟨_,rfl⟩
  rw [hcb] at c0 c1 c2 cf HC0 ⊢
  have HCB:Hid (w.heap.size=cb):=hcb
  clear hcb
  go_wp2_with fail
  refine (show Calls _ _ _ _ _ from HN.out).mono ?_
  rintro e1 w1 ⟨g,r,rfl,hL1,hb1⟩
  have HX1:Hid (Below W0.heap.size W0 w1):=hb1
  have HL1:Hid _:=hL1
  clear c0 c1 c2 cf hL1
  obtain ⟨c0,c1,c2,cf⟩:=row3 (keep_row HC0.out hb1)
  clear hb1
  go_wp2_with fail
  refine (show Calls _ _ _ _ _ from HRN.out _).mono ?_
  rintro e2 w2 ⟨rfl,hb2⟩
  clear c0 c1 c2 cf
  obtain ⟨W3,hW3⟩:∃ W3,W3=w2.alloc (.cells #[.int .i64 (E:Int),.int .i64 (B:Int),.slice none 0 0] 29):=⟨_,rfl⟩
  have HP3:Hid (PS W0 W3 w2.heap.size g r 1 [] (.slice none 0 0) E B 0 [] (.slice none 0 0)):=by
    refine PS.fst (N0:=[]) HL1.out HX1.out (bel_to hb2 (by rw [hW3]; exact (Below.refl _ _).alloc (Nat.le_refl _) _) (Nat.le_refl _)) hb2.size (by rw [hW3]; exact one_alloc _ _) HI0.out (fun ok=>⟨[],Or.inl ⟨rfl,rfl⟩,trivial⟩)
  clear hb2
  go_upto_region 3 with fail
  rw [← hW3]
  clear hW3
  obtain ⟨kd,hkd⟩:∃ kd,w2.heap.size=kd:=⟨_,rfl⟩
  rw [hkd] at HP3 ⊢
  clear hkd
  go_wp2_with fail
  refine (show Calls _ _ _ _ _ from HNU.out _).mono ?_
  rintro e3 w3 ⟨rfl,hw3⟩
  have hw3':=hw3.symm; subst hw3'
  go_wp2
  go_loopw [11] (fun ci wr=>∃ (i:Nat) (nv dv:Value) (N:QM.NL),i ≤ 150∧ci=.int .i64 (i:Int)∧PS W0 wr kd g r 1 [] nv E B i N dv) (fun ci _=>150 - (intOf ci).toNat)
  case atStart=>exact ⟨0,_,_,[],by omega,rfl,HP3.out⟩
  case round =>
    obtain ⟨i,nv,dv,N,hi,rfl,hP⟩:=hrel
    have HP:Hid (PS W0 wr kd g r 1 [] nv E B i N dv):=hP
    have HBw:Hid (Below w.heap.size w wr):=bel_to HB0.out hP.bel (Nat.le_refl _)
    obtain ⟨Pd,cd,hdv⟩:=hP.rl.form
    subst hdv
    obtain ⟨n,hn⟩:∃ n,N.length=n:=⟨_,rfl⟩
    rw [hn] at HP
    obtain ⟨c0,c1,c2,cf⟩:=row3 (keep_row HC0.out hP.bel)
    clear hP hn
    by_cases hlt:i < len∧i < 150
    · obtain ⟨h1,h2⟩:=hlt
      have hae:=HAD.out (by omega)
      subst hae
      obtain ⟨o,hop⟩:=HOP.out i h1
      have hop:=hop.keep HBw.out
      have HOK:Hid (o.t.size ≤ 140737488351232∧i64B o.a∧i64B o.b):=⟨hop.t,hop.a,hop.b⟩
      obtain ⟨ok,oa,ob,ot,of⟩:=o
      obtain ⟨d0,d1,d2,d3,d4⟩:=hop.c5
      simp only at d0 d1 d2 d3 d4 HOK
      have hi1:(i:Int) < (len:Int):=by omega
      have hi2:(i:Int) < 150:=by omega
      have hi0:(0:Int) ≤ (i:Int):=by omega
      have hiw:IntKind.i64.wrap ((i:Int) + 1)=(i:Int) + 1:=by rw [IntKind.wrap_i64] <;> omega
      obtain ⟨Wo,hWo⟩:∃ Wo,Wo=wr.alloc (.cells #[.int .i64 ok,.int .i64 oa,.int .i64 ob,.string ot,.bool of] 46):=⟨_,rfl⟩
      have HXO:Hid (Below wr.heap.size wr Wo):=by show Below _ _ _; rw [hWo]; exact (Below.refl _ _).alloc (Nat.le_refl _) _
      have HRO:Hid (Wo.heap[wr.heap.size]?=some (.cells #[.int .i64 ok,.int .i64 oa,.int .i64 ob,.string ot,.bool of] 46)):=by show _=_; rw [hWo]; exact one_alloc _ _
      have HST:Hid (Calls Tryz.prog 21 #[ptr g,rlV E B (.slice Pd n cd),.agg #[.int .i64 ok,.int .i64 oa,.int .i64 ob,.string ot,.bool of]] Wo fun e w'=>∃ N' P' n' c',e=.returned (.tuple #[rlV E B (.slice P' n' c'),.bool true])∧N'.length=n'∧Both kd Wo w' W0.heap.size g r 1 [] nv E B N' (.slice P' n' c')∧QM.Good E B N N'):=by
        have q:=HP.out.on HXO.out
        refine (step_any ok oa ob ot of HOK.out.2.1 HOK.out.2.2 (Nat.le_trans HOK.out.1 (by omega)) _ W0 Wo (HW.out.on HB0.out) q.bel (Nat.le_refl _) (by have:=q.len; omega) q.inv (row_lt q.row) q.ls q.rl).mono ?_
        rintro e w' ⟨N',dv',rfl,hb,hg⟩
        obtain ⟨P',c',rfl⟩:∃ P' c',dv'=.slice P' N'.length c':=by obtain ⟨_,_,_,_,h4⟩:=hb; exact h4.form
        exact ⟨N',P',_,c',rfl,rfl,hb,hg⟩
      clear hop hlen h1
      go_upto_region 9 with fail
      rw [← hWo]
      clear hWo d0 d1 d2 d3 d4 c0 c1 c2 cf hi1 hi0
      obtain ⟨ko,hko⟩:∃ ko,wr.heap.size=ko:=⟨_,rfl⟩
      rw [hko] at HRO ⊢
      clear hko
      obtain ⟨o0,o1,o2,o3,o4,off5⟩:=row5 HRO.out
      obtain ⟨e0,e1,e2,ef⟩:=row3 (HP.out.on HXO.out).row
      go_wp2_with fail
      refine (show Calls _ _ _ _ _ from HST.out).mono ?_
      rintro e5 a1 ⟨N',P',n',c',rfl,hn',hB,hG⟩
      clear o0 o1 o2 o3 o4 off5 e0 e1 e2 ef
      obtain ⟨Wx,hWx⟩:∃ Wx,Wx=a1.alloc (.cells #[.int .i64 (E:Int),.int .i64 (B:Int),.slice P' n' c'] 29):=⟨_,rfl⟩
      have hbx:Below a1.heap.size a1 Wx:=by rw [hWx]; exact (Below.refl _ _).alloc (Nat.le_refl _) _
      have hrx:Wx.heap[a1.heap.size]?=some (.cells #[.int .i64 (E:Int),.int .i64 (B:Int),.slice P' n' c'] 29):=by rw [hWx]; exact one_alloc _ _
      obtain ⟨hkr,nv',hP'⟩:=HP.out.step HXO.out hB hG hbx
      have HN':Hid (N'.length=n'):=hn'
      obtain ⟨W9,hW9⟩:∃ W9,W9=((Wx.setCell ⟨kd,0,none⟩ (.int .i64 (E:Int))).setCell ⟨kd,1,none⟩ (.int .i64 (B:Int))).setCell ⟨kd,2,none⟩ (.slice P' n' c'):=⟨_,rfl⟩
      rw [← hW9] at hP'
      have HP9:Hid (PS W0 W9 kd g r 1 [] nv' E B (i + 1) N' (.slice P' n' c')):=hP'
      go_upto_region 10 with fail
      rw [← hWx]
      obtain ⟨x0,x1,x2,xf⟩:=row3 hrx
      obtain ⟨e0,e1,e2,ef⟩:=row3 hkr
      clear hWx hbx hrx hP' hB hG hn' hkr
      go_upto_region 11 with fail
      rw [← hW9]
      clear hW9 x0 x1 x2 xf e0 e1 e2 ef
      have HNL:Hid (n' ≤ 1000):=by show _ ≤ _; rw [← HN'.out]; exact Nat.le_trans (QM.len_le HP9.out.inv.some) (Nat.le_trans HP9.out.len (by omega))
      have HNO:Hid (Calls Tryz.prog 13 #[ptr g] W9 fun e w'=>∃ P c,e=.returned (.slice P n' c)∧w'.ownsRow W9.heap.size 9 1 (.slice P n' c) n' (pkV N')∧SRow w' (.slice P n' c) (N'.map packN)∧Below W9.heap.size W9 w'):=by
        refine (nodesN_any (by rw [HN'.out]; exact HNL.out) HP9.out.inv W9 HP9.out.ls).mono ?_
        rintro e w' ⟨v,rfl,ho,hb⟩
        obtain ⟨P,c,rfl⟩:=own_form ho
        rw [HN'.out] at ho ⊢
        refine ⟨P,c,rfl,ho,?_,hb⟩
        rw [pkV_str] at ho
        exact (DRow.of_own (ok:=fun _=>True) ho (by simp [strV,HN'.out]) (fun _ _=>trivial)).srow
      go_wp2_with fail
      refine (show Calls _ _ _ _ _ from HNO.out).mono ?_
      rintro e6 w4 ⟨Pl,cl,rfl,hown,hsr,hb4⟩
      have HOW:Hid (w4.ownsRow W9.heap.size 9 1 (.slice Pl n' cl) n' (pkV N')):=hown
      have HSR:Hid (SRow w4 (.slice Pl n' cl) (N'.map packN)):=hsr
      have HX4:Hid (Below W9.heap.size W9 w4):=hb4
      have HP4:Hid (PS W0 w4.drew kd g r 1 [] nv' E B (i + 1) N' (.slice P' n' c')):=(HP9.out.on hb4).on (Below.refl _ _).drew
      clear hown hsr hb4
      have HRN4:Hid (Calls Tryz.prog 14 #[rlV E B (.slice P' n' c')] w4.drew fun e w'=>∃ P c,e=.returned (.slice P n' c)∧SRow w' (.slice P n' c) (N'.map packN)∧Below w4.drew.heap.size w4.drew w'):=by
        refine (rnodes_any E B _ N' (fun x hx=>⟨Nat.le_trans (HP4.out.inv.few x hx) HP4.out.inv.le.2,HP4.out.inv.short x hx⟩) (by rw [HN'.out]; exact HNL.out) w4.drew HP4.out.rl).mono ?_
        rintro e w' ⟨v,rfl,ho,hb⟩
        obtain ⟨P,c,rfl⟩:=own_form ho
        rw [HN'.out] at ho ⊢
        refine ⟨P,c,rfl,?_,hb⟩
        rw [pkV_str] at ho
        exact (DRow.of_own (ok:=fun _=>True) ho (by simp [strV,HN'.out]) (fun _ _=>trivial)).srow
      have HSM:Hid (∀ (W:World) (v:Value),Below w4.drew.heap.size w4.drew W → SRow W v (N'.map packN) → Calls Tryz.prog 12 #[.slice Pl n' cl,v] W fun e w'=>e=.returned (.bool true)∧Below W.heap.size W w'):=fun W v hW hv=>same_eq (by rw [List.length_map,HN'.out]; exact HNL.out) W _ v ((HSR.out.on (Below.refl _ _).drew).on hW) hv
      have HLN:Hid (∀ W:World,Below w4.drew.heap.size w4.drew W → Calls Tryz.prog 15 #[ptr g] W fun e w'=>e=.returned (.int .i64 (N'.flatten.length:Int))∧w'=W):=fun W hW=>by
        have:=Len_any W (HP4.out.on hW).ls
        rw [cnt_nds] at this; exact this
      have HRL:Hid (∀ W:World,Below w4.drew.heap.size w4.drew W → Calls Tryz.prog 16 #[rlV E B (.slice P' n' c')] W fun e w'=>e=.returned (.int .i64 (N'.flatten.length:Int))∧Below W.heap.size W w'):=fun W hW =>
        rlen_any E B _ N' (by have:=HP4.out.len; omega) (by rw [HN'.out]; have:=HNL.out; omega) W (HP4.out.on hW).rl
      have HKB:Hid (∀ W:World,Below w4.drew.heap.size w4.drew W → W.cell? ⟨kd,0,none⟩=some (.int .i64 (E:Int))∧W.cell? ⟨kd,1,none⟩=some (.int .i64 (B:Int))∧W.cell? ⟨kd,2,none⟩=some (.slice P' n' c')):=fun W hW=>by
        obtain ⟨q0,q1,q2,_⟩:=row3 (HP4.out.on hW).row
        exact ⟨q0,q1,q2⟩
      have hS0:w4.cell? ⟨kd,0,none⟩=some (.int .i64 (E:Int))∧w4.cell? ⟨kd,1,none⟩=some (.int .i64 (B:Int))∧w4.cell? ⟨kd,2,none⟩=some (.slice P' n' c'):=HKB.out w4.drew (Below.refl _ _)
      have hSd:=HKB.out w4.drew (Below.refl _ _)
      obtain ⟨LF,hLF⟩:∃ LF:Int,(N'.flatten.length:Int)=LF:=⟨_,rfl⟩
      rw [hLF] at HLN HRL
      have hsame:(LF == LF)=true:=by simp
      clear hLF
      go_upto_region 12 with fail
      go_region_held3 (fun W:World=>W.cell? ⟨kd,0,none⟩=some (.int .i64 (E:Int))∧W.cell? ⟨kd,1,none⟩=some (.int .i64 (B:Int))∧W.cell? ⟨kd,2,none⟩=some (.slice P' n' c'))
        (first | with_reducible exact hS0 | with_reducible exact hSd | with_reducible exact hS1 | with_reducible exact hS2 | with_reducible exact hS5)
        (first | (go_at_call 14; refine (show Calls _ _ _ _ _ from HRN4.out).mono ?_; rintro e7 a2 ⟨Pn,cn,rfl,hs1,hb1⟩; have hS1:=HKB.out _ hb1) | (go_at_call 12; refine (show Calls _ _ _ _ _ from HSM.out _ _ hb1 hs1).mono ?_; rintro e8 a3 ⟨rfl,hb2⟩; have hb3:=bel_to hb1 hb2 (Nat.le_refl _); have hS2:=HKB.out _ hb3) | (go_at_call 15; refine (show Calls _ _ _ _ _ from HLN.out _ hb3).mono ?_; rintro e9 a4 ⟨rfl,ha4⟩; have ha5:=ha4.symm; subst ha5) | (go_at_call 16; refine (show Calls _ _ _ _ _ from HRL.out _ hb3).mono ?_; rintro e10 a5 ⟨rfl,hb5⟩; have hb6:=bel_to hb3 hb5 (Nat.le_refl _); have hS5:=HKB.out _ hb6))
      have HX5:Hid (Below W9.heap.size W9 a5):=bel_to HX4.out.drew hb6 (Nat.le_refl _)
      have HO5:Hid (a5.ownsRow W9.heap.size 9 1 (.slice Pl n' cl) n' (pkV N')):=own_on (own_on HOW.out (Below.refl _ _).drew) hb6
      clear hS0 hSd hS1 hS2 hS5 hb1 hb2 hb3 hb5 hb6 hs1 hsame
      go_wp2
      go_loopw [16] (fun ck wx=>∃ (k:Nat) (xs:List Value),k ≤ n'∧ck=.int .i64 (k:Int)∧Below W9.heap.size W9 wx∧wx.ownsRow W9.heap.size 9 1 (.slice Pl n' cl) n' xs) (fun ck _=>n' - (intOf ck).toNat)
      case atStart=>exact ⟨0,_,by omega,rfl,HX5.out,HO5.out⟩
      case round =>
        obtain ⟨k,xs,hk,rfl,hbx,hox⟩:=hrel
        obtain ⟨wx,hwx⟩:∃ wx,wx=wr:=⟨_,rfl⟩
        subst hwx
        have HBX:Hid (Below W9.heap.size W9 wx):=hbx
        have HOX:Hid (wx.ownsRow W9.heap.size 9 1 (.slice Pl n' cl) n' xs):=hox
        have hnl:=HNL.out
        clear hbx
        by_cases hkn:k < n'
        · obtain ⟨gl,cap9,cur9,hv9,hb9,hr9,hc9⟩:=own_addr hox (by omega)
          injection hv9 with e1 e2 e3
          subst e1 e3
          clear e2
          have HGB:Hid (W9.heap.size ≤ gl):=hb9
          have hxl:k < xs.length:=by rw [hox.1]; omega
          have y0:=hc9 k xs[k] (by simp [hxl])
          have y1:∀ j,wx.frozen? ⟨gl,j,none⟩=false:=fun j=>frozen_of_row _ _ _ _ _ hr9
          have hk0:(0:Int) ≤ (k:Int):=by omega
          have hk1:(k:Int) < (n':Int):=by omega
          have hwk:IntKind.i64.wrap ((k:Int) + 1)=(k:Int) + 1:=by rw [IntKind.wrap_i64] <;> omega
          generalize xs[k]=OLD at *
          clear hc9 hr9 hox hb9 hxl
          go_wp2
          exact ⟨⟨k + 1,_,hkn,by congr 1,HBX.out.setCell (p:=⟨gl,k,none⟩) HGB.out _,own_set (q:=k) _ HOX.out⟩,by simp [intOf]; omega⟩
        · have hk1:¬ (k:Int) < (n':Int):=by omega
          clear hox
          go_wp2
          exact ⟨⟨i + 1,nv',_,N',h2,by congr 1,HP9.out.on HBX.out⟩,by simp [intOf]; omega⟩
    · have HSU:Hid _:=sure_any wr (HW.out.on HBw.out)
      rcases Nat.lt_or_ge i len with hl | hl
      · have hi1:(i:Int) < (len:Int):=by omega
        have hi2:¬ (i:Int) < 150:=by omega
        go_wp2_with fail
        refine (show Calls _ _ _ _ _ from HSU.out).mono ?_
        rintro e6 w6 ⟨rfl,hb6⟩
        have HX6:Hid (Below w.heap.size w w6):=bel_to HBw.out hb6 (Nat.le_refl _)
        clear hb6 c0 c1 c2 cf
        go_wp2
        go_returns
        exact ⟨by first | rfl | (simp; done),HX6.out⟩
      · have hi1:¬ (i:Int) < (len:Int):=by omega
        go_wp2_with fail
        refine (show Calls _ _ _ _ _ from HSU.out).mono ?_
        rintro e6 w6 ⟨rfl,hb6⟩
        have HX6:Hid (Below w.heap.size w w6):=bel_to HBw.out hb6 (Nat.le_refl _)
        clear hb6 c0 c1 c2 cf
        go_wp2
        go_returns
        exact ⟨by first | rfl | (simp; done),HX6.out⟩
end Go.Proofs.YtjnbjfjoejfmpaaGreatDoor
