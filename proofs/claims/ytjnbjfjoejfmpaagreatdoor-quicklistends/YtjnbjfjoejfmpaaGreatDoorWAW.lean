import Derived.Test.YtjnbjfjoejfmpaaGreatDoorWAR
import Derived.Deep.RegionHeld3
namespace Go.Proofs.YtjnbjfjoejfmpaaGreatDoor
open Go.RowKit
set_option linter.unusedVariables false
set_option linter.unusedSimpArgs false
section
variable {ok:Nat → Prop}
set_option maxHeartbeats 4000000 in
set_option maxRecDepth 100000 in
theorem rset_big_s (E B:Nat) (v:Value) (N:QM.NL) (i:Nat) (s:ByteArray) (n q:Nat) (X:List ByteArray) (hi:i < N.flatten.length) (hnl:n < N.length) (hX:N[n]=X) (hpl:QM.plc N i=(n,q)) (hqx:q < X.length) (hI:QM.Inv E B N) (hl:N.flatten.length ≤ 1000) (hs:s.size ≤ 524288) (w:World) (hk:∀ k,w.heap.size ≤ k → ok k) (h:RL ok w v N) (OD:ByteArray) (hod:N.flatten[i]=OD) (hbg:QM.big B s=true) :
    Calls Tryz.prog 39 #[rlV E B v,.int .i64 (i:Int),.string s] w fun e w'=>∃ v',e=.returned (.tuple #[rlV E B v',.int .i64 0])∧RL ok w' v' (QM.rep N n 1 [X.take q,[s],X.drop (q + 1)])∧Below w.heap.size w w':=by
  have HI:Hid (QM.Inv E B N):=hI
  have hln:N.length ≤ 1000:=Nat.le_trans (QM.len_le hI.some) hl
  have hXne:=hI.some _ (List.getElem_mem hnl)
  have hXle:=hI.few _ (List.getElem_mem hnl)
  have hEle:=hI.le
  obtain ⟨g,o,c,u,hsl,hcell,hdr⟩:=h.at_ hnl
  rw [hX] at hXne hXle hdr
  subst hsl
  obtain ⟨U,uc,hu⟩:=hdr.sform
  subst hu
  have HL:Hid (RL ok w (.slice (some ⟨g,o,none⟩) N.length c) N):=h
  have HK:Hid (∀ k,w.heap.size ≤ k → ok k):=hk
  obtain ⟨W0,hW0⟩:∃ W0,W0=(w.alloc (.cells #[.int .i64 (E:Int),.int .i64 (B:Int),.slice (some ⟨g,o,none⟩) N.length c] 29)).alloc (.cells #[.int .i64 0,.int .i64 0,.slice none 0 0] 29):=⟨_,rfl⟩
  have HTW:Hid (∀ W,Below W0.heap.size W0 W → Below w.heap.size w W∧W.heap[w.heap.size]?=some (.cells #[.int .i64 (E:Int),.int .i64 (B:Int),.slice (some ⟨g,o,none⟩) N.length c] 29)∧W.heap[w.heap.size + 1]?=some (.cells #[.int .i64 0,.int .i64 0,.slice none 0 0] 29)):=fun W hW=>by rw [hW0] at hW; exact two_rows hW
  have HZ0:Hid (W0.heap.size=w.heap.size + 2):=by show _=_; rw [hW0]; simp
  have HPL:Hid (∀ W,Below w.heap.size w W → Calls Tryz.prog 78 #[rlV E B (.slice (some ⟨g,o,none⟩) N.length c),.int .i64 (i:Int)] W fun e w'=>e=.returned (.tuple #[.int .i64 (n:Int),.int .i64 (q:Int)])∧Below W.heap.size W w'):=fun W hW=>by
    have:=place_any E B _ N i hi hl hln W (h.on hW)
    rw [hpl] at this; exact this
  have HLA:Hid (∀ W,Calls Tryz.prog 74 #[rlV E B (.slice (some ⟨g,o,none⟩) N.length c),.string s] W fun e w'=>e=.returned (.bool (QM.big B s))∧Below W.heap.size W w'):=fun W=>large_any E B _ _ _ s W
  have HHR:Hid (∀ W,Below W0.heap.size W0 W → W.cell? ⟨g,o + n,none⟩=some (.slice U X.length uc)):=fun W hW=>cell_on hcell (HTW.out W hW).1
  have HS:Hid (∀ W,Below W0.heap.size W0 W → W.cell? ⟨w.heap.size,0,none⟩=some (.int .i64 (E:Int))∧W.cell? ⟨w.heap.size,1,none⟩=some (.int .i64 (B:Int))∧W.cell? ⟨w.heap.size,2,none⟩=some (.slice (some ⟨g,o,none⟩) N.length c)):=fun W hW=>by
    obtain ⟨q0,q1,q2,_⟩:=row3 (HTW.out W hW).2.1
    exact ⟨q0,q1,q2⟩
  have HS3:Hid (∀ (W:World) (v0 v1 v2:Value),Below W0.heap.size W0 W → (((W.setCell ⟨w.heap.size + 1,0,none⟩ v0).setCell ⟨w.heap.size + 1,1,none⟩ v1).setCell ⟨w.heap.size + 1,2,none⟩ v2).cell? ⟨w.heap.size,0,none⟩=some (.int .i64 (E:Int))∧(((W.setCell ⟨w.heap.size + 1,0,none⟩ v0).setCell ⟨w.heap.size + 1,1,none⟩ v1).setCell ⟨w.heap.size + 1,2,none⟩ v2).cell? ⟨w.heap.size,1,none⟩=some (.int .i64 (B:Int))∧(((W.setCell ⟨w.heap.size + 1,0,none⟩ v0).setCell ⟨w.heap.size + 1,1,none⟩ v1).setCell ⟨w.heap.size + 1,2,none⟩ v2).cell? ⟨w.heap.size,2,none⟩=some (.slice (some ⟨g,o,none⟩) N.length c)):=fun W v0 v1 v2 hW=>by
    have ho:=(((Only.refl W (w.heap.size + 1)).set 0 v0).set 1 v1).set 2 v2
    obtain ⟨q0,q1,q2⟩:=HS.out W hW
    exact ⟨(World.cell?_of_block (a:=⟨w.heap.size,0,none⟩) (ho.other w.heap.size (by omega))).trans q0,(World.cell?_of_block (a:=⟨w.heap.size,1,none⟩) (ho.other w.heap.size (by omega))).trans q1,(World.cell?_of_block (a:=⟨w.heap.size,2,none⟩) (ho.other w.heap.size (by omega))).trans q2⟩
  have HDR:Hid (DRow ok w (.slice U X.length uc) (strV X)):=hdr
  have HAT:Hid (∀ W,Below w.heap.size w W → Calls Tryz.prog 43 #[rlV E B (.slice (some ⟨g,o,none⟩) N.length c),.int .i64 (i:Int)] W fun e w'=>e=.returned (.tuple #[.string OD,.bool true])∧Below W.heap.size W w'):=fun W hW=>by
    have:=rat_yes E B _ N i hi hl hln W (h.on hW)
    rw [hod] at this; exact this
  have HMA:Hid (∀ W,Below w.heap.size w W → Calls Tryz.prog 73 #[rlV E B (.slice (some ⟨g,o,none⟩) N.length c),.string s,.int .i64 0] W fun e w'=>e=.returned (.int .i64 0)∧Below W.heap.size W w'):=fun W hW=>by
    have:=may_any E B _ N s 0 (by omega) hl hln W (h.on hW)
    rw [if_neg (by omega)] at this; exact this
  have HLO:Hid (∀ W,Calls Tryz.prog 74 #[rlV E B (.slice (some ⟨g,o,none⟩) N.length c),.string OD] W fun e w'=>e=.returned (.bool (QM.big B OD))∧Below W.heap.size W w'):=fun W=>large_any E B _ _ _ OD W
  obtain ⟨LN,hLN⟩:∃ LN,X.length=LN:=⟨_,rfl⟩
  rw [hLN] at hqx hXle HHR HDR
  have HLN:Hid (X.length=LN):=hLN
  have hn0:(0:Int) ≤ (n:Int):=by omega
  have hn1:(n:Int) < (N.length:Int):=by omega
  have hq0:(0:Int) ≤ (q:Int):=by omega
  have hq1:(q:Int) ≤ (LN:Int):=by omega
  have hwn:IntKind.i64.wrap ((n:Int) + 1)=(n:Int) + 1:=by rw [IntKind.wrap_i64] <;> omega
  rw [hbg] at HLA
  have hwq:IntKind.i64.wrap ((q:Int) + 1)=(q:Int) + 1:=by rw [IntKind.wrap_i64] <;> omega
  obtain ⟨P1,c1',hd1,hr1⟩:=DRow.take und22 size9 (show DRow ok w (.slice U LN uc) (strV X) from HDR.out) q (by rw [List.length_map,hLN]; omega)
  obtain ⟨m,hm⟩:∃ m,m=LN - (q + 1):=⟨_,rfl⟩
  obtain ⟨P2,c2',hd2,hr2'⟩:=DRow.drop und22 size9 (show DRow ok w (.slice U LN uc) (strV X) from HDR.out) (q + 1) (by rw [List.length_map,hLN]; omega) m (by rw [List.length_map,hLN]; exact hm)
  have hr2:∀ W,(Instr.slice 22 (.slice U LN uc) (some (.int .i64 ((q:Int) + 1))) none none).run Tryz.prog W=.ok (.slice P2 m c2') W:=hr2'
  have HD1:Hid (DRow ok w (.slice P1 q c1') (strV (X.take q))):=by show DRow _ _ _ _; rw [show strV (X.take q)=(strV X).take q by simp [List.map_take]]; exact hd1
  have HD2:Hid (DRow ok w (.slice P2 m c2') (strV (X.drop (q + 1)))):=by show DRow _ _ _ _; rw [show strV (X.drop (q + 1))=(strV X).drop (q + 1) by simp [List.map_drop]]; exact hd2
  obtain ⟨N',hN⟩:∃ N',N.take n ++ (QM.nes [X.take q,[s],X.drop (q + 1)] ++ N.drop (n + 1))=N':=⟨_,rfl⟩
  have HN:Hid (N.take n ++ (QM.nes [X.take q,[s],X.drop (q + 1)] ++ N.drop (n + 1))=N'):=hN
  obtain ⟨NL,hNL⟩:∃ NL,N'.length=NL:=⟨_,rfl⟩
  have HNL:Hid (N'.length=NL):=hNL
  have HQ:Hid (QM.rep N n 1 [X.take q,[s],X.drop (q + 1)]=N'):=hN
  rw [HQ.out]
  have HWI:Hid (∀ (a5 W5:World),Below W0.heap.size W0 W5 → a5=((W5.alloc (.cells #[.string s] 9)).alloc (.cells #[.slice P1 q c1',.slice (some ⟨W5.heap.size,0,none⟩) 1 1,.slice P2 m c2'] 22)) → Calls Tryz.prog 76 #[rlV E B (.slice (some ⟨g,o,none⟩) N.length c),.int .i64 (n:Int),.int .i64 ((n:Int) + 1),.slice (some ⟨W5.heap.size + 1,0,none⟩) 3 3] a5 fun e w'=>∃ P' c',e=.returned (rlV E B (.slice P' NL c'))∧RL (fun k=>ok k∧k ≠ w.heap.size + 1) w' (.slice P' NL c') N'∧Below W0.heap.size W0 w'):=by
    intro a5 W5 hx e5
    subst e5
    have hz:=HZ0.out
    have hzs:=hx.size
    have hx2:Below W0.heap.size W0 (W5.alloc (.cells #[.string s] 9)):=hx.alloc hzs _
    have hw2:Below w.heap.size w (W5.alloc (.cells #[.string s] 9)):=(HTW.out _ hx2).1
    have hd:DRow (fun k=>ok k∧k ≠ w.heap.size + 1) (W5.alloc (.cells #[.string s] 9)) (.slice (some ⟨W5.heap.size,0,none⟩) 1 1) (strV [s]):=drow_str s ⟨HK.out _ (by omega),by omega⟩
    have ha:=((show DRow ok w (.slice P1 q c1') (strV (X.take q)) from HD1.out).weak (ok':=fun k=>ok k∧k ≠ w.heap.size + 1) (fun k hk1 hk2=>⟨hk2,by omega⟩)).on hw2
    have hb:=((show DRow ok w (.slice P2 m c2') (strV (X.drop (q + 1))) from HD2.out).weak (ok':=fun k=>ok k∧k ≠ w.heap.size + 1) (fun k hk1 hk2=>⟨hk2,by omega⟩)).on hw2
    exact with_at (ok:=ok) E B (some ⟨g,o,none⟩) c N [X.take q,[s],X.drop (q + 1)] [.slice P1 q c1',.slice (some ⟨W5.heap.size,0,none⟩) 1 1,.slice P2 m c2'] n (n + 1) (w.heap.size + 1) (W5.heap.size + 1) NL N' w W0 (W5.alloc (.cells #[.string s] 9)) HN.out HNL.out (by simp) (by omega) (by omega) hln (by simp) HK.out HL.out (HTW.out _ (Below.refl _ _)).1 hx2 ⟨by omega,by omega⟩ ⟨ha,hd,hb,trivial⟩
  clear h hk hI hN hNL hcell hdr hXne hX hpl hLN hod hi hl hd1 hd2 hr2' HDR hm hbg
  go_enter Tryz.func39,Tryz.ntmps39
  go_wp2_with fail
  rw [← hW0]
  clear hW0
  refine (show Calls _ _ _ _ _ from HAT.out _ (HTW.out _ (Below.refl _ _)).1).mono ?_
  rintro e w1 ⟨rfl,hb1⟩
  have HX1:Hid (Below W0.heap.size W0 w1):=hb1
  obtain ⟨c0,c1,c2,cf⟩:=row3 (HTW.out _ hb1).2.1
  have y0:=HHR.out _ hb1
  clear hb1
  go_wp2_with fail
  refine (show Calls _ _ _ _ _ from HMA.out _ (HTW.out _ HX1.out).1).mono ?_
  rintro e w2 ⟨rfl,hb2⟩
  have HX2:Hid (Below W0.heap.size W0 w2):=bel_to HX1.out hb2 (Nat.le_refl _)
  clear c0 c1 c2 cf y0
  obtain ⟨c0,c1,c2,cf⟩:=row3 (HTW.out _ HX2.out).2.1
  have y0:=HHR.out _ HX2.out
  clear hb2
  go_wp2_with fail
  refine (show Calls _ _ _ _ _ from HPL.out _ (HTW.out _ HX2.out).1).mono ?_
  rintro e w3 ⟨rfl,hb3⟩
  have HX3:Hid (Below W0.heap.size W0 w3):=bel_to HX2.out hb3 (Nat.le_refl _)
  clear c0 c1 c2 cf y0
  obtain ⟨c0,c1,c2,cf⟩:=row3 (HTW.out _ HX3.out).2.1
  have y0:=HHR.out _ HX3.out
  clear hb3
  go_wp2_with fail
  refine (show Calls _ _ _ _ _ from HLA.out _).mono ?_
  rintro e w4 ⟨rfl,hb4⟩
  have HX4:Hid (Below W0.heap.size W0 w4):=bel_to HX3.out hb4 (Nat.le_refl _)
  clear c0 c1 c2 cf y0
  obtain ⟨c0,c1,c2,cf⟩:=row3 (HTW.out _ HX4.out).2.1
  have y0:=HHR.out _ HX4.out
  clear hb4
  have hS0:=HS.out _ HX4.out
  have hS1:=HS.out _ HX4.out.drew
  have HXd:Hid (Below W0.heap.size W0 w4.drew):=HX4.out.drew
  have hS2:=HS.out _ (HX4.out.alloc HX4.out.size (.cells #[.string s] 9)).drew
  have hS3:=HS.out _ ((HX4.out.alloc HX4.out.size (.cells #[.string s] 9)).alloc (Nat.le_trans HX4.out.size (by simp)) (.cells #[.slice P1 q c1',.slice (some ⟨w4.heap.size,0,none⟩) 1 1,.slice P2 m c2'] 22)).drew
  go_wp2_with fail
  go_region_held3 (fun w':World=>w'.cell? ⟨w.heap.size,0,none⟩=some (.int .i64 (E:Int))∧w'.cell? ⟨w.heap.size,1,none⟩=some (.int .i64 (B:Int))∧w'.cell? ⟨w.heap.size,2,none⟩=some (.slice (some ⟨g,o,none⟩) N.length c))
    (first | with_reducible exact hS0 | with_reducible exact hS1 | with_reducible exact HS.out _ hx5 | with_reducible exact HS.out _ hx6 | with_reducible exact HS.out _ (hx5.alloc hx5.size _) | with_reducible exact HS3.out _ _ _ _ hx6 | with_reducible exact hS2 | with_reducible exact hS3)
    (first | (go_at_call 76; refine (show Calls _ _ _ _ _ from HWI.out _ w4.drew HXd.out rfl).mono ?_; rintro e a6 ⟨P',c',rfl,hR,hx6⟩; obtain ⟨r0,r1,r2,rf⟩:=row3 (HTW.out _ hx6).2.2))
  clear hS0 hS1 hS2 hS3
  have HX9:Hid (Below W0.heap.size W0 a6):=hx6
  have HR:Hid (RL (fun k=>ok k∧k ≠ w.heap.size + 1) a6 (.slice P' NL c') N'):=hR
  have HG:Hid _:=heap_set3 a6 (w.heap.size + 1) 29 _ _ _ (.int .i64 (E:Int)) (.int .i64 (B:Int)) (.slice P' NL c') (HTW.out _ hx6).2.2
  clear hx6 hR
  go_wp2
  obtain ⟨g0,g1,g2,gf⟩:=row3 HG.out.1
  exact bodyPost_ret (v:=.tuple #[rlV E B (.slice P' NL c'),.int .i64 0]) (by simp [results,Tryz.results39,go_sem,g0,g1,g2]) rfl ⟨_,rfl,fin_rl _ _ _ (HTW.out _ HX9.out).2.2 HR.out,below_set3 (HTW.out _ HX9.out).1 (by omega) _ _ _⟩
set_option maxHeartbeats 4000000 in
set_option maxRecDepth 100000 in
theorem rset_big_o (E B:Nat) (v:Value) (N:QM.NL) (i:Nat) (s:ByteArray) (n q:Nat) (X:List ByteArray) (hi:i < N.flatten.length) (hnl:n < N.length) (hX:N[n]=X) (hpl:QM.plc N i=(n,q)) (hqx:q < X.length) (hI:QM.Inv E B N) (hl:N.flatten.length ≤ 1000) (hs:s.size ≤ 524288) (w:World) (hk:∀ k,w.heap.size ≤ k → ok k) (h:RL ok w v N) (OD:ByteArray) (hod:N.flatten[i]=OD) (hbg:QM.big B s=false) (hbo:QM.big B OD=true) :
    Calls Tryz.prog 39 #[rlV E B v,.int .i64 (i:Int),.string s] w fun e w'=>∃ v',e=.returned (.tuple #[rlV E B v',.int .i64 0])∧RL ok w' v' (QM.rep N n 1 [X.take q,[s],X.drop (q + 1)])∧Below w.heap.size w w':=by
  have HI:Hid (QM.Inv E B N):=hI
  have hln:N.length ≤ 1000:=Nat.le_trans (QM.len_le hI.some) hl
  have hXne:=hI.some _ (List.getElem_mem hnl)
  have hXle:=hI.few _ (List.getElem_mem hnl)
  have hEle:=hI.le
  obtain ⟨g,o,c,u,hsl,hcell,hdr⟩:=h.at_ hnl
  rw [hX] at hXne hXle hdr
  subst hsl
  obtain ⟨U,uc,hu⟩:=hdr.sform
  subst hu
  have HL:Hid (RL ok w (.slice (some ⟨g,o,none⟩) N.length c) N):=h
  have HK:Hid (∀ k,w.heap.size ≤ k → ok k):=hk
  obtain ⟨W0,hW0⟩:∃ W0,W0=(w.alloc (.cells #[.int .i64 (E:Int),.int .i64 (B:Int),.slice (some ⟨g,o,none⟩) N.length c] 29)).alloc (.cells #[.int .i64 0,.int .i64 0,.slice none 0 0] 29):=⟨_,rfl⟩
  have HTW:Hid (∀ W,Below W0.heap.size W0 W → Below w.heap.size w W∧W.heap[w.heap.size]?=some (.cells #[.int .i64 (E:Int),.int .i64 (B:Int),.slice (some ⟨g,o,none⟩) N.length c] 29)∧W.heap[w.heap.size + 1]?=some (.cells #[.int .i64 0,.int .i64 0,.slice none 0 0] 29)):=fun W hW=>by rw [hW0] at hW; exact two_rows hW
  have HZ0:Hid (W0.heap.size=w.heap.size + 2):=by show _=_; rw [hW0]; simp
  have HPL:Hid (∀ W,Below w.heap.size w W → Calls Tryz.prog 78 #[rlV E B (.slice (some ⟨g,o,none⟩) N.length c),.int .i64 (i:Int)] W fun e w'=>e=.returned (.tuple #[.int .i64 (n:Int),.int .i64 (q:Int)])∧Below W.heap.size W w'):=fun W hW=>by
    have:=place_any E B _ N i hi hl hln W (h.on hW)
    rw [hpl] at this; exact this
  have HLA:Hid (∀ W,Calls Tryz.prog 74 #[rlV E B (.slice (some ⟨g,o,none⟩) N.length c),.string s] W fun e w'=>e=.returned (.bool (QM.big B s))∧Below W.heap.size W w'):=fun W=>large_any E B _ _ _ s W
  have HHR:Hid (∀ W,Below W0.heap.size W0 W → W.cell? ⟨g,o + n,none⟩=some (.slice U X.length uc)):=fun W hW=>cell_on hcell (HTW.out W hW).1
  have HS:Hid (∀ W,Below W0.heap.size W0 W → W.cell? ⟨w.heap.size,0,none⟩=some (.int .i64 (E:Int))∧W.cell? ⟨w.heap.size,1,none⟩=some (.int .i64 (B:Int))∧W.cell? ⟨w.heap.size,2,none⟩=some (.slice (some ⟨g,o,none⟩) N.length c)):=fun W hW=>by
    obtain ⟨q0,q1,q2,_⟩:=row3 (HTW.out W hW).2.1
    exact ⟨q0,q1,q2⟩
  have HS3:Hid (∀ (W:World) (v0 v1 v2:Value),Below W0.heap.size W0 W → (((W.setCell ⟨w.heap.size + 1,0,none⟩ v0).setCell ⟨w.heap.size + 1,1,none⟩ v1).setCell ⟨w.heap.size + 1,2,none⟩ v2).cell? ⟨w.heap.size,0,none⟩=some (.int .i64 (E:Int))∧(((W.setCell ⟨w.heap.size + 1,0,none⟩ v0).setCell ⟨w.heap.size + 1,1,none⟩ v1).setCell ⟨w.heap.size + 1,2,none⟩ v2).cell? ⟨w.heap.size,1,none⟩=some (.int .i64 (B:Int))∧(((W.setCell ⟨w.heap.size + 1,0,none⟩ v0).setCell ⟨w.heap.size + 1,1,none⟩ v1).setCell ⟨w.heap.size + 1,2,none⟩ v2).cell? ⟨w.heap.size,2,none⟩=some (.slice (some ⟨g,o,none⟩) N.length c)):=fun W v0 v1 v2 hW=>by
    have ho:=(((Only.refl W (w.heap.size + 1)).set 0 v0).set 1 v1).set 2 v2
    obtain ⟨q0,q1,q2⟩:=HS.out W hW
    exact ⟨(World.cell?_of_block (a:=⟨w.heap.size,0,none⟩) (ho.other w.heap.size (by omega))).trans q0,(World.cell?_of_block (a:=⟨w.heap.size,1,none⟩) (ho.other w.heap.size (by omega))).trans q1,(World.cell?_of_block (a:=⟨w.heap.size,2,none⟩) (ho.other w.heap.size (by omega))).trans q2⟩
  have HDR:Hid (DRow ok w (.slice U X.length uc) (strV X)):=hdr
  have HAT:Hid (∀ W,Below w.heap.size w W → Calls Tryz.prog 43 #[rlV E B (.slice (some ⟨g,o,none⟩) N.length c),.int .i64 (i:Int)] W fun e w'=>e=.returned (.tuple #[.string OD,.bool true])∧Below W.heap.size W w'):=fun W hW=>by
    have:=rat_yes E B _ N i hi hl hln W (h.on hW)
    rw [hod] at this; exact this
  have HMA:Hid (∀ W,Below w.heap.size w W → Calls Tryz.prog 73 #[rlV E B (.slice (some ⟨g,o,none⟩) N.length c),.string s,.int .i64 0] W fun e w'=>e=.returned (.int .i64 0)∧Below W.heap.size W w'):=fun W hW=>by
    have:=may_any E B _ N s 0 (by omega) hl hln W (h.on hW)
    rw [if_neg (by omega)] at this; exact this
  have HLO:Hid (∀ W,Calls Tryz.prog 74 #[rlV E B (.slice (some ⟨g,o,none⟩) N.length c),.string OD] W fun e w'=>e=.returned (.bool (QM.big B OD))∧Below W.heap.size W w'):=fun W=>large_any E B _ _ _ OD W
  obtain ⟨LN,hLN⟩:∃ LN,X.length=LN:=⟨_,rfl⟩
  rw [hLN] at hqx hXle HHR HDR
  have HLN:Hid (X.length=LN):=hLN
  have hn0:(0:Int) ≤ (n:Int):=by omega
  have hn1:(n:Int) < (N.length:Int):=by omega
  have hq0:(0:Int) ≤ (q:Int):=by omega
  have hq1:(q:Int) ≤ (LN:Int):=by omega
  have hwn:IntKind.i64.wrap ((n:Int) + 1)=(n:Int) + 1:=by rw [IntKind.wrap_i64] <;> omega
  rw [hbg] at HLA
  rw [hbo] at HLO
  have hwq:IntKind.i64.wrap ((q:Int) + 1)=(q:Int) + 1:=by rw [IntKind.wrap_i64] <;> omega
  obtain ⟨P1,c1',hd1,hr1⟩:=DRow.take und22 size9 (show DRow ok w (.slice U LN uc) (strV X) from HDR.out) q (by rw [List.length_map,hLN]; omega)
  obtain ⟨m,hm⟩:∃ m,m=LN - (q + 1):=⟨_,rfl⟩
  obtain ⟨P2,c2',hd2,hr2'⟩:=DRow.drop und22 size9 (show DRow ok w (.slice U LN uc) (strV X) from HDR.out) (q + 1) (by rw [List.length_map,hLN]; omega) m (by rw [List.length_map,hLN]; exact hm)
  have hr2:∀ W,(Instr.slice 22 (.slice U LN uc) (some (.int .i64 ((q:Int) + 1))) none none).run Tryz.prog W=.ok (.slice P2 m c2') W:=hr2'
  have HD1:Hid (DRow ok w (.slice P1 q c1') (strV (X.take q))):=by show DRow _ _ _ _; rw [show strV (X.take q)=(strV X).take q by simp [List.map_take]]; exact hd1
  have HD2:Hid (DRow ok w (.slice P2 m c2') (strV (X.drop (q + 1)))):=by show DRow _ _ _ _; rw [show strV (X.drop (q + 1))=(strV X).drop (q + 1) by simp [List.map_drop]]; exact hd2
  obtain ⟨N',hN⟩:∃ N',N.take n ++ (QM.nes [X.take q,[s],X.drop (q + 1)] ++ N.drop (n + 1))=N':=⟨_,rfl⟩
  have HN:Hid (N.take n ++ (QM.nes [X.take q,[s],X.drop (q + 1)] ++ N.drop (n + 1))=N'):=hN
  obtain ⟨NL,hNL⟩:∃ NL,N'.length=NL:=⟨_,rfl⟩
  have HNL:Hid (N'.length=NL):=hNL
  have HQ:Hid (QM.rep N n 1 [X.take q,[s],X.drop (q + 1)]=N'):=hN
  rw [HQ.out]
  have HWI:Hid (∀ (a5 W5:World),Below W0.heap.size W0 W5 → a5=((W5.alloc (.cells #[.string s] 9)).alloc (.cells #[.slice P1 q c1',.slice (some ⟨W5.heap.size,0,none⟩) 1 1,.slice P2 m c2'] 22)) → Calls Tryz.prog 76 #[rlV E B (.slice (some ⟨g,o,none⟩) N.length c),.int .i64 (n:Int),.int .i64 ((n:Int) + 1),.slice (some ⟨W5.heap.size + 1,0,none⟩) 3 3] a5 fun e w'=>∃ P' c',e=.returned (rlV E B (.slice P' NL c'))∧RL (fun k=>ok k∧k ≠ w.heap.size + 1) w' (.slice P' NL c') N'∧Below W0.heap.size W0 w'):=by
    intro a5 W5 hx e5
    subst e5
    have hz:=HZ0.out
    have hzs:=hx.size
    have hx2:Below W0.heap.size W0 (W5.alloc (.cells #[.string s] 9)):=hx.alloc hzs _
    have hw2:Below w.heap.size w (W5.alloc (.cells #[.string s] 9)):=(HTW.out _ hx2).1
    have hd:DRow (fun k=>ok k∧k ≠ w.heap.size + 1) (W5.alloc (.cells #[.string s] 9)) (.slice (some ⟨W5.heap.size,0,none⟩) 1 1) (strV [s]):=drow_str s ⟨HK.out _ (by omega),by omega⟩
    have ha:=((show DRow ok w (.slice P1 q c1') (strV (X.take q)) from HD1.out).weak (ok':=fun k=>ok k∧k ≠ w.heap.size + 1) (fun k hk1 hk2=>⟨hk2,by omega⟩)).on hw2
    have hb:=((show DRow ok w (.slice P2 m c2') (strV (X.drop (q + 1))) from HD2.out).weak (ok':=fun k=>ok k∧k ≠ w.heap.size + 1) (fun k hk1 hk2=>⟨hk2,by omega⟩)).on hw2
    exact with_at (ok:=ok) E B (some ⟨g,o,none⟩) c N [X.take q,[s],X.drop (q + 1)] [.slice P1 q c1',.slice (some ⟨W5.heap.size,0,none⟩) 1 1,.slice P2 m c2'] n (n + 1) (w.heap.size + 1) (W5.heap.size + 1) NL N' w W0 (W5.alloc (.cells #[.string s] 9)) HN.out HNL.out (by simp) (by omega) (by omega) hln (by simp) HK.out HL.out (HTW.out _ (Below.refl _ _)).1 hx2 ⟨by omega,by omega⟩ ⟨ha,hd,hb,trivial⟩
  clear h hk hI hN hNL hcell hdr hXne hX hpl hLN hod hi hl hd1 hd2 hr2' HDR hm hbg hbo
  go_enter Tryz.func39,Tryz.ntmps39
  go_wp2_with fail
  rw [← hW0]
  clear hW0
  refine (show Calls _ _ _ _ _ from HAT.out _ (HTW.out _ (Below.refl _ _)).1).mono ?_
  rintro e w1 ⟨rfl,hb1⟩
  have HX1:Hid (Below W0.heap.size W0 w1):=hb1
  obtain ⟨c0,c1,c2,cf⟩:=row3 (HTW.out _ hb1).2.1
  have y0:=HHR.out _ hb1
  clear hb1
  go_wp2_with fail
  refine (show Calls _ _ _ _ _ from HMA.out _ (HTW.out _ HX1.out).1).mono ?_
  rintro e w2 ⟨rfl,hb2⟩
  have HX2:Hid (Below W0.heap.size W0 w2):=bel_to HX1.out hb2 (Nat.le_refl _)
  clear c0 c1 c2 cf y0
  obtain ⟨c0,c1,c2,cf⟩:=row3 (HTW.out _ HX2.out).2.1
  have y0:=HHR.out _ HX2.out
  clear hb2
  go_wp2_with fail
  refine (show Calls _ _ _ _ _ from HPL.out _ (HTW.out _ HX2.out).1).mono ?_
  rintro e w3 ⟨rfl,hb3⟩
  have HX3:Hid (Below W0.heap.size W0 w3):=bel_to HX2.out hb3 (Nat.le_refl _)
  clear c0 c1 c2 cf y0
  obtain ⟨c0,c1,c2,cf⟩:=row3 (HTW.out _ HX3.out).2.1
  have y0:=HHR.out _ HX3.out
  clear hb3
  go_wp2_with fail
  refine (show Calls _ _ _ _ _ from HLA.out _).mono ?_
  rintro e w4 ⟨rfl,hb4⟩
  have HX4:Hid (Below W0.heap.size W0 w4):=bel_to HX3.out hb4 (Nat.le_refl _)
  clear c0 c1 c2 cf y0
  obtain ⟨c0,c1,c2,cf⟩:=row3 (HTW.out _ HX4.out).2.1
  have y0:=HHR.out _ HX4.out
  clear hb4
  go_wp2_with fail
  refine (show Calls _ _ _ _ _ from HLO.out _).mono ?_
  rintro e w5 ⟨rfl,hb5⟩
  have HX5:Hid (Below W0.heap.size W0 w5):=bel_to HX4.out hb5 (Nat.le_refl _)
  clear c0 c1 c2 cf y0
  obtain ⟨c0,c1,c2,cf⟩:=row3 (HTW.out _ HX5.out).2.1
  have y0:=HHR.out _ HX5.out
  clear hb5
  have hS0:=HS.out _ HX5.out
  have hS1:=HS.out _ HX5.out.drew
  have HXd:Hid (Below W0.heap.size W0 w5.drew):=HX5.out.drew
  have hS2:=HS.out _ (HX5.out.alloc HX5.out.size (.cells #[.string s] 9)).drew
  have hS3:=HS.out _ ((HX5.out.alloc HX5.out.size (.cells #[.string s] 9)).alloc (Nat.le_trans HX5.out.size (by simp)) (.cells #[.slice P1 q c1',.slice (some ⟨w5.heap.size,0,none⟩) 1 1,.slice P2 m c2'] 22)).drew
  go_wp2_with fail
  go_region_held3 (fun w':World=>w'.cell? ⟨w.heap.size,0,none⟩=some (.int .i64 (E:Int))∧w'.cell? ⟨w.heap.size,1,none⟩=some (.int .i64 (B:Int))∧w'.cell? ⟨w.heap.size,2,none⟩=some (.slice (some ⟨g,o,none⟩) N.length c))
    (first | with_reducible exact hS0 | with_reducible exact hS1 | with_reducible exact HS.out _ hx5 | with_reducible exact HS.out _ hx6 | with_reducible exact HS.out _ (hx5.alloc hx5.size _) | with_reducible exact HS3.out _ _ _ _ hx6 | with_reducible exact hS2 | with_reducible exact hS3)
    (first | (go_at_call 76; refine (show Calls _ _ _ _ _ from HWI.out _ w5.drew HXd.out rfl).mono ?_; rintro e a6 ⟨P',c',rfl,hR,hx6⟩; obtain ⟨r0,r1,r2,rf⟩:=row3 (HTW.out _ hx6).2.2))
  clear hS0 hS1 hS2 hS3
  have HX9:Hid (Below W0.heap.size W0 a6):=hx6
  have HR:Hid (RL (fun k=>ok k∧k ≠ w.heap.size + 1) a6 (.slice P' NL c') N'):=hR
  have HG:Hid _:=heap_set3 a6 (w.heap.size + 1) 29 _ _ _ (.int .i64 (E:Int)) (.int .i64 (B:Int)) (.slice P' NL c') (HTW.out _ hx6).2.2
  clear hx6 hR
  go_wp2
  obtain ⟨g0,g1,g2,gf⟩:=row3 HG.out.1
  exact bodyPost_ret (v:=.tuple #[rlV E B (.slice P' NL c'),.int .i64 0]) (by simp [results,Tryz.results39,go_sem,g0,g1,g2]) rfl ⟨_,rfl,fin_rl _ _ _ (HTW.out _ HX9.out).2.2 HR.out,below_set3 (HTW.out _ HX9.out).1 (by omega) _ _ _⟩
end
end Go.Proofs.YtjnbjfjoejfmpaaGreatDoor
namespace Go.Proofs.YtjnbjfjoejfmpaaGreatDoor
open Go.RowKit
set_option linter.unusedVariables false
set_option linter.unusedSimpArgs false
theorem cut_snoc {α:Type} (y:List α) (t:α) (i e:Nat) (hie:i ≤ e):(y ++ [t]).take i ++ (y ++ [t]).drop e=(y.take i ++ y.drop e) ++ (if y.length < i ∨ e ≤ y.length then [t] else []):=by
  by_cases h1:y.length < i
  · rw [if_pos (Or.inl h1),List.take_of_length_le (by simp; omega),List.drop_eq_nil_of_le (by simp; omega),List.take_of_length_le (by omega),List.drop_eq_nil_of_le (by omega)]; simp
  · by_cases h2:e ≤ y.length
    · rw [if_pos (Or.inr h2),List.take_append_of_le_length (by omega),List.drop_append_of_le_length h2]; simp
    · rw [if_neg (by omega),List.take_append_of_le_length (by omega),List.drop_eq_nil_of_le (by simp; omega),List.drop_eq_nil_of_le (by omega)]; simp
theorem delE_snoc:∀ (N:QM.NL) (x:List ByteArray) (i e:Nat),QM.delE (N ++ [x]) i e=QM.delE N i e ++ QM.ne (x.take (i - N.flatten.length) ++ x.drop (e - N.flatten.length))
  | [],x,i,e=>by simp [QM.delE]
  | y :: N,x,i,e=>by
    rw [List.cons_append,QM.delE,QM.delE,delE_snoc N x,List.flatten_cons,List.length_append,List.append_assoc]
    rw [Nat.sub_sub,Nat.sub_sub]
theorem delE_len:∀ (N:QM.NL) (i e:Nat),(QM.delE N i e).length ≤ N.length
  | [],i,e=>by simp [QM.delE]
  | x :: N,i,e=>by
    have:=delE_len N (i - x.length) (e - x.length)
    have h1:(QM.ne (x.take i ++ x.drop e)).length ≤ 1:=by unfold QM.ne; split <;> simp
    rw [QM.delE,List.length_append,List.length_cons]; omega
def okT (b:Nat) (W:World) (k:Nat):Prop:=b ≤ k∧∃ cs,W.heap[k]?=some (.cells cs 9)
theorem DRow.of_own9 {w:World} {v:Value} {vs:List Value} {base b n:Nat} (h:w.ownsRow base 9 1 v n vs) (hn:n=vs.length) (hb:b ≤ base):DRow (okT b w) w v vs:=by
  subst hn
  rcases h.2 with ⟨rfl,h0⟩ | ⟨g,cap,cur,rfl,hbg,hg,hcp,_⟩
  · exact Or.inl ⟨rfl,List.length_eq_zero_iff.1 h0⟩
  · refine Or.inr ⟨g,0,cap,rfl,hcp,⟨by omega,_,hg⟩,row_lt hg,fun j u hu=>?_⟩
    have:=World.ownsRow.cells h (g:=g) rfl j u hu
    rw [Lib.add_plain] at this
    simpa using this
theorem Rows.okT_on {b:Nat} {w w':World} {us:List Value} {N:QM.NL} (h:Rows (okT b w) w us N) (hb:Below w.heap.size w w'):Rows (okT b w') w' us N:=
  (h.weak (fun k hk ⟨h1,cs,h2⟩=>⟨h1,cs,keep_row h2 hb⟩)).on hb
theorem Rows.okT_fr {b:Nat} {w w':World} {us:List Value} {N:QM.NL} {S:Nat → Prop} (h:Rows (okT b w) w us N) (hf:Fr w w' S) (hS:∀ k,S k → ∀ cs,w.heap[k]? ≠ some (.cells cs 9)):Rows (okT b w') w' us N:=by
  refine Rows.weak (ok:=okT b w) (h.imp (fun _ _ q=>q.fr hf (fun k hk hs=>?_))) (fun k _ q=>?_)
  · obtain ⟨_,cs,h2⟩:=hk; exact hS k hs cs h2
  · obtain ⟨h1,cs,h2⟩:=q; exact ⟨h1,cs,by rw [hf.block k (row_lt h2) (fun q=>hS k q cs h2)]; exact h2⟩
theorem Fr.grown {w w':World} {o:Option Nat} (h:w.grownBy w' o):Fr w w' (fun k=>o=some k):=⟨h.os,h.tape,h.output,h.size,fun k hk hn=>h.block k hk (fun e=>hn e.symm)⟩
theorem own_tag {w:World} {base T n:Nat} {v:Value} {xs:List Value} (h:w.ownsRow base T 1 v n xs) (k:Nat) (hk:v.ownBlock=some k):base ≤ k∧∃ cs,w.heap[k]?=some (.cells cs T):=by
  rcases h.2 with ⟨rfl,_⟩ | ⟨g,cap,cur,rfl,hbg,hg,_⟩
  · cases hk
  · have:g=k:=by simpa [Value.ownBlock] using hk
    subst this; exact ⟨hbg,_,hg⟩
section
variable {ok:Nat → Prop}
set_option maxHeartbeats 4000000 in
set_option maxRecDepth 100000 in
theorem rdel_yes (E B:Nat) (v:Value) (N:QM.NL) (i n:Nat) (hi:i < N.flatten.length) (hn:1 ≤ n) (hnb:n ≤ 9223372036854775807) (hl:N.flatten.length ≤ 1000) (hln:N.length ≤ 1000) (w:World) (hk:∀ k,w.heap.size ≤ k → ok k) (h:RL ok w v N) :
    Calls Tryz.prog 41 #[rlV E B v,.int .i64 (i:Int),.int .i64 (n:Int)] w fun e w'=>∃ v',e=.returned (.tuple #[rlV E B v',.int .i64 ((min n (N.flatten.length - i):Nat):Int)])∧RL ok w' v' (QM.delE N i (i + min n (N.flatten.length - i)))∧Below w.heap.size w w':=by
  obtain ⟨P,c,rfl⟩:=h.form
  have HL:Hid (RL ok w (.slice P N.length c) N):=h
  have HK:Hid (∀ k,w.heap.size ≤ k → ok k):=hk
  have HLE:Hid (∀ W,Below w.heap.size w W → Calls Tryz.prog 16 #[rlV E B (.slice P N.length c)] W fun e w'=>e=.returned (.int .i64 (N.flatten.length:Int))∧Below W.heap.size W w'):=fun W hW=>rlen_any E B _ N (by omega) (by omega) W (h.on hW)
  obtain ⟨W0,hW0⟩:∃ W0,W0=(w.alloc (.cells #[.int .i64 (E:Int),.int .i64 (B:Int),.slice P N.length c] 29)).alloc (.cells #[.int .i64 0,.int .i64 0,.slice none 0 0] 29):=⟨_,rfl⟩
  have HTW:Hid (∀ W,Below W0.heap.size W0 W → Below w.heap.size w W∧W.heap[w.heap.size]?=some (.cells #[.int .i64 (E:Int),.int .i64 (B:Int),.slice P N.length c] 29)∧W.heap[w.heap.size + 1]?=some (.cells #[.int .i64 0,.int .i64 0,.slice none 0 0] 29)):=fun W hW=>by rw [hW0] at hW; exact two_rows hW
  have HZ0:Hid (W0.heap.size=w.heap.size + 2):=by show _=_; rw [hW0]; simp
  obtain ⟨FN,hFN⟩:∃ FN:Nat → Nat,∀ i,FN i=(N.take i).flatten.length:=⟨_,fun _=>rfl⟩
  have HFN0:Hid (FN 0=0):=by show _=_; rw [hFN]; rfl
  have HFS:Hid (∀ i (hi:i < N.length),FN (i + 1)=FN i + N[i].length∧FN (i + 1) ≤ 1000):=fun i hi=>by
    have e1:FN (i + 1)=FN i + N[i].length:=by rw [hFN,hFN,takeN_snoc N i hi,List.flatten_append,List.length_append]; simp
    refine ⟨e1,?_⟩
    rw [hFN]
    have:=congrArg (fun M=>(List.flatten M).length) (List.take_append_drop (i + 1) N)
    simp only [List.flatten_append,List.length_append] at this
    omega
  obtain ⟨F,hF⟩:∃ F,N.flatten.length=F:=⟨_,rfl⟩
  rw [hF] at hi hl HLE ⊢
  obtain ⟨n0,hn0⟩:∃ n0,min n (F - i)=n0:=⟨_,rfl⟩
  rw [hn0]
  have hmin:min (n:Int) ((F:Int) - (i:Int))=(n0:Int):=by omega
  have hwf:IntKind.i64.wrap ((F:Int) - (i:Int))=(F:Int) - (i:Int):=by rw [IntKind.wrap_i64] <;> omega
  have hn1:¬ ((n:Int) < 1):=by omega
  have hi2:¬ ((i:Int) < 0):=by omega
  have hi3:¬ ((F:Int) ≤ (i:Int)):=by omega
  have hx1:decide ((i:Int) < 0)=false:=decide_eq_false hi2
  have hx2:decide (F ≤ i)=false:=decide_eq_false (by omega)
  have hx3:decide ((n:Int) < 1)=false:=decide_eq_false hn1
  have hx4:decide ((F:Int) ≤ (i:Int))=false:=decide_eq_false hi3
  clear hi2 hi3 hn1
  obtain ⟨ee,hee⟩:∃ ee,i + n0=ee:=⟨_,rfl⟩
  have hwe:IntKind.i64.wrap ((i:Int) + (n0:Int))=(ee:Int):=by rw [IntKind.wrap_i64] <;> omega
  have hie:i ≤ ee:=by omega
  have heb:ee ≤ 1000:=by omega
  rw [hee]
  obtain ⟨DL,hDL⟩:∃ DL:Nat → QM.NL,∀ k,DL k=QM.delE (N.take k) i ee:=⟨_,fun _=>rfl⟩
  have HDB:Hid (∀ k,(DL k).length ≤ 1000):=fun k=>by
    rw [hDL]
    have:=delE_len (N.take k) i ee
    rw [List.length_take] at this; omega
  have HD0:Hid (DL 0=[]):=by show _=_; rw [hDL]; rfl
  have HDE:Hid (DL N.length=QM.delE N i ee):=by show _=_; rw [hDL,List.take_length]
  obtain ⟨LF,hLF⟩:∃ LF:Nat → Nat → List ByteArray,∀ k j,LF k j=((N.getD k []).take j).take (i - FN k) ++ ((N.getD k []).take j).drop (ee - FN k):=⟨_,fun _ _=>rfl⟩
  have HF0:Hid (∀ k,LF k 0=[]):=fun k=>by rw [hLF]; simp
  have HFJ:Hid (∀ k (hk:k < N.length) j (hj:j < N[k].length),LF k (j + 1)=LF k j ++ (if FN k + j < i ∨ ee ≤ FN k + j then [N[k][j]] else [])):=fun k hk j hj=>by
    rw [hLF,hLF,QM.getD_at N k hk,takeN_snoc N[k] j hj,cut_snoc _ _ _ _ (by omega),List.length_take,Nat.min_eq_left (by omega)]
    congr 1
    by_cases hc:FN k + j < i ∨ ee ≤ FN k + j
    · rw [if_pos hc,if_pos (by omega)]
    · rw [if_neg hc,if_neg (by omega)]
  have HFL:Hid (∀ k (hk:k < N.length) j,j ≤ N[k].length → (LF k j).length ≤ j):=fun k hk j hj=>by
    rw [hLF,List.length_append,List.length_take,List.length_drop,List.length_take]; omega
  have HDS:Hid (∀ k (hk:k < N.length),DL (k + 1)=DL k ++ QM.ne (LF k N[k].length)):=fun k hk=>by
    rw [hDL,hDL,hLF,takeN_snoc N k hk,delE_snoc,← hFN,QM.getD_at N k hk,List.take_length]
  clear h hk hF hn0 hee hFN hDL hLF
  rw [← HDE.out]
  go_enter Tryz.func41,Tryz.ntmps41
  go_wp2_with fail
  rw [← hW0]
  refine (show Calls _ _ _ _ _ from HLE.out _ (HTW.out _ (Below.refl _ _)).1).mono ?_
  rintro e w1 ⟨rfl,hb1⟩
  have HX1:Hid (Below W0.heap.size W0 w1):=hb1
  obtain ⟨c0,c1,c2,cf⟩:=row3 (HTW.out _ hb1).2.1
  obtain ⟨W3,hW3⟩:∃ W3,W3=w1.alloc (.cells #[.int .i64 (E:Int),.int .i64 (B:Int),.slice none 0 0] 29):=⟨_,rfl⟩
  clear hb1 hW0
  have HZ3:Hid (W3.heap.size=w1.heap.size + 1):=by show _=_; rw [hW3]; simp
  have HX3:Hid (Below w1.heap.size w1 W3):=by show Below _ _ _; rw [hW3]; exact (Below.refl _ _).alloc (Nat.le_refl _) _
  have HOB:Hid (W3.heap[w1.heap.size]?=some (.cells #[.int .i64 (E:Int),.int .i64 (B:Int),.slice none 0 0] 29)):=by show _=_; rw [hW3]; exact one_alloc _ _
  go_wp2
  rw [← hW3]
  clear hW3 c0 c1 c2 cf hi hx1 hx2 hx3 hx4 hn hmin hwf hnb
  go_loopw [10,11,12,13] (fun cat ck _ _ wr=>∃ (k:Nat) (ov:Value) (xs:List Value),k ≤ N.length∧ck=.int .i64 (k:Int)∧cat=.int .i64 (FN k:Int)∧Below w1.heap.size w1 wr∧W3.heap.size ≤ wr.heap.size∧wr.heap[w1.heap.size]?=some (.cells #[.int .i64 (E:Int),.int .i64 (B:Int),ov] 29)∧wr.ownsRow W3.heap.size 22 1 ov xs.length xs∧Rows (okT W3.heap.size wr) wr xs (DL k)) (fun _ ck _ _ _=>N.length - (intOf ck).toNat)
  case atStart=>exact ⟨0,_,[],by omega,rfl,by rw [HFN0.out]; rfl,HX3.out,Nat.le_refl _,HOB.out,own_nil _ _ _,by rw [HD0.out]; trivial⟩
  case round =>
    obtain ⟨k,ov,xs,hkN,rfl,rfl,hb,hsz,hob,hown,hrows⟩:=hrel
    obtain ⟨Wk,hWk⟩:∃ Wk,Wk=wr:=⟨_,rfl⟩
    subst hWk
    have HB:Hid (Below w1.heap.size w1 Wk):=hb
    have HSZ:Hid (W3.heap.size ≤ Wk.heap.size):=hsz
    have HOR:Hid (Wk.heap[w1.heap.size]?=some (.cells #[.int .i64 (E:Int),.int .i64 (B:Int),ov] 29)):=hob
    have HOW:Hid (Wk.ownsRow W3.heap.size 22 1 ov xs.length xs):=hown
    have HRO:Hid (Rows (okT W3.heap.size Wk) Wk xs (DL k)):=hrows
    have HLR:Hid (Wk.heap[w.heap.size]?=some (.cells #[.int .i64 (E:Int),.int .i64 (B:Int),.slice P N.length c] 29)):=keep_row (HTW.out _ HX1.out).2.1 hb
    obtain ⟨c0,c1,c2,cf⟩:=row3 HLR.out
    obtain ⟨OP,oc,hof⟩:=own_form hown
    subst hof
    clear hb hsz hob hown hrows
    by_cases hlt:k < N.length
    · obtain ⟨g,o,c',u,e,hcell,hdr⟩:=HL.out.at_ hlt
      injection e with e1 e2 e3
      subst e1 e3
      obtain ⟨U,uc,hu⟩:=hdr.sform
      subst hu
      have hbw:Below w.heap.size w Wk:=bel_to (HTW.out _ HX1.out).1 HB.out (Nat.le_refl _)
      have HY0:Hid _:=cell_on hcell hbw
      have HDR:Hid (DRow ok Wk (.slice U N[k].length uc) (strV N[k])):=hdr.on hbw
      have hi0:(0:Int) ≤ (k:Int):=by omega
      have hi1:(k:Int) < (N.length:Int):=by omega
      obtain ⟨f1,f2⟩:=HFS.out k hlt
      have HFJk:Hid _:=HFJ.out k hlt
      have HFLk:Hid _:=HFL.out k hlt
      have HDSk:Hid _:=HDS.out k hlt
      generalize N[k]=X at *
      obtain ⟨LN,hLN⟩:∃ LN,X.length=LN:=⟨_,rfl⟩
      rw [hLN] at f1 HY0 HDR HFLk HDSk
      have HLN:Hid (X.length=LN):=hLN
      clear hcell hdr hLN
      go_wp2
      go_loopw [10,12,13] (fun cat cl cj wx=>∃ (j:Nat),j ≤ LN∧cj=.int .i64 (j:Int)∧cat=.int .i64 ((FN k + j:Nat):Int)∧Below Wk.heap.size Wk wx∧wx.ownsRow Wk.heap.size 9 1 cl (LF k j).length (strV (LF k j))) (fun _ _ cj _=>LN - (intOf cj).toNat)
      case atStart=>exact ⟨0,by omega,rfl,rfl,Below.refl _ _,by rw [HF0.out]; exact own_nil _ _ _⟩
      case round =>
        obtain ⟨j,hj,rfl,rfl,hbx,hox⟩:=hrel
        obtain ⟨wx,hwx⟩:∃ wx,wx=wr:=⟨_,rfl⟩
        subst hwx
        have HBX:Hid (Below Wk.heap.size Wk wx):=hbx
        have HOX:Hid (wx.ownsRow Wk.heap.size 9 1 _ (LF k j).length (strV (LF k j))):=hox
        obtain ⟨Q8,d8,hqf⟩:=own_form hox
        subst hqf
        clear c0 c1 c2 cf
        obtain ⟨c0,c1,c2,cf⟩:=row3 (keep_row HLR.out hbx)
        have y0:=cell_on HY0.out hbx
        have hLC:=HFLk.out j hj
        clear hbx hox
        by_cases hjl:j < LN
        · have hj0:(0:Int) ≤ (j:Int):=by omega
          have hj1:(j:Int) < (LN:Int):=by omega
          have hFJ:=HFJk.out j (by rw [HLN.out]; exact hjl)
          obtain ⟨g2,o2,cc,hv,hc2⟩:=DRow.at_ (show DRow ok Wk (.slice U LN uc) (strV X) from HDR.out) (j:=j) (by rw [List.length_map,HLN.out]; exact hjl)
          injection hv with e1 e2 e3
          subst e1 e3
          clear e2
          have y1:wx.cell? ⟨g2,o2 + j,none⟩=some (.string (X[j]'(by rw [HLN.out]; exact hjl))):=by
            have:=cell_on hc2 HBX.out
            rw [this]; simp
          generalize X[j]'(by rw [HLN.out]; exact hjl)=TX at *
          have hwj:IntKind.i64.wrap ((j:Int) + 1)=(j:Int) + 1:=by rw [IntKind.wrap_i64] <;> omega
          obtain ⟨T,hT⟩:∃ T,FN k + j=T:=⟨_,rfl⟩
          rw [hT] at hFJ ⊢
          have hwT:IntKind.i64.wrap ((T:Int) + 1)=(T:Int) + 1:=by rw [IntKind.wrap_i64] <;> omega
          have HT:Hid (FN k + j=T):=hT
          clear hc2 hT
          by_cases hcnd:T < i ∨ ee ≤ T
          · rw [if_pos hcnd] at hFJ
            have HFJ1:Hid _:=hFJ
            obtain ⟨W2,hW2⟩:∃ W2,W2=wx.alloc (.cells #[.string TX] 9):=⟨_,rfl⟩
            have HI2:Hid (DRow (fun _=>True) W2 (.slice (some ⟨wx.heap.size,0,none⟩) 1 1) [.string TX]):=by show DRow _ _ _ _; rw [hW2]; exact drow_one _ _ _
            have hb2:Below wx.heap.size wx W2:=by rw [hW2]; exact (Below.refl _ _).alloc (Nat.le_refl _) _
            have HO2:Hid (W2.ownsRow Wk.heap.size 9 1 (.slice Q8 (LF k j).length d8) (LF k j).length (strV (LF k j))):=own_on HOX.out hb2
            have HB2:Hid (Below Wk.heap.size Wk W2):=HBX.out.trans (hb2.mono HBX.out.size)
            clear hb2 hFJ
            by_cases hlow:T < i
            · have hlow1:(T:Int) < (i:Int):=by omega
              clear hcnd
              go_upto_region 15 with fail
              go_wp2_with (at_builtin; rw [← hW2]; go_must (refine app_str rfl _ _ rfl Wk.heap.size _ (LF k j).length (strV (LF k j)) rfl HO2.out _ [.string TX] rfl HI2.out ?q9 ((LF k j).length + 1) rfl ?q1 HB2.out.size ?_))
              case q9=>first | (intro u hu; simp at hu; subst hu; rfl) | rfl
              case q1=>omega
              intro v3 w3 ho3 hg3
              rw [← hW2] at hg3
              have HB3:Hid (Below Wk.heap.size Wk w3):=HB2.out.grown hg3 HB2.out.size (fun q hq=>(World.ownsRow.lt HO2.out q hq).1)
              have HO3:Hid (w3.ownsRow Wk.heap.size 9 1 v3 ((LF k j).length + 1) (strV (LF k j) ++ [.string TX])):=ho3
              clear ho3 hg3
              go_wp2
              refine ⟨⟨j + 1,hjl,by congr 1,by have:=HT.out; congr 1; omega,HB3.out,?_⟩,by simp [intOf]; omega⟩
              rw [HFJ1.out]
              have:=HO3.out
              simpa using this
            · have hlow1:¬ ((T:Int) < (i:Int)):=by omega
              have hup1:(ee:Int) ≤ (T:Int):=by omega
              clear hcnd
              go_upto_region 15 with fail
              go_wp2_with (at_builtin; rw [← hW2]; go_must (refine app_str rfl _ _ rfl Wk.heap.size _ (LF k j).length (strV (LF k j)) rfl HO2.out _ [.string TX] rfl HI2.out ?q9 ((LF k j).length + 1) rfl ?q1 HB2.out.size ?_))
              case q9=>first | (intro u hu; simp at hu; subst hu; rfl) | rfl
              case q1=>omega
              intro v3 w3 ho3 hg3
              rw [← hW2] at hg3
              have HB3:Hid (Below Wk.heap.size Wk w3):=HB2.out.grown hg3 HB2.out.size (fun q hq=>(World.ownsRow.lt HO2.out q hq).1)
              have HO3:Hid (w3.ownsRow Wk.heap.size 9 1 v3 ((LF k j).length + 1) (strV (LF k j) ++ [.string TX])):=ho3
              clear ho3 hg3
              go_wp2
              refine ⟨⟨j + 1,hjl,by congr 1,by have:=HT.out; congr 1; omega,HB3.out,?_⟩,by simp [intOf]; omega⟩
              rw [HFJ1.out]
              have:=HO3.out
              simpa using this
          · rw [if_neg hcnd,List.append_nil] at hFJ
            have HFJ1:Hid _:=hFJ
            have hlow1:¬ ((T:Int) < (i:Int)):=by omega
            have hup1:¬ ((ee:Int) ≤ (T:Int)):=by omega
            clear hcnd hFJ
            go_wp2
            refine ⟨⟨j + 1,hjl,by congr 1,by have:=HT.out; congr 1; omega,HBX.out,?_⟩,by simp [intOf]; omega⟩
            rw [HFJ1.out]
            exact HOX.out
        · have hje:j=LN:=by omega
          subst hje
          have hj1:¬ ((j:Int) < (j:Int)):=by omega
          have hwk:IntKind.i64.wrap ((k:Int) + 1)=(k:Int) + 1:=by rw [IntKind.wrap_i64] <;> omega
          have HF1:Hid (FN (k + 1)=FN k + j):=f1
          obtain ⟨Y,hY⟩:∃ Y,LF k j=Y:=⟨_,rfl⟩
          rw [hY] at HOX HDSk hLC ⊢
          obtain ⟨LY,hLY⟩:∃ LY,Y.length=LY:=⟨_,rfl⟩
          rw [hLY] at HOX hLC ⊢
          have HLY:Hid (Y.length=LY):=hLY
          clear hY hLY f1
          by_cases hz:LY=0
          · have hz1:¬ ((0:Int) < (LY:Int)):=by omega
            go_wp2
            have hYe:Y=[]:=List.length_eq_zero_iff.1 (by rw [HLY.out]; exact hz)
            refine ⟨⟨k + 1,_,xs,hlt,by congr 1,by have:=HF1.out; congr 1; omega,HB.out.trans (HBX.out.mono HB.out.size),Nat.le_trans HSZ.out HBX.out.size,keep_row HOR.out HBX.out,own_on HOW.out HBX.out,?_⟩,by simp [intOf]; omega⟩
            rw [HDSk.out,hYe,QM.ne_nil,List.append_nil]
            exact HRO.out.okT_on HBX.out
          · have hz1:(0:Int) < (LY:Int):=by omega
            obtain ⟨d0,d1,d2,df⟩:=row3 (keep_row HOR.out HBX.out)
            obtain ⟨W2,hW2⟩:∃ W2,W2=wx.alloc (.cells #[.slice Q8 LY d8] 22):=⟨_,rfl⟩
            have HI2:Hid (DRow (fun _=>True) W2 (.slice (some ⟨wx.heap.size,0,none⟩) 1 1) [.slice Q8 LY d8]):=by show DRow _ _ _ _; rw [hW2]; exact drow_one _ _ _
            have hb2:Below wx.heap.size wx W2:=by rw [hW2]; exact (Below.refl _ _).alloc (Nat.le_refl _) _
            have hb3:Below Wk.heap.size Wk W2:=HBX.out.trans (hb2.mono HBX.out.size)
            have HO2:Hid (W2.ownsRow W3.heap.size 22 1 (.slice OP xs.length oc) xs.length xs):=own_on HOW.out hb3
            have HB2:Hid (Below w1.heap.size w1 W2):=HB.out.trans (hb3.mono HB.out.size)
            have HOR2:Hid (W2.heap[w1.heap.size]?=some (.cells #[.int .i64 (E:Int),.int .i64 (B:Int),.slice OP xs.length oc] 29)):=keep_row HOR.out hb3
            have HRO2:Hid (Rows (okT W3.heap.size W2) W2 (xs ++ [.slice Q8 LY d8]) (DL k ++ [Y])):=by
              refine Rows.app (HRO.out.okT_on hb3) ⟨?_,trivial⟩
              have:=own_on HOX.out hb2
              exact DRow.of_own9 this (by rw [List.length_map,HLY.out]) HSZ.out
            have HXL:Hid (xs.length ≤ 1000):=by
              show _ ≤ _
              rw [HRO.out.len]
              exact HDB.out k
            have HSZ2:Hid (W3.heap.size ≤ W2.heap.size):=Nat.le_trans HSZ.out hb3.size
            clear hb2 hb3
            go_upto_region 18 with fail
            go_wp2_with (at_builtin; rw [← hW2]; go_must (refine app_row rfl _ _ rfl W3.heap.size _ xs.length xs rfl HO2.out _ [.slice Q8 LY d8] rfl HI2.out ?q9 (xs.length + 1) rfl ?q1 HSZ2.out ?_))
            case q9=>first | (intro u hu; simp at hu; subst hu; rfl) | rfl
            case q1=>have:=HXL.out; omega
            intro v5 w5 ho5 hg5
            rw [← hW2] at hg5
            have HOR5:Hid (w5.heap[w1.heap.size]?=some (.cells #[.int .i64 (E:Int),.int .i64 (B:Int),.slice OP xs.length oc] 29)):=by
              refine (hg5.block _ (row_lt HOR2.out) ?_).trans HOR2.out
              intro e5
              have:=(own_tag HO2.out _ e5.symm).1
              have:=HZ3.out
              omega
            have HO5:Hid (w5.ownsRow W3.heap.size 22 1 v5 (xs.length + 1) (xs ++ [.slice Q8 LY d8])):=ho5
            have HB5:Hid (Below w1.heap.size w1 w5):=HB2.out.grown hg5 HB2.out.size (fun q hq=>by have:=(own_tag HO2.out q hq).1; have:=HZ3.out; omega)
            have HSZ5:Hid (W3.heap.size ≤ w5.heap.size):=Nat.le_trans HSZ2.out hg5.size
            have HRO5:Hid (Rows (okT W3.heap.size w5) w5 (xs ++ [.slice Q8 LY d8]) (DL k ++ [Y])):=by
              refine HRO2.out.okT_fr (Fr.grown hg5) (fun q hq cs hcs=>?_)
              obtain ⟨_,cs',h2⟩:=own_tag HO2.out q hq
              rw [hcs] at h2; simp at h2
            obtain ⟨z0,z1,z2,zf⟩:=row3 HOR5.out
            obtain ⟨P5,k5,hf5⟩:=own_form ho5
            subst hf5
            clear ho5 hg5 d0 d1 d2 df
            go_wp2
            have hon:=Only.set (Only.refl w5 w1.heap.size) 2 (.slice P5 (xs.length + 1) k5)
            have hfr:Fr w5 (w5.setCell ⟨w1.heap.size,2,none⟩ (.slice P5 (xs.length + 1) k5)) (fun q=>q=w1.heap.size):=⟨hon.os,hon.tape,hon.output,by rw [hon.size]; exact Nat.le_refl _,fun q _ hq=>hon.other q hq⟩
            refine ⟨⟨k + 1,_,xs ++ [Value.slice Q8 LY d8],hlt,by congr 1,by have:=HF1.out; congr 1; omega,HB5.out.trans (hon.below (Nat.le_refl _)),by rw [hon.size]; exact HSZ5.out,heap_setCell_same _ _ _ _ _ _ HOR5.out,?_,?_⟩,by simp [intOf]; omega⟩
            · rw [List.length_append]
              exact own_keep HO5.out (fun q hq _=>hon.other q (by have:=HZ3.out; omega))
            · rw [HDSk.out,QM.ne_some (by intro e; rw [e] at HLY; exact hz HLY.out.symm)]
              refine HRO5.out.okT_fr hfr (fun q hq cs hcs=>?_)
              subst hq
              rw [HOR5.out] at hcs; simp at hcs
    · have hke:k=N.length:=by omega
      have hi1:¬ ((k:Int) < (N.length:Int)):=by omega
      obtain ⟨d0,d1,d2,df⟩:=row3 HOR.out
      have HRR:Hid (Wk.heap[w.heap.size + 1]?=some (.cells #[.int .i64 0,.int .i64 0,.slice none 0 0] 29)):=keep_row (HTW.out _ HX1.out).2.2 HB.out
      obtain ⟨r0,r1,r2,rf⟩:=row3 HRR.out
      have HG:Hid _:=heap_set3 Wk (w.heap.size + 1) 29 _ _ _ (.int .i64 (E:Int)) (.int .i64 (B:Int)) (.slice OP xs.length oc) HRR.out
      go_wp2
      obtain ⟨g0,g1,g2,gf⟩:=row3 HG.out.1
      have hz0:=HZ0.out
      have hz3:=HZ3.out
      have hx1:=HX1.out.size
      have hbw:Below w.heap.size w Wk:=bel_to (HTW.out _ HX1.out).1 HB.out (Nat.le_refl _)
      refine bodyPost_ret (v:=.tuple #[rlV E B (.slice OP xs.length oc),.int .i64 (n0:Int)]) (by simp [results,Tryz.results41,go_sem,g0,g1,g2]) rfl ⟨_,rfl,fin_rl _ _ _ HRR.out ?_,below_set3 hbw (by omega) _ _ _⟩
      subst hke
      refine ⟨xs,DRow.of_own HOW.out rfl (fun q hq=>⟨HK.out q (by omega),by omega⟩),HRO.out.weak (fun q _ hq=>⟨HK.out q (by have:=hq.1; omega),by have:=hq.1; omega⟩)⟩
end
end Go.Proofs.YtjnbjfjoejfmpaaGreatDoor
