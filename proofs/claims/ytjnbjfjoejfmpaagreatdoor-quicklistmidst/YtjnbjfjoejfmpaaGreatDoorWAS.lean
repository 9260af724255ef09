import Derived.Test.YtjnbjfjoejfmpaaGreatDoorWAR
import Derived.Deep.RegionHeld3
namespace Go.Proofs.YtjnbjfjoejfmpaaGreatDoor
open Go.RowKit
set_option linter.unusedVariables false
set_option linter.unusedSimpArgs false
section
variable {ok:Nat → Prop}
set_option maxHeartbeats 4000000 in
set_option maxRecDepth 100000 in
theorem rins_big (E B:Nat) (v:Value) (N:QM.NL) (i:Nat) (s:ByteArray) (n q:Nat) (X:List ByteArray) (hi:i < N.flatten.length) (hnl:n < N.length) (hX:N[n]=X) (hpl:QM.plc N i=(n,q)) (hqx:q < X.length) (hI:QM.Inv E B N) (hl:N.flatten.length ≤ 1000) (hs:s.size ≤ 524288) (w:World) (hk:∀ k,w.heap.size ≤ k → ok k) (h:RL ok w v N) (hbg:QM.big B s=true) :
    Calls Tryz.prog 37 #[rlV E B v,.int .i64 (i:Int),.string s] w fun e w'=>∃ v',e=.returned (.tuple #[rlV E B v',.int .i64 0])∧RL ok w' v' (QM.rep N n 1 [X.take q,[s],X.drop q])∧Below w.heap.size w w':=by
  have HI:Hid (QM.Inv E B N):=hI
  have hln:N.length ≤ 1000:=Nat.le_trans (QM.len_le hI.some) hl
  have hXne:=hI.some _ (List.getElem_mem hnl)
  have hXle:=hI.few _ (List.getElem_mem hnl)
  have hEle:=hI.le
  obtain ⟨g,o,c,u,hsl,hcell,hdr⟩:=h.at_ hnl
  rw [hX] at hXne hXle hdr
  subst hsl
  obtain ⟨U,uc,hu⟩:=hdr.sform
  subst hu
  have HL:Hid (RL ok w (.slice (some ⟨g,o,none⟩) N.length c) N):=h
  have HK:Hid (∀ k,w.heap.size ≤ k → ok k):=hk
  obtain ⟨W0,hW0⟩:∃ W0,W0=(w.alloc (.cells #[.int .i64 (E:Int),.int .i64 (B:Int),.slice (some ⟨g,o,none⟩) N.length c] 29)).alloc (.cells #[.int .i64 0,.int .i64 0,.slice none 0 0] 29):=⟨_,rfl⟩
  have HTW:Hid (∀ W,Below W0.heap.size W0 W → Below w.heap.size w W∧W.heap[w.heap.size]?=some (.cells #[.int .i64 (E:Int),.int .i64 (B:Int),.slice (some ⟨g,o,none⟩) N.length c] 29)∧W.heap[w.heap.size + 1]?=some (.cells #[.int .i64 0,.int .i64 0,.slice none 0 0] 29)):=fun W hW=>by rw [hW0] at hW; exact two_rows hW
  have HZ0:Hid (W0.heap.size=w.heap.size + 2):=by show _=_; rw [hW0]; simp
  have HPL:Hid (∀ W,Below w.heap.size w W → Calls Tryz.prog 78 #[rlV E B (.slice (some ⟨g,o,none⟩) N.length c),.int .i64 (i:Int)] W fun e w'=>e=.returned (.tuple #[.int .i64 (n:Int),.int .i64 (q:Int)])∧Below W.heap.size W w'):=fun W hW=>by
    have:=place_any E B _ N i hi hl hln W (h.on hW)
    rw [hpl] at this; exact this
  have HLA:Hid (∀ W,Calls Tryz.prog 74 #[rlV E B (.slice (some ⟨g,o,none⟩) N.length c),.string s] W fun e w'=>e=.returned (.bool (QM.big B s))∧Below W.heap.size W w'):=fun W=>large_any E B _ _ _ s W
  have HHR:Hid (∀ W,Below W0.heap.size W0 W → W.cell? ⟨g,o + n,none⟩=some (.slice U X.length uc)):=fun W hW=>cell_on hcell (HTW.out W hW).1
  have HS:Hid (∀ W,Below W0.heap.size W0 W → W.cell? ⟨w.heap.size,0,none⟩=some (.int .i64 (E:Int))∧W.cell? ⟨w.heap.size,1,none⟩=some (.int .i64 (B:Int))∧W.cell? ⟨w.heap.size,2,none⟩=some (.slice (some ⟨g,o,none⟩) N.length c)):=fun W hW=>by
    obtain ⟨q0,q1,q2,_⟩:=row3 (HTW.out W hW).2.1
    exact ⟨q0,q1,q2⟩
  have HS3:Hid (∀ (W:World) (v0 v1 v2:Value),Below W0.heap.size W0 W → (((W.setCell ⟨w.heap.size + 1,0,none⟩ v0).setCell ⟨w.heap.size + 1,1,none⟩ v1).setCell ⟨w.heap.size + 1,2,none⟩ v2).cell? ⟨w.heap.size,0,none⟩=some (.int .i64 (E:Int))∧(((W.setCell ⟨w.heap.size + 1,0,none⟩ v0).setCell ⟨w.heap.size + 1,1,none⟩ v1).setCell ⟨w.heap.size + 1,2,none⟩ v2).cell? ⟨w.heap.size,1,none⟩=some (.int .i64 (B:Int))∧(((W.setCell ⟨w.heap.size + 1,0,none⟩ v0).setCell ⟨w.heap.size + 1,1,none⟩ v1).setCell ⟨w.heap.size + 1,2,none⟩ v2).cell? ⟨w.heap.size,2,none⟩=some (.slice (some ⟨g,o,none⟩) N.length c)):=fun W v0 v1 v2 hW=>by
    have ho:=(((Only.refl W (w.heap.size + 1)).set 0 v0).set 1 v1).set 2 v2
    obtain ⟨q0,q1,q2⟩:=HS.out W hW
    exact ⟨(World.cell?_of_block (a:=⟨w.heap.size,0,none⟩) (ho.other w.heap.size (by omega))).trans q0,(World.cell?_of_block (a:=⟨w.heap.size,1,none⟩) (ho.other w.heap.size (by omega))).trans q1,(World.cell?_of_block (a:=⟨w.heap.size,2,none⟩) (ho.other w.heap.size (by omega))).trans q2⟩
  have HDR:Hid (DRow ok w (.slice U X.length uc) (strV X)):=hdr
  have HLE:Hid (∀ W,Below w.heap.size w W → Calls Tryz.prog 16 #[rlV E B (.slice (some ⟨g,o,none⟩) N.length c)] W fun e w'=>e=.returned (.int .i64 (N.flatten.length:Int))∧Below W.heap.size W w'):=fun W hW=>rlen_any E B _ N (by omega) (by omega) W (h.on hW)
  have HMA:Hid (∀ W,Below w.heap.size w W → Calls Tryz.prog 73 #[rlV E B (.slice (some ⟨g,o,none⟩) N.length c),.string s,.int .i64 1] W fun e w'=>e=.returned (.int .i64 0)∧Below W.heap.size W w'):=fun W hW=>by
    have:=may_any E B _ N s 1 (by omega) hl hln W (h.on hW)
    rw [if_neg (by omega)] at this; exact this
  have HRN:Hid (∀ W,Below w.heap.size w W → Calls Tryz.prog 75 #[rlV E B (.slice (some ⟨g,o,none⟩) N.length c),.int .i64 (n:Int)] W fun e w'=>e=.returned (.bool (QM.room E B X))∧Below W.heap.size W w'):=fun W hW=>by
    have:=room_yes E B _ N n hnl (by rw [hX]; exact hXne) W (h.on hW)
    rw [hX] at this; exact this
  obtain ⟨LN,hLN⟩:∃ LN,X.length=LN:=⟨_,rfl⟩
  rw [hLN] at hqx hXle HHR HDR
  have HLN:Hid (X.length=LN):=hLN
  have hn0:(0:Int) ≤ (n:Int):=by omega
  have hn1:(n:Int) < (N.length:Int):=by omega
  have hq0:(0:Int) ≤ (q:Int):=by omega
  have hq1:(q:Int) ≤ (LN:Int):=by omega
  have hwn:IntKind.i64.wrap ((n:Int) + 1)=(n:Int) + 1:=by rw [IntKind.wrap_i64] <;> omega
  obtain ⟨F,hF⟩:∃ F,N.flatten.length=F:=⟨_,rfl⟩
  rw [hF] at HLE hi hl
  have hi2:¬ ((i:Int) < 0):=by omega
  have hi3:¬ ((F:Int) < (i:Int)):=by omega
  have hi4:¬ ((i:Int)=(F:Int)):=by omega
  have hi5:((i:Int) == (F:Int))=false:=by simpa using hi4
  have hi6:¬ (i=F):=by omega
  have hi7:¬ (F < i):=by omega
  have hdi1:decide ((i:Int) < 0)=false:=decide_eq_false hi2
  rw [hbg] at HLA
  obtain ⟨P1,c1',hd1,hr1⟩:=DRow.take und22 size9 (show DRow ok w (.slice U LN uc) (strV X) from HDR.out) q (by rw [List.length_map,hLN]; omega)
  obtain ⟨m,hm⟩:∃ m,m=LN - q:=⟨_,rfl⟩
  obtain ⟨P2,c2',hd2,hr2⟩:=DRow.drop und22 size9 (show DRow ok w (.slice U LN uc) (strV X) from HDR.out) q (by rw [List.length_map,hLN]; omega) m (by rw [List.length_map,hLN]; exact hm)
  have HD1:Hid (DRow ok w (.slice P1 q c1') (strV (X.take q))):=by show DRow _ _ _ _; rw [show strV (X.take q)=(strV X).take q by simp [List.map_take]]; exact hd1
  have HD2:Hid (DRow ok w (.slice P2 m c2') (strV (X.drop q))):=by show DRow _ _ _ _; rw [show strV (X.drop q)=(strV X).drop q by simp [List.map_drop]]; exact hd2
  obtain ⟨N',hN⟩:∃ N',N.take n ++ (QM.nes [X.take q,[s],X.drop q] ++ N.drop (n + 1))=N':=⟨_,rfl⟩
  have HN:Hid (N.take n ++ (QM.nes [X.take q,[s],X.drop q] ++ N.drop (n + 1))=N'):=hN
  obtain ⟨NL,hNL⟩:∃ NL,N'.length=NL:=⟨_,rfl⟩
  have HNL:Hid (N'.length=NL):=hNL
  have HQ:Hid (QM.rep N n 1 [X.take q,[s],X.drop q]=N'):=hN
  rw [HQ.out]
  have HWI:Hid (∀ (a5 W5:World),Below W0.heap.size W0 W5 → a5=((W5.alloc (.cells #[.string s] 9)).alloc (.cells #[.slice P1 q c1',.slice (some ⟨W5.heap.size,0,none⟩) 1 1,.slice P2 m c2'] 22)) → Calls Tryz.prog 76 #[rlV E B (.slice (some ⟨g,o,none⟩) N.length c),.int .i64 (n:Int),.int .i64 ((n:Int) + 1),.slice (some ⟨W5.heap.size + 1,0,none⟩) 3 3] a5 fun e w'=>∃ P' c',e=.returned (rlV E B (.slice P' NL c'))∧RL (fun k=>ok k∧k ≠ w.heap.size + 1) w' (.slice P' NL c') N'∧Below W0.heap.size W0 w'):=by
    intro a5 W5 hx e5
    subst e5
    have hz:=HZ0.out
    have hzs:=hx.size
    have hx2:Below W0.heap.size W0 (W5.alloc (.cells #[.string s] 9)):=hx.alloc hzs _
    have hw2:Below w.heap.size w (W5.alloc (.cells #[.string s] 9)):=(HTW.out _ hx2).1
    have hd:DRow (fun k=>ok k∧k ≠ w.heap.size + 1) (W5.alloc (.cells #[.string s] 9)) (.slice (some ⟨W5.heap.size,0,none⟩) 1 1) (strV [s]):=drow_str s ⟨HK.out _ (by omega),by omega⟩
    have ha:=((show DRow ok w (.slice P1 q c1') (strV (X.take q)) from HD1.out).weak (ok':=fun k=>ok k∧k ≠ w.heap.size + 1) (fun k hk1 hk2=>⟨hk2,by omega⟩)).on hw2
    have hb:=((show DRow ok w (.slice P2 m c2') (strV (X.drop q)) from HD2.out).weak (ok':=fun k=>ok k∧k ≠ w.heap.size + 1) (fun k hk1 hk2=>⟨hk2,by omega⟩)).on hw2
    exact with_at (ok:=ok) E B (some ⟨g,o,none⟩) c N [X.take q,[s],X.drop q] [.slice P1 q c1',.slice (some ⟨W5.heap.size,0,none⟩) 1 1,.slice P2 m c2'] n (n + 1) (w.heap.size + 1) (W5.heap.size + 1) NL N' w W0 (W5.alloc (.cells #[.string s] 9)) HN.out HNL.out (by simp) (by omega) (by omega) hln (by simp) HK.out HL.out (HTW.out _ (Below.refl _ _)).1 hx2 ⟨by omega,by omega⟩ ⟨ha,hd,hb,trivial⟩
  clear h hk hI hN hNL hF hcell hdr hXne hbg hX hpl hLN hd1 hd2 HDR hm
  go_enter Tryz.func37,Tryz.ntmps37
  go_wp2_with fail
  rw [← hW0]
  clear hW0
  refine (show Calls _ _ _ _ _ from HLE.out _ (HTW.out _ (Below.refl _ _)).1).mono ?_
  rintro e w1 ⟨rfl,hb1⟩
  have HX1:Hid (Below W0.heap.size W0 w1):=hb1
  obtain ⟨c0,c1,c2,cf⟩:=row3 (HTW.out _ hb1).2.1
  have y0:=HHR.out _ hb1
  clear hb1
  go_wp2_with fail
  refine (show Calls _ _ _ _ _ from HMA.out _ (HTW.out _ HX1.out).1).mono ?_
  rintro e w2 ⟨rfl,hb2⟩
  have HX2:Hid (Below W0.heap.size W0 w2):=bel_to HX1.out hb2 (Nat.le_refl _)
  clear c0 c1 c2 cf y0
  obtain ⟨c0,c1,c2,cf⟩:=row3 (HTW.out _ HX2.out).2.1
  have y0:=HHR.out _ HX2.out
  clear hb2
  go_wp2_with fail
  refine (show Calls _ _ _ _ _ from HLE.out _ (HTW.out _ HX2.out).1).mono ?_
  rintro e w3 ⟨rfl,hb3⟩
  have HX3:Hid (Below W0.heap.size W0 w3):=bel_to HX2.out hb3 (Nat.le_refl _)
  clear c0 c1 c2 cf y0
  obtain ⟨c0,c1,c2,cf⟩:=row3 (HTW.out _ HX3.out).2.1
  have y0:=HHR.out _ HX3.out
  clear hb3
  go_wp2_with fail
  refine (show Calls _ _ _ _ _ from HPL.out _ (HTW.out _ HX3.out).1).mono ?_
  rintro e w4 ⟨rfl,hb4⟩
  have HX4:Hid (Below W0.heap.size W0 w4):=bel_to HX3.out hb4 (Nat.le_refl _)
  clear c0 c1 c2 cf y0
  obtain ⟨c0,c1,c2,cf⟩:=row3 (HTW.out _ HX4.out).2.1
  have y0:=HHR.out _ HX4.out
  clear hb4
  go_wp2_with fail
  refine (show Calls _ _ _ _ _ from HLA.out _).mono ?_
  rintro e w5 ⟨rfl,hb5⟩
  have HX5:Hid (Below W0.heap.size W0 w5):=bel_to HX4.out hb5 (Nat.le_refl _)
  clear c0 c1 c2 cf y0
  obtain ⟨c0,c1,c2,cf⟩:=row3 (HTW.out _ HX5.out).2.1
  have y0:=HHR.out _ HX5.out
  clear hb5
  have hS0:=HS.out _ HX5.out
  have hS1:=HS.out _ HX5.out.drew
  have HXd:Hid (Below W0.heap.size W0 w5.drew):=HX5.out.drew
  have hS2:=HS.out _ (HX5.out.alloc HX5.out.size (.cells #[.string s] 9)).drew
  have hS3:=HS.out _ ((HX5.out.alloc HX5.out.size (.cells #[.string s] 9)).alloc (Nat.le_trans HX5.out.size (by simp)) (.cells #[.slice P1 q c1',.slice (some ⟨w5.heap.size,0,none⟩) 1 1,.slice P2 m c2'] 22)).drew
  go_wp2_with fail
  go_region_held3 (fun w':World=>w'.cell? ⟨w.heap.size,0,none⟩=some (.int .i64 (E:Int))∧w'.cell? ⟨w.heap.size,1,none⟩=some (.int .i64 (B:Int))∧w'.cell? ⟨w.heap.size,2,none⟩=some (.slice (some ⟨g,o,none⟩) N.length c))
    (first | with_reducible exact hS0 | with_reducible exact hS1 | with_reducible exact HS.out _ hx5 | with_reducible exact HS.out _ hx6 | with_reducible exact HS.out _ (hx5.alloc hx5.size _) | with_reducible exact HS3.out _ _ _ _ hx6 | with_reducible exact hS2 | with_reducible exact hS3)
    (first | (go_at_call 76; refine (show Calls _ _ _ _ _ from HWI.out _ w5.drew HXd.out rfl).mono ?_; rintro e a6 ⟨P',c',rfl,hR,hx6⟩; obtain ⟨r0,r1,r2,rf⟩:=row3 (HTW.out _ hx6).2.2))
  clear hS0 hS1 hS2 hS3
  have HX9:Hid (Below W0.heap.size W0 a6):=hx6
  have HR:Hid (RL (fun k=>ok k∧k ≠ w.heap.size + 1) a6 (.slice P' NL c') N'):=hR
  have HG:Hid _:=heap_set3 a6 (w.heap.size + 1) 29 _ _ _ (.int .i64 (E:Int)) (.int .i64 (B:Int)) (.slice P' NL c') (HTW.out _ hx6).2.2
  clear hx6 hR
  go_wp2
  obtain ⟨g0,g1,g2,gf⟩:=row3 HG.out.1
  exact bodyPost_ret (v:=.tuple #[rlV E B (.slice P' NL c'),.int .i64 0]) (by simp [results,Tryz.results37,go_sem,g0,g1,g2]) rfl ⟨_,rfl,fin_rl _ _ _ (HTW.out _ HX9.out).2.2 HR.out,below_set3 (HTW.out _ HX9.out).1 (by omega) _ _ _⟩
end
end Go.Proofs.YtjnbjfjoejfmpaaGreatDoor
namespace Go.Proofs.YtjnbjfjoejfmpaaGreatDoor
open Go.RowKit
set_option linter.unusedVariables false
set_option linter.unusedSimpArgs false
section
variable {ok:Nat → Prop}
set_option maxHeartbeats 4000000 in
set_option maxRecDepth 100000 in
theorem rins_room (E B:Nat) (v:Value) (N:QM.NL) (i:Nat) (s:ByteArray) (n q:Nat) (X:List ByteArray) (hi:i < N.flatten.length) (hnl:n < N.length) (hX:N[n]=X) (hpl:QM.plc N i=(n,q)) (hqx:q < X.length) (hI:QM.Inv E B N) (hl:N.flatten.length ≤ 1000) (hs:s.size ≤ 524288) (w:World) (hk:∀ k,w.heap.size ≤ k → ok k) (h:RL ok w v N) (hbg:QM.big B s=false) (hro:QM.room E B X=true) :
    Calls Tryz.prog 37 #[rlV E B v,.int .i64 (i:Int),.string s] w fun e w'=>∃ v',e=.returned (.tuple #[rlV E B v',.int .i64 0])∧RL ok w' v' (QM.rep N n 1 [X.take q ++ s :: X.drop q])∧Below w.heap.size w w':=by
  have HI:Hid (QM.Inv E B N):=hI
  have hln:N.length ≤ 1000:=Nat.le_trans (QM.len_le hI.some) hl
  have hXne:=hI.some _ (List.getElem_mem hnl)
  have hXle:=hI.few _ (List.getElem_mem hnl)
  have hEle:=hI.le
  obtain ⟨g,o,c,u,hsl,hcell,hdr⟩:=h.at_ hnl
  rw [hX] at hXne hXle hdr
  subst hsl
  obtain ⟨U,uc,hu⟩:=hdr.sform
  subst hu
  have HL:Hid (RL ok w (.slice (some ⟨g,o,none⟩) N.length c) N):=h
  have HK:Hid (∀ k,w.heap.size ≤ k → ok k):=hk
  obtain ⟨W0,hW0⟩:∃ W0,W0=(w.alloc (.cells #[.int .i64 (E:Int),.int .i64 (B:Int),.slice (some ⟨g,o,none⟩) N.length c] 29)).alloc (.cells #[.int .i64 0,.int .i64 0,.slice none 0 0] 29):=⟨_,rfl⟩
  have HTW:Hid (∀ W,Below W0.heap.size W0 W → Below w.heap.size w W∧W.heap[w.heap.size]?=some (.cells #[.int .i64 (E:Int),.int .i64 (B:Int),.slice (some ⟨g,o,none⟩) N.length c] 29)∧W.heap[w.heap.size + 1]?=some (.cells #[.int .i64 0,.int .i64 0,.slice none 0 0] 29)):=fun W hW=>by rw [hW0] at hW; exact two_rows hW
  have HZ0:Hid (W0.heap.size=w.heap.size + 2):=by show _=_; rw [hW0]; simp
  have HPL:Hid (∀ W,Below w.heap.size w W → Calls Tryz.prog 78 #[rlV E B (.slice (some ⟨g,o,none⟩) N.length c),.int .i64 (i:Int)] W fun e w'=>e=.returned (.tuple #[.int .i64 (n:Int),.int .i64 (q:Int)])∧Below W.heap.size W w'):=fun W hW=>by
    have:=place_any E B _ N i hi hl hln W (h.on hW)
    rw [hpl] at this; exact this
  have HLA:Hid (∀ W,Calls Tryz.prog 74 #[rlV E B (.slice (some ⟨g,o,none⟩) N.length c),.string s] W fun e w'=>e=.returned (.bool (QM.big B s))∧Below W.heap.size W w'):=fun W=>large_any E B _ _ _ s W
  have HHR:Hid (∀ W,Below W0.heap.size W0 W → W.cell? ⟨g,o + n,none⟩=some (.slice U X.length uc)):=fun W hW=>cell_on hcell (HTW.out W hW).1
  have HS:Hid (∀ W,Below W0.heap.size W0 W → W.cell? ⟨w.heap.size,0,none⟩=some (.int .i64 (E:Int))∧W.cell? ⟨w.heap.size,1,none⟩=some (.int .i64 (B:Int))∧W.cell? ⟨w.heap.size,2,none⟩=some (.slice (some ⟨g,o,none⟩) N.length c)):=fun W hW=>by
    obtain ⟨q0,q1,q2,_⟩:=row3 (HTW.out W hW).2.1
    exact ⟨q0,q1,q2⟩
  have HS3:Hid (∀ (W:World) (v0 v1 v2:Value),Below W0.heap.size W0 W → (((W.setCell ⟨w.heap.size + 1,0,none⟩ v0).setCell ⟨w.heap.size + 1,1,none⟩ v1).setCell ⟨w.heap.size + 1,2,none⟩ v2).cell? ⟨w.heap.size,0,none⟩=some (.int .i64 (E:Int))∧(((W.setCell ⟨w.heap.size + 1,0,none⟩ v0).setCell ⟨w.heap.size + 1,1,none⟩ v1).setCell ⟨w.heap.size + 1,2,none⟩ v2).cell? ⟨w.heap.size,1,none⟩=some (.int .i64 (B:Int))∧(((W.setCell ⟨w.heap.size + 1,0,none⟩ v0).setCell ⟨w.heap.size + 1,1,none⟩ v1).setCell ⟨w.heap.size + 1,2,none⟩ v2).cell? ⟨w.heap.size,2,none⟩=some (.slice (some ⟨g,o,none⟩) N.length c)):=fun W v0 v1 v2 hW=>by
    have ho:=(((Only.refl W (w.heap.size + 1)).set 0 v0).set 1 v1).set 2 v2
    obtain ⟨q0,q1,q2⟩:=HS.out W hW
    exact ⟨(World.cell?_of_block (a:=⟨w.heap.size,0,none⟩) (ho.other w.heap.size (by omega))).trans q0,(World.cell?_of_block (a:=⟨w.heap.size,1,none⟩) (ho.other w.heap.size (by omega))).trans q1,(World.cell?_of_block (a:=⟨w.heap.size,2,none⟩) (ho.other w.heap.size (by omega))).trans q2⟩
  have HDR:Hid (DRow ok w (.slice U X.length uc) (strV X)):=hdr
  have HLE:Hid (∀ W,Below w.heap.size w W → Calls Tryz.prog 16 #[rlV E B (.slice (some ⟨g,o,none⟩) N.length c)] W fun e w'=>e=.returned (.int .i64 (N.flatten.length:Int))∧Below W.heap.size W w'):=fun W hW=>rlen_any E B _ N (by omega) (by omega) W (h.on hW)
  have HMA:Hid (∀ W,Below w.heap.size w W → Calls Tryz.prog 73 #[rlV E B (.slice (some ⟨g,o,none⟩) N.length c),.string s,.int .i64 1] W fun e w'=>e=.returned (.int .i64 0)∧Below W.heap.size W w'):=fun W hW=>by
    have:=may_any E B _ N s 1 (by omega) hl hln W (h.on hW)
    rw [if_neg (by omega)] at this; exact this
  have HRN:Hid (∀ W,Below w.heap.size w W → Calls Tryz.prog 75 #[rlV E B (.slice (some ⟨g,o,none⟩) N.length c),.int .i64 (n:Int)] W fun e w'=>e=.returned (.bool (QM.room E B X))∧Below W.heap.size W w'):=fun W hW=>by
    have:=room_yes E B _ N n hnl (by rw [hX]; exact hXne) W (h.on hW)
    rw [hX] at this; exact this
  obtain ⟨LN,hLN⟩:∃ LN,X.length=LN:=⟨_,rfl⟩
  rw [hLN] at hqx hXle HHR HDR
  have HLN:Hid (X.length=LN):=hLN
  have hn0:(0:Int) ≤ (n:Int):=by omega
  have hn1:(n:Int) < (N.length:Int):=by omega
  have hq0:(0:Int) ≤ (q:Int):=by omega
  have hq1:(q:Int) ≤ (LN:Int):=by omega
  have hwn:IntKind.i64.wrap ((n:Int) + 1)=(n:Int) + 1:=by rw [IntKind.wrap_i64] <;> omega
  obtain ⟨F,hF⟩:∃ F,N.flatten.length=F:=⟨_,rfl⟩
  rw [hF] at HLE hi hl
  have hi2:¬ ((i:Int) < 0):=by omega
  have hi3:¬ ((F:Int) < (i:Int)):=by omega
  have hi4:¬ ((i:Int)=(F:Int)):=by omega
  have hi5:((i:Int) == (F:Int))=false:=by simpa using hi4
  have hi6:¬ (i=F):=by omega
  have hi7:¬ (F < i):=by omega
  have hdi1:decide ((i:Int) < 0)=false:=decide_eq_false hi2
  rw [hbg] at HLA
  rw [hro] at HRN
  obtain ⟨YJ,hYJ⟩:∃ YJ,X.take q ++ s :: X.drop q=YJ:=⟨_,rfl⟩
  have HYJ:Hid (YJ.length=LN + 1):=by show _=_; rw [← hYJ]; simp <;> omega
  have HJ:Hid (∀ W,Below w.heap.size w W → Calls Tryz.prog 77 #[.slice U LN uc,.int .i64 (q:Int),.string s] W fun e w'=>∃ P9 k9,e=.returned (.slice P9 (LN + 1) k9)∧w'.ownsRow W.heap.size 9 1 (.slice P9 (LN + 1) k9) (LN + 1) (strV (X.take q ++ s :: X.drop q))∧Below W.heap.size W w'):=fun W hW=>by
    have:=joined_any (.slice U LN uc) X q (by omega) s (by omega) W (DRow.on (show DRow ok w (.slice U LN uc) (strV X) from HDR.out) hW)
    rw [hLN] at this
    refine Calls.mono this ?_
    rintro e w' ⟨v',rfl,ho,hb⟩
    obtain ⟨P9,k9,rfl⟩:=own_form ho
    exact ⟨P9,k9,rfl,ho,hb⟩
  rw [hYJ] at HJ
  obtain ⟨N',hN⟩:∃ N',N.take n ++ (QM.nes [YJ] ++ N.drop (n + 1))=N':=⟨_,rfl⟩
  have HN:Hid (N.take n ++ (QM.nes [YJ] ++ N.drop (n + 1))=N'):=hN
  obtain ⟨NL,hNL⟩:∃ NL,N'.length=NL:=⟨_,rfl⟩
  have HNL:Hid (N'.length=NL):=hNL
  have HQ:Hid (QM.rep N n 1 [X.take q ++ s :: X.drop q]=N'):=by show _=_; rw [hYJ]; exact hN
  rw [HQ.out]
  have HWI:Hid (∀ (a5 W5:World) (P9:Option Addr) (k9:Nat),Below W0.heap.size W0 W5 → W5.ownsRow (w.heap.size + 2) 9 1 (.slice P9 (LN + 1) k9) (LN + 1) (strV YJ) → a5=W5.alloc (.cells #[.slice P9 (LN + 1) k9] 22) → Calls Tryz.prog 76 #[rlV E B (.slice (some ⟨g,o,none⟩) N.length c),.int .i64 (n:Int),.int .i64 ((n:Int) + 1),.slice (some ⟨W5.heap.size,0,none⟩) 1 1] a5 fun e w'=>∃ P' c',e=.returned (rlV E B (.slice P' NL c'))∧RL (fun k=>ok k∧k ≠ w.heap.size + 1) w' (.slice P' NL c') N'∧Below W0.heap.size W0 w'):=by
    intro a5 W5 P9 k9 hx ho e5
    subst e5
    have hz:=HZ0.out
    have hw2:Below w.heap.size w W5:=(HTW.out _ hx).1
    have hd:DRow (fun k=>ok k∧k ≠ w.heap.size + 1) W5 (.slice P9 (LN + 1) k9) (strV YJ):=DRow.of_own ho (by rw [List.length_map]; exact HYJ.out.symm) (fun k hk1=>⟨HK.out k (by omega),by omega⟩)
    exact with_at (ok:=ok) E B (some ⟨g,o,none⟩) c N [YJ] [.slice P9 (LN + 1) k9] n (n + 1) (w.heap.size + 1) W5.heap.size NL N' w W0 W5 HN.out HNL.out rfl (by omega) (by omega) hln (by simp) HK.out HL.out (HTW.out _ (Below.refl _ _)).1 hx ⟨by omega,by omega⟩ ⟨hd,trivial⟩
  clear h hk hI hN hNL hF hcell hdr hXne hbg hX hpl hLN HDR hYJ hro
  go_enter Tryz.func37,Tryz.ntmps37
  go_wp2_with fail
  rw [← hW0]
  clear hW0
  refine (show Calls _ _ _ _ _ from HLE.out _ (HTW.out _ (Below.refl _ _)).1).mono ?_
  rintro e w1 ⟨rfl,hb1⟩
  have HX1:Hid (Below W0.heap.size W0 w1):=hb1
  obtain ⟨c0,c1,c2,cf⟩:=row3 (HTW.out _ hb1).2.1
  have y0:=HHR.out _ hb1
  clear hb1
  go_wp2_with fail
  refine (show Calls _ _ _ _ _ from HMA.out _ (HTW.out _ HX1.out).1).mono ?_
  rintro e w2 ⟨rfl,hb2⟩
  have HX2:Hid (Below W0.heap.size W0 w2):=bel_to HX1.out hb2 (Nat.le_refl _)
  clear c0 c1 c2 cf y0
  obtain ⟨c0,c1,c2,cf⟩:=row3 (HTW.out _ HX2.out).2.1
  have y0:=HHR.out _ HX2.out
  clear hb2
  go_wp2_with fail
  refine (show Calls _ _ _ _ _ from HLE.out _ (HTW.out _ HX2.out).1).mono ?_
  rintro e w3 ⟨rfl,hb3⟩
  have HX3:Hid (Below W0.heap.size W0 w3):=bel_to HX2.out hb3 (Nat.le_refl _)
  clear c0 c1 c2 cf y0
  obtain ⟨c0,c1,c2,cf⟩:=row3 (HTW.out _ HX3.out).2.1
  have y0:=HHR.out _ HX3.out
  clear hb3
  go_wp2_with fail
  refine (show Calls _ _ _ _ _ from HPL.out _ (HTW.out _ HX3.out).1).mono ?_
  rintro e w4 ⟨rfl,hb4⟩
  have HX4:Hid (Below W0.heap.size W0 w4):=bel_to HX3.out hb4 (Nat.le_refl _)
  clear c0 c1 c2 cf y0
  obtain ⟨c0,c1,c2,cf⟩:=row3 (HTW.out _ HX4.out).2.1
  have y0:=HHR.out _ HX4.out
  clear hb4
  go_wp2_with fail
  refine (show Calls _ _ _ _ _ from HLA.out _).mono ?_
  rintro e w5 ⟨rfl,hb5⟩
  have HX5:Hid (Below W0.heap.size W0 w5):=bel_to HX4.out hb5 (Nat.le_refl _)
  clear c0 c1 c2 cf y0
  obtain ⟨c0,c1,c2,cf⟩:=row3 (HTW.out _ HX5.out).2.1
  have y0:=HHR.out _ HX5.out
  clear hb5
  go_wp2_with fail
  refine (show Calls _ _ _ _ _ from HRN.out _ (HTW.out _ HX5.out).1).mono ?_
  rintro e w6 ⟨rfl,hb6⟩
  have HX6:Hid (Below W0.heap.size W0 w6):=bel_to HX5.out hb6 (Nat.le_refl _)
  clear c0 c1 c2 cf y0
  obtain ⟨c0,c1,c2,cf⟩:=row3 (HTW.out _ HX6.out).2.1
  have y0:=HHR.out _ HX6.out
  clear hb6
  have hS0:=HS.out _ HX6.out
  have hS1:=HS.out _ HX6.out.drew
  have hS2:=hS1
  have hS3:=hS1
  have HXd:Hid _:=HX6.out.drew
  go_wp2_with fail
  go_region_held3 (fun w':World=>w'.cell? ⟨w.heap.size,0,none⟩=some (.int .i64 (E:Int))∧w'.cell? ⟨w.heap.size,1,none⟩=some (.int .i64 (B:Int))∧w'.cell? ⟨w.heap.size,2,none⟩=some (.slice (some ⟨g,o,none⟩) N.length c))
    (first | with_reducible exact hS0 | with_reducible exact hS1 | with_reducible exact HS.out _ hx5 | with_reducible exact HS.out _ hx6 | with_reducible exact HS.out _ (hx5.alloc hx5.size _) | with_reducible exact HS3.out _ _ _ _ hx6 | with_reducible exact hS2 | with_reducible exact hS3)
    (first | (go_at_call 76; refine (show Calls _ _ _ _ _ from HWI.out _ a5 _ _ hx5 ho5 rfl).mono ?_; rintro e a6 ⟨P',c',rfl,hR,hx6⟩; obtain ⟨r0,r1,r2,rf⟩:=row3 (HTW.out _ hx6).2.2) | (go_at_call 77; refine (show Calls _ _ _ _ _ from HJ.out _ (HTW.out _ HXd.out).1).mono ?_; rintro e a5 ⟨P9,k9,rfl,ho5',hb5⟩; have hx5:=bel_to HXd.out hb5 (Nat.le_refl _); have ho5:=own_lower (b:=w.heap.size + 2) ho5' (by have h1:=HZ0.out; have h2:=HXd.out.size; omega)))
  clear hS0 hS1 hS2 hS3 hx5 ho5 ho5' hb5
  have HX9:Hid (Below W0.heap.size W0 a6):=hx6
  have HR:Hid (RL (fun k=>ok k∧k ≠ w.heap.size + 1) a6 (.slice P' NL c') N'):=hR
  have HG:Hid _:=heap_set3 a6 (w.heap.size + 1) 29 _ _ _ (.int .i64 (E:Int)) (.int .i64 (B:Int)) (.slice P' NL c') (HTW.out _ hx6).2.2
  clear hx6 hR
  go_wp2
  obtain ⟨g0,g1,g2,gf⟩:=row3 HG.out.1
  exact bodyPost_ret (v:=.tuple #[rlV E B (.slice P' NL c'),.int .i64 0]) (by simp [results,Tryz.results37,go_sem,g0,g1,g2]) rfl ⟨_,rfl,fin_rl _ _ _ (HTW.out _ HX9.out).2.2 HR.out,below_set3 (HTW.out _ HX9.out).1 (by omega) _ _ _⟩
end
end Go.Proofs.YtjnbjfjoejfmpaaGreatDoor
