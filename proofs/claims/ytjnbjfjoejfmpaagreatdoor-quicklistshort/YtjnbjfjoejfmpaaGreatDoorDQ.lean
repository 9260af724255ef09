import Derived.Test.YtjnbjfjoejfmpaaGreatDoorWAT
import Derived.Deep.RegionHeld3
namespace Go.Proofs.YtjnbjfjoejfmpaaGreatDoor
open Go.RowKit
set_option linter.unusedVariables false
set_option linter.unusedSimpArgs false
section
variable {ok:Nat → Prop}
set_option maxHeartbeats 4000000 in
set_option maxRecDepth 100000 in
theorem rpush_room_true (E B:Nat) (v:Value) (N:QM.NL) (s:ByteArray) (hI:QM.Inv E B N) (hl:N.flatten.length ≤ 1000) (hs:s.size ≤ 524288) (w:World) (hk:∀ k,w.heap.size ≤ k → ok k) (h:RL ok w v N) (hbg:QM.big B s=false) (h0:0 < N.length) (hRO:∀ W,RL ok W v N → Calls Tryz.prog 75 #[rlV E B v,.int .i64 (0:Int)] W fun e w'=>e=.returned (.bool true)∧Below W.heap.size W w') :
    Calls Tryz.prog 34 #[rlV E B v,.string s,.bool true] w fun e w'=>∃ v',e=.returned (.tuple #[rlV E B v',.int .i64 0])∧RL ok w' v' (QM.rep N 0 1 [N[0].take 0 ++ s :: N[0].drop 0])∧Below w.heap.size w w':=by
  obtain ⟨P,c,rfl⟩:=h.form
  have HL:Hid (RL ok w (.slice P N.length c) N):=h
  have HK:Hid (∀ k,w.heap.size ≤ k → ok k):=hk
  have hln:N.length ≤ 1000:=Nat.le_trans (QM.len_le hI.some) hl
  have HMA:Hid (∀ W,Below w.heap.size w W → Calls Tryz.prog 73 #[rlV E B (.slice P N.length c),.string s,.int .i64 1] W fun e w'=>e=.returned (.int .i64 0)∧Below W.heap.size W w'):=fun W hW=>by
    have:=may_any E B _ N s 1 (by omega) hl hln W (h.on hW)
    rw [if_neg (by omega)] at this; exact this
  have HLA:Hid (∀ W,Calls Tryz.prog 74 #[rlV E B (.slice P N.length c),.string s] W fun e w'=>e=.returned (.bool (QM.big B s))∧Below W.heap.size W w'):=fun W=>large_any E B _ _ _ s W
  rw [hbg] at HLA
  obtain ⟨W0,hW0⟩:∃ W0,W0=(w.alloc (.cells #[.int .i64 (E:Int),.int .i64 (B:Int),.slice P N.length c] 29)).alloc (.cells #[.int .i64 0,.int .i64 0,.slice none 0 0] 29):=⟨_,rfl⟩
  have HTW:Hid (∀ W,Below W0.heap.size W0 W → Below w.heap.size w W∧W.heap[w.heap.size]?=some (.cells #[.int .i64 (E:Int),.int .i64 (B:Int),.slice P N.length c] 29)∧W.heap[w.heap.size + 1]?=some (.cells #[.int .i64 0,.int .i64 0,.slice none 0 0] 29)):=fun W hW=>by rw [hW0] at hW; exact two_rows hW
  have HZ0:Hid (W0.heap.size=w.heap.size + 2):=by show _=_; rw [hW0]; simp
  have hpos:0 < N.length:=by omega
  obtain ⟨g,o,c',u,hsl,hcell,hdr⟩:=h.at_ (j:=0) (by omega)
  injection hsl with e1 e2 e3
  subst e1 e3
  obtain ⟨U,uc,hu⟩:=hdr.sform
  subst hu
  have HDR:Hid (DRow ok w (.slice U N[0].length uc) (strV N[0])):=hdr
  have HXE:Hid (N[0].length ≤ 1000000):=by
    have:=(hI.few _ (List.getElem_mem (show 0 < N.length by omega)))
    have:=hI.le
    show _ ≤ _; omega
  have HRO:Hid (∀ W,Below w.heap.size w W → Calls Tryz.prog 75 #[rlV E B (.slice (some ⟨g,o,none⟩) N.length c),.int .i64 (0:Int)] W fun e w'=>e=.returned (.bool true)∧Below W.heap.size W w'):=fun W hW=>hRO W (HL.out.on hW)
  generalize N[0]=X at *
  obtain ⟨LN,hLN⟩:∃ LN,X.length=LN:=⟨_,rfl⟩
  rw [hLN] at HDR HXE hcell
  have HLN:Hid (X.length=LN):=hLN
  have HXB:=HXE.out
  obtain ⟨N',hN⟩:∃ N',N.take 0 ++ (QM.nes [X.take 0 ++ s :: X.drop 0] ++ N.drop 1)=N':=⟨_,rfl⟩
  have HN:Hid (N.take 0 ++ (QM.nes [X.take 0 ++ s :: X.drop 0] ++ N.drop 1)=N'):=hN
  have HQ:Hid (QM.rep N 0 1 [X.take 0 ++ s :: X.drop 0]=N'):=by
    show _=_
    rw [← hN]; unfold QM.rep
    first | rfl | rw [hLN]
  rw [HQ.out]
  obtain ⟨NL,hNL⟩:∃ NL,N'.length=NL:=⟨_,rfl⟩
  have HNL:Hid (N'.length=NL):=hNL
  have hw1:IntKind.i64.wrap ((N.length:Int) - 1)=(N.length:Int) - 1:=by rw [IntKind.wrap_i64] <;> omega
  have hw2:IntKind.i64.wrap ((0:Int) + 1)=(0:Int) + 1:=by rw [IntKind.wrap_i64] <;> omega
  have hj0:(0:Int) ≤ (0:Int):=by omega
  have hj1:(0:Int) < (N.length:Int):=by omega
  have hj3:N ≠ []:=by intro e; rw [e] at hpos; simp at hpos
  have hj4:¬ N.length=0:=by omega
  have HJ:Hid (∀ W,Below w.heap.size w W → Calls Tryz.prog 77 #[.slice U LN uc,.int .i64 0,.string s] W fun e w'=>∃ P9 k9,e=.returned (.slice P9 (LN + 1) k9)∧w'.ownsRow W.heap.size 9 1 (.slice P9 (LN + 1) k9) (LN + 1) (strV (X.take 0 ++ s :: X.drop 0))∧Below W.heap.size W w'):=fun W hW=>by
    have:=joined_any (.slice U LN uc) X 0 (by omega) s (by rw [hLN]; omega) W (DRow.on (show DRow ok w (.slice U LN uc) (strV X) from HDR.out) hW)
    rw [hLN] at this
    refine Calls.mono this ?_
    rintro e w' ⟨v',rfl,ho,hb⟩
    obtain ⟨P9,k9,rfl⟩:=own_form ho
    exact ⟨P9,k9,rfl,ho,hb⟩
  have HWI:Hid (∀ (a5 W5:World) (P9:Option Addr) (k9:Nat),Below W0.heap.size W0 W5 → W5.ownsRow (w.heap.size + 2) 9 1 (.slice P9 (LN + 1) k9) (LN + 1) (strV (X.take 0 ++ s :: X.drop 0)) → a5=W5.alloc (.cells #[.slice P9 (LN + 1) k9] 22) → Calls Tryz.prog 76 #[rlV E B (.slice (some ⟨g,o,none⟩) N.length c),.int .i64 0,.int .i64 1,.slice (some ⟨W5.heap.size,0,none⟩) 1 1] a5 fun e w'=>∃ P' c',e=.returned (rlV E B (.slice P' NL c'))∧RL (fun k=>ok k∧k ≠ w.heap.size + 1) w' (.slice P' NL c') N'∧Below W0.heap.size W0 w'):=by
    intro a5 W5 P9 k9 hx ho e5
    subst e5
    have hz:=HZ0.out
    have hd:DRow (fun k=>ok k∧k ≠ w.heap.size + 1) W5 (.slice P9 (LN + 1) k9) (strV (X.take 0 ++ s :: X.drop 0)):=DRow.of_own ho (by simp; omega) (fun q hq=>⟨HK.out q (by omega),by omega⟩)
    have:=with_at (ok:=ok) E B (some ⟨g,o,none⟩) c N [X.take 0 ++ s :: X.drop 0] [.slice P9 (LN + 1) k9] 0 1 (w.heap.size + 1) W5.heap.size NL N' w W0 W5 HN.out HNL.out rfl (by omega) (by omega) hln (by simp) HK.out HL.out (HTW.out _ (Below.refl _ _)).1 hx ⟨by omega,by omega⟩ ⟨hd,trivial⟩
    exact this
  have hcw:=fun W (hW:Below W0.heap.size W0 W)=>cell_on hcell (HTW.out W hW).1
  have HS:Hid (∀ W,Below W0.heap.size W0 W → W.cell? ⟨w.heap.size,0,none⟩=some (.int .i64 (E:Int))∧W.cell? ⟨w.heap.size,1,none⟩=some (.int .i64 (B:Int))∧W.cell? ⟨w.heap.size,2,none⟩=some (.slice (some ⟨g,o,none⟩) N.length c)∧W.cell? ⟨g,o,none⟩=some (.slice U LN uc)):=fun W hW=>by
    obtain ⟨q0,q1,q2,_⟩:=row3 (HTW.out W hW).2.1
    exact ⟨q0,q1,q2,by have:=hcw W hW; simpa using this⟩
  have hgw:g < w.heap.size:=by
    rcases (show RL ok w _ N from HL.out) with ⟨us,hd | ⟨g',o',c'',e,_,_,hg,_⟩,_⟩
    · exact absurd hd.1 (by simp)
    · injection e with e1 _ _
      injection e1 with e1
      injection e1 with e1 _ _
      omega
  have HS3:Hid (∀ (W:World) (v0 v1 v2:Value),Below W0.heap.size W0 W → (((W.setCell ⟨w.heap.size + 1,0,none⟩ v0).setCell ⟨w.heap.size + 1,1,none⟩ v1).setCell ⟨w.heap.size + 1,2,none⟩ v2).cell? ⟨w.heap.size,0,none⟩=some (.int .i64 (E:Int))∧(((W.setCell ⟨w.heap.size + 1,0,none⟩ v0).setCell ⟨w.heap.size + 1,1,none⟩ v1).setCell ⟨w.heap.size + 1,2,none⟩ v2).cell? ⟨w.heap.size,1,none⟩=some (.int .i64 (B:Int))∧(((W.setCell ⟨w.heap.size + 1,0,none⟩ v0).setCell ⟨w.heap.size + 1,1,none⟩ v1).setCell ⟨w.heap.size + 1,2,none⟩ v2).cell? ⟨w.heap.size,2,none⟩=some (.slice (some ⟨g,o,none⟩) N.length c)∧(((W.setCell ⟨w.heap.size + 1,0,none⟩ v0).setCell ⟨w.heap.size + 1,1,none⟩ v1).setCell ⟨w.heap.size + 1,2,none⟩ v2).cell? ⟨g,o,none⟩=some (.slice U LN uc)):=fun W v0 v1 v2 hW=>by
    have ho:=(((Only.refl W (w.heap.size + 1)).set 0 v0).set 1 v1).set 2 v2
    obtain ⟨q0,q1,q2,q3⟩:=HS.out W hW
    exact ⟨(World.cell?_of_block (a:=⟨w.heap.size,0,none⟩) (ho.other w.heap.size (by omega))).trans q0,(World.cell?_of_block (a:=⟨w.heap.size,1,none⟩) (ho.other w.heap.size (by omega))).trans q1,(World.cell?_of_block (a:=⟨w.heap.size,2,none⟩) (ho.other w.heap.size (by omega))).trans q2,(World.cell?_of_block (a:=⟨g,o,none⟩) (ho.other g (by omega))).trans q3⟩
  clear h hk hI hN hNL hbg hRO hcw hgw hcell hdr HDR e2 h0
  go_enter Tryz.func34,Tryz.ntmps34
  go_wp2_with fail
  rw [← hW0]
  refine (show Calls _ _ _ _ _ from HMA.out _ (HTW.out _ (Below.refl _ _)).1).mono ?_
  rintro e w1 ⟨rfl,hb1⟩
  have HX1:Hid (Below W0.heap.size W0 w1):=hb1
  obtain ⟨c0,c1,c2,cf⟩:=row3 (HTW.out _ hb1).2.1
  clear hb1 hW0
  go_wp2_with fail
  refine (show Calls _ _ _ _ _ from HLA.out _).mono ?_
  rintro e w2 ⟨rfl,hb2⟩
  have HX2:Hid (Below W0.heap.size W0 w2):=bel_to HX1.out hb2 (Nat.le_refl _)
  clear c0 c1 c2 cf
  obtain ⟨c0,c1,c2,cf⟩:=row3 (HTW.out _ HX2.out).2.1
  clear hb2
  go_wp2_with fail
  refine (show Calls _ _ _ _ _ from HRO.out _ (HTW.out _ HX2.out).1).mono ?_
  rintro e w3 ⟨rfl,hb3⟩
  have HX3:Hid (Below W0.heap.size W0 w3):=bel_to HX2.out hb3 (Nat.le_refl _)
  clear c0 c1 c2 cf
  obtain ⟨c0,c1,c2,cf⟩:=row3 (HTW.out _ HX3.out).2.1
  clear hb3
  have hS0:=HS.out _ HX3.out
  have hS1:=HS.out _ HX3.out.drew
  have HXd:Hid _:=HX3.out.drew
  go_wp2_with fail
  go_region_held3 (fun w':World=>w'.cell? ⟨w.heap.size,0,none⟩=some (.int .i64 (E:Int))∧w'.cell? ⟨w.heap.size,1,none⟩=some (.int .i64 (B:Int))∧w'.cell? ⟨w.heap.size,2,none⟩=some (.slice (some ⟨g,o,none⟩) N.length c)∧w'.cell? ⟨g,o,none⟩=some (.slice U LN uc))
    (first | with_reducible exact hS0 | with_reducible exact hS1 | with_reducible exact HS.out _ hx5 | with_reducible exact HS.out _ hx6 | with_reducible exact HS.out _ (hx5.alloc hx5.size _) | with_reducible exact HS3.out _ _ _ _ hx6)
    (first | (go_at_call 76; refine (show Calls _ _ _ _ _ from HWI.out _ a5 _ _ hx5 ho5 rfl).mono ?_; rintro e a6 ⟨P',c',rfl,hR,hx6⟩; obtain ⟨r0,r1,r2,rf⟩:=row3 (HTW.out _ hx6).2.2) | (go_at_call 77; refine (show Calls _ _ _ _ _ from HJ.out _ (HTW.out _ HXd.out).1).mono ?_; rintro e a5 ⟨P9,k9,rfl,ho5',hb5⟩; have hx5:=bel_to HXd.out hb5 (Nat.le_refl _); have ho5:=own_lower (b:=w.heap.size + 2) ho5' (by have h1:=HZ0.out; have h2:=HXd.out.size; omega)))
  have HX6:Hid (Below W0.heap.size W0 a6):=hx6
  have HR:Hid (RL (fun k=>ok k∧k ≠ w.heap.size + 1) a6 (.slice P' NL c') N'):=hR
  have HG:Hid _:=heap_set3 a6 (w.heap.size + 1) 29 _ _ _ (.int .i64 (E:Int)) (.int .i64 (B:Int)) (.slice P' NL c') (HTW.out _ hx6).2.2
  clear hS0 hS1 hx5 hx6 ho5 ho5' hb5 hR
  go_wp2
  obtain ⟨g0,g1,g2,gf⟩:=row3 HG.out.1
  exact bodyPost_ret (v:=.tuple #[rlV E B (.slice P' NL c'),.int .i64 0]) (by simp [results,Tryz.results34,go_sem,g0,g1,g2]) rfl ⟨_,rfl,fin_rl _ _ _ (HTW.out _ HX6.out).2.2 HR.out,below_set3 (HTW.out _ HX6.out).1 (by omega) _ _ _⟩
set_option maxHeartbeats 4000000 in
set_option maxRecDepth 100000 in
theorem rpush_room_false (E B:Nat) (v:Value) (N:QM.NL) (s:ByteArray) (hI:QM.Inv E B N) (hl:N.flatten.length ≤ 1000) (hs:s.size ≤ 524288) (w:World) (hk:∀ k,w.heap.size ≤ k → ok k) (h:RL ok w v N) (hbg:QM.big B s=false) (t:Nat) (ht:N.length=t + 1) (hRO:∀ W,RL ok W v N → Calls Tryz.prog 75 #[rlV E B v,.int .i64 (t:Int)] W fun e w'=>e=.returned (.bool true)∧Below W.heap.size W w') :
    Calls Tryz.prog 34 #[rlV E B v,.string s,.bool false] w fun e w'=>∃ v',e=.returned (.tuple #[rlV E B v',.int .i64 0])∧RL ok w' v' (QM.rep N t 1 [N[t].take N[t].length ++ s :: N[t].drop N[t].length])∧Below w.heap.size w w':=by
  obtain ⟨P,c,rfl⟩:=h.form
  have HL:Hid (RL ok w (.slice P N.length c) N):=h
  have HK:Hid (∀ k,w.heap.size ≤ k → ok k):=hk
  have hln:N.length ≤ 1000:=Nat.le_trans (QM.len_le hI.some) hl
  have HMA:Hid (∀ W,Below w.heap.size w W → Calls Tryz.prog 73 #[rlV E B (.slice P N.length c),.string s,.int .i64 1] W fun e w'=>e=.returned (.int .i64 0)∧Below W.heap.size W w'):=fun W hW=>by
    have:=may_any E B _ N s 1 (by omega) hl hln W (h.on hW)
    rw [if_neg (by omega)] at this; exact this
  have HLA:Hid (∀ W,Calls Tryz.prog 74 #[rlV E B (.slice P N.length c),.string s] W fun e w'=>e=.returned (.bool (QM.big B s))∧Below W.heap.size W w'):=fun W=>large_any E B _ _ _ s W
  rw [hbg] at HLA
  obtain ⟨W0,hW0⟩:∃ W0,W0=(w.alloc (.cells #[.int .i64 (E:Int),.int .i64 (B:Int),.slice P N.length c] 29)).alloc (.cells #[.int .i64 0,.int .i64 0,.slice none 0 0] 29):=⟨_,rfl⟩
  have HTW:Hid (∀ W,Below W0.heap.size W0 W → Below w.heap.size w W∧W.heap[w.heap.size]?=some (.cells #[.int .i64 (E:Int),.int .i64 (B:Int),.slice P N.length c] 29)∧W.heap[w.heap.size + 1]?=some (.cells #[.int .i64 0,.int .i64 0,.slice none 0 0] 29)):=fun W hW=>by rw [hW0] at hW; exact two_rows hW
  have HZ0:Hid (W0.heap.size=w.heap.size + 2):=by show _=_; rw [hW0]; simp
  have hpos:0 < N.length:=by omega
  obtain ⟨g,o,c',u,hsl,hcell,hdr⟩:=h.at_ (j:=t) (by omega)
  injection hsl with e1 e2 e3
  subst e1 e3
  obtain ⟨U,uc,hu⟩:=hdr.sform
  subst hu
  have HDR:Hid (DRow ok w (.slice U N[t].length uc) (strV N[t])):=hdr
  have HXE:Hid (N[t].length ≤ 1000000):=by
    have:=(hI.few _ (List.getElem_mem (show t < N.length by omega)))
    have:=hI.le
    show _ ≤ _; omega
  have HRO:Hid (∀ W,Below w.heap.size w W → Calls Tryz.prog 75 #[rlV E B (.slice (some ⟨g,o,none⟩) N.length c),.int .i64 (t:Int)] W fun e w'=>e=.returned (.bool true)∧Below W.heap.size W w'):=fun W hW=>hRO W (HL.out.on hW)
  generalize N[t]=X at *
  obtain ⟨LN,hLN⟩:∃ LN,X.length=LN:=⟨_,rfl⟩
  rw [hLN] at HDR HXE hcell
  have HLN:Hid (X.length=LN):=hLN
  have HXB:=HXE.out
  obtain ⟨N',hN⟩:∃ N',N.take t ++ (QM.nes [X.take LN ++ s :: X.drop LN] ++ N.drop (t + 1))=N':=⟨_,rfl⟩
  have HN:Hid (N.take t ++ (QM.nes [X.take LN ++ s :: X.drop LN] ++ N.drop (t + 1))=N'):=hN
  have HQ:Hid (QM.rep N t 1 [X.take X.length ++ s :: X.drop X.length]=N'):=by
    show _=_
    rw [← hN]; unfold QM.rep
    first | rfl | rw [hLN]
  rw [HQ.out]
  obtain ⟨NL,hNL⟩:∃ NL,N'.length=NL:=⟨_,rfl⟩
  have HNL:Hid (N'.length=NL):=hNL
  have hw1:IntKind.i64.wrap ((N.length:Int) - 1)=(t:Int):=by rw [IntKind.wrap_i64] <;> omega
  have hw2:IntKind.i64.wrap ((t:Int) + 1)=(t:Int) + 1:=by rw [IntKind.wrap_i64] <;> omega
  have hj0:(0:Int) ≤ (t:Int):=by omega
  have hj1:(t:Int) < (N.length:Int):=by omega
  have hj3:N ≠ []:=by intro e; rw [e] at hpos; simp at hpos
  have hj4:¬ N.length=0:=by omega
  have HJ:Hid (∀ W,Below w.heap.size w W → Calls Tryz.prog 77 #[.slice U LN uc,.int .i64 (LN:Int),.string s] W fun e w'=>∃ P9 k9,e=.returned (.slice P9 (LN + 1) k9)∧w'.ownsRow W.heap.size 9 1 (.slice P9 (LN + 1) k9) (LN + 1) (strV (X.take LN ++ s :: X.drop LN))∧Below W.heap.size W w'):=fun W hW=>by
    have:=joined_any (.slice U LN uc) X LN (by omega) s (by rw [hLN]; omega) W (DRow.on (show DRow ok w (.slice U LN uc) (strV X) from HDR.out) hW)
    rw [hLN] at this
    refine Calls.mono this ?_
    rintro e w' ⟨v',rfl,ho,hb⟩
    obtain ⟨P9,k9,rfl⟩:=own_form ho
    exact ⟨P9,k9,rfl,ho,hb⟩
  have HWI:Hid (∀ (a5 W5:World) (P9:Option Addr) (k9:Nat),Below W0.heap.size W0 W5 → W5.ownsRow (w.heap.size + 2) 9 1 (.slice P9 (LN + 1) k9) (LN + 1) (strV (X.take LN ++ s :: X.drop LN)) → a5=W5.alloc (.cells #[.slice P9 (LN + 1) k9] 22) → Calls Tryz.prog 76 #[rlV E B (.slice (some ⟨g,o,none⟩) N.length c),.int .i64 (t:Int),.int .i64 ((t:Int) + 1),.slice (some ⟨W5.heap.size,0,none⟩) 1 1] a5 fun e w'=>∃ P' c',e=.returned (rlV E B (.slice P' NL c'))∧RL (fun k=>ok k∧k ≠ w.heap.size + 1) w' (.slice P' NL c') N'∧Below W0.heap.size W0 w'):=by
    intro a5 W5 P9 k9 hx ho e5
    subst e5
    have hz:=HZ0.out
    have hd:DRow (fun k=>ok k∧k ≠ w.heap.size + 1) W5 (.slice P9 (LN + 1) k9) (strV (X.take LN ++ s :: X.drop LN)):=DRow.of_own ho (by simp; omega) (fun q hq=>⟨HK.out q (by omega),by omega⟩)
    have:=with_at (ok:=ok) E B (some ⟨g,o,none⟩) c N [X.take LN ++ s :: X.drop LN] [.slice P9 (LN + 1) k9] t (t + 1) (w.heap.size + 1) W5.heap.size NL N' w W0 W5 HN.out HNL.out rfl (by omega) (by omega) hln (by simp) HK.out HL.out (HTW.out _ (Below.refl _ _)).1 hx ⟨by omega,by omega⟩ ⟨hd,trivial⟩
    exact this
  have hcw:=fun W (hW:Below W0.heap.size W0 W)=>cell_on hcell (HTW.out W hW).1
  have HS:Hid (∀ W,Below W0.heap.size W0 W → W.cell? ⟨w.heap.size,0,none⟩=some (.int .i64 (E:Int))∧W.cell? ⟨w.heap.size,1,none⟩=some (.int .i64 (B:Int))∧W.cell? ⟨w.heap.size,2,none⟩=some (.slice (some ⟨g,o,none⟩) N.length c)∧W.cell? ⟨g,o + t,none⟩=some (.slice U LN uc)):=fun W hW=>by
    obtain ⟨q0,q1,q2,_⟩:=row3 (HTW.out W hW).2.1
    exact ⟨q0,q1,q2,by have:=hcw W hW; simpa using this⟩
  have hgw:g < w.heap.size:=by
    rcases (show RL ok w _ N from HL.out) with ⟨us,hd | ⟨g',o',c'',e,_,_,hg,_⟩,_⟩
    · exact absurd hd.1 (by simp)
    · injection e with e1 _ _
      injection e1 with e1
      injection e1 with e1 _ _
      omega
  have HS3:Hid (∀ (W:World) (v0 v1 v2:Value),Below W0.heap.size W0 W → (((W.setCell ⟨w.heap.size + 1,0,none⟩ v0).setCell ⟨w.heap.size + 1,1,none⟩ v1).setCell ⟨w.heap.size + 1,2,none⟩ v2).cell? ⟨w.heap.size,0,none⟩=some (.int .i64 (E:Int))∧(((W.setCell ⟨w.heap.size + 1,0,none⟩ v0).setCell ⟨w.heap.size + 1,1,none⟩ v1).setCell ⟨w.heap.size + 1,2,none⟩ v2).cell? ⟨w.heap.size,1,none⟩=some (.int .i64 (B:Int))∧(((W.setCell ⟨w.heap.size + 1,0,none⟩ v0).setCell ⟨w.heap.size + 1,1,none⟩ v1).setCell ⟨w.heap.size + 1,2,none⟩ v2).cell? ⟨w.heap.size,2,none⟩=some (.slice (some ⟨g,o,none⟩) N.length c)∧(((W.setCell ⟨w.heap.size + 1,0,none⟩ v0).setCell ⟨w.heap.size + 1,1,none⟩ v1).setCell ⟨w.heap.size + 1,2,none⟩ v2).cell? ⟨g,o + t,none⟩=some (.slice U LN uc)):=fun W v0 v1 v2 hW=>by
    have ho:=(((Only.refl W (w.heap.size + 1)).set 0 v0).set 1 v1).set 2 v2
    obtain ⟨q0,q1,q2,q3⟩:=HS.out W hW
    exact ⟨(World.cell?_of_block (a:=⟨w.heap.size,0,none⟩) (ho.other w.heap.size (by omega))).trans q0,(World.cell?_of_block (a:=⟨w.heap.size,1,none⟩) (ho.other w.heap.size (by omega))).trans q1,(World.cell?_of_block (a:=⟨w.heap.size,2,none⟩) (ho.other w.heap.size (by omega))).trans q2,(World.cell?_of_block (a:=⟨g,o + t,none⟩) (ho.other g (by omega))).trans q3⟩
  clear h hk hI hN hNL hbg hRO hcw hgw hcell hdr HDR e2 ht
  go_enter Tryz.func34,Tryz.ntmps34
  go_wp2_with fail
  rw [← hW0]
  refine (show Calls _ _ _ _ _ from HMA.out _ (HTW.out _ (Below.refl _ _)).1).mono ?_
  rintro e w1 ⟨rfl,hb1⟩
  have HX1:Hid (Below W0.heap.size W0 w1):=hb1
  obtain ⟨c0,c1,c2,cf⟩:=row3 (HTW.out _ hb1).2.1
  clear hb1 hW0
  go_wp2_with fail
  refine (show Calls _ _ _ _ _ from HLA.out _).mono ?_
  rintro e w2 ⟨rfl,hb2⟩
  have HX2:Hid (Below W0.heap.size W0 w2):=bel_to HX1.out hb2 (Nat.le_refl _)
  clear c0 c1 c2 cf
  obtain ⟨c0,c1,c2,cf⟩:=row3 (HTW.out _ HX2.out).2.1
  clear hb2
  go_wp2_with fail
  refine (show Calls _ _ _ _ _ from HRO.out _ (HTW.out _ HX2.out).1).mono ?_
  rintro e w3 ⟨rfl,hb3⟩
  have HX3:Hid (Below W0.heap.size W0 w3):=bel_to HX2.out hb3 (Nat.le_refl _)
  clear c0 c1 c2 cf
  obtain ⟨c0,c1,c2,cf⟩:=row3 (HTW.out _ HX3.out).2.1
  clear hb3
  go_wp2_with fail
  refine (show Calls _ _ _ _ _ from HLA.out _).mono ?_
  rintro e w4 ⟨rfl,hb4⟩
  have HX4:Hid (Below W0.heap.size W0 w4):=bel_to HX3.out hb4 (Nat.le_refl _)
  clear c0 c1 c2 cf
  obtain ⟨c0,c1,c2,cf⟩:=row3 (HTW.out _ HX4.out).2.1
  clear hb4
  go_wp2_with fail
  refine (show Calls _ _ _ _ _ from HRO.out _ (HTW.out _ HX4.out).1).mono ?_
  rintro e w5 ⟨rfl,hb5⟩
  have HX5:Hid (Below W0.heap.size W0 w5):=bel_to HX4.out hb5 (Nat.le_refl _)
  clear c0 c1 c2 cf
  obtain ⟨c0,c1,c2,cf⟩:=row3 (HTW.out _ HX5.out).2.1
  clear hb5
  have hS0:=HS.out _ HX5.out
  have hS1:=HS.out _ HX5.out.drew
  have HXd:Hid _:=HX5.out.drew
  go_wp2_with fail
  go_region_held3 (fun w':World=>w'.cell? ⟨w.heap.size,0,none⟩=some (.int .i64 (E:Int))∧w'.cell? ⟨w.heap.size,1,none⟩=some (.int .i64 (B:Int))∧w'.cell? ⟨w.heap.size,2,none⟩=some (.slice (some ⟨g,o,none⟩) N.length c)∧w'.cell? ⟨g,o + t,none⟩=some (.slice U LN uc))
    (first | with_reducible exact hS0 | with_reducible exact hS1 | with_reducible exact HS.out _ hx5 | with_reducible exact HS.out _ hx6 | with_reducible exact HS.out _ (hx5.alloc hx5.size _) | with_reducible exact HS3.out _ _ _ _ hx6)
    (first | (go_at_call 76; refine (show Calls _ _ _ _ _ from HWI.out _ a5 _ _ hx5 ho5 rfl).mono ?_; rintro e a6 ⟨P',c',rfl,hR,hx6⟩; obtain ⟨r0,r1,r2,rf⟩:=row3 (HTW.out _ hx6).2.2) | (go_at_call 77; refine (show Calls _ _ _ _ _ from HJ.out _ (HTW.out _ HXd.out).1).mono ?_; rintro e a5 ⟨P9,k9,rfl,ho5',hb5⟩; have hx5:=bel_to HXd.out hb5 (Nat.le_refl _); have ho5:=own_lower (b:=w.heap.size + 2) ho5' (by have h1:=HZ0.out; have h2:=HXd.out.size; omega)))
  have HX6:Hid (Below W0.heap.size W0 a6):=hx6
  have HR:Hid (RL (fun k=>ok k∧k ≠ w.heap.size + 1) a6 (.slice P' NL c') N'):=hR
  have HG:Hid _:=heap_set3 a6 (w.heap.size + 1) 29 _ _ _ (.int .i64 (E:Int)) (.int .i64 (B:Int)) (.slice P' NL c') (HTW.out _ hx6).2.2
  clear hS0 hS1 hx5 hx6 ho5 ho5' hb5 hR
  go_wp2
  obtain ⟨g0,g1,g2,gf⟩:=row3 HG.out.1
  exact bodyPost_ret (v:=.tuple #[rlV E B (.slice P' NL c'),.int .i64 0]) (by simp [results,Tryz.results34,go_sem,g0,g1,g2]) rfl ⟨_,rfl,fin_rl _ _ _ (HTW.out _ HX6.out).2.2 HR.out,below_set3 (HTW.out _ HX6.out).1 (by omega) _ _ _⟩
end
end Go.Proofs.YtjnbjfjoejfmpaaGreatDoor
