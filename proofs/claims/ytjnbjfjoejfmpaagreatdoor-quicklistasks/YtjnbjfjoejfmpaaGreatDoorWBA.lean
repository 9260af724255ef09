import Derived.Test.YtjnbjfjoejfmpaaGreatDoorWAR
import Derived.Deep.RegionHeld3
import Derived.Test.YtjnbjfjoejfmpaaGreatDoorWAW
import Derived.Test.YtjnbjfjoejfmpaaGreatDoorWAO
import Derived.Test.YtjnbjfjoejfmpaaGreatDoorWAQ
import Derived.Test.YtjnbjfjoejfmpaaGreatDoorWAM
import Derived.Test.YtjnbjfjoejfmpaaGreatDoorWAV
import Derived.Test.YtjnbjfjoejfmpaaGreatDoorWAZ
namespace Go.Proofs.YtjnbjfjoejfmpaaGreatDoor
open Go.RowKit
set_option linter.unusedVariables false
set_option linter.unusedSimpArgs false
theorem own_set {w:World} {base n q g cap:Nat} {xs:List Value} (u:Value) (h:w.ownsRow base 9 1 (.slice (some ⟨g,0,none⟩) n cap) n xs):(w.setCell ⟨g,q,none⟩ u).ownsRow base 9 1 (.slice (some ⟨g,0,none⟩) n cap) n (xs.set q u):=by
  refine ⟨by rw [List.length_set]; exact h.1,?_⟩
  rcases h.2 with ⟨e,_⟩ | ⟨g',cap',cur,e,hb,hg,hn,hm,hs,ht⟩
  · cases e
  · injection e with e1 e2 e3
    injection e1 with e1
    injection e1 with e1 e4 e5
    subst e1 e3
    refine Or.inr ⟨g,cap,cur.setIfInBounds q u,rfl,hb,heap_setCell_same _ _ _ _ _ _ hg,hn,hm,by simpa using hs,?_⟩
    rw [Array.toList_setIfInBounds,List.take_set,ht]
theorem own_addr {w:World} {base n T:Nat} {v:Value} {xs:List Value} (h:w.ownsRow base T 1 v n xs) (hn:0 < n):∃ g cap cur,v=.slice (some ⟨g,0,none⟩) n cap∧base ≤ g∧w.heap[g]?=some (.cells cur T)∧∀ j u,xs[j]?=some u → w.cell? ⟨g,j,none⟩=some u:=by
  rcases h.2 with ⟨_,e⟩ | ⟨g,cap,cur,rfl,hb,hg,_⟩
  · omega
  · refine ⟨g,cap,cur,rfl,hb,hg,fun j u hu=>?_⟩
    have:=World.ownsRow.cells h (g:=g) rfl j u hu
    rw [Lib.add_plain] at this
    simpa using this
section
variable {ok:Nat → Prop}
set_option maxHeartbeats 4000000 in
set_option maxRecDepth 100000 in
theorem rset_small (E B:Nat) (v:Value) (N:QM.NL) (i:Nat) (s:ByteArray) (n q:Nat) (X:List ByteArray) (hi:i < N.flatten.length) (hnl:n < N.length) (hX:N[n]=X) (hpl:QM.plc N i=(n,q)) (hqx:q < X.length) (hI:QM.Inv E B N) (hl:N.flatten.length ≤ 1000) (hs:s.size ≤ 524288) (w:World) (hk:∀ k,w.heap.size ≤ k → ok k) (h:RL ok w v N) (OD:ByteArray) (hod:N.flatten[i]=OD) (hbg:QM.big B s=false) (hbo:QM.big B OD=false) :
    Calls Tryz.prog 39 #[rlV E B v,.int .i64 (i:Int),.string s] w fun e w'=>∃ v',e=.returned (.tuple #[rlV E B v',.int .i64 0])∧RL ok w' v' (QM.rep N n 1 [X.set q s])∧Below w.heap.size w w':=by
  have HI:Hid (QM.Inv E B N):=hI
  have hln:N.length ≤ 1000:=Nat.le_trans (QM.len_le hI.some) hl
  have hXne:=hI.some _ (List.getElem_mem hnl)
  have hXle:=hI.few _ (List.getElem_mem hnl)
  have hEle:=hI.le
  obtain ⟨g,o,c,u,hsl,hcell,hdr⟩:=h.at_ hnl
  rw [hX] at hXne hXle hdr
  subst hsl
  obtain ⟨U,uc,hu⟩:=hdr.sform
  subst hu
  have HL:Hid (RL ok w (.slice (some ⟨g,o,none⟩) N.length c) N):=h
  have HK:Hid (∀ k,w.heap.size ≤ k → ok k):=hk
  obtain ⟨W0,hW0⟩:∃ W0,W0=(w.alloc (.cells #[.int .i64 (E:Int),.int .i64 (B:Int),.slice (some ⟨g,o,none⟩) N.length c] 29)).alloc (.cells #[.int .i64 0,.int .i64 0,.slice none 0 0] 29):=⟨_,rfl⟩
  have HTW:Hid (∀ W,Below W0.heap.size W0 W → Below w.heap.size w W∧W.heap[w.heap.size]?=some (.cells #[.int .i64 (E:Int),.int .i64 (B:Int),.slice (some ⟨g,o,none⟩) N.length c] 29)∧W.heap[w.heap.size + 1]?=some (.cells #[.int .i64 0,.int .i64 0,.slice none 0 0] 29)):=fun W hW=>by rw [hW0] at hW; exact two_rows hW
  have HZ0:Hid (W0.heap.size=w.heap.size + 2):=by show _=_; rw [hW0]; simp
  have HPL:Hid (∀ W,Below w.heap.size w W → Calls Tryz.prog 78 #[rlV E B (.slice (some ⟨g,o,none⟩) N.length c),.int .i64 (i:Int)] W fun e w'=>e=.returned (.tuple #[.int .i64 (n:Int),.int .i64 (q:Int)])∧Below W.heap.size W w'):=fun W hW=>by
    have:=place_any E B _ N i hi hl hln W (h.on hW)
    rw [hpl] at this; exact this
  have HLA:Hid (∀ W,Calls Tryz.prog 74 #[rlV E B (.slice (some ⟨g,o,none⟩) N.length c),.string s] W fun e w'=>e=.returned (.bool (QM.big B s))∧Below W.heap.size W w'):=fun W=>large_any E B _ _ _ s W
  have HHR:Hid (∀ W,Below W0.heap.size W0 W → W.cell? ⟨g,o + n,none⟩=some (.slice U X.length uc)):=fun W hW=>cell_on hcell (HTW.out W hW).1
  have HS:Hid (∀ W,Below W0.heap.size W0 W → W.cell? ⟨w.heap.size,0,none⟩=some (.int .i64 (E:Int))∧W.cell? ⟨w.heap.size,1,none⟩=some (.int .i64 (B:Int))∧W.cell? ⟨w.heap.size,2,none⟩=some (.slice (some ⟨g,o,none⟩) N.length c)):=fun W hW=>by
    obtain ⟨q0,q1,q2,_⟩:=row3 (HTW.out W hW).2.1
    exact ⟨q0,q1,q2⟩
  have HS3:Hid (∀ (W:World) (v0 v1 v2:Value),Below W0.heap.size W0 W → (((W.setCell ⟨w.heap.size + 1,0,none⟩ v0).setCell ⟨w.heap.size + 1,1,none⟩ v1).setCell ⟨w.heap.size + 1,2,none⟩ v2).cell? ⟨w.heap.size,0,none⟩=some (.int .i64 (E:Int))∧(((W.setCell ⟨w.heap.size + 1,0,none⟩ v0).setCell ⟨w.heap.size + 1,1,none⟩ v1).setCell ⟨w.heap.size + 1,2,none⟩ v2).cell? ⟨w.heap.size,1,none⟩=some (.int .i64 (B:Int))∧(((W.setCell ⟨w.heap.size + 1,0,none⟩ v0).setCell ⟨w.heap.size + 1,1,none⟩ v1).setCell ⟨w.heap.size + 1,2,none⟩ v2).cell? ⟨w.heap.size,2,none⟩=some (.slice (some ⟨g,o,none⟩) N.length c)):=fun W v0 v1 v2 hW=>by
    have ho:=(((Only.refl W (w.heap.size + 1)).set 0 v0).set 1 v1).set 2 v2
    obtain ⟨q0,q1,q2⟩:=HS.out W hW
    exact ⟨(World.cell?_of_block (a:=⟨w.heap.size,0,none⟩) (ho.other w.heap.size (by omega))).trans q0,(World.cell?_of_block (a:=⟨w.heap.size,1,none⟩) (ho.other w.heap.size (by omega))).trans q1,(World.cell?_of_block (a:=⟨w.heap.size,2,none⟩) (ho.other w.heap.size (by omega))).trans q2⟩
  have HDR:Hid (DRow ok w (.slice U X.length uc) (strV X)):=hdr
  have HAT:Hid (∀ W,Below w.heap.size w W → Calls Tryz.prog 43 #[rlV E B (.slice (some ⟨g,o,none⟩) N.length c),.int .i64 (i:Int)] W fun e w'=>e=.returned (.tuple #[.string OD,.bool true])∧Below W.heap.size W w'):=fun W hW=>by
    have:=rat_yes E B _ N i hi hl hln W (h.on hW)
    rw [hod] at this; exact this
  have HMA:Hid (∀ W,Below w.heap.size w W → Calls Tryz.prog 73 #[rlV E B (.slice (some ⟨g,o,none⟩) N.length c),.string s,.int .i64 0] W fun e w'=>e=.returned (.int .i64 0)∧Below W.heap.size W w'):=fun W hW=>by
    have:=may_any E B _ N s 0 (by omega) hl hln W (h.on hW)
    rw [if_neg (by omega)] at this; exact this
  have HLO:Hid (∀ W,Calls Tryz.prog 74 #[rlV E B (.slice (some ⟨g,o,none⟩) N.length c),.string OD] W fun e w'=>e=.returned (.bool (QM.big B OD))∧Below W.heap.size W w'):=fun W=>large_any E B _ _ _ OD W
  obtain ⟨LN,hLN⟩:∃ LN,X.length=LN:=⟨_,rfl⟩
  rw [hLN] at hqx hXle HHR HDR
  have HLN:Hid (X.length=LN):=hLN
  have hn0:(0:Int) ≤ (n:Int):=by omega
  have hn1:(n:Int) < (N.length:Int):=by omega
  have hq0:(0:Int) ≤ (q:Int):=by omega
  have hq1:(q:Int) ≤ (LN:Int):=by omega
  have hwn:IntKind.i64.wrap ((n:Int) + 1)=(n:Int) + 1:=by rw [IntKind.wrap_i64] <;> omega
  rw [hbg] at HLA
  rw [hbo] at HLO
  have hq2:(q:Int) < (LN:Int):=by omega
  have HXV:Hid ((strV X).length=LN):=by show _=_; rw [List.length_map]; exact hLN
  have HON:Hid (∀ u ∈ strV X,u.oneCell'=true):=one_str X
  have HSE:Hid ((strV X).set q (.string s)=strV (X.set q s)):=by show _=_; simp [strV,List.map_set]
  have HXS:Hid ((X.set q s).length=LN):=by show _=_; rw [List.length_set]; exact hLN
  have HXQ:Hid ((strV X)[q]?=some (.string (X[q]'(by omega)))):=by show _=_; simp [strV]
  have HLB:Hid (LN ≤ 4096):=by show _ ≤ _; omega
  have HLP:Hid (q < LN):=hqx
  generalize X[q]'(by omega)=OQ at *
  obtain ⟨N',hN⟩:∃ N',N.take n ++ (QM.nes [X.set q s] ++ N.drop (n + 1))=N':=⟨_,rfl⟩
  have HN:Hid (N.take n ++ (QM.nes [X.set q s] ++ N.drop (n + 1))=N'):=hN
  obtain ⟨NL,hNL⟩:∃ NL,N'.length=NL:=⟨_,rfl⟩
  have HNL:Hid (N'.length=NL):=hNL
  have HQ:Hid (QM.rep N n 1 [X.set q s]=N'):=hN
  rw [HQ.out]
  clear h hk hI hN hNL hcell hdr hXne hX hpl hLN hod hi hl hbg hbo
  go_enter Tryz.func39,Tryz.ntmps39
  go_wp2_with fail
  rw [← hW0]
  clear hW0
  refine (show Calls _ _ _ _ _ from HAT.out _ (HTW.out _ (Below.refl _ _)).1).mono ?_
  rintro e w1 ⟨rfl,hb1⟩
  have HX1:Hid (Below W0.heap.size W0 w1):=hb1
  obtain ⟨c0,c1,c2,cf⟩:=row3 (HTW.out _ hb1).2.1
  have y0:=HHR.out _ hb1
  clear hb1
  go_wp2_with fail
  refine (show Calls _ _ _ _ _ from HMA.out _ (HTW.out _ HX1.out).1).mono ?_
  rintro e w2 ⟨rfl,hb2⟩
  have HX2:Hid (Below W0.heap.size W0 w2):=bel_to HX1.out hb2 (Nat.le_refl _)
  clear c0 c1 c2 cf y0
  obtain ⟨c0,c1,c2,cf⟩:=row3 (HTW.out _ HX2.out).2.1
  have y0:=HHR.out _ HX2.out
  clear hb2
  go_wp2_with fail
  refine (show Calls _ _ _ _ _ from HPL.out _ (HTW.out _ HX2.out).1).mono ?_
  rintro e w3 ⟨rfl,hb3⟩
  have HX3:Hid (Below W0.heap.size W0 w3):=bel_to HX2.out hb3 (Nat.le_refl _)
  clear c0 c1 c2 cf y0
  obtain ⟨c0,c1,c2,cf⟩:=row3 (HTW.out _ HX3.out).2.1
  have y0:=HHR.out _ HX3.out
  clear hb3
  go_wp2_with fail
  refine (show Calls _ _ _ _ _ from HLA.out _).mono ?_
  rintro e w4 ⟨rfl,hb4⟩
  have HX4:Hid (Below W0.heap.size W0 w4):=bel_to HX3.out hb4 (Nat.le_refl _)
  clear c0 c1 c2 cf y0
  obtain ⟨c0,c1,c2,cf⟩:=row3 (HTW.out _ HX4.out).2.1
  have y0:=HHR.out _ HX4.out
  clear hb4
  go_wp2_with fail
  refine (show Calls _ _ _ _ _ from HLO.out _).mono ?_
  rintro e w5 ⟨rfl,hb5⟩
  have HX5:Hid (Below W0.heap.size W0 w5):=bel_to HX4.out hb5 (Nat.le_refl _)
  clear c0 c1 c2 cf y0
  obtain ⟨c0,c1,c2,cf⟩:=row3 (HTW.out _ HX5.out).2.1
  have y0:=HHR.out _ HX5.out
  clear hb5
  have HO0:Hid (w5.ownsRow w5.heap.size 9 1 (.slice none 0 0) 0 []):=own_nil _ _ _
  have HDW:Hid (DRow ok w5 (.slice U LN uc) (strV X)):=DRow.on (show DRow ok w (.slice U LN uc) (strV X) from HDR.out) (HTW.out _ HX5.out).1
  go_upto_region 12 with fail
  go_wp2_with (at_builtin; go_must (refine app_str rfl _ _ rfl w5.heap.size _ 0 [] rfl HO0.out _ (strV X) rfl HDW.out HON.out LN ?p0 ?p1 (Nat.le_refl _) ?_))
  case p0=>rw [HXV.out]; omega
  case p1=>have:=HLB.out; omega
  intro v6 w6 ho6 hg6
  try rw [List.nil_append] at ho6
  obtain ⟨g9,cap9,cur9,hv6,hb9,hr9,hc9⟩:=own_addr ho6 (by have:=HLP.out; omega)
  subst hv6
  have HX6:Hid (Below W0.heap.size W0 w6):=HX5.out.grown hg6 HX5.out.size (fun q hq=>by cases hq)
  have HO6:Hid (w6.ownsRow w5.heap.size 9 1 (.slice (some ⟨g9,0,none⟩) LN cap9) LN (strV X)):=ho6
  have y1:w6.cell? ⟨g9,q,none⟩=some (.string OQ):=hc9 q _ HXQ.out
  have yf:∀ j,w6.frozen? ⟨g9,j,none⟩=false:=fun j=>frozen_of_row _ _ _ _ _ hr9
  have HG9:Hid (W0.heap.size ≤ g9):=Nat.le_trans HX5.out.size hb9
  clear ho6 hg6 hb9 hr9 hc9 c0 c1 c2 cf y0
  obtain ⟨w7,hw7⟩:∃ w7,w7=w6.setCell ⟨g9,q,none⟩ (.string s):=⟨_,rfl⟩
  have HX7:Hid (Below W0.heap.size W0 w7):=by show Below _ _ _; rw [hw7]; exact HX6.out.setCell (p:=⟨g9,q,none⟩) HG9.out _
  have HO7:Hid (w7.ownsRow (w.heap.size + 2) 9 1 (.slice (some ⟨g9,0,none⟩) LN cap9) LN (strV (X.set q s))):=by
    show World.ownsRow _ _ _ _ _ _ _
    rw [hw7,← HSE.out]
    exact own_lower (own_set _ HO6.out) (by have:=HZ0.out; have:=HX5.out.size; omega)
  go_upto_region 14 with fail
  rw [← hw7]
  clear hw7 y1 yf
  obtain ⟨c0,c1,c2,cf⟩:=row3 (HTW.out _ HX7.out).2.1
  have HWI:Hid (Calls Tryz.prog 76 #[rlV E B (.slice (some ⟨g,o,none⟩) N.length c),.int .i64 (n:Int),.int .i64 ((n:Int) + 1),.slice (some ⟨w7.heap.size,0,none⟩) 1 1] (w7.alloc (.cells #[.slice (some ⟨g9,0,none⟩) LN cap9] 22)) fun e w'=>∃ P' c',e=.returned (rlV E B (.slice P' NL c'))∧RL (fun k=>ok k∧k ≠ w.heap.size + 1) w' (.slice P' NL c') N'∧Below W0.heap.size W0 w'):=by
    have hz:=HZ0.out
    have hd:DRow (fun k=>ok k∧k ≠ w.heap.size + 1) w7 (.slice (some ⟨g9,0,none⟩) LN cap9) (strV (X.set q s)):=DRow.of_own HO7.out (by rw [List.length_map,HXS.out]) (fun k hk1=>⟨HK.out k (by omega),by omega⟩)
    exact with_at (ok:=ok) E B (some ⟨g,o,none⟩) c N [X.set q s] [.slice (some ⟨g9,0,none⟩) LN cap9] n (n + 1) (w.heap.size + 1) w7.heap.size NL N' w W0 w7 HN.out HNL.out rfl (by omega) (by omega) hln (by simp) HK.out HL.out (HTW.out _ (Below.refl _ _)).1 HX7.out ⟨by omega,by omega⟩ ⟨hd,trivial⟩
  go_wp2_with fail
  refine (show Calls _ _ _ _ _ from HWI.out).mono ?_
  rintro e a6 ⟨P',c',rfl,hR,hx6⟩
  clear c0 c1 c2 cf
  obtain ⟨r0,r1,r2,rf⟩:=row3 (HTW.out _ hx6).2.2
  have HX9:Hid (Below W0.heap.size W0 a6):=hx6
  have HR:Hid (RL (fun k=>ok k∧k ≠ w.heap.size + 1) a6 (.slice P' NL c') N'):=hR
  have HG:Hid _:=heap_set3 a6 (w.heap.size + 1) 29 _ _ _ (.int .i64 (E:Int)) (.int .i64 (B:Int)) (.slice P' NL c') (HTW.out _ hx6).2.2
  clear hx6 hR
  go_wp2
  obtain ⟨g0,g1,g2,gf⟩:=row3 HG.out.1
  exact bodyPost_ret (v:=.tuple #[rlV E B (.slice P' NL c'),.int .i64 0]) (by simp [results,Tryz.results39,go_sem,g0,g1,g2]) rfl ⟨_,rfl,fin_rl _ _ _ (HTW.out _ HX9.out).2.2 HR.out,below_set3 (HTW.out _ HX9.out).1 (by omega) _ _ _⟩
end
end Go.Proofs.YtjnbjfjoejfmpaaGreatDoor
namespace Go.Proofs.YtjnbjfjoejfmpaaGreatDoor
open Go.RowKit
set_option linter.unusedVariables false
set_option linter.unusedSimpArgs false
theorem lg_old {E B:Nat} {N:QM.NL} (hI:QM.Inv E B N) {X:List ByteArray} (hX:X ∈ N) (q:Nat) (hq:q < X.length):QM.lg B X=QM.big B X[q]:=by
  cases hlg:QM.lg B X with
  | true =>
    obtain ⟨t,e,ht⟩:=QM.lg_alone hI hX hlg
    subst e
    have hq0:q=0:=by simp at hq; omega
    subst hq0
    unfold QM.big; simp; exact ht
  | false =>
    have:=QM.lg_not hI hX hlg X[q] (List.getElem_mem hq)
    unfold QM.big; simp; exact this
section
variable {ok:Nat → Prop}
theorem rset_any (E B:Nat) (v:Value) (N:QM.NL) (i:Nat) (s:ByteArray) (hi:i < N.flatten.length) (hI:QM.Inv E B N) (hl:N.flatten.length ≤ 1000) (hs:s.size ≤ 524288) (w:World) (hk:∀ k,w.heap.size ≤ k → ok k) (h:RL ok w v N) :
    Calls Tryz.prog 39 #[rlV E B v,.int .i64 (i:Int),.string s] w fun e w'=>∃ v',e=.returned (.tuple #[rlV E B v',.int .i64 0])∧RL ok w' v' (QM.setQ B N i s)∧Below w.heap.size w w':=by
  obtain ⟨ht,hq,he⟩:=QM.plc_lt N i hi
  have hx:=QM.getD_at N _ ht
  have hp:QM.plc N i=((QM.plc N i).1,(QM.plc N i).2):=rfl
  have hod:N.flatten[i]=N[(QM.plc N i).1][(QM.plc N i).2]:=flat_at ht hq he hi
  have hlg:=lg_old hI (List.getElem_mem ht) _ hq
  unfold QM.setQ
  simp only [hx]
  cases hb:QM.big B s with
  | true =>
    rw [if_pos (Or.inr rfl)]
    exact rset_big_s E B v N i s _ _ _ hi ht rfl hp hq hI hl hs w hk h _ rfl hb
  | false =>
    cases hbo:QM.lg B N[(QM.plc N i).1] with
    | true =>
      rw [if_pos (Or.inl rfl)]
      exact rset_big_o E B v N i s _ _ _ hi ht rfl hp hq hI hl hs w hk h _ rfl hb (by rw [hod,← hlg,hbo])
    | false =>
      rw [if_neg (by simp)]
      exact rset_small E B v N i s _ _ _ hi ht rfl hp hq hI hl hs w hk h _ rfl hb (by rw [hod,← hlg,hbo])
set_option maxHeartbeats 2000000 in
set_option maxRecDepth 100000 in
theorem rset_no (E B:Nat) (v:Value) (N:QM.NL) (i:Int) (s:ByteArray) (hi:¬ (0 ≤ i∧i < (N.flatten.length:Int))) (hl:N.flatten.length ≤ 1000) (hln:N.length ≤ 1000) (w:World) (h:RL ok w v N) :
    Calls Tryz.prog 39 #[rlV E B v,.int .i64 i,.string s] w fun e w'=>e=.returned (.tuple #[rlV E B v,.int .i64 1])∧Below w.heap.size w w':=by
  obtain ⟨P,c,rfl⟩:=h.form
  have HAT:Hid (∀ W,Below w.heap.size w W → Calls Tryz.prog 43 #[rlV E B (.slice P N.length c),.int .i64 i] W fun e w'=>e=.returned (.tuple #[.string ⟨#[]⟩,.bool false])∧Below W.heap.size W w'):=fun W hW=>rat_no E B _ N i hi hl hln W (h.on hW)
  obtain ⟨W0,hW0⟩:∃ W0,W0=(w.alloc (.cells #[.int .i64 (E:Int),.int .i64 (B:Int),.slice P N.length c] 29)).alloc (.cells #[.int .i64 0,.int .i64 0,.slice none 0 0] 29):=⟨_,rfl⟩
  have HTW:Hid (∀ W,Below W0.heap.size W0 W → Below w.heap.size w W∧W.heap[w.heap.size]?=some (.cells #[.int .i64 (E:Int),.int .i64 (B:Int),.slice P N.length c] 29)∧W.heap[w.heap.size + 1]?=some (.cells #[.int .i64 0,.int .i64 0,.slice none 0 0] 29)):=fun W hW=>by rw [hW0] at hW; exact two_rows hW
  clear h hi
  go_enter Tryz.func39,Tryz.ntmps39
  go_wp2_with fail
  rw [← hW0]
  refine (show Calls _ _ _ _ _ from HAT.out _ (HTW.out _ (Below.refl _ _)).1).mono ?_
  rintro e w1 ⟨rfl,hb1⟩
  have HX1:Hid (Below W0.heap.size W0 w1):=hb1
  obtain ⟨c0,c1,c2,cf⟩:=row3 (HTW.out _ hb1).2.1
  obtain ⟨r0,r1,r2,rf⟩:=row3 (HTW.out _ hb1).2.2
  have HG:Hid _:=heap_set3 w1 (w.heap.size + 1) 29 _ _ _ (.int .i64 (E:Int)) (.int .i64 (B:Int)) (.slice P N.length c) (HTW.out _ hb1).2.2
  clear hb1 hW0
  go_wp2
  obtain ⟨g0,g1,g2,gf⟩:=row3 HG.out.1
  exact bodyPost_ret (v:=.tuple #[rlV E B (.slice P N.length c),.int .i64 1]) (by simp [results,Tryz.results39,go_sem,g0,g1,g2]) rfl ⟨rfl,below_set3 (HTW.out _ HX1.out).1 (by omega) _ _ _⟩
set_option maxHeartbeats 2000000 in
set_option maxRecDepth 100000 in
theorem rset_long (E B:Nat) (v:Value) (N:QM.NL) (i:Nat) (s:ByteArray) (hi:i < N.flatten.length) (hs:524288 < s.size) (hl:N.flatten.length ≤ 1000) (hln:N.length ≤ 1000) (w:World) (h:RL ok w v N) :
    Calls Tryz.prog 39 #[rlV E B v,.int .i64 (i:Int),.string s] w fun e w'=>e=.returned (.tuple #[rlV E B v,.int .i64 2])∧Below w.heap.size w w':=by
  obtain ⟨P,c,rfl⟩:=h.form
  have HAT:Hid (∀ W,Below w.heap.size w W → Calls Tryz.prog 43 #[rlV E B (.slice P N.length c),.int .i64 (i:Int)] W fun e w'=>e=.returned (.tuple #[.string N.flatten[i],.bool true])∧Below W.heap.size W w'):=fun W hW=>rat_yes E B _ N i hi hl hln W (h.on hW)
  have HMA:Hid (∀ W,Below w.heap.size w W → Calls Tryz.prog 73 #[rlV E B (.slice P N.length c),.string s,.int .i64 0] W fun e w'=>e=.returned (.int .i64 2)∧Below W.heap.size W w'):=fun W hW=>by
    have:=may_any E B _ N s 0 (by omega) hl hln W (h.on hW)
    rw [if_pos hs] at this; exact this
  obtain ⟨W0,hW0⟩:∃ W0,W0=(w.alloc (.cells #[.int .i64 (E:Int),.int .i64 (B:Int),.slice P N.length c] 29)).alloc (.cells #[.int .i64 0,.int .i64 0,.slice none 0 0] 29):=⟨_,rfl⟩
  have HTW:Hid (∀ W,Below W0.heap.size W0 W → Below w.heap.size w W∧W.heap[w.heap.size]?=some (.cells #[.int .i64 (E:Int),.int .i64 (B:Int),.slice P N.length c] 29)∧W.heap[w.heap.size + 1]?=some (.cells #[.int .i64 0,.int .i64 0,.slice none 0 0] 29)):=fun W hW=>by rw [hW0] at hW; exact two_rows hW
  generalize N.flatten[i]=OD at *
  clear h hi
  go_enter Tryz.func39,Tryz.ntmps39
  go_wp2_with fail
  rw [← hW0]
  refine (show Calls _ _ _ _ _ from HAT.out _ (HTW.out _ (Below.refl _ _)).1).mono ?_
  rintro e w1 ⟨rfl,hb1⟩
  have HX1:Hid (Below W0.heap.size W0 w1):=hb1
  obtain ⟨c0,c1,c2,cf⟩:=row3 (HTW.out _ hb1).2.1
  clear hb1 hW0
  go_wp2_with fail
  refine (show Calls _ _ _ _ _ from HMA.out _ (HTW.out _ HX1.out).1).mono ?_
  rintro e w2 ⟨rfl,hb2⟩
  have HX2:Hid (Below W0.heap.size W0 w2):=bel_to HX1.out hb2 (Nat.le_refl _)
  clear c0 c1 c2 cf hb2
  obtain ⟨c0,c1,c2,cf⟩:=row3 (HTW.out _ HX2.out).2.1
  obtain ⟨r0,r1,r2,rf⟩:=row3 (HTW.out _ HX2.out).2.2
  have HG:Hid _:=heap_set3 w2 (w.heap.size + 1) 29 _ _ _ (.int .i64 (E:Int)) (.int .i64 (B:Int)) (.slice P N.length c) (HTW.out _ HX2.out).2.2
  go_wp2
  obtain ⟨g0,g1,g2,gf⟩:=row3 HG.out.1
  exact bodyPost_ret (v:=.tuple #[rlV E B (.slice P N.length c),.int .i64 2]) (by simp [results,Tryz.results39,go_sem,g0,g1,g2]) rfl ⟨rfl,below_set3 (HTW.out _ HX2.out).1 (by omega) _ _ _⟩
end
end Go.Proofs.YtjnbjfjoejfmpaaGreatDoor
namespace Go.Proofs.YtjnbjfjoejfmpaaGreatDoor
open Go.RowKit
set_option linter.unusedVariables false
set_option linter.unusedSimpArgs false
section
variable {ok:Nat → Prop}
set_option maxHeartbeats 2000000 in
set_option maxRecDepth 100000 in
theorem rdel_no (E B:Nat) (v:Value) (N:QM.NL) (i n:Int) (hin:¬ (0 ≤ i∧i < (N.flatten.length:Int)) ∨ n < 1) (hl:N.flatten.length ≤ 1000) (hln:N.length ≤ 1000) (w:World) (h:RL ok w v N) :
    Calls Tryz.prog 41 #[rlV E B v,.int .i64 i,.int .i64 n] w fun e w'=>e=.returned (.tuple #[rlV E B v,.int .i64 0])∧Below w.heap.size w w':=by
  obtain ⟨P,c,rfl⟩:=h.form
  have HLE:Hid (∀ W,Below w.heap.size w W → Calls Tryz.prog 16 #[rlV E B (.slice P N.length c)] W fun e w'=>e=.returned (.int .i64 (N.flatten.length:Int))∧Below W.heap.size W w'):=fun W hW=>rlen_any E B _ N (by omega) (by omega) W (h.on hW)
  obtain ⟨W0,hW0⟩:∃ W0,W0=(w.alloc (.cells #[.int .i64 (E:Int),.int .i64 (B:Int),.slice P N.length c] 29)).alloc (.cells #[.int .i64 0,.int .i64 0,.slice none 0 0] 29):=⟨_,rfl⟩
  have HTW:Hid (∀ W,Below W0.heap.size W0 W → Below w.heap.size w W∧W.heap[w.heap.size]?=some (.cells #[.int .i64 (E:Int),.int .i64 (B:Int),.slice P N.length c] 29)∧W.heap[w.heap.size + 1]?=some (.cells #[.int .i64 0,.int .i64 0,.slice none 0 0] 29)):=fun W hW=>by rw [hW0] at hW; exact two_rows hW
  obtain ⟨F,hF⟩:∃ F,N.flatten.length=F:=⟨_,rfl⟩
  rw [hF] at hin HLE
  clear h hF
  by_cases h1:i < 0
  · clear hin
    go_enter Tryz.func41,Tryz.ntmps41
    go_wp2_with fail
    rw [← hW0]
    refine (show Calls _ _ _ _ _ from HLE.out _ (HTW.out _ (Below.refl _ _)).1).mono ?_
    rintro e w1 ⟨rfl,hb1⟩
    have HX1:Hid (Below W0.heap.size W0 w1):=hb1
    obtain ⟨c0,c1,c2,cf⟩:=row3 (HTW.out _ hb1).2.1
    obtain ⟨r0,r1,r2,rf⟩:=row3 (HTW.out _ hb1).2.2
    have HG:Hid _:=heap_set3 w1 (w.heap.size + 1) 29 _ _ _ (.int .i64 (E:Int)) (.int .i64 (B:Int)) (.slice P N.length c) (HTW.out _ hb1).2.2
    clear hb1 hW0
    go_wp2
    obtain ⟨g0,g1,g2,gf⟩:=row3 HG.out.1
    exact bodyPost_ret (v:=.tuple #[rlV E B (.slice P N.length c),.int .i64 0]) (by simp [results,Tryz.results41,go_sem,g0,g1,g2]) rfl ⟨rfl,below_set3 (HTW.out _ HX1.out).1 (by omega) _ _ _⟩
  · by_cases h2:(F:Int) ≤ i
    · clear hin
      go_enter Tryz.func41,Tryz.ntmps41
      go_wp2_with fail
      rw [← hW0]
      refine (show Calls _ _ _ _ _ from HLE.out _ (HTW.out _ (Below.refl _ _)).1).mono ?_
      rintro e w1 ⟨rfl,hb1⟩
      have HX1:Hid (Below W0.heap.size W0 w1):=hb1
      obtain ⟨c0,c1,c2,cf⟩:=row3 (HTW.out _ hb1).2.1
      obtain ⟨r0,r1,r2,rf⟩:=row3 (HTW.out _ hb1).2.2
      have HG:Hid _:=heap_set3 w1 (w.heap.size + 1) 29 _ _ _ (.int .i64 (E:Int)) (.int .i64 (B:Int)) (.slice P N.length c) (HTW.out _ hb1).2.2
      clear hb1 hW0
      go_wp2
      obtain ⟨g0,g1,g2,gf⟩:=row3 HG.out.1
      exact bodyPost_ret (v:=.tuple #[rlV E B (.slice P N.length c),.int .i64 0]) (by simp [results,Tryz.results41,go_sem,g0,g1,g2]) rfl ⟨rfl,below_set3 (HTW.out _ HX1.out).1 (by omega) _ _ _⟩
    · have h3:n < 1:=by omega
      clear hin
      go_enter Tryz.func41,Tryz.ntmps41
      go_wp2_with fail
      rw [← hW0]
      refine (show Calls _ _ _ _ _ from HLE.out _ (HTW.out _ (Below.refl _ _)).1).mono ?_
      rintro e w1 ⟨rfl,hb1⟩
      have HX1:Hid (Below W0.heap.size W0 w1):=hb1
      obtain ⟨c0,c1,c2,cf⟩:=row3 (HTW.out _ hb1).2.1
      obtain ⟨r0,r1,r2,rf⟩:=row3 (HTW.out _ hb1).2.2
      have HG:Hid _:=heap_set3 w1 (w.heap.size + 1) 29 _ _ _ (.int .i64 (E:Int)) (.int .i64 (B:Int)) (.slice P N.length c) (HTW.out _ hb1).2.2
      clear hb1 hW0
      go_wp2
      obtain ⟨g0,g1,g2,gf⟩:=row3 HG.out.1
      exact bodyPost_ret (v:=.tuple #[rlV E B (.slice P N.length c),.int .i64 0]) (by simp [results,Tryz.results41,go_sem,g0,g1,g2]) rfl ⟨rfl,below_set3 (HTW.out _ HX1.out).1 (by omega) _ _ _⟩
set_option maxHeartbeats 2000000 in
set_option maxRecDepth 100000 in
theorem rpop_no (E B:Nat) (v:Value) (N:QM.NL) (f:Bool) (h0:N.flatten.length=0) (hln:N.length ≤ 1000) (w:World) (h:RL ok w v N) :
    Calls Tryz.prog 35 #[rlV E B v,.bool f] w fun e w'=>e=.returned (.tuple #[rlV E B v,.string ⟨#[]⟩,.bool false])∧Below w.heap.size w w':=by
  obtain ⟨P,c,rfl⟩:=h.form
  have HE:Hid (∀ W,Below w.heap.size w W → Calls Tryz.prog 30 #[rlV E B (.slice P N.length c)] W fun e w'=>∃ P8 k8,e=.returned (.slice P8 0 k8)∧Below W.heap.size W w'):=fun W hW=>by
    have:=elems_any E B (.slice P N.length c) N (by omega) (by omega) W (h.on hW)
    rw [h0] at this
    refine Calls.mono this ?_
    rintro e w' ⟨v',rfl,ho,hb⟩
    obtain ⟨P8,k8,rfl⟩:=own_form ho
    exact ⟨P8,k8,rfl,hb⟩
  obtain ⟨W0,hW0⟩:∃ W0,W0=(w.alloc (.cells #[.int .i64 (E:Int),.int .i64 (B:Int),.slice P N.length c] 29)).alloc (.cells #[.int .i64 0,.int .i64 0,.slice none 0 0] 29):=⟨_,rfl⟩
  have HTW:Hid (∀ W,Below W0.heap.size W0 W → Below w.heap.size w W∧W.heap[w.heap.size]?=some (.cells #[.int .i64 (E:Int),.int .i64 (B:Int),.slice P N.length c] 29)∧W.heap[w.heap.size + 1]?=some (.cells #[.int .i64 0,.int .i64 0,.slice none 0 0] 29)):=fun W hW=>by rw [hW0] at hW; exact two_rows hW
  clear h h0
  go_enter Tryz.func35,Tryz.ntmps35
  go_wp2_with fail
  rw [← hW0]
  refine (show Calls _ _ _ _ _ from HE.out _ (HTW.out _ (Below.refl _ _)).1).mono ?_
  rintro e w1 ⟨P8,k8,rfl,hb1⟩
  have HX1:Hid (Below W0.heap.size W0 w1):=hb1
  obtain ⟨c0,c1,c2,cf⟩:=row3 (HTW.out _ hb1).2.1
  obtain ⟨r0,r1,r2,rf⟩:=row3 (HTW.out _ hb1).2.2
  have HG:Hid _:=heap_set3 w1 (w.heap.size + 1) 29 _ _ _ (.int .i64 (E:Int)) (.int .i64 (B:Int)) (.slice P N.length c) (HTW.out _ hb1).2.2
  clear hb1 hW0
  go_wp2
  obtain ⟨g0,g1,g2,gf⟩:=row3 HG.out.1
  exact bodyPost_ret (v:=.tuple #[rlV E B (.slice P N.length c),.string ⟨#[]⟩,.bool false]) (by simp [results,Tryz.results35,go_sem,g0,g1,g2]) rfl ⟨rfl,below_set3 (HTW.out _ HX1.out).1 (by omega) _ _ _⟩
set_option maxHeartbeats 4000000 in
set_option maxRecDepth 100000 in
theorem rpop_yes (E B:Nat) (v:Value) (N:QM.NL) (f:Bool) (i:Nat) (hi:i < N.flatten.length) (hfi:i=if f then 0 else N.flatten.length - 1) (hl:N.flatten.length ≤ 1000) (hln:N.length ≤ 1000) (w:World) (hk:∀ k,w.heap.size ≤ k → ok k) (h:RL ok w v N) :
    Calls Tryz.prog 35 #[rlV E B v,.bool f] w fun e w'=>∃ v',e=.returned (.tuple #[rlV E B v',.string N.flatten[i],.bool true])∧RL ok w' v' (QM.delE N i (i + 1))∧Below w.heap.size w w':=by
  obtain ⟨P,c,rfl⟩:=h.form
  have HL:Hid (RL ok w (.slice P N.length c) N):=h
  have HK:Hid (∀ k,w.heap.size ≤ k → ok k):=hk
  have HE:Hid (∀ W,Below w.heap.size w W → Calls Tryz.prog 30 #[rlV E B (.slice P N.length c)] W fun e w'=>∃ v',e=.returned v'∧w'.ownsRow W.heap.size 9 1 v' N.flatten.length (strV N.flatten)∧Below W.heap.size W w'):=fun W hW=>elems_any E B (.slice P N.length c) N (by omega) (by omega) W (h.on hW)
  obtain ⟨W0,hW0⟩:∃ W0,W0=(w.alloc (.cells #[.int .i64 (E:Int),.int .i64 (B:Int),.slice P N.length c] 29)).alloc (.cells #[.int .i64 0,.int .i64 0,.slice none 0 0] 29):=⟨_,rfl⟩
  have HTW:Hid (∀ W,Below W0.heap.size W0 W → Below w.heap.size w W∧W.heap[w.heap.size]?=some (.cells #[.int .i64 (E:Int),.int .i64 (B:Int),.slice P N.length c] 29)∧W.heap[w.heap.size + 1]?=some (.cells #[.int .i64 0,.int .i64 0,.slice none 0 0] 29)):=fun W hW=>by rw [hW0] at hW; exact two_rows hW
  have HZ0:Hid (W0.heap.size=w.heap.size + 2):=by show _=_; rw [hW0]; simp
  have HDE:Hid (∀ W,Below W0.heap.size W0 W → Calls Tryz.prog 41 #[rlV E B (.slice P N.length c),.int .i64 (i:Int),.int .i64 1] W fun e w'=>∃ P' n' c',e=.returned (.tuple #[rlV E B (.slice P' n' c'),.int .i64 1])∧RL (fun k=>ok k∧k ≠ w.heap.size∧k ≠ w.heap.size + 1) w' (.slice P' n' c') (QM.delE N i (i + 1))∧Below W.heap.size W w'):=fun W hW=>by
    have hz:=HZ0.out
    have hs:=hW.size
    have:=rdel_yes (ok:=fun k=>ok k∧k ≠ w.heap.size∧k ≠ w.heap.size + 1) E B (.slice P N.length c) N i 1 hi (by omega) (by omega) hl hln W (fun k hk1=>⟨hk k (by omega),by omega,by omega⟩) ((h.weak (fun k hk1 hk2=>⟨hk2,by omega,by omega⟩)).on (HTW.out W hW).1)
    rw [show min 1 (N.flatten.length - i)=1 by omega] at this
    refine Calls.mono this ?_
    rintro e w' ⟨v',rfl,h4,h5⟩
    obtain ⟨P',c',rfl⟩:=h4.form
    exact ⟨P',_,c',rfl,h4,h5⟩
  obtain ⟨T,hT⟩:∃ T,N.flatten[i]=T:=⟨_,rfl⟩
  rw [hT]
  generalize QM.delE N i (i + 1)=N' at *
  generalize N.flatten=FL at *
  have HT:Hid (FL[i]=T):=hT
  have hi0:(0:Int) ≤ (i:Int):=by omega
  have hi1:(i:Int) < (FL.length:Int):=by omega
  have hi2:¬ ((FL.length:Int)=0):=by omega
  have hw1:IntKind.i64.wrap ((FL.length:Int) - 1)=(FL.length:Int) - 1:=by rw [IntKind.wrap_i64] <;> omega
  have HFI:Hid (i=if f then 0 else FL.length - 1):=hfi
  have HI:Hid (i < FL.length):=hi
  clear h hk hT hfi
  cases f with
  | true =>
    have hie:i=0:=by have:=HFI.out; simpa using this
    subst hie
    have hi1:(0:Int) < (FL.length:Int):=by omega
    have hi3:FL ≠ []:=by intro e; rw [e] at hi; simp at hi
    go_enter Tryz.func35,Tryz.ntmps35
    go_wp2_with fail
    rw [← hW0]
    clear hW0
    refine (show Calls _ _ _ _ _ from HE.out _ (HTW.out _ (Below.refl _ _)).1).mono ?_
    rintro e w1 ⟨v',rfl,ho,hb1⟩
    have HX1:Hid (Below W0.heap.size W0 w1):=hb1
    obtain ⟨c0,c1,c2,cf⟩:=row3 (HTW.out _ hb1).2.1
    have HHI:Hid (∀ k,v'.ownBlock=some k → W0.heap.size ≤ k):=fun k hk=>(own_tag ho k hk).1
    have hd:=DRow.of_own (ok:=fun k=>W0.heap.size ≤ k) ho (by simp) (fun q hq=>hq)
    have HD:Hid (DRow (fun k=>W0.heap.size ≤ k) w1 v' (strV FL)):=hd
    obtain ⟨P8,k8,hv⟩:=hd.sform
    subst hv
    clear ho hb1 hd
    go_wp2_with fail
    refine (show Calls _ _ _ _ _ from HDE.out _ HX1.out).mono ?_
    rintro e w2 ⟨P',n',c',rfl,hR,hb2⟩
    have HX2:Hid (Below W0.heap.size W0 w2):=bel_to HX1.out hb2 (Nat.le_refl _)
    have HR:Hid (RL (fun k=>ok k∧k ≠ w.heap.size∧k ≠ w.heap.size + 1) w2 (.slice P' n' c') N'):=hR
    have HD2:Hid (DRow (fun k=>W0.heap.size ≤ k) w2 (.slice P8 FL.length k8) (strV FL)):=DRow.on (show DRow (fun k=>W0.heap.size ≤ k) w1 (.slice P8 FL.length k8) (strV FL) from HD.out) hb2
    clear c0 c1 c2 cf hb2 hR
    have HG:Hid _:=heap_set3 w2 w.heap.size 29 _ _ _ (.int .i64 (E:Int)) (.int .i64 (B:Int)) (.slice P' n' c') (HTW.out _ HX2.out).2.1
    obtain ⟨c0,c1,c2,cf⟩:=row3 (HTW.out _ HX2.out).2.1
    go_upto_region 8 with fail
    generalize hw3:((w2.setCell ⟨w.heap.size,0,none⟩ (.int .i64 (E:Int))).setCell ⟨w.heap.size,1,none⟩ (.int .i64 (B:Int))).setCell ⟨w.heap.size,2,none⟩ (.slice P' n' c')=w3
    rw [hw3] at HG
    have HB3:Hid (Below w.heap.size w w3):=by show Below _ _ _; rw [← hw3]; exact below_set3 (HTW.out _ HX2.out).1 (Nat.le_refl _) _ _ _
    have HF3:Hid (Fr w2 w3 (fun k=>k=w.heap.size)):=⟨HG.out.2.os,HG.out.2.tape,HG.out.2.output,by rw [HG.out.2.size]; exact Nat.le_refl _,fun k _ hk=>HG.out.2.other k hk⟩
    have HRB:Hid (w3.heap[w.heap.size + 1]?=some (.cells #[.int .i64 0,.int .i64 0,.slice none 0 0] 29)):=(HG.out.2.other _ (by omega)).trans (HTW.out _ HX2.out).2.2
    obtain ⟨g,o,cc,hv,hc⟩:=DRow.at_ (DRow.fr (show DRow (fun k=>W0.heap.size ≤ k) w2 (.slice P8 FL.length k8) (strV FL) from HD2.out) HF3.out (fun k hk e=>by have:=HZ0.out; omega)) (j:=0) (by simpa using HI.out)
    injection hv with e1 e2 e3
    subst e1 e3
    have hc':w3.cell? ⟨g,o,none⟩=some (.string T):=by rw [← HT.out]; simpa using hc
    clear c0 c1 c2 cf e2 hc
    obtain ⟨c0,c1,c2,cf⟩:=row3 HG.out.1
    obtain ⟨r0,r1,r2,rf⟩:=row3 HRB.out
    have HG4:Hid _:=heap_set3 w3.drew (w.heap.size + 1) 29 _ _ _ (.int .i64 (E:Int)) (.int .i64 (B:Int)) (.slice P' n' c') HRB.out
    have HG5:Hid _:=heap_set3 w3 (w.heap.size + 1) 29 _ _ _ (.int .i64 (E:Int)) (.int .i64 (B:Int)) (.slice P' n' c') HRB.out
    have HF5:Hid (Fr w3 (((w3.setCell ⟨w.heap.size + 1,0,none⟩ (.int .i64 (E:Int))).setCell ⟨w.heap.size + 1,1,none⟩ (.int .i64 (B:Int))).setCell ⟨w.heap.size + 1,2,none⟩ (.slice P' n' c')) (fun k=>k=w.heap.size + 1)):=⟨HG5.out.2.os,HG5.out.2.tape,HG5.out.2.output,by rw [HG5.out.2.size]; exact Nat.le_refl _,fun k _ hk=>HG5.out.2.other k hk⟩
    obtain ⟨g',o',cc',hv',hc4⟩:=DRow.at_ (DRow.fr (DRow.fr (show DRow (fun k=>W0.heap.size ≤ k) w2 (.slice (some ⟨g,o,none⟩) FL.length k8) (strV FL) from HD2.out) HF3.out (fun k hk e=>by have:=HZ0.out; omega)) HF5.out (fun k hk e=>by have:=HZ0.out; omega)) (j:=0) (by simpa using HI.out)
    injection hv' with e1 e2 e3
    injection e1 with e1
    injection e1 with e1 e4 e5
    subst e1 e4
    have hc5:(((w3.setCell ⟨w.heap.size + 1,0,none⟩ (.int .i64 (E:Int))).setCell ⟨w.heap.size + 1,1,none⟩ (.int .i64 (B:Int))).setCell ⟨w.heap.size + 1,2,none⟩ (.slice P' n' c')).cell? ⟨g,o,none⟩=some (.string T):=by rw [← HT.out]; simpa using hc4
    clear e2 e3 e5 hc4
    have HR3:Hid (RL (fun k=>ok k∧k ≠ w.heap.size + 1) w3 (.slice P' n' c') N'):=(HR.out.fr HF3.out (fun k hk=>hk.2.1)).weak (fun k _ hk=>⟨hk.1,hk.2.2⟩)
    clear hw3
    go_region
    all_goals
      go_wp2
      obtain ⟨g0,g1,g2,gf⟩:=row3 HG5.out.1
      exact bodyPost_ret (v:=.tuple #[rlV E B (.slice P' n' c'),.string T,.bool true]) (by simp [results,Tryz.results35,go_sem,g0,g1,g2]) rfl ⟨_,rfl,RL.on (fin_rl _ _ _ HRB.out HR3.out) (Below.refl _ _).drew,(below_set3 HB3.out (by omega) _ _ _).drew⟩
  | false =>
    have hwi:IntKind.i64.wrap ((FL.length:Int) - 1)=(i:Int):=by have:=HFI.out; simp at this; rw [IntKind.wrap_i64] <;> omega
    clear hw1
    have hi3:FL ≠ []:=by intro e; rw [e] at hi; simp at hi
    go_enter Tryz.func35,Tryz.ntmps35
    go_wp2_with fail
    rw [← hW0]
    clear hW0
    refine (show Calls _ _ _ _ _ from HE.out _ (HTW.out _ (Below.refl _ _)).1).mono ?_
    rintro e w1 ⟨v',rfl,ho,hb1⟩
    have HX1:Hid (Below W0.heap.size W0 w1):=hb1
    obtain ⟨c0,c1,c2,cf⟩:=row3 (HTW.out _ hb1).2.1
    have HHI:Hid (∀ k,v'.ownBlock=some k → W0.heap.size ≤ k):=fun k hk=>(own_tag ho k hk).1
    have hd:=DRow.of_own (ok:=fun k=>W0.heap.size ≤ k) ho (by simp) (fun q hq=>hq)
    have HD:Hid (DRow (fun k=>W0.heap.size ≤ k) w1 v' (strV FL)):=hd
    obtain ⟨P8,k8,hv⟩:=hd.sform
    subst hv
    clear ho hb1 hd
    go_wp2_with fail
    refine (show Calls _ _ _ _ _ from HDE.out _ HX1.out).mono ?_
    rintro e w2 ⟨P',n',c',rfl,hR,hb2⟩
    have HX2:Hid (Below W0.heap.size W0 w2):=bel_to HX1.out hb2 (Nat.le_refl _)
    have HR:Hid (RL (fun k=>ok k∧k ≠ w.heap.size∧k ≠ w.heap.size + 1) w2 (.slice P' n' c') N'):=hR
    have HD2:Hid (DRow (fun k=>W0.heap.size ≤ k) w2 (.slice P8 FL.length k8) (strV FL)):=DRow.on (show DRow (fun k=>W0.heap.size ≤ k) w1 (.slice P8 FL.length k8) (strV FL) from HD.out) hb2
    clear c0 c1 c2 cf hb2 hR
    have HG:Hid _:=heap_set3 w2 w.heap.size 29 _ _ _ (.int .i64 (E:Int)) (.int .i64 (B:Int)) (.slice P' n' c') (HTW.out _ HX2.out).2.1
    obtain ⟨c0,c1,c2,cf⟩:=row3 (HTW.out _ HX2.out).2.1
    go_upto_region 8 with fail
    generalize hw3:((w2.setCell ⟨w.heap.size,0,none⟩ (.int .i64 (E:Int))).setCell ⟨w.heap.size,1,none⟩ (.int .i64 (B:Int))).setCell ⟨w.heap.size,2,none⟩ (.slice P' n' c')=w3
    rw [hw3] at HG
    have HB3:Hid (Below w.heap.size w w3):=by show Below _ _ _; rw [← hw3]; exact below_set3 (HTW.out _ HX2.out).1 (Nat.le_refl _) _ _ _
    have HF3:Hid (Fr w2 w3 (fun k=>k=w.heap.size)):=⟨HG.out.2.os,HG.out.2.tape,HG.out.2.output,by rw [HG.out.2.size]; exact Nat.le_refl _,fun k _ hk=>HG.out.2.other k hk⟩
    have HRB:Hid (w3.heap[w.heap.size + 1]?=some (.cells #[.int .i64 0,.int .i64 0,.slice none 0 0] 29)):=(HG.out.2.other _ (by omega)).trans (HTW.out _ HX2.out).2.2
    obtain ⟨g,o,cc,hv,hc⟩:=DRow.at_ (DRow.fr (show DRow (fun k=>W0.heap.size ≤ k) w2 (.slice P8 FL.length k8) (strV FL) from HD2.out) HF3.out (fun k hk e=>by have:=HZ0.out; omega)) (j:=i) (by simpa using HI.out)
    injection hv with e1 e2 e3
    subst e1 e3
    have hc':w3.cell? ⟨g,o + i,none⟩=some (.string T):=by rw [← HT.out]; simpa using hc
    clear c0 c1 c2 cf e2 hc
    obtain ⟨c0,c1,c2,cf⟩:=row3 HG.out.1
    obtain ⟨r0,r1,r2,rf⟩:=row3 HRB.out
    have HG4:Hid _:=heap_set3 w3.drew (w.heap.size + 1) 29 _ _ _ (.int .i64 (E:Int)) (.int .i64 (B:Int)) (.slice P' n' c') HRB.out
    have HG5:Hid _:=heap_set3 w3 (w.heap.size + 1) 29 _ _ _ (.int .i64 (E:Int)) (.int .i64 (B:Int)) (.slice P' n' c') HRB.out
    have HF5:Hid (Fr w3 (((w3.setCell ⟨w.heap.size + 1,0,none⟩ (.int .i64 (E:Int))).setCell ⟨w.heap.size + 1,1,none⟩ (.int .i64 (B:Int))).setCell ⟨w.heap.size + 1,2,none⟩ (.slice P' n' c')) (fun k=>k=w.heap.size + 1)):=⟨HG5.out.2.os,HG5.out.2.tape,HG5.out.2.output,by rw [HG5.out.2.size]; exact Nat.le_refl _,fun k _ hk=>HG5.out.2.other k hk⟩
    obtain ⟨g',o',cc',hv',hc4⟩:=DRow.at_ (DRow.fr (DRow.fr (show DRow (fun k=>W0.heap.size ≤ k) w2 (.slice (some ⟨g,o,none⟩) FL.length k8) (strV FL) from HD2.out) HF3.out (fun k hk e=>by have:=HZ0.out; omega)) HF5.out (fun k hk e=>by have:=HZ0.out; omega)) (j:=i) (by simpa using HI.out)
    injection hv' with e1 e2 e3
    injection e1 with e1
    injection e1 with e1 e4 e5
    subst e1 e4
    have hc5:(((w3.setCell ⟨w.heap.size + 1,0,none⟩ (.int .i64 (E:Int))).setCell ⟨w.heap.size + 1,1,none⟩ (.int .i64 (B:Int))).setCell ⟨w.heap.size + 1,2,none⟩ (.slice P' n' c')).cell? ⟨g,o + i,none⟩=some (.string T):=by rw [← HT.out]; simpa using hc4
    clear e2 e3 e5 hc4
    have HR3:Hid (RL (fun k=>ok k∧k ≠ w.heap.size + 1) w3 (.slice P' n' c') N'):=(HR.out.fr HF3.out (fun k hk=>hk.2.1)).weak (fun k _ hk=>⟨hk.1,hk.2.2⟩)
    clear hw3
    go_region
    all_goals
      go_wp2
      obtain ⟨g0,g1,g2,gf⟩:=row3 HG5.out.1
      exact bodyPost_ret (v:=.tuple #[rlV E B (.slice P' n' c'),.string T,.bool true]) (by simp [results,Tryz.results35,go_sem,g0,g1,g2]) rfl ⟨_,rfl,RL.on (fin_rl _ _ _ HRB.out HR3.out) (Below.refl _ _).drew,(below_set3 HB3.out (by omega) _ _ _).drew⟩
end
end Go.Proofs.YtjnbjfjoejfmpaaGreatDoor
namespace Go.Proofs.YtjnbjfjoejfmpaaGreatDoor
open Go.RowKit
set_option linter.unusedVariables false
set_option linter.unusedSimpArgs false
section
variable {ok:Nat → Prop}
theorem DRow.srow {w:World} {v:Value} {x:List ByteArray} (h:DRow ok w v (strV x)):SRow w v x:=by
  rcases h with ⟨rfl,h0⟩ | ⟨g,o,c,h1,h2,h3,h4,h5⟩
  · exact Or.inl ⟨by simpa [strV] using h0,_,_,rfl⟩
  · refine Or.inr ⟨g,o,c,by rw [h1]; simp,fun j hj=>h5 j _ ?_⟩
    simp [strV,hj]
def pkV (N:QM.NL):List Value:=N.map (fun x=>Value.string (packN x))
set_option maxHeartbeats 2000000 in
set_option maxRecDepth 100000 in
theorem rnodes_any (E B:Nat) (v:Value) (N:QM.NL) (hx:∀ x ∈ N,x.length ≤ 4096∧∀ t ∈ x,t.size ≤ 524288) (hn:N.length ≤ 1000) (w:World) (h:RL ok w v N) :
    Calls Tryz.prog 14 #[rlV E B v] w fun e w'=>∃ v',e=.returned v'∧w'.ownsRow w.heap.size 9 1 v' N.length (pkV N)∧Below w.heap.size w w':=by
  obtain ⟨P,c,rfl⟩:=h.form
  have HL:Hid (RL ok w (.slice P N.length c) N):=h
  obtain ⟨W0,hW0⟩:∃ W0,W0=w.alloc (.cells #[.int .i64 (E:Int),.int .i64 (B:Int),.slice P N.length c] 29):=⟨_,rfl⟩
  have hb0:Below w.heap.size w W0:=by rw [hW0]; exact (Below.refl _ _).alloc (Nat.le_refl _) _
  have hrow:W0.heap[w.heap.size]?=some (.cells #[.int .i64 (E:Int),.int .i64 (B:Int),.slice P N.length c] 29):=by rw [hW0]; exact one_alloc _ _
  have HB0:Hid _:=hb0
  have HR0:Hid _:=hrow
  have HSZ:Hid (w.heap.size ≤ W0.heap.size):=HB0.out.size
  obtain ⟨PN,hPN⟩:∃ PN:Nat → List Value,∀ i,PN i=pkV (N.take i):=⟨_,fun _=>rfl⟩
  have HP0:Hid (PN 0=[]):=by show _=_; rw [hPN]; rfl
  have HPS:Hid (∀ i (hi:i < N.length),PN (i + 1)=PN i ++ [Value.string (packN N[i])]):=fun i hi=>by
    rw [hPN,hPN,takeN_snoc N i hi]; unfold pkV; rw [List.map_append]; rfl
  have HPE:Hid (PN N.length=pkV N):=by show _=_; rw [hPN,List.take_length]
  have HBL:Hid (∀ i (hi:i < N.length) (W W':World) (u:Value),DRow ok W u (strV N[i]) → W'=W → Calls Tryz.prog 29 #[u] W' fun e w'=>e=.returned (.string (packN N[i]))∧Below W'.heap.size W' w'):=fun i hi W W' u hu e=>by
    subst e
    have hq:=hx N[i] (List.getElem_mem hi)
    exact rBuild_any u N[i] (by omega) hq.2 W' hu.srow
  clear h hb0 hrow hPN hx
  go_enter Tryz.func14,Tryz.ntmps14
  go_wp2
  rw [← hW0]
  clear hW0
  go_loopw [3,4] (fun co ci wr=>∃ i:Nat,i ≤ N.length∧ci=.int .i64 (i:Int)∧Below W0.heap.size W0 wr∧wr.ownsRow W0.heap.size 9 1 co i (PN i)) (fun _ ci _=>N.length - (intOf ci).toNat)
  case atStart=>exact ⟨0,by omega,rfl,Below.refl _ _,by rw [HP0.out]; exact own_nil W0 W0.heap.size 9⟩
  case round =>
    obtain ⟨i,hi,rfl,hb,ho⟩:=hrel
    have HB:Hid (Below W0.heap.size W0 wr):=hb
    have HO:Hid (wr.ownsRow W0.heap.size 9 1 _ i (PN i)):=ho
    have hrr:=keep_row HR0.out hb
    obtain ⟨c0,c1,c2,cf⟩:=row3 hrr
    obtain ⟨Q8,d8,hqf⟩:=own_form ho
    subst hqf
    by_cases hlt:i < N.length
    · obtain ⟨g,o,c',u,e,hcell,hdr⟩:=HL.out.at_ hlt
      injection e with e1 e2 e3
      subst e1 e3
      obtain ⟨U,uc,hu⟩:=hdr.sform
      subst hu
      have hbw:Below w.heap.size w wr:=HB0.out.trans (hb.mono HSZ.out)
      have y0:=cell_on hcell hbw
      have HDR:Hid (DRow ok wr (.slice U N[i].length uc) (strV N[i])):=hdr.on hbw
      have hi0:(0:Int) ≤ (i:Int):=by omega
      have hi1:(i:Int) < (N.length:Int):=by omega
      have HF:Hid (PN (i + 1)=PN i ++ [Value.string (packN N[i])]):=HPS.out i hlt
      have HBLi:Hid (Calls Tryz.prog 29 #[.slice U N[i].length uc] wr fun e w'=>e=.returned (.string (packN N[i]))∧Below wr.heap.size wr w'):=HBL.out i hlt wr wr _ HDR.out rfl
      obtain ⟨LN,hLN⟩:∃ LN,N[i].length=LN:=⟨_,rfl⟩
      rw [hLN] at y0 HBLi
      generalize packN N[i]=PK at *
      clear ho hb hdr hcell hrr hLN HDR
      go_wp2_with fail
      refine (show Calls _ _ _ _ _ from HBLi.out).mono ?_
      rintro e w1 ⟨rfl,hb1⟩
      have HB1:Hid (Below wr.heap.size wr w1):=hb1
      obtain ⟨W2,hW2⟩:∃ W2,W2=w1.alloc (.cells #[.string PK] 9):=⟨_,rfl⟩
      have HI2:Hid (DRow (fun _=>True) W2 (.slice (some ⟨w1.heap.size,0,none⟩) 1 1) [.string PK]):=by show DRow _ _ _ _; rw [hW2]; exact drow_one _ _ _
      have hb2:Below w1.heap.size w1 W2:=by rw [hW2]; exact (Below.refl _ _).alloc (Nat.le_refl _) _
      have hb3:Below wr.heap.size wr W2:=HB1.out.trans (hb2.mono HB1.out.size)
      have HO2:Hid (W2.ownsRow W0.heap.size 9 1 (.slice Q8 i d8) i (PN i)):=own_on HO.out hb3
      have HB2:Hid (Below W0.heap.size W0 W2):=HB.out.trans (hb3.mono HB.out.size)
      clear hb1 hb2 hb3
      go_wp2_with (at_builtin; rw [← hW2]; go_must (refine app_str rfl _ _ rfl W0.heap.size _ i (PN i) rfl HO2.out _ [.string PK] rfl HI2.out ?q9 (i + 1) rfl ?q1 HB2.out.size ?_))
      case q9=>intro u hu; simp at hu; subst hu; rfl
      case q1=>omega
      intro v3 w3 ho3 hg3
      rw [← hW2] at hg3
      have HB3:Hid (Below W0.heap.size W0 w3):=HB2.out.grown hg3 HB2.out.size (fun q hq=>(World.ownsRow.lt HO2.out q hq).1)
      have HO3:Hid (w3.ownsRow W0.heap.size 9 1 v3 (i + 1) (PN i ++ [.string PK])):=ho3
      clear ho3 hg3
      go_wp2
      exact ⟨⟨i + 1,hlt,by congr 1,HB3.out,by rw [HF.out]; exact HO3.out⟩,by simp [intOf]; omega⟩
    · have he:i=N.length:=by omega
      subst he
      clear ho hb hrr
      go_wp2
      go_returns
      refine ⟨_,rfl,?_,HB0.out.trans (HB.out.mono HSZ.out)⟩
      rw [← HPE.out]
      exact own_lower HO.out HSZ.out
end
end Go.Proofs.YtjnbjfjoejfmpaaGreatDoor
namespace Go.Proofs.YtjnbjfjoejfmpaaGreatDoor
open Go.RowKit
set_option linter.unusedVariables false
set_option linter.unusedSimpArgs false
def okP (x g r:Nat) (nv:Value) (k:Nat):Prop:=k ≠ g∧k ≠ r∧nv.ownBlock ≠ some k∧k ≠ x
def Both (x:Nat) (w w':World) (b0 g r c:Nat) (rest:List Value) (nv:Value) (E B:Nat) (N':QM.NL) (dv':Value):Prop:=∃ nv',LS w' b0 g r c rest nv' E B (nds B N')∧Fr w w' (fun k=>k=g ∨ k=r ∨ nv.ownBlock=some k)∧(∀ Y,nv'.ownBlock=some Y → nv.ownBlock=some Y ∨ w.heap.size ≤ Y)∧RL (okP x g r nv') w' dv' N'
theorem three_r3 (w:World) (a b c:Obj):(((w.alloc a).alloc b).alloc c).heap[w.heap.size + 1 + 1]?=some c:=by
  have:=one_alloc ((w.alloc a).alloc b) c
  simpa using this
section
variable {x b0 g r c:Nat} {rest:List Value} {nv:Value} {E B:Nat} {N:QM.NL}
theorem Chg.blk {w1 a a5:World} {N':QM.NL} (hc:Chg a a5 b0 g r c rest nv E B N') (hL:LS w1 b0 g r c rest nv E B (nds B N)) {k:Nat} {o:Obj} (hk:w1.heap.size ≤ k) (h:a.heap[k]?=some o):a5.heap[k]?=some o:=by
  obtain ⟨nv',h1,h2,h3⟩:=hc
  refine (h2.block k (row_lt h) ?_).trans h
  rintro (e | e | e)
  · have:=row_lt hL.hd; omega
  · have:=row_lt hL.rw_; omega
  · have:=hL.own_lt k e; omega
theorem both_fin {w a a5:World} {N':QM.NL} {dv':Value} {kz T:Nat} {z0 z1 z2:Value} (v0 v1 v2:Value) (hL:LS w b0 g r c rest nv E B (nds B N)) (hb:Below w.heap.size w a) (hc:Chg a a5 b0 g r c rest nv E B N') (hR:RL (fun k=>okP x g r nv k∧k ≠ kz) a dv' N') (hkz:w.heap.size ≤ kz) (hkl:kz < a.heap.size) (hrz:a5.heap[kz]?=some (.cells #[z0,z1,z2] T)) :
    Both x w (((a5.setCell ⟨kz,0,none⟩ v0).setCell ⟨kz,1,none⟩ v1).setCell ⟨kz,2,none⟩ v2) b0 g r c rest nv E B N' dv':=by
  obtain ⟨nv',h1,h2,h3⟩:=hc
  have ho:=(heap_set3 a5 kz T z0 z1 z2 v0 v1 v2 hrz).2
  have hgl:=row_lt hL.hd
  have hrl:=row_lt hL.rw_
  have hsz:=hb.size
  have hk1:∀ Y,nv'.ownBlock=some Y → Y ≠ kz:=fun Y hY=>by
    rcases h3 Y hY with h | h
    · have:=hL.own_lt Y h; omega
    · omega
  refine ⟨nv',⟨(ho.other g (by omega)).trans h1.hd,(ho.other r (by omega)).trans h1.rw_,h1.nd.same (fun Y hY=>ho.other Y (hk1 Y hY)),h1.hg,h1.hr⟩,⟨ho.os.trans (h2.os.trans hb.os),ho.tape.trans (h2.tape.trans hb.tape),ho.output.trans (h2.output.trans hb.output),by rw [ho.size]; have:=h2.size; omega,fun k hk hn=>(ho.other k (by omega)).trans ((h2.block k (by omega) hn).trans (hb.block k hk))⟩,fun Y hY=>?_,?_⟩
  · rcases h3 Y hY with h | h
    · exact Or.inl h
    · right; omega
  · have q1:RL (fun k=>(okP x g r nv k∧k ≠ kz)∧k < a.heap.size) a dv' N':=hR.weak (fun k hk h=>⟨h,hk⟩)
    have q2:RL (fun k=>(okP x g r nv k∧k ≠ kz)∧k < a.heap.size) a5 dv' N':=q1.fr h2 (fun k hk hs=>by
      rcases hs with h | h | h
      · exact hk.1.1.1 h
      · exact hk.1.1.2.1 h
      · exact hk.1.1.2.2.1 h)
    have hf:Fr a5 (((a5.setCell ⟨kz,0,none⟩ v0).setCell ⟨kz,1,none⟩ v1).setCell ⟨kz,2,none⟩ v2) (fun k=>k=kz):=⟨ho.os,ho.tape,ho.output,by rw [ho.size]; exact Nat.le_refl _,fun k _ hk=>ho.other k hk⟩
    refine (q2.fr hf (fun k hk=>hk.1.2)).weak (fun k _ hk=>⟨hk.1.1.1,hk.1.1.2.1,fun e=>?_,hk.1.1.2.2.2⟩)
    rcases h3 k e with h | h
    · exact hk.1.1.2.2.1 h
    · have:=hk.2; omega
theorem Chg.of_bel {w a:World} (hL:LS w b0 g r c rest nv E B (nds B N)) (hb:Below w.heap.size w a):Chg w a b0 g r c rest nv E B N:=⟨nv,hL.on hb,Fr.of_below hb,fun Y h=>Or.inl h⟩
set_option maxHeartbeats 1000000 in
theorem num_any (v:Int) (w:World):Calls Tryz.prog 11 #[.int .i64 v] w fun e w'=>e=.returned (.int .i64 v)∧w'=w:=by
  go_enter Tryz.func11,Tryz.ntmps11
  go_wp2
  go_returns
  exact ⟨rfl,rfl⟩
end
end Go.Proofs.YtjnbjfjoejfmpaaGreatDoor
