import Derived.Test.YtjnbjfjoejfmpaaGreatDoorWAP
import Derived.Test.YtjnbjfjoejfmpaaGreatDoorQNw
namespace Go.Proofs.YtjnbjfjoejfmpaaGreatDoor
open Go.RowKit
set_option linter.unusedVariables false
set_option linter.unusedSimpArgs false
section
variable {ok:Nat → Prop}
set_option maxHeartbeats 1000000 in
set_option maxRecDepth 100000 in
theorem rlen_any (E B:Nat) (v:Value) (N:QM.NL) (hl:N.flatten.length ≤ 1000000) (hn:N.length ≤ 1000000) (w:World) (h:RL ok w v N) :
    Calls Tryz.prog 16 #[rlV E B v] w fun e w'=>e=.returned (.int .i64 (N.flatten.length:Int))∧Below w.heap.size w w':=by
  have HE:Hid (∀ W,Below w.heap.size w W → Calls Tryz.prog 30 #[rlV E B v] W fun e w'=>∃ v',e=.returned v'∧w'.ownsRow W.heap.size 9 1 v' N.flatten.length (strV N.flatten)∧Below W.heap.size W w'):=fun W hW=>elems_any E B v N hl hn W (h.on hW)
  obtain ⟨P,c,rfl⟩:=h.form
  obtain ⟨F,hF⟩:∃ F,N.flatten.length=F:=⟨_,rfl⟩
  rw [hF] at HE ⊢
  clear h hF hl
  go_enter Tryz.func16,Tryz.ntmps16
  go_wp2_with fail
  refine (show Calls _ _ _ _ _ from HE.out _ ?b1).mono ?_
  case b1=>first | exact Below.refl _ _ | exact (Below.refl _ _).alloc (Nat.le_refl _) _
  rintro e w1 ⟨v',rfl,ho,hb⟩
  obtain ⟨P8,k8,hkf⟩:=own_form ho
  subst hkf
  have HB:Hid (Below w.heap.size w w1):=by first | exact hb | exact bel_to ((Below.refl _ w).alloc (Nat.le_refl _) _) hb (Nat.le_refl _)
  clear ho hb
  go_wp2
  go_returns
  exact ⟨rfl,HB.out⟩
set_option maxHeartbeats 1000000 in
set_option maxRecDepth 100000 in
theorem large_any (E B:Nat) (P:Option Addr) (n c:Nat) (s:ByteArray) (w:World) :
    Calls Tryz.prog 74 #[rlV E B (.slice P n c),.string s] w fun e w'=>e=.returned (.bool (QM.big B s))∧Below w.heap.size w w':=by
  have HE:Hid (QM.big B s=decide (B < s.size)):=rfl
  go_enter Tryz.func74,Tryz.ntmps74
  go_wp2
  go_returns
  exact ⟨by rw [HE.out]; rfl,by first | exact Below.refl _ _ | exact (Below.refl _ _).alloc (Nat.le_refl _) _⟩
set_option maxHeartbeats 1000000 in
set_option maxRecDepth 100000 in
theorem may_any (E B:Nat) (v:Value) (N:QM.NL) (s:ByteArray) (one:Int) (h1:0 ≤ one∧one ≤ 1) (hl:N.flatten.length ≤ 1000) (hn:N.length ≤ 1000) (w:World) (h:RL ok w v N) :
    Calls Tryz.prog 73 #[rlV E B v,.string s,.int .i64 one] w fun e w'=>e=.returned (.int .i64 (if 524288 < s.size then 2 else 0))∧Below w.heap.size w w':=by
  have HE:Hid (∀ W,Below w.heap.size w W → Calls Tryz.prog 16 #[rlV E B v] W fun e w'=>e=.returned (.int .i64 (N.flatten.length:Int))∧Below W.heap.size W w'):=fun W hW=>rlen_any E B v N (by omega) (by omega) W (h.on hW)
  obtain ⟨P,c,rfl⟩:=h.form
  obtain ⟨F,hF⟩:∃ F,N.flatten.length=F:=⟨_,rfl⟩
  rw [hF] at HE hl
  have hw1:IntKind.i64.wrap ((F:Int) + one)=(F:Int) + one:=by rw [IntKind.wrap_i64] <;> omega
  have hw2:¬ ((1048576:Int) < (F:Int) + one):=by omega
  clear h hF
  by_cases hs:524288 < s.size
  · have hs1:(524288:Int) < (s.size:Int):=by omega
    have HI:Hid ((if 524288 < s.size then (2:Int) else 0)=2):=if_pos hs
    go_enter Tryz.func73,Tryz.ntmps73
    go_wp2
    go_returns
    exact ⟨by first | rfl | (rw [HI.out]; rfl),by first | exact Below.refl _ _ | exact (Below.refl _ _).alloc (Nat.le_refl _) _⟩
  · have hs1:¬ ((524288:Int) < (s.size:Int)):=by omega
    have HI:Hid ((if 524288 < s.size then (2:Int) else 0)=0):=if_neg hs
    go_enter Tryz.func73,Tryz.ntmps73
    go_wp2_with fail
    refine (show Calls _ _ _ _ _ from HE.out _ ?b1).mono ?_
    case b1=>first | exact Below.refl _ _ | exact (Below.refl _ _).alloc (Nat.le_refl _) _
    rintro e w1 ⟨rfl,hb⟩
    have HB:Hid (Below w.heap.size w w1):=by first | exact hb | exact bel_to ((Below.refl _ w).alloc (Nat.le_refl _) _) hb (Nat.le_refl _)
    clear hb
    go_wp2
    go_returns
    exact ⟨by first | rfl | (rw [HI.out]; rfl),HB.out⟩
set_option maxHeartbeats 1000000 in
set_option maxRecDepth 100000 in
theorem rnew_no (e b:Int) (h:mayB e b=false) (w:World):Calls Tryz.prog 20 #[.int .i64 e,.int .i64 b] w fun r w'=>r=.returned (.tuple #[rlV 0 0 (.slice none 0 0),.int .i64 1])∧Below w.heap.size w w':=by
  by_cases h1:e < 1
  · go_enter Tryz.func20,Tryz.ntmps20
    go_wp2
    go_returns
    exact ⟨rfl,by first | exact Below.refl _ _ | exact (Below.refl _ _).alloc (Nat.le_refl _) _⟩
  · by_cases h2:4096 < e
    · go_enter Tryz.func20,Tryz.ntmps20
      go_wp2
      go_returns
      exact ⟨rfl,by first | exact Below.refl _ _ | exact (Below.refl _ _).alloc (Nat.le_refl _) _⟩
    · by_cases h3:b < 0
      · go_enter Tryz.func20,Tryz.ntmps20
        go_wp2
        go_returns
        exact ⟨rfl,by first | exact Below.refl _ _ | exact (Below.refl _ _).alloc (Nat.le_refl _) _⟩
      · have h4:4096 < b:=by unfold mayB at h; simp at h; omega
        go_enter Tryz.func20,Tryz.ntmps20
        go_wp2
        go_returns
        exact ⟨rfl,by first | exact Below.refl _ _ | exact (Below.refl _ _).alloc (Nat.le_refl _) _⟩
set_option maxHeartbeats 1000000 in
set_option maxRecDepth 100000 in
theorem rnew_yes (E B:Nat) (h:mayB (E:Int) (B:Int)=true) (w:World):Calls Tryz.prog 20 #[.int .i64 (E:Int),.int .i64 (B:Int)] w fun r w'=>r=.returned (.tuple #[rlV E B (.slice none 0 0),.int .i64 0])∧Below w.heap.size w w':=by
  have h1:¬ ((E:Int) < 1)∧¬ (4096 < (E:Int))∧¬ ((B:Int) < 0)∧¬ (4096 < (B:Int)):=by unfold mayB at h; simp at h; omega
  obtain ⟨h1,h2,h3,h4⟩:=h1
  clear h
  go_enter Tryz.func20,Tryz.ntmps20
  go_wp2
  go_returns
  exact ⟨rfl,by first | exact Below.refl _ _ | exact (Below.refl _ _).alloc (Nat.le_refl _) _⟩
set_option maxHeartbeats 2000000 in
set_option maxRecDepth 100000 in
theorem rat_yes (E B:Nat) (v:Value) (N:QM.NL) (i:Nat) (hi:i < N.flatten.length) (hl:N.flatten.length ≤ 1000) (hn:N.length ≤ 1000) (w:World) (h:RL ok w v N) :
    Calls Tryz.prog 43 #[rlV E B v,.int .i64 (i:Int)] w fun e w'=>e=.returned (.tuple #[.string N.flatten[i],.bool true])∧Below w.heap.size w w':=by
  have HE:Hid (∀ W,Below w.heap.size w W → Calls Tryz.prog 30 #[rlV E B v] W fun e w'=>∃ v',e=.returned v'∧w'.ownsRow W.heap.size 9 1 v' N.flatten.length (strV N.flatten)∧Below W.heap.size W w'):=fun W hW=>elems_any E B v N (by omega) (by omega) W (h.on hW)
  obtain ⟨P,c,rfl⟩:=h.form
  generalize N.flatten=FL at *
  have hi0:(0:Int) ≤ (i:Int):=by omega
  have hi1:(i:Int) < (FL.length:Int):=by omega
  have hi2:¬ ((i:Int) < 0):=by omega
  have hi3:¬ ((FL.length:Int) ≤ (i:Int)):=by omega
  obtain ⟨T,hT⟩:∃ T,FL[i]=T:=⟨_,rfl⟩
  rw [hT]
  have HT:Hid (FL[i]=T):=hT
  clear h hT
  go_enter Tryz.func43,Tryz.ntmps43
  go_wp2_with fail
  refine (show Calls _ _ _ _ _ from HE.out _ ?b1).mono ?_
  case b1=>first | exact Below.refl _ _ | exact (Below.refl _ _).alloc (Nat.le_refl _) _
  rintro e w1 ⟨v',rfl,ho,hb⟩
  have hd:=DRow.of_own (ok:=fun _=>True) ho (by simp) (fun _ _=>trivial)
  obtain ⟨g,o,cc,hv,hc⟩:=hd.at_ (j:=i) (by simpa using hi)
  subst hv
  have hc':w1.cell? ⟨g,o + i,none⟩=some (.string T):=by rw [hc,← HT.out]; simp
  rw [show (strV FL).length=FL.length by simp] at *
  have HB:Hid (Below w.heap.size w w1):=by first | exact hb | exact bel_to ((Below.refl _ w).alloc (Nat.le_refl _) _) hb (Nat.le_refl _)
  clear ho hb hd hc
  go_wp2
  go_returns
  exact ⟨rfl,HB.out⟩
set_option maxHeartbeats 2000000 in
set_option maxRecDepth 100000 in
theorem rat_no (E B:Nat) (v:Value) (N:QM.NL) (i:Int) (hi:¬ (0 ≤ i∧i < (N.flatten.length:Int))) (hl:N.flatten.length ≤ 1000) (hn:N.length ≤ 1000) (w:World) (h:RL ok w v N) :
    Calls Tryz.prog 43 #[rlV E B v,.int .i64 i] w fun e w'=>e=.returned (.tuple #[.string ⟨#[]⟩,.bool false])∧Below w.heap.size w w':=by
  have HE:Hid (∀ W,Below w.heap.size w W → Calls Tryz.prog 30 #[rlV E B v] W fun e w'=>∃ v',e=.returned v'∧w'.ownsRow W.heap.size 9 1 v' N.flatten.length (strV N.flatten)∧Below W.heap.size W w'):=fun W hW=>elems_any E B v N (by omega) (by omega) W (h.on hW)
  obtain ⟨P,c,rfl⟩:=h.form
  generalize N.flatten=FL at *
  clear h
  by_cases hi2:i < 0
  · clear hi
    go_enter Tryz.func43,Tryz.ntmps43
    go_wp2_with fail
    refine (show Calls _ _ _ _ _ from HE.out _ ?b1).mono ?_
    case b1=>first | exact Below.refl _ _ | exact (Below.refl _ _).alloc (Nat.le_refl _) _
    rintro e w1 ⟨v',rfl,ho,hb⟩
    obtain ⟨P8,k8,hkf⟩:=own_form ho
    subst hkf
    have HB:Hid (Below w.heap.size w w1):=by first | exact hb | exact bel_to ((Below.refl _ w).alloc (Nat.le_refl _) _) hb (Nat.le_refl _)
    clear ho hb
    go_wp2
    go_returns
    exact ⟨rfl,HB.out⟩
  · have hi3:(FL.length:Int) ≤ i:=by omega
    clear hi
    go_enter Tryz.func43,Tryz.ntmps43
    go_wp2_with fail
    refine (show Calls _ _ _ _ _ from HE.out _ ?b1).mono ?_
    case b1=>first | exact Below.refl _ _ | exact (Below.refl _ _).alloc (Nat.le_refl _) _
    rintro e w1 ⟨v',rfl,ho,hb⟩
    obtain ⟨P8,k8,hkf⟩:=own_form ho
    subst hkf
    have HB:Hid (Below w.heap.size w w1):=by first | exact hb | exact bel_to ((Below.refl _ w).alloc (Nat.le_refl _) _) hb (Nat.le_refl _)
    clear ho hb
    go_wp2
    go_returns
    exact ⟨rfl,HB.out⟩
end
end Go.Proofs.YtjnbjfjoejfmpaaGreatDoor
namespace Go.Proofs.YtjnbjfjoejfmpaaGreatDoor
open Go.RowKit
set_option linter.unusedVariables false
set_option linter.unusedSimpArgs false
section
variable {ok:Nat → Prop}
set_option maxHeartbeats 4000000 in
set_option maxRecDepth 100000 in
theorem place_any (E B:Nat) (v:Value) (N:QM.NL) (i0:Nat) (hi0:i0 < N.flatten.length) (hl:N.flatten.length ≤ 1000) (hn:N.length ≤ 1000) (w:World) (h:RL ok w v N) :
    Calls Tryz.prog 78 #[rlV E B v,.int .i64 (i0:Int)] w fun e w'=>e=.returned (.tuple #[.int .i64 ((QM.plc N i0).1:Int),.int .i64 ((QM.plc N i0).2:Int)])∧Below w.heap.size w w':=by
  obtain ⟨P,c,rfl⟩:=h.form
  have HL:Hid (RL ok w (.slice P N.length c) N):=h
  obtain ⟨W0,hW0⟩:∃ W0,W0=w.alloc (.cells #[.int .i64 (E:Int),.int .i64 (B:Int),.slice P N.length c] 29):=⟨_,rfl⟩
  have hb0:Below w.heap.size w W0:=by rw [hW0]; exact (Below.refl _ _).alloc (Nat.le_refl _) _
  have hrow:W0.heap[w.heap.size]?=some (.cells #[.int .i64 (E:Int),.int .i64 (B:Int),.slice P N.length c] 29):=by rw [hW0]; exact one_alloc _ _
  have HB0:Hid _:=hb0
  have HR0:Hid _:=hrow
  have HSZ:Hid (w.heap.size ≤ W0.heap.size):=HB0.out.size
  obtain ⟨FN,hFN⟩:∃ FN:Nat → Nat,∀ i,FN i=(N.take i).flatten.length:=⟨_,fun _=>rfl⟩
  have HFN0:Hid (FN 0=0):=by show _=_; rw [hFN]; rfl
  have HFS:Hid (∀ i (hi:i < N.length),FN (i + 1)=FN i + N[i].length):=fun i hi=>by
    rw [hFN,hFN,takeN_snoc N i hi,List.flatten_append,List.length_append]; simp
  have HFE:Hid (FN N.length=N.flatten.length):=by show _=_; rw [hFN,List.take_length]
  have HPL:Hid (∀ n q (ht:n < N.length),q < N[n].length → FN n + q=i0 → QM.plc N i0=(n,q)):=fun n q ht hq he=>plc_of (B:=B) ht hq (by rw [← hFN]; exact he)
  obtain ⟨F,hF⟩:∃ F,N.flatten.length=F:=⟨_,rfl⟩
  rw [hF] at hi0 hl HFE
  obtain ⟨p1,hp1⟩:∃ p1,(QM.plc N i0).1=p1:=⟨_,rfl⟩
  obtain ⟨p2,hp2⟩:∃ p2,(QM.plc N i0).2=p2:=⟨_,rfl⟩
  rw [hp1,hp2]
  have HP1:Hid _:=hp1
  have HP2:Hid _:=hp2
  clear h hb0 hrow hFN hF hp1 hp2
  go_enter Tryz.func78,Tryz.ntmps78
  go_wp2
  rw [← hW0]
  clear hW0
  go_loopw [1,6] (fun ci cn wr=>∃ i n:Nat,n < N.length∧i ≤ i0∧ci=.int .i64 (i:Int)∧cn=.int .i64 (n:Int)∧FN n + i=i0∧Below W0.heap.size W0 wr) (fun _ cn _=>N.length - (intOf cn).toNat)
  case atStart=>exact ⟨i0,0,by
    have h1:=HFE.out
    have h0:=HFN0.out
    cases hN:N.length with
    | zero=>rw [hN] at h1; omega
    | succ k=>omega,Nat.le_refl _,rfl,rfl,by rw [HFN0.out]; omega,Below.refl _ _⟩
  case round =>
    obtain ⟨i,n,hn1,hii,rfl,rfl,he,hb⟩:=hrel
    have HB:Hid (Below W0.heap.size W0 wr):=hb
    have HE:Hid _:=he
    have hrr:=keep_row HR0.out hb
    obtain ⟨c0,c1,c2,cf⟩:=row3 hrr
    obtain ⟨g,o,c',u,e,hcell,hdr⟩:=HL.out.at_ hn1
    injection e with e1 e2 e3
    subst e1 e3
    obtain ⟨U,uc,hu⟩:=hdr.sform
    subst hu
    have hbw:Below w.heap.size w wr:=HB0.out.trans (hb.mono HSZ.out)
    have y0:=cell_on hcell hbw
    have hj0:(0:Int) ≤ (n:Int):=by omega
    have hj1:(n:Int) < (N.length:Int):=by omega
    obtain ⟨LN,hLN⟩:∃ LN,N[n].length=LN:=⟨_,rfl⟩
    have HLN:Hid (N[n].length=LN):=hLN
    rw [hLN] at y0
    clear hb hdr hcell hrr he hLN
    by_cases hlt:i < LN
    · have hlt':¬ ((LN:Int) ≤ (i:Int)):=by omega
      go_wp2
      go_returns
      have:=HPL.out n i hn1 (by rw [HLN.out]; exact hlt) HE.out
      refine ⟨?_,HB0.out.trans (HB.out.mono HSZ.out)⟩
      rw [← HP1.out,← HP2.out,this]; rfl
    · have hlt':(LN:Int) ≤ (i:Int):=by omega
      have hws:IntKind.i64.wrap ((i:Int) - (LN:Int))=((i - LN:Nat):Int):=by rw [IntKind.wrap_i64] <;> omega
      have hwn:IntKind.i64.wrap ((n:Int) + 1)=(n:Int) + 1:=by rw [IntKind.wrap_i64] <;> omega
      go_wp2
      have h1:=HFS.out n hn1
      rw [HLN.out] at h1
      have h2:=HE.out
      refine ⟨⟨i - LN,n + 1,?_,by omega,rfl,by congr 1,by omega,HB.out⟩,by simp [intOf]; omega⟩
      rcases Nat.lt_or_ge (n + 1) N.length with h3 | h3
      · exact h3
      · exfalso
        have:n + 1=N.length:=by omega
        rw [this,HFE.out] at h1
        omega
end
end Go.Proofs.YtjnbjfjoejfmpaaGreatDoor
