import Derived.Test.YtjnbjfjoejfmpaaGreatDoorDL
import Derived.Deep.RegionHeld3
import Derived.Test.YtjnbjfjoejfmpaaGreatDoorWAS
import Derived.Test.YtjnbjfjoejfmpaaGreatDoorWAN
import Derived.Test.YtjnbjfjoejfmpaaGreatDoorWAW
import Derived.Test.YtjnbjfjoejfmpaaGreatDoorWAX
import Derived.Test.YtjnbjfjoejfmpaaGreatDoorWAZ
import Derived.Test.YtjnbjfjoejfmpaaGreatDoorWAY
import Derived.Test.YtjnbjfjoejfmpaaGreatDoorWAU
import Derived.Test.YtjnbjfjoejfmpaaGreatDoorWAV
namespace Go.Proofs.YtjnbjfjoejfmpaaGreatDoor
open Go.RowKit
set_option linter.unusedVariables false
set_option linter.unusedSimpArgs false
section
variable {ok:Nat → Prop}
set_option maxHeartbeats 2000000 in
set_option maxRecDepth 100000 in
theorem rdel_no (E B:Nat) (v:Value) (N:QM.NL) (i n:Int) (hin:¬ (0 ≤ i∧i < (N.flatten.length:Int)) ∨ n < 1) (hl:N.flatten.length ≤ 1000) (hln:N.length ≤ 1000) (w:World) (h:RL ok w v N) :
    Calls Tryz.prog 41 #[rlV E B v,.int .i64 i,.int .i64 n] w fun e w'=>e=.returned (.tuple #[rlV E B v,.int .i64 0])∧Below w.heap.size w w':=by
  obtain ⟨P,c,rfl⟩:=h.form
  have HLE:Hid (∀ W,Below w.heap.size w W → Calls Tryz.prog 16 #[rlV E B (.slice P N.length c)] W fun e w'=>e=.returned (.int .i64 (N.flatten.length:Int))∧Below W.heap.size W w'):=fun W hW=>rlen_any E B _ N (by omega) (by omega) W (h.on hW)
  obtain ⟨W0,hW0⟩:∃ W0,W0=(w.alloc (.cells #[.int .i64 (E:Int),.int .i64 (B:Int),.slice P N.length c] 29)).alloc (.cells #[.int .i64 0,.int .i64 0,.slice none 0 0] 29):=⟨_,rfl⟩
  have HTW:Hid (∀ W,Below W0.heap.size W0 W → Below w.heap.size w W∧W.heap[w.heap.size]?=some (.cells #[.int .i64 (E:Int),.int .i64 (B:Int),.slice P N.length c] 29)∧W.heap[w.heap.size + 1]?=some (.cells #[.int .i64 0,.int .i64 0,.slice none 0 0] 29)):=fun W hW=>by rw [hW0] at hW; exact two_rows hW
  obtain ⟨F,hF⟩:∃ F,N.flatten.length=F:=⟨_,rfl⟩
  rw [hF] at hin HLE
  clear h hF
  by_cases h1:i < 0
  · clear hin
    go_enter Tryz.func41,Tryz.ntmps41
    go_wp2_with fail
    rw [← hW0]
    refine (show Calls _ _ _ _ _ from HLE.out _ (HTW.out _ (Below.refl _ _)).1).mono ?_
    rintro e w1 ⟨rfl,hb1⟩
    have HX1:Hid (Below W0.heap.size W0 w1):=hb1
    obtain ⟨c0,c1,c2,cf⟩:=row3 (HTW.out _ hb1).2.1
    obtain ⟨r0,r1,r2,rf⟩:=row3 (HTW.out _ hb1).2.2
    have HG:Hid _:=heap_set3 w1 (w.heap.size + 1) 29 _ _ _ (.int .i64 (E:Int)) (.int .i64 (B:Int)) (.slice P N.length c) (HTW.out _ hb1).2.2
    clear hb1 hW0
    go_wp2
    obtain ⟨g0,g1,g2,gf⟩:=row3 HG.out.1
    exact bodyPost_ret (v:=.tuple #[rlV E B (.slice P N.length c),.int .i64 0]) (by simp [results,Tryz.results41,go_sem,g0,g1,g2]) rfl ⟨rfl,below_set3 (HTW.out _ HX1.out).1 (by omega) _ _ _⟩
  · by_cases h2:(F:Int) ≤ i
    · clear hin
      go_enter Tryz.func41,Tryz.ntmps41
      go_wp2_with fail
      rw [← hW0]
      refine (show Calls _ _ _ _ _ from HLE.out _ (HTW.out _ (Below.refl _ _)).1).mono ?_
      rintro e w1 ⟨rfl,hb1⟩
      have HX1:Hid (Below W0.heap.size W0 w1):=hb1
      obtain ⟨c0,c1,c2,cf⟩:=row3 (HTW.out _ hb1).2.1
      obtain ⟨r0,r1,r2,rf⟩:=row3 (HTW.out _ hb1).2.2
      have HG:Hid _:=heap_set3 w1 (w.heap.size + 1) 29 _ _ _ (.int .i64 (E:Int)) (.int .i64 (B:Int)) (.slice P N.length c) (HTW.out _ hb1).2.2
      clear hb1 hW0
      go_wp2
      obtain ⟨g0,g1,g2,gf⟩:=row3 HG.out.1
      exact bodyPost_ret (v:=.tuple #[rlV E B (.slice P N.length c),.int .i64 0]) (by simp [results,Tryz.results41,go_sem,g0,g1,g2]) rfl ⟨rfl,below_set3 (HTW.out _ HX1.out).1 (by omega) _ _ _⟩
    · have h3:n < 1:=by omega
      clear hin
      go_enter Tryz.func41,Tryz.ntmps41
      go_wp2_with fail
      rw [← hW0]
      refine (show Calls _ _ _ _ _ from HLE.out _ (HTW.out _ (Below.refl _ _)).1).mono ?_
      rintro e w1 ⟨rfl,hb1⟩
      have HX1:Hid (Below W0.heap.size W0 w1):=hb1
      obtain ⟨c0,c1,c2,cf⟩:=row3 (HTW.out _ hb1).2.1
      obtain ⟨r0,r1,r2,rf⟩:=row3 (HTW.out _ hb1).2.2
      have HG:Hid _:=heap_set3 w1 (w.heap.size + 1) 29 _ _ _ (.int .i64 (E:Int)) (.int .i64 (B:Int)) (.slice P N.length c) (HTW.out _ hb1).2.2
      clear hb1 hW0
      go_wp2
      obtain ⟨g0,g1,g2,gf⟩:=row3 HG.out.1
      exact bodyPost_ret (v:=.tuple #[rlV E B (.slice P N.length c),.int .i64 0]) (by simp [results,Tryz.results41,go_sem,g0,g1,g2]) rfl ⟨rfl,below_set3 (HTW.out _ HX1.out).1 (by omega) _ _ _⟩
set_option maxHeartbeats 2000000 in
set_option maxRecDepth 100000 in
theorem rpop_no (E B:Nat) (v:Value) (N:QM.NL) (f:Bool) (h0:N.flatten.length=0) (hln:N.length ≤ 1000) (w:World) (h:RL ok w v N) :
    Calls Tryz.prog 35 #[rlV E B v,.bool f] w fun e w'=>e=.returned (.tuple #[rlV E B v,.string ⟨#[]⟩,.bool false])∧Below w.heap.size w w':=by
  obtain ⟨P,c,rfl⟩:=h.form
  have HE:Hid (∀ W,Below w.heap.size w W → Calls Tryz.prog 30 #[rlV E B (.slice P N.length c)] W fun e w'=>∃ P8 k8,e=.returned (.slice P8 0 k8)∧Below W.heap.size W w'):=fun W hW=>by
    have:=elems_any E B (.slice P N.length c) N (by omega) (by omega) W (h.on hW)
    rw [h0] at this
    refine Calls.mono this ?_
    rintro e w' ⟨v',rfl,ho,hb⟩
    obtain ⟨P8,k8,rfl⟩:=own_form ho
    exact ⟨P8,k8,rfl,hb⟩
  obtain ⟨W0,hW0⟩:∃ W0,W0=(w.alloc (.cells #[.int .i64 (E:Int),.int .i64 (B:Int),.slice P N.length c] 29)).alloc (.cells #[.int .i64 0,.int .i64 0,.slice none 0 0] 29):=⟨_,rfl⟩
  have HTW:Hid (∀ W,Below W0.heap.size W0 W → Below w.heap.size w W∧W.heap[w.heap.size]?=some (.cells #[.int .i64 (E:Int),.int .i64 (B:Int),.slice P N.length c] 29)∧W.heap[w.heap.size + 1]?=some (.cells #[.int .i64 0,.int .i64 0,.slice none 0 0] 29)):=fun W hW=>by rw [hW0] at hW; exact two_rows hW
  clear h h0
  go_enter Tryz.func35,Tryz.ntmps35
  go_wp2_with fail
  rw [← hW0]
  refine (show Calls _ _ _ _ _ from HE.out _ (HTW.out _ (Below.refl _ _)).1).mono ?_
  rintro e w1 ⟨P8,k8,rfl,hb1⟩
  have HX1:Hid (Below W0.heap.size W0 w1):=hb1
  obtain ⟨c0,c1,c2,cf⟩:=row3 (HTW.out _ hb1).2.1
  obtain ⟨r0,r1,r2,rf⟩:=row3 (HTW.out _ hb1).2.2
  have HG:Hid _:=heap_set3 w1 (w.heap.size + 1) 29 _ _ _ (.int .i64 (E:Int)) (.int .i64 (B:Int)) (.slice P N.length c) (HTW.out _ hb1).2.2
  clear hb1 hW0
  go_wp2
  obtain ⟨g0,g1,g2,gf⟩:=row3 HG.out.1
  exact bodyPost_ret (v:=.tuple #[rlV E B (.slice P N.length c),.string ⟨#[]⟩,.bool false]) (by simp [results,Tryz.results35,go_sem,g0,g1,g2]) rfl ⟨rfl,below_set3 (HTW.out _ HX1.out).1 (by omega) _ _ _⟩
end
end Go.Proofs.YtjnbjfjoejfmpaaGreatDoor
namespace Go.Proofs.YtjnbjfjoejfmpaaGreatDoor
open Go.RowKit
set_option linter.unusedVariables false
set_option linter.unusedSimpArgs false
section
variable {ok:Nat → Prop}
theorem DRow.srow {w:World} {v:Value} {x:List ByteArray} (h:DRow ok w v (strV x)):SRow w v x:=by
  rcases h with ⟨rfl,h0⟩ | ⟨g,o,c,h1,h2,h3,h4,h5⟩
  · exact Or.inl ⟨by simpa [strV] using h0,_,_,rfl⟩
  · refine Or.inr ⟨g,o,c,by rw [h1]; simp,fun j hj=>h5 j _ ?_⟩
    simp [strV,hj]
def pkV (N:QM.NL):List Value:=N.map (fun x=>Value.string (packN x))
end
end Go.Proofs.YtjnbjfjoejfmpaaGreatDoor
namespace Go.Proofs.YtjnbjfjoejfmpaaGreatDoor
open Go.RowKit
set_option linter.unusedVariables false
set_option linter.unusedSimpArgs false
section
variable {b0 g r c:Nat} {rest:List Value} {nv:Value} {E B:Nat} {N:QM.NL}
theorem insN_any (i:Nat) (hi:i < N.flatten.length) (s:ByteArray) (hs:s.size ≤ 524288) (hl:N.flatten.length ≤ 1000) (hI:QM.Inv E B N) (w:World) (hw:Lay w) (h:LS w b0 g r c rest nv E B (nds B N)):Calls Tryz.prog 80 #[ptr g,plV (QM.plc N i).1 (QM.plc N i).2,.string s] w fun e w'=>e=.returned (.tuple #[])∧Chg w w' b0 g r c rest nv E B (QM.ins E B N i s):=by
  obtain ⟨ht,hq,he⟩:=QM.plc_lt N i hi
  have hx:=QM.getD_at N _ ht
  unfold QM.ins
  simp only [hx]
  cases hb:QM.big B s with
  | true =>
    rw [if_pos rfl]
    exact insert_big _ _ _ ht rfl hq s hs hb hl hI w hw h
  | false =>
    rw [if_neg (by simp)]
    cases hr:QM.room E B N[(QM.plc N i).1] with
    | true =>
      rw [if_pos rfl]
      exact insert_room _ _ _ ht rfl hq s hs hb hr hl hI w hw h
    | false =>
      rw [if_neg (by simp)]
      by_cases hk:(QM.plc N i).2=0
      · by_cases hn:0 < (QM.plc N i).1
        · have hn1:(QM.plc N i).1 - 1 < N.length:=by omega
          rw [QM.getD_at N _ hn1]
          cases hrb:QM.room E B N[(QM.plc N i).1 - 1] with
          | true =>
            rw [if_pos ⟨hk,hn,rfl⟩]
            exact insert_before _ _ _ ht rfl hq s hs hb hr hk ((QM.plc N i).1 - 1) (by omega) _ rfl hrb hl hI w hw h
          | false =>
            rw [if_neg (by simp),if_pos hk]
            exact insert_gap _ _ _ ht rfl hq s hs hb hr hk ((QM.plc N i).1 - 1) (by omega) _ rfl hrb hl hI w hw h
        · rw [if_neg (fun hh=>hn hh.2.1),if_pos hk]
          exact insert_first _ _ _ ht rfl hq s hs hb hr hk (by omega) hl hI w hw h
      · rw [if_neg (fun hh=>hk hh.1),if_neg hk]
        exact insert_split _ _ _ ht rfl hq s hs hb hr (by omega) hl hI w hw h
set_option maxHeartbeats 2000000 in
set_option maxRecDepth 100000 in
theorem Insert_yes (i:Nat) (hi:i < N.flatten.length) (s:ByteArray) (hs:s.size ≤ 524288) (hl:N.flatten.length ≤ 1000) (hI:QM.Inv E B N) (w:World) (hw:Lay w) (h:LS w b0 g r c rest nv E B (nds B N)):Calls Tryz.prog 38 #[ptr g,.int .i64 (i:Int),.string s] w fun e w'=>e=.returned (.int .i64 0)∧Chg w w' b0 g r c rest nv E B (QM.ins E B N i s):=by
  have HL:Hid _:=h
  have HHA:Hid (Calls Tryz.prog 79 #[ptr g,.int .i64 (i:Int)] w fun e w'=>e=.returned (.bool true)∧w'=w):=by
    have:=has_any (i:Int) w h
    have e1:hasQ (cntN (nds B N)) (i:Int)=true:=by unfold hasQ; rw [cnt_nds]; exact decide_eq_true ⟨by omega,by omega⟩
    rw [e1] at this; exact this
  have HMJ:Hid (Calls Tryz.prog 67 #[ptr g,.string s] w fun e w'=>e=.returned (.int .i64 0)∧w'=w):=by
    have:=mayJoin_any s (by omega) w h
    have e:mayQ (cntN (nds B N)) s=0:=by unfold mayQ; rw [cnt_nds,if_neg (by omega),if_neg (by omega)]
    rw [e] at this; exact this
  have HFD:Hid _:=findN_any i hi hl hI w h
  have HIN:Hid (∀ W,Below w.heap.size w W → _):=fun W hW=>insN_any i hi s hs hl hI W (hw.on hW) (h.on hW)
  obtain ⟨l0,l1,l2,l3,lf⟩:=lrow4 h.hd
  rw [cnt_nds] at l2
  obtain ⟨F,hF⟩:∃ F,N.flatten.length=F:=⟨_,rfl⟩
  rw [hF] at l2 hi hl
  have hne:¬ ((i:Int)=(F:Int)):=by omega
  generalize QM.ins E B N i s=R at *
  generalize (QM.plc N i).1=t at *
  generalize (QM.plc N i).2=q at *
  clear h hw hF
  go_enter Tryz.func38,Tryz.ntmps38
  go_wp2_with fail
  refine (show Calls _ _ _ _ _ from HHA.out).mono ?_
  rintro e w1 ⟨rfl,rfl⟩
  go_wp2_with fail
  refine (show Calls _ _ _ _ _ from HMJ.out).mono ?_
  rintro e w2 ⟨rfl,rfl⟩
  go_wp2_with fail
  refine (show Calls _ _ _ _ _ from HFD.out).mono ?_
  rintro e w3 ⟨rfl,hb3⟩
  have HB3:Hid _:=hb3
  clear hb3
  go_wp2_with fail
  refine (show Calls _ _ _ _ _ from HIN.out _ HB3.out).mono ?_
  rintro e w4 ⟨rfl,hc⟩
  have HC:Hid _:=hc.back HB3.out
  clear hc
  go_wp2
  go_returns
  exact ⟨rfl,HC.out⟩
end
end Go.Proofs.YtjnbjfjoejfmpaaGreatDoor
namespace Go.Proofs.YtjnbjfjoejfmpaaGreatDoor
open Go.RowKit
set_option linter.unusedVariables false
set_option linter.unusedSimpArgs false
section
variable {b0 g r c:Nat} {rest:List Value} {nv:Value} {E B:Nat} {N:QM.NL}
theorem end_any (f:Bool) (t:Nat) (htf:t=if f then 0 else N.length - 1) (ht:t < N.length) (hl:N.flatten.length ≤ 1000) (hI:QM.Inv E B N) (w:World) (h:LS w b0 g r c rest nv E B (nds B N)):Calls Tryz.prog 68 #[ptr g,.bool f] w fun e w'=>e=.returned (.tuple #[plV t (if f then 0 else N[t].length),.bool true])∧Below w.heap.size w w':=by
  have hln:N.length ≤ 1000:=Nat.le_trans (QM.len_le hI.some) hl
  have hpos:0 < N.flatten.length:=by have:=QM.len_le hI.some; omega
  cases f with
  | true =>
    simp at htf; subst htf
    exact end_front (by rw [cnt_nds]; exact hpos) (by simp [nds]; omega) w h
  | false =>
    simp at htf
    exact end_back hpos hl hI t (by omega) w h
theorem Push_any (f:Bool) (s:ByteArray) (hs:s.size ≤ 524288) (hl:N.flatten.length ≤ 1000) (hI:QM.Inv E B N) (w:World) (hw:Lay w) (h:LS w b0 g r c rest nv E B (nds B N)):Calls Tryz.prog 31 #[ptr g,.string s,.bool f] w fun e w'=>e=.returned (.int .i64 0)∧Chg w w' b0 g r c rest nv E B (QM.push E B N s f):=by
  have hln:N.length ≤ 1000:=Nat.le_trans (QM.len_le hI.some) hl
  by_cases h0:N.length=0
  · have hN:N=[]:=List.length_eq_zero_iff.1 h0
    subst hN
    have e:QM.push E B [] s f=QM.rep [] (if f then 0 else ([]:QM.NL).length) 0 [[s]]:=by cases f <;> rfl
    rw [e]
    exact Push_none f s hs hl hI 0 0 w hw h (fun W hW=>end_none f (by rw [cnt_nds]; rfl) (by simp [nds]) W hW)
  · obtain ⟨t,htf⟩:∃ t,t=if f then 0 else N.length - 1:=⟨_,rfl⟩
    have ht:t < N.length:=by rw [htf]; split <;> omega
    have hEN:∀ W,LS W b0 g r c rest nv E B (nds B N) → _:=fun W hW=>end_any f t htf ht hl hI W hW
    cases hb:QM.big B s with
    | true =>
      have e:QM.push E B N s f=QM.rep N (if f then 0 else N.length) 0 [[s]]:=by
        rcases QM.push_rep E B N s f with e | ⟨n,hn,hb',_⟩
        · exact e
        · rw [hb] at hb'; cases hb'
      rw [e]
      exact Push_big f s hs hl hI _ _ hb w hw h hEN
    | false =>
      cases hr:QM.room E B N[t] with
      | true =>
        have e:QM.push E B N s f=QM.rep N t 1 [N[t].take (if f then 0 else N[t].length) ++ s :: N[t].drop (if f then 0 else N[t].length)]:=by
          unfold QM.push
          cases f with
          | true =>
            simp at htf; subst htf
            cases N with
            | nil=>simp at ht
            | cons x M =>
              have e5:(if true=true then QM.pushF E B (x :: M) s else QM.pushB E B (x :: M) s)=(if QM.big B s=false∧QM.room E B x=true then (s :: x) :: M else [s] :: x :: M):=rfl
              rw [e5,if_pos ⟨hb,by simpa using hr⟩]
              simp [QM.rep,QM.nes]
          | false =>
            simp at htf; subst htf
            rw [if_neg (by simp)]
            unfold QM.pushB
            rw [List.getLast?_eq_getElem?,List.getElem?_eq_getElem ht]
            simp only
            rw [if_pos ⟨hb,hr⟩]
            simp
        rw [e]
        exact Push_one f s hs hl hI t _ N[t] ht rfl w hw h hEN hb hr (by split <;> omega)
      | false =>
        have e:QM.push E B N s f=QM.rep N (if f then 0 else N.length) 0 [[s]]:=by
          rcases QM.push_rep E B N s f with e | ⟨n,hn,hb',hr',hnf,_⟩
          · exact e
          · have:n=t:=by rw [hnf,htf]
            subst this; rw [hr] at hr'; cases hr'
        rw [e]
        exact Push_full f s hs hl hI t _ N[t] ht rfl hb hr w hw h hEN
set_option maxHeartbeats 1000000 in
theorem Push_no (f:Bool) (s:ByteArray) (hs:524288 < s.size) (hs2:s.size ≤ 281474976710656) (w:World) (h:LS w b0 g r c rest nv E B (nds B N)):Calls Tryz.prog 31 #[ptr g,.string s,.bool f] w fun e w'=>e=.returned (.int .i64 2)∧w'=w:=by
  have HMJ:Hid (Calls Tryz.prog 67 #[ptr g,.string s] w fun e w'=>e=.returned (.int .i64 2)∧w'=w):=by
    have:=mayJoin_any s hs2 w h
    have e:mayQ (cntN (nds B N)) s=2:=by unfold mayQ; rw [if_pos hs]
    rw [e] at this; exact this
  clear h
  go_enter Tryz.func31,Tryz.ntmps31
  go_wp2_with fail
  refine (show Calls _ _ _ _ _ from HMJ.out).mono ?_
  rintro e w1 ⟨rfl,rfl⟩
  go_wp2
  go_returns
  exact ⟨rfl,rfl⟩
set_option maxHeartbeats 1000000 in
theorem Set_no (i:Int) (hi:¬ (0 ≤ i∧i < (N.flatten.length:Int))) (s:ByteArray) (w:World) (h:LS w b0 g r c rest nv E B (nds B N)):Calls Tryz.prog 40 #[ptr g,.int .i64 i,.string s] w fun e w'=>e=.returned (.int .i64 1)∧w'=w:=by
  have HHA:Hid (Calls Tryz.prog 79 #[ptr g,.int .i64 i] w fun e w'=>e=.returned (.bool false)∧w'=w):=by
    have:=has_any i w h
    have e1:hasQ (cntN (nds B N)) i=false:=by unfold hasQ; rw [cnt_nds]; exact decide_eq_false hi
    rw [e1] at this; exact this
  clear h
  go_enter Tryz.func40,Tryz.ntmps40
  go_wp2_with fail
  refine (show Calls _ _ _ _ _ from HHA.out).mono ?_
  rintro e w1 ⟨rfl,rfl⟩
  go_wp2
  go_returns
  exact ⟨rfl,rfl⟩
set_option maxHeartbeats 1000000 in
theorem Set_long (i:Nat) (hi:i < N.flatten.length) (s:ByteArray) (hs:524288 < s.size) (hs2:s.size ≤ 281474976710656) (w:World) (h:LS w b0 g r c rest nv E B (nds B N)):Calls Tryz.prog 40 #[ptr g,.int .i64 (i:Int),.string s] w fun e w'=>e=.returned (.int .i64 2)∧w'=w:=by
  have HHA:Hid (Calls Tryz.prog 79 #[ptr g,.int .i64 (i:Int)] w fun e w'=>e=.returned (.bool true)∧w'=w):=by
    have:=has_any (i:Int) w h
    have e1:hasQ (cntN (nds B N)) (i:Int)=true:=by unfold hasQ; rw [cnt_nds]; exact decide_eq_true ⟨by omega,by omega⟩
    rw [e1] at this; exact this
  have hd:(524288:Int) < (s.size:Int):=by omega
  clear h hi hs
  go_enter Tryz.func40,Tryz.ntmps40
  go_wp2_with fail
  refine (show Calls _ _ _ _ _ from HHA.out).mono ?_
  rintro e w1 ⟨rfl,rfl⟩
  go_wp2
  go_returns
  exact ⟨rfl,rfl⟩
set_option maxHeartbeats 1000000 in
theorem Insert_no (i:Int) (hi:¬ (0 ≤ i∧i ≤ (N.flatten.length:Int))) (s:ByteArray) (w:World) (h:LS w b0 g r c rest nv E B (nds B N)):Calls Tryz.prog 38 #[ptr g,.int .i64 i,.string s] w fun e w'=>e=.returned (.int .i64 1)∧w'=w:=by
  have HHA:Hid (Calls Tryz.prog 79 #[ptr g,.int .i64 i] w fun e w'=>e=.returned (.bool false)∧w'=w):=by
    have:=has_any i w h
    have e1:hasQ (cntN (nds B N)) i=false:=by unfold hasQ; rw [cnt_nds]; exact decide_eq_false (fun q=>hi ⟨q.1,by omega⟩)
    rw [e1] at this; exact this
  obtain ⟨l0,l1,l2,l3,lf⟩:=lrow4 h.hd
  rw [cnt_nds] at l2
  obtain ⟨F,hF⟩:∃ F,N.flatten.length=F:=⟨_,rfl⟩
  rw [hF] at l2 hi
  have hne:¬ (i=(F:Int)):=by omega
  clear h hF hi
  go_enter Tryz.func38,Tryz.ntmps38
  go_wp2_with fail
  refine (show Calls _ _ _ _ _ from HHA.out).mono ?_
  rintro e w1 ⟨rfl,rfl⟩
  go_wp2
  go_returns
  exact ⟨rfl,rfl⟩
set_option maxHeartbeats 1000000 in
theorem Insert_long (i:Nat) (hi:i < N.flatten.length) (s:ByteArray) (hs:524288 < s.size) (hs2:s.size ≤ 281474976710656) (w:World) (h:LS w b0 g r c rest nv E B (nds B N)):Calls Tryz.prog 38 #[ptr g,.int .i64 (i:Int),.string s] w fun e w'=>e=.returned (.int .i64 2)∧w'=w:=by
  have HHA:Hid (Calls Tryz.prog 79 #[ptr g,.int .i64 (i:Int)] w fun e w'=>e=.returned (.bool true)∧w'=w):=by
    have:=has_any (i:Int) w h
    have e1:hasQ (cntN (nds B N)) (i:Int)=true:=by unfold hasQ; rw [cnt_nds]; exact decide_eq_true ⟨by omega,by omega⟩
    rw [e1] at this; exact this
  have HMJ:Hid (Calls Tryz.prog 67 #[ptr g,.string s] w fun e w'=>e=.returned (.int .i64 2)∧w'=w):=by
    have:=mayJoin_any s hs2 w h
    have e:mayQ (cntN (nds B N)) s=2:=by unfold mayQ; rw [if_pos hs]
    rw [e] at this; exact this
  obtain ⟨l0,l1,l2,l3,lf⟩:=lrow4 h.hd
  rw [cnt_nds] at l2
  obtain ⟨F,hF⟩:∃ F,N.flatten.length=F:=⟨_,rfl⟩
  rw [hF] at l2 hi
  have hne:¬ ((i:Int)=(F:Int)):=by omega
  clear h hF hi
  go_enter Tryz.func38,Tryz.ntmps38
  go_wp2_with fail
  refine (show Calls _ _ _ _ _ from HHA.out).mono ?_
  rintro e w1 ⟨rfl,rfl⟩
  go_wp2_with fail
  refine (show Calls _ _ _ _ _ from HMJ.out).mono ?_
  rintro e w2 ⟨rfl,rfl⟩
  go_wp2
  go_returns
  exact ⟨rfl,rfl⟩
set_option maxHeartbeats 1000000 in
theorem Insert_end {v:Value} {Z:World → Prop} (i:Int) (hi:i=(N.flatten.length:Int)) (s:ByteArray) (w:World) (h:LS w b0 g r c rest nv E B (nds B N)) (hP:Calls Tryz.prog 31 #[ptr g,.string s,.bool false] w fun e w'=>e=.returned v∧Z w'):Calls Tryz.prog 38 #[ptr g,.int .i64 i,.string s] w fun e w'=>e=.returned v∧Z w':=by
  have HP:Hid _:=hP
  obtain ⟨l0,l1,l2,l3,lf⟩:=lrow4 h.hd
  rw [cnt_nds,← hi] at l2
  clear h hi hP
  go_enter Tryz.func38,Tryz.ntmps38
  go_wp2_with fail
  refine (show Calls _ _ _ _ _ from HP.out).mono ?_
  rintro e w1 ⟨rfl,hz⟩
  have HZ:Hid _:=hz
  clear hz
  go_wp2
  go_returns
  exact ⟨rfl,HZ.out⟩
set_option maxHeartbeats 1000000 in
theorem Pop_no (f:Bool) (h0:N.flatten.length=0) (w:World) (h:LS w b0 g r c rest nv E B (nds B N)):Calls Tryz.prog 36 #[ptr g,.bool f] w fun e w'=>e=.returned (.tuple #[.string ⟨#[]⟩,.bool false])∧Below w.heap.size w w':=by
  have HL:Hid _:=h
  obtain ⟨l0,l1,l2,l3,lf⟩:=lrow4 h.hd
  rw [cnt_nds,h0] at l2
  have HAT:Hid (∀ i:Int,_):=fun i=>At_no i (by rw [h0]; omega) w h
  have HDE:Hid (∀ i W,Below w.heap.size w W → _):=fun i W hW=>Delete_nil i 1 (Or.inl (by rw [h0]; omega)) W (h.on hW)
  clear h h0
  cases f with
  | true =>
    go_enter Tryz.func36,Tryz.ntmps36
    go_wp2_with fail
    refine (show Calls _ _ _ _ _ from HAT.out _).mono ?_
    rintro e w1 ⟨rfl,hb1⟩
    have HB1:Hid _:=hb1
    clear hb1
    go_wp2_with fail
    refine (show Calls _ _ _ _ _ from HDE.out _ _ HB1.out).mono ?_
    rintro e w2 ⟨rfl,rfl⟩
    go_wp2
    go_returns
    exact ⟨rfl,HB1.out⟩
  | false =>
    go_enter Tryz.func36,Tryz.ntmps36
    go_wp2_with fail
    refine (show Calls _ _ _ _ _ from HAT.out _).mono ?_
    rintro e w1 ⟨rfl,hb1⟩
    have HB1:Hid _:=hb1
    clear hb1
    go_wp2_with fail
    refine (show Calls _ _ _ _ _ from HDE.out _ _ HB1.out).mono ?_
    rintro e w2 ⟨rfl,rfl⟩
    go_wp2
    go_returns
    exact ⟨rfl,HB1.out⟩
end
end Go.Proofs.YtjnbjfjoejfmpaaGreatDoor
namespace Go.Proofs.YtjnbjfjoejfmpaaGreatDoor
open Go.RowKit
set_option linter.unusedVariables false
set_option linter.unusedSimpArgs false
def okP (x g r:Nat) (nv:Value) (k:Nat):Prop:=k ≠ g∧k ≠ r∧nv.ownBlock ≠ some k∧k ≠ x
def Both (x:Nat) (w w':World) (b0 g r c:Nat) (rest:List Value) (nv:Value) (E B:Nat) (N':QM.NL) (dv':Value):Prop:=∃ nv',LS w' b0 g r c rest nv' E B (nds B N')∧Fr w w' (fun k=>k=g ∨ k=r ∨ nv.ownBlock=some k)∧(∀ Y,nv'.ownBlock=some Y → nv.ownBlock=some Y ∨ w.heap.size ≤ Y)∧RL (okP x g r nv') w' dv' N'
theorem three_r3 (w:World) (a b c:Obj):(((w.alloc a).alloc b).alloc c).heap[w.heap.size + 1 + 1]?=some c:=by
  have:=one_alloc ((w.alloc a).alloc b) c
  simpa using this
section
variable {x b0 g r c:Nat} {rest:List Value} {nv:Value} {E B:Nat} {N:QM.NL}
theorem Chg.blk {w1 a a5:World} {N':QM.NL} (hc:Chg a a5 b0 g r c rest nv E B N') (hL:LS w1 b0 g r c rest nv E B (nds B N)) {k:Nat} {o:Obj} (hk:w1.heap.size ≤ k) (h:a.heap[k]?=some o):a5.heap[k]?=some o:=by
  obtain ⟨nv',h1,h2,h3⟩:=hc
  refine (h2.block k (row_lt h) ?_).trans h
  rintro (e | e | e)
  · have:=row_lt hL.hd; omega
  · have:=row_lt hL.rw_; omega
  · have:=hL.own_lt k e; omega
theorem Chg.of_bel {w a:World} (hL:LS w b0 g r c rest nv E B (nds B N)) (hb:Below w.heap.size w a):Chg w a b0 g r c rest nv E B N:=⟨nv,hL.on hb,Fr.of_below hb,fun Y h=>Or.inl h⟩
set_option maxHeartbeats 1000000 in
theorem num_any (v:Int) (w:World):Calls Tryz.prog 11 #[.int .i64 v] w fun e w'=>e=.returned (.int .i64 v)∧w'=w:=by
  go_enter Tryz.func11,Tryz.ntmps11
  go_wp2
  go_returns
  exact ⟨rfl,rfl⟩
end
end Go.Proofs.YtjnbjfjoejfmpaaGreatDoor
namespace Go.Proofs.YtjnbjfjoejfmpaaGreatDoor
open Go.RowKit
set_option linter.unusedVariables false
set_option linter.unusedSimpArgs false
section
variable {x b0 g r c:Nat} {rest:List Value} {nv:Value} {E B:Nat} {N:QM.NL}
theorem chg_fin {w a a5:World} {N':QM.NL} {kz T:Nat} {z0 z1 z2:Value} (v0 v1 v2:Value) (hL:LS w b0 g r c rest nv E B (nds B N)) (hb:Below w.heap.size w a) (hc:Chg a a5 b0 g r c rest nv E B N') (hkz:w.heap.size ≤ kz) (hkl:kz < a.heap.size) (hrz:a5.heap[kz]?=some (.cells #[z0,z1,z2] T)) :
    Chg w (((a5.setCell ⟨kz,0,none⟩ v0).setCell ⟨kz,1,none⟩ v1).setCell ⟨kz,2,none⟩ v2) b0 g r c rest nv E B N':=by
  obtain ⟨nv',h1,h2,h3⟩:=hc
  have ho:=(heap_set3 a5 kz T z0 z1 z2 v0 v1 v2 hrz).2
  have hgl:=row_lt hL.hd
  have hrl:=row_lt hL.rw_
  have hsz:=hb.size
  have hk1:∀ Y,nv'.ownBlock=some Y → Y ≠ kz:=fun Y hY=>by
    rcases h3 Y hY with h | h
    · have:=hL.own_lt Y h; omega
    · omega
  refine ⟨nv',⟨(ho.other g (by omega)).trans h1.hd,(ho.other r (by omega)).trans h1.rw_,h1.nd.same (fun Y hY=>ho.other Y (hk1 Y hY)),h1.hg,h1.hr⟩,⟨ho.os.trans (h2.os.trans hb.os),ho.tape.trans (h2.tape.trans hb.tape),ho.output.trans (h2.output.trans hb.output),by rw [ho.size]; have:=h2.size; omega,fun k hk hn=>(ho.other k (by omega)).trans ((h2.block k (by omega) hn).trans (hb.block k hk))⟩,fun Y hY=>?_⟩
  rcases h3 Y hY with h | h
  · exact Or.inl h
  · right; omega
end
end Go.Proofs.YtjnbjfjoejfmpaaGreatDoor
namespace Go.Proofs.YtjnbjfjoejfmpaaGreatDoor
open Go.RowKit
set_option linter.unusedVariables false
set_option linter.unusedSimpArgs false
section
variable {x b0 g r c:Nat} {rest:List Value} {nv:Value} {E B:Nat} {N M:QM.NL}
set_option maxHeartbeats 4000000 in
set_option maxRecDepth 100000 in
theorem stepJ_5 (a b:Int) (tx:ByteArray) (fl:Bool) (cd cp:Int) (N':QM.NL) (dv:Value) (w:World) (hL:LS w b0 g r c rest nv E B (nds B N)) (hR:RL (fun _=>True) w dv M)
    (hD:∀ W,RL (fun _=>True) W dv M → Calls Tryz.prog 41 #[rlV E B dv,.int .i64 a,.int .i64 b] W fun e w'=>∃ v' M',e=.returned (.tuple #[rlV E B v',.int .i64 cd])∧RL (fun _=>True) w' v' M'∧Below W.heap.size W w')
    (hP:∀ W,Below w.heap.size w W → Calls Tryz.prog 42 #[ptr g,.int .i64 a,.int .i64 b] W fun e w'=>e=.returned (.int .i64 cp)∧Chg W w' b0 g r c rest nv E B N') :
    Calls Tryz.prog 21 #[ptr g,rlV E B dv,.agg #[.int .i64 5,.int .i64 a,.int .i64 b,.string tx,.bool fl]] w fun e w'=>∃ v bb,e=.returned (.tuple #[v,.bool bb])∧Chg w w' b0 g r c rest nv E B N':=by
  obtain ⟨P,c1,rfl⟩:=hR.form
  generalize M.length=n at *
  have HL:Hid (LS w b0 g r c rest nv E B (nds B N)):=hL
  obtain ⟨W0,hW0⟩:∃ W0,W0=((w.alloc (.cells #[.int .i64 (E:Int),.int .i64 (B:Int),.slice P n c1] 29)).alloc (.cells #[.int .i64 5,.int .i64 a,.int .i64 b,.string tx,.bool fl] 46)).alloc (.cells #[.int .i64 0,.int .i64 0,.slice none 0 0] 29):=⟨_,rfl⟩
  have HB0:Hid (Below w.heap.size w W0):=by show Below _ _ _; rw [hW0]; exact (((Below.refl _ w).alloc (Nat.le_refl _) _).alloc (by simp) _).alloc (by simp; omega) _
  have HZ0:Hid (W0.heap.size=w.heap.size + 3):=by show _=_; rw [hW0]; simp
  have HR0:Hid (W0.heap[w.heap.size]?=some (.cells #[.int .i64 (E:Int),.int .i64 (B:Int),.slice P n c1] 29)∧W0.heap[w.heap.size + 1]?=some (.cells #[.int .i64 5,.int .i64 a,.int .i64 b,.string tx,.bool fl] 46)∧W0.heap[w.heap.size + 1 + 1]?=some (.cells #[.int .i64 0,.int .i64 0,.slice none 0 0] 29)):=by
    rw [hW0]; exact ⟨(three_rows (Below.refl _ _)).2.1,(three_rows (Below.refl _ _)).2.2,three_r3 _ _ _ _⟩
  have HD:Hid (Calls Tryz.prog 41 #[rlV E B (.slice P n c1),.int .i64 a,.int .i64 b] W0 fun e w'=>∃ P' n' c',e=.returned (.tuple #[rlV E B (.slice P' n' c'),.int .i64 cd])∧Below W0.heap.size W0 w'):=by
    have hz:=HZ0.out
    have hgl:=row_lt hL.hd
    have hrl:=row_lt hL.rw_
    refine (hD W0 (hR.on HB0.out)).mono ?_
    rintro e w' ⟨v',M',rfl,h1,h2⟩
    obtain ⟨P',c',rfl⟩:=h1.form
    exact ⟨P',_,c',rfl,h2⟩
  have HP:Hid _:=hP
  have HNU:Hid _:=num_any cp
  obtain ⟨bb,hbb⟩:∃ bb,(cp == cd)=bb:=⟨_,rfl⟩
  clear hD hP hL hR
  go_enter Tryz.func21,Tryz.ntmps21
  go_wp2_with fail
  rw [← hW0]
  clear hW0
  refine (show Calls _ _ _ _ _ from HD.out).mono ?_
  rintro e w1 ⟨P',n',c',rfl,hb1⟩
  have HB1:Hid (Below W0.heap.size W0 w1):=hb1
  obtain ⟨o0,o1,o2,o3,o4,of⟩:=row5 (keep_row HR0.out.2.1 hb1)
  obtain ⟨W2,hW2⟩:∃ W2,W2=w1.alloc (.cells #[.int .i64 (E:Int),.int .i64 (B:Int),.slice P' n' c'] 29):=⟨_,rfl⟩
  have hb2:Below w1.heap.size w1 W2:=by rw [hW2]; exact (Below.refl _ _).alloc (Nat.le_refl _) _
  have HB2:Hid (Below w.heap.size w W2):=bel_to (bel_to HB0.out hb1 (Nat.le_refl _)) hb2 (Nat.le_refl _)
  have HZ2:Hid (W2.heap[w.heap.size + 1 + 1]?=some (.cells #[.int .i64 0,.int .i64 0,.slice none 0 0] 29)):=keep_row (keep_row HR0.out.2.2 hb1) hb2
  have HO2:Hid (W2.heap[w.heap.size + 1]?=some (.cells #[.int .i64 5,.int .i64 a,.int .i64 b,.string tx,.bool fl] 46)):=keep_row (keep_row HR0.out.2.1 hb1) hb2
  have HX2:Hid (W2.heap[w1.heap.size]?=some (.cells #[.int .i64 (E:Int),.int .i64 (B:Int),.slice P' n' c'] 29)):=by show _=_; rw [hW2]; exact one_alloc _ _
  have HS1:Hid (w.heap.size ≤ w1.heap.size):=(bel_to HB0.out hb1 (Nat.le_refl _)).size
  clear hb1 hb2
  obtain ⟨kx,hkx⟩:∃ kx,w1.heap.size=kx:=⟨_,rfl⟩
  go_wp2_with fail
  rw [← hW2]
  try rw [hkx]
  rw [hkx] at HX2 HS1
  have HNE:Hid (kx ≠ w.heap.size + 1 + 1):=by
    have h1:=HZ0.out
    have h2:=HB1.out.size
    rw [hkx] at h2
    show _ ≠ _
    omega
  clear hW2 hkx o0 o1 o2 o3 o4 of
  have HSA:Hid (∀ W:World,W.heap[w.heap.size + 1]?=some (.cells #[.int .i64 5,.int .i64 a,.int .i64 b,.string tx,.bool fl] 46) → W.heap[kx]?=some (.cells #[.int .i64 (E:Int),.int .i64 (B:Int),.slice P' n' c'] 29) → W.cell? ⟨kx,0,none⟩=some (.int .i64 (E:Int))∧W.cell? ⟨kx,1,none⟩=some (.int .i64 (B:Int))∧W.cell? ⟨kx,2,none⟩=some (.slice P' n' c')∧W.cell? ⟨w.heap.size + 1,1,none⟩=some (.int .i64 a)∧W.cell? ⟨w.heap.size + 1,2,none⟩=some (.int .i64 b)∧W.cell? ⟨w.heap.size + 1,3,none⟩=some (.string tx)∧W.cell? ⟨w.heap.size + 1,4,none⟩=some (.bool fl)):=fun W h1 h2=>by
    obtain ⟨o0,o1,o2,o3,o4,of⟩:=row5 h1
    obtain ⟨x0,x1,x2,xf⟩:=row3 h2
    exact ⟨x0,x1,x2,o1,o2,o3,o4⟩
  have hS0:=HSA.out W2 HO2.out HX2.out
  have hS1:=HSA.out W2.drew HO2.out HX2.out
  have HSC:Hid (∀ W:World,Chg W2.drew W b0 g r c rest nv E B N' → (W.cell? ⟨kx,0,none⟩=some (.int .i64 (E:Int))∧W.cell? ⟨kx,1,none⟩=some (.int .i64 (B:Int))∧W.cell? ⟨kx,2,none⟩=some (.slice P' n' c')∧W.cell? ⟨w.heap.size + 1,1,none⟩=some (.int .i64 a)∧W.cell? ⟨w.heap.size + 1,2,none⟩=some (.int .i64 b)∧W.cell? ⟨w.heap.size + 1,3,none⟩=some (.string tx)∧W.cell? ⟨w.heap.size + 1,4,none⟩=some (.bool fl))∧W.heap[w.heap.size + 1 + 1]?=some (.cells #[.int .i64 0,.int .i64 0,.slice none 0 0] 29)):=fun W hc=>by
    exact ⟨HSA.out W (hc.blk HL.out (Nat.le_succ _) (show W2.drew.heap[w.heap.size + 1]?=_ from HO2.out)) (hc.blk HL.out HS1.out (show W2.drew.heap[kx]?=_ from HX2.out)),hc.blk HL.out (Nat.le_trans (Nat.le_succ _) (Nat.le_succ _)) (show W2.drew.heap[w.heap.size + 1 + 1]?=_ from HZ2.out)⟩
  have HSD:Hid (∀ (W:World) (v0 v1 v2:Value),(W.cell? ⟨kx,0,none⟩=some (.int .i64 (E:Int))∧W.cell? ⟨kx,1,none⟩=some (.int .i64 (B:Int))∧W.cell? ⟨kx,2,none⟩=some (.slice P' n' c')∧W.cell? ⟨w.heap.size + 1,1,none⟩=some (.int .i64 a)∧W.cell? ⟨w.heap.size + 1,2,none⟩=some (.int .i64 b)∧W.cell? ⟨w.heap.size + 1,3,none⟩=some (.string tx)∧W.cell? ⟨w.heap.size + 1,4,none⟩=some (.bool fl)) → kx ≠ w.heap.size + 1 + 1 → (fun W:World=>W.cell? ⟨kx,0,none⟩=some (.int .i64 (E:Int))∧W.cell? ⟨kx,1,none⟩=some (.int .i64 (B:Int))∧W.cell? ⟨kx,2,none⟩=some (.slice P' n' c')∧W.cell? ⟨w.heap.size + 1,1,none⟩=some (.int .i64 a)∧W.cell? ⟨w.heap.size + 1,2,none⟩=some (.int .i64 b)∧W.cell? ⟨w.heap.size + 1,3,none⟩=some (.string tx)∧W.cell? ⟨w.heap.size + 1,4,none⟩=some (.bool fl)) (((W.setCell ⟨w.heap.size + 1 + 1,0,none⟩ v0).setCell ⟨w.heap.size + 1 + 1,1,none⟩ v1).setCell ⟨w.heap.size + 1 + 1,2,none⟩ v2)):=fun W v0 v1 v2 h hne=>by
    have ho:=(((Only.refl W (w.heap.size + 1 + 1)).set 0 v0).set 1 v1).set 2 v2
    obtain ⟨q0,q1,q2,q3,q4,q5,q6⟩:=h
    have e1:=ho.other kx hne
    have e2:=ho.other (w.heap.size + 1) (by omega)
    exact ⟨(World.cell?_of_block (a:=⟨kx,0,none⟩) e1).trans q0,(World.cell?_of_block (a:=⟨kx,1,none⟩) e1).trans q1,(World.cell?_of_block (a:=⟨kx,2,none⟩) e1).trans q2,(World.cell?_of_block (a:=⟨w.heap.size + 1,1,none⟩) e2).trans q3,(World.cell?_of_block (a:=⟨w.heap.size + 1,2,none⟩) e2).trans q4,(World.cell?_of_block (a:=⟨w.heap.size + 1,3,none⟩) e2).trans q5,(World.cell?_of_block (a:=⟨w.heap.size + 1,4,none⟩) e2).trans q6⟩
  go_region_held3 (fun W:World=>W.cell? ⟨kx,0,none⟩=some (.int .i64 (E:Int))∧W.cell? ⟨kx,1,none⟩=some (.int .i64 (B:Int))∧W.cell? ⟨kx,2,none⟩=some (.slice P' n' c')∧W.cell? ⟨w.heap.size + 1,1,none⟩=some (.int .i64 a)∧W.cell? ⟨w.heap.size + 1,2,none⟩=some (.int .i64 b)∧W.cell? ⟨w.heap.size + 1,3,none⟩=some (.string tx)∧W.cell? ⟨w.heap.size + 1,4,none⟩=some (.bool fl))
    (first | with_reducible exact hS0 | with_reducible exact hS1 | with_reducible exact hS5 | with_reducible exact HSD.out _ _ _ _ hS5 HNE.out)
    (first | (go_at_call 42; refine (show Calls _ _ _ _ _ from HP.out _ HB2.out.drew).mono ?_; rintro e a5 ⟨rfl,hc5⟩; obtain ⟨hS5,hz5⟩:=HSC.out _ hc5; obtain ⟨z0,z1,z2,zf⟩:=row3 hz5))
  have HC5:Hid (Chg W2.drew a5 b0 g r c rest nv E B N'):=hc5
  have HZ5:Hid (a5.heap[w.heap.size + 1 + 1]?=some (.cells #[.int .i64 0,.int .i64 0,.slice none 0 0] 29)):=hz5
  have HG:Hid _:=heap_set3 a5 (w.heap.size + 1 + 1) 29 _ _ _ (.int .i64 (E:Int)) (.int .i64 (B:Int)) (.slice P' n' c') hz5
  clear hS0 hS1 hS5 hc5 hz5
  go_wp2
  obtain ⟨g0,g1,g2,gf⟩:=row3 HG.out.1
  refine bodyPost_ret (v:=.tuple #[rlV E B (.slice P' n' c'),.bool bb]) (by simp [results,Tryz.results21,go_sem,g0,g1,g2]) rfl ⟨_,_,rfl,chg_fin _ _ _ HL.out HB2.out.drew HC5.out (by omega) (row_lt HZ2.out) HZ5.out⟩
end
end Go.Proofs.YtjnbjfjoejfmpaaGreatDoor
