import Derived.Test.YtjnbjfjoejfmpaaGreatDoorSKs
import Derived.Test.YtjnbjfjoejfmpaaGreatDoorWBB
import Derived.Test.YtjnbjfjoejfmpaaGreatDoorStJ1
import Derived.Test.YtjnbjfjoejfmpaaGreatDoorWBC
import Derived.Test.YtjnbjfjoejfmpaaGreatDoorWBA
import Derived.Test.YtjnbjfjoejfmpaaGreatDoorWBD
import Derived.Test.YtjnbjfjoejfmpaaGreatDoorWBF
import Derived.Test.YtjnbjfjoejfmpaaGreatDoorWAT
import Derived.Test.YtjnbjfjoejfmpaaGreatDoorWAY
import Derived.Test.YtjnbjfjoejfmpaaGreatDoorRRa
import Derived.Test.YtjnbjfjoejfmpaaGreatDoorWBG
import Derived.Test.YtjnbjfjoejfmpaaGreatDoorWAV
import Derived.Test.YtjnbjfjoejfmpaaGreatDoorWAZ
import Derived.Deep.RegionHeld3
import Derived.Deep.Cut
import Derived.Deep.CutRange
namespace Go.Proofs.YtjnbjfjoejfmpaaGreatDoor
open Go.RowKit Go.Shelf
set_option linter.unusedVariables false
set_option linter.unusedSimpArgs false
theorem fndQ_clamp (L:List ByteArray) (s:ByteArray) (i:Nat) (hi:i < L.length) (st:Int):fndQ L s (i:Int) st=fndQ L s (i:Int) (max (-(L.length:Int)) (min st (L.length:Int))):=by
  by_cases h:-(L.length:Int) ≤ st∧st ≤ (L.length:Int)
  · rw [show max (-(L.length:Int)) (min st (L.length:Int))=st by omega]
  · have h0:st ≠ 0:=by omega
    have h1:max (-(L.length:Int)) (min st (L.length:Int)) ≠ 0:=by omega
    by_cases he:L[i]=s
    · rw [fndQ_hit L s st h0 i hi he,fndQ_hit L s _ h1 i hi he]
    · rw [fndQ_miss L s st h0 i hi he,fndQ_miss L s _ h1 i hi he,fndQ_out _ _ _ _ (by omega),fndQ_out _ _ _ _ (by omega)]
theorem fndV_form (o:Option Int):∃ a b,fndV o=.tuple #[.int .i64 a,.bool b]:=by
  cases o with
  | none=>exact ⟨0,false,rfl⟩
  | some i=>exact ⟨i,true,rfl⟩
section
variable {b0 g r c:Nat} {rest:List Value} {nv:Value} {E B:Nat} {N:QM.NL}
set_option maxHeartbeats 1000000 in
set_option maxRecDepth 100000 in
theorem Find_no (s:ByteArray) (fr st:Int) (hn:¬ (0 ≤ fr∧fr < (N.flatten.length:Int)) ∨ st=0) (w:World) (h:LS w b0 g r c rest nv E B (nds B N)) :
    Calls Tryz.prog 47 #[ptr g,.string s,.int .i64 fr,.int .i64 st] w fun e w'=>e=.returned (.tuple #[.int .i64 0,.bool false])∧w'=w:=by
  have HHA:Hid (Calls Tryz.prog 79 #[ptr g,.int .i64 fr] w fun e w'=>e=.returned (.bool (hasQ N.flatten.length fr))∧w'=w):=by
    have:=has_any fr w h
    rw [cnt_nds] at this; exact this
  clear h
  by_cases hh:0 ≤ fr∧fr < (N.flatten.length:Int)
  · have h0:st=0:=by rcases hn with h | h; exact absurd hh h; exact h
    have e1:hasQ N.flatten.length fr=true:=by unfold hasQ; exact decide_eq_true hh
    rw [e1] at HHA
    subst h0
    clear hn hh e1
    go_enter Tryz.func47,Tryz.ntmps47
    go_wp2_with fail
    refine (show Calls _ _ _ _ _ from HHA.out).mono ?_
    rintro e w1 ⟨rfl,rfl⟩
    go_wp2
    go_returns
    exact ⟨rfl,rfl⟩
  · have e1:hasQ N.flatten.length fr=false:=by unfold hasQ; exact decide_eq_false hh
    rw [e1] at HHA
    clear hn hh e1
    go_enter Tryz.func47,Tryz.ntmps47
    go_wp2_with fail
    refine (show Calls _ _ _ _ _ from HHA.out).mono ?_
    rintro e w1 ⟨rfl,rfl⟩
    go_wp2
    go_returns
    exact ⟨rfl,rfl⟩
set_option maxHeartbeats 1000000 in
set_option maxRecDepth 100000 in
theorem Find_yes (s:ByteArray) (i0:Nat) (hi0:i0 < N.flatten.length) (st:Int) (hst:st ≠ 0) (hsb:-9223372036854775808 ≤ st∧st ≤ 9223372036854775807) (hl:N.flatten.length ≤ 1000) (hI:QM.Inv E B N) (w:World) (hw:Lay w) (h:LS w b0 g r c rest nv E B (nds B N)) :
    Calls Tryz.prog 47 #[ptr g,.string s,.int .i64 (i0:Int),.int .i64 st] w fun e w'=>e=.returned (fndV (fndQ N.flatten s (i0:Int) st))∧Below w.heap.size w w':=by
  have HHA:Hid (Calls Tryz.prog 79 #[ptr g,.int .i64 (i0:Int)] w fun e w'=>e=.returned (.bool true)∧w'=w):=by
    have:=has_any (i0:Int) w h
    have e1:hasQ (cntN (nds B N)) (i0:Int)=true:=by unfold hasQ; rw [cnt_nds]; exact decide_eq_true ⟨by omega,by omega⟩
    rw [e1] at this; exact this
  obtain ⟨st',hst'⟩:∃ st',max (-(N.flatten.length:Int)) (min st (N.flatten.length:Int))=st':=⟨_,rfl⟩
  have HSE:Hid (∀ W,Below w.heap.size w W → Calls Tryz.prog 86 #[ptr g,.string s,.int .i64 (i0:Int),.int .i64 st'] W fun e w'=>e=.returned (fndV (fndQ N.flatten s (i0:Int) st))∧Below W.heap.size W w'):=fun W hW=>by
    rw [fndQ_clamp N.flatten s i0 hi0 st,hst']
    exact seek_any i0 hi0 s st' (by omega) (by omega) hl hI W (hw.on hW) (h.on hW)
  obtain ⟨l0,l1,l2,l3,lf⟩:=lrow4 h.hd
  rw [cnt_nds] at l2
  obtain ⟨fa,fb,hab⟩:=fndV_form (fndQ N.flatten s (i0:Int) st)
  rw [hab] at HSE ⊢
  obtain ⟨F,hF⟩:∃ F,N.flatten.length=F:=⟨_,rfl⟩
  rw [hF] at l2 hst' hl
  have hng:IntKind.i64.wrap (-(F:Int))=-(F:Int):=by rw [IntKind.wrap_i64] <;> omega
  have hne:(st == 0)=false:=by simpa using hst
  have HD:Hid (Below w.heap.size w w.drew):=(Below.refl _ _).drew
  obtain ⟨mn,hmn⟩:∃ mn,min st (F:Int)=mn:=⟨_,rfl⟩
  rw [hmn] at hst'
  clear h hw hF hi0 hsb
  go_enter Tryz.func47,Tryz.ntmps47
  go_wp2_with fail
  refine (show Calls _ _ _ _ _ from HHA.out).mono ?_
  rintro e w1 ⟨rfl,rfl⟩
  go_wp2_with fail
  go_region
  all_goals
    go_wp2_with fail
    refine (show Calls _ _ _ _ _ from HSE.out _ HD.out).mono ?_
    rintro e w2 ⟨rfl,hb2⟩
    have HB2:Hid _:=bel_to HD.out hb2 (Nat.le_refl _)
    clear hb2
    go_wp2
    go_returns
    exact ⟨rfl,HB2.out⟩
end
end Go.Proofs.YtjnbjfjoejfmpaaGreatDoor
namespace Go.Proofs.YtjnbjfjoejfmpaaGreatDoor
open Go.RowKit
set_option linter.unusedVariables false
set_option linter.unusedSimpArgs false
def opN (E B:Nat) (kd a b:Int) (tx:ByteArray) (fl:Bool) (N:QM.NL):QM.NL:=
  if kd=1 then (if tx.size ≤ 524288 then QM.push E B N tx fl else N)
  else if kd=2 then (if N.flatten.length=0 then N else QM.delE N (if fl then 0 else N.flatten.length - 1) ((if fl then 0 else N.flatten.length - 1) + 1))
  else if kd=3 then (if (0 ≤ a∧a ≤ (N.flatten.length:Int))∧tx.size ≤ 524288 then (if a.toNat < N.flatten.length then QM.ins E B N a.toNat tx else QM.push E B N tx false) else N)
  else if kd=4 then (if (0 ≤ a∧a < (N.flatten.length:Int))∧tx.size ≤ 524288 then QM.setQ B N a.toNat tx else N)
  else if kd=5 then (if (0 ≤ a∧a < (N.flatten.length:Int))∧1 ≤ b then QM.delE N a.toNat (a.toNat + min b.toNat (N.flatten.length - a.toNat)) else N)
  else N
theorem good_id2 {E B:Nat} {N:QM.NL} (hI:QM.Inv E B N):QM.Good E B N N:=⟨hI,by omega⟩
theorem opN_good {E B:Nat} {N:QM.NL} (hI:QM.Inv E B N) (kd a b:Int) (tx:ByteArray) (fl:Bool):QM.Good E B N (opN E B kd a b tx fl N):=by
  unfold opN
  split
  · split
    · exact QM.push_good hI tx ‹_› fl
    · exact good_id2 hI
  split
  · split
    · exact good_id2 hI
    · exact QM.del_good hI _ _ (by omega)
  split
  · split
    · rename_i h
      split
      · exact QM.ins_good hI _ ‹_› tx h.2
      · exact QM.push_good hI tx h.2 false
    · exact good_id2 hI
  split
  · split
    · rename_i h
      exact QM.set_good hI _ (by omega) tx h.2
    · exact good_id2 hI
  split
  · split
    · exact QM.del_good hI _ _ (by omega)
    · exact good_id2 hI
  · exact good_id2 hI
theorem rl_nil {ok:Nat → Prop} (w:World):RL ok w (.slice none 0 0) []:=⟨[],Or.inl ⟨rfl,rfl⟩,trivial⟩
section
variable {b0 g r c:Nat} {rest:List Value} {nv:Value} {E B:Nat} {N:QM.NL}
theorem refJ {F:Nat} {args:Array Value} {code:Int} (h:∀ W,Calls Tryz.prog F args W fun e w'=>e=.returned (.tuple #[rlV E B (.slice none 0 0),.int .i64 code])∧Below W.heap.size W w') :
    ∀ W,RL (fun _=>True) W (.slice none 0 0) [] → Calls Tryz.prog F args W fun e w'=>∃ v' M',e=.returned (.tuple #[rlV E B v',.int .i64 code])∧RL (fun _=>True) w' v' M'∧Below W.heap.size W w':=fun W _ =>
  (h W).mono (fun e w' q=>⟨_,_,q.1,rl_nil _,q.2⟩)
theorem progJ {F:Nat} {args:Array Value} {v:Value} {w:World} (hL:LS w b0 g r c rest nv E B (nds B N)) (h:∀ W,LS W b0 g r c rest nv E B (nds B N) → Calls Tryz.prog F args W fun e w'=>e=.returned v∧w'=W) :
    ∀ W,Below w.heap.size w W → Calls Tryz.prog F args W fun e w'=>e=.returned v∧Chg W w' b0 g r c rest nv E B N:=fun W hW =>
  (h W (hL.on hW)).mono (fun e w' q=>⟨q.1,by rw [q.2]; exact Chg.of_bel (hL.on hW) (Below.refl _ _)⟩)
theorem srowO {w:World} {v:Value} {b m:Nat} {R:List ByteArray} (h:w.ownsRow b 9 1 v m (strV R)) (hm:m=R.length):SRow w v R:=(DRow.of_own (ok:=fun _=>True) h (by rw [hm]; simp) (fun _ _=>trivial)).srow
set_option maxHeartbeats 1000000 in
theorem stepJ_any (kd a b:Int) (tx:ByteArray) (fl:Bool) (ha:-9223372036854775808 ≤ a∧a ≤ 9223372036854775807) (hb:-9223372036854775808 ≤ b∧b ≤ 9223372036854775807) (hs2:tx.size ≤ 281474976710656) (w00 w:World) (hw:Lay w00) (hbb:Below w00.heap.size w00 w) (hbz:w00.heap.size ≤ b0) (hl:N.flatten.length ≤ 1000) (hI:QM.Inv E B N) (hL:LS w b0 g r c rest nv E B (nds B N)) :
    Calls Tryz.prog 21 #[ptr g,rlV E B (.slice none 0 0),.agg #[.int .i64 kd,.int .i64 a,.int .i64 b,.string tx,.bool fl]] w fun e w'=>∃ v bb,e=.returned (.tuple #[v,.bool bb])∧Chg w w' b0 g r c rest nv E B (opN E B kd a b tx fl N):=by
  have hln:N.length ≤ 1000:=Nat.le_trans (QM.len_le hI.some) hl
  have hLay:∀ W,Below w.heap.size w W → Lay W:=fun W hW=>hw.on (bel_to hbb hW (Nat.le_refl _))
  have hE0:QM.Inv E B []:=QM.Inv.empty hI.le hI.lb
  have hR:RL (fun _=>True) w (.slice none 0 0) []:=rl_nil w
  have n0:(([]:QM.NL).flatten.length:Nat) ≤ 1000:=by simp
  have n1:(([]:QM.NL).length:Nat) ≤ 1000:=by simp
  have no:∀ i:Int,¬ (0 ≤ i∧i < ((([]:QM.NL).flatten.length:Nat):Int)):=fun i h=>by simp at h; omega
  by_cases k1:kd=1
  · subst k1
    by_cases hs:tx.size ≤ 524288
    · have e:opN E B 1 a b tx fl N=QM.push E B N tx fl:=by simp [opN,hs]
      rw [e]
      exact stepJ_1 a b tx fl 0 0 _ _ w hL hR (fun W h=>(rpush_any E B _ [] tx fl hE0 n0 hs W (fun _ _=>trivial) h).mono (fun e w' ⟨v',q1,q2,q3⟩=>⟨v',_,q1,q2,q3⟩)) (fun W hW=>Push_any fl tx hs hl hI W (hLay W hW) (hL.on hW))
    · have e:opN E B 1 a b tx fl N=N:=by simp [opN,hs]
      rw [e]
      exact stepJ_1 a b tx fl 2 2 N _ w hL hR (refJ (fun W=>rpush_no E B _ [] tx fl n0 n1 (by omega) W (rl_nil (ok:=fun _=>True) W))) (progJ hL (fun W h=>Push_no fl tx (by omega) hs2 W h))
  by_cases k2:kd=2
  · subst k2
    by_cases h0:N.flatten.length=0
    · have e:opN E B 2 a b tx fl N=N:=by simp only [opN,h0]; rfl
      rw [e]
      exact stepJ_2 a b tx fl _ _ _ _ _ _ rfl rfl N _ w hL hR (fun W h=>(rpop_no E B _ [] fl (by simp) n1 W h).mono (fun e w' q=>⟨_,_,q.1,rl_nil _,q.2⟩)) (fun W hW=>(Pop_no fl h0 W (hL.on hW)).mono (fun e w' q=>⟨q.1,Chg.of_bel (hL.on hW) q.2⟩))
    · obtain ⟨i,hfi⟩:∃ i,i=if fl then 0 else N.flatten.length - 1:=⟨_,rfl⟩
      have hi:i < N.flatten.length:=by rw [hfi]; split <;> omega
      have e:opN E B 2 a b tx fl N=QM.delE N i (i + 1):=by simp only [opN,h0,hfi]; rfl
      rw [e]
      exact stepJ_2 a b tx fl _ _ _ _ _ _ rfl rfl _ _ w hL hR (fun W h=>(rpop_no E B _ [] fl (by simp) n1 W h).mono (fun e w' q=>⟨_,_,q.1,rl_nil _,q.2⟩)) (fun W hW=>Pop_yes fl i hi hfi hl hI w00 W hw (bel_to hbb hW (Nat.le_refl _)) hbz (hL.on hW))
  by_cases k3:kd=3
  · subst k3
    have hD:∃ cd:Int,∀ W,RL (fun _=>True) W (.slice none 0 0) [] → Calls Tryz.prog 37 #[rlV E B (.slice none 0 0),.int .i64 a,.string tx] W fun e w'=>∃ v' M',e=.returned (.tuple #[rlV E B v',.int .i64 cd])∧RL (fun _=>True) w' v' M'∧Below W.heap.size W w':=by
      by_cases h0:a=0
      · subst h0
        by_cases hs:tx.size ≤ 524288
        · exact ⟨0,fun W h=>(rins_end E B _ [] 0 tx (by simp) hE0 hs n0 W (fun _ _=>trivial) h).mono (fun e w' ⟨v',q1,q2,q3⟩=>⟨v',_,q1,q2,q3⟩)⟩
        · exact ⟨2,refJ (fun W=>rins_long E B _ [] 0 tx (by simp) (by omega) n0 n1 W (rl_nil (ok:=fun _=>True) W))⟩
      · exact ⟨1,refJ (fun W=>rins_no E B _ [] a tx (by simp; omega) n0 n1 W (rl_nil (ok:=fun _=>True) W))⟩
    obtain ⟨cd,hD⟩:=hD
    by_cases hin:0 ≤ a∧a ≤ (N.flatten.length:Int)
    · obtain ⟨i,rfl⟩:∃ i:Nat,a=(i:Int):=⟨a.toNat,by omega⟩
      by_cases hs:tx.size ≤ 524288
      · by_cases hi:i < N.flatten.length
        · have e:opN E B 3 (i:Int) b tx fl N=QM.ins E B N i tx:=by
            unfold opN
            rw [if_neg (by omega),if_neg (by omega),if_pos rfl,if_pos ⟨hin,hs⟩,if_pos (by simpa using hi)]; rfl
          rw [e]
          exact stepJ_3 _ b tx fl cd 0 _ _ w hL hR hD (fun W hW=>Insert_yes i hi tx hs hl hI W (hLay W hW) (hL.on hW))
        · have hie:i=N.flatten.length:=by omega
          have e:opN E B 3 (i:Int) b tx fl N=QM.push E B N tx false:=by
            unfold opN
            rw [if_neg (by omega),if_neg (by omega),if_pos rfl,if_pos ⟨hin,hs⟩,if_neg (by simpa using hi)]
          rw [e]
          exact stepJ_3 _ b tx fl cd 0 _ _ w hL hR hD (fun W hW=>Insert_end _ (by omega) tx W (hL.on hW) (Push_any false tx hs hl hI W (hLay W hW) (hL.on hW)))
      · have e:opN E B 3 (i:Int) b tx fl N=N:=by
          unfold opN
          rw [if_neg (by omega),if_neg (by omega),if_pos rfl,if_neg (fun h=>hs h.2)]
        rw [e]
        refine stepJ_3 _ b tx fl cd 2 N _ w hL hR hD (progJ hL (fun W h=>?_))
        by_cases hi:i < N.flatten.length
        · exact Insert_long i hi tx (by omega) hs2 W h
        · exact Insert_end (v:=.int .i64 2) (Z:=fun w'=>w'=W) _ (by omega) tx W h (Push_no false tx (by omega) hs2 W h)
    · have e:opN E B 3 a b tx fl N=N:=by
        unfold opN
        rw [if_neg (by omega),if_neg (by omega),if_pos rfl,if_neg (fun h=>hin h.1)]
      rw [e]
      exact stepJ_3 a b tx fl cd 1 N _ w hL hR hD (progJ hL (fun W h=>Insert_no a hin tx W h))
  by_cases k4:kd=4
  · subst k4
    have hD:∀ W,RL (fun _=>True) W (.slice none 0 0) [] → Calls Tryz.prog 39 #[rlV E B (.slice none 0 0),.int .i64 a,.string tx] W fun e w'=>∃ v' M',e=.returned (.tuple #[rlV E B v',.int .i64 1])∧RL (fun _=>True) w' v' M'∧Below W.heap.size W w':=refJ (fun W=>rset_no E B _ [] a tx (no a) n0 n1 W (rl_nil (ok:=fun _=>True) W))
    by_cases hin:0 ≤ a∧a < (N.flatten.length:Int)
    · obtain ⟨i,rfl⟩:∃ i:Nat,a=(i:Int):=⟨a.toNat,by omega⟩
      have hi:i < N.flatten.length:=by omega
      by_cases hs:tx.size ≤ 524288
      · have e:opN E B 4 (i:Int) b tx fl N=QM.setQ B N i tx:=by
          unfold opN
          rw [if_neg (by omega),if_neg (by omega),if_neg (by omega),if_pos rfl,if_pos ⟨hin,hs⟩]; rfl
        rw [e]
        exact stepJ_4 _ b tx fl 1 0 _ _ w hL hR hD (fun W hW=>Set_yes i hi hl tx hs hI W (hLay W hW) (hL.on hW))
      · have e:opN E B 4 (i:Int) b tx fl N=N:=by
          unfold opN
          rw [if_neg (by omega),if_neg (by omega),if_neg (by omega),if_pos rfl,if_neg (fun h=>hs h.2)]
        rw [e]
        exact stepJ_4 _ b tx fl 1 2 N _ w hL hR hD (progJ hL (fun W h=>Set_long i hi tx (by omega) hs2 W h))
    · have e:opN E B 4 a b tx fl N=N:=by
        unfold opN
        rw [if_neg (by omega),if_neg (by omega),if_neg (by omega),if_pos rfl,if_neg (fun h=>hin h.1)]
      rw [e]
      exact stepJ_4 a b tx fl 1 1 N _ w hL hR hD (progJ hL (fun W h=>Set_no a hin tx W h))
  by_cases k5:kd=5
  · subst k5
    have hD:∀ W,RL (fun _=>True) W (.slice none 0 0) [] → Calls Tryz.prog 41 #[rlV E B (.slice none 0 0),.int .i64 a,.int .i64 b] W fun e w'=>∃ v' M',e=.returned (.tuple #[rlV E B v',.int .i64 0])∧RL (fun _=>True) w' v' M'∧Below W.heap.size W w':=refJ (fun W=>rdel_no E B _ [] a b (Or.inl (no a)) n0 n1 W (rl_nil (ok:=fun _=>True) W))
    by_cases hin:(0 ≤ a∧a < (N.flatten.length:Int))∧1 ≤ b
    · obtain ⟨i,rfl⟩:∃ i:Nat,a=(i:Int):=⟨a.toNat,by omega⟩
      obtain ⟨n,rfl⟩:∃ n:Nat,b=(n:Int):=⟨b.toNat,by omega⟩
      have hi:i < N.flatten.length:=by omega
      have e:opN E B 5 (i:Int) (n:Int) tx fl N=QM.delE N i (i + min n (N.flatten.length - i)):=by
        unfold opN
        rw [if_neg (by omega),if_neg (by omega),if_neg (by omega),if_neg (by omega),if_pos rfl,if_pos hin]; rfl
      rw [e]
      exact stepJ_5 _ _ tx fl 0 _ _ _ w hL hR hD (fun W hW=>Delete_yes i hi n (by omega) (by omega) hl hI w00 W hw (bel_to hbb hW (Nat.le_refl _)) hbz (hL.on hW))
    · have hno:¬ (0 ≤ a∧a < (N.flatten.length:Int)) ∨ b < 1:=by
        by_cases h:0 ≤ a∧a < (N.flatten.length:Int)
        · right
          rcases Int.lt_or_le b 1 with h1 | h1
          · exact h1
          · exact absurd ⟨h,h1⟩ hin
        · exact Or.inl h
      have e:opN E B 5 a b tx fl N=N:=by
        unfold opN
        rw [if_neg (by omega),if_neg (by omega),if_neg (by omega),if_neg (by omega),if_pos rfl,if_neg hin]
      rw [e]
      exact stepJ_5 a b tx fl 0 0 N _ w hL hR hD (progJ hL (fun W h=>Delete_nil a b hno W h))
  have e:opN E B kd a b tx fl N=N:=by
    unfold opN
    rw [if_neg k1,if_neg k2,if_neg k3,if_neg k4,if_neg k5]
  rw [e]
  by_cases k6:kd=6
  · subst k6
    have hD:∀ W,RL (fun _=>True) W (.slice none 0 0) [] → Calls Tryz.prog 43 #[rlV E B (.slice none 0 0),.int .i64 a] W fun e w'=>e=.returned (.tuple #[.string ⟨#[]⟩,.bool false])∧Below W.heap.size W w':=fun W h=>rat_no E B _ [] a (no a) n0 n1 W h
    by_cases hin:0 ≤ a∧a < (N.flatten.length:Int)
    · obtain ⟨i,rfl⟩:∃ i:Nat,a=(i:Int):=⟨a.toNat,by omega⟩
      have hi:i < N.flatten.length:=by omega
      exact stepJ_6 _ b tx fl _ _ _ _ _ _ rfl rfl _ w hL hR hD (fun W hW=>At_yes i hi hl hI W (hLay W hW) (hL.on hW))
    · exact stepJ_6 a b tx fl _ _ _ _ _ _ rfl rfl _ w hL hR hD (fun W hW=>At_no a hin W (hL.on hW))
  by_cases k7:kd=7
  · subst k7
    have hrl:(rngQ N.flatten a b).length ≤ 1000:=by unfold rngQ; rw [List.length_drop,List.length_take]; omega
    have hrl0:(rngQ ([]:QM.NL).flatten a b).length ≤ 1000:=by unfold rngQ; simp
    refine stepJ_7 a b tx fl (rngQ ([]:QM.NL).flatten a b) (rngQ N.flatten a b) hrl0 hrl _ w hL hR (fun W h=>(rrange_any E B _ [] a b hb n0 n1 W h).mono (fun e w' ⟨v',h1,h2,h3⟩=>⟨v',h1,srowO h2 rfl,h3⟩)) (fun W hW=>?_)
    by_cases hno:min b ((N.flatten.length:Int) - 1) < max a 0
    · refine (Range_no a b hb hl hno W (hL.on hW)).mono (fun e w' q=>⟨_,q.1,?_,q.2⟩)
      rw [rng_nil N.flatten a b hno]
      exact Or.inl ⟨rfl,_,_,rfl⟩
    · obtain ⟨y,hy⟩:∃ y:Nat,max a 0=(y:Int):=⟨(max a 0).toNat,by omega⟩
      obtain ⟨z,hz⟩:∃ z:Nat,min b ((N.flatten.length:Int) - 1)=(z:Int):=⟨(min b ((N.flatten.length:Int) - 1)).toNat,by omega⟩
      refine (Range_yes a b y z hy hz (by omega) hl hI W (hLay W hW) (hL.on hW)).mono (fun e w' ⟨v',h1,h2,h3⟩=>⟨v',h1,?_,h3⟩)
      rw [rng_cl N.flatten a b y z hy hz]
      exact srowO h2 (by rw [List.length_drop,List.length_take]; omega)
  by_cases k8:kd=8
  · subst k8
    have hD:∀ W,RL (fun _=>True) W (.slice none 0 0) [] → Calls Tryz.prog 46 #[rlV E B (.slice none 0 0),.string tx,.int .i64 a,.int .i64 b] W fun e w'=>e=.returned (.tuple #[.int .i64 0,.bool false])∧Below W.heap.size W w':=fun W h=>by
      have:=rfind_any E B _ [] tx a b hb n0 n1 W h
      rw [fndQ_out _ _ _ _ (no a)] at this
      exact this
    by_cases hin:(0 ≤ a∧a < (N.flatten.length:Int))∧b ≠ 0
    · obtain ⟨i,rfl⟩:∃ i:Nat,a=(i:Int):=⟨a.toNat,by omega⟩
      obtain ⟨fa,fb,hab⟩:=fndV_form (fndQ N.flatten tx (i:Int) b)
      exact stepJ_8 _ b tx fl _ _ _ _ _ _ rfl rfl _ w hL hR hD (fun W hW=>by
        have:=Find_yes tx i (by omega) b hin.2 hb hl hI W (hLay W hW) (hL.on hW)
        rw [hab] at this; exact this)
    · have hno:¬ (0 ≤ a∧a < (N.flatten.length:Int)) ∨ b=0:=by
        by_cases h:0 ≤ a∧a < (N.flatten.length:Int)
        · right
          by_cases h1:b=0
          · exact h1
          · exact absurd ⟨h,h1⟩ hin
        · exact Or.inl h
      exact stepJ_8 a b tx fl _ _ _ _ _ _ rfl rfl _ w hL hR hD (fun W hW=>(Find_no tx a b hno W (hL.on hW)).mono (fun e w' q=>⟨q.1,by rw [q.2]; exact Below.refl _ _⟩))
  exact stepJ_0 kd a b tx fl _ w hL hR (fun j h1 h2 e=>by omega)
end
end Go.Proofs.YtjnbjfjoejfmpaaGreatDoor
namespace Go.Proofs.YtjnbjfjoejfmpaaGreatDoor
open Go.RowKit
set_option linter.unusedVariables false
set_option linter.unusedSimpArgs false
section
variable {b0 g r c:Nat} {rest:List Value} {nv:Value} {E B:Nat} {N:QM.NL}
theorem LS.fr {w w':World} {S:Nat → Prop} (h:LS w b0 g r c rest nv E B (nds B N)) (hf:Fr w w' S) (hg:¬ S g) (hr:¬ S r) (hn:∀ Y,nv.ownBlock=some Y → ¬ S Y):LS w' b0 g r c rest nv E B (nds B N):=
  ⟨(hf.block g (row_lt h.hd) hg).trans h.hd,(hf.block r (row_lt h.rw_) hr).trans h.rw_,h.nd.same (fun Y hY=>hf.block Y (h.own_lt Y hY) (hn Y hY)),h.hg,h.hr⟩
structure PJ (W0 W:World) (kd g r c:Nat) (rest:List Value) (nv:Value) (E B i:Nat) (N:QM.NL):Prop where
  row:W.heap[kd]?=some (.cells #[.int .i64 (E:Int),.int .i64 (B:Int),.slice none 0 0] 29)
  ls:LS W W0.heap.size g r c rest nv E B (nds B N)
  kg:kd ≠ g
  kr:kd ≠ r
  ko:nv.ownBlock ≠ some kd
  inv:QM.Inv E B N
  len:N.flatten.length ≤ i
  bel:Below W0.heap.size W0 W
variable {W0 W:World} {kd i:Nat}
theorem PJ.on {W':World} (h:PJ W0 W kd g r c rest nv E B i N) (hb:Below W.heap.size W W'):PJ W0 W' kd g r c rest nv E B i N:=
  ⟨keep_row h.row hb,h.ls.on hb,h.kg,h.kr,h.ko,h.inv,h.len,bel_to h.bel hb (Nat.le_refl _)⟩
theorem PJ.fst {w1 W3:World} (h1:LS w1 W0.heap.size g r c rest (.slice none 0 0) E B (nds B [])) (hb:Below W0.heap.size W0 w1) (hb2:Below w1.heap.size w1 W3) (hk:w1.heap.size ≤ kd) (hr:W3.heap[kd]?=some (.cells #[.int .i64 (E:Int),.int .i64 (B:Int),.slice none 0 0] 29)) (hI:QM.Inv E B []):PJ W0 W3 kd g r c rest (.slice none 0 0) E B 0 []:=by
  have hg:=row_lt h1.hd
  have hr':=row_lt h1.rw_
  exact ⟨hr,h1.on hb2,by omega,by omega,by simp [Value.ownBlock],hI,Nat.le_refl _,bel_to hb hb2 (Nat.le_refl _)⟩
theorem PJ.step {Wo a1 Wx:World} {N':QM.NL} (h:PJ W0 W kd g r c rest nv E B i N) (ho:Below W.heap.size W Wo) (hB:Chg Wo a1 W0.heap.size g r c rest nv E B N') (hG:QM.Good E B N N') (hx:Below a1.heap.size a1 Wx) :
    ∃ nv',PJ W0 Wx kd g r c rest nv' E B (i + 1) N':=by
  have h2:=h.on ho
  have hbel:=Chg.bel h2.ls hB h2.bel (Nat.le_refl _)
  obtain ⟨nv',q1,q2,q3⟩:=hB
  have hlt:=row_lt h2.row
  have hr1:a1.heap[kd]?=some (.cells #[.int .i64 (E:Int),.int .i64 (B:Int),.slice none 0 0] 29):=by
    refine (q2.block kd hlt ?_).trans h2.row
    rintro (e | e | e)
    · exact h.kg e
    · exact h.kr e
    · exact h.ko e
  have hko:nv'.ownBlock ≠ some kd:=fun hY=>by
    rcases q3 kd hY with q | q
    · exact h.ko q
    · omega
  have h1:PJ W0 a1 kd g r c rest nv' E B (i + 1) N':=⟨hr1,q1,h.kg,h.kr,hko,hG.inv,by have:=hG.len; have:=h.len; omega,hbel⟩
  exact ⟨nv',h1.on hx⟩
end
theorem vals_itsOf (X:List ByteArray):valsOf (itsOf X)=X:=by
  unfold valsOf itsOf
  rw [List.map_map]
  conv=>rhs; rw [← List.map_id X]
  refine List.map_congr_left (fun x _=>?_)
  show strB (LM.val (LM.itemOf x.data.toList))=id x
  rw [LM.val_itemOf,bytes_ext (strB_list x.data.toList)]; rfl
theorem rwalkN (X:List ByteArray) (hX:Fit X) (w:World):Calls Tryz.prog 22 #[.string (packN X),.bool false] w fun e w'=>∃ P c,e=.returned (.tuple #[.slice P X.length c,.int .i64 0])∧w'.ownsRow w.heap.size 9 1 (.slice P X.length c) X.length (strV X)∧Below w.heap.size w w':=by
  have hp:=hX.pk
  refine (rWalk_any (packN X) (by have:=hp.size; rw [list_len] at this; omega) false w).mono ?_
  rintro e w' ⟨⟨l,v,hl,rfl,ho⟩ | ⟨hn,_⟩,hb⟩
  · have e1:=hl.uniq hp
    subst e1
    rw [its_len,if_neg (by simp),vals_itsOf] at ho
    obtain ⟨P,c,rfl⟩:=own_form ho
    exact ⟨P,c,rfl,ho,hb⟩
  · exact absurd hp (hn _)
end Go.Proofs.YtjnbjfjoejfmpaaGreatDoor
namespace Go.Proofs.YtjnbjfjoejfmpaaGreatDoor
open Go.RowKit
set_option linter.unusedVariables false
set_option linter.unusedSimpArgs false
theorem LS.own_ge {b0 g r c:Nat} {rest:List Value} {nv:Value} {E B:Nat} {N:QM.NL} {w:World} (h:LS w b0 g r c rest nv E B (nds B N)) (Y:Nat) (hY:nv.ownBlock=some Y):b0 ≤ Y:=by
  rcases h.nd with ⟨e,_⟩ | ⟨E2,c2,e,hb,hN⟩
  · rw [e] at hY; simp [Value.ownBlock] at hY
  · have:E2=Y:=by rw [e] at hY; simpa [Value.ownBlock] using hY
    omega
section
variable {gq rq cq gr rr cr:Nat} {restq restr:List Value} {nvq nvr:Value} {E B:Nat} {N N1:QM.NL} {w5 w6 w7 a1 a2:World}
theorem sepJ (hq:LS w6 w5.heap.size gq rq cq restq nvq E B (nds B N)) (hr:LS w7 w6.heap.size gr rr cr restr nvr E B (nds B N)) (h56:Below w5.heap.size w5 w6) (h67:Below w6.heap.size w6 w7) (hc:Chg w7 a1 w5.heap.size gq rq cq restq nvq E B N1) :
    LS a1 w6.heap.size gr rr cr restr nvr E B (nds B N)∧Below w5.heap.size w5 a1:=by
  have hb:=Chg.bel (hq.on h67) hc (bel_to h56 h67 (Nat.le_refl _)) (Nat.le_refl _)
  obtain ⟨nv',q1,q2,q3⟩:=hc
  have g1:=row_lt hq.hd
  have g2:=row_lt hq.rw_
  have g3:=hr.hg
  have g4:=hr.hr
  refine ⟨hr.fr q2 ?_ ?_ ?_,hb⟩
  · rintro (e | e | e)
    · omega
    · omega
    · have:=hq.own_lt gr e; omega
  · rintro (e | e | e)
    · omega
    · omega
    · have:=hq.own_lt rr e; omega
  · intro Y hY
    have g5:=hr.own_ge Y hY
    rintro (e | e | e)
    · omega
    · omega
    · have:=hq.own_lt Y e; omega
theorem sepK (hq:LS w6 w5.heap.size gq rq cq restq nvq E B (nds B N)) (hr:LS w7 w6.heap.size gr rr cr restr nvr E B (nds B N)) (h56:Below w5.heap.size w5 w6) (h67:Below w6.heap.size w6 w7) (hc:Chg w7 a1 w5.heap.size gq rq cq restq nvq E B N1) (hc2:Chg a1 a2 w6.heap.size gr rr cr restr nvr E B N1) :
    (∃ nv',LS a2 w5.heap.size gq rq cq restq nv' E B (nds B N1))∧(∃ nv',LS a2 w6.heap.size gr rr cr restr nv' E B (nds B N1))∧Below w5.heap.size w5 a2:=by
  obtain ⟨hr1,hb1⟩:=sepJ hq hr h56 h67 hc
  have hb:=Chg.bel hr1 hc2 hb1 h56.size
  obtain ⟨nv',q1,q2,q3⟩:=hc
  obtain ⟨nv2,p1,p2,p3⟩:=hc2
  have g1:=row_lt hq.hd
  have g2:=row_lt hq.rw_
  have g3:=hr.hg
  have g4:=hr.hr
  have g6:=row_lt hr.hd
  have g7:=row_lt hr.rw_
  refine ⟨⟨nv',q1.fr p2 ?_ ?_ ?_⟩,⟨nv2,p1⟩,hb⟩
  · rintro (e | e | e)
    · omega
    · omega
    · have:=hr.own_ge gq e; omega
  · rintro (e | e | e)
    · omega
    · omega
    · have:=hr.own_ge rq e; omega
  · intro Y hY
    rcases q3 Y hY with h | h
    · have g8:=hq.own_lt Y h
      rintro (e | e | e)
      · omega
      · omega
      · have:=hr.own_ge Y e; omega
    · rintro (e | e | e)
      · omega
      · omega
      · have:=hr.own_lt Y e; omega
end
section
variable {b0 g r c:Nat} {rest:List Value} {nv:Value} {E B:Nat} {N:QM.NL}
theorem rangeAll (hl:N.flatten.length ≤ 1000) (hI:QM.Inv E B N) (w:World) (hw:Lay w) (h:LS w b0 g r c rest nv E B (nds B N)):Calls Tryz.prog 23 #[ptr g,.int .i64 0,.int .i64 1073741824] w fun e w'=>∃ P k,e=.returned (.slice P N.flatten.length k)∧SRow w' (.slice P N.flatten.length k) N.flatten∧Below w.heap.size w w':=by
  by_cases hno:min (1073741824:Int) ((N.flatten.length:Int) - 1) < max 0 0
  · have h0:N.flatten=[]:=List.length_eq_zero_iff.1 (by omega)
    refine (Range_no 0 1073741824 (by omega) hl hno w h).mono (fun e w' q=>⟨none,0,?_,?_,q.2⟩)
    · rw [h0]; exact q.1
    · rw [h0]; exact Or.inl ⟨rfl,_,_,rfl⟩
  · obtain ⟨z,hz⟩:∃ z:Nat,min (1073741824:Int) ((N.flatten.length:Int) - 1)=(z:Int):=⟨(min (1073741824:Int) ((N.flatten.length:Int) - 1)).toNat,by omega⟩
    refine (Range_yes 0 1073741824 0 z (by omega) hz (by omega) hl hI w hw h).mono (fun e w' ⟨v',h1,h2,h3⟩=>?_)
    have e1:(N.flatten.take (z + 1)).drop 0=N.flatten:=by rw [List.drop_zero,List.take_of_length_le (by omega)]
    have hs:SRow w' v' N.flatten:=by
      have:=srowO h2 (by rw [List.length_drop,List.length_take]; omega)
      rw [e1] at this; exact this
    obtain ⟨P,k,hf⟩:=hs.form
    subst hf
    exact ⟨P,k,h1,hs,h3⟩
theorem nodesS (hl:N.length ≤ 1000) (hI:QM.Inv E B N) (w:World) (h:LS w b0 g r c rest nv E B (nds B N)):Calls Tryz.prog 13 #[ptr g] w fun e w'=>∃ P k,e=.returned (.slice P N.length k)∧w'.ownsRow w.heap.size 9 1 (.slice P N.length k) N.length (pkV N)∧SRow w' (.slice P N.length k) (N.map packN)∧Below w.heap.size w w':=by
  refine (nodesN_any hl hI w h).mono ?_
  rintro e w' ⟨v,rfl,ho,hb⟩
  obtain ⟨P,c,rfl⟩:=own_form ho
  refine ⟨P,c,rfl,ho,?_,hb⟩
  rw [pkV_str] at ho
  exact (DRow.of_own (ok:=fun _=>True) ho (by simp [strV]) (fun _ _=>trivial)).srow
theorem nds_size (hI:QM.Inv E B N):∀ n ∈ nds B N,n.1.size ≤ 281474976710656:=fun n hn=>by
  obtain ⟨x,hx,rfl⟩:=List.mem_map.1 hn
  exact pk_size (fit_node hI hx).pk
end
end Go.Proofs.YtjnbjfjoejfmpaaGreatDoor
namespace Go.Proofs.YtjnbjfjoejfmpaaGreatDoor
open Go.RowKit
set_option linter.unusedVariables false
set_option linter.unusedSimpArgs false
theorem app_strV (a b:List ByteArray):strV (a ++ b)=strV a ++ strV b:=by simp [strV]
set_option maxHeartbeats 12000000 in
set_option maxRecDepth 100000 in
theorem Short_yes (E B:Nat) (hm:mayB (E:Int) (B:Int)=true) (ad:Option Addr) (len cap G off:Nat) (had:len ≠ 0 → ad=some ⟨G,off,none⟩) (hlen:len ≤ 9223372036854775807) (lk la lb:Int) (lt:ByteArray) (lf:Bool) (hlt:lt.size ≤ 140737488351232) (hla:i64B la) (hlb:i64B lb) (w:World) (hops:∀ i,i < len → ∃ o,OpAt w G off i o) (hw:Lay w) :
    Calls Tryz.prog 8 #[.agg #[.int .i64 (E:Int),.int .i64 (B:Int),.slice ad len cap],.agg #[.int .i64 lk,.int .i64 la,.int .i64 lb,.string lt,.bool lf]] w fun r w'=>r=.returned (.bool true)∧Below w.heap.size w w':=by
  obtain ⟨W0,hW0⟩:∃ W0,W0=(w.alloc (.cells #[.int .i64 (E:Int),.int .i64 (B:Int),.slice ad len cap] 42)).alloc (.cells #[.int .i64 lk,.int .i64 la,.int .i64 lb,.string lt,.bool lf] 46):=⟨_,rfl⟩
  have HB0:Hid (Below w.heap.size w W0):=by show Below _ _ _; rw [hW0]; exact ((Below.refl _ _).alloc (Nat.le_refl _) _).alloc (by simp) _
  have HR0:Hid (W0.heap[w.heap.size]?=some (.cells #[.int .i64 (E:Int),.int .i64 (B:Int),.slice ad len cap] 42)∧W0.heap[w.heap.size + 1]?=some (.cells #[.int .i64 lk,.int .i64 la,.int .i64 lb,.string lt,.bool lf] 46)):=by
    rw [hW0]; obtain ⟨_,q2,q3⟩:=two_rows (Below.refl ((w.alloc (.cells #[.int .i64 (E:Int),.int .i64 (B:Int),.slice ad len cap] 42)).alloc (.cells #[.int .i64 lk,.int .i64 la,.int .i64 lb,.string lt,.bool lf] 46)).heap.size _); exact ⟨q2,q3⟩
  have HW:Hid (Lay w):=hw
  have HI0:Hid (QM.Inv E B []):=by
    have h:=hm
    unfold mayB at h; simp at h
    exact QM.Inv.empty (by omega) (by omega)
  have HLB:Hid (E ≤ 4096∧B ≤ 4096):=⟨HI0.out.le.2,HI0.out.lb⟩
  have HMB:Hid _:=hm
  have HN:Hid _:=New_yes E B hm W0
  have HRN:Hid _:=rnew_yes E B hm
  have HNU:Hid (∀ W,Calls Tryz.prog 11 #[.int .i64 0] W fun e w'=>e=.returned (.int .i64 0)∧w'=W):=fun W=>num_any 0 W
  have HOP:Hid (∀ i,i < len → ∃ o,OpAt w G off i o):=hops
  have HAD:Hid (len ≠ 0 → ad=some ⟨G,off,none⟩):=had
  have HLA:Hid (lt.size ≤ 140737488351232∧i64B la∧i64B lb):=⟨hlt,hla,hlb⟩
  clear hw hm hops had hlt hla hlb
  obtain ⟨c0,c1,c2,cf⟩:=row3 HR0.out.1
  go_enter Tryz.func8,Tryz.ntmps8
  go_upto_region 1 with fail
  rw [← hW0]
  clear hW0
  obtain ⟨cb,hcb⟩:∃ cb,w.heap.size=cb:=⟨_,rfl⟩
  rw [hcb] at c0 c1 c2 cf HR0 ⊢
  have HCB:Hid (w.heap.size=cb):=hcb
  clear hcb
  go_wp2_with fail
  refine (show Calls _ _ _ _ _ from HN.out).mono ?_
  rintro e1 w1 ⟨g,r,rfl,hL1,hb1⟩
  have HX1:Hid (Below W0.heap.size W0 w1):=hb1
  have HL1:Hid _:=hL1
  clear c0 c1 c2 cf hL1
  obtain ⟨c0,c1,c2,cf⟩:=row3 (keep_row HR0.out.1 hb1)
  clear hb1
  go_wp2_with fail
  refine (show Calls _ _ _ _ _ from HNU.out _).mono ?_
  rintro e3 w3 ⟨rfl,hw3⟩
  have hw3':=hw3.symm; subst hw3'
  go_wp2_with fail
  refine (show Calls _ _ _ _ _ from HRN.out _).mono ?_
  rintro e2 w2 ⟨rfl,hb2⟩
  clear c0 c1 c2 cf
  obtain ⟨W3,hW3⟩:∃ W3,W3=w2.alloc (.cells #[.int .i64 (E:Int),.int .i64 (B:Int),.slice none 0 0] 29):=⟨_,rfl⟩
  have HP3:Hid (PJ W0 W3 w2.heap.size g r 1 [] (.slice none 0 0) E B 0 []):=PJ.fst HL1.out HX1.out (bel_to hb2 (by rw [hW3]; exact (Below.refl _ _).alloc (Nat.le_refl _) _) (Nat.le_refl _)) hb2.size (by rw [hW3]; exact one_alloc _ _) HI0.out
  clear hb2
  go_upto_region 5 with fail
  rw [← hW3]
  clear hW3
  obtain ⟨kd,hkd⟩:∃ kd,w2.heap.size=kd:=⟨_,rfl⟩
  rw [hkd] at HP3 ⊢
  clear hkd
  go_wp2
  go_loopw [9] (fun ci wr=>∃ (i:Nat) (nv:Value) (N:QM.NL),i ≤ 150∧ci=.int .i64 (i:Int)∧PJ W0 wr kd g r 1 [] nv E B i N) (fun ci _=>150 - (intOf ci).toNat)
  case atStart=>exact ⟨0,_,[],by omega,rfl,HP3.out⟩
  case round =>
    obtain ⟨i,nv,N,hi,rfl,hP⟩:=hrel
    have HP:Hid (PJ W0 wr kd g r 1 [] nv E B i N):=hP
    have HBw:Hid (Below w.heap.size w wr):=bel_to HB0.out hP.bel (Nat.le_refl _)
    obtain ⟨c0,c1,c2,cf⟩:=row3 (keep_row HR0.out.1 hP.bel)
    clear hP
    by_cases hlt:i < len∧i < 150
    · obtain ⟨h1,h2⟩:=hlt
      have hae:=HAD.out (by omega)
      subst hae
      obtain ⟨o,hop⟩:=HOP.out i h1
      have HOK:Hid (o.t.size ≤ 140737488351232∧i64B o.a∧i64B o.b):=⟨hop.t,hop.a,hop.b⟩
      have HOA:Hid (OpAt w G off i o):=hop
      obtain ⟨ok,oa,ob,ot,of⟩:=o
      simp only at HOK
      have hi1:(i:Int) < (len:Int):=by omega
      have hi2:(i:Int) < 150:=by omega
      have hi0:(0:Int) ≤ (i:Int):=by omega
      have hiw:IntKind.i64.wrap ((i:Int) + 1)=(i:Int) + 1:=by rw [IntKind.wrap_i64] <;> omega
      have HKS:Hid (∀ W:World,Below wr.heap.size wr W → W.cell? ⟨kd,0,none⟩=some (.int .i64 (E:Int))∧W.cell? ⟨kd,1,none⟩=some (.int .i64 (B:Int))∧W.cell? ⟨kd,2,none⟩=some (.slice none 0 0)∧W.cell? ⟨cb,2,none⟩=some (.slice (some ⟨G,off,none⟩) len cap)∧W.cell? ⟨G,off + i * 5,none⟩=some (.int .i64 ok)∧W.cell? ⟨G,off + i * 5 + 1,none⟩=some (.int .i64 oa)∧W.cell? ⟨G,off + i * 5 + 2,none⟩=some (.int .i64 ob)∧W.cell? ⟨G,off + i * 5 + 3,none⟩=some (.string ot)∧W.cell? ⟨G,off + i * 5 + 4,none⟩=some (.bool of)):=fun W hW=>by
        have q:=HP.out.on hW
        obtain ⟨e0,e1,e2,_⟩:=row3 q.row
        obtain ⟨k0,k1,k2,_⟩:=row3 (keep_row HR0.out.1 q.bel)
        obtain ⟨d0,d1,d2,d3,d4⟩:=(HOA.out.keep (bel_to HB0.out q.bel (Nat.le_refl _))).c5
        exact ⟨e0,e1,e2,k2,d0,d1,d2,d3,d4⟩
      have HKC:Hid (∀ (W:World) (nv':Value) (N':QM.NL),PJ W0 W kd g r 1 [] nv' E B (i + 1) N' → W.cell? ⟨kd,0,none⟩=some (.int .i64 (E:Int))∧W.cell? ⟨kd,1,none⟩=some (.int .i64 (B:Int))∧W.cell? ⟨kd,2,none⟩=some (.slice none 0 0)∧W.cell? ⟨cb,2,none⟩=some (.slice (some ⟨G,off,none⟩) len cap)∧W.cell? ⟨G,off + i * 5,none⟩=some (.int .i64 ok)∧W.cell? ⟨G,off + i * 5 + 1,none⟩=some (.int .i64 oa)∧W.cell? ⟨G,off + i * 5 + 2,none⟩=some (.int .i64 ob)∧W.cell? ⟨G,off + i * 5 + 3,none⟩=some (.string ot)∧W.cell? ⟨G,off + i * 5 + 4,none⟩=some (.bool of)):=fun W nv' N' q=>by
        obtain ⟨e0,e1,e2,_⟩:=row3 q.row
        obtain ⟨k0,k1,k2,_⟩:=row3 (keep_row HR0.out.1 q.bel)
        obtain ⟨d0,d1,d2,d3,d4⟩:=(HOA.out.keep (bel_to HB0.out q.bel (Nat.le_refl _))).c5
        exact ⟨e0,e1,e2,k2,d0,d1,d2,d3,d4⟩
      have HST:Hid (Calls Tryz.prog 21 #[ptr g,rlV E B (.slice none 0 0),.agg #[.int .i64 ok,.int .i64 oa,.int .i64 ob,.string ot,.bool of]] wr.drew fun e w'=>∃ v bb nv' N',e=.returned (.tuple #[v,.bool bb])∧PJ W0 w' kd g r 1 [] nv' E B (i + 1) N'):=by
        have q:=HP.out.on (Below.refl _ _).drew
        refine (stepJ_any ok oa ob ot of HOK.out.2.1 HOK.out.2.2 (Nat.le_trans HOK.out.1 (by omega)) W0 wr.drew (HW.out.on HB0.out) q.bel (Nat.le_refl _) (by have:=q.len; omega) q.inv q.ls).mono ?_
        rintro e w' ⟨v,bb,rfl,hc⟩
        obtain ⟨nv',hp⟩:=HP.out.step (Below.refl _ _).drew hc (opN_good q.inv ok oa ob ot of) (Below.refl _ w')
        exact ⟨v,bb,nv',_,rfl,hp⟩
      have hS0:=HKS.out wr (Below.refl _ _)
      have hSd:=HKS.out wr.drew (Below.refl _ _).drew
      clear hop hlen h1
      go_upto_region 8 with fail
      go_region_held3 (fun W:World=>W.cell? ⟨kd,0,none⟩=some (.int .i64 (E:Int))∧W.cell? ⟨kd,1,none⟩=some (.int .i64 (B:Int))∧W.cell? ⟨kd,2,none⟩=some (.slice none 0 0)∧W.cell? ⟨cb,2,none⟩=some (.slice (some ⟨G,off,none⟩) len cap)∧W.cell? ⟨G,off + i * 5,none⟩=some (.int .i64 ok)∧W.cell? ⟨G,off + i * 5 + 1,none⟩=some (.int .i64 oa)∧W.cell? ⟨G,off + i * 5 + 2,none⟩=some (.int .i64 ob)∧W.cell? ⟨G,off + i * 5 + 3,none⟩=some (.string ot)∧W.cell? ⟨G,off + i * 5 + 4,none⟩=some (.bool of))
        (first | with_reducible exact hS0 | with_reducible exact hSd | with_reducible exact hS5)
        (first | (go_at_call 21; refine (show Calls _ _ _ _ _ from HST.out).mono ?_; rintro e5 a5 ⟨v5,b5,nv',N',rfl,hp5⟩; have hS5:=HKC.out _ _ _ hp5))
      have HP5:Hid (PJ W0 a5 kd g r 1 [] nv' E B (i + 1) N'):=hp5
      clear hS0 hSd hS5 hp5 c0 c1 c2 cf
      go_wp2
      exact ⟨⟨i + 1,nv',N',h2,by congr 1,HP5.out⟩,by simp [intOf]; omega⟩
    · go_upto_region 6 with fail
      go_cut [71] from 63 to 70 (fun s71 wx=>s71=.bool false∧wx=wr)
      case first =>
        rcases Nat.lt_or_ge i len with hl | hl
        · have hi1:(i:Int) < (len:Int):=by omega
          have hi2:¬ (i:Int) < 150:=by omega
          go_wp2
          go_meet
          exact ⟨rfl,rfl⟩
        · have hi1:¬ (i:Int) < (len:Int):=by omega
          go_wp2
          go_meet
          exact ⟨rfl,rfl⟩
      case rest =>
        obtain ⟨rfl,rfl⟩:=hcut
        have HIN:Hid (QM.Inv E B N):=HP.out.inv
        have HFL:Hid (N.flatten.length ≤ 150):=Nat.le_trans HP.out.len hi
        have hfl:=HFL.out
        have HNL:Hid (N.length ≤ 150):=Nat.le_trans (QM.len_le HIN.out.some) hfl
        obtain ⟨n,hn⟩:∃ n,N.length=n:=⟨_,rfl⟩
        have HNN:Hid (N.length=n):=hn
        have HNO:Hid _:=nodesS (by have:=HNL.out; omega) HIN.out wc HP.out.ls
        have hn150:n ≤ 150:=by have:=HNL.out; omega
        rw [hn] at HNO
        clear hn hlt hlen c0 c1 c2 cf
        go_wp2_with fail
        refine (show Calls _ _ _ _ _ from HNO.out).mono ?_
        rintro e4 w4 ⟨Pn,cn,rfl,hown,hsr,hb4⟩
        have HOW:Hid (w4.ownsRow wc.heap.size 9 1 (.slice Pn n cn) n (pkV N)):=hown
        have HSR:Hid (SRow w4 (.slice Pn n cn) (N.map packN)):=hsr
        have HX4:Hid (Below wc.heap.size wc w4):=hb4
        clear hown hsr hb4
        have HNC:Hid (∀ j (hj:j < N.length),∃ Y,Pn=some ⟨Y,0,none⟩∧w4.cell? ⟨Y,j,none⟩=some (.string (packN N[j]))):=fun j hj=>by
          have h1:=HNN.out
          obtain ⟨gl,cap9,cur9,hv9,hb9,hr9,hc9⟩:=own_addr HOW.out (by omega)
          injection hv9 with e1 e2 e3
          exact ⟨gl,e1,hc9 j _ (by rw [pkV_str]; simp [strV,hj])⟩
        go_wp2
        go_loopw [11,12] (fun ca cj wx=>∃ (j:Nat) (Pa:Option Addr) (ka:Nat),j ≤ n∧cj=.int .i64 (j:Int)∧ca=.slice Pa ((N.take j).flatten.length) ka∧wx.ownsRow w4.heap.size 9 1 (.slice Pa (N.take j).flatten.length ka) (N.take j).flatten.length (strV (N.take j).flatten)∧Below w4.heap.size w4 wx) (fun _ cj _=>n - (intOf cj).toNat)
        case atStart=>exact ⟨0,none,0,by omega,rfl,rfl,⟨rfl,Or.inl ⟨rfl,rfl⟩⟩,Below.refl _ _⟩
        case round =>
          obtain ⟨j,Pa,ka,hj,rfl,rfl,hoa,hbx⟩:=hrel
          obtain ⟨wj,hwj⟩:∃ wj,wj=wr:=⟨_,rfl⟩
          subst hwj
          have HOA:Hid _:=hoa
          have HBX:Hid (Below w4.heap.size w4 wj):=hbx
          have HB4:Hid (Below W0.heap.size W0 wj):=bel_to (bel_to HP.out.bel HX4.out (Nat.le_refl _)) hbx (Nat.le_refl _)
          by_cases hlt:j < n
          · have hjx:j < N.length:=by rw [HNN.out]; exact hlt
            obtain ⟨Y,hY,y0⟩:=HNC.out j hjx
            subst hY
            have y0:=cell_on y0 hbx
            have hxm:N[j] ∈ N:=List.getElem_mem _
            have hX:=fit_node HIN.out hxm
            have HRW:Hid _:=rwalkN N[j] hX wj
            have hm1:1 ≤ N[j].length:=List.length_pos_iff.2 (HIN.out.some _ hxm)
            have hm2:=HIN.out.few _ hxm
            have HAL:Hid _:=HIN.out.alone _ hxm
            have HSH:Hid _:=HIN.out.short _ hxm
            have HTK:Hid ((N.take (j + 1)).flatten=(N.take j).flatten ++ N[j]):=by show _=_; rw [List.take_succ_eq_append_getElem hjx,List.flatten_append]; simp
            have HTL:Hid ((N.take (j + 1)).flatten.length ≤ 150):=Nat.le_trans (take_flat N (j + 1)) HFL.out
            obtain ⟨X,hXe⟩:∃ X,N[j]=X:=⟨_,rfl⟩
            rw [hXe] at y0 HRW hm1 hm2 HAL HSH HTK
            obtain ⟨m,hm⟩:∃ m,X.length=m:=⟨_,rfl⟩
            have HM:Hid (X.length=m):=hm
            rw [hm] at HRW hm1 hm2 HAL
            obtain ⟨A,hA⟩:∃ A,(N.take j).flatten=A:=⟨_,rfl⟩
            rw [hA] at HOA HTK ⊢
            obtain ⟨la',hla'⟩:∃ la',A.length=la':=⟨_,rfl⟩
            have HLA':Hid (A.length=la'):=hla'
            rw [hla'] at HOA ⊢
            have hsum:la' + m ≤ 150:=by have h1:=HTL.out; rw [HTK.out,List.length_append,hm,hla'] at h1; exact h1
            have hz0:(0:Int) ≤ (j:Int):=by omega
            have hz1:(j:Int) < (n:Int):=by omega
            have hjw:IntKind.i64.wrap ((j:Int) + 1)=(j:Int) + 1:=by rw [IntKind.wrap_i64] <;> omega
            have hq1:¬ ((m:Int) < 1):=by omega
            have hq2:¬ ((m:Int) > (E:Int)):=by omega
            have hd1:decide ((m:Int) < 1)=false:=by simpa using hq1
            have hd2:decide (E < m)=false:=by simp; omega
            have HTF:Hid ((N.take (j + 1)).flatten=A ++ X):=HTK.out
            clear hoa hbx hxm hX hXe hm hA hla' HTK HTL
            go_wp2_with fail
            refine (show Calls _ _ _ _ _ from HRW.out).mono ?_
            rintro e5 w5 ⟨Px,kx,rfl,hox,hb5⟩
            have HOX:Hid (w5.ownsRow wj.heap.size 9 1 (.slice Px m kx) m (strV X)):=hox
            have HB5:Hid (Below wj.heap.size wj w5):=hb5
            have HBC:Hid (Below W0.heap.size W0 w5):=bel_to HB4.out hb5 (Nat.le_refl _)
            obtain ⟨c0,c1,c2,cf⟩:=row3 (keep_row HR0.out.1 HBC.out)
            clear hox hb5 y0
            go_wp2
            clear hq1 hq2 hm1 hm2 hd1 hd2
            go_loopw [15] (fun ck wy=>∃ k:Nat,k ≤ m∧ck=.int .i64 (k:Int)∧Below w5.heap.size w5 wy) (fun ck _=>m - (intOf ck).toNat)
            case atStart=>exact ⟨0,by omega,rfl,Below.refl _ _⟩
            case round =>
              obtain ⟨k,hk,rfl,hby⟩:=hrel
              obtain ⟨wk,hwk⟩:∃ wk,wk=wr:=⟨_,rfl⟩
              subst hwk
              have HBY:Hid _:=hby
              have d1:=cell_on c1 hby
              clear c0 c1 c2 cf
              by_cases hkm:k < m
              · have hkx:k < X.length:=by rw [HM.out]; exact hkm
                obtain ⟨gl,cap9,cur9,hv9,hb9,hr9,hc9⟩:=own_addr HOX.out (by omega)
                injection hv9 with e1 e2 e3
                subst e1
                have y1:=cell_on (hc9 k (.string X[k]) (by simp [strV,hkx])) hby
                have hka:=HAL.out X[k] (List.getElem_mem _)
                have hks:=HSH.out X[k] (List.getElem_mem _)
                have hz2:(0:Int) ≤ (k:Int):=by omega
                have hz3:(k:Int) < (m:Int):=by omega
                have hkw:IntKind.i64.wrap ((k:Int) + 1)=(k:Int) + 1:=by rw [IntKind.wrap_i64] <;> omega
                generalize X[k]=T at *
                clear hc9 hr9 hb9 e2 e3 hby
                by_cases hbig:B < T.size
                · have hone:=hka hbig
                  have hg1:(T.size:Int) > (B:Int):=by omega
                  have hg2:¬ ((m:Int) > 1):=by omega
                  clear hka hone
                  go_wp2_with fail
                  go_quiet (fail)
                  have HQ:Hid _:=below_dn HBY.out nq
                  go_wp2
                  go_roundw
                  case rel=>exact ⟨k + 1,hkm,by congr 1,HQ.out⟩
                  case measure=>simp [intOf]; omega
                · have hg1:¬ ((T.size:Int) > (B:Int)):=by omega
                  clear hka
                  go_wp2_with fail
                  go_quiet (fail)
                  have HQ:Hid _:=below_dn HBY.out nq
                  go_wp2
                  go_roundw
                  case rel=>exact ⟨k + 1,hkm,by congr 1,HQ.out⟩
                  case measure=>simp [intOf]; omega
              · have hz3:¬ ((k:Int) < (m:Int)):=by omega
                have hw6:Below wj.heap.size wj wk:=bel_to HB5.out hby (Nat.le_refl _)
                have HBK:Hid (Below w4.heap.size w4 wk):=bel_to HBX.out hw6 (Nat.le_refl _)
                have HOK2:Hid (wk.ownsRow w4.heap.size 9 1 (.slice Pa la' ka) la' (strV A)):=own_on HOA.out hw6
                have HDX:Hid (DRow (fun _=>True) wk (.slice Px m kx) (strV X)):=DRow.of_own (own_on HOX.out hby) (by simp [strV,HM.out]) (fun _ _=>trivial)
                have HXL:Hid ((strV X).length=m):=by show _=_; simp [strV,HM.out]
                clear hby hw6 d1
                go_wp2_with (at_builtin; go_must (refine app_str rfl _ _ rfl w4.heap.size (.slice Pa la' ka) la' (strV A) rfl HOK2.out (.slice Px m kx) (strV X) rfl HDX.out ?p0 (la' + m) ?p1 ?p2 HBK.out.size ?_))
                case p0=>intro u hu; first | rfl | (obtain ⟨x,_,rfl⟩:=List.mem_map.1 hu; rfl)
                case p1=>first | exact HM.out.symm | rw [HXL.out] | (rw [HM.out])
                case p2=>omega
                intro v7 w7 ho7 hg7
                have HB7:Hid (Below w4.heap.size w4 w7):=HBK.out.grown hg7 HBK.out.size (fun q hq=>(World.ownsRow.lt HOK2.out q hq).1)
                obtain ⟨P7,k7,hf7⟩:=own_form ho7
                subst hf7
                have HO7:Hid (w7.ownsRow w4.heap.size 9 1 (.slice P7 (la' + m) k7) (la' + m) (strV (A ++ X))):=by show World.ownsRow _ _ _ _ _ _ _; rw [app_strV]; exact ho7
                have HLS:Hid ((N.take (j + 1)).flatten.length=la' + m):=by show _=_; rw [HTF.out,List.length_append,HLA'.out,HM.out]
                clear ho7 hg7
                go_wp2
                exact ⟨⟨j + 1,P7,k7,hlt,by congr 1,by rw [HLS.out],by rw [HLS.out,HTF.out]; exact HO7.out,HB7.out⟩,by simp [intOf]; omega⟩
          · have hz1:¬ ((j:Int) < (n:Int)):=by omega
            have hje:j=n:=by omega
            have htk:N.take j=N:=by rw [hje,← HNN.out,List.take_length]
            rw [htk] at HOA ⊢
            obtain ⟨LF,hLF⟩:∃ LF,N.flatten.length=LF:=⟨_,rfl⟩
            have HLF:Hid (N.flatten.length=LF):=hLF
            have HPj:Hid (PJ W0 wj kd g r 1 [] nv E B i N):=(HP.out.on HX4.out).on hbx
            have HLj:Hid (∀ W,Below wj.heap.size wj W → Lay W):=fun W hW=>HW.out.on (bel_to (bel_to HB0.out HB4.out (Nat.le_refl _)) hW (Nat.le_refl _))
            have HRA:Hid _:=rangeAll (by omega) HIN.out wj (HLj.out wj (Below.refl _ _)) HPj.out.ls
            have HSA:Hid (SRow wj (.slice Pa LF ka) N.flatten):=by have:=srowO hoa rfl; rw [htk,hLF] at this; exact this
            rw [hLF] at HRA HOA hfl ⊢
            have hsame:((LF:Int) == (LF:Int))=true:=by simp
            clear hoa hbx hLF hj
            go_wp2_with fail
            refine (show Calls _ _ _ _ _ from HRA.out).mono ?_
            rintro e5 w5 ⟨Pr,kr,rfl,hsr,hb5⟩
            have HB5:Hid (Below wj.heap.size wj w5):=hb5
            have HSM:Hid _:=same_eq (R:=N.flatten) (by rw [HLF.out]; omega) w5 (.slice Pa LF ka) (.slice Pr LF kr) (HSA.out.on hb5) hsr
            clear hb5 hsr
            go_wp2_with fail
            refine (show Calls _ _ _ _ _ from HSM.out).mono ?_
            rintro e6 w6 ⟨rfl,hb6⟩
            have HB6:Hid (Below wj.heap.size wj w6):=bel_to HB5.out hb6 (Nat.le_refl _)
            have HP6:Hid (PJ W0 w6 kd g r 1 [] nv E B i N):=HPj.out.on HB6.out
            have HLN:Hid (Calls Tryz.prog 15 #[ptr g] w6 fun e w'=>e=.returned (.int .i64 (LF:Int))∧w'=w6):=by
              have:=Len_any w6 HP6.out.ls
              rw [cnt_nds,HLF.out] at this; exact this
            clear hb6
            go_wp2_with fail
            refine (show Calls _ _ _ _ _ from HLN.out).mono ?_
            rintro e7 w7 ⟨rfl,hw7⟩
            have hw7':=hw7.symm; subst hw7'
            have HB46:Hid (Below w4.heap.size w4 w6):=bel_to HBX.out HB6.out (Nat.le_refl _)
            have HL6:Hid (Lay w6):=HLj.out w6 HB6.out
            have HSN:Hid (SRow w6 (.slice Pn n cn) (N.map packN)):=HSR.out.on HB46.out
            have HLD:Hid (Calls Tryz.prog 9 #[.int .i64 (E:Int),.int .i64 (B:Int),.slice Pn n cn] w6 fun e w'=>∃ g r nv,e=.returned (.tuple #[ptr g,.int .i64 0])∧LS w' w6.heap.size g r 1 [] nv E B (nds B N)∧Below w6.heap.size w6 w'):=by
              have hq:=Load_yes E B HMB.out N HIN.out (by have:=HFL.out; omega) Pn cn w6 HL6.out (fun q hq=>by
                obtain ⟨Y,h1,h2⟩:=HNC.out q hq
                exact ⟨Y,h1,cell_on h2 HB46.out⟩) (fun q hq W hW=>by
                have hxm:N[q] ∈ N:=List.getElem_mem _
                refine read_yes E B HLB.out.1 HLB.out.2 N[q] (fit_node HIN.out hxm) (List.length_pos_iff.2 (HIN.out.some _ hxm)) (HIN.out.few _ hxm) (fun h=>?_) (fun h=>QM.lg_not HIN.out hxm h) W hW
                obtain ⟨t,h1,h2⟩:=QM.lg_alone HIN.out hxm h
                rw [h1]
                exact ⟨rfl,t,by simp,h2⟩)
              rw [HNN.out] at hq; exact hq
            obtain ⟨c0,c1,c2,cf⟩:=row3 (keep_row HR0.out.1 HP6.out.bel)
            go_wp2_with fail
            refine (show Calls _ _ _ _ _ from HLD.out).mono ?_
            rintro e8 w8 ⟨gq,rq,nvq,rfl,hLq,hb8⟩
            have HLQ:Hid (LS w8 w6.heap.size gq rq 1 [] nvq E B (nds B N)):=hLq
            have HB8:Hid (Below w6.heap.size w6 w8):=hb8
            have HCN:Hid _:=Clone_any (ns:=nds B N) (by simp [nds]; have:=HNL.out; omega) (nds_size HIN.out) w8 (HP6.out.on hb8).ls
            clear hLq hb8 c0 c1 c2 cf
            go_wp2_with fail
            refine (show Calls _ _ _ _ _ from HCN.out).mono ?_
            rintro e9 w9 ⟨gr,rr,cr,restr,nvr,rfl,hLr,hb9⟩
            have HLR:Hid (LS w9 w8.heap.size gr rr cr restr nvr E B (nds B N)):=hLr
            have HB9:Hid (Below w8.heap.size w8 w9):=hb9
            clear hLr hb9
            go_wp2_with fail
            refine (show Calls _ _ _ _ _ from HNU.out _).mono ?_
            rintro e10 w10 ⟨rfl,hw10⟩
            have hw10':=hw10.symm; subst hw10'
            have HB69:Hid (Below w6.heap.size w6 w9):=bel_to HB8.out HB9.out (Nat.le_refl _)
            have hp9:=HP6.out.on HB69.out
            obtain ⟨k0,k1,k2,kf⟩:=row3 hp9.row
            obtain ⟨o0,o1,o2,o3,o4,of5⟩:=row5 (keep_row HR0.out.2 hp9.bel)
            obtain ⟨N1,hN1⟩:∃ N1,opN E B lk la lb lt lf N=N1:=⟨_,rfl⟩
            have HG1:Hid (QM.Good E B N N1):=by have:=opN_good HIN.out lk la lb lt lf; rw [hN1] at this; exact this
            have HSQ:Hid (Calls Tryz.prog 21 #[ptr gq,rlV E B (.slice none 0 0),.agg #[.int .i64 lk,.int .i64 la,.int .i64 lb,.string lt,.bool lf]] w9 fun e w'=>∃ v bb,e=.returned (.tuple #[v,.bool bb])∧Chg w9 w' w6.heap.size gq rq 1 [] nvq E B N1):=by
              have:=stepJ_any lk la lb lt lf HLA.out.2.1 HLA.out.2.2 (Nat.le_trans HLA.out.1 (by omega)) w6 w9 HL6.out HB69.out (Nat.le_refl _) (by have:=HFL.out; omega) HIN.out (HLQ.out.on HB9.out)
              rw [hN1] at this; exact this
            have HSR2:Hid (∀ a:World,Below w6.heap.size w6 a → LS a w8.heap.size gr rr cr restr nvr E B (nds B N) → Calls Tryz.prog 21 #[ptr gr,rlV E B (.slice none 0 0),.agg #[.int .i64 lk,.int .i64 la,.int .i64 lb,.string lt,.bool lf]] a fun e w'=>∃ v bb,e=.returned (.tuple #[v,.bool bb])∧Chg a w' w8.heap.size gr rr cr restr nvr E B N1):=fun a ha hLa=>by
              have:=stepJ_any lk la lb lt lf HLA.out.2.1 HLA.out.2.2 (Nat.le_trans HLA.out.1 (by omega)) w6 a HL6.out ha HB8.out.size (by have:=HFL.out; omega) HIN.out hLa
              rw [hN1] at this; exact this
            clear hp9 hN1
            go_wp2_with fail
            refine (show Calls _ _ _ _ _ from HSQ.out).mono ?_
            rintro e11 a1 ⟨v11,b11,rfl,hc1⟩
            have HC1:Hid _:=hc1
            obtain ⟨hLr1,hb1⟩:=sepJ HLQ.out HLR.out HB8.out HB9.out hc1
            have HLR1:Hid _:=hLr1
            have HBA1:Hid (Below w6.heap.size w6 a1):=hb1
            clear hc1 hLr1 hb1 k0 k1 k2 kf o0 o1 o2 o3 o4 of5
            obtain ⟨k0,k1,k2,kf⟩:=row3 (HP6.out.on HBA1.out).row
            obtain ⟨o0,o1,o2,o3,o4,of5⟩:=row5 (keep_row HR0.out.2 (HP6.out.on HBA1.out).bel)
            go_wp2_with fail
            refine (show Calls _ _ _ _ _ from HSR2.out a1 HBA1.out HLR1.out).mono ?_
            rintro e12 a2 ⟨v12,b12,rfl,hc2⟩
            obtain ⟨⟨nvq2,hLq2⟩,⟨nvr2,hLr2⟩,hba2⟩:=sepK HLQ.out HLR.out HB8.out HB9.out HC1.out hc2
            have HLQ2:Hid _:=hLq2
            have HLR2:Hid _:=hLr2
            have HBA2:Hid (Below w6.heap.size w6 a2):=hba2
            have HL1:Hid (N1.length ≤ 1000):=Nat.le_trans (QM.len_le HG1.out.inv.some) (by have:=HG1.out.len; have:=HFL.out; omega)
            clear hLq2 hLr2 hba2 hc2 k0 k1 k2 kf o0 o1 o2 o3 o4 of5
            go_wp2_with fail
            refine (show Calls _ _ _ _ _ from nodesS HL1.out HG1.out.inv a2 HLQ2.out).mono ?_
            rintro e13 a3 ⟨P13,k13,rfl,_,hs13,hb13⟩
            have HS13:Hid (SRow a3 (.slice P13 N1.length k13) (N1.map packN)):=hs13
            have HB13:Hid (Below a2.heap.size a2 a3):=hb13
            clear hs13 hb13
            go_wp2_with fail
            refine (show Calls _ _ _ _ _ from nodesS HL1.out HG1.out.inv a3 (HLR2.out.on HB13.out)).mono ?_
            rintro e14 a4 ⟨P14,k14,rfl,_,hs14,hb14⟩
            have HS14:Hid (SRow a4 (.slice P14 N1.length k14) (N1.map packN)):=hs14
            have HB14:Hid (Below a3.heap.size a3 a4):=hb14
            clear hs14 hb14
            go_wp2_with fail
            refine (show Calls _ _ _ _ _ from same_eq (R:=N1.map packN) (by rw [List.length_map]; exact HL1.out) a4 _ _ (HS13.out.on HB14.out) HS14.out).mono ?_
            rintro e15 a5 ⟨rfl,hb15⟩
            have HB25:Hid (Below w6.heap.size w6 a5):=bel_to (bel_to (bel_to HBA2.out HB13.out (Nat.le_refl _)) HB14.out (Nat.le_refl _)) hb15 (Nat.le_refl _)
            clear hb15
            go_wp2_with fail
            refine (show Calls _ _ _ _ _ from nodesS (by have:=HNL.out; omega) HIN.out a5 (HP6.out.on HB25.out).ls).mono ?_
            rintro e16 a6 ⟨P16,k16,rfl,_,hs16,hb16⟩
            have HS16:Hid (SRow a6 (.slice P16 N.length k16) (N.map packN)):=hs16
            have HB16:Hid (Below a5.heap.size a5 a6):=hb16
            clear hs16 hb16
            go_wp2_with fail
            refine (show Calls _ _ _ _ _ from same_eq (R:=N.map packN) (by rw [List.length_map]; have:=HNL.out; omega) a6 _ _ HS16.out ((HSN.out.on HB25.out).on HB16.out)).mono ?_
            rintro e17 a7 ⟨rfl,hb17⟩
            have HB67:Hid (Below w6.heap.size w6 a7):=bel_to (bel_to HB25.out HB16.out (Nat.le_refl _)) hb17 (Nat.le_refl _)
            have HSU:Hid _:=sure_any a7 (HL6.out.on HB67.out)
            clear hb17
            go_wp2_with fail
            refine (show Calls _ _ _ _ _ from HSU.out).mono ?_
            rintro e18 a8 ⟨rfl,hb18⟩
            have HFI:Hid (Below w.heap.size w a8):=bel_to (bel_to (bel_to HB0.out HP6.out.bel (Nat.le_refl _)) HB67.out (Nat.le_refl _)) hb18 (Nat.le_refl _)
            clear hb18
            go_wp2
            go_returns
            exact ⟨by first | rfl | (simp; done),HFI.out⟩
end Go.Proofs.YtjnbjfjoejfmpaaGreatDoor
namespace Go.Proofs.YtjnbjfjoejfmpaaGreatDoor
open Go.RowKit
set_option linter.unusedVariables false
set_option linter.unusedSimpArgs false
set_option maxHeartbeats 4000000 in
set_option maxRecDepth 100000 in
theorem Short_no (e b:Int) (hm:mayB e b=false) (ad:Option Addr) (len cap:Nat) (lk la lb:Int) (lt:ByteArray) (lf:Bool) (w:World) (hw:Lay w) :
    Calls Tryz.prog 8 #[.agg #[.int .i64 e,.int .i64 b,.slice ad len cap],.agg #[.int .i64 lk,.int .i64 la,.int .i64 lb,.string lt,.bool lf]] w fun r w'=>r=.returned (.bool true)∧Below w.heap.size w w':=by
  obtain ⟨W0,hW0⟩:∃ W0,W0=(w.alloc (.cells #[.int .i64 e,.int .i64 b,.slice ad len cap] 42)).alloc (.cells #[.int .i64 lk,.int .i64 la,.int .i64 lb,.string lt,.bool lf] 46):=⟨_,rfl⟩
  have HB0:Hid (Below w.heap.size w W0):=by show Below _ _ _; rw [hW0]; exact ((Below.refl _ _).alloc (Nat.le_refl _) _).alloc (by simp) _
  have HR0:Hid (W0.heap[w.heap.size]?=some (.cells #[.int .i64 e,.int .i64 b,.slice ad len cap] 42)):=by
    show _=_
    rw [hW0]; obtain ⟨_,q2,q3⟩:=two_rows (Below.refl ((w.alloc (.cells #[.int .i64 e,.int .i64 b,.slice ad len cap] 42)).alloc (.cells #[.int .i64 lk,.int .i64 la,.int .i64 lb,.string lt,.bool lf] 46)).heap.size _); exact q2
  have HW:Hid (Lay w):=hw
  have HN:Hid _:=New_no e b hm W0
  have HM:Hid (e < 1 ∨ 4096 < e ∨ b < 0 ∨ 4096 < b):=by
    show _ ∨ _
    unfold mayB at hm
    simp at hm
    omega
  have HSU:Hid _:=fun W hW=>sure_any W hW
  clear hw hm
  obtain ⟨c0,c1,c2,cf⟩:=row3 HR0.out
  go_enter Tryz.func8,Tryz.ntmps8
  go_upto_region 1 with fail
  rw [← hW0]
  clear hW0
  obtain ⟨cb,hcb⟩:∃ cb,w.heap.size=cb:=⟨_,rfl⟩
  rw [hcb] at c0 c1 c2 cf HR0 ⊢
  have HCB:Hid (w.heap.size=cb):=hcb
  clear hcb
  go_wp2_with fail
  refine (show Calls _ _ _ _ _ from HN.out).mono ?_
  rintro e1 w1 ⟨rfl,hb1⟩
  have HX1:Hid (Below w.heap.size w w1):=bel_to HB0.out hb1 (Nat.le_refl _)
  clear c0 c1 c2 cf
  obtain ⟨c0,c1,c2,cf⟩:=row3 (keep_row HR0.out hb1)
  clear hb1
  have HS1:Hid (Calls Tryz.prog 17 #[] w1 fun e w'=>e=.returned (.bool true)∧Below w1.heap.size w1 w'):=HSU.out w1 (HW.out.on HX1.out)
  by_cases h1:e < 1
  · go_wp2_with fail
    refine (show Calls _ _ _ _ _ from HS1.out).mono ?_
    rintro e6 w6 ⟨rfl,hb6⟩
    have HX6:Hid (Below w.heap.size w w6):=bel_to HX1.out hb6 (Nat.le_refl _)
    clear hb6 c0 c1 c2 cf
    go_wp2
    go_returns
    refine ⟨by first | rfl | (simp; done),?_⟩
    first | exact HX6.out | (rw [← HCB.out]; exact HX6.out)
  by_cases h2:4096 < e
  · go_wp2_with fail
    refine (show Calls _ _ _ _ _ from HS1.out).mono ?_
    rintro e6 w6 ⟨rfl,hb6⟩
    have HX6:Hid (Below w.heap.size w w6):=bel_to HX1.out hb6 (Nat.le_refl _)
    clear hb6 c0 c1 c2 cf
    go_wp2
    go_returns
    refine ⟨by first | rfl | (simp; done),?_⟩
    first | exact HX6.out | (rw [← HCB.out]; exact HX6.out)
  by_cases h3:b < 0
  · go_wp2_with fail
    refine (show Calls _ _ _ _ _ from HS1.out).mono ?_
    rintro e6 w6 ⟨rfl,hb6⟩
    have HX6:Hid (Below w.heap.size w w6):=bel_to HX1.out hb6 (Nat.le_refl _)
    clear hb6 c0 c1 c2 cf
    go_wp2
    go_returns
    refine ⟨by first | rfl | (simp; done),?_⟩
    first | exact HX6.out | (rw [← HCB.out]; exact HX6.out)
  have h4:4096 < b:=by have:=HM.out; omega
  go_wp2_with fail
  refine (show Calls _ _ _ _ _ from HS1.out).mono ?_
  rintro e6 w6 ⟨rfl,hb6⟩
  have HX6:Hid (Below w.heap.size w w6):=bel_to HX1.out hb6 (Nat.le_refl _)
  clear hb6 c0 c1 c2 cf
  go_wp2
  go_returns
  refine ⟨by first | rfl | (simp; done),?_⟩
  first | exact HX6.out | (rw [← HCB.out]; exact HX6.out)
theorem QuicklistShort_walk (e b:Int) (ad:Option Addr) (len cap G off:Nat) (had:len ≠ 0 → ad=some ⟨G,off,none⟩) (hlen:len ≤ 9223372036854775807) (lk la lb:Int) (lt:ByteArray) (lf:Bool) (hlt:lt.size ≤ 140737488351232) (hla:i64B la) (hlb:i64B lb) (w:World) (hops:∀ i,i < len → ∃ o,OpAt w G off i o) (hw:Lay w) :
    Calls Tryz.prog 8 #[.agg #[.int .i64 e,.int .i64 b,.slice ad len cap],.agg #[.int .i64 lk,.int .i64 la,.int .i64 lb,.string lt,.bool lf]] w fun r w'=>r=.returned (.bool true)∧Below w.heap.size w w':=by
  cases hm:mayB e b with
  | false=>exact Short_no e b hm ad len cap lk la lb lt lf w hw
  | true =>
    have h:=hm
    unfold mayB at h; simp at h
    obtain ⟨E,rfl⟩:∃ E:Nat,e=(E:Int):=⟨e.toNat,by omega⟩
    obtain ⟨B,rfl⟩:∃ B:Nat,b=(B:Int):=⟨b.toNat,by omega⟩
    exact Short_yes E B hm ad len cap G off had hlen lk la lb lt lf hlt hla hlb w hops hw
end Go.Proofs.YtjnbjfjoejfmpaaGreatDoor
