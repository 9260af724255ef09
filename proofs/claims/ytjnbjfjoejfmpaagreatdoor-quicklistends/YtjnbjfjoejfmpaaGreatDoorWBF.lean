import Derived.Test.YtjnbjfjoejfmpaaGreatDoorSKs
import Derived.Test.YtjnbjfjoejfmpaaGreatDoorWBB
import Derived.Test.YtjnbjfjoejfmpaaGreatDoorWBC
import Derived.Test.YtjnbjfjoejfmpaaGreatDoorWBD
import Derived.Test.YtjnbjfjoejfmpaaGreatDoorStK8
import Derived.Test.YtjnbjfjoejfmpaaGreatDoorSur
namespace Go.Proofs.YtjnbjfjoejfmpaaGreatDoor
open Go.RowKit Go.Shelf
set_option linter.unusedVariables false
set_option linter.unusedSimpArgs false
theorem fndQ_clamp (L:List ByteArray) (s:ByteArray) (i:Nat) (hi:i < L.length) (st:Int):fndQ L s (i:Int) st=fndQ L s (i:Int) (max (-(L.length:Int)) (min st (L.length:Int))):=by
  by_cases h:-(L.length:Int) ≤ st∧st ≤ (L.length:Int)
  · rw [show max (-(L.length:Int)) (min st (L.length:Int))=st by omega]
  · have h0:st ≠ 0:=by omega
    have h1:max (-(L.length:Int)) (min st (L.length:Int)) ≠ 0:=by omega
    by_cases he:L[i]=s
    · rw [fndQ_hit L s st h0 i hi he,fndQ_hit L s _ h1 i hi he]
    · rw [fndQ_miss L s st h0 i hi he,fndQ_miss L s _ h1 i hi he,fndQ_out _ _ _ _ (by omega),fndQ_out _ _ _ _ (by omega)]
theorem fndV_form (o:Option Int):∃ a b,fndV o=.tuple #[.int .i64 a,.bool b]:=by
  cases o with
  | none=>exact ⟨0,false,rfl⟩
  | some i=>exact ⟨i,true,rfl⟩
section
variable {b0 g r c:Nat} {rest:List Value} {nv:Value} {E B:Nat} {N:QM.NL}
set_option maxHeartbeats 1000000 in
set_option maxRecDepth 100000 in
theorem Find_no (s:ByteArray) (fr st:Int) (hn:¬ (0 ≤ fr∧fr < (N.flatten.length:Int)) ∨ st=0) (w:World) (h:LS w b0 g r c rest nv E B (nds B N)) :
    Calls Tryz.prog 47 #[ptr g,.string s,.int .i64 fr,.int .i64 st] w fun e w'=>e=.returned (.tuple #[.int .i64 0,.bool false])∧w'=w:=by
  have HHA:Hid (Calls Tryz.prog 79 #[ptr g,.int .i64 fr] w fun e w'=>e=.returned (.bool (hasQ N.flatten.length fr))∧w'=w):=by
    have:=has_any fr w h
    rw [cnt_nds] at this; exact this
  clear h
  by_cases hh:0 ≤ fr∧fr < (N.flatten.length:Int)
  · have h0:st=0:=by rcases hn with h | h; exact absurd hh h; exact h
    have e1:hasQ N.flatten.length fr=true:=by unfold hasQ; exact decide_eq_true hh
    rw [e1] at HHA
    subst h0
    clear hn hh e1
    go_enter Tryz.func47,Tryz.ntmps47
    go_wp2_with fail
    refine (show Calls _ _ _ _ _ from HHA.out).mono ?_
    rintro e w1 ⟨rfl,rfl⟩
    go_wp2
    go_returns
    exact ⟨rfl,rfl⟩
  · have e1:hasQ N.flatten.length fr=false:=by unfold hasQ; exact decide_eq_false hh
    rw [e1] at HHA
    clear hn hh e1
    go_enter Tryz.func47,Tryz.ntmps47
    go_wp2_with fail
    refine (show Calls _ _ _ _ _ from HHA.out).mono ?_
    rintro e w1 ⟨rfl,rfl⟩
    go_wp2
    go_returns
    exact ⟨rfl,rfl⟩
set_option maxHeartbeats 1000000 in
set_option maxRecDepth 100000 in
theorem Find_yes (s:ByteArray) (i0:Nat) (hi0:i0 < N.flatten.length) (st:Int) (hst:st ≠ 0) (hsb:-9223372036854775808 ≤ st∧st ≤ 9223372036854775807) (hl:N.flatten.length ≤ 1000) (hI:QM.Inv E B N) (w:World) (hw:Lay w) (h:LS w b0 g r c rest nv E B (nds B N)) :
    Calls Tryz.prog 47 #[ptr g,.string s,.int .i64 (i0:Int),.int .i64 st] w fun e w'=>e=.returned (fndV (fndQ N.flatten s (i0:Int) st))∧Below w.heap.size w w':=by
  have HHA:Hid (Calls Tryz.prog 79 #[ptr g,.int .i64 (i0:Int)] w fun e w'=>e=.returned (.bool true)∧w'=w):=by
    have:=has_any (i0:Int) w h
    have e1:hasQ (cntN (nds B N)) (i0:Int)=true:=by unfold hasQ; rw [cnt_nds]; exact decide_eq_true ⟨by omega,by omega⟩
    rw [e1] at this; exact this
  obtain ⟨st',hst'⟩:∃ st',max (-(N.flatten.length:Int)) (min st (N.flatten.length:Int))=st':=⟨_,rfl⟩
  have HSE:Hid (∀ W,Below w.heap.size w W → Calls Tryz.prog 86 #[ptr g,.string s,.int .i64 (i0:Int),.int .i64 st'] W fun e w'=>e=.returned (fndV (fndQ N.flatten s (i0:Int) st))∧Below W.heap.size W w'):=fun W hW=>by
    rw [fndQ_clamp N.flatten s i0 hi0 st,hst']
    exact seek_any i0 hi0 s st' (by omega) (by omega) hl hI W (hw.on hW) (h.on hW)
  obtain ⟨l0,l1,l2,l3,lf⟩:=lrow4 h.hd
  rw [cnt_nds] at l2
  obtain ⟨fa,fb,hab⟩:=fndV_form (fndQ N.flatten s (i0:Int) st)
  rw [hab] at HSE ⊢
  obtain ⟨F,hF⟩:∃ F,N.flatten.length=F:=⟨_,rfl⟩
  rw [hF] at l2 hst' hl
  have hng:IntKind.i64.wrap (-(F:Int))=-(F:Int):=by rw [IntKind.wrap_i64] <;> omega
  have hne:(st == 0)=false:=by simpa using hst
  have HD:Hid (Below w.heap.size w w.drew):=(Below.refl _ _).drew
  obtain ⟨mn,hmn⟩:∃ mn,min st (F:Int)=mn:=⟨_,rfl⟩
  rw [hmn] at hst'
  clear h hw hF hi0 hsb
  go_enter Tryz.func47,Tryz.ntmps47
  go_wp2_with fail
  refine (show Calls _ _ _ _ _ from HHA.out).mono ?_
  rintro e w1 ⟨rfl,rfl⟩
  go_wp2_with fail
  go_region
  all_goals
    go_wp2_with fail
    refine (show Calls _ _ _ _ _ from HSE.out _ HD.out).mono ?_
    rintro e w2 ⟨rfl,hb2⟩
    have HB2:Hid _:=bel_to HD.out hb2 (Nat.le_refl _)
    clear hb2
    go_wp2
    go_returns
    exact ⟨rfl,HB2.out⟩
end
end Go.Proofs.YtjnbjfjoejfmpaaGreatDoor
namespace Go.Proofs.YtjnbjfjoejfmpaaGreatDoor
open Go.RowKit
set_option linter.unusedVariables false
set_option linter.unusedSimpArgs false
section
variable {x b0 g r c:Nat} {rest:List Value} {nv:Value} {E B:Nat} {N:QM.NL}
theorem good_id (hI:QM.Inv E B N):QM.Good E B N N:=⟨hI,by omega⟩
theorem ref_no {F:Nat} {args:Array Value} {dv:Value} {code:Int} (h:∀ (ok:Nat → Prop) W,RL ok W dv N → Calls Tryz.prog F args W fun e w'=>e=.returned (.tuple #[rlV E B dv,.int .i64 code])∧Below W.heap.size W w') :
    ∀ (ok:Nat → Prop) W,(∀ k,W.heap.size ≤ k → ok k) → RL ok W dv N → Calls Tryz.prog F args W fun e w'=>∃ v',e=.returned (.tuple #[rlV E B v',.int .i64 code])∧RL ok w' v' N∧Below W.heap.size W w':=fun ok W _ hR =>
  (h ok W hR).mono (fun e w' q=>⟨dv,q.1,hR.on q.2,q.2⟩)
theorem prog_no {F:Nat} {args:Array Value} {v:Value} {w:World} (hL:LS w b0 g r c rest nv E B (nds B N)) (h:∀ W,LS W b0 g r c rest nv E B (nds B N) → Calls Tryz.prog F args W fun e w'=>e=.returned v∧w'=W) :
    ∀ W,Below w.heap.size w W → Calls Tryz.prog F args W fun e w'=>e=.returned v∧Chg W w' b0 g r c rest nv E B N:=fun W hW =>
  (h W (hL.on hW)).mono (fun e w' q=>⟨q.1,by rw [q.2]; exact Chg.of_bel (hL.on hW) (Below.refl _ _)⟩)
theorem srowOwn {w:World} {v:Value} {b m:Nat} {R:List ByteArray} (h:w.ownsRow b 9 1 v m (strV R)) (hm:m=R.length):SRow w v R:=(DRow.of_own (ok:=fun _=>True) h (by rw [hm]; simp) (fun _ _=>trivial)).srow
set_option maxHeartbeats 1000000 in
theorem step_any (kd a b:Int) (tx:ByteArray) (fl:Bool) (ha:-9223372036854775808 ≤ a∧a ≤ 9223372036854775807) (hb:-9223372036854775808 ≤ b∧b ≤ 9223372036854775807) (hs2:tx.size ≤ 281474976710656) (dv:Value) (w00 w:World) (hw:Lay w00) (hbb:Below w00.heap.size w00 w) (hbz:w00.heap.size ≤ b0) (hl:N.flatten.length ≤ 1000) (hI:QM.Inv E B N) (hx:x < w.heap.size) (hL:LS w b0 g r c rest nv E B (nds B N)) (hR:RL (okP x g r nv) w dv N) :
    Calls Tryz.prog 21 #[ptr g,rlV E B dv,.agg #[.int .i64 kd,.int .i64 a,.int .i64 b,.string tx,.bool fl]] w fun e w'=>∃ N' dv',e=.returned (.tuple #[rlV E B dv',.bool true])∧Both x w w' b0 g r c rest nv E B N' dv'∧QM.Good E B N N':=by
  have hln:N.length ≤ 1000:=Nat.le_trans (QM.len_le hI.some) hl
  have hLay:∀ W,Below w.heap.size w W → Lay W:=fun W hW=>hw.on (bel_to hbb hW (Nat.le_refl _))
  have fin:∀ N',QM.Good E B N N' → (Calls Tryz.prog 21 #[ptr g,rlV E B dv,.agg #[.int .i64 kd,.int .i64 a,.int .i64 b,.string tx,.bool fl]] w fun e w'=>∃ dv',e=.returned (.tuple #[rlV E B dv',.bool true])∧Both x w w' b0 g r c rest nv E B N' dv') → Calls Tryz.prog 21 #[ptr g,rlV E B dv,.agg #[.int .i64 kd,.int .i64 a,.int .i64 b,.string tx,.bool fl]] w fun e w'=>∃ N' dv',e=.returned (.tuple #[rlV E B dv',.bool true])∧Both x w w' b0 g r c rest nv E B N' dv'∧QM.Good E B N N':=fun N' hG h =>
    h.mono (fun e w' ⟨dv',h1,h2⟩=>⟨N',dv',h1,h2,hG⟩)
  by_cases k1:kd=1
  · subst k1
    by_cases hs:tx.size ≤ 524288
    · exact fin _ (QM.push_good hI tx hs fl) (step_1 a b tx fl 0 _ dv w hx hL hR (fun ok W hk h=>rpush_any E B dv N tx fl hI hl hs W hk h) (fun W hW=>Push_any fl tx hs hl hI W (hLay W hW) (hL.on hW)))
    · exact fin _ (good_id hI) (step_1 a b tx fl 2 N dv w hx hL hR (ref_no (fun ok W h=>rpush_no E B dv N tx fl hl hln (by omega) W h)) (prog_no hL (fun W h=>Push_no fl tx (by omega) hs2 W h)))
  by_cases k2:kd=2
  · subst k2
    by_cases h0:N.flatten.length=0
    · exact fin _ (good_id hI) (step_2 a b tx fl _ _ N dv w hx hL hR (fun ok W hk h=>(rpop_no E B dv N fl h0 hln W h).mono (fun e w' q=>⟨dv,q.1,h.on q.2,q.2⟩)) (fun W hW=>(Pop_no fl h0 W (hL.on hW)).mono (fun e w' q=>⟨q.1,Chg.of_bel (hL.on hW) q.2⟩)))
    · obtain ⟨i,hfi⟩:∃ i,i=if fl then 0 else N.flatten.length - 1:=⟨_,rfl⟩
      have hi:i < N.flatten.length:=by rw [hfi]; split <;> omega
      exact fin _ (QM.del_good hI i (i + 1) (by omega)) (step_2 a b tx fl _ _ _ dv w hx hL hR (fun ok W hk h=>rpop_yes E B dv N fl i hi hfi hl hln W hk h) (fun W hW=>Pop_yes fl i hi hfi hl hI w00 W hw (bel_to hbb hW (Nat.le_refl _)) hbz (hL.on hW)))
  by_cases k3:kd=3
  · subst k3
    by_cases hin:0 ≤ a∧a ≤ (N.flatten.length:Int)
    · obtain ⟨i,rfl⟩:∃ i:Nat,a=(i:Int):=⟨a.toNat,by omega⟩
      by_cases hs:tx.size ≤ 524288
      · by_cases hi:i < N.flatten.length
        · exact fin _ (QM.ins_good hI i hi tx hs) (step_3 _ b tx fl 0 _ dv w hx hL hR (fun ok W hk h=>rins_any E B dv N i tx hi hI hl hs W hk h) (fun W hW=>Insert_yes i hi tx hs hl hI W (hLay W hW) (hL.on hW)))
        · have hie:i=N.flatten.length:=by omega
          exact fin _ (QM.push_good hI tx hs false) (step_3 _ b tx fl 0 _ dv w hx hL hR (fun ok W hk h=>rins_end E B dv N i tx hie hI hs hl W hk h) (fun W hW=>Insert_end _ (by omega) tx W (hL.on hW) (Push_any false tx hs hl hI W (hLay W hW) (hL.on hW))))
      · refine fin _ (good_id hI) (step_3 _ b tx fl 2 N dv w hx hL hR (ref_no (fun ok W h=>rins_long E B dv N i tx (by omega) (by omega) hl hln W h)) (prog_no hL (fun W h=>?_)))
        by_cases hi:i < N.flatten.length
        · exact Insert_long i hi tx (by omega) hs2 W h
        · exact Insert_end (v:=.int .i64 2) (Z:=fun w'=>w'=W) _ (by omega) tx W h (Push_no false tx (by omega) hs2 W h)
    · exact fin _ (good_id hI) (step_3 a b tx fl 1 N dv w hx hL hR (ref_no (fun ok W h=>rins_no E B dv N a tx hin hl hln W h)) (prog_no hL (fun W h=>Insert_no a hin tx W h)))
  by_cases k4:kd=4
  · subst k4
    by_cases hin:0 ≤ a∧a < (N.flatten.length:Int)
    · obtain ⟨i,rfl⟩:∃ i:Nat,a=(i:Int):=⟨a.toNat,by omega⟩
      have hi:i < N.flatten.length:=by omega
      by_cases hs:tx.size ≤ 524288
      · exact fin _ (QM.set_good hI i hi tx hs) (step_4 _ b tx fl 0 _ dv w hx hL hR (fun ok W hk h=>rset_any E B dv N i tx hi hI hl hs W hk h) (fun W hW=>Set_yes i hi hl tx hs hI W (hLay W hW) (hL.on hW)))
      · exact fin _ (good_id hI) (step_4 _ b tx fl 2 N dv w hx hL hR (ref_no (fun ok W h=>rset_long E B dv N i tx hi (by omega) hl hln W h)) (prog_no hL (fun W h=>Set_long i hi tx (by omega) hs2 W h)))
    · exact fin _ (good_id hI) (step_4 a b tx fl 1 N dv w hx hL hR (ref_no (fun ok W h=>rset_no E B dv N a tx hin hl hln W h)) (prog_no hL (fun W h=>Set_no a hin tx W h)))
  by_cases k5:kd=5
  · subst k5
    by_cases hin:(0 ≤ a∧a < (N.flatten.length:Int))∧1 ≤ b
    · obtain ⟨i,rfl⟩:∃ i:Nat,a=(i:Int):=⟨a.toNat,by omega⟩
      obtain ⟨n,rfl⟩:∃ n:Nat,b=(n:Int):=⟨b.toNat,by omega⟩
      have hi:i < N.flatten.length:=by omega
      exact fin _ (QM.del_good hI i _ (by omega)) (step_5 _ _ tx fl _ _ dv w hx hL hR (fun ok W hk h=>rdel_yes E B dv N i n hi (by omega) (by omega) hl hln W hk h) (fun W hW=>Delete_yes i hi n (by omega) (by omega) hl hI w00 W hw (bel_to hbb hW (Nat.le_refl _)) hbz (hL.on hW)))
    · have hno:¬ (0 ≤ a∧a < (N.flatten.length:Int)) ∨ b < 1:=by
        by_cases h:0 ≤ a∧a < (N.flatten.length:Int)
        · right
          rcases Int.lt_or_le b 1 with h1 | h1
          · exact h1
          · exact absurd ⟨h,h1⟩ hin
        · exact Or.inl h
      exact fin _ (good_id hI) (step_5 a b tx fl 0 N dv w hx hL hR (ref_no (fun ok W h=>rdel_no E B dv N a b hno hl hln W h)) (prog_no hL (fun W h=>Delete_nil a b hno W h)))
  by_cases k6:kd=6
  · subst k6
    by_cases hin:0 ≤ a∧a < (N.flatten.length:Int)
    · obtain ⟨i,rfl⟩:∃ i:Nat,a=(i:Int):=⟨a.toNat,by omega⟩
      have hi:i < N.flatten.length:=by omega
      exact fin _ (good_id hI) (step_6 _ b tx fl _ _ dv w hx hL hR (fun ok W h=>rat_yes E B dv N i hi hl hln W h) (fun W hW=>At_yes i hi hl hI W (hLay W hW) (hL.on hW)))
    · exact fin _ (good_id hI) (step_6 a b tx fl _ _ dv w hx hL hR (fun ok W h=>rat_no E B dv N a hin hl hln W h) (fun W hW=>At_no a hin W (hL.on hW)))
  by_cases k7:kd=7
  · subst k7
    have hrl:(rngQ N.flatten a b).length ≤ 1000:=by unfold rngQ; rw [List.length_drop,List.length_take]; omega
    refine fin _ (good_id hI) (step_7 a b tx fl (rngQ N.flatten a b) hrl dv w hx hL hR (fun ok W h=>(rrange_any E B dv N a b hb hl hln W h).mono (fun e w' ⟨v',h1,h2,h3⟩=>⟨v',h1,srowOwn h2 rfl,h3⟩)) (fun W hW=>?_))
    by_cases hno:min b ((N.flatten.length:Int) - 1) < max a 0
    · refine (Range_no a b hb hl hno W (hL.on hW)).mono (fun e w' q=>⟨_,q.1,?_,q.2⟩)
      rw [rng_nil N.flatten a b hno]
      exact Or.inl ⟨rfl,_,_,rfl⟩
    · obtain ⟨y,hy⟩:∃ y:Nat,max a 0=(y:Int):=⟨(max a 0).toNat,by omega⟩
      obtain ⟨z,hz⟩:∃ z:Nat,min b ((N.flatten.length:Int) - 1)=(z:Int):=⟨(min b ((N.flatten.length:Int) - 1)).toNat,by omega⟩
      refine (Range_yes a b y z hy hz (by omega) hl hI W (hLay W hW) (hL.on hW)).mono (fun e w' ⟨v',h1,h2,h3⟩=>⟨v',h1,?_,h3⟩)
      rw [rng_cl N.flatten a b y z hy hz]
      exact srowOwn h2 (by rw [List.length_drop,List.length_take]; omega)
  by_cases k8:kd=8
  · subst k8
    obtain ⟨fa,fb,hab⟩:=fndV_form (fndQ N.flatten tx a b)
    refine fin _ (good_id hI) (step_8 a b tx fl fa fb dv w hx hL hR (fun ok W h=>?_) (fun W hW=>?_))
    · have:=rfind_any E B dv N tx a b hb hl hln W h
      rw [hab] at this; exact this
    · by_cases hin:(0 ≤ a∧a < (N.flatten.length:Int))∧b ≠ 0
      · obtain ⟨i,rfl⟩:∃ i:Nat,a=(i:Int):=⟨a.toNat,by omega⟩
        have:=Find_yes tx i (by omega) b hin.2 hb hl hI W (hLay W hW) (hL.on hW)
        rw [hab] at this; exact this
      · have hno:¬ (0 ≤ a∧a < (N.flatten.length:Int)) ∨ b=0:=by
          by_cases h:0 ≤ a∧a < (N.flatten.length:Int)
          · right
            by_cases h1:b=0
            · exact h1
            · exact absurd ⟨h,h1⟩ hin
          · exact Or.inl h
        have hq:fndQ N.flatten tx a b=none:=by
          rcases hno with h | h
          · exact fndQ_out _ _ _ _ h
          · subst h; exact fndQ_zero _ _ _
        rw [hq] at hab
        have:(.tuple #[.int .i64 fa,.bool fb]:Value)=.tuple #[.int .i64 0,.bool false]:=hab.symm
        rw [this]
        exact (Find_no tx a b hno W (hL.on hW)).mono (fun e w' q=>⟨q.1,by rw [q.2]; exact Below.refl _ _⟩)
  exact fin _ (good_id hI) (step_0 kd a b tx fl dv w hx hL hR (fun j h1 h2 e=>by omega))
end
end Go.Proofs.YtjnbjfjoejfmpaaGreatDoor
namespace Go.Proofs.YtjnbjfjoejfmpaaGreatDoor
open Go.RowKit
set_option linter.unusedVariables false
set_option linter.unusedSimpArgs false
abbrev i64B (x:Int):Prop:=-9223372036854775808 ≤ x∧x ≤ 9223372036854775807
structure OpD where
  k:Int
  a:Int
  b:Int
  t:ByteArray
  f:Bool
def opC (o:OpD):List Value:=[.int .i64 o.k,.int .i64 o.a,.int .i64 o.b,.string o.t,.bool o.f]
structure OpAt (W:World) (g off i:Nat) (o:OpD):Prop where
  cells:∀ j u,(opC o)[j]?=some u → W.cell? ⟨g,off + i * 5 + j,none⟩=some u
  t:o.t.size ≤ 140737488351232
  a:i64B o.a
  b:i64B o.b
theorem OpAt.keep {W W':World} {g off i:Nat} {o:OpD} (h:OpAt W g off i o) (hb:Below W.heap.size W W'):OpAt W' g off i o:=
  ⟨fun j u hu=>cell_on (h.cells j u hu) hb,h.t,h.a,h.b⟩
theorem OpAt.c5 {W:World} {g off i:Nat} {o:OpD} (h:OpAt W g off i o):W.cell? ⟨g,off + i * 5,none⟩=some (.int .i64 o.k)∧W.cell? ⟨g,off + i * 5 + 1,none⟩=some (.int .i64 o.a)∧W.cell? ⟨g,off + i * 5 + 2,none⟩=some (.int .i64 o.b)∧W.cell? ⟨g,off + i * 5 + 3,none⟩=some (.string o.t)∧W.cell? ⟨g,off + i * 5 + 4,none⟩=some (.bool o.f):=
  ⟨h.cells 0 _ rfl,h.cells 1 _ rfl,h.cells 2 _ rfl,h.cells 3 _ rfl,h.cells 4 _ rfl⟩
structure PS (W0 W:World) (kd g r c:Nat) (rest:List Value) (nv:Value) (E B i:Nat) (N:QM.NL) (dv:Value):Prop where
  row:W.heap[kd]?=some (.cells #[.int .i64 (E:Int),.int .i64 (B:Int),dv] 29)
  ls:LS W W0.heap.size g r c rest nv E B (nds B N)
  rl:RL (okP kd g r nv) W dv N
  kg:kd ≠ g
  kr:kd ≠ r
  ko:nv.ownBlock ≠ some kd
  kz:W0.heap.size ≤ kd
  inv:QM.Inv E B N
  len:N.flatten.length ≤ i
  bel:Below W0.heap.size W0 W
section
variable {W0 W:World} {kd g r c:Nat} {rest:List Value} {nv:Value} {E B i:Nat} {N:QM.NL} {dv:Value}
theorem PS.on {W':World} (h:PS W0 W kd g r c rest nv E B i N dv) (hb:Below W.heap.size W W'):PS W0 W' kd g r c rest nv E B i N dv:=
  ⟨keep_row h.row hb,h.ls.on hb,h.rl.on hb,h.kg,h.kr,h.ko,h.kz,h.inv,h.len,bel_to h.bel hb (Nat.le_refl _)⟩
theorem PS.fst {w1 W3:World} {N0:QM.NL} (h1:LS w1 W0.heap.size g r c rest (.slice none 0 0) E B (nds B [])) (hb:Below W0.heap.size W0 w1) (hb2:Below w1.heap.size w1 W3) (hk:w1.heap.size ≤ kd) (hr:W3.heap[kd]?=some (.cells #[.int .i64 (E:Int),.int .i64 (B:Int),.slice none 0 0] 29)) (hI:QM.Inv E B []) (hR:∀ ok,RL ok W3 (.slice none 0 0) []):PS W0 W3 kd g r c rest (.slice none 0 0) E B 0 [] (.slice none 0 0):=by
  have hg:=row_lt h1.hd
  have hr':=row_lt h1.rw_
  refine ⟨hr,h1.on hb2,hR _,by omega,by omega,by simp [Value.ownBlock],?_,hI,Nat.le_refl _,bel_to hb hb2 (Nat.le_refl _)⟩
  have:=hb.size; omega
theorem PS.step {Wo a1 Wx:World} {N':QM.NL} {dv':Value} (h:PS W0 W kd g r c rest nv E B i N dv) (ho:Below W.heap.size W Wo) (hB:Both kd Wo a1 W0.heap.size g r c rest nv E B N' dv') (hG:QM.Good E B N N') (hx:Below a1.heap.size a1 Wx) :
    Wx.heap[kd]?=some (.cells #[.int .i64 (E:Int),.int .i64 (B:Int),dv] 29)∧∃ nv',PS W0 (((Wx.setCell ⟨kd,0,none⟩ (.int .i64 (E:Int))).setCell ⟨kd,1,none⟩ (.int .i64 (B:Int))).setCell ⟨kd,2,none⟩ dv') kd g r c rest nv' E B (i + 1) N' dv':=by
  have h2:=h.on ho
  have hbel:=Chg.bel (N':=N') h2.ls (by obtain ⟨nv',q1,q2,q3,q4⟩:=hB; exact ⟨nv',q1,q2,q3⟩:Chg Wo a1 W0.heap.size g r c rest nv E B N') h2.bel (Nat.le_refl _)
  obtain ⟨nv',q1,q2,q3,q4⟩:=hB
  have hlt:=row_lt h2.row
  have hr1:Wx.heap[kd]?=some (.cells #[.int .i64 (E:Int),.int .i64 (B:Int),dv] 29):=by
    refine keep_row ((q2.block kd hlt ?_).trans h2.row) hx
    rintro (e | e | e)
    · exact h.kg e
    · exact h.kr e
    · exact h.ko e
  obtain ⟨g1,g2⟩:=heap_set3 Wx kd 29 _ _ _ (.int .i64 (E:Int)) (.int .i64 (B:Int)) dv' hr1
  have hko:∀ Y,nv'.ownBlock=some Y → Y ≠ kd:=fun Y hY e=>by
    subst e
    rcases q3 Y hY with q | q
    · exact h.ko q
    · omega
  have hls:=q1.on hx
  have hf:Fr Wx (((Wx.setCell ⟨kd,0,none⟩ (.int .i64 (E:Int))).setCell ⟨kd,1,none⟩ (.int .i64 (B:Int))).setCell ⟨kd,2,none⟩ dv') (fun k=>k=kd):=⟨g2.os,g2.tape,g2.output,by rw [g2.size]; exact Nat.le_refl _,fun k _ hk=>g2.other k hk⟩
  exact ⟨hr1,nv',g1,⟨(g2.other g (Ne.symm h.kg)).trans hls.hd,(g2.other r (Ne.symm h.kr)).trans hls.rw_,hls.nd.same (fun Y hY=>g2.other Y (hko Y hY)),hls.hg,hls.hr⟩,(q4.on hx).fr hf (fun k hk=>hk.2.2.2),h.kg,h.kr,fun e=>hko kd e rfl,h.kz,hG.inv,by have:=hG.len; have:=h.len; omega,(hbel.trans (hx.mono hbel.size)).trans (g2.below h.kz)⟩
end
end Go.Proofs.YtjnbjfjoejfmpaaGreatDoor
