import Derived.Test.YtjnbjfjoejfmpaaGreatDoorWAT
import Derived.Deep.RegionHeld3
import Derived.Test.YtjnbjfjoejfmpaaGreatDoorDP
import Derived.Test.YtjnbjfjoejfmpaaGreatDoorDQ
namespace Go.Proofs.YtjnbjfjoejfmpaaGreatDoor
open Go.RowKit
set_option linter.unusedVariables false
set_option linter.unusedSimpArgs false
section
variable {ok:Nat → Prop}
end
end Go.Proofs.YtjnbjfjoejfmpaaGreatDoor
namespace Go.Proofs.YtjnbjfjoejfmpaaGreatDoor
open Go.RowKit
set_option linter.unusedVariables false
set_option linter.unusedSimpArgs false
section
variable {ok:Nat → Prop}
end
end Go.Proofs.YtjnbjfjoejfmpaaGreatDoor
namespace Go.Proofs.YtjnbjfjoejfmpaaGreatDoor
open Go.RowKit
set_option linter.unusedVariables false
set_option linter.unusedSimpArgs false
section
variable {ok:Nat → Prop}
end
end Go.Proofs.YtjnbjfjoejfmpaaGreatDoor
namespace Go.Proofs.YtjnbjfjoejfmpaaGreatDoor
open Go.RowKit
set_option linter.unusedVariables false
set_option linter.unusedSimpArgs false
section
variable {ok:Nat → Prop}
end
end Go.Proofs.YtjnbjfjoejfmpaaGreatDoor
namespace Go.Proofs.YtjnbjfjoejfmpaaGreatDoor
open Go.RowKit
set_option linter.unusedVariables false
set_option linter.unusedSimpArgs false
section
variable {ok:Nat → Prop}
end
end Go.Proofs.YtjnbjfjoejfmpaaGreatDoor
namespace Go.Proofs.YtjnbjfjoejfmpaaGreatDoor
open Go.RowKit
set_option linter.unusedVariables false
set_option linter.unusedSimpArgs false
theorem push_in {E B:Nat} {N:QM.NL} {s:ByteArray} (f:Bool) (t:Nat) (htf:t=if f then 0 else N.length - 1) (ht:t < N.length) (hb:QM.big B s=false) (hr:QM.room E B N[t]=true):QM.push E B N s f=QM.rep N t 1 [N[t].take (if f then 0 else N[t].length) ++ s :: N[t].drop (if f then 0 else N[t].length)]:=by
  unfold QM.push
  cases f with
  | true =>
    simp at htf; subst htf
    cases N with
    | nil=>simp at ht
    | cons x M =>
      have e5:(if true=true then QM.pushF E B (x :: M) s else QM.pushB E B (x :: M) s)=(if QM.big B s=false∧QM.room E B x=true then (s :: x) :: M else [s] :: x :: M):=rfl
      rw [e5,if_pos ⟨hb,by simpa using hr⟩]
      simp [QM.rep,QM.nes]
  | false =>
    simp at htf; subst htf
    rw [if_neg (by simp)]
    unfold QM.pushB
    rw [List.getLast?_eq_getElem?,List.getElem?_eq_getElem ht]
    simp only
    rw [if_pos ⟨hb,hr⟩]
    simp
theorem push_out {E B:Nat} {N:QM.NL} {s:ByteArray} (f:Bool) (h:QM.big B s=true ∨ ∀ t (ht:t < N.length),(t=if f then 0 else N.length - 1) → QM.room E B N[t]=false):QM.push E B N s f=QM.rep N (if f then 0 else N.length) 0 [[s]]:=by
  rcases QM.push_rep E B N s f with e | ⟨n,hn,hb',hr',hnf,_⟩
  · exact e
  · rcases h with h | h
    · rw [h] at hb'; cases hb'
    · have:=h n hn hnf
      rw [this] at hr'; cases hr'
section
variable {ok:Nat → Prop}
theorem rpush_any (E B:Nat) (v:Value) (N:QM.NL) (s:ByteArray) (f:Bool) (hI:QM.Inv E B N) (hl:N.flatten.length ≤ 1000) (hs:s.size ≤ 524288) (w:World) (hk:∀ k,w.heap.size ≤ k → ok k) (h:RL ok w v N) :
    Calls Tryz.prog 34 #[rlV E B v,.string s,.bool f] w fun e w'=>∃ v',e=.returned (.tuple #[rlV E B v',.int .i64 0])∧RL ok w' v' (QM.push E B N s f)∧Below w.heap.size w w':=by
  cases hb:QM.big B s with
  | true =>
    rw [push_out f (Or.inl hb)]
    cases f with
    | true=>exact rpush_big_true E B v N s hI hl hs w hk h hb
    | false=>exact rpush_big_false E B v N s hI hl hs w hk h hb
  | false =>
    by_cases h0:N.length=0
    · rw [push_out f (Or.inr (fun t ht _=>by omega))]
      cases f with
      | true=>exact rpush_full_true E B v N s hI hl hs w hk h hb (fun W hW=>room_no E B v N 0 (by omega) W hW)
      | false=>exact rpush_full_false E B v N s hI hl hs w hk h hb (fun W hW=>room_no E B v N _ (by omega) W hW)
    · cases f with
      | true =>
        have ht:0 < N.length:=by omega
        have hro:=fun W (hW:RL ok W v N)=>room_yes E B v N 0 ht (hI.some _ (List.getElem_mem ht)) W hW
        cases hr:QM.room E B N[0] with
        | true =>
          rw [push_in true 0 rfl ht hb hr]
          exact rpush_room_true E B v N s hI hl hs w hk h hb ht (fun W hW=>by have:=hro W hW; rw [hr] at this; exact this)
        | false =>
          rw [push_out true (Or.inr (fun t ht e=>by simp at e; subst e; exact hr))]
          exact rpush_full_true E B v N s hI hl hs w hk h hb (fun W hW=>by have:=hro W hW; rw [hr] at this; exact this)
      | false =>
        obtain ⟨t,ht⟩:∃ t,N.length=t + 1:=⟨N.length - 1,by omega⟩
        have htl:t < N.length:=by omega
        have hro:=fun W (hW:RL ok W v N)=>room_yes E B v N t htl (hI.some _ (List.getElem_mem htl)) W hW
        cases hr:QM.room E B N[t] with
        | true =>
          rw [push_in false t (by simp; omega) htl hb hr]
          exact rpush_room_false E B v N s hI hl hs w hk h hb t ht (fun W hW=>by have:=hro W hW; rw [hr] at this; exact this)
        | false =>
          rw [push_out false (Or.inr (fun t' ht' e=>by
            have:t'=t:=by simp at e; omega
            subst this; exact hr))]
          exact rpush_full_false E B v N s hI hl hs w hk h hb (fun W hW=>by
            have:=hro W hW; rw [hr] at this
            rw [show (N.length:Int) - 1=(t:Int) by omega]; exact this)
set_option maxHeartbeats 2000000 in
set_option maxRecDepth 100000 in
theorem rpush_no (E B:Nat) (v:Value) (N:QM.NL) (s:ByteArray) (f:Bool) (hl:N.flatten.length ≤ 1000) (hln:N.length ≤ 1000) (hs:524288 < s.size) (w:World) (h:RL ok w v N) :
    Calls Tryz.prog 34 #[rlV E B v,.string s,.bool f] w fun e w'=>e=.returned (.tuple #[rlV E B v,.int .i64 2])∧Below w.heap.size w w':=by
  obtain ⟨P,c,rfl⟩:=h.form
  have HMA:Hid (∀ W,Below w.heap.size w W → Calls Tryz.prog 73 #[rlV E B (.slice P N.length c),.string s,.int .i64 1] W fun e w'=>e=.returned (.int .i64 2)∧Below W.heap.size W w'):=fun W hW=>by
    have:=may_any E B _ N s 1 (by omega) hl hln W (h.on hW)
    rw [if_pos hs] at this; exact this
  obtain ⟨W0,hW0⟩:∃ W0,W0=(w.alloc (.cells #[.int .i64 (E:Int),.int .i64 (B:Int),.slice P N.length c] 29)).alloc (.cells #[.int .i64 0,.int .i64 0,.slice none 0 0] 29):=⟨_,rfl⟩
  have HTW:Hid (∀ W,Below W0.heap.size W0 W → Below w.heap.size w W∧W.heap[w.heap.size]?=some (.cells #[.int .i64 (E:Int),.int .i64 (B:Int),.slice P N.length c] 29)∧W.heap[w.heap.size + 1]?=some (.cells #[.int .i64 0,.int .i64 0,.slice none 0 0] 29)):=fun W hW=>by rw [hW0] at hW; exact two_rows hW
  clear h
  go_enter Tryz.func34,Tryz.ntmps34
  go_wp2_with fail
  rw [← hW0]
  refine (show Calls _ _ _ _ _ from HMA.out _ (HTW.out _ (Below.refl _ _)).1).mono ?_
  rintro e w1 ⟨rfl,hb1⟩
  have HX1:Hid (Below W0.heap.size W0 w1):=hb1
  obtain ⟨c0,c1,c2,cf⟩:=row3 (HTW.out _ hb1).2.1
  obtain ⟨r0,r1,r2,rf⟩:=row3 (HTW.out _ hb1).2.2
  have HG:Hid _:=heap_set3 w1 (w.heap.size + 1) 29 _ _ _ (.int .i64 (E:Int)) (.int .i64 (B:Int)) (.slice P N.length c) (HTW.out _ hb1).2.2
  clear hb1 hW0
  go_wp2
  obtain ⟨g0,g1,g2,gf⟩:=row3 HG.out.1
  exact bodyPost_ret (v:=.tuple #[rlV E B (.slice P N.length c),.int .i64 2]) (by simp [results,Tryz.results34,go_sem,g0,g1,g2]) rfl ⟨rfl,below_set3 (HTW.out _ HX1.out).1 (by omega) _ _ _⟩
end
end Go.Proofs.YtjnbjfjoejfmpaaGreatDoor
namespace Go.Proofs.YtjnbjfjoejfmpaaGreatDoor
open Go.RowKit
set_option linter.unusedVariables false
set_option linter.unusedSimpArgs false
section
variable {ok:Nat → Prop}
set_option maxHeartbeats 2000000 in
set_option maxRecDepth 100000 in
theorem rins_no (E B:Nat) (v:Value) (N:QM.NL) (i:Int) (s:ByteArray) (hi:¬ (0 ≤ i∧i ≤ (N.flatten.length:Int))) (hl:N.flatten.length ≤ 1000) (hln:N.length ≤ 1000) (w:World) (h:RL ok w v N) :
    Calls Tryz.prog 37 #[rlV E B v,.int .i64 i,.string s] w fun e w'=>e=.returned (.tuple #[rlV E B v,.int .i64 1])∧Below w.heap.size w w':=by
  obtain ⟨P,c,rfl⟩:=h.form
  have HLE:Hid (∀ W,Below w.heap.size w W → Calls Tryz.prog 16 #[rlV E B (.slice P N.length c)] W fun e w'=>e=.returned (.int .i64 (N.flatten.length:Int))∧Below W.heap.size W w'):=fun W hW=>rlen_any E B _ N (by omega) (by omega) W (h.on hW)
  obtain ⟨W0,hW0⟩:∃ W0,W0=(w.alloc (.cells #[.int .i64 (E:Int),.int .i64 (B:Int),.slice P N.length c] 29)).alloc (.cells #[.int .i64 0,.int .i64 0,.slice none 0 0] 29):=⟨_,rfl⟩
  have HTW:Hid (∀ W,Below W0.heap.size W0 W → Below w.heap.size w W∧W.heap[w.heap.size]?=some (.cells #[.int .i64 (E:Int),.int .i64 (B:Int),.slice P N.length c] 29)∧W.heap[w.heap.size + 1]?=some (.cells #[.int .i64 0,.int .i64 0,.slice none 0 0] 29)):=fun W hW=>by rw [hW0] at hW; exact two_rows hW
  obtain ⟨F,hF⟩:∃ F,N.flatten.length=F:=⟨_,rfl⟩
  rw [hF] at hi HLE
  clear h hF
  by_cases h1:i < 0
  · clear hi
    have HX1:Hid (Below W0.heap.size W0 W0):=Below.refl _ _
    obtain ⟨c0,c1,c2,cf⟩:=row3 (HTW.out _ HX1.out).2.1
    obtain ⟨r0,r1,r2,rf⟩:=row3 (HTW.out _ HX1.out).2.2
    have HG:Hid _:=heap_set3 W0 (w.heap.size + 1) 29 _ _ _ (.int .i64 (E:Int)) (.int .i64 (B:Int)) (.slice P N.length c) (HTW.out _ HX1.out).2.2
    go_enter Tryz.func37,Tryz.ntmps37
    go_upto_region 1 with fail
    rw [← hW0]
    clear hW0
    go_wp2
    obtain ⟨g0,g1,g2,gf⟩:=row3 HG.out.1
    exact bodyPost_ret (v:=.tuple #[rlV E B (.slice P N.length c),.int .i64 1]) (by simp [results,Tryz.results37,go_sem,g0,g1,g2]) rfl ⟨rfl,below_set3 (HTW.out _ HX1.out).1 (by omega) _ _ _⟩
  · have h2:(F:Int) < i:=by omega
    clear hi
    go_enter Tryz.func37,Tryz.ntmps37
    go_wp2_with fail
    rw [← hW0]
    refine (show Calls _ _ _ _ _ from HLE.out _ (HTW.out _ (Below.refl _ _)).1).mono ?_
    rintro e w1 ⟨rfl,hb1⟩
    have HX1:Hid (Below W0.heap.size W0 w1):=hb1
    obtain ⟨c0,c1,c2,cf⟩:=row3 (HTW.out _ hb1).2.1
    obtain ⟨r0,r1,r2,rf⟩:=row3 (HTW.out _ hb1).2.2
    have HG:Hid _:=heap_set3 w1 (w.heap.size + 1) 29 _ _ _ (.int .i64 (E:Int)) (.int .i64 (B:Int)) (.slice P N.length c) (HTW.out _ hb1).2.2
    clear hb1 hW0
    go_wp2
    obtain ⟨g0,g1,g2,gf⟩:=row3 HG.out.1
    exact bodyPost_ret (v:=.tuple #[rlV E B (.slice P N.length c),.int .i64 1]) (by simp [results,Tryz.results37,go_sem,g0,g1,g2]) rfl ⟨rfl,below_set3 (HTW.out _ HX1.out).1 (by omega) _ _ _⟩
set_option maxHeartbeats 2000000 in
set_option maxRecDepth 100000 in
theorem rins_long (E B:Nat) (v:Value) (N:QM.NL) (i:Nat) (s:ByteArray) (hi:i ≤ N.flatten.length) (hs:524288 < s.size) (hl:N.flatten.length ≤ 1000) (hln:N.length ≤ 1000) (w:World) (h:RL ok w v N) :
    Calls Tryz.prog 37 #[rlV E B v,.int .i64 (i:Int),.string s] w fun e w'=>e=.returned (.tuple #[rlV E B v,.int .i64 2])∧Below w.heap.size w w':=by
  obtain ⟨P,c,rfl⟩:=h.form
  have HLE:Hid (∀ W,Below w.heap.size w W → Calls Tryz.prog 16 #[rlV E B (.slice P N.length c)] W fun e w'=>e=.returned (.int .i64 (N.flatten.length:Int))∧Below W.heap.size W w'):=fun W hW=>rlen_any E B _ N (by omega) (by omega) W (h.on hW)
  have HMA:Hid (∀ W,Below w.heap.size w W → Calls Tryz.prog 73 #[rlV E B (.slice P N.length c),.string s,.int .i64 1] W fun e w'=>e=.returned (.int .i64 2)∧Below W.heap.size W w'):=fun W hW=>by
    have:=may_any E B _ N s 1 (by omega) hl hln W (h.on hW)
    rw [if_pos hs] at this; exact this
  obtain ⟨W0,hW0⟩:∃ W0,W0=(w.alloc (.cells #[.int .i64 (E:Int),.int .i64 (B:Int),.slice P N.length c] 29)).alloc (.cells #[.int .i64 0,.int .i64 0,.slice none 0 0] 29):=⟨_,rfl⟩
  have HTW:Hid (∀ W,Below W0.heap.size W0 W → Below w.heap.size w W∧W.heap[w.heap.size]?=some (.cells #[.int .i64 (E:Int),.int .i64 (B:Int),.slice P N.length c] 29)∧W.heap[w.heap.size + 1]?=some (.cells #[.int .i64 0,.int .i64 0,.slice none 0 0] 29)):=fun W hW=>by rw [hW0] at hW; exact two_rows hW
  obtain ⟨F,hF⟩:∃ F,N.flatten.length=F:=⟨_,rfl⟩
  rw [hF] at hi HLE
  have hi2:¬ ((i:Int) < 0):=by omega
  have hi3:¬ ((F:Int) < (i:Int)):=by omega
  have hi4:¬ (F < i):=by omega
  clear h hF
  go_enter Tryz.func37,Tryz.ntmps37
  go_wp2_with fail
  rw [← hW0]
  refine (show Calls _ _ _ _ _ from HLE.out _ (HTW.out _ (Below.refl _ _)).1).mono ?_
  rintro e w1 ⟨rfl,hb1⟩
  have HX1:Hid (Below W0.heap.size W0 w1):=hb1
  obtain ⟨c0,c1,c2,cf⟩:=row3 (HTW.out _ hb1).2.1
  clear hb1 hW0
  go_wp2_with fail
  refine (show Calls _ _ _ _ _ from HMA.out _ (HTW.out _ HX1.out).1).mono ?_
  rintro e w2 ⟨rfl,hb2⟩
  have HX2:Hid (Below W0.heap.size W0 w2):=bel_to HX1.out hb2 (Nat.le_refl _)
  clear c0 c1 c2 cf hb2
  obtain ⟨c0,c1,c2,cf⟩:=row3 (HTW.out _ HX2.out).2.1
  obtain ⟨r0,r1,r2,rf⟩:=row3 (HTW.out _ HX2.out).2.2
  have HG:Hid _:=heap_set3 w2 (w.heap.size + 1) 29 _ _ _ (.int .i64 (E:Int)) (.int .i64 (B:Int)) (.slice P N.length c) (HTW.out _ HX2.out).2.2
  go_wp2
  obtain ⟨g0,g1,g2,gf⟩:=row3 HG.out.1
  exact bodyPost_ret (v:=.tuple #[rlV E B (.slice P N.length c),.int .i64 2]) (by simp [results,Tryz.results37,go_sem,g0,g1,g2]) rfl ⟨rfl,below_set3 (HTW.out _ HX2.out).1 (by omega) _ _ _⟩
set_option maxHeartbeats 2000000 in
set_option maxRecDepth 100000 in
theorem rins_end (E B:Nat) (v:Value) (N:QM.NL) (i:Nat) (s:ByteArray) (hi:i=N.flatten.length) (hI:QM.Inv E B N) (hs:s.size ≤ 524288) (hl:N.flatten.length ≤ 1000) (w:World) (hk:∀ k,w.heap.size ≤ k → ok k) (h:RL ok w v N) :
    Calls Tryz.prog 37 #[rlV E B v,.int .i64 (i:Int),.string s] w fun e w'=>∃ v',e=.returned (.tuple #[rlV E B v',.int .i64 0])∧RL ok w' v' (QM.push E B N s false)∧Below w.heap.size w w':=by
  have hln:N.length ≤ 1000:=Nat.le_trans (QM.len_le hI.some) hl
  obtain ⟨P,c,rfl⟩:=h.form
  have HLE:Hid (∀ W,Below w.heap.size w W → Calls Tryz.prog 16 #[rlV E B (.slice P N.length c)] W fun e w'=>e=.returned (.int .i64 (N.flatten.length:Int))∧Below W.heap.size W w'):=fun W hW=>rlen_any E B _ N (by omega) (by omega) W (h.on hW)
  have HMA:Hid (∀ W,Below w.heap.size w W → Calls Tryz.prog 73 #[rlV E B (.slice P N.length c),.string s,.int .i64 1] W fun e w'=>e=.returned (.int .i64 0)∧Below W.heap.size W w'):=fun W hW=>by
    have:=may_any E B _ N s 1 (by omega) hl hln W (h.on hW)
    rw [if_neg (by omega)] at this; exact this
  obtain ⟨W0,hW0⟩:∃ W0,W0=(w.alloc (.cells #[.int .i64 (E:Int),.int .i64 (B:Int),.slice P N.length c] 29)).alloc (.cells #[.int .i64 0,.int .i64 0,.slice none 0 0] 29):=⟨_,rfl⟩
  have HTW:Hid (∀ W,Below W0.heap.size W0 W → Below w.heap.size w W∧W.heap[w.heap.size]?=some (.cells #[.int .i64 (E:Int),.int .i64 (B:Int),.slice P N.length c] 29)∧W.heap[w.heap.size + 1]?=some (.cells #[.int .i64 0,.int .i64 0,.slice none 0 0] 29)):=fun W hW=>by rw [hW0] at hW; exact two_rows hW
  have HZ0:Hid (W0.heap.size=w.heap.size + 2):=by show _=_; rw [hW0]; simp
  have HPU:Hid (∀ W,Below W0.heap.size W0 W → Calls Tryz.prog 34 #[rlV E B (.slice P N.length c),.string s,.bool false] W fun e w'=>∃ P' n' c',e=.returned (.tuple #[rlV E B (.slice P' n' c'),.int .i64 0])∧RL (fun k=>ok k∧k ≠ w.heap.size + 1) w' (.slice P' n' c') (QM.push E B N s false)∧Below W.heap.size W w'):=fun W hW=>by
    have hz:=HZ0.out
    have hs1:=hW.size
    refine Calls.mono (rpush_any (ok:=fun k=>ok k∧k ≠ w.heap.size + 1) E B (.slice P N.length c) N s false hI hl hs W (fun k hk1=>⟨hk k (by omega),by omega⟩) ((h.weak (fun k hk1 hk2=>⟨hk2,by omega⟩)).on (HTW.out W hW).1)) ?_
    rintro e w' ⟨v',rfl,h4,h5⟩
    obtain ⟨P',c',rfl⟩:=h4.form
    exact ⟨P',_,c',rfl,h4,h5⟩
  generalize QM.push E B N s false=N' at *
  obtain ⟨F,hF⟩:∃ F,N.flatten.length=F:=⟨_,rfl⟩
  rw [hF] at hi HLE
  subst hi
  have hi2:¬ ((i:Int) < 0):=by omega
  have hi3:¬ ((i:Int) < (i:Int)):=by omega
  clear h hF
  go_enter Tryz.func37,Tryz.ntmps37
  go_wp2_with fail
  rw [← hW0]
  refine (show Calls _ _ _ _ _ from HLE.out _ (HTW.out _ (Below.refl _ _)).1).mono ?_
  rintro e w1 ⟨rfl,hb1⟩
  have HX1:Hid (Below W0.heap.size W0 w1):=hb1
  obtain ⟨c0,c1,c2,cf⟩:=row3 (HTW.out _ hb1).2.1
  clear hb1 hW0
  go_wp2_with fail
  refine (show Calls _ _ _ _ _ from HMA.out _ (HTW.out _ HX1.out).1).mono ?_
  rintro e w2 ⟨rfl,hb2⟩
  have HX2:Hid (Below W0.heap.size W0 w2):=bel_to HX1.out hb2 (Nat.le_refl _)
  clear c0 c1 c2 cf hb2
  obtain ⟨c0,c1,c2,cf⟩:=row3 (HTW.out _ HX2.out).2.1
  go_wp2_with fail
  refine (show Calls _ _ _ _ _ from HLE.out _ (HTW.out _ HX2.out).1).mono ?_
  rintro e w3 ⟨rfl,hb3⟩
  have HX3:Hid (Below W0.heap.size W0 w3):=bel_to HX2.out hb3 (Nat.le_refl _)
  clear c0 c1 c2 cf hb3
  obtain ⟨c0,c1,c2,cf⟩:=row3 (HTW.out _ HX3.out).2.1
  go_wp2_with fail
  refine (show Calls _ _ _ _ _ from HPU.out _ HX3.out).mono ?_
  rintro e w4 ⟨P',n',c',rfl,hR,hb4⟩
  have HX4:Hid (Below W0.heap.size W0 w4):=bel_to HX3.out hb4 (Nat.le_refl _)
  have HR:Hid (RL (fun k=>ok k∧k ≠ w.heap.size + 1) w4 (.slice P' n' c') N'):=hR
  clear c0 c1 c2 cf hb4 hR
  obtain ⟨r0,r1,r2,rf⟩:=row3 (HTW.out _ HX4.out).2.2
  have HG:Hid _:=heap_set3 w4 (w.heap.size + 1) 29 _ _ _ (.int .i64 (E:Int)) (.int .i64 (B:Int)) (.slice P' n' c') (HTW.out _ HX4.out).2.2
  go_wp2
  obtain ⟨g0,g1,g2,gf⟩:=row3 HG.out.1
  exact bodyPost_ret (v:=.tuple #[rlV E B (.slice P' n' c'),.int .i64 0]) (by simp [results,Tryz.results37,go_sem,g0,g1,g2]) rfl ⟨_,rfl,fin_rl _ _ _ (HTW.out _ HX4.out).2.2 HR.out,below_set3 (HTW.out _ HX4.out).1 (by omega) _ _ _⟩
end
end Go.Proofs.YtjnbjfjoejfmpaaGreatDoor
