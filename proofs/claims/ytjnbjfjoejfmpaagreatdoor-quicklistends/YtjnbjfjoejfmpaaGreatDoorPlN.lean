import Derived.Test.YtjnbjfjoejfmpaaGreatDoorWBF
namespace Go.Proofs.YtjnbjfjoejfmpaaGreatDoor
open Go.RowKit
set_option linter.unusedVariables false
set_option linter.unusedSimpArgs false
set_option maxHeartbeats 6000000 in
set_option maxRecDepth 100000 in
theorem play_no (e b:Int) (hm:mayB e b=false) (ad:Option Addr) (len cap:Nat) (klo khi:Int) (hlen:len ≤ 9223372036854775807) (w:World) (hw:Lay w):Calls Tryz.prog 18 #[.agg #[.int .i64 e,.int .i64 b,.slice ad len cap],.int .i64 klo,.int .i64 khi] w fun r w'=>r=.returned (.bool true)∧Below w.heap.size w w':=by
  obtain ⟨W0,hW0⟩:∃ W0,W0=w.alloc (.cells #[.int .i64 e,.int .i64 b,.slice ad len cap] 42):=⟨_,rfl⟩
  have HB0:Hid (Below w.heap.size w W0):=by show Below _ _ _; rw [hW0]; exact (Below.refl _ _).alloc (Nat.le_refl _) _
  have HC0:Hid (W0.heap[w.heap.size]?=some (.cells #[.int .i64 e,.int .i64 b,.slice ad len cap] 42)):=by show _=_; rw [hW0]; exact one_alloc _ _
  have HW:Hid (Lay w):=hw
  have HN:Hid _:=New_no e b hm W0
  have HRN:Hid _:=rnew_no e b hm
  have HNU:Hid (∀ W,Calls Tryz.prog 11 #[.int .i64 1] W fun e w'=>e=.returned (.int .i64 1)∧w'=W):=fun W=>num_any 1 W
  clear hw hm
  obtain ⟨c0,c1,c2,cf⟩:=row3 HC0.out
  go_enter Tryz.func18,Tryz.ntmps18
  go_upto_region 1 with fail
  rw [← hW0]
  clear hW0
  go_wp2_with fail
  refine (show Calls _ _ _ _ _ from HN.out).mono ?_
  rintro e1 w1 ⟨rfl,hb1⟩
  have HX1:Hid (Below W0.heap.size W0 w1):=hb1
  clear c0 c1 c2 cf
  obtain ⟨c0,c1,c2,cf⟩:=row3 (keep_row HC0.out hb1)
  clear hb1
  go_wp2_with fail
  refine (show Calls _ _ _ _ _ from HRN.out _).mono ?_
  rintro e2 w2 ⟨rfl,hb2⟩
  have HX2:Hid (Below W0.heap.size W0 w2):=bel_to HX1.out hb2 (Nat.le_refl _)
  clear c0 c1 c2 cf hb2
  obtain ⟨W3,hW3⟩:∃ W3,W3=w2.alloc (.cells #[.int .i64 0,.int .i64 0,.slice none 0 0] 29):=⟨_,rfl⟩
  have HX3:Hid (Below W0.heap.size W0 W3):=by show Below _ _ _; rw [hW3]; exact bel_to HX2.out ((Below.refl _ _).alloc (Nat.le_refl _) _) (Nat.le_refl _)
  go_upto_region 3 with fail
  rw [← hW3]
  clear hW3
  go_wp2_with fail
  refine (show Calls _ _ _ _ _ from HNU.out _).mono ?_
  rintro e3 w3 ⟨rfl,hw3⟩
  have hw3':=hw3.symm; subst hw3'
  have HC3:Hid _:=keep_row HC0.out HX3.out
  go_wp2
  go_loopw [11] (fun ci wr=>ci=.int .i64 0∧Below W0.heap.size W0 wr) (fun _ _=>0)
  case atStart=>exact ⟨rfl,HX3.out⟩
  case round =>
    obtain ⟨rfl,hb4⟩:=hrel
    have HX4:Hid (Below w.heap.size w wr):=bel_to HB0.out hb4 (Nat.le_refl _)
    obtain ⟨c0,c1,c2,cf⟩:=row3 (keep_row HC0.out hb4)
    have HSU:Hid _:=sure_any wr (HW.out.on HX4.out)
    clear hb4
    by_cases hlt:0 < len
    · have hl0:(0:Int) < (len:Int):=by omega
      go_wp2_with fail
      refine (show Calls _ _ _ _ _ from HSU.out).mono ?_
      rintro e6 w6 ⟨rfl,hb6⟩
      have HX6:Hid (Below w.heap.size w w6):=bel_to HX4.out hb6 (Nat.le_refl _)
      clear hb6 c0 c1 c2 cf
      go_wp2
      go_returns
      exact ⟨by first | rfl | (simp; done),HX6.out⟩
    · have hl0:¬ (0:Int) < (len:Int):=by omega
      go_wp2_with fail
      refine (show Calls _ _ _ _ _ from HSU.out).mono ?_
      rintro e6 w6 ⟨rfl,hb6⟩
      have HX6:Hid (Below w.heap.size w w6):=bel_to HX4.out hb6 (Nat.le_refl _)
      clear hb6 c0 c1 c2 cf
      go_wp2
      go_returns
      exact ⟨by first | rfl | (simp; done),HX6.out⟩
end Go.Proofs.YtjnbjfjoejfmpaaGreatDoor
