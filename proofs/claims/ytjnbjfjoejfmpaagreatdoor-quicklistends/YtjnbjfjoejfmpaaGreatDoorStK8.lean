import Derived.Test.YtjnbjfjoejfmpaaGreatDoorWBA
import Derived.Deep.RegionHeld3
import Derived.Test.YtjnbjfjoejfmpaaGreatDoorWAK
import Derived.Test.YtjnbjfjoejfmpaaGreatDoorRRa
namespace Go.Proofs.YtjnbjfjoejfmpaaGreatDoor
open Go.RowKit
set_option linter.unusedVariables false
set_option linter.unusedSimpArgs false
section
variable {x b0 g r c:Nat} {rest:List Value} {nv:Value} {E B:Nat} {N:QM.NL}
set_option maxHeartbeats 4000000 in
set_option maxRecDepth 100000 in
theorem step_8 (a b:Int) (tx:ByteArray) (fl:Bool) (S:Int) (ob:Bool) (dv:Value) (w:World) (hx:x < w.heap.size) (hL:LS w b0 g r c rest nv E B (nds B N)) (hR:RL (okP x g r nv) w dv N)
    (hD:∀ (ok:Nat → Prop) W,RL ok W dv N → Calls Tryz.prog 46 #[rlV E B dv,.string tx,.int .i64 a,.int .i64 b] W fun e w'=>e=.returned (.tuple #[.int .i64 S,.bool ob])∧Below W.heap.size W w')
    (hP:∀ W,Below w.heap.size w W → Calls Tryz.prog 47 #[ptr g,.string tx,.int .i64 a,.int .i64 b] W fun e w'=>e=.returned (.tuple #[.int .i64 S,.bool ob])∧Below W.heap.size W w') :
    Calls Tryz.prog 21 #[ptr g,rlV E B dv,.agg #[.int .i64 8,.int .i64 a,.int .i64 b,.string tx,.bool fl]] w fun e w'=>∃ dv',e=.returned (.tuple #[rlV E B dv',.bool true])∧Both x w w' b0 g r c rest nv E B N dv':=by
  obtain ⟨P,c1,rfl⟩:=hR.form
  have HL:Hid (LS w b0 g r c rest nv E B (nds B N)):=hL
  have HRR:Hid (RL (okP x g r nv) w (.slice P N.length c1) N):=hR
  obtain ⟨n,hn⟩:∃ n,N.length=n:=⟨_,rfl⟩
  rw [hn] at HRR hR ⊢
  obtain ⟨W0,hW0⟩:∃ W0,W0=((w.alloc (.cells #[.int .i64 (E:Int),.int .i64 (B:Int),.slice P n c1] 29)).alloc (.cells #[.int .i64 8,.int .i64 a,.int .i64 b,.string tx,.bool fl] 46)).alloc (.cells #[.int .i64 0,.int .i64 0,.slice none 0 0] 29):=⟨_,rfl⟩
  have HB0:Hid (Below w.heap.size w W0):=by show Below _ _ _; rw [hW0]; exact (((Below.refl _ w).alloc (Nat.le_refl _) _).alloc (by simp) _).alloc (by simp; omega) _
  have HZ0:Hid (W0.heap.size=w.heap.size + 3):=by show _=_; rw [hW0]; simp
  have HR0:Hid (W0.heap[w.heap.size]?=some (.cells #[.int .i64 (E:Int),.int .i64 (B:Int),.slice P n c1] 29)∧W0.heap[w.heap.size + 1]?=some (.cells #[.int .i64 8,.int .i64 a,.int .i64 b,.string tx,.bool fl] 46)∧W0.heap[w.heap.size + 1 + 1]?=some (.cells #[.int .i64 0,.int .i64 0,.slice none 0 0] 29)):=by
    rw [hW0]; exact ⟨(three_rows (Below.refl _ _)).2.1,(three_rows (Below.refl _ _)).2.2,three_r3 _ _ _ _⟩
  have HD:Hid (Calls Tryz.prog 46 #[rlV E B (.slice P n c1),.string tx,.int .i64 a,.int .i64 b] W0 fun e w'=>e=.returned (.tuple #[.int .i64 S,.bool ob])∧Below W0.heap.size W0 w'):=by
    rw [hn] at hD
    exact hD _ W0 (hR.on HB0.out)
  have HP:Hid _:=hP
  have hsame:(S == S)=true:=by simp
  have hsb:(ob == ob)=true:=by simp
  clear hD hP hL hR hn
  go_enter Tryz.func21,Tryz.ntmps21
  go_wp2_with fail
  rw [← hW0]
  clear hW0
  refine (show Calls _ _ _ _ _ from HD.out).mono ?_
  rintro e w1 ⟨rfl,hb1⟩
  have HX1:Hid (Below W0.heap.size W0 w1):=hb1
  obtain ⟨o0,o1,o2,o3,o4,of⟩:=row5 (keep_row HR0.out.2.1 hb1)
  clear hb1
  go_wp2_with fail
  refine (show Calls _ _ _ _ _ from HP.out _ (bel_to HB0.out HX1.out (Nat.le_refl _))).mono ?_
  rintro e a5 ⟨rfl,hb5⟩
  have HX5:Hid (Below W0.heap.size W0 a5):=bel_to HX1.out hb5 (Nat.le_refl _)
  clear hb5 o0 o1 o2 o3 o4 of
  have HB5:Hid (Below w.heap.size w a5):=bel_to HB0.out HX5.out (Nat.le_refl _)
  have HZ5:Hid (a5.heap[w.heap.size + 1 + 1]?=some (.cells #[.int .i64 0,.int .i64 0,.slice none 0 0] 29)):=keep_row HR0.out.2.2 HX5.out
  obtain ⟨z0,z1,z2,zf⟩:=row3 HZ5.out
  obtain ⟨d0,d1,d2,df⟩:=row3 (keep_row HR0.out.1 HX5.out)
  have HG:Hid _:=heap_set3 a5 (w.heap.size + 1 + 1) 29 _ _ _ (.int .i64 (E:Int)) (.int .i64 (B:Int)) (.slice P n c1) HZ5.out
  go_wp2
  obtain ⟨g0,g1,g2,gf⟩:=row3 HG.out.1
  refine bodyPost_ret (v:=.tuple #[rlV E B (.slice P n c1),.bool true]) (by simp [results,Tryz.results21,go_sem,g0,g1,g2]) rfl ⟨_,rfl,both_fin _ _ _ HL.out HB5.out (Chg.of_bel (HL.out.on HB5.out) (Below.refl _ _)) ((HRR.out.weak (fun k hk h=>⟨h,by omega⟩)).on HB5.out) (by omega) (row_lt HZ5.out) HZ5.out⟩
end
end Go.Proofs.YtjnbjfjoejfmpaaGreatDoor
