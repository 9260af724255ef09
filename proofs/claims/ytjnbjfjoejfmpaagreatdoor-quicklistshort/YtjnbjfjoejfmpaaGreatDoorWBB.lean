import Derived.Test.YtjnbjfjoejfmpaaGreatDoorWBA
import Derived.Deep.RegionHeld3
import Derived.Test.YtjnbjfjoejfmpaaGreatDoorWAL
import Derived.Test.YtjnbjfjoejfmpaaGreatDoorRRa
namespace Go.Proofs.YtjnbjfjoejfmpaaGreatDoor
open Go.RowKit
set_option linter.unusedVariables false
set_option linter.unusedSimpArgs false
section
variable {x b0 g r c:Nat} {rest:List Value} {nv:Value} {E B:Nat} {N M:QM.NL}
set_option maxHeartbeats 4000000 in
set_option maxRecDepth 100000 in
theorem stepJ_0 (kd:Int) (a b:Int) (tx:ByteArray) (fl:Bool)  (dv:Value) (w:World) (hL:LS w b0 g r c rest nv E B (nds B N)) (hR:RL (fun _=>True) w dv M) (hk:∀ j:Int,1 ≤ j → j ≤ 8 → kd ≠ j) :
    Calls Tryz.prog 21 #[ptr g,rlV E B dv,.agg #[.int .i64 kd,.int .i64 a,.int .i64 b,.string tx,.bool fl]] w fun e w'=>∃ v bb,e=.returned (.tuple #[v,.bool bb])∧Chg w w' b0 g r c rest nv E B N:=by
  obtain ⟨P,c1,rfl⟩:=hR.form
  have HL:Hid (LS w b0 g r c rest nv E B (nds B N)):=hL
  obtain ⟨n,hn⟩:∃ n,M.length=n:=⟨_,rfl⟩
  rw [hn] at hR ⊢
  obtain ⟨W0,hW0⟩:∃ W0,W0=((w.alloc (.cells #[.int .i64 (E:Int),.int .i64 (B:Int),.slice P n c1] 29)).alloc (.cells #[.int .i64 kd,.int .i64 a,.int .i64 b,.string tx,.bool fl] 46)).alloc (.cells #[.int .i64 0,.int .i64 0,.slice none 0 0] 29):=⟨_,rfl⟩
  have HB0:Hid (Below w.heap.size w W0):=by show Below _ _ _; rw [hW0]; exact (((Below.refl _ w).alloc (Nat.le_refl _) _).alloc (by simp) _).alloc (by simp; omega) _
  have HZ0:Hid (W0.heap.size=w.heap.size + 3):=by show _=_; rw [hW0]; simp
  have HR0:Hid (W0.heap[w.heap.size]?=some (.cells #[.int .i64 (E:Int),.int .i64 (B:Int),.slice P n c1] 29)∧W0.heap[w.heap.size + 1]?=some (.cells #[.int .i64 kd,.int .i64 a,.int .i64 b,.string tx,.bool fl] 46)∧W0.heap[w.heap.size + 1 + 1]?=some (.cells #[.int .i64 0,.int .i64 0,.slice none 0 0] 29)):=by
    rw [hW0]; exact ⟨(three_rows (Below.refl _ _)).2.1,(three_rows (Below.refl _ _)).2.2,three_r3 _ _ _ _⟩
  have k1:(kd == 1)=false:=by simpa using hk 1 (by omega) (by omega)
  have k2:(kd == 2)=false:=by simpa using hk 2 (by omega) (by omega)
  have k3:(kd == 3)=false:=by simpa using hk 3 (by omega) (by omega)
  have k4:(kd == 4)=false:=by simpa using hk 4 (by omega) (by omega)
  have k5:(kd == 5)=false:=by simpa using hk 5 (by omega) (by omega)
  have k6:(kd == 6)=false:=by simpa using hk 6 (by omega) (by omega)
  have k7:(kd == 7)=false:=by simpa using hk 7 (by omega) (by omega)
  have k8:(kd == 8)=false:=by simpa using hk 8 (by omega) (by omega)
  have HX5:Hid (Below W0.heap.size W0 W0):=Below.refl _ _
  clear hL hR hn hk
  obtain ⟨o0,o1,o2,o3,o4,of⟩:=row5 HR0.out.2.1
  go_enter Tryz.func21,Tryz.ntmps21
  go_upto_region 1 with fail
  rw [← hW0]
  clear hW0
  have HB5:Hid (Below w.heap.size w W0):=bel_to HB0.out HX5.out (Nat.le_refl _)
  have HZ5:Hid (W0.heap[w.heap.size + 1 + 1]?=some (.cells #[.int .i64 0,.int .i64 0,.slice none 0 0] 29)):=keep_row HR0.out.2.2 HX5.out
  obtain ⟨z0,z1,z2,zf⟩:=row3 HZ5.out
  obtain ⟨d0,d1,d2,df⟩:=row3 (keep_row HR0.out.1 HX5.out)
  have HG:Hid _:=heap_set3 W0 (w.heap.size + 1 + 1) 29 _ _ _ (.int .i64 (E:Int)) (.int .i64 (B:Int)) (.slice P n c1) HZ5.out
  go_wp2
  obtain ⟨g0,g1,g2,gf⟩:=row3 HG.out.1
  refine bodyPost_ret (v:=.tuple #[rlV E B (.slice P n c1),.bool true]) (by simp [results,Tryz.results21,go_sem,g0,g1,g2]) rfl ⟨_,_,rfl,chg_fin _ _ _ HL.out HB5.out (Chg.of_bel (HL.out.on HB5.out) (Below.refl _ _)) (by omega) (row_lt HZ5.out) HZ5.out⟩
end
end Go.Proofs.YtjnbjfjoejfmpaaGreatDoor
namespace Go.Proofs.YtjnbjfjoejfmpaaGreatDoor
open Go.RowKit
set_option linter.unusedVariables false
set_option linter.unusedSimpArgs false
section
variable {x b0 g r c:Nat} {rest:List Value} {nv:Value} {E B:Nat} {N M:QM.NL}
set_option maxHeartbeats 4000000 in
set_option maxRecDepth 100000 in
theorem stepJ_2 (a b:Int) (tx:ByteArray) (fl:Bool) (S T:ByteArray) (ob pb b1 b2:Bool) (hb1:(S.toList == T.toList)=b1) (hb2:(ob == pb)=b2) (N':QM.NL) (dv:Value) (w:World) (hL:LS w b0 g r c rest nv E B (nds B N)) (hR:RL (fun _=>True) w dv M)
    (hD:∀ W,RL (fun _=>True) W dv M → Calls Tryz.prog 35 #[rlV E B dv,.bool fl] W fun e w'=>∃ v' M',e=.returned (.tuple #[rlV E B v',.string S,.bool ob])∧RL (fun _=>True) w' v' M'∧Below W.heap.size W w')
    (hP:∀ W,Below w.heap.size w W → Calls Tryz.prog 36 #[ptr g,.bool fl] W fun e w'=>e=.returned (.tuple #[.string T,.bool pb])∧Chg W w' b0 g r c rest nv E B N') :
    Calls Tryz.prog 21 #[ptr g,rlV E B dv,.agg #[.int .i64 2,.int .i64 a,.int .i64 b,.string tx,.bool fl]] w fun e w'=>∃ v bb,e=.returned (.tuple #[v,.bool bb])∧Chg w w' b0 g r c rest nv E B N':=by
  obtain ⟨P,c1,rfl⟩:=hR.form
  have HL:Hid (LS w b0 g r c rest nv E B (nds B N)):=hL
  obtain ⟨n,hn⟩:∃ n,M.length=n:=⟨_,rfl⟩
  rw [hn] at hR ⊢
  obtain ⟨W0,hW0⟩:∃ W0,W0=((w.alloc (.cells #[.int .i64 (E:Int),.int .i64 (B:Int),.slice P n c1] 29)).alloc (.cells #[.int .i64 2,.int .i64 a,.int .i64 b,.string tx,.bool fl] 46)).alloc (.cells #[.int .i64 0,.int .i64 0,.slice none 0 0] 29):=⟨_,rfl⟩
  have HB0:Hid (Below w.heap.size w W0):=by show Below _ _ _; rw [hW0]; exact (((Below.refl _ w).alloc (Nat.le_refl _) _).alloc (by simp) _).alloc (by simp; omega) _
  have HZ0:Hid (W0.heap.size=w.heap.size + 3):=by show _=_; rw [hW0]; simp
  have HR0:Hid (W0.heap[w.heap.size]?=some (.cells #[.int .i64 (E:Int),.int .i64 (B:Int),.slice P n c1] 29)∧W0.heap[w.heap.size + 1]?=some (.cells #[.int .i64 2,.int .i64 a,.int .i64 b,.string tx,.bool fl] 46)∧W0.heap[w.heap.size + 1 + 1]?=some (.cells #[.int .i64 0,.int .i64 0,.slice none 0 0] 29)):=by
    rw [hW0]; exact ⟨(three_rows (Below.refl _ _)).2.1,(three_rows (Below.refl _ _)).2.2,three_r3 _ _ _ _⟩
  have HD:Hid (Calls Tryz.prog 35 #[rlV E B (.slice P n c1),.bool fl] W0 fun e w'=>∃ P' n' c',e=.returned (.tuple #[rlV E B (.slice P' n' c'),.string S,.bool ob])∧Below W0.heap.size W0 w'):=by
    have hz:=HZ0.out
    have hgl:=row_lt hL.hd
    have hrl:=row_lt hL.rw_
    rw [hn] at hD
    refine (hD W0 (hR.on HB0.out)).mono ?_
    rintro e w' ⟨v',M',rfl,h1,h2⟩
    obtain ⟨P',c',rfl⟩:=h1.form
    exact ⟨P',_,c',rfl,h2⟩
  have HP:Hid _:=hP
  clear hD hP hL hR hn
  go_enter Tryz.func21,Tryz.ntmps21
  go_wp2_with fail
  rw [← hW0]
  clear hW0
  refine (show Calls _ _ _ _ _ from HD.out).mono ?_
  rintro e w1 ⟨P',n',c',rfl,hb1⟩
  obtain ⟨o0,o1,o2,o3,o4,of⟩:=row5 (keep_row HR0.out.2.1 hb1)
  obtain ⟨W2,hW2⟩:∃ W2,W2=w1.alloc (.cells #[.int .i64 (E:Int),.int .i64 (B:Int),.slice P' n' c'] 29):=⟨_,rfl⟩
  have hb2:Below w1.heap.size w1 W2:=by rw [hW2]; exact (Below.refl _ _).alloc (Nat.le_refl _) _
  have HB2:Hid (Below w.heap.size w W2):=bel_to (bel_to HB0.out hb1 (Nat.le_refl _)) hb2 (Nat.le_refl _)
  have HZ2:Hid (W2.heap[w.heap.size + 1 + 1]?=some (.cells #[.int .i64 0,.int .i64 0,.slice none 0 0] 29)):=keep_row (keep_row HR0.out.2.2 hb1) hb2
  have HX2:Hid (W2.heap[w1.heap.size]?=some (.cells #[.int .i64 (E:Int),.int .i64 (B:Int),.slice P' n' c'] 29)):=by show _=_; rw [hW2]; exact one_alloc _ _
  have HS1:Hid (w.heap.size ≤ w1.heap.size):=(bel_to HB0.out hb1 (Nat.le_refl _)).size
  have o4':(w1.alloc (.cells #[.int .i64 (E:Int),.int .i64 (B:Int),.slice P' n' c'] 29)).cell? ⟨w.heap.size + 1,4,none⟩=some (.bool fl):=cell_a1 o4 _
  clear hb1 hb2
  go_wp2_with fail
  rw [← hW2]
  clear hW2 o0 o1 o2 o3 o4 of o4'
  refine (show Calls _ _ _ _ _ from HP.out _ HB2.out).mono ?_
  rintro e a5 ⟨rfl,hc5⟩
  have HC5:Hid (Chg W2 a5 b0 g r c rest nv E B N'):=hc5
  have HZ5:Hid (a5.heap[w.heap.size + 1 + 1]?=some (.cells #[.int .i64 0,.int .i64 0,.slice none 0 0] 29)):=hc5.blk HL.out (by omega) HZ2.out
  obtain ⟨x0,x1,x2,xf⟩:=row3 (hc5.blk HL.out HS1.out HX2.out)
  obtain ⟨z0,z1,z2,zf⟩:=row3 HZ5.out
  have HG:Hid _:=heap_set3 a5 (w.heap.size + 1 + 1) 29 _ _ _ (.int .i64 (E:Int)) (.int .i64 (B:Int)) (.slice P' n' c') HZ5.out
  clear hc5
  cases b1 with
  | false =>
    cases b2 with
    | false =>
      go_wp2
      obtain ⟨g0,g1,g2,gf⟩:=row3 HG.out.1
      refine bodyPost_ret (v:=.tuple #[rlV E B (.slice P' n' c'),.bool false]) (by simp [results,Tryz.results21,go_sem,g0,g1,g2]) rfl ⟨_,_,rfl,chg_fin _ _ _ HL.out HB2.out HC5.out (by omega) (row_lt HZ2.out) HZ5.out⟩
    | true =>
      go_wp2
      obtain ⟨g0,g1,g2,gf⟩:=row3 HG.out.1
      refine bodyPost_ret (v:=.tuple #[rlV E B (.slice P' n' c'),.bool false]) (by simp [results,Tryz.results21,go_sem,g0,g1,g2]) rfl ⟨_,_,rfl,chg_fin _ _ _ HL.out HB2.out HC5.out (by omega) (row_lt HZ2.out) HZ5.out⟩
  | true =>
    cases b2 with
    | false =>
      go_wp2
      obtain ⟨g0,g1,g2,gf⟩:=row3 HG.out.1
      refine bodyPost_ret (v:=.tuple #[rlV E B (.slice P' n' c'),.bool false]) (by simp [results,Tryz.results21,go_sem,g0,g1,g2]) rfl ⟨_,_,rfl,chg_fin _ _ _ HL.out HB2.out HC5.out (by omega) (row_lt HZ2.out) HZ5.out⟩
    | true =>
      go_wp2
      obtain ⟨g0,g1,g2,gf⟩:=row3 HG.out.1
      refine bodyPost_ret (v:=.tuple #[rlV E B (.slice P' n' c'),.bool true]) (by simp [results,Tryz.results21,go_sem,g0,g1,g2]) rfl ⟨_,_,rfl,chg_fin _ _ _ HL.out HB2.out HC5.out (by omega) (row_lt HZ2.out) HZ5.out⟩
end
end Go.Proofs.YtjnbjfjoejfmpaaGreatDoor
namespace Go.Proofs.YtjnbjfjoejfmpaaGreatDoor
open Go.RowKit
set_option linter.unusedVariables false
set_option linter.unusedSimpArgs false
section
variable {x b0 g r c:Nat} {rest:List Value} {nv:Value} {E B:Nat} {N M:QM.NL}
set_option maxHeartbeats 4000000 in
set_option maxRecDepth 100000 in
theorem stepJ_6 (a b:Int) (tx:ByteArray) (fl:Bool) (S T:ByteArray) (ob pb b1 b2:Bool) (hb1:(S.toList == T.toList)=b1) (hb2:(ob == pb)=b2) (dv:Value) (w:World) (hL:LS w b0 g r c rest nv E B (nds B N)) (hR:RL (fun _=>True) w dv M)
    (hD:∀ W,RL (fun _=>True) W dv M → Calls Tryz.prog 43 #[rlV E B dv,.int .i64 a] W fun e w'=>e=.returned (.tuple #[.string S,.bool ob])∧Below W.heap.size W w')
    (hP:∀ W,Below w.heap.size w W → Calls Tryz.prog 44 #[ptr g,.int .i64 a] W fun e w'=>e=.returned (.tuple #[.string T,.bool pb])∧Below W.heap.size W w') :
    Calls Tryz.prog 21 #[ptr g,rlV E B dv,.agg #[.int .i64 6,.int .i64 a,.int .i64 b,.string tx,.bool fl]] w fun e w'=>∃ v bb,e=.returned (.tuple #[v,.bool bb])∧Chg w w' b0 g r c rest nv E B N:=by
  obtain ⟨P,c1,rfl⟩:=hR.form
  have HL:Hid (LS w b0 g r c rest nv E B (nds B N)):=hL
  obtain ⟨n,hn⟩:∃ n,M.length=n:=⟨_,rfl⟩
  rw [hn] at hR ⊢
  obtain ⟨W0,hW0⟩:∃ W0,W0=((w.alloc (.cells #[.int .i64 (E:Int),.int .i64 (B:Int),.slice P n c1] 29)).alloc (.cells #[.int .i64 6,.int .i64 a,.int .i64 b,.string tx,.bool fl] 46)).alloc (.cells #[.int .i64 0,.int .i64 0,.slice none 0 0] 29):=⟨_,rfl⟩
  have HB0:Hid (Below w.heap.size w W0):=by show Below _ _ _; rw [hW0]; exact (((Below.refl _ w).alloc (Nat.le_refl _) _).alloc (by simp) _).alloc (by simp; omega) _
  have HZ0:Hid (W0.heap.size=w.heap.size + 3):=by show _=_; rw [hW0]; simp
  have HR0:Hid (W0.heap[w.heap.size]?=some (.cells #[.int .i64 (E:Int),.int .i64 (B:Int),.slice P n c1] 29)∧W0.heap[w.heap.size + 1]?=some (.cells #[.int .i64 6,.int .i64 a,.int .i64 b,.string tx,.bool fl] 46)∧W0.heap[w.heap.size + 1 + 1]?=some (.cells #[.int .i64 0,.int .i64 0,.slice none 0 0] 29)):=by
    rw [hW0]; exact ⟨(three_rows (Below.refl _ _)).2.1,(three_rows (Below.refl _ _)).2.2,three_r3 _ _ _ _⟩
  have HD:Hid (Calls Tryz.prog 43 #[rlV E B (.slice P n c1),.int .i64 a] W0 fun e w'=>e=.returned (.tuple #[.string S,.bool ob])∧Below W0.heap.size W0 w'):=by
    rw [hn] at hD
    exact hD W0 (hR.on HB0.out)
  have HP:Hid _:=hP
  clear hD hP hL hR hn
  go_enter Tryz.func21,Tryz.ntmps21
  go_wp2_with fail
  rw [← hW0]
  clear hW0
  refine (show Calls _ _ _ _ _ from HD.out).mono ?_
  rintro e w1 ⟨rfl,hb1⟩
  have HX1:Hid (Below W0.heap.size W0 w1):=hb1
  obtain ⟨o0,o1,o2,o3,o4,of⟩:=row5 (keep_row HR0.out.2.1 hb1)
  clear hb1
  go_wp2_with fail
  refine (show Calls _ _ _ _ _ from HP.out _ (bel_to HB0.out HX1.out (Nat.le_refl _))).mono ?_
  rintro e a5 ⟨rfl,hb5⟩
  have HX5:Hid (Below W0.heap.size W0 a5):=bel_to HX1.out hb5 (Nat.le_refl _)
  clear hb5 o0 o1 o2 o3 o4 of
  have HB5:Hid (Below w.heap.size w a5):=bel_to HB0.out HX5.out (Nat.le_refl _)
  have HZ5:Hid (a5.heap[w.heap.size + 1 + 1]?=some (.cells #[.int .i64 0,.int .i64 0,.slice none 0 0] 29)):=keep_row HR0.out.2.2 HX5.out
  obtain ⟨z0,z1,z2,zf⟩:=row3 HZ5.out
  obtain ⟨d0,d1,d2,df⟩:=row3 (keep_row HR0.out.1 HX5.out)
  have HG:Hid _:=heap_set3 a5 (w.heap.size + 1 + 1) 29 _ _ _ (.int .i64 (E:Int)) (.int .i64 (B:Int)) (.slice P n c1) HZ5.out
  cases b1 with
  | false =>
    cases b2 with
    | false =>
      go_wp2
      obtain ⟨g0,g1,g2,gf⟩:=row3 HG.out.1
      refine bodyPost_ret (v:=.tuple #[rlV E B (.slice P n c1),.bool false]) (by simp [results,Tryz.results21,go_sem,g0,g1,g2]) rfl ⟨_,_,rfl,chg_fin _ _ _ HL.out HB5.out (Chg.of_bel (HL.out.on HB5.out) (Below.refl _ _)) (by omega) (row_lt HZ5.out) HZ5.out⟩
    | true =>
      go_wp2
      obtain ⟨g0,g1,g2,gf⟩:=row3 HG.out.1
      refine bodyPost_ret (v:=.tuple #[rlV E B (.slice P n c1),.bool false]) (by simp [results,Tryz.results21,go_sem,g0,g1,g2]) rfl ⟨_,_,rfl,chg_fin _ _ _ HL.out HB5.out (Chg.of_bel (HL.out.on HB5.out) (Below.refl _ _)) (by omega) (row_lt HZ5.out) HZ5.out⟩
  | true =>
    cases b2 with
    | false =>
      go_wp2
      obtain ⟨g0,g1,g2,gf⟩:=row3 HG.out.1
      refine bodyPost_ret (v:=.tuple #[rlV E B (.slice P n c1),.bool false]) (by simp [results,Tryz.results21,go_sem,g0,g1,g2]) rfl ⟨_,_,rfl,chg_fin _ _ _ HL.out HB5.out (Chg.of_bel (HL.out.on HB5.out) (Below.refl _ _)) (by omega) (row_lt HZ5.out) HZ5.out⟩
    | true =>
      go_wp2
      obtain ⟨g0,g1,g2,gf⟩:=row3 HG.out.1
      refine bodyPost_ret (v:=.tuple #[rlV E B (.slice P n c1),.bool true]) (by simp [results,Tryz.results21,go_sem,g0,g1,g2]) rfl ⟨_,_,rfl,chg_fin _ _ _ HL.out HB5.out (Chg.of_bel (HL.out.on HB5.out) (Below.refl _ _)) (by omega) (row_lt HZ5.out) HZ5.out⟩
end
end Go.Proofs.YtjnbjfjoejfmpaaGreatDoor
