import Derived.Test.YtjnbjfjoejfmpaaGreatDoorWBA
import Derived.Deep.RegionHeld3
import Derived.Test.YtjnbjfjoejfmpaaGreatDoorWAL
import Derived.Test.YtjnbjfjoejfmpaaGreatDoorRRa
namespace Go.Proofs.YtjnbjfjoejfmpaaGreatDoor
open Go.RowKit
set_option linter.unusedVariables false
set_option linter.unusedSimpArgs false
section
variable {x b0 g r c:Nat} {rest:List Value} {nv:Value} {E B:Nat} {N M:QM.NL}
set_option maxHeartbeats 4000000 in
set_option maxRecDepth 100000 in
theorem stepJ_7 (a b:Int) (tx:ByteArray) (fl:Bool) (Q R:List ByteArray) (hQl:Q.length ≤ 1000) (hRl:R.length ≤ 1000) (dv:Value) (w:World) (hL:LS w b0 g r c rest nv E B (nds B N)) (hR:RL (fun _=>True) w dv M)
    (hD:∀ W,RL (fun _=>True) W dv M → Calls Tryz.prog 45 #[rlV E B dv,.int .i64 a,.int .i64 b] W fun e w'=>∃ v',e=.returned v'∧SRow w' v' Q∧Below W.heap.size W w')
    (hP:∀ W,Below w.heap.size w W → Calls Tryz.prog 23 #[ptr g,.int .i64 a,.int .i64 b] W fun e w'=>∃ v',e=.returned v'∧SRow w' v' R∧Below W.heap.size W w') :
    Calls Tryz.prog 21 #[ptr g,rlV E B dv,.agg #[.int .i64 7,.int .i64 a,.int .i64 b,.string tx,.bool fl]] w fun e w'=>∃ v bb,e=.returned (.tuple #[v,.bool bb])∧Chg w w' b0 g r c rest nv E B N:=by
  obtain ⟨P,c1,rfl⟩:=hR.form
  have HL:Hid (LS w b0 g r c rest nv E B (nds B N)):=hL
  obtain ⟨n,hn⟩:∃ n,M.length=n:=⟨_,rfl⟩
  rw [hn] at hR ⊢
  obtain ⟨W0,hW0⟩:∃ W0,W0=((w.alloc (.cells #[.int .i64 (E:Int),.int .i64 (B:Int),.slice P n c1] 29)).alloc (.cells #[.int .i64 7,.int .i64 a,.int .i64 b,.string tx,.bool fl] 46)).alloc (.cells #[.int .i64 0,.int .i64 0,.slice none 0 0] 29):=⟨_,rfl⟩
  have HB0:Hid (Below w.heap.size w W0):=by show Below _ _ _; rw [hW0]; exact (((Below.refl _ w).alloc (Nat.le_refl _) _).alloc (by simp) _).alloc (by simp; omega) _
  have HZ0:Hid (W0.heap.size=w.heap.size + 3):=by show _=_; rw [hW0]; simp
  have HR0:Hid (W0.heap[w.heap.size]?=some (.cells #[.int .i64 (E:Int),.int .i64 (B:Int),.slice P n c1] 29)∧W0.heap[w.heap.size + 1]?=some (.cells #[.int .i64 7,.int .i64 a,.int .i64 b,.string tx,.bool fl] 46)∧W0.heap[w.heap.size + 1 + 1]?=some (.cells #[.int .i64 0,.int .i64 0,.slice none 0 0] 29)):=by
    rw [hW0]; exact ⟨(three_rows (Below.refl _ _)).2.1,(three_rows (Below.refl _ _)).2.2,three_r3 _ _ _ _⟩
  have HD:Hid (∀ W,Below W0.heap.size W0 W → Calls Tryz.prog 45 #[rlV E B (.slice P n c1),.int .i64 a,.int .i64 b] W fun e w'=>∃ v',e=.returned v'∧SRow w' v' Q∧Below W.heap.size W w'):=fun W hW=>by
    rw [hn] at hD
    exact hD W (hR.on (bel_to HB0.out hW (Nat.le_refl _)))
  have HP:Hid _:=hP
  have HSM:Hid (∀ W va vb,SRow W va R → SRow W vb Q → Calls Tryz.prog 12 #[va,vb] W fun e w'=>∃ bb,e=.returned (.bool bb)∧Below W.heap.size W w'):=fun W va vb h1 h2=>by
    refine (same_any va vb R Q (by omega) (by omega) W h1 h2).mono ?_
    rintro e w' ⟨⟨bb,rfl,hbb⟩,k,rfl⟩
    exact ⟨bb,rfl,below_dn (Below.refl _ _) _⟩
  have HSA:Hid (∀ W:World,Below W0.heap.size W0 W → W.cell? ⟨w.heap.size,0,none⟩=some (.int .i64 (E:Int))∧W.cell? ⟨w.heap.size,1,none⟩=some (.int .i64 (B:Int))∧W.cell? ⟨w.heap.size,2,none⟩=some (.slice P n c1)∧W.cell? ⟨w.heap.size + 1,1,none⟩=some (.int .i64 a)∧W.cell? ⟨w.heap.size + 1,2,none⟩=some (.int .i64 b)):=fun W hW=>by
    obtain ⟨d0,d1,d2,df⟩:=row3 (keep_row HR0.out.1 hW)
    obtain ⟨o0,o1,o2,o3,o4,of⟩:=row5 (keep_row HR0.out.2.1 hW)
    exact ⟨d0,d1,d2,o1,o2⟩
  have HSD:Hid (∀ (W:World) (v0 v1 v2:Value),Below W0.heap.size W0 W → (fun W:World=>W.cell? ⟨w.heap.size,0,none⟩=some (.int .i64 (E:Int))∧W.cell? ⟨w.heap.size,1,none⟩=some (.int .i64 (B:Int))∧W.cell? ⟨w.heap.size,2,none⟩=some (.slice P n c1)∧W.cell? ⟨w.heap.size + 1,1,none⟩=some (.int .i64 a)∧W.cell? ⟨w.heap.size + 1,2,none⟩=some (.int .i64 b)) (((W.setCell ⟨w.heap.size + 1 + 1,0,none⟩ v0).setCell ⟨w.heap.size + 1 + 1,1,none⟩ v1).setCell ⟨w.heap.size + 1 + 1,2,none⟩ v2)):=fun W v0 v1 v2 hW=>by
    have ho:=(((Only.refl W (w.heap.size + 1 + 1)).set 0 v0).set 1 v1).set 2 v2
    obtain ⟨q0,q1,q2,q3,q4⟩:=HSA.out W hW
    have e1:=ho.other w.heap.size (by omega)
    have e2:=ho.other (w.heap.size + 1) (by omega)
    exact ⟨(World.cell?_of_block (a:=⟨w.heap.size,0,none⟩) e1).trans q0,(World.cell?_of_block (a:=⟨w.heap.size,1,none⟩) e1).trans q1,(World.cell?_of_block (a:=⟨w.heap.size,2,none⟩) e1).trans q2,(World.cell?_of_block (a:=⟨w.heap.size + 1,1,none⟩) e2).trans q3,(World.cell?_of_block (a:=⟨w.heap.size + 1,2,none⟩) e2).trans q4⟩
  have hS0:=HSA.out W0 (Below.refl _ _)
  have hS1:=HSA.out W0.drew (Below.refl _ _).drew
  clear hD hP hL hR hn
  obtain ⟨o0,o1,o2,o3,o4,of⟩:=row5 HR0.out.2.1
  go_enter Tryz.func21,Tryz.ntmps21
  go_upto_region 23 with fail
  rw [← hW0]
  clear hW0 o0 o1 o2 o3 o4 of
  go_region_held3 (fun W:World=>W.cell? ⟨w.heap.size,0,none⟩=some (.int .i64 (E:Int))∧W.cell? ⟨w.heap.size,1,none⟩=some (.int .i64 (B:Int))∧W.cell? ⟨w.heap.size,2,none⟩=some (.slice P n c1)∧W.cell? ⟨w.heap.size + 1,1,none⟩=some (.int .i64 a)∧W.cell? ⟨w.heap.size + 1,2,none⟩=some (.int .i64 b))
    (first | with_reducible exact hS0 | with_reducible exact hS1 | with_reducible exact HSA.out _ hx4 | with_reducible exact HSA.out _ hx5 | with_reducible exact HSA.out _ hx6 | with_reducible exact HSD.out _ _ _ _ hx6)
    (first | (go_at_call 12; refine (show Calls _ _ _ _ _ from HSM.out _ _ _ (hs4.on hb5) hs5).mono ?_; rintro e a6 ⟨b6,rfl,hb6⟩; have hx6:=bel_to hx5 hb6 (Nat.le_refl _); obtain ⟨z0,z1,z2,zf⟩:=row3 (keep_row HR0.out.2.2 hx6)) | (go_at_call 45; refine (show Calls _ _ _ _ _ from HD.out _ hx4).mono ?_; rintro e a5 ⟨v5,rfl,hs5,hb5⟩; obtain ⟨P5,k5,hf5⟩:=hs5.form; subst hf5; have hx5:=bel_to hx4 hb5 (Nat.le_refl _)) | (go_at_call 23; refine (show Calls _ _ _ _ _ from HP.out _ HB0.out.drew).mono ?_; rintro e a4 ⟨v4,rfl,hs4,hb4⟩; obtain ⟨P4,k4,hf4⟩:=hs4.form; subst hf4; have hx4:=bel_to (Below.refl _ W0).drew hb4 (Nat.le_refl _)))
  have HX5:Hid (Below W0.heap.size W0 a6):=hx6
  clear hS0 hS1 hx4 hx5 hx6 hb4 hb5 hb6 hs4 hs5
  have HB5:Hid (Below w.heap.size w a6):=bel_to HB0.out HX5.out (Nat.le_refl _)
  have HZ5:Hid (a6.heap[w.heap.size + 1 + 1]?=some (.cells #[.int .i64 0,.int .i64 0,.slice none 0 0] 29)):=keep_row HR0.out.2.2 HX5.out
  have HG:Hid _:=heap_set3 a6 (w.heap.size + 1 + 1) 29 _ _ _ (.int .i64 (E:Int)) (.int .i64 (B:Int)) (.slice P n c1) HZ5.out
  go_wp2
  obtain ⟨g0,g1,g2,gf⟩:=row3 HG.out.1
  refine bodyPost_ret (v:=.tuple #[rlV E B (.slice P n c1),.bool b6]) (by simp [results,Tryz.results21,go_sem,g0,g1,g2]) rfl ⟨_,_,rfl,chg_fin _ _ _ HL.out HB5.out (Chg.of_bel (HL.out.on HB5.out) (Below.refl _ _)) (by omega) (row_lt HZ5.out) HZ5.out⟩
end
end Go.Proofs.YtjnbjfjoejfmpaaGreatDoor
namespace Go.Proofs.YtjnbjfjoejfmpaaGreatDoor
open Go.RowKit
set_option linter.unusedVariables false
set_option linter.unusedSimpArgs false
section
variable {x b0 g r c:Nat} {rest:List Value} {nv:Value} {E B:Nat} {N M:QM.NL}
set_option maxHeartbeats 4000000 in
set_option maxRecDepth 100000 in
theorem stepJ_8 (a b:Int) (tx:ByteArray) (fl:Bool) (S T:Int) (ob pb b1 b2:Bool) (hb1:(S == T)=b1) (hb2:(ob == pb)=b2) (dv:Value) (w:World) (hL:LS w b0 g r c rest nv E B (nds B N)) (hR:RL (fun _=>True) w dv M)
    (hD:∀ W,RL (fun _=>True) W dv M → Calls Tryz.prog 46 #[rlV E B dv,.string tx,.int .i64 a,.int .i64 b] W fun e w'=>e=.returned (.tuple #[.int .i64 S,.bool ob])∧Below W.heap.size W w')
    (hP:∀ W,Below w.heap.size w W → Calls Tryz.prog 47 #[ptr g,.string tx,.int .i64 a,.int .i64 b] W fun e w'=>e=.returned (.tuple #[.int .i64 T,.bool pb])∧Below W.heap.size W w') :
    Calls Tryz.prog 21 #[ptr g,rlV E B dv,.agg #[.int .i64 8,.int .i64 a,.int .i64 b,.string tx,.bool fl]] w fun e w'=>∃ v bb,e=.returned (.tuple #[v,.bool bb])∧Chg w w' b0 g r c rest nv E B N:=by
  obtain ⟨P,c1,rfl⟩:=hR.form
  have HL:Hid (LS w b0 g r c rest nv E B (nds B N)):=hL
  obtain ⟨n,hn⟩:∃ n,M.length=n:=⟨_,rfl⟩
  rw [hn] at hR ⊢
  obtain ⟨W0,hW0⟩:∃ W0,W0=((w.alloc (.cells #[.int .i64 (E:Int),.int .i64 (B:Int),.slice P n c1] 29)).alloc (.cells #[.int .i64 8,.int .i64 a,.int .i64 b,.string tx,.bool fl] 46)).alloc (.cells #[.int .i64 0,.int .i64 0,.slice none 0 0] 29):=⟨_,rfl⟩
  have HB0:Hid (Below w.heap.size w W0):=by show Below _ _ _; rw [hW0]; exact (((Below.refl _ w).alloc (Nat.le_refl _) _).alloc (by simp) _).alloc (by simp; omega) _
  have HZ0:Hid (W0.heap.size=w.heap.size + 3):=by show _=_; rw [hW0]; simp
  have HR0:Hid (W0.heap[w.heap.size]?=some (.cells #[.int .i64 (E:Int),.int .i64 (B:Int),.slice P n c1] 29)∧W0.heap[w.heap.size + 1]?=some (.cells #[.int .i64 8,.int .i64 a,.int .i64 b,.string tx,.bool fl] 46)∧W0.heap[w.heap.size + 1 + 1]?=some (.cells #[.int .i64 0,.int .i64 0,.slice none 0 0] 29)):=by
    rw [hW0]; exact ⟨(three_rows (Below.refl _ _)).2.1,(three_rows (Below.refl _ _)).2.2,three_r3 _ _ _ _⟩
  have HD:Hid (Calls Tryz.prog 46 #[rlV E B (.slice P n c1),.string tx,.int .i64 a,.int .i64 b] W0 fun e w'=>e=.returned (.tuple #[.int .i64 S,.bool ob])∧Below W0.heap.size W0 w'):=by
    rw [hn] at hD
    exact hD W0 (hR.on HB0.out)
  have HP:Hid _:=hP
  clear hD hP hL hR hn
  go_enter Tryz.func21,Tryz.ntmps21
  go_wp2_with fail
  rw [← hW0]
  clear hW0
  refine (show Calls _ _ _ _ _ from HD.out).mono ?_
  rintro e w1 ⟨rfl,hb1⟩
  have HX1:Hid (Below W0.heap.size W0 w1):=hb1
  obtain ⟨o0,o1,o2,o3,o4,of⟩:=row5 (keep_row HR0.out.2.1 hb1)
  clear hb1
  go_wp2_with fail
  refine (show Calls _ _ _ _ _ from HP.out _ (bel_to HB0.out HX1.out (Nat.le_refl _))).mono ?_
  rintro e a5 ⟨rfl,hb5⟩
  have HX5:Hid (Below W0.heap.size W0 a5):=bel_to HX1.out hb5 (Nat.le_refl _)
  clear hb5 o0 o1 o2 o3 o4 of
  have HB5:Hid (Below w.heap.size w a5):=bel_to HB0.out HX5.out (Nat.le_refl _)
  have HZ5:Hid (a5.heap[w.heap.size + 1 + 1]?=some (.cells #[.int .i64 0,.int .i64 0,.slice none 0 0] 29)):=keep_row HR0.out.2.2 HX5.out
  obtain ⟨z0,z1,z2,zf⟩:=row3 HZ5.out
  obtain ⟨d0,d1,d2,df⟩:=row3 (keep_row HR0.out.1 HX5.out)
  have HG:Hid _:=heap_set3 a5 (w.heap.size + 1 + 1) 29 _ _ _ (.int .i64 (E:Int)) (.int .i64 (B:Int)) (.slice P n c1) HZ5.out
  cases b1 with
  | false =>
    cases b2 with
    | false =>
      go_wp2
      obtain ⟨g0,g1,g2,gf⟩:=row3 HG.out.1
      refine bodyPost_ret (v:=.tuple #[rlV E B (.slice P n c1),.bool false]) (by simp [results,Tryz.results21,go_sem,g0,g1,g2]) rfl ⟨_,_,rfl,chg_fin _ _ _ HL.out HB5.out (Chg.of_bel (HL.out.on HB5.out) (Below.refl _ _)) (by omega) (row_lt HZ5.out) HZ5.out⟩
    | true =>
      go_wp2
      obtain ⟨g0,g1,g2,gf⟩:=row3 HG.out.1
      refine bodyPost_ret (v:=.tuple #[rlV E B (.slice P n c1),.bool false]) (by simp [results,Tryz.results21,go_sem,g0,g1,g2]) rfl ⟨_,_,rfl,chg_fin _ _ _ HL.out HB5.out (Chg.of_bel (HL.out.on HB5.out) (Below.refl _ _)) (by omega) (row_lt HZ5.out) HZ5.out⟩
  | true =>
    cases b2 with
    | false =>
      go_wp2
      obtain ⟨g0,g1,g2,gf⟩:=row3 HG.out.1
      refine bodyPost_ret (v:=.tuple #[rlV E B (.slice P n c1),.bool false]) (by simp [results,Tryz.results21,go_sem,g0,g1,g2]) rfl ⟨_,_,rfl,chg_fin _ _ _ HL.out HB5.out (Chg.of_bel (HL.out.on HB5.out) (Below.refl _ _)) (by omega) (row_lt HZ5.out) HZ5.out⟩
    | true =>
      go_wp2
      obtain ⟨g0,g1,g2,gf⟩:=row3 HG.out.1
      refine bodyPost_ret (v:=.tuple #[rlV E B (.slice P n c1),.bool true]) (by simp [results,Tryz.results21,go_sem,g0,g1,g2]) rfl ⟨_,_,rfl,chg_fin _ _ _ HL.out HB5.out (Chg.of_bel (HL.out.on HB5.out) (Below.refl _ _)) (by omega) (row_lt HZ5.out) HZ5.out⟩
end
end Go.Proofs.YtjnbjfjoejfmpaaGreatDoor
