import Derived.Test.YtjnbjfjoejfmpaaGreatDoorWBA
import Derived.Deep.RegionHeld3
namespace Go.Proofs.YtjnbjfjoejfmpaaGreatDoor
open Go.RowKit
set_option linter.unusedVariables false
set_option linter.unusedSimpArgs false
section
variable {x b0 g r c:Nat} {rest:List Value} {nv:Value} {E B:Nat} {N M:QM.NL}
set_option maxHeartbeats 4000000 in
set_option maxRecDepth 100000 in
theorem stepJ_3 (a b:Int) (tx:ByteArray) (fl:Bool) (cd cp:Int) (N':QM.NL) (dv:Value) (w:World) (hL:LS w b0 g r c rest nv E B (nds B N)) (hR:RL (fun _=>True) w dv M)
    (hD:∀ W,RL (fun _=>True) W dv M → Calls Tryz.prog 37 #[rlV E B dv,.int .i64 a,.string tx] W fun e w'=>∃ v' M',e=.returned (.tuple #[rlV E B v',.int .i64 cd])∧RL (fun _=>True) w' v' M'∧Below W.heap.size W w')
    (hP:∀ W,Below w.heap.size w W → Calls Tryz.prog 38 #[ptr g,.int .i64 a,.string tx] W fun e w'=>e=.returned (.int .i64 cp)∧Chg W w' b0 g r c rest nv E B N') :
    Calls Tryz.prog 21 #[ptr g,rlV E B dv,.agg #[.int .i64 3,.int .i64 a,.int .i64 b,.string tx,.bool fl]] w fun e w'=>∃ v bb,e=.returned (.tuple #[v,.bool bb])∧Chg w w' b0 g r c rest nv E B N':=by
  obtain ⟨P,c1,rfl⟩:=hR.form
  generalize M.length=n at *
  have HL:Hid (LS w b0 g r c rest nv E B (nds B N)):=hL
  obtain ⟨W0,hW0⟩:∃ W0,W0=((w.alloc (.cells #[.int .i64 (E:Int),.int .i64 (B:Int),.slice P n c1] 29)).alloc (.cells #[.int .i64 3,.int .i64 a,.int .i64 b,.string tx,.bool fl] 46)).alloc (.cells #[.int .i64 0,.int .i64 0,.slice none 0 0] 29):=⟨_,rfl⟩
  have HB0:Hid (Below w.heap.size w W0):=by show Below _ _ _; rw [hW0]; exact (((Below.refl _ w).alloc (Nat.le_refl _) _).alloc (by simp) _).alloc (by simp; omega) _
  have HZ0:Hid (W0.heap.size=w.heap.size + 3):=by show _=_; rw [hW0]; simp
  have HR0:Hid (W0.heap[w.heap.size]?=some (.cells #[.int .i64 (E:Int),.int .i64 (B:Int),.slice P n c1] 29)∧W0.heap[w.heap.size + 1]?=some (.cells #[.int .i64 3,.int .i64 a,.int .i64 b,.string tx,.bool fl] 46)∧W0.heap[w.heap.size + 1 + 1]?=some (.cells #[.int .i64 0,.int .i64 0,.slice none 0 0] 29)):=by
    rw [hW0]; exact ⟨(three_rows (Below.refl _ _)).2.1,(three_rows (Below.refl _ _)).2.2,three_r3 _ _ _ _⟩
  have HD:Hid (Calls Tryz.prog 37 #[rlV E B (.slice P n c1),.int .i64 a,.string tx] W0 fun e w'=>∃ P' n' c',e=.returned (.tuple #[rlV E B (.slice P' n' c'),.int .i64 cd])∧Below W0.heap.size W0 w'):=by
    have hz:=HZ0.out
    have hgl:=row_lt hL.hd
    have hrl:=row_lt hL.rw_
    refine (hD W0 (hR.on HB0.out)).mono ?_
    rintro e w' ⟨v',M',rfl,h1,h2⟩
    obtain ⟨P',c',rfl⟩:=h1.form
    exact ⟨P',_,c',rfl,h2⟩
  have HP:Hid _:=hP
  have HNU:Hid _:=num_any cp
  obtain ⟨bb,hbb⟩:∃ bb,(cp == cd)=bb:=⟨_,rfl⟩
  clear hD hP hL hR
  go_enter Tryz.func21,Tryz.ntmps21
  go_wp2_with fail
  rw [← hW0]
  clear hW0
  refine (show Calls _ _ _ _ _ from HD.out).mono ?_
  rintro e w1 ⟨P',n',c',rfl,hb1⟩
  have HB1:Hid (Below W0.heap.size W0 w1):=hb1
  obtain ⟨o0,o1,o2,o3,o4,of⟩:=row5 (keep_row HR0.out.2.1 hb1)
  obtain ⟨W2,hW2⟩:∃ W2,W2=w1.alloc (.cells #[.int .i64 (E:Int),.int .i64 (B:Int),.slice P' n' c'] 29):=⟨_,rfl⟩
  have hb2:Below w1.heap.size w1 W2:=by rw [hW2]; exact (Below.refl _ _).alloc (Nat.le_refl _) _
  have HB2:Hid (Below w.heap.size w W2):=bel_to (bel_to HB0.out hb1 (Nat.le_refl _)) hb2 (Nat.le_refl _)
  have HZ2:Hid (W2.heap[w.heap.size + 1 + 1]?=some (.cells #[.int .i64 0,.int .i64 0,.slice none 0 0] 29)):=keep_row (keep_row HR0.out.2.2 hb1) hb2
  have HO2:Hid (W2.heap[w.heap.size + 1]?=some (.cells #[.int .i64 3,.int .i64 a,.int .i64 b,.string tx,.bool fl] 46)):=keep_row (keep_row HR0.out.2.1 hb1) hb2
  have HX2:Hid (W2.heap[w1.heap.size]?=some (.cells #[.int .i64 (E:Int),.int .i64 (B:Int),.slice P' n' c'] 29)):=by show _=_; rw [hW2]; exact one_alloc _ _
  have HS1:Hid (w.heap.size ≤ w1.heap.size):=(bel_to HB0.out hb1 (Nat.le_refl _)).size
  clear hb1 hb2
  obtain ⟨kx,hkx⟩:∃ kx,w1.heap.size=kx:=⟨_,rfl⟩
  go_wp2_with fail
  rw [← hW2]
  try rw [hkx]
  rw [hkx] at HX2 HS1
  have HNE:Hid (kx ≠ w.heap.size + 1 + 1):=by
    have h1:=HZ0.out
    have h2:=HB1.out.size
    rw [hkx] at h2
    show _ ≠ _
    omega
  clear hW2 hkx o0 o1 o2 o3 o4 of
  have HSA:Hid (∀ W:World,W.heap[w.heap.size + 1]?=some (.cells #[.int .i64 3,.int .i64 a,.int .i64 b,.string tx,.bool fl] 46) → W.heap[kx]?=some (.cells #[.int .i64 (E:Int),.int .i64 (B:Int),.slice P' n' c'] 29) → W.cell? ⟨kx,0,none⟩=some (.int .i64 (E:Int))∧W.cell? ⟨kx,1,none⟩=some (.int .i64 (B:Int))∧W.cell? ⟨kx,2,none⟩=some (.slice P' n' c')∧W.cell? ⟨w.heap.size + 1,1,none⟩=some (.int .i64 a)∧W.cell? ⟨w.heap.size + 1,2,none⟩=some (.int .i64 b)∧W.cell? ⟨w.heap.size + 1,3,none⟩=some (.string tx)∧W.cell? ⟨w.heap.size + 1,4,none⟩=some (.bool fl)):=fun W h1 h2=>by
    obtain ⟨o0,o1,o2,o3,o4,of⟩:=row5 h1
    obtain ⟨x0,x1,x2,xf⟩:=row3 h2
    exact ⟨x0,x1,x2,o1,o2,o3,o4⟩
  have hS0:=HSA.out W2 HO2.out HX2.out
  have hS1:=HSA.out W2.drew HO2.out HX2.out
  have HSC:Hid (∀ W:World,Chg W2.drew W b0 g r c rest nv E B N' → (W.cell? ⟨kx,0,none⟩=some (.int .i64 (E:Int))∧W.cell? ⟨kx,1,none⟩=some (.int .i64 (B:Int))∧W.cell? ⟨kx,2,none⟩=some (.slice P' n' c')∧W.cell? ⟨w.heap.size + 1,1,none⟩=some (.int .i64 a)∧W.cell? ⟨w.heap.size + 1,2,none⟩=some (.int .i64 b)∧W.cell? ⟨w.heap.size + 1,3,none⟩=some (.string tx)∧W.cell? ⟨w.heap.size + 1,4,none⟩=some (.bool fl))∧W.heap[w.heap.size + 1 + 1]?=some (.cells #[.int .i64 0,.int .i64 0,.slice none 0 0] 29)):=fun W hc=>by
    exact ⟨HSA.out W (hc.blk HL.out (Nat.le_succ _) (show W2.drew.heap[w.heap.size + 1]?=_ from HO2.out)) (hc.blk HL.out HS1.out (show W2.drew.heap[kx]?=_ from HX2.out)),hc.blk HL.out (Nat.le_trans (Nat.le_succ _) (Nat.le_succ _)) (show W2.drew.heap[w.heap.size + 1 + 1]?=_ from HZ2.out)⟩
  have HSD:Hid (∀ (W:World) (v0 v1 v2:Value),(W.cell? ⟨kx,0,none⟩=some (.int .i64 (E:Int))∧W.cell? ⟨kx,1,none⟩=some (.int .i64 (B:Int))∧W.cell? ⟨kx,2,none⟩=some (.slice P' n' c')∧W.cell? ⟨w.heap.size + 1,1,none⟩=some (.int .i64 a)∧W.cell? ⟨w.heap.size + 1,2,none⟩=some (.int .i64 b)∧W.cell? ⟨w.heap.size + 1,3,none⟩=some (.string tx)∧W.cell? ⟨w.heap.size + 1,4,none⟩=some (.bool fl)) → kx ≠ w.heap.size + 1 + 1 → (fun W:World=>W.cell? ⟨kx,0,none⟩=some (.int .i64 (E:Int))∧W.cell? ⟨kx,1,none⟩=some (.int .i64 (B:Int))∧W.cell? ⟨kx,2,none⟩=some (.slice P' n' c')∧W.cell? ⟨w.heap.size + 1,1,none⟩=some (.int .i64 a)∧W.cell? ⟨w.heap.size + 1,2,none⟩=some (.int .i64 b)∧W.cell? ⟨w.heap.size + 1,3,none⟩=some (.string tx)∧W.cell? ⟨w.heap.size + 1,4,none⟩=some (.bool fl)) (((W.setCell ⟨w.heap.size + 1 + 1,0,none⟩ v0).setCell ⟨w.heap.size + 1 + 1,1,none⟩ v1).setCell ⟨w.heap.size + 1 + 1,2,none⟩ v2)):=fun W v0 v1 v2 h hne=>by
    have ho:=(((Only.refl W (w.heap.size + 1 + 1)).set 0 v0).set 1 v1).set 2 v2
    obtain ⟨q0,q1,q2,q3,q4,q5,q6⟩:=h
    have e1:=ho.other kx hne
    have e2:=ho.other (w.heap.size + 1) (by omega)
    exact ⟨(World.cell?_of_block (a:=⟨kx,0,none⟩) e1).trans q0,(World.cell?_of_block (a:=⟨kx,1,none⟩) e1).trans q1,(World.cell?_of_block (a:=⟨kx,2,none⟩) e1).trans q2,(World.cell?_of_block (a:=⟨w.heap.size + 1,1,none⟩) e2).trans q3,(World.cell?_of_block (a:=⟨w.heap.size + 1,2,none⟩) e2).trans q4,(World.cell?_of_block (a:=⟨w.heap.size + 1,3,none⟩) e2).trans q5,(World.cell?_of_block (a:=⟨w.heap.size + 1,4,none⟩) e2).trans q6⟩
  go_region_held3 (fun W:World=>W.cell? ⟨kx,0,none⟩=some (.int .i64 (E:Int))∧W.cell? ⟨kx,1,none⟩=some (.int .i64 (B:Int))∧W.cell? ⟨kx,2,none⟩=some (.slice P' n' c')∧W.cell? ⟨w.heap.size + 1,1,none⟩=some (.int .i64 a)∧W.cell? ⟨w.heap.size + 1,2,none⟩=some (.int .i64 b)∧W.cell? ⟨w.heap.size + 1,3,none⟩=some (.string tx)∧W.cell? ⟨w.heap.size + 1,4,none⟩=some (.bool fl))
    (first | with_reducible exact hS0 | with_reducible exact hS1 | with_reducible exact hS5 | with_reducible exact HSD.out _ _ _ _ hS5 HNE.out)
    (first | (go_at_call 38; refine (show Calls _ _ _ _ _ from HP.out _ HB2.out.drew).mono ?_; rintro e a5 ⟨rfl,hc5⟩; obtain ⟨hS5,hz5⟩:=HSC.out _ hc5; obtain ⟨z0,z1,z2,zf⟩:=row3 hz5) | (go_at_call 11; refine (show Calls _ _ _ _ _ from HNU.out _).mono ?_; rintro e a6 ⟨rfl,ha6⟩; have ha7:=ha6.symm; subst ha7))
  have HC5:Hid (Chg W2.drew a5 b0 g r c rest nv E B N'):=hc5
  have HZ5:Hid (a5.heap[w.heap.size + 1 + 1]?=some (.cells #[.int .i64 0,.int .i64 0,.slice none 0 0] 29)):=hz5
  have HG:Hid _:=heap_set3 a5 (w.heap.size + 1 + 1) 29 _ _ _ (.int .i64 (E:Int)) (.int .i64 (B:Int)) (.slice P' n' c') hz5
  clear hS0 hS1 hS5 hc5 hz5
  go_wp2
  obtain ⟨g0,g1,g2,gf⟩:=row3 HG.out.1
  refine bodyPost_ret (v:=.tuple #[rlV E B (.slice P' n' c'),.bool bb]) (by simp [results,Tryz.results21,go_sem,g0,g1,g2]) rfl ⟨_,_,rfl,chg_fin _ _ _ HL.out HB2.out.drew HC5.out (by omega) (row_lt HZ2.out) HZ5.out⟩
end
end Go.Proofs.YtjnbjfjoejfmpaaGreatDoor
namespace Go.Proofs.YtjnbjfjoejfmpaaGreatDoor
open Go.RowKit
set_option linter.unusedVariables false
set_option linter.unusedSimpArgs false
section
variable {x b0 g r c:Nat} {rest:List Value} {nv:Value} {E B:Nat} {N M:QM.NL}
set_option maxHeartbeats 4000000 in
set_option maxRecDepth 100000 in
theorem stepJ_4 (a b:Int) (tx:ByteArray) (fl:Bool) (cd cp:Int) (N':QM.NL) (dv:Value) (w:World) (hL:LS w b0 g r c rest nv E B (nds B N)) (hR:RL (fun _=>True) w dv M)
    (hD:∀ W,RL (fun _=>True) W dv M → Calls Tryz.prog 39 #[rlV E B dv,.int .i64 a,.string tx] W fun e w'=>∃ v' M',e=.returned (.tuple #[rlV E B v',.int .i64 cd])∧RL (fun _=>True) w' v' M'∧Below W.heap.size W w')
    (hP:∀ W,Below w.heap.size w W → Calls Tryz.prog 40 #[ptr g,.int .i64 a,.string tx] W fun e w'=>e=.returned (.int .i64 cp)∧Chg W w' b0 g r c rest nv E B N') :
    Calls Tryz.prog 21 #[ptr g,rlV E B dv,.agg #[.int .i64 4,.int .i64 a,.int .i64 b,.string tx,.bool fl]] w fun e w'=>∃ v bb,e=.returned (.tuple #[v,.bool bb])∧Chg w w' b0 g r c rest nv E B N':=by
  obtain ⟨P,c1,rfl⟩:=hR.form
  generalize M.length=n at *
  have HL:Hid (LS w b0 g r c rest nv E B (nds B N)):=hL
  obtain ⟨W0,hW0⟩:∃ W0,W0=((w.alloc (.cells #[.int .i64 (E:Int),.int .i64 (B:Int),.slice P n c1] 29)).alloc (.cells #[.int .i64 4,.int .i64 a,.int .i64 b,.string tx,.bool fl] 46)).alloc (.cells #[.int .i64 0,.int .i64 0,.slice none 0 0] 29):=⟨_,rfl⟩
  have HB0:Hid (Below w.heap.size w W0):=by show Below _ _ _; rw [hW0]; exact (((Below.refl _ w).alloc (Nat.le_refl _) _).alloc (by simp) _).alloc (by simp; omega) _
  have HZ0:Hid (W0.heap.size=w.heap.size + 3):=by show _=_; rw [hW0]; simp
  have HR0:Hid (W0.heap[w.heap.size]?=some (.cells #[.int .i64 (E:Int),.int .i64 (B:Int),.slice P n c1] 29)∧W0.heap[w.heap.size + 1]?=some (.cells #[.int .i64 4,.int .i64 a,.int .i64 b,.string tx,.bool fl] 46)∧W0.heap[w.heap.size + 1 + 1]?=some (.cells #[.int .i64 0,.int .i64 0,.slice none 0 0] 29)):=by
    rw [hW0]; exact ⟨(three_rows (Below.refl _ _)).2.1,(three_rows (Below.refl _ _)).2.2,three_r3 _ _ _ _⟩
  have HD:Hid (Calls Tryz.prog 39 #[rlV E B (.slice P n c1),.int .i64 a,.string tx] W0 fun e w'=>∃ P' n' c',e=.returned (.tuple #[rlV E B (.slice P' n' c'),.int .i64 cd])∧Below W0.heap.size W0 w'):=by
    have hz:=HZ0.out
    have hgl:=row_lt hL.hd
    have hrl:=row_lt hL.rw_
    refine (hD W0 (hR.on HB0.out)).mono ?_
    rintro e w' ⟨v',M',rfl,h1,h2⟩
    obtain ⟨P',c',rfl⟩:=h1.form
    exact ⟨P',_,c',rfl,h2⟩
  have HP:Hid _:=hP
  have HNU:Hid _:=num_any cp
  obtain ⟨bb,hbb⟩:∃ bb,(cp == cd)=bb:=⟨_,rfl⟩
  clear hD hP hL hR
  go_enter Tryz.func21,Tryz.ntmps21
  go_wp2_with fail
  rw [← hW0]
  clear hW0
  refine (show Calls _ _ _ _ _ from HD.out).mono ?_
  rintro e w1 ⟨P',n',c',rfl,hb1⟩
  have HB1:Hid (Below W0.heap.size W0 w1):=hb1
  obtain ⟨o0,o1,o2,o3,o4,of⟩:=row5 (keep_row HR0.out.2.1 hb1)
  obtain ⟨W2,hW2⟩:∃ W2,W2=w1.alloc (.cells #[.int .i64 (E:Int),.int .i64 (B:Int),.slice P' n' c'] 29):=⟨_,rfl⟩
  have hb2:Below w1.heap.size w1 W2:=by rw [hW2]; exact (Below.refl _ _).alloc (Nat.le_refl _) _
  have HB2:Hid (Below w.heap.size w W2):=bel_to (bel_to HB0.out hb1 (Nat.le_refl _)) hb2 (Nat.le_refl _)
  have HZ2:Hid (W2.heap[w.heap.size + 1 + 1]?=some (.cells #[.int .i64 0,.int .i64 0,.slice none 0 0] 29)):=keep_row (keep_row HR0.out.2.2 hb1) hb2
  have HO2:Hid (W2.heap[w.heap.size + 1]?=some (.cells #[.int .i64 4,.int .i64 a,.int .i64 b,.string tx,.bool fl] 46)):=keep_row (keep_row HR0.out.2.1 hb1) hb2
  have HX2:Hid (W2.heap[w1.heap.size]?=some (.cells #[.int .i64 (E:Int),.int .i64 (B:Int),.slice P' n' c'] 29)):=by show _=_; rw [hW2]; exact one_alloc _ _
  have HS1:Hid (w.heap.size ≤ w1.heap.size):=(bel_to HB0.out hb1 (Nat.le_refl _)).size
  clear hb1 hb2
  obtain ⟨kx,hkx⟩:∃ kx,w1.heap.size=kx:=⟨_,rfl⟩
  go_wp2_with fail
  rw [← hW2]
  try rw [hkx]
  rw [hkx] at HX2 HS1
  have HNE:Hid (kx ≠ w.heap.size + 1 + 1):=by
    have h1:=HZ0.out
    have h2:=HB1.out.size
    rw [hkx] at h2
    show _ ≠ _
    omega
  clear hW2 hkx o0 o1 o2 o3 o4 of
  have HSA:Hid (∀ W:World,W.heap[w.heap.size + 1]?=some (.cells #[.int .i64 4,.int .i64 a,.int .i64 b,.string tx,.bool fl] 46) → W.heap[kx]?=some (.cells #[.int .i64 (E:Int),.int .i64 (B:Int),.slice P' n' c'] 29) → W.cell? ⟨kx,0,none⟩=some (.int .i64 (E:Int))∧W.cell? ⟨kx,1,none⟩=some (.int .i64 (B:Int))∧W.cell? ⟨kx,2,none⟩=some (.slice P' n' c')∧W.cell? ⟨w.heap.size + 1,1,none⟩=some (.int .i64 a)∧W.cell? ⟨w.heap.size + 1,2,none⟩=some (.int .i64 b)∧W.cell? ⟨w.heap.size + 1,3,none⟩=some (.string tx)∧W.cell? ⟨w.heap.size + 1,4,none⟩=some (.bool fl)):=fun W h1 h2=>by
    obtain ⟨o0,o1,o2,o3,o4,of⟩:=row5 h1
    obtain ⟨x0,x1,x2,xf⟩:=row3 h2
    exact ⟨x0,x1,x2,o1,o2,o3,o4⟩
  have hS0:=HSA.out W2 HO2.out HX2.out
  have hS1:=HSA.out W2.drew HO2.out HX2.out
  have HSC:Hid (∀ W:World,Chg W2.drew W b0 g r c rest nv E B N' → (W.cell? ⟨kx,0,none⟩=some (.int .i64 (E:Int))∧W.cell? ⟨kx,1,none⟩=some (.int .i64 (B:Int))∧W.cell? ⟨kx,2,none⟩=some (.slice P' n' c')∧W.cell? ⟨w.heap.size + 1,1,none⟩=some (.int .i64 a)∧W.cell? ⟨w.heap.size + 1,2,none⟩=some (.int .i64 b)∧W.cell? ⟨w.heap.size + 1,3,none⟩=some (.string tx)∧W.cell? ⟨w.heap.size + 1,4,none⟩=some (.bool fl))∧W.heap[w.heap.size + 1 + 1]?=some (.cells #[.int .i64 0,.int .i64 0,.slice none 0 0] 29)):=fun W hc=>by
    exact ⟨HSA.out W (hc.blk HL.out (Nat.le_succ _) (show W2.drew.heap[w.heap.size + 1]?=_ from HO2.out)) (hc.blk HL.out HS1.out (show W2.drew.heap[kx]?=_ from HX2.out)),hc.blk HL.out (Nat.le_trans (Nat.le_succ _) (Nat.le_succ _)) (show W2.drew.heap[w.heap.size + 1 + 1]?=_ from HZ2.out)⟩
  have HSD:Hid (∀ (W:World) (v0 v1 v2:Value),(W.cell? ⟨kx,0,none⟩=some (.int .i64 (E:Int))∧W.cell? ⟨kx,1,none⟩=some (.int .i64 (B:Int))∧W.cell? ⟨kx,2,none⟩=some (.slice P' n' c')∧W.cell? ⟨w.heap.size + 1,1,none⟩=some (.int .i64 a)∧W.cell? ⟨w.heap.size + 1,2,none⟩=some (.int .i64 b)∧W.cell? ⟨w.heap.size + 1,3,none⟩=some (.string tx)∧W.cell? ⟨w.heap.size + 1,4,none⟩=some (.bool fl)) → kx ≠ w.heap.size + 1 + 1 → (fun W:World=>W.cell? ⟨kx,0,none⟩=some (.int .i64 (E:Int))∧W.cell? ⟨kx,1,none⟩=some (.int .i64 (B:Int))∧W.cell? ⟨kx,2,none⟩=some (.slice P' n' c')∧W.cell? ⟨w.heap.size + 1,1,none⟩=some (.int .i64 a)∧W.cell? ⟨w.heap.size + 1,2,none⟩=some (.int .i64 b)∧W.cell? ⟨w.heap.size + 1,3,none⟩=some (.string tx)∧W.cell? ⟨w.heap.size + 1,4,none⟩=some (.bool fl)) (((W.setCell ⟨w.heap.size + 1 + 1,0,none⟩ v0).setCell ⟨w.heap.size + 1 + 1,1,none⟩ v1).setCell ⟨w.heap.size + 1 + 1,2,none⟩ v2)):=fun W v0 v1 v2 h hne=>by
    have ho:=(((Only.refl W (w.heap.size + 1 + 1)).set 0 v0).set 1 v1).set 2 v2
    obtain ⟨q0,q1,q2,q3,q4,q5,q6⟩:=h
    have e1:=ho.other kx hne
    have e2:=ho.other (w.heap.size + 1) (by omega)
    exact ⟨(World.cell?_of_block (a:=⟨kx,0,none⟩) e1).trans q0,(World.cell?_of_block (a:=⟨kx,1,none⟩) e1).trans q1,(World.cell?_of_block (a:=⟨kx,2,none⟩) e1).trans q2,(World.cell?_of_block (a:=⟨w.heap.size + 1,1,none⟩) e2).trans q3,(World.cell?_of_block (a:=⟨w.heap.size + 1,2,none⟩) e2).trans q4,(World.cell?_of_block (a:=⟨w.heap.size + 1,3,none⟩) e2).trans q5,(World.cell?_of_block (a:=⟨w.heap.size + 1,4,none⟩) e2).trans q6⟩
  go_region_held3 (fun W:World=>W.cell? ⟨kx,0,none⟩=some (.int .i64 (E:Int))∧W.cell? ⟨kx,1,none⟩=some (.int .i64 (B:Int))∧W.cell? ⟨kx,2,none⟩=some (.slice P' n' c')∧W.cell? ⟨w.heap.size + 1,1,none⟩=some (.int .i64 a)∧W.cell? ⟨w.heap.size + 1,2,none⟩=some (.int .i64 b)∧W.cell? ⟨w.heap.size + 1,3,none⟩=some (.string tx)∧W.cell? ⟨w.heap.size + 1,4,none⟩=some (.bool fl))
    (first | with_reducible exact hS0 | with_reducible exact hS1 | with_reducible exact hS5 | with_reducible exact HSD.out _ _ _ _ hS5 HNE.out)
    (first | (go_at_call 40; refine (show Calls _ _ _ _ _ from HP.out _ HB2.out.drew).mono ?_; rintro e a5 ⟨rfl,hc5⟩; obtain ⟨hS5,hz5⟩:=HSC.out _ hc5; obtain ⟨z0,z1,z2,zf⟩:=row3 hz5) | (go_at_call 11; refine (show Calls _ _ _ _ _ from HNU.out _).mono ?_; rintro e a6 ⟨rfl,ha6⟩; have ha7:=ha6.symm; subst ha7))
  have HC5:Hid (Chg W2.drew a5 b0 g r c rest nv E B N'):=hc5
  have HZ5:Hid (a5.heap[w.heap.size + 1 + 1]?=some (.cells #[.int .i64 0,.int .i64 0,.slice none 0 0] 29)):=hz5
  have HG:Hid _:=heap_set3 a5 (w.heap.size + 1 + 1) 29 _ _ _ (.int .i64 (E:Int)) (.int .i64 (B:Int)) (.slice P' n' c') hz5
  clear hS0 hS1 hS5 hc5 hz5
  go_wp2
  obtain ⟨g0,g1,g2,gf⟩:=row3 HG.out.1
  refine bodyPost_ret (v:=.tuple #[rlV E B (.slice P' n' c'),.bool bb]) (by simp [results,Tryz.results21,go_sem,g0,g1,g2]) rfl ⟨_,_,rfl,chg_fin _ _ _ HL.out HB2.out.drew HC5.out (by omega) (row_lt HZ2.out) HZ5.out⟩
end
end Go.Proofs.YtjnbjfjoejfmpaaGreatDoor
