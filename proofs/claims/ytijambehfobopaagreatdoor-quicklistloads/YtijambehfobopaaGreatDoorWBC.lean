import Derived.Test.YtijambehfobopaaGreatDoorWAT
import Derived.Deep.CutRange
import Derived.Test.YtijambehfobopaaGreatDoorWBB
import Derived.Test.YtijambehfobopaaGreatDoorWBA
namespace Go.Proofs.YtijambehfobopaaGreatDoor
open Go.RowKit
set_option linter.unusedVariables false
set_option linter.unusedSimpArgs false
section
variable {b0 g r c:Nat} {rest:List Value} {nv:Value} {E B:Nat} {N:QM.NL}
set_option maxHeartbeats 4000000 in
set_option maxRecDepth 100000 in
theorem Push_none (f:Bool) (s:ByteArray) (hs:s.size ≤ 524288) (hl:N.flatten.length ≤ 1000) (hI:QM.Inv E B N) (t q:Nat) (w:World) (hw:Lay w) (h:LS w b0 g r c rest nv E B (nds B N)) (hEN:∀ W,LS W b0 g r c rest nv E B (nds B N) → Calls Tryz.prog 63 #[ptr g,.bool f] W fun e w'=>e=.returned (.tuple #[plV t q,.bool false])∧Below W.heap.size W w'):Calls Tryz.prog 26 #[ptr g,.string s,.bool f] w fun e w'=>e=.returned (.int .i64 0)∧Chg w w' b0 g r c rest nv E B (QM.rep N (if f then 0 else N.length) 0 [[s]]):=by
  have HL:Hid _:=h
  have HW:Hid _:=hw
  have HEN:Hid _:=hEN
  have HI:Hid _:=hI
  have hln:N.length ≤ 1000:=Nat.le_trans (QM.len_le hI.some) hl
  have hXE:=hI.le
  have HMJ:Hid (∀ W,LS W b0 g r c rest nv E B (nds B N) → Calls Tryz.prog 62 #[ptr g,.string s] W fun e w'=>e=.returned (.int .i64 0)∧w'=W):=fun W hW=>by
    have:=mayJoin_any s (by omega) W hW
    have e:mayQ (cntN (nds B N)) s=0:=by unfold mayQ; rw [cnt_nds,if_neg (by omega),if_neg (by omega)]
    rw [e] at this; exact this
  obtain ⟨gp,hgp⟩:∃ gp,(if f then 0 else N.length)=gp:=⟨_,rfl⟩
  have hgl:gp ≤ N.length:=by rw [← hgp]; split <;> omega
  have HGA:Hid (∀ W,LS W b0 g r c rest nv E B (nds B N) → Calls Tryz.prog 22 #[ptr g,.bool f] W fun e w'=>e=.returned (plV gp 0)∧Below W.heap.size W w'):=fun W hW=>by
    have:=gap_n f (by simp [nds]; omega) W hW
    simp only [nds,List.length_map] at this
    rw [hgp] at this; exact this
  have HAL:Hid (∀ W,Lay W → Calls Tryz.prog 67 #[.agg #[.int .i64 (E:Int),.int .i64 (B:Int)],.string s] W fun e w'=>e=.returned (.agg #[.string (packN [s]),.int .i64 1,.bool (QM.big B s)])∧Below W.heap.size W w'):=fun W hW=>alone_any E B s hs HI.out.lb W hW
  have HRP:Hid (∀ a W,Below w.heap.size w a → W=a.alloc (.cells #[.string (packN [s]),.int .i64 1,.bool (QM.big B s)] 55) → Calls Tryz.prog 21 #[ptr g,plV gp 0,.int .i64 0,.slice (some ⟨a.heap.size,0,none⟩) 1 1] W fun e w'=>e=.returned (.tuple #[])∧Chg a w' b0 g r c rest nv E B (QM.rep N gp 0 [[s]])):=fun a W ha hW=>by
    subst hW
    have hLa:=HL.out.on ha
    have hba:Below a.heap.size a (a.alloc (.cells #[.string (packN [s]),.int .i64 1,.bool (QM.big B s)] 55)):=(Below.refl _ _).alloc (Nat.le_refl _) _
    exact replN_any gp 0 0 a.heap.size [(packN [s],1,QM.big B s)] [[s]] ⟨⟨rfl,rfl,fun _=>rfl⟩,trivial⟩ a _ hba (hLa.on hba) hLa (by omega) hln (by omega) (by simp) (by simp) (by simp) (nx_one a (packN [s],1,QM.big B s)) (Nat.le_refl _) (fun e=>by simp [QM.nes])
  rw [hgp]
  generalize packN [s]=PK at *
  generalize QM.big B s=BG at *
  clear hw h hEN hI hgp
  go_enter Tryz.func26,Tryz.ntmps26
  go_wp2_with fail
  refine (show Calls _ _ _ _ _ from HMJ.out _ HL.out).mono ?_
  rintro e w1 ⟨rfl,rfl⟩
  go_wp2_with fail
  refine (show Calls _ _ _ _ _ from HEN.out _ HL.out).mono ?_
  rintro e w2 ⟨rfl,hb2⟩
  have HB2:Hid (Below w1.heap.size w1 w2):=hb2
  have hwy:Below w1.heap.size w1 (w2.alloc (.cells #[.int .i64 0,.int .i64 (t:Int),.int .i64 (q:Int)] 65)):=HB2.out.alloc HB2.out.size _
  have hpy:=one_alloc w2 (.cells #[.int .i64 0,.int .i64 (t:Int),.int .i64 (q:Int)] 65)
  clear hb2
  go_wp2_with fail
  generalize w2.alloc (.cells #[.int .i64 0,.int .i64 (t:Int),.int .i64 (q:Int)] 65)=y at *
  have HBY:Hid (∀ W,Below y.heap.size y W → Below w1.heap.size w1 W):=fun W hW=>bel_to hwy hW (Nat.le_refl _)
  obtain ⟨l0,l1,l2,l3,lf⟩:=lrow4 (HL.out.on hwy).hd
  obtain ⟨p0,p1,p2,pf⟩:=row3 hpy
  have hsz2:w1.heap.size ≤ w2.heap.size:=HB2.out.size
  have hSA:=And.intro p0 (And.intro p1 (And.intro p2 (And.intro l0 l1)))
  have HKS:Hid (∀ w':World,Below y.heap.size y w' → w'.cell? ⟨w2.heap.size,0,none⟩=some (.int .i64 0)∧w'.cell? ⟨w2.heap.size,1,none⟩=some (.int .i64 (t:Int))∧w'.cell? ⟨w2.heap.size,2,none⟩=some (.int .i64 (q:Int))∧w'.cell? ⟨g,0,none⟩=some (.int .i64 (E:Int))∧w'.cell? ⟨g,1,none⟩=some (.int .i64 (B:Int))):=fun W hW=>And.intro (cell_on p0 hW) (And.intro (cell_on p1 hW) (And.intro (cell_on p2 hW) (And.intro (cell_on l0 hW) (cell_on l1 hW))))
  have HKC:Hid (∀ (a w':World) (N':QM.NL),Below y.heap.size y a → Chg a w' b0 g r c rest nv E B N' → w'.cell? ⟨w2.heap.size,0,none⟩=some (.int .i64 0)∧w'.cell? ⟨w2.heap.size,1,none⟩=some (.int .i64 (t:Int))∧w'.cell? ⟨w2.heap.size,2,none⟩=some (.int .i64 (q:Int))∧w'.cell? ⟨g,0,none⟩=some (.int .i64 (E:Int))∧w'.cell? ⟨g,1,none⟩=some (.int .i64 (B:Int))):=fun a W N' ha hc=>And.intro (hc.cell HL.out hsz2 (cell_on p0 ha)) (And.intro (hc.cell HL.out hsz2 (cell_on p1 ha)) (And.intro (hc.cell HL.out hsz2 (cell_on p2 ha)) hc.bnd))
  clear hwy hpy l0 l1 l2 l3 lf p0 p1 p2 pf HMJ HEN
  go_quiet (fail)
  have HX3:Hid (Below y.heap.size y (y.drewN nq)):=below_dn (Below.refl _ y) _
  have hSB:=HKS.out _ HX3.out
  clear hSA
  go_wp2_with fail
  go_region_held3 (fun w':World=>w'.cell? ⟨w2.heap.size,0,none⟩=some (.int .i64 0)∧w'.cell? ⟨w2.heap.size,1,none⟩=some (.int .i64 (t:Int))∧w'.cell? ⟨w2.heap.size,2,none⟩=some (.int .i64 (q:Int))∧w'.cell? ⟨g,0,none⟩=some (.int .i64 (E:Int))∧w'.cell? ⟨g,1,none⟩=some (.int .i64 (B:Int)))
    (first | exact hSB | exact HKS.out _ hx5 | exact HKS.out _ hx4 | exact HKC.out _ _ _ hx5 hc5 | exact HKS.out _ (hx5.alloc hx5.size _) | exact HKS.out _ (HX3.out.drew))
    (first | (go_at_call 21; refine (show Calls _ _ _ _ _ from HRP.out a5 _ (HBY.out _ hx5) rfl).mono ?_; rintro e a6 ⟨rfl,hc5⟩) | (go_at_call 67; refine (show Calls _ _ _ _ _ from HAL.out _ (HW.out.on (HBY.out _ hx4))).mono ?_; rintro e a5 ⟨rfl,hb5⟩; have hx5:=bel_to hx4 hb5 (Nat.le_refl _)) | (go_at_call 22; refine (show Calls _ _ _ _ _ from HGA.out _ (HL.out.on (HBY.out _ HX3.out.drew))).mono ?_; rintro e a4 ⟨rfl,hb4⟩; have hx4:=bel_to HX3.out.drew hb4 (Nat.le_refl _)))
  have HC5:Hid _:=hc5.back (HBY.out _ hx5)
  clear hc5 hx4 hx5 hb4 hb5 hSB
  go_wp2
  go_returns
  exact ⟨rfl,HC5.out⟩
set_option maxHeartbeats 4000000 in
set_option maxRecDepth 100000 in
theorem Push_full (f:Bool) (s:ByteArray) (hs:s.size ≤ 524288) (hl:N.flatten.length ≤ 1000) (hI:QM.Inv E B N) (t q:Nat) (X:List ByteArray) (ht:t < N.length) (hX:N[t]=X) (hb:QM.big B s=false) (hr:QM.room E B X=false) (w:World) (hw:Lay w) (h:LS w b0 g r c rest nv E B (nds B N)) (hEN:∀ W,LS W b0 g r c rest nv E B (nds B N) → Calls Tryz.prog 63 #[ptr g,.bool f] W fun e w'=>e=.returned (.tuple #[plV t q,.bool true])∧Below W.heap.size W w'):Calls Tryz.prog 26 #[ptr g,.string s,.bool f] w fun e w'=>e=.returned (.int .i64 0)∧Chg w w' b0 g r c rest nv E B (QM.rep N (if f then 0 else N.length) 0 [[s]]):=by
  have HL:Hid _:=h
  have HW:Hid _:=hw
  have HEN:Hid _:=hEN
  have HI:Hid _:=hI
  have hln:N.length ≤ 1000:=Nat.le_trans (QM.len_le hI.some) hl
  have hXE:=hI.le
  have HMJ:Hid (∀ W,LS W b0 g r c rest nv E B (nds B N) → Calls Tryz.prog 62 #[ptr g,.string s] W fun e w'=>e=.returned (.int .i64 0)∧w'=W):=fun W hW=>by
    have:=mayJoin_any s (by omega) W hW
    have e:mayQ (cntN (nds B N)) s=0:=by unfold mayQ; rw [cnt_nds,if_neg (by omega),if_neg (by omega)]
    rw [e] at this; exact this
  have HIL:Hid (∀ W,Calls Tryz.prog 52 #[.agg #[.int .i64 (E:Int),.int .i64 (B:Int)],.string s] W fun e w'=>e=.returned (.bool false)∧Below W.heap.size W w'):=fun W=>by
    have:=isLarge_any E B s (by omega) hI.lb W
    rw [hb] at this; exact this
  have hXm:X ∈ N:=by rw [← hX]; exact List.getElem_mem _
  have hXl:=hI.few X hXm
  have HND:Hid (∀ W,LS W b0 g r c rest nv E B (nds B N) → Calls Tryz.prog 65 #[ptr g,plV t q] W fun e w'=>e=.returned (.agg #[.string (packN X),.int .i64 (X.length:Int),.bool (QM.lg B X)])∧Below W.heap.size W w'):=fun W hW=>by
    have:=nodeN_any t q ht hln W hW
    rw [hX] at this; exact this
  have HHR:Hid (∀ W,Calls Tryz.prog 64 #[.agg #[.int .i64 (E:Int),.int .i64 (B:Int)],.agg #[.string (packN X),.int .i64 (X.length:Int),.bool (QM.lg B X)]] W fun e w'=>e=.returned (.bool false)∧Below W.heap.size W w'):=fun W=>by
    have:=hasRoom_any E B X (packN X) hXE.2 (by omega) W
    rw [hr] at this; exact this
  generalize packN X=PX at *
  generalize X.length=LX at *
  generalize QM.lg B X=GX at *
  obtain ⟨gp,hgp⟩:∃ gp,(if f then 0 else N.length)=gp:=⟨_,rfl⟩
  have hgl:gp ≤ N.length:=by rw [← hgp]; split <;> omega
  have HGA:Hid (∀ W,LS W b0 g r c rest nv E B (nds B N) → Calls Tryz.prog 22 #[ptr g,.bool f] W fun e w'=>e=.returned (plV gp 0)∧Below W.heap.size W w'):=fun W hW=>by
    have:=gap_n f (by simp [nds]; omega) W hW
    simp only [nds,List.length_map] at this
    rw [hgp] at this; exact this
  have HAL:Hid (∀ W,Lay W → Calls Tryz.prog 67 #[.agg #[.int .i64 (E:Int),.int .i64 (B:Int)],.string s] W fun e w'=>e=.returned (.agg #[.string (packN [s]),.int .i64 1,.bool (QM.big B s)])∧Below W.heap.size W w'):=fun W hW=>alone_any E B s hs HI.out.lb W hW
  have HRP:Hid (∀ a W,Below w.heap.size w a → W=a.alloc (.cells #[.string (packN [s]),.int .i64 1,.bool (QM.big B s)] 55) → Calls Tryz.prog 21 #[ptr g,plV gp 0,.int .i64 0,.slice (some ⟨a.heap.size,0,none⟩) 1 1] W fun e w'=>e=.returned (.tuple #[])∧Chg a w' b0 g r c rest nv E B (QM.rep N gp 0 [[s]])):=fun a W ha hW=>by
    subst hW
    have hLa:=HL.out.on ha
    have hba:Below a.heap.size a (a.alloc (.cells #[.string (packN [s]),.int .i64 1,.bool (QM.big B s)] 55)):=(Below.refl _ _).alloc (Nat.le_refl _) _
    exact replN_any gp 0 0 a.heap.size [(packN [s],1,QM.big B s)] [[s]] ⟨⟨rfl,rfl,fun _=>rfl⟩,trivial⟩ a _ hba (hLa.on hba) hLa (by omega) hln (by omega) (by simp) (by simp) (by simp) (nx_one a (packN [s],1,QM.big B s)) (Nat.le_refl _) (fun e=>by simp [QM.nes])
  rw [hgp]
  generalize packN [s]=PK at *
  rw [hb] at HAL HRP
  clear hb hX hXm hr
  clear hw h hEN hI hgp
  go_enter Tryz.func26,Tryz.ntmps26
  go_wp2_with fail
  refine (show Calls _ _ _ _ _ from HMJ.out _ HL.out).mono ?_
  rintro e w1 ⟨rfl,rfl⟩
  go_wp2_with fail
  refine (show Calls _ _ _ _ _ from HEN.out _ HL.out).mono ?_
  rintro e w2 ⟨rfl,hb2⟩
  have HB2:Hid (Below w1.heap.size w1 w2):=hb2
  have hwy:Below w1.heap.size w1 (w2.alloc (.cells #[.int .i64 0,.int .i64 (t:Int),.int .i64 (q:Int)] 65)):=HB2.out.alloc HB2.out.size _
  have hpy:=one_alloc w2 (.cells #[.int .i64 0,.int .i64 (t:Int),.int .i64 (q:Int)] 65)
  clear hb2
  go_wp2_with fail
  generalize w2.alloc (.cells #[.int .i64 0,.int .i64 (t:Int),.int .i64 (q:Int)] 65)=y at *
  have HBY:Hid (∀ W,Below y.heap.size y W → Below w1.heap.size w1 W):=fun W hW=>bel_to hwy hW (Nat.le_refl _)
  obtain ⟨l0,l1,l2,l3,lf⟩:=lrow4 (HL.out.on hwy).hd
  obtain ⟨p0,p1,p2,pf⟩:=row3 hpy
  have hsz2:w1.heap.size ≤ w2.heap.size:=HB2.out.size
  have hSA:=And.intro p0 (And.intro p1 (And.intro p2 (And.intro l0 l1)))
  have HKS:Hid (∀ w':World,Below y.heap.size y w' → w'.cell? ⟨w2.heap.size,0,none⟩=some (.int .i64 0)∧w'.cell? ⟨w2.heap.size,1,none⟩=some (.int .i64 (t:Int))∧w'.cell? ⟨w2.heap.size,2,none⟩=some (.int .i64 (q:Int))∧w'.cell? ⟨g,0,none⟩=some (.int .i64 (E:Int))∧w'.cell? ⟨g,1,none⟩=some (.int .i64 (B:Int))):=fun W hW=>And.intro (cell_on p0 hW) (And.intro (cell_on p1 hW) (And.intro (cell_on p2 hW) (And.intro (cell_on l0 hW) (cell_on l1 hW))))
  have HKC:Hid (∀ (a w':World) (N':QM.NL),Below y.heap.size y a → Chg a w' b0 g r c rest nv E B N' → w'.cell? ⟨w2.heap.size,0,none⟩=some (.int .i64 0)∧w'.cell? ⟨w2.heap.size,1,none⟩=some (.int .i64 (t:Int))∧w'.cell? ⟨w2.heap.size,2,none⟩=some (.int .i64 (q:Int))∧w'.cell? ⟨g,0,none⟩=some (.int .i64 (E:Int))∧w'.cell? ⟨g,1,none⟩=some (.int .i64 (B:Int))):=fun a W N' ha hc=>And.intro (hc.cell HL.out hsz2 (cell_on p0 ha)) (And.intro (hc.cell HL.out hsz2 (cell_on p1 ha)) (And.intro (hc.cell HL.out hsz2 (cell_on p2 ha)) hc.bnd))
  clear hwy hpy l0 l1 l2 l3 lf p0 p1 p2 pf HMJ HEN
  go_region_held3 (fun w':World=>w'.cell? ⟨w2.heap.size,0,none⟩=some (.int .i64 0)∧w'.cell? ⟨w2.heap.size,1,none⟩=some (.int .i64 (t:Int))∧w'.cell? ⟨w2.heap.size,2,none⟩=some (.int .i64 (q:Int))∧w'.cell? ⟨g,0,none⟩=some (.int .i64 (E:Int))∧w'.cell? ⟨g,1,none⟩=some (.int .i64 (B:Int)))
    (first | exact hSA | exact HKS.out _ hx3 | exact HKS.out _ hx2 | exact HKS.out _ hx1 | exact HKS.out _ ((Below.refl _ y).drew))
    (first | (go_at_call 64; refine (show Calls _ _ _ _ _ from HHR.out _).mono ?_; rintro e a3 ⟨rfl,hb3⟩; have hx3:=bel_to hx2 hb3 (Nat.le_refl _)) | (go_at_call 65; refine (show Calls _ _ _ _ _ from HND.out _ (HL.out.on (HBY.out _ hx1))).mono ?_; rintro e a2 ⟨rfl,hb2⟩; have hx2:=bel_to hx1 hb2 (Nat.le_refl _)) | (go_at_call 52; refine (show Calls _ _ _ _ _ from HIL.out _).mono ?_; rintro e a1 ⟨rfl,hb1⟩; have hx1:=bel_to ((Below.refl _ y).drew) hb1 (Nat.le_refl _)))
  have HX3:Hid (Below y.heap.size y a3):=hx3
  have hSB:=HKS.out _ hx3
  clear hx1 hx2 hx3 hb1 hb2 hb3 hSA
  go_wp2_with fail
  go_region_held3 (fun w':World=>w'.cell? ⟨w2.heap.size,0,none⟩=some (.int .i64 0)∧w'.cell? ⟨w2.heap.size,1,none⟩=some (.int .i64 (t:Int))∧w'.cell? ⟨w2.heap.size,2,none⟩=some (.int .i64 (q:Int))∧w'.cell? ⟨g,0,none⟩=some (.int .i64 (E:Int))∧w'.cell? ⟨g,1,none⟩=some (.int .i64 (B:Int)))
    (first | exact hSB | exact HKS.out _ hx5 | exact HKS.out _ hx4 | exact HKC.out _ _ _ hx5 hc5 | exact HKS.out _ (hx5.alloc hx5.size _) | exact HKS.out _ (HX3.out.drew))
    (first | (go_at_call 21; refine (show Calls _ _ _ _ _ from HRP.out a5 _ (HBY.out _ hx5) rfl).mono ?_; rintro e a6 ⟨rfl,hc5⟩) | (go_at_call 67; refine (show Calls _ _ _ _ _ from HAL.out _ (HW.out.on (HBY.out _ hx4))).mono ?_; rintro e a5 ⟨rfl,hb5⟩; have hx5:=bel_to hx4 hb5 (Nat.le_refl _)) | (go_at_call 22; refine (show Calls _ _ _ _ _ from HGA.out _ (HL.out.on (HBY.out _ HX3.out.drew))).mono ?_; rintro e a4 ⟨rfl,hb4⟩; have hx4:=bel_to HX3.out.drew hb4 (Nat.le_refl _)))
  have HC5:Hid _:=hc5.back (HBY.out _ hx5)
  clear hc5 hx4 hx5 hb4 hb5 hSB
  go_wp2
  go_returns
  exact ⟨rfl,HC5.out⟩
end
end Go.Proofs.YtijambehfobopaaGreatDoor
namespace Go.Proofs.YtijambehfobopaaGreatDoor
open Go.RowKit
set_option linter.unusedVariables false
set_option linter.unusedSimpArgs false
section
variable {b0 g r c:Nat} {rest:List Value} {nv:Value} {E B:Nat} {N:QM.NL}
set_option maxHeartbeats 4000000 in
set_option maxRecDepth 100000 in
theorem Push_big (f:Bool) (s:ByteArray) (hs:s.size ≤ 524288) (hl:N.flatten.length ≤ 1000) (hI:QM.Inv E B N) (t q:Nat) (hb:QM.big B s=true) (w:World) (hw:Lay w) (h:LS w b0 g r c rest nv E B (nds B N)) (hEN:∀ W,LS W b0 g r c rest nv E B (nds B N) → Calls Tryz.prog 63 #[ptr g,.bool f] W fun e w'=>e=.returned (.tuple #[plV t q,.bool true])∧Below W.heap.size W w'):Calls Tryz.prog 26 #[ptr g,.string s,.bool f] w fun e w'=>e=.returned (.int .i64 0)∧Chg w w' b0 g r c rest nv E B (QM.rep N (if f then 0 else N.length) 0 [[s]]):=by
  have HL:Hid _:=h
  have HW:Hid _:=hw
  have HEN:Hid _:=hEN
  have HI:Hid _:=hI
  have hln:N.length ≤ 1000:=Nat.le_trans (QM.len_le hI.some) hl
  have hXE:=hI.le
  have HMJ:Hid (∀ W,LS W b0 g r c rest nv E B (nds B N) → Calls Tryz.prog 62 #[ptr g,.string s] W fun e w'=>e=.returned (.int .i64 0)∧w'=W):=fun W hW=>by
    have:=mayJoin_any s (by omega) W hW
    have e:mayQ (cntN (nds B N)) s=0:=by unfold mayQ; rw [cnt_nds,if_neg (by omega),if_neg (by omega)]
    rw [e] at this; exact this
  have HIL:Hid (∀ W,Calls Tryz.prog 52 #[.agg #[.int .i64 (E:Int),.int .i64 (B:Int)],.string s] W fun e w'=>e=.returned (.bool true)∧Below W.heap.size W w'):=fun W=>by
    have:=isLarge_any E B s (by omega) hI.lb W
    rw [hb] at this; exact this
  obtain ⟨gp,hgp⟩:∃ gp,(if f then 0 else N.length)=gp:=⟨_,rfl⟩
  have hgl:gp ≤ N.length:=by rw [← hgp]; split <;> omega
  have HGA:Hid (∀ W,LS W b0 g r c rest nv E B (nds B N) → Calls Tryz.prog 22 #[ptr g,.bool f] W fun e w'=>e=.returned (plV gp 0)∧Below W.heap.size W w'):=fun W hW=>by
    have:=gap_n f (by simp [nds]; omega) W hW
    simp only [nds,List.length_map] at this
    rw [hgp] at this; exact this
  have HAL:Hid (∀ W,Lay W → Calls Tryz.prog 67 #[.agg #[.int .i64 (E:Int),.int .i64 (B:Int)],.string s] W fun e w'=>e=.returned (.agg #[.string (packN [s]),.int .i64 1,.bool (QM.big B s)])∧Below W.heap.size W w'):=fun W hW=>alone_any E B s hs HI.out.lb W hW
  have HRP:Hid (∀ a W,Below w.heap.size w a → W=a.alloc (.cells #[.string (packN [s]),.int .i64 1,.bool (QM.big B s)] 55) → Calls Tryz.prog 21 #[ptr g,plV gp 0,.int .i64 0,.slice (some ⟨a.heap.size,0,none⟩) 1 1] W fun e w'=>e=.returned (.tuple #[])∧Chg a w' b0 g r c rest nv E B (QM.rep N gp 0 [[s]])):=fun a W ha hW=>by
    subst hW
    have hLa:=HL.out.on ha
    have hba:Below a.heap.size a (a.alloc (.cells #[.string (packN [s]),.int .i64 1,.bool (QM.big B s)] 55)):=(Below.refl _ _).alloc (Nat.le_refl _) _
    exact replN_any gp 0 0 a.heap.size [(packN [s],1,QM.big B s)] [[s]] ⟨⟨rfl,rfl,fun _=>rfl⟩,trivial⟩ a _ hba (hLa.on hba) hLa (by omega) hln (by omega) (by simp) (by simp) (by simp) (nx_one a (packN [s],1,QM.big B s)) (Nat.le_refl _) (fun e=>by simp [QM.nes])
  rw [hgp]
  generalize packN [s]=PK at *
  rw [hb] at HAL HRP
  clear hb
  clear hw h hEN hI hgp
  go_enter Tryz.func26,Tryz.ntmps26
  go_wp2_with fail
  refine (show Calls _ _ _ _ _ from HMJ.out _ HL.out).mono ?_
  rintro e w1 ⟨rfl,rfl⟩
  go_wp2_with fail
  refine (show Calls _ _ _ _ _ from HEN.out _ HL.out).mono ?_
  rintro e w2 ⟨rfl,hb2⟩
  have HB2:Hid (Below w1.heap.size w1 w2):=hb2
  have hwy:Below w1.heap.size w1 (w2.alloc (.cells #[.int .i64 0,.int .i64 (t:Int),.int .i64 (q:Int)] 65)):=HB2.out.alloc HB2.out.size _
  have hpy:=one_alloc w2 (.cells #[.int .i64 0,.int .i64 (t:Int),.int .i64 (q:Int)] 65)
  clear hb2
  go_wp2_with fail
  generalize w2.alloc (.cells #[.int .i64 0,.int .i64 (t:Int),.int .i64 (q:Int)] 65)=y at *
  have HBY:Hid (∀ W,Below y.heap.size y W → Below w1.heap.size w1 W):=fun W hW=>bel_to hwy hW (Nat.le_refl _)
  obtain ⟨l0,l1,l2,l3,lf⟩:=lrow4 (HL.out.on hwy).hd
  obtain ⟨p0,p1,p2,pf⟩:=row3 hpy
  have hsz2:w1.heap.size ≤ w2.heap.size:=HB2.out.size
  have hSA:=And.intro p0 (And.intro p1 (And.intro p2 (And.intro l0 l1)))
  have HKS:Hid (∀ w':World,Below y.heap.size y w' → w'.cell? ⟨w2.heap.size,0,none⟩=some (.int .i64 0)∧w'.cell? ⟨w2.heap.size,1,none⟩=some (.int .i64 (t:Int))∧w'.cell? ⟨w2.heap.size,2,none⟩=some (.int .i64 (q:Int))∧w'.cell? ⟨g,0,none⟩=some (.int .i64 (E:Int))∧w'.cell? ⟨g,1,none⟩=some (.int .i64 (B:Int))):=fun W hW=>And.intro (cell_on p0 hW) (And.intro (cell_on p1 hW) (And.intro (cell_on p2 hW) (And.intro (cell_on l0 hW) (cell_on l1 hW))))
  have HKC:Hid (∀ (a w':World) (N':QM.NL),Below y.heap.size y a → Chg a w' b0 g r c rest nv E B N' → w'.cell? ⟨w2.heap.size,0,none⟩=some (.int .i64 0)∧w'.cell? ⟨w2.heap.size,1,none⟩=some (.int .i64 (t:Int))∧w'.cell? ⟨w2.heap.size,2,none⟩=some (.int .i64 (q:Int))∧w'.cell? ⟨g,0,none⟩=some (.int .i64 (E:Int))∧w'.cell? ⟨g,1,none⟩=some (.int .i64 (B:Int))):=fun a W N' ha hc=>And.intro (hc.cell HL.out hsz2 (cell_on p0 ha)) (And.intro (hc.cell HL.out hsz2 (cell_on p1 ha)) (And.intro (hc.cell HL.out hsz2 (cell_on p2 ha)) hc.bnd))
  clear hwy hpy l0 l1 l2 l3 lf p0 p1 p2 pf HMJ HEN
  go_cut [41] from 22 to 41 (fun s41 wx=>s41=.bool false∧Below y.heap.size y wx)
  case first =>
    refine wp_region_noPanic ?_
    refine wp_region_held_drew (S:=(fun w':World=>w'.cell? ⟨g,0,none⟩=some (.int .i64 (E:Int))∧w'.cell? ⟨g,1,none⟩=some (.int .i64 (B:Int)))) (by kernel_rfl) ?_ (fun hHeld=>?_)
    · exact (HKS.out _ ((Below.refl _ y).drew)).2.2.2
    refine wpAnyH_take (i:=0) (oi:={ dst:=some 22,op:=Op.move (Operand.tmp 9),type:=4,pos:= "quicklist.go:98",after:=#[],guard:=none }) (v:=?v0) rfl (by kernel_rfl) (by kernel_rfl) (by kernel_rfl) (fun _ _ _ h=>h) (Or.inl ⟨by rfl,?h0⟩) (by assumption) ?r0
    case h0=>(intro w hSw; (try dsimp only at hSw); go_simp; try with_reducible rfl)
    try simp only [Act.put,List.setIfInBounds_toArray,List.set_cons_zero,List.set_cons_succ]
    refine wpAnyH_take (i:=1) (oi:={ dst:=some 23,op:=Op.move (Operand.tmp 22),type:=4,pos:= "quicklist.go:98",after:=#[{ on:=0,ground:=Ground.data }],guard:=none }) (v:=?v1) rfl (by kernel_rfl) (by kernel_rfl) (by kernel_rfl) (fun _ _ _ h=>h) (Or.inl ⟨by rfl,?h1⟩) (by assumption) ?r1
    case h1=>(intro w hSw; (try dsimp only at hSw); go_simp; try with_reducible rfl)
    try simp only [Act.put,List.setIfInBounds_toArray,List.set_cons_zero,List.set_cons_succ]
    refine wpAnyH_take (i:=2) (oi:={ dst:=some 24,op:=Op.move (Operand.tmp 0),type:=23,pos:= "quicklist.go:98",after:=#[{ on:=1,ground:=Ground.guard }],guard:=some (1,true) }) (v:=?v2) rfl (by kernel_rfl) (by kernel_rfl) (by kernel_rfl) (fun _ _ _ h=>h) (Or.inl ⟨by rfl,?h2⟩) (by assumption) ?r2
    case h2=>(intro w hSw; (try dsimp only at hSw); go_simp; try with_reducible rfl)
    try simp only [Act.put,List.setIfInBounds_toArray,List.set_cons_zero,List.set_cons_succ]
    refine wpAnyH_take (i:=3) (oi:={ dst:=some 25,op:=Op.nilCheck (Operand.tmp 24),type:=0,pos:= "quicklist.go:98",after:=#[{ on:=2,ground:=Ground.data },{ on:=1,ground:=Ground.guard }],guard:=some (1,true) }) (v:=?v3) rfl (by kernel_rfl) (by kernel_rfl) (by kernel_rfl) (fun _ _ _ h=>h) (Or.inl ⟨by rfl,?h3⟩) (by assumption) ?r3
    case h3=>(intro w hSw; (try dsimp only at hSw); go_simp; try with_reducible rfl)
    try simp only [Act.put,List.setIfInBounds_toArray,List.set_cons_zero,List.set_cons_succ]
    refine wpAnyH_take (i:=4) (oi:={ dst:=some 26,op:=Op.fieldAddr 62 (Operand.tmp 25) 0,type:=0,pos:= "quicklist.go:98",after:=#[{ on:=3,ground:=Ground.data },{ on:=1,ground:=Ground.guard }],guard:=some (1,true) }) (v:=?v4) rfl (by kernel_rfl) (by kernel_rfl) (by kernel_rfl) (fun _ _ _ h=>h) (Or.inl ⟨by rfl,?h4⟩) (by assumption) ?r4
    case h4=>(intro w hSw; (try dsimp only at hSw); go_simp; try with_reducible rfl)
    try simp only [Act.put,List.setIfInBounds_toArray,List.set_cons_zero,List.set_cons_succ]
    refine wpAnyH_take (i:=5) (oi:={ dst:=some 27,op:=Op.load 59 (Operand.tmp 26),type:=59,pos:= "quicklist.go:98",after:=#[{ on:=4,ground:=Ground.data },{ on:=1,ground:=Ground.guard }],guard:=some (1,true) }) (v:=?v5) rfl (by kernel_rfl) (by kernel_rfl) (by kernel_rfl) (fun _ _ _ h=>h) (Or.inl ⟨by rfl,?h5⟩) (by assumption) ?r5
    case h5=>(intro w hSw; (try dsimp only at hSw); go_simp; try with_reducible rfl)
    try simp only [Act.put,List.setIfInBounds_toArray,List.set_cons_zero,List.set_cons_succ]
    refine wpAnyH_take (i:=6) (oi:={ dst:=some 28,op:=Op.move (Operand.tmp 1),type:=9,pos:= "quicklist.go:98",after:=#[{ on:=1,ground:=Ground.guard }],guard:=some (1,true) }) (v:=?v6) rfl (by kernel_rfl) (by kernel_rfl) (by kernel_rfl) (fun _ _ _ h=>h) (Or.inl ⟨by rfl,?h6⟩) (by assumption) ?r6
    case h6=>(intro w hSw; (try dsimp only at hSw); go_simp; try with_reducible rfl)
    try simp only [Act.put,List.setIfInBounds_toArray,List.set_cons_zero,List.set_cons_succ]
    refine wpAnyH_ready (rs:=[7]) (by kernel_rfl) (by simp) ?_
    refine AllReadyH.cons (o:={ dst:=some 29,op:=Op.call { callee:=Callee.value (Operand.func 52),args:=#[Operand.tmp 27,Operand.tmp 28],argTypes:=#[59,9] },type:=4,pos:= "quicklist.go:98",after:=#[{ on:=5,ground:=Ground.data },{ on:=6,ground:=Ground.data },{ on:=1,ground:=Ground.chain },{ on:=1,ground:=Ground.guard }],guard:=some (1,true) }) rfl (fun K hK=>?_) AllReadyH.nil
    go_simp
    refine (show Calls _ _ _ _ _ from HIL.out _).mono ?_
    rintro e a1 ⟨rfl,hb1⟩
    have hx1:=bel_to ((Below.refl _ y).drew) hb1 (Nat.le_refl _)
    go_wp2_with fail
    refine hK.out _ _ ?_ (fun hHeld=>?_)
    · exact (HKS.out _ hx1).2.2.2
    clear hK K
    try simp only [Act.put,List.setIfInBounds_toArray,List.set_cons_zero,List.set_cons_succ]
    refine wpAnyH_take (i:=8) (oi:={ dst:=some 30,op:=Op.unOp UnOp.not 4 (Operand.tmp 29),type:=4,pos:= "quicklist.go:98",after:=#[{ on:=7,ground:=Ground.data },{ on:=1,ground:=Ground.guard }],guard:=some (1,true) }) (v:=?v8) rfl (by kernel_rfl) (by kernel_rfl) (by kernel_rfl) (fun _ _ _ h=>h) (Or.inl ⟨by rfl,?h8⟩) (by assumption) ?r8
    case h8=>(intro w hSw; (try dsimp only at hSw); go_simp; try with_reducible rfl)
    try simp only [Act.put,List.setIfInBounds_toArray,List.set_cons_zero,List.set_cons_succ]
    refine wpAnyH_take (i:=9) (oi:={ dst:=some 31,op:=Op.pick (Operand.tmp 23) (Operand.tmp 30) (Operand.const (Value.bool false)),type:=4,pos:= "quicklist.go:98",after:=#[{ on:=1,ground:=Ground.data },{ on:=8,ground:=Ground.data }],guard:=none }) (v:=?v9) rfl (by kernel_rfl) (by kernel_rfl) (by kernel_rfl) (fun _ _ _ h=>h) (Or.inl ⟨by rfl,?h9⟩) (by assumption) ?r9
    case h9=>(intro w hSw; (try dsimp only at hSw); go_simp; try with_reducible rfl)
    try simp only [Act.put,List.setIfInBounds_toArray,List.set_cons_zero,List.set_cons_succ]
    refine wpAnyH_take (i:=10) (oi:={ dst:=some 32,op:=Op.move (Operand.tmp 31),type:=4,pos:= "quicklist.go:98",after:=#[{ on:=9,ground:=Ground.data },{ on:=7,ground:=Ground.chain }],guard:=none }) (v:=?v10) rfl (by kernel_rfl) (by kernel_rfl) (by kernel_rfl) (fun _ _ _ h=>h) (Or.inl ⟨by rfl,?h10⟩) (by assumption) ?r10
    case h10=>(intro w hSw; (try dsimp only at hSw); go_simp; try with_reducible rfl)
    try simp only [Act.put,List.setIfInBounds_toArray,List.set_cons_zero,List.set_cons_succ]
    refine wpAnyH_take (i:=11) (oi:={ dst:=some 33,op:=Op.move (Operand.tmp 0),type:=23,pos:= "quicklist.go:98",after:=#[{ on:=10,ground:=Ground.guard }],guard:=some (10,true) }) (v:=undef) rfl (by kernel_rfl) (by kernel_rfl) (by kernel_rfl) (fun _ _ _ h=>h) (Or.inr ⟨by rfl,rfl⟩) (by assumption) ?_
    try simp only [Act.put,List.setIfInBounds_toArray,List.set_cons_zero,List.set_cons_succ]
    refine wpAnyH_take (i:=12) (oi:={ dst:=some 34,op:=Op.nilCheck (Operand.tmp 33),type:=0,pos:= "quicklist.go:98",after:=#[{ on:=11,ground:=Ground.data },{ on:=10,ground:=Ground.guard }],guard:=some (10,true) }) (v:=undef) rfl (by kernel_rfl) (by kernel_rfl) (by kernel_rfl) (fun _ _ _ h=>h) (Or.inr ⟨by rfl,rfl⟩) (by assumption) ?_
    try simp only [Act.put,List.setIfInBounds_toArray,List.set_cons_zero,List.set_cons_succ]
    refine wpAnyH_take (i:=13) (oi:={ dst:=some 35,op:=Op.fieldAddr 62 (Operand.tmp 34) 0,type:=0,pos:= "quicklist.go:98",after:=#[{ on:=12,ground:=Ground.data },{ on:=10,ground:=Ground.guard }],guard:=some (10,true) }) (v:=undef) rfl (by kernel_rfl) (by kernel_rfl) (by kernel_rfl) (fun _ _ _ h=>h) (Or.inr ⟨by rfl,rfl⟩) (by assumption) ?_
    try simp only [Act.put,List.setIfInBounds_toArray,List.set_cons_zero,List.set_cons_succ]
    refine wpAnyH_take (i:=14) (oi:={ dst:=some 36,op:=Op.load 59 (Operand.tmp 35),type:=59,pos:= "quicklist.go:98",after:=#[{ on:=13,ground:=Ground.data },{ on:=10,ground:=Ground.guard }],guard:=some (10,true) }) (v:=undef) rfl (by kernel_rfl) (by kernel_rfl) (by kernel_rfl) (fun _ _ _ h=>h) (Or.inr ⟨by rfl,rfl⟩) (by assumption) ?_
    try simp only [Act.put,List.setIfInBounds_toArray,List.set_cons_zero,List.set_cons_succ]
    refine wpAnyH_take (i:=15) (oi:={ dst:=some 37,op:=Op.move (Operand.tmp 0),type:=23,pos:= "quicklist.go:98",after:=#[{ on:=10,ground:=Ground.guard }],guard:=some (10,true) }) (v:=undef) rfl (by kernel_rfl) (by kernel_rfl) (by kernel_rfl) (fun _ _ _ h=>h) (Or.inr ⟨by rfl,rfl⟩) (by assumption) ?_
    try simp only [Act.put,List.setIfInBounds_toArray,List.set_cons_zero,List.set_cons_succ]
    refine wpAnyH_take (i:=16) (oi:={ dst:=some 38,op:=Op.load 65 (Operand.tmp 8),type:=65,pos:= "quicklist.go:98",after:=#[{ on:=10,ground:=Ground.guard }],guard:=some (10,true) }) (v:=undef) rfl (by kernel_rfl) (by kernel_rfl) (by kernel_rfl) (fun _ _ _ h=>h) (Or.inr ⟨by rfl,rfl⟩) (by assumption) ?_
    try simp only [Act.put,List.setIfInBounds_toArray,List.set_cons_zero,List.set_cons_succ]
    refine wpAnyH_take (i:=17) (oi:={ dst:=some 39,op:=Op.call { callee:=Callee.value (Operand.func 65),args:=#[Operand.tmp 37,Operand.tmp 38],argTypes:=#[23,65] },type:=55,pos:= "quicklist.go:98",after:=#[{ on:=15,ground:=Ground.data },{ on:=16,ground:=Ground.data },{ on:=10,ground:=Ground.chain },{ on:=10,ground:=Ground.guard }],guard:=some (10,true) }) (v:=undef) rfl (by kernel_rfl) (by kernel_rfl) (by kernel_rfl) (fun _ _ _ h=>h) (Or.inr ⟨by rfl,rfl⟩) (by assumption) ?_
    try simp only [Act.put,List.setIfInBounds_toArray,List.set_cons_zero,List.set_cons_succ]
    refine wpAnyH_take (i:=18) (oi:={ dst:=some 40,op:=Op.call { callee:=Callee.value (Operand.func 64),args:=#[Operand.tmp 36,Operand.tmp 39],argTypes:=#[59,55] },type:=4,pos:= "quicklist.go:98",after:=#[{ on:=14,ground:=Ground.data },{ on:=17,ground:=Ground.data },{ on:=17,ground:=Ground.chain },{ on:=10,ground:=Ground.guard }],guard:=some (10,true) }) (v:=undef) rfl (by kernel_rfl) (by kernel_rfl) (by kernel_rfl) (fun _ _ _ h=>h) (Or.inr ⟨by rfl,rfl⟩) (by assumption) ?_
    try simp only [Act.put,List.setIfInBounds_toArray,List.set_cons_zero,List.set_cons_succ]
    refine wpAnyH_take (i:=19) (oi:={ dst:=some 41,op:=Op.pick (Operand.tmp 32) (Operand.tmp 40) (Operand.const (Value.bool false)),type:=4,pos:= "quicklist.go:98",after:=#[{ on:=10,ground:=Ground.data },{ on:=18,ground:=Ground.data }],guard:=none }) (v:=?v19) rfl (by kernel_rfl) (by kernel_rfl) (by kernel_rfl) (fun _ _ _ h=>h) (Or.inl ⟨by rfl,?h19⟩) (by assumption) ?r19
    case h19=>(intro w hSw; (try dsimp only at hSw); go_simp; try with_reducible rfl)
    try simp only [Act.put,List.setIfInBounds_toArray,List.set_cons_zero,List.set_cons_succ]
    refine wpAnyH_done (by kernel_rfl) ?_ _
    refine NoPanic.normal ?_
    all_goals go_wp2
    all_goals go_meet
    all_goals exact ⟨rfl,hx1⟩
  obtain ⟨rfl,hx1⟩:=hcut
  have HX3:Hid (Below y.heap.size y wc):=hx1
  have hSB:=HKS.out _ hx1
  clear hx1
  go_wp2_with fail
  go_region_held3 (fun w':World=>w'.cell? ⟨w2.heap.size,0,none⟩=some (.int .i64 0)∧w'.cell? ⟨w2.heap.size,1,none⟩=some (.int .i64 (t:Int))∧w'.cell? ⟨w2.heap.size,2,none⟩=some (.int .i64 (q:Int))∧w'.cell? ⟨g,0,none⟩=some (.int .i64 (E:Int))∧w'.cell? ⟨g,1,none⟩=some (.int .i64 (B:Int)))
    (first | exact hSB | exact HKS.out _ hx5 | exact HKS.out _ hx4 | exact HKC.out _ _ _ hx5 hc5 | exact HKS.out _ (hx5.alloc hx5.size _) | exact HKS.out _ (HX3.out.drew))
    (first | (go_at_call 21; refine (show Calls _ _ _ _ _ from HRP.out a5 _ (HBY.out _ hx5) rfl).mono ?_; rintro e a6 ⟨rfl,hc5⟩) | (go_at_call 67; refine (show Calls _ _ _ _ _ from HAL.out _ (HW.out.on (HBY.out _ hx4))).mono ?_; rintro e a5 ⟨rfl,hb5⟩; have hx5:=bel_to hx4 hb5 (Nat.le_refl _)) | (go_at_call 22; refine (show Calls _ _ _ _ _ from HGA.out _ (HL.out.on (HBY.out _ HX3.out.drew))).mono ?_; rintro e a4 ⟨rfl,hb4⟩; have hx4:=bel_to HX3.out.drew hb4 (Nat.le_refl _)))
  have HC5:Hid _:=hc5.back (HBY.out _ hx5)
  clear hc5 hx4 hx5 hb4 hb5 hSB
  go_wp2
  go_returns
  exact ⟨rfl,HC5.out⟩

end
end Go.Proofs.YtijambehfobopaaGreatDoor
namespace Go.Proofs.YtijambehfobopaaGreatDoor
open Go.RowKit
set_option linter.unusedVariables false
set_option linter.unusedSimpArgs false
theorem fldC (a b d:Value) (w:World):(Instr.field 55 (.agg #[a,b,d]) 1).run Tryz.prog w=.ok b w:=by kernel_rfl
section
variable {b0 g r c:Nat} {rest:List Value} {nv:Value} {E B:Nat} {N:QM.NL}
set_option maxHeartbeats 4000000 in
set_option maxRecDepth 100000 in
theorem end_back (hc:0 < N.flatten.length) (hl:N.flatten.length ≤ 1000) (hI:QM.Inv E B N) (t:Nat) (ht:t + 1=N.length) (w:World) (h:LS w b0 g r c rest nv E B (nds B N)):Calls Tryz.prog 63 #[ptr g,.bool false] w fun e w'=>e=.returned (.tuple #[plV t (N[t]'(by omega)).length,.bool true])∧Below w.heap.size w w':=by
  have HL:Hid _:=h
  have hln:N.length ≤ 1000:=Nat.le_trans (QM.len_le hI.some) hl
  have HG:Hid (∀ W,LS W b0 g r c rest nv E B (nds B N) → Calls Tryz.prog 22 #[ptr g,.bool false] W fun e w'=>e=.returned (plV (t + 1) 0)∧Below W.heap.size W w'):=fun W hW=>by
    have:=gap_back (by simp [nds]; omega) W hW
    simp only [nds,List.length_map,← ht] at this
    exact this
  have HND:Hid (∀ W,LS W b0 g r c rest nv E B (nds B N) → _):=fun W hW=>nodeN_any t 0 (by omega) hln W hW
  generalize packN (N[t]'(by omega))=PK at *
  have hL5:=hI.few _ (List.getElem_mem (show t < N.length by omega))
  have hE5:=hI.le
  generalize (N[t]'(by omega)).length=LN at *
  generalize QM.lg B (N[t]'(by omega))=LG at *
  obtain ⟨CN,hCN⟩:∃ CN,N.flatten.length=CN:=⟨_,rfl⟩
  have HCN:Hid _:=hCN
  have hc0:0 < CN:=by omega
  obtain ⟨t1,ht1⟩:∃ t1,t + 1=t1:=⟨_,rfl⟩
  rw [ht1] at HG
  have hw1:IntKind.i64.wrap ((t1:Int) - 1)=(t:Int):=by rw [IntKind.wrap_i64] <;> omega
  clear h hCN ht hc hl hI ht1
  go_enter Tryz.func63,Tryz.ntmps63
  go_wp2_with fail
  refine (show Calls _ _ _ _ _ from HG.out _ (HL.out.on ((Below.refl _ w).alloc (Nat.le_refl _) _))).mono ?_
  rintro e w1 ⟨rfl,hb1⟩
  have HB1:Hid (Below w.heap.size w w1):=bel_to ((Below.refl _ w).alloc (Nat.le_refl _) _) hb1 (Nat.le_refl _)
  have hL1:=HL.out.on HB1.out
  have hr:=keep_row (one_alloc w (.cells #[.int .i64 0,.int .i64 0,.int .i64 0] 65)) hb1
  have HR:Hid _:=hr
  obtain ⟨l0,l1,l2,l3,lf⟩:=lrow4 hL1.hd
  rw [cnt_nds,HCN.out] at l2
  have L2:=cell_a1 l2
  have hcz:¬ ((CN:Int)=0):=by omega
  have HB5:Hid (Below w.heap.size w ((w1.alloc (.cells #[.int .i64 0,.int .i64 (t1:Int),.int .i64 0] 65)).setCell ⟨w1.heap.size,1,none⟩ (.int .i64 (t:Int)))):=(HB1.out.alloc HB1.out.size _).setCell (p:=⟨w1.heap.size,1,none⟩) HB1.out.size _
  clear hL1 hr hb1 l0 l1 l2 l3 lf
  go_wp2_with fail
  refine (show Calls _ _ _ _ _ from HND.out _ (HL.out.on (HB1.out.alloc HB1.out.size _))).mono ?_
  rintro e w3 ⟨rfl,hb3⟩
  have HB3:Hid (Below w.heap.size w w3):=bel_to (HB1.out.alloc HB1.out.size _) hb3 (Nat.le_refl _)
  have hp3:=keep_row (one_alloc w1 (.cells #[.int .i64 0,.int .i64 (t:Int),.int .i64 0] 65)) hb3
  have hr3:=keep_row (keep_row HR.out ((Below.refl _ _).alloc (Nat.le_refl _) (.cells #[.int .i64 0,.int .i64 (t:Int),.int .i64 0] 65))) hb3
  obtain ⟨p0,p1,p2,pf⟩:=row3 hp3
  obtain ⟨c0,c1,c2,cf⟩:=row3 hr3
  have hsw:=row_lt HR.out
  have hne1:¬ (w.heap.size=w1.heap.size):=by omega
  have hne2:¬ (w1.heap.size=w.heap.size):=by omega
  have HG3:Hid _:=heap_set3 (w3.setCell ⟨w1.heap.size,2,none⟩ (.int .i64 (LN:Int))) w.heap.size 65 _ _ _ (.int .i64 0) (.int .i64 (t:Int)) (.int .i64 (LN:Int)) ((heap_setCell_other _ _ _ _ hne1).trans hr3)
  have HS5:Hid (w.heap.size ≤ w1.heap.size):=HB1.out.size
  clear hp3 hr3 hb3 HR HG HND L2 HB5
  have hfld:=fldC
  go_wp2
  obtain ⟨g0,g1,g2,gf⟩:=row3 HG3.out.1
  exact bodyPost_ret (v:=.tuple #[plV t LN,.bool true]) (by simp [results,Tryz.results63,go_sem,g0,g1,g2]) rfl ⟨rfl,below_set3 (HB3.out.setCell (p:=⟨w1.heap.size,2,none⟩) HS5.out _) (Nat.le_refl _) _ _ _⟩
set_option maxHeartbeats 4000000 in
set_option maxRecDepth 100000 in
theorem Push_one (f:Bool) (s:ByteArray) (hs:s.size ≤ 524288) (hl:N.flatten.length ≤ 1000) (hI:QM.Inv E B N) (t q:Nat) (X:List ByteArray) (ht:t < N.length) (hX:N[t]=X) (w:World) (hw:Lay w) (h:LS w b0 g r c rest nv E B (nds B N)) (hEN:∀ W,LS W b0 g r c rest nv E B (nds B N) → Calls Tryz.prog 63 #[ptr g,.bool f] W fun e w'=>e=.returned (.tuple #[plV t q,.bool true])∧Below W.heap.size W w') (hb:QM.big B s=false) (hr:QM.room E B X=true) (hq:q ≤ X.length):Calls Tryz.prog 26 #[ptr g,.string s,.bool f] w fun e w'=>e=.returned (.int .i64 0)∧Chg w w' b0 g r c rest nv E B (QM.rep N t 1 [X.take q ++ s :: X.drop q]):=by
  have HL:Hid _:=h
  have HW:Hid _:=hw
  have HEN:Hid _:=hEN
  have HI:Hid _:=hI
  have hln:N.length ≤ 1000:=Nat.le_trans (QM.len_le hI.some) hl
  have HMJ:Hid (∀ W,LS W b0 g r c rest nv E B (nds B N) → Calls Tryz.prog 62 #[ptr g,.string s] W fun e w'=>e=.returned (.int .i64 0)∧w'=W):=fun W hW=>by
    have:=mayJoin_any s (by omega) W hW
    have e:mayQ (cntN (nds B N)) s=0:=by unfold mayQ; rw [cnt_nds,if_neg (by omega),if_neg (by omega)]
    rw [e] at this; exact this
  have HIL:Hid (∀ W,Calls Tryz.prog 52 #[.agg #[.int .i64 (E:Int),.int .i64 (B:Int)],.string s] W fun e w'=>e=.returned (.bool false)∧Below W.heap.size W w'):=fun W=>by
    have:=isLarge_any E B s (by omega) hI.lb W
    rw [hb] at this; exact this
  have hXm:X ∈ N:=by rw [← hX]; exact List.getElem_mem _
  have hXl:=hI.few X hXm
  have hXE:=hI.le
  have hlx:=(QM.room_iff.1 hr).2
  have HND:Hid (∀ W,LS W b0 g r c rest nv E B (nds B N) → Calls Tryz.prog 65 #[ptr g,plV t q] W fun e w'=>e=.returned (.agg #[.string (packN X),.int .i64 (X.length:Int),.bool false])∧Below W.heap.size W w'):=fun W hW=>by
    have:=nodeN_any t q ht hln W hW
    rw [hX,hlx] at this; exact this
  have HHR:Hid (∀ W,Calls Tryz.prog 64 #[.agg #[.int .i64 (E:Int),.int .i64 (B:Int)],.agg #[.string (packN X),.int .i64 (X.length:Int),.bool false]] W fun e w'=>e=.returned (.bool true)∧Below W.heap.size W w'):=fun W=>by
    have:=hasRoom_any E B X (packN X) hXE.2 (by omega) W
    rw [hr,hlx] at this; exact this
  clear hw h hEN hI
  go_enter Tryz.func26,Tryz.ntmps26
  go_wp2_with fail
  refine (show Calls _ _ _ _ _ from HMJ.out _ HL.out).mono ?_
  rintro e w1 ⟨rfl,rfl⟩
  go_wp2_with fail
  refine (show Calls _ _ _ _ _ from HEN.out _ HL.out).mono ?_
  rintro e w2 ⟨rfl,hb2⟩
  have HB2:Hid (Below w1.heap.size w1 w2):=hb2
  have hL2:=HL.out.on hb2
  have hwy:Below w1.heap.size w1 (w2.alloc (.cells #[.int .i64 0,.int .i64 (t:Int),.int .i64 (q:Int)] 65)):=HB2.out.alloc HB2.out.size _
  have hpy:=one_alloc w2 (.cells #[.int .i64 0,.int .i64 (t:Int),.int .i64 (q:Int)] 65)
  go_wp2_with fail
  generalize w2.alloc (.cells #[.int .i64 0,.int .i64 (t:Int),.int .i64 (q:Int)] 65)=y at *
  have HBY:Hid (∀ W,Below y.heap.size y W → Below w1.heap.size w1 W):=fun W hW=>bel_to hwy hW (Nat.le_refl _)
  obtain ⟨l0,l1,l2,l3,lf⟩:=lrow4 (HL.out.on hwy).hd
  obtain ⟨p0,p1,p2,pf⟩:=row3 hpy
  have hsz2:w1.heap.size ≤ w2.heap.size:=HB2.out.size
  have hSA:=And.intro p0 (And.intro p1 (And.intro p2 (And.intro l0 l1)))
  have HKS:Hid (∀ w':World,Below y.heap.size y w' → w'.cell? ⟨w2.heap.size,0,none⟩=some (.int .i64 0)∧w'.cell? ⟨w2.heap.size,1,none⟩=some (.int .i64 (t:Int))∧w'.cell? ⟨w2.heap.size,2,none⟩=some (.int .i64 (q:Int))∧w'.cell? ⟨g,0,none⟩=some (.int .i64 (E:Int))∧w'.cell? ⟨g,1,none⟩=some (.int .i64 (B:Int))):=fun W hW=>And.intro (cell_on p0 hW) (And.intro (cell_on p1 hW) (And.intro (cell_on p2 hW) (And.intro (cell_on l0 hW) (cell_on l1 hW))))
  have HKC:Hid (∀ (a w':World) (N':QM.NL),Below y.heap.size y a → Chg a w' b0 g r c rest nv E B N' → w'.cell? ⟨w2.heap.size,0,none⟩=some (.int .i64 0)∧w'.cell? ⟨w2.heap.size,1,none⟩=some (.int .i64 (t:Int))∧w'.cell? ⟨w2.heap.size,2,none⟩=some (.int .i64 (q:Int))∧w'.cell? ⟨g,0,none⟩=some (.int .i64 (E:Int))∧w'.cell? ⟨g,1,none⟩=some (.int .i64 (B:Int))):=fun a W N' ha hc=>And.intro (hc.cell HL.out hsz2 (cell_on p0 ha)) (And.intro (hc.cell HL.out hsz2 (cell_on p1 ha)) (And.intro (hc.cell HL.out hsz2 (cell_on p2 ha)) hc.bnd))
  have hfit:Fit X:=fit_node HI.out hXm
  have hsm:=QM.lg_not HI.out hXm hlx
  have hsB:s.size ≤ B:=QM.big_iff.1 hb
  have hlB:=HI.out.lb
  have hfit2:Fit (X.take q ++ s :: X.drop q):=fit_many (by simp; omega) (fun u hu=>by
    rcases List.mem_append.1 hu with h | h
    · have:=hsm u (List.mem_of_mem_take h); omega
    · rcases List.mem_cons.1 h with h | h
      · subst h; omega
      · have:=hsm u (List.mem_of_mem_drop h); omega)
  have hlg:QM.lg B (X.take q ++ s :: X.drop q)=false:=by
    cases hh:X.take q ++ s :: X.drop q with
    | nil=>rfl
    | cons u us =>
      have hu:u ∈ X.take q ++ s :: X.drop q:=by rw [hh]; simp
      unfold QM.lg
      rcases List.mem_append.1 hu with h | h
      · have:=hsm u (List.mem_of_mem_take h); simp; omega
      · rcases List.mem_cons.1 h with h | h
        · subst h; simp; omega
        · have:=hsm u (List.mem_of_mem_drop h); simp; omega
  have HWI:Hid (∀ W,Lay W → Calls Tryz.prog 66 #[.agg #[.string (packN X),.int .i64 (X.length:Int),.bool false],.int .i64 (q:Int),.string s] W fun e w'=>e=.returned (.agg #[.string (packN (X.take q ++ s :: X.drop q)),.int .i64 ((X.length + 1:Nat):Int),.bool false])∧Below W.heap.size W w'):=fun W hW=>with_any B X hfit q hq s hs hfit2 false W hW
  have HRP:Hid (∀ a W,Below w1.heap.size w1 a → W=a.alloc (.cells #[.string (packN (X.take q ++ s :: X.drop q)),.int .i64 ((X.length + 1:Nat):Int),.bool false] 55) → Calls Tryz.prog 21 #[ptr g,plV t q,.int .i64 1,.slice (some ⟨a.heap.size,0,none⟩) 1 1] W fun e w'=>e=.returned (.tuple #[])∧Chg a w' b0 g r c rest nv E B (QM.rep N t 1 [X.take q ++ s :: X.drop q])):=fun a W ha hW=>by
    subst hW
    have hLa:=HL.out.on ha
    have hba:Below a.heap.size a (a.alloc (.cells #[.string (packN (X.take q ++ s :: X.drop q)),.int .i64 ((X.length + 1:Nat):Int),.bool false] 55)):=(Below.refl _ _).alloc (Nat.le_refl _) _
    exact replN_any t q 1 a.heap.size [(packN (X.take q ++ s :: X.drop q),X.length + 1,false)] [X.take q ++ s :: X.drop q] ⟨⟨rfl,by simp; omega,fun _=>hlg.symm⟩,trivial⟩ a _ hba (hLa.on hba) hLa (by omega) hln (by omega) (by simp; omega) (by simp) (by simp) (nx_one a (packN (X.take q ++ s :: X.drop q),X.length + 1,false)) (Nat.le_refl _) (fun e=>by simp at e)
  generalize packN (X.take q ++ s :: X.drop q)=PK at *
  generalize X.length + 1=LN1 at *
  clear hlg hsm hsB hfit2 hfit hwy hpy l0 l1 l2 l3 lf p0 p1 p2 pf hb hr hlx HMJ HEN hX hXm
  go_region_held3 (fun w':World=>w'.cell? ⟨w2.heap.size,0,none⟩=some (.int .i64 0)∧w'.cell? ⟨w2.heap.size,1,none⟩=some (.int .i64 (t:Int))∧w'.cell? ⟨w2.heap.size,2,none⟩=some (.int .i64 (q:Int))∧w'.cell? ⟨g,0,none⟩=some (.int .i64 (E:Int))∧w'.cell? ⟨g,1,none⟩=some (.int .i64 (B:Int)))
    (first | exact hSA | exact HKS.out _ hx3 | exact HKS.out _ hx2 | exact HKS.out _ hx1 | exact HKS.out _ ((Below.refl _ y).drew))
    (first | (go_at_call 64; refine (show Calls _ _ _ _ _ from HHR.out _).mono ?_; rintro e a3 ⟨rfl,hb3⟩; have hx3:=bel_to hx2 hb3 (Nat.le_refl _)) | (go_at_call 65; refine (show Calls _ _ _ _ _ from HND.out _ (HL.out.on (HBY.out _ hx1))).mono ?_; rintro e a2 ⟨rfl,hb2⟩; have hx2:=bel_to hx1 hb2 (Nat.le_refl _)) | (go_at_call 52; refine (show Calls _ _ _ _ _ from HIL.out _).mono ?_; rintro e a1 ⟨rfl,hb1⟩; have hx1:=bel_to ((Below.refl _ y).drew) hb1 (Nat.le_refl _)))
  have HX3:Hid (Below y.heap.size y a3):=hx3
  have hSB:=HKS.out _ hx3
  clear hx1 hx2 hx3 hb1 hb2 hb3 hSA
  go_wp2_with fail
  go_region_held3 (fun w':World=>w'.cell? ⟨w2.heap.size,0,none⟩=some (.int .i64 0)∧w'.cell? ⟨w2.heap.size,1,none⟩=some (.int .i64 (t:Int))∧w'.cell? ⟨w2.heap.size,2,none⟩=some (.int .i64 (q:Int))∧w'.cell? ⟨g,0,none⟩=some (.int .i64 (E:Int))∧w'.cell? ⟨g,1,none⟩=some (.int .i64 (B:Int)))
    (first | exact hSB | exact HKS.out _ hx5 | exact HKS.out _ hx4 | exact HKC.out _ _ _ hx5 hc5 | exact HKS.out _ (hx5.alloc hx5.size _) | exact HKS.out _ (HX3.out.drew))
    (first | (go_at_call 21; refine (show Calls _ _ _ _ _ from HRP.out a5 _ (HBY.out _ hx5) rfl).mono ?_; rintro e a6 ⟨rfl,hc5⟩) | (go_at_call 66; refine (show Calls _ _ _ _ _ from HWI.out _ (HW.out.on (HBY.out _ hx4))).mono ?_; rintro e a5 ⟨rfl,hb5⟩; have hx5:=bel_to hx4 hb5 (Nat.le_refl _)) | (go_at_call 65; refine (show Calls _ _ _ _ _ from HND.out _ (HL.out.on (HBY.out _ HX3.out.drew))).mono ?_; rintro e a4 ⟨rfl,hb4⟩; have hx4:=bel_to HX3.out.drew hb4 (Nat.le_refl _)))
  have HC5:Hid _:=hc5.back (HBY.out _ hx5)
  clear hc5 hx4 hx5 hb4 hb5 hSB
  go_wp2
  go_returns
  exact ⟨rfl,HC5.out⟩
end
end Go.Proofs.YtijambehfobopaaGreatDoor
namespace Go.Proofs.YtijambehfobopaaGreatDoor
open Go.RowKit
set_option linter.unusedVariables false
set_option linter.unusedSimpArgs false
section
variable {b0 g r c:Nat} {rest:List Value} {nv:Value} {E B:Nat} {N:QM.NL}
end
end Go.Proofs.YtijambehfobopaaGreatDoor
namespace Go.Proofs.YtijambehfobopaaGreatDoor
open Go.RowKit
set_option linter.unusedVariables false
set_option linter.unusedSimpArgs false
section
variable {b0 g r c:Nat} {rest:List Value} {nv:Value} {E B:Nat} {N:QM.NL}
theorem Chg.bel {w00 w w':World} {N':QM.NL} (hL:LS w b0 g r c rest nv E B (nds B N)) (hc:Chg w w' b0 g r c rest nv E B N') (hb:Below w00.heap.size w00 w) (h0:w00.heap.size ≤ b0):Below w00.heap.size w00 w':=by
  obtain ⟨nv',q1,q2,q3⟩:=hc
  refine ⟨q2.os.trans hb.os,q2.tape.trans hb.tape,q2.output.trans hb.output,Nat.le_trans hb.size q2.size,fun k hk=>?_⟩
  refine (q2.block k (Nat.lt_of_lt_of_le hk hb.size) ?_).trans (hb.block k hk)
  rintro (e | e | e)
  · have:=hL.hg; omega
  · have:=hL.hr; omega
  · rcases hL.nd with ⟨e1,_⟩ | ⟨E2,c2,e1,e2,hN⟩
    · rw [e1] at e; simp [Value.ownBlock] at e
    · have:E2=k:=by rw [e1] at e; simpa [Value.ownBlock] using e
      omega
end
end Go.Proofs.YtijambehfobopaaGreatDoor
namespace Go.Proofs.YtijambehfobopaaGreatDoor
open Go.RowKit
set_option linter.unusedVariables false
set_option linter.unusedSimpArgs false
section
variable {b0 g r c:Nat} {rest:List Value} {nv:Value} {E B:Nat} {N:QM.NL}
theorem end_any (f:Bool) (t:Nat) (htf:t=if f then 0 else N.length - 1) (ht:t < N.length) (hl:N.flatten.length ≤ 1000) (hI:QM.Inv E B N) (w:World) (h:LS w b0 g r c rest nv E B (nds B N)):Calls Tryz.prog 63 #[ptr g,.bool f] w fun e w'=>e=.returned (.tuple #[plV t (if f then 0 else N[t].length),.bool true])∧Below w.heap.size w w':=by
  have hln:N.length ≤ 1000:=Nat.le_trans (QM.len_le hI.some) hl
  have hpos:0 < N.flatten.length:=by have:=QM.len_le hI.some; omega
  cases f with
  | true =>
    simp at htf; subst htf
    exact end_front (by rw [cnt_nds]; exact hpos) (by simp [nds]; omega) w h
  | false =>
    simp at htf
    exact end_back hpos hl hI t (by omega) w h
theorem Push_any (f:Bool) (s:ByteArray) (hs:s.size ≤ 524288) (hl:N.flatten.length ≤ 1000) (hI:QM.Inv E B N) (w:World) (hw:Lay w) (h:LS w b0 g r c rest nv E B (nds B N)):Calls Tryz.prog 26 #[ptr g,.string s,.bool f] w fun e w'=>e=.returned (.int .i64 0)∧Chg w w' b0 g r c rest nv E B (QM.push E B N s f):=by
  have hln:N.length ≤ 1000:=Nat.le_trans (QM.len_le hI.some) hl
  by_cases h0:N.length=0
  · have hN:N=[]:=List.length_eq_zero_iff.1 h0
    subst hN
    have e:QM.push E B [] s f=QM.rep [] (if f then 0 else ([]:QM.NL).length) 0 [[s]]:=by cases f <;> rfl
    rw [e]
    exact Push_none f s hs hl hI 0 0 w hw h (fun W hW=>end_none f (by rw [cnt_nds]; rfl) (by simp [nds]) W hW)
  · obtain ⟨t,htf⟩:∃ t,t=if f then 0 else N.length - 1:=⟨_,rfl⟩
    have ht:t < N.length:=by rw [htf]; split <;> omega
    have hEN:∀ W,LS W b0 g r c rest nv E B (nds B N) → _:=fun W hW=>end_any f t htf ht hl hI W hW
    cases hb:QM.big B s with
    | true =>
      have e:QM.push E B N s f=QM.rep N (if f then 0 else N.length) 0 [[s]]:=by
        rcases QM.push_rep E B N s f with e | ⟨n,hn,hb',_⟩
        · exact e
        · rw [hb] at hb'; cases hb'
      rw [e]
      exact Push_big f s hs hl hI _ _ hb w hw h hEN
    | false =>
      cases hr:QM.room E B N[t] with
      | true =>
        have e:QM.push E B N s f=QM.rep N t 1 [N[t].take (if f then 0 else N[t].length) ++ s :: N[t].drop (if f then 0 else N[t].length)]:=by
          unfold QM.push
          cases f with
          | true =>
            simp at htf; subst htf
            cases N with
            | nil=>simp at ht
            | cons x M =>
              have e5:(if true=true then QM.pushF E B (x :: M) s else QM.pushB E B (x :: M) s)=(if QM.big B s=false∧QM.room E B x=true then (s :: x) :: M else [s] :: x :: M):=rfl
              rw [e5,if_pos ⟨hb,by simpa using hr⟩]
              simp [QM.rep,QM.nes]
          | false =>
            simp at htf; subst htf
            rw [if_neg (by simp)]
            unfold QM.pushB
            rw [List.getLast?_eq_getElem?,List.getElem?_eq_getElem ht]
            simp only
            rw [if_pos ⟨hb,hr⟩]
            simp
        rw [e]
        exact Push_one f s hs hl hI t _ N[t] ht rfl w hw h hEN hb hr (by split <;> omega)
      | false =>
        have e:QM.push E B N s f=QM.rep N (if f then 0 else N.length) 0 [[s]]:=by
          rcases QM.push_rep E B N s f with e | ⟨n,hn,hb',hr',hnf,_⟩
          · exact e
          · have:n=t:=by rw [hnf,htf]
            subst this; rw [hr] at hr'; cases hr'
        rw [e]
        exact Push_full f s hs hl hI t _ N[t] ht rfl hb hr w hw h hEN
end
end Go.Proofs.YtijambehfobopaaGreatDoor
