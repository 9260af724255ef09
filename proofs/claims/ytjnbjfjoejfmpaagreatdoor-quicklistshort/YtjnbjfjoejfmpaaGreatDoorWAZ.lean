import Derived.Test.YtjnbjfjoejfmpaaGreatDoorWAQ
import Derived.Deep.CutRange
import Derived.Test.YtjnbjfjoejfmpaaGreatDoorQNw
import Derived.Deep.RegionHeld3
namespace Go.Proofs.YtjnbjfjoejfmpaaGreatDoor
open Go.RowKit
set_option linter.unusedVariables false
set_option linter.unusedSimpArgs false
section
variable {b0 g r c:Nat} {rest:List Value} {nv:Value} {E B:Nat} {N:QM.NL}
set_option maxHeartbeats 4000000 in
set_option maxRecDepth 100000 in
theorem Push_none (f:Bool) (s:ByteArray) (hs:s.size ≤ 524288) (hl:N.flatten.length ≤ 1000) (hI:QM.Inv E B N) (t q:Nat) (w:World) (hw:Lay w) (h:LS w b0 g r c rest nv E B (nds B N)) (hEN:∀ W,LS W b0 g r c rest nv E B (nds B N) → Calls Tryz.prog 68 #[ptr g,.bool f] W fun e w'=>e=.returned (.tuple #[plV t q,.bool false])∧Below W.heap.size W w'):Calls Tryz.prog 31 #[ptr g,.string s,.bool f] w fun e w'=>e=.returned (.int .i64 0)∧Chg w w' b0 g r c rest nv E B (QM.rep N (if f then 0 else N.length) 0 [[s]]):=by
  have HL:Hid _:=h
  have HW:Hid _:=hw
  have HEN:Hid _:=hEN
  have HI:Hid _:=hI
  have hln:N.length ≤ 1000:=Nat.le_trans (QM.len_le hI.some) hl
  have hXE:=hI.le
  have HMJ:Hid (∀ W,LS W b0 g r c rest nv E B (nds B N) → Calls Tryz.prog 67 #[ptr g,.string s] W fun e w'=>e=.returned (.int .i64 0)∧w'=W):=fun W hW=>by
    have:=mayJoin_any s (by omega) W hW
    have e:mayQ (cntN (nds B N)) s=0:=by unfold mayQ; rw [cnt_nds,if_neg (by omega),if_neg (by omega)]
    rw [e] at this; exact this
  obtain ⟨gp,hgp⟩:∃ gp,(if f then 0 else N.length)=gp:=⟨_,rfl⟩
  have hgl:gp ≤ N.length:=by rw [← hgp]; split <;> omega
  have HGA:Hid (∀ W,LS W b0 g r c rest nv E B (nds B N) → Calls Tryz.prog 27 #[ptr g,.bool f] W fun e w'=>e=.returned (plV gp 0)∧Below W.heap.size W w'):=fun W hW=>by
    have:=gap_n f (by simp [nds]; omega) W hW
    simp only [nds,List.length_map] at this
    rw [hgp] at this; exact this
  have HAL:Hid (∀ W,Lay W → Calls Tryz.prog 72 #[.agg #[.int .i64 (E:Int),.int .i64 (B:Int)],.string s] W fun e w'=>e=.returned (.agg #[.string (packN [s]),.int .i64 1,.bool (QM.big B s)])∧Below W.heap.size W w'):=fun W hW=>alone_any E B s hs HI.out.lb W hW
  have HRP:Hid (∀ a W,Below w.heap.size w a → W=a.alloc (.cells #[.string (packN [s]),.int .i64 1,.bool (QM.big B s)] 57) → Calls Tryz.prog 26 #[ptr g,plV gp 0,.int .i64 0,.slice (some ⟨a.heap.size,0,none⟩) 1 1] W fun e w'=>e=.returned (.tuple #[])∧Chg a w' b0 g r c rest nv E B (QM.rep N gp 0 [[s]])):=fun a W ha hW=>by
    subst hW
    have hLa:=HL.out.on ha
    have hba:Below a.heap.size a (a.alloc (.cells #[.string (packN [s]),.int .i64 1,.bool (QM.big B s)] 57)):=(Below.refl _ _).alloc (Nat.le_refl _) _
    exact replN_any gp 0 0 a.heap.size [(packN [s],1,QM.big B s)] [[s]] ⟨⟨rfl,rfl,fun _=>rfl⟩,trivial⟩ a _ hba (hLa.on hba) hLa (by omega) hln (by omega) (by simp) (by simp) (by simp) (nx_one a (packN [s],1,QM.big B s)) (Nat.le_refl _) (fun e=>by simp [QM.nes])
  rw [hgp]
  generalize packN [s]=PK at *
  generalize QM.big B s=BG at *
  clear hw h hEN hI hgp
  go_enter Tryz.func31,Tryz.ntmps31
  go_wp2_with fail
  refine (show Calls _ _ _ _ _ from HMJ.out _ HL.out).mono ?_
  rintro e w1 ⟨rfl,rfl⟩
  go_wp2_with fail
  refine (show Calls _ _ _ _ _ from HEN.out _ HL.out).mono ?_
  rintro e w2 ⟨rfl,hb2⟩
  have HB2:Hid (Below w1.heap.size w1 w2):=hb2
  have hwy:Below w1.heap.size w1 (w2.alloc (.cells #[.int .i64 0,.int .i64 (t:Int),.int .i64 (q:Int)] 67)):=HB2.out.alloc HB2.out.size _
  have hpy:=one_alloc w2 (.cells #[.int .i64 0,.int .i64 (t:Int),.int .i64 (q:Int)] 67)
  clear hb2
  go_wp2_with fail
  generalize w2.alloc (.cells #[.int .i64 0,.int .i64 (t:Int),.int .i64 (q:Int)] 67)=y at *
  have HBY:Hid (∀ W,Below y.heap.size y W → Below w1.heap.size w1 W):=fun W hW=>bel_to hwy hW (Nat.le_refl _)
  obtain ⟨l0,l1,l2,l3,lf⟩:=lrow4 (HL.out.on hwy).hd
  obtain ⟨p0,p1,p2,pf⟩:=row3 hpy
  have hsz2:w1.heap.size ≤ w2.heap.size:=HB2.out.size
  have hSA:=And.intro p0 (And.intro p1 (And.intro p2 (And.intro l0 l1)))
  have HKS:Hid (∀ w':World,Below y.heap.size y w' → w'.cell? ⟨w2.heap.size,0,none⟩=some (.int .i64 0)∧w'.cell? ⟨w2.heap.size,1,none⟩=some (.int .i64 (t:Int))∧w'.cell? ⟨w2.heap.size,2,none⟩=some (.int .i64 (q:Int))∧w'.cell? ⟨g,0,none⟩=some (.int .i64 (E:Int))∧w'.cell? ⟨g,1,none⟩=some (.int .i64 (B:Int))):=fun W hW=>And.intro (cell_on p0 hW) (And.intro (cell_on p1 hW) (And.intro (cell_on p2 hW) (And.intro (cell_on l0 hW) (cell_on l1 hW))))
  have HKC:Hid (∀ (a w':World) (N':QM.NL),Below y.heap.size y a → Chg a w' b0 g r c rest nv E B N' → w'.cell? ⟨w2.heap.size,0,none⟩=some (.int .i64 0)∧w'.cell? ⟨w2.heap.size,1,none⟩=some (.int .i64 (t:Int))∧w'.cell? ⟨w2.heap.size,2,none⟩=some (.int .i64 (q:Int))∧w'.cell? ⟨g,0,none⟩=some (.int .i64 (E:Int))∧w'.cell? ⟨g,1,none⟩=some (.int .i64 (B:Int))):=fun a W N' ha hc=>And.intro (hc.cell HL.out hsz2 (cell_on p0 ha)) (And.intro (hc.cell HL.out hsz2 (cell_on p1 ha)) (And.intro (hc.cell HL.out hsz2 (cell_on p2 ha)) hc.bnd))
  clear hwy hpy l0 l1 l2 l3 lf p0 p1 p2 pf HMJ HEN
  go_quiet (fail)
  have HX3:Hid (Below y.heap.size y (y.drewN nq)):=below_dn (Below.refl _ y) _
  have hSB:=HKS.out _ HX3.out
  clear hSA
  go_wp2_with fail
  go_region_held3 (fun w':World=>w'.cell? ⟨w2.heap.size,0,none⟩=some (.int .i64 0)∧w'.cell? ⟨w2.heap.size,1,none⟩=some (.int .i64 (t:Int))∧w'.cell? ⟨w2.heap.size,2,none⟩=some (.int .i64 (q:Int))∧w'.cell? ⟨g,0,none⟩=some (.int .i64 (E:Int))∧w'.cell? ⟨g,1,none⟩=some (.int .i64 (B:Int)))
    (first | exact hSB | exact HKS.out _ hx5 | exact HKS.out _ hx4 | exact HKC.out _ _ _ hx5 hc5 | exact HKS.out _ (hx5.alloc hx5.size _) | exact HKS.out _ (HX3.out.drew))
    (first | (go_at_call 26; refine (show Calls _ _ _ _ _ from HRP.out a5 _ (HBY.out _ hx5) rfl).mono ?_; rintro e a6 ⟨rfl,hc5⟩) | (go_at_call 72; refine (show Calls _ _ _ _ _ from HAL.out _ (HW.out.on (HBY.out _ hx4))).mono ?_; rintro e a5 ⟨rfl,hb5⟩; have hx5:=bel_to hx4 hb5 (Nat.le_refl _)) | (go_at_call 27; refine (show Calls _ _ _ _ _ from HGA.out _ (HL.out.on (HBY.out _ HX3.out.drew))).mono ?_; rintro e a4 ⟨rfl,hb4⟩; have hx4:=bel_to HX3.out.drew hb4 (Nat.le_refl _)))
  have HC5:Hid _:=hc5.back (HBY.out _ hx5)
  clear hc5 hx4 hx5 hb4 hb5 hSB
  go_wp2
  go_returns
  exact ⟨rfl,HC5.out⟩
set_option maxHeartbeats 4000000 in
set_option maxRecDepth 100000 in
theorem Push_full (f:Bool) (s:ByteArray) (hs:s.size ≤ 524288) (hl:N.flatten.length ≤ 1000) (hI:QM.Inv E B N) (t q:Nat) (X:List ByteArray) (ht:t < N.length) (hX:N[t]=X) (hb:QM.big B s=false) (hr:QM.room E B X=false) (w:World) (hw:Lay w) (h:LS w b0 g r c rest nv E B (nds B N)) (hEN:∀ W,LS W b0 g r c rest nv E B (nds B N) → Calls Tryz.prog 68 #[ptr g,.bool f] W fun e w'=>e=.returned (.tuple #[plV t q,.bool true])∧Below W.heap.size W w'):Calls Tryz.prog 31 #[ptr g,.string s,.bool f] w fun e w'=>e=.returned (.int .i64 0)∧Chg w w' b0 g r c rest nv E B (QM.rep N (if f then 0 else N.length) 0 [[s]]):=by
  have HL:Hid _:=h
  have HW:Hid _:=hw
  have HEN:Hid _:=hEN
  have HI:Hid _:=hI
  have hln:N.length ≤ 1000:=Nat.le_trans (QM.len_le hI.some) hl
  have hXE:=hI.le
  have HMJ:Hid (∀ W,LS W b0 g r c rest nv E B (nds B N) → Calls Tryz.prog 67 #[ptr g,.string s] W fun e w'=>e=.returned (.int .i64 0)∧w'=W):=fun W hW=>by
    have:=mayJoin_any s (by omega) W hW
    have e:mayQ (cntN (nds B N)) s=0:=by unfold mayQ; rw [cnt_nds,if_neg (by omega),if_neg (by omega)]
    rw [e] at this; exact this
  have HIL:Hid (∀ W,Calls Tryz.prog 57 #[.agg #[.int .i64 (E:Int),.int .i64 (B:Int)],.string s] W fun e w'=>e=.returned (.bool false)∧Below W.heap.size W w'):=fun W=>by
    have:=isLarge_any E B s (by omega) hI.lb W
    rw [hb] at this; exact this
  have hXm:X ∈ N:=by rw [← hX]; exact List.getElem_mem _
  have hXl:=hI.few X hXm
  have HND:Hid (∀ W,LS W b0 g r c rest nv E B (nds B N) → Calls Tryz.prog 70 #[ptr g,plV t q] W fun e w'=>e=.returned (.agg #[.string (packN X),.int .i64 (X.length:Int),.bool (QM.lg B X)])∧Below W.heap.size W w'):=fun W hW=>by
    have:=nodeN_any t q ht hln W hW
    rw [hX] at this; exact this
  have HHR:Hid (∀ W,Calls Tryz.prog 69 #[.agg #[.int .i64 (E:Int),.int .i64 (B:Int)],.agg #[.string (packN X),.int .i64 (X.length:Int),.bool (QM.lg B X)]] W fun e w'=>e=.returned (.bool false)∧Below W.heap.size W w'):=fun W=>by
    have:=hasRoom_any E B X (packN X) hXE.2 (by omega) W
    rw [hr] at this; exact this
  generalize packN X=PX at *
  generalize X.length=LX at *
  generalize QM.lg B X=GX at *
  obtain ⟨gp,hgp⟩:∃ gp,(if f then 0 else N.length)=gp:=⟨_,rfl⟩
  have hgl:gp ≤ N.length:=by rw [← hgp]; split <;> omega
  have HGA:Hid (∀ W,LS W b0 g r c rest nv E B (nds B N) → Calls Tryz.prog 27 #[ptr g,.bool f] W fun e w'=>e=.returned (plV gp 0)∧Below W.heap.size W w'):=fun W hW=>by
    have:=gap_n f (by simp [nds]; omega) W hW
    simp only [nds,List.length_map] at this
    rw [hgp] at this; exact this
  have HAL:Hid (∀ W,Lay W → Calls Tryz.prog 72 #[.agg #[.int .i64 (E:Int),.int .i64 (B:Int)],.string s] W fun e w'=>e=.returned (.agg #[.string (packN [s]),.int .i64 1,.bool (QM.big B s)])∧Below W.heap.size W w'):=fun W hW=>alone_any E B s hs HI.out.lb W hW
  have HRP:Hid (∀ a W,Below w.heap.size w a → W=a.alloc (.cells #[.string (packN [s]),.int .i64 1,.bool (QM.big B s)] 57) → Calls Tryz.prog 26 #[ptr g,plV gp 0,.int .i64 0,.slice (some ⟨a.heap.size,0,none⟩) 1 1] W fun e w'=>e=.returned (.tuple #[])∧Chg a w' b0 g r c rest nv E B (QM.rep N gp 0 [[s]])):=fun a W ha hW=>by
    subst hW
    have hLa:=HL.out.on ha
    have hba:Below a.heap.size a (a.alloc (.cells #[.string (packN [s]),.int .i64 1,.bool (QM.big B s)] 57)):=(Below.refl _ _).alloc (Nat.le_refl _) _
    exact replN_any gp 0 0 a.heap.size [(packN [s],1,QM.big B s)] [[s]] ⟨⟨rfl,rfl,fun _=>rfl⟩,trivial⟩ a _ hba (hLa.on hba) hLa (by omega) hln (by omega) (by simp) (by simp) (by simp) (nx_one a (packN [s],1,QM.big B s)) (Nat.le_refl _) (fun e=>by simp [QM.nes])
  rw [hgp]
  generalize packN [s]=PK at *
  rw [hb] at HAL HRP
  clear hb hX hXm hr
  clear hw h hEN hI hgp
  go_enter Tryz.func31,Tryz.ntmps31
  go_wp2_with fail
  refine (show Calls _ _ _ _ _ from HMJ.out _ HL.out).mono ?_
  rintro e w1 ⟨rfl,rfl⟩
  go_wp2_with fail
  refine (show Calls _ _ _ _ _ from HEN.out _ HL.out).mono ?_
  rintro e w2 ⟨rfl,hb2⟩
  have HB2:Hid (Below w1.heap.size w1 w2):=hb2
  have hwy:Below w1.heap.size w1 (w2.alloc (.cells #[.int .i64 0,.int .i64 (t:Int),.int .i64 (q:Int)] 67)):=HB2.out.alloc HB2.out.size _
  have hpy:=one_alloc w2 (.cells #[.int .i64 0,.int .i64 (t:Int),.int .i64 (q:Int)] 67)
  clear hb2
  go_wp2_with fail
  generalize w2.alloc (.cells #[.int .i64 0,.int .i64 (t:Int),.int .i64 (q:Int)] 67)=y at *
  have HBY:Hid (∀ W,Below y.heap.size y W → Below w1.heap.size w1 W):=fun W hW=>bel_to hwy hW (Nat.le_refl _)
  obtain ⟨l0,l1,l2,l3,lf⟩:=lrow4 (HL.out.on hwy).hd
  obtain ⟨p0,p1,p2,pf⟩:=row3 hpy
  have hsz2:w1.heap.size ≤ w2.heap.size:=HB2.out.size
  have hSA:=And.intro p0 (And.intro p1 (And.intro p2 (And.intro l0 l1)))
  have HKS:Hid (∀ w':World,Below y.heap.size y w' → w'.cell? ⟨w2.heap.size,0,none⟩=some (.int .i64 0)∧w'.cell? ⟨w2.heap.size,1,none⟩=some (.int .i64 (t:Int))∧w'.cell? ⟨w2.heap.size,2,none⟩=some (.int .i64 (q:Int))∧w'.cell? ⟨g,0,none⟩=some (.int .i64 (E:Int))∧w'.cell? ⟨g,1,none⟩=some (.int .i64 (B:Int))):=fun W hW=>And.intro (cell_on p0 hW) (And.intro (cell_on p1 hW) (And.intro (cell_on p2 hW) (And.intro (cell_on l0 hW) (cell_on l1 hW))))
  have HKC:Hid (∀ (a w':World) (N':QM.NL),Below y.heap.size y a → Chg a w' b0 g r c rest nv E B N' → w'.cell? ⟨w2.heap.size,0,none⟩=some (.int .i64 0)∧w'.cell? ⟨w2.heap.size,1,none⟩=some (.int .i64 (t:Int))∧w'.cell? ⟨w2.heap.size,2,none⟩=some (.int .i64 (q:Int))∧w'.cell? ⟨g,0,none⟩=some (.int .i64 (E:Int))∧w'.cell? ⟨g,1,none⟩=some (.int .i64 (B:Int))):=fun a W N' ha hc=>And.intro (hc.cell HL.out hsz2 (cell_on p0 ha)) (And.intro (hc.cell HL.out hsz2 (cell_on p1 ha)) (And.intro (hc.cell HL.out hsz2 (cell_on p2 ha)) hc.bnd))
  clear hwy hpy l0 l1 l2 l3 lf p0 p1 p2 pf HMJ HEN
  go_region_held3 (fun w':World=>w'.cell? ⟨w2.heap.size,0,none⟩=some (.int .i64 0)∧w'.cell? ⟨w2.heap.size,1,none⟩=some (.int .i64 (t:Int))∧w'.cell? ⟨w2.heap.size,2,none⟩=some (.int .i64 (q:Int))∧w'.cell? ⟨g,0,none⟩=some (.int .i64 (E:Int))∧w'.cell? ⟨g,1,none⟩=some (.int .i64 (B:Int)))
    (first | exact hSA | exact HKS.out _ hx3 | exact HKS.out _ hx2 | exact HKS.out _ hx1 | exact HKS.out _ ((Below.refl _ y).drew))
    (first | (go_at_call 69; refine (show Calls _ _ _ _ _ from HHR.out _).mono ?_; rintro e a3 ⟨rfl,hb3⟩; have hx3:=bel_to hx2 hb3 (Nat.le_refl _)) | (go_at_call 70; refine (show Calls _ _ _ _ _ from HND.out _ (HL.out.on (HBY.out _ hx1))).mono ?_; rintro e a2 ⟨rfl,hb2⟩; have hx2:=bel_to hx1 hb2 (Nat.le_refl _)) | (go_at_call 57; refine (show Calls _ _ _ _ _ from HIL.out _).mono ?_; rintro e a1 ⟨rfl,hb1⟩; have hx1:=bel_to ((Below.refl _ y).drew) hb1 (Nat.le_refl _)))
  have HX3:Hid (Below y.heap.size y a3):=hx3
  have hSB:=HKS.out _ hx3
  clear hx1 hx2 hx3 hb1 hb2 hb3 hSA
  go_wp2_with fail
  go_region_held3 (fun w':World=>w'.cell? ⟨w2.heap.size,0,none⟩=some (.int .i64 0)∧w'.cell? ⟨w2.heap.size,1,none⟩=some (.int .i64 (t:Int))∧w'.cell? ⟨w2.heap.size,2,none⟩=some (.int .i64 (q:Int))∧w'.cell? ⟨g,0,none⟩=some (.int .i64 (E:Int))∧w'.cell? ⟨g,1,none⟩=some (.int .i64 (B:Int)))
    (first | exact hSB | exact HKS.out _ hx5 | exact HKS.out _ hx4 | exact HKC.out _ _ _ hx5 hc5 | exact HKS.out _ (hx5.alloc hx5.size _) | exact HKS.out _ (HX3.out.drew))
    (first | (go_at_call 26; refine (show Calls _ _ _ _ _ from HRP.out a5 _ (HBY.out _ hx5) rfl).mono ?_; rintro e a6 ⟨rfl,hc5⟩) | (go_at_call 72; refine (show Calls _ _ _ _ _ from HAL.out _ (HW.out.on (HBY.out _ hx4))).mono ?_; rintro e a5 ⟨rfl,hb5⟩; have hx5:=bel_to hx4 hb5 (Nat.le_refl _)) | (go_at_call 27; refine (show Calls _ _ _ _ _ from HGA.out _ (HL.out.on (HBY.out _ HX3.out.drew))).mono ?_; rintro e a4 ⟨rfl,hb4⟩; have hx4:=bel_to HX3.out.drew hb4 (Nat.le_refl _)))
  have HC5:Hid _:=hc5.back (HBY.out _ hx5)
  clear hc5 hx4 hx5 hb4 hb5 hSB
  go_wp2
  go_returns
  exact ⟨rfl,HC5.out⟩
end
end Go.Proofs.YtjnbjfjoejfmpaaGreatDoor
namespace Go.Proofs.YtjnbjfjoejfmpaaGreatDoor
open Go.RowKit
set_option linter.unusedVariables false
set_option linter.unusedSimpArgs false
section
variable {b0 g r c:Nat} {rest:List Value} {nv:Value} {E B:Nat} {N:QM.NL}
set_option maxHeartbeats 4000000 in
set_option maxRecDepth 100000 in
theorem Push_big (f:Bool) (s:ByteArray) (hs:s.size ≤ 524288) (hl:N.flatten.length ≤ 1000) (hI:QM.Inv E B N) (t q:Nat) (hb:QM.big B s=true) (w:World) (hw:Lay w) (h:LS w b0 g r c rest nv E B (nds B N)) (hEN:∀ W,LS W b0 g r c rest nv E B (nds B N) → Calls Tryz.prog 68 #[ptr g,.bool f] W fun e w'=>e=.returned (.tuple #[plV t q,.bool true])∧Below W.heap.size W w'):Calls Tryz.prog 31 #[ptr g,.string s,.bool f] w fun e w'=>e=.returned (.int .i64 0)∧Chg w w' b0 g r c rest nv E B (QM.rep N (if f then 0 else N.length) 0 [[s]]):=by
  have HL:Hid _:=h
  have HW:Hid _:=hw
  have HEN:Hid _:=hEN
  have HI:Hid _:=hI
  have hln:N.length ≤ 1000:=Nat.le_trans (QM.len_le hI.some) hl
  have hXE:=hI.le
  have HMJ:Hid (∀ W,LS W b0 g r c rest nv E B (nds B N) → Calls Tryz.prog 67 #[ptr g,.string s] W fun e w'=>e=.returned (.int .i64 0)∧w'=W):=fun W hW=>by
    have:=mayJoin_any s (by omega) W hW
    have e:mayQ (cntN (nds B N)) s=0:=by unfold mayQ; rw [cnt_nds,if_neg (by omega),if_neg (by omega)]
    rw [e] at this; exact this
  have HIL:Hid (∀ W,Calls Tryz.prog 57 #[.agg #[.int .i64 (E:Int),.int .i64 (B:Int)],.string s] W fun e w'=>e=.returned (.bool true)∧Below W.heap.size W w'):=fun W=>by
    have:=isLarge_any E B s (by omega) hI.lb W
    rw [hb] at this; exact this
  obtain ⟨gp,hgp⟩:∃ gp,(if f then 0 else N.length)=gp:=⟨_,rfl⟩
  have hgl:gp ≤ N.length:=by rw [← hgp]; split <;> omega
  have HGA:Hid (∀ W,LS W b0 g r c rest nv E B (nds B N) → Calls Tryz.prog 27 #[ptr g,.bool f] W fun e w'=>e=.returned (plV gp 0)∧Below W.heap.size W w'):=fun W hW=>by
    have:=gap_n f (by simp [nds]; omega) W hW
    simp only [nds,List.length_map] at this
    rw [hgp] at this; exact this
  have HAL:Hid (∀ W,Lay W → Calls Tryz.prog 72 #[.agg #[.int .i64 (E:Int),.int .i64 (B:Int)],.string s] W fun e w'=>e=.returned (.agg #[.string (packN [s]),.int .i64 1,.bool (QM.big B s)])∧Below W.heap.size W w'):=fun W hW=>alone_any E B s hs HI.out.lb W hW
  have HRP:Hid (∀ a W,Below w.heap.size w a → W=a.alloc (.cells #[.string (packN [s]),.int .i64 1,.bool (QM.big B s)] 57) → Calls Tryz.prog 26 #[ptr g,plV gp 0,.int .i64 0,.slice (some ⟨a.heap.size,0,none⟩) 1 1] W fun e w'=>e=.returned (.tuple #[])∧Chg a w' b0 g r c rest nv E B (QM.rep N gp 0 [[s]])):=fun a W ha hW=>by
    subst hW
    have hLa:=HL.out.on ha
    have hba:Below a.heap.size a (a.alloc (.cells #[.string (packN [s]),.int .i64 1,.bool (QM.big B s)] 57)):=(Below.refl _ _).alloc (Nat.le_refl _) _
    exact replN_any gp 0 0 a.heap.size [(packN [s],1,QM.big B s)] [[s]] ⟨⟨rfl,rfl,fun _=>rfl⟩,trivial⟩ a _ hba (hLa.on hba) hLa (by omega) hln (by omega) (by simp) (by simp) (by simp) (nx_one a (packN [s],1,QM.big B s)) (Nat.le_refl _) (fun e=>by simp [QM.nes])
  rw [hgp]
  generalize packN [s]=PK at *
  rw [hb] at HAL HRP
  clear hb
  clear hw h hEN hI hgp
  go_enter Tryz.func31,Tryz.ntmps31
  go_wp2_with fail
  refine (show Calls _ _ _ _ _ from HMJ.out _ HL.out).mono ?_
  rintro e w1 ⟨rfl,rfl⟩
  go_wp2_with fail
  refine (show Calls _ _ _ _ _ from HEN.out _ HL.out).mono ?_
  rintro e w2 ⟨rfl,hb2⟩
  have HB2:Hid (Below w1.heap.size w1 w2):=hb2
  have hwy:Below w1.heap.size w1 (w2.alloc (.cells #[.int .i64 0,.int .i64 (t:Int),.int .i64 (q:Int)] 67)):=HB2.out.alloc HB2.out.size _
  have hpy:=one_alloc w2 (.cells #[.int .i64 0,.int .i64 (t:Int),.int .i64 (q:Int)] 67)
  clear hb2
  go_wp2_with fail
  generalize w2.alloc (.cells #[.int .i64 0,.int .i64 (t:Int),.int .i64 (q:Int)] 67)=y at *
  have HBY:Hid (∀ W,Below y.heap.size y W → Below w1.heap.size w1 W):=fun W hW=>bel_to hwy hW (Nat.le_refl _)
  obtain ⟨l0,l1,l2,l3,lf⟩:=lrow4 (HL.out.on hwy).hd
  obtain ⟨p0,p1,p2,pf⟩:=row3 hpy
  have hsz2:w1.heap.size ≤ w2.heap.size:=HB2.out.size
  have hSA:=And.intro p0 (And.intro p1 (And.intro p2 (And.intro l0 l1)))
  have HKS:Hid (∀ w':World,Below y.heap.size y w' → w'.cell? ⟨w2.heap.size,0,none⟩=some (.int .i64 0)∧w'.cell? ⟨w2.heap.size,1,none⟩=some (.int .i64 (t:Int))∧w'.cell? ⟨w2.heap.size,2,none⟩=some (.int .i64 (q:Int))∧w'.cell? ⟨g,0,none⟩=some (.int .i64 (E:Int))∧w'.cell? ⟨g,1,none⟩=some (.int .i64 (B:Int))):=fun W hW=>And.intro (cell_on p0 hW) (And.intro (cell_on p1 hW) (And.intro (cell_on p2 hW) (And.intro (cell_on l0 hW) (cell_on l1 hW))))
  have HKC:Hid (∀ (a w':World) (N':QM.NL),Below y.heap.size y a → Chg a w' b0 g r c rest nv E B N' → w'.cell? ⟨w2.heap.size,0,none⟩=some (.int .i64 0)∧w'.cell? ⟨w2.heap.size,1,none⟩=some (.int .i64 (t:Int))∧w'.cell? ⟨w2.heap.size,2,none⟩=some (.int .i64 (q:Int))∧w'.cell? ⟨g,0,none⟩=some (.int .i64 (E:Int))∧w'.cell? ⟨g,1,none⟩=some (.int .i64 (B:Int))):=fun a W N' ha hc=>And.intro (hc.cell HL.out hsz2 (cell_on p0 ha)) (And.intro (hc.cell HL.out hsz2 (cell_on p1 ha)) (And.intro (hc.cell HL.out hsz2 (cell_on p2 ha)) hc.bnd))
  clear hwy hpy l0 l1 l2 l3 lf p0 p1 p2 pf HMJ HEN
  go_cut [41] from 22 to 41 (fun s41 wx=>s41=.bool false∧Below y.heap.size y wx)
  case first =>
    refine wp_region_noPanic ?_
    refine wp_region_held_drew (S:=(fun w':World=>w'.cell? ⟨g,0,none⟩=some (.int .i64 (E:Int))∧w'.cell? ⟨g,1,none⟩=some (.int .i64 (B:Int)))) (by kernel_rfl) ?_ (fun hHeld=>?_)
    · exact (HKS.out _ ((Below.refl _ y).drew)).2.2.2
    refine wpAnyH_take (i:=0) (oi:={ dst:=some 22,op:=Op.move (Operand.tmp 9),type:=4,pos:= "quicklist.go:98",after:=#[],guard:=none }) (v:=?v0) rfl (by kernel_rfl) (by kernel_rfl) (by kernel_rfl) (fun _ _ _ h=>h) (Or.inl ⟨by rfl,?h0⟩) (by assumption) ?r0
    case h0=>(intro w hSw; (try dsimp only at hSw); go_simp; try with_reducible rfl)
    try simp only [Act.put,List.setIfInBounds_toArray,List.set_cons_zero,List.set_cons_succ]
    refine wpAnyH_take (i:=1) (oi:={ dst:=some 23,op:=Op.move (Operand.tmp 22),type:=4,pos:= "quicklist.go:98",after:=#[{ on:=0,ground:=Ground.data }],guard:=none }) (v:=?v1) rfl (by kernel_rfl) (by kernel_rfl) (by kernel_rfl) (fun _ _ _ h=>h) (Or.inl ⟨by rfl,?h1⟩) (by assumption) ?r1
    case h1=>(intro w hSw; (try dsimp only at hSw); go_simp; try with_reducible rfl)
    try simp only [Act.put,List.setIfInBounds_toArray,List.set_cons_zero,List.set_cons_succ]
    refine wpAnyH_take (i:=2) (oi:={ dst:=some 24,op:=Op.move (Operand.tmp 0),type:=23,pos:= "quicklist.go:98",after:=#[{ on:=1,ground:=Ground.guard }],guard:=some (1,true) }) (v:=?v2) rfl (by kernel_rfl) (by kernel_rfl) (by kernel_rfl) (fun _ _ _ h=>h) (Or.inl ⟨by rfl,?h2⟩) (by assumption) ?r2
    case h2=>(intro w hSw; (try dsimp only at hSw); go_simp; try with_reducible rfl)
    try simp only [Act.put,List.setIfInBounds_toArray,List.set_cons_zero,List.set_cons_succ]
    refine wpAnyH_take (i:=3) (oi:={ dst:=some 25,op:=Op.nilCheck (Operand.tmp 24),type:=0,pos:= "quicklist.go:98",after:=#[{ on:=2,ground:=Ground.data },{ on:=1,ground:=Ground.guard }],guard:=some (1,true) }) (v:=?v3) rfl (by kernel_rfl) (by kernel_rfl) (by kernel_rfl) (fun _ _ _ h=>h) (Or.inl ⟨by rfl,?h3⟩) (by assumption) ?r3
    case h3=>(intro w hSw; (try dsimp only at hSw); go_simp; try with_reducible rfl)
    try simp only [Act.put,List.setIfInBounds_toArray,List.set_cons_zero,List.set_cons_succ]
    refine wpAnyH_take (i:=4) (oi:={ dst:=some 26,op:=Op.fieldAddr 64 (Operand.tmp 25) 0,type:=0,pos:= "quicklist.go:98",after:=#[{ on:=3,ground:=Ground.data },{ on:=1,ground:=Ground.guard }],guard:=some (1,true) }) (v:=?v4) rfl (by kernel_rfl) (by kernel_rfl) (by kernel_rfl) (fun _ _ _ h=>h) (Or.inl ⟨by rfl,?h4⟩) (by assumption) ?r4
    case h4=>(intro w hSw; (try dsimp only at hSw); go_simp; try with_reducible rfl)
    try simp only [Act.put,List.setIfInBounds_toArray,List.set_cons_zero,List.set_cons_succ]
    refine wpAnyH_take (i:=5) (oi:={ dst:=some 27,op:=Op.load 61 (Operand.tmp 26),type:=61,pos:= "quicklist.go:98",after:=#[{ on:=4,ground:=Ground.data },{ on:=1,ground:=Ground.guard }],guard:=some (1,true) }) (v:=?v5) rfl (by kernel_rfl) (by kernel_rfl) (by kernel_rfl) (fun _ _ _ h=>h) (Or.inl ⟨by rfl,?h5⟩) (by assumption) ?r5
    case h5=>(intro w hSw; (try dsimp only at hSw); go_simp; try with_reducible rfl)
    try simp only [Act.put,List.setIfInBounds_toArray,List.set_cons_zero,List.set_cons_succ]
    refine wpAnyH_take (i:=6) (oi:={ dst:=some 28,op:=Op.move (Operand.tmp 1),type:=9,pos:= "quicklist.go:98",after:=#[{ on:=1,ground:=Ground.guard }],guard:=some (1,true) }) (v:=?v6) rfl (by kernel_rfl) (by kernel_rfl) (by kernel_rfl) (fun _ _ _ h=>h) (Or.inl ⟨by rfl,?h6⟩) (by assumption) ?r6
    case h6=>(intro w hSw; (try dsimp only at hSw); go_simp; try with_reducible rfl)
    try simp only [Act.put,List.setIfInBounds_toArray,List.set_cons_zero,List.set_cons_succ]
    refine wpAnyH_ready (rs:=[7]) (by kernel_rfl) (by simp) ?_
    refine AllReadyH.cons (o:={ dst:=some 29,op:=Op.call { callee:=Callee.value (Operand.func 57),args:=#[Operand.tmp 27,Operand.tmp 28],argTypes:=#[61,9] },type:=4,pos:= "quicklist.go:98",after:=#[{ on:=5,ground:=Ground.data },{ on:=6,ground:=Ground.data },{ on:=1,ground:=Ground.chain },{ on:=1,ground:=Ground.guard }],guard:=some (1,true) }) rfl (fun K hK=>?_) AllReadyH.nil
    go_simp
    refine (show Calls _ _ _ _ _ from HIL.out _).mono ?_
    rintro e a1 ⟨rfl,hb1⟩
    have hx1:=bel_to ((Below.refl _ y).drew) hb1 (Nat.le_refl _)
    go_wp2_with fail
    refine hK.out _ _ ?_ (fun hHeld=>?_)
    · exact (HKS.out _ hx1).2.2.2
    clear hK K
    try simp only [Act.put,List.setIfInBounds_toArray,List.set_cons_zero,List.set_cons_succ]
    refine wpAnyH_take (i:=8) (oi:={ dst:=some 30,op:=Op.unOp UnOp.not 4 (Operand.tmp 29),type:=4,pos:= "quicklist.go:98",after:=#[{ on:=7,ground:=Ground.data },{ on:=1,ground:=Ground.guard }],guard:=some (1,true) }) (v:=?v8) rfl (by kernel_rfl) (by kernel_rfl) (by kernel_rfl) (fun _ _ _ h=>h) (Or.inl ⟨by rfl,?h8⟩) (by assumption) ?r8
    case h8=>(intro w hSw; (try dsimp only at hSw); go_simp; try with_reducible rfl)
    try simp only [Act.put,List.setIfInBounds_toArray,List.set_cons_zero,List.set_cons_succ]
    refine wpAnyH_take (i:=9) (oi:={ dst:=some 31,op:=Op.pick (Operand.tmp 23) (Operand.tmp 30) (Operand.const (Value.bool false)),type:=4,pos:= "quicklist.go:98",after:=#[{ on:=1,ground:=Ground.data },{ on:=8,ground:=Ground.data }],guard:=none }) (v:=?v9) rfl (by kernel_rfl) (by kernel_rfl) (by kernel_rfl) (fun _ _ _ h=>h) (Or.inl ⟨by rfl,?h9⟩) (by assumption) ?r9
    case h9=>(intro w hSw; (try dsimp only at hSw); go_simp; try with_reducible rfl)
    try simp only [Act.put,List.setIfInBounds_toArray,List.set_cons_zero,List.set_cons_succ]
    refine wpAnyH_take (i:=10) (oi:={ dst:=some 32,op:=Op.move (Operand.tmp 31),type:=4,pos:= "quicklist.go:98",after:=#[{ on:=9,ground:=Ground.data },{ on:=7,ground:=Ground.chain }],guard:=none }) (v:=?v10) rfl (by kernel_rfl) (by kernel_rfl) (by kernel_rfl) (fun _ _ _ h=>h) (Or.inl ⟨by rfl,?h10⟩) (by assumption) ?r10
    case h10=>(intro w hSw; (try dsimp only at hSw); go_simp; try with_reducible rfl)
    try simp only [Act.put,List.setIfInBounds_toArray,List.set_cons_zero,List.set_cons_succ]
    refine wpAnyH_take (i:=11) (oi:={ dst:=some 33,op:=Op.move (Operand.tmp 0),type:=23,pos:= "quicklist.go:98",after:=#[{ on:=10,ground:=Ground.guard }],guard:=some (10,true) }) (v:=undef) rfl (by kernel_rfl) (by kernel_rfl) (by kernel_rfl) (fun _ _ _ h=>h) (Or.inr ⟨by rfl,rfl⟩) (by assumption) ?_
    try simp only [Act.put,List.setIfInBounds_toArray,List.set_cons_zero,List.set_cons_succ]
    refine wpAnyH_take (i:=12) (oi:={ dst:=some 34,op:=Op.nilCheck (Operand.tmp 33),type:=0,pos:= "quicklist.go:98",after:=#[{ on:=11,ground:=Ground.data },{ on:=10,ground:=Ground.guard }],guard:=some (10,true) }) (v:=undef) rfl (by kernel_rfl) (by kernel_rfl) (by kernel_rfl) (fun _ _ _ h=>h) (Or.inr ⟨by rfl,rfl⟩) (by assumption) ?_
    try simp only [Act.put,List.setIfInBounds_toArray,List.set_cons_zero,List.set_cons_succ]
    refine wpAnyH_take (i:=13) (oi:={ dst:=some 35,op:=Op.fieldAddr 64 (Operand.tmp 34) 0,type:=0,pos:= "quicklist.go:98",after:=#[{ on:=12,ground:=Ground.data },{ on:=10,ground:=Ground.guard }],guard:=some (10,true) }) (v:=undef) rfl (by kernel_rfl) (by kernel_rfl) (by kernel_rfl) (fun _ _ _ h=>h) (Or.inr ⟨by rfl,rfl⟩) (by assumption) ?_
    try simp only [Act.put,List.setIfInBounds_toArray,List.set_cons_zero,List.set_cons_succ]
    refine wpAnyH_take (i:=14) (oi:={ dst:=some 36,op:=Op.load 61 (Operand.tmp 35),type:=61,pos:= "quicklist.go:98",after:=#[{ on:=13,ground:=Ground.data },{ on:=10,ground:=Ground.guard }],guard:=some (10,true) }) (v:=undef) rfl (by kernel_rfl) (by kernel_rfl) (by kernel_rfl) (fun _ _ _ h=>h) (Or.inr ⟨by rfl,rfl⟩) (by assumption) ?_
    try simp only [Act.put,List.setIfInBounds_toArray,List.set_cons_zero,List.set_cons_succ]
    refine wpAnyH_take (i:=15) (oi:={ dst:=some 37,op:=Op.move (Operand.tmp 0),type:=23,pos:= "quicklist.go:98",after:=#[{ on:=10,ground:=Ground.guard }],guard:=some (10,true) }) (v:=undef) rfl (by kernel_rfl) (by kernel_rfl) (by kernel_rfl) (fun _ _ _ h=>h) (Or.inr ⟨by rfl,rfl⟩) (by assumption) ?_
    try simp only [Act.put,List.setIfInBounds_toArray,List.set_cons_zero,List.set_cons_succ]
    refine wpAnyH_take (i:=16) (oi:={ dst:=some 38,op:=Op.load 67 (Operand.tmp 8),type:=67,pos:= "quicklist.go:98",after:=#[{ on:=10,ground:=Ground.guard }],guard:=some (10,true) }) (v:=undef) rfl (by kernel_rfl) (by kernel_rfl) (by kernel_rfl) (fun _ _ _ h=>h) (Or.inr ⟨by rfl,rfl⟩) (by assumption) ?_
    try simp only [Act.put,List.setIfInBounds_toArray,List.set_cons_zero,List.set_cons_succ]
    refine wpAnyH_take (i:=17) (oi:={ dst:=some 39,op:=Op.call { callee:=Callee.value (Operand.func 70),args:=#[Operand.tmp 37,Operand.tmp 38],argTypes:=#[23,67] },type:=57,pos:= "quicklist.go:98",after:=#[{ on:=15,ground:=Ground.data },{ on:=16,ground:=Ground.data },{ on:=10,ground:=Ground.chain },{ on:=10,ground:=Ground.guard }],guard:=some (10,true) }) (v:=undef) rfl (by kernel_rfl) (by kernel_rfl) (by kernel_rfl) (fun _ _ _ h=>h) (Or.inr ⟨by rfl,rfl⟩) (by assumption) ?_
    try simp only [Act.put,List.setIfInBounds_toArray,List.set_cons_zero,List.set_cons_succ]
    refine wpAnyH_take (i:=18) (oi:={ dst:=some 40,op:=Op.call { callee:=Callee.value (Operand.func 69),args:=#[Operand.tmp 36,Operand.tmp 39],argTypes:=#[61,57] },type:=4,pos:= "quicklist.go:98",after:=#[{ on:=14,ground:=Ground.data },{ on:=17,ground:=Ground.data },{ on:=17,ground:=Ground.chain },{ on:=10,ground:=Ground.guard }],guard:=some (10,true) }) (v:=undef) rfl (by kernel_rfl) (by kernel_rfl) (by kernel_rfl) (fun _ _ _ h=>h) (Or.inr ⟨by rfl,rfl⟩) (by assumption) ?_
    try simp only [Act.put,List.setIfInBounds_toArray,List.set_cons_zero,List.set_cons_succ]
    refine wpAnyH_take (i:=19) (oi:={ dst:=some 41,op:=Op.pick (Operand.tmp 32) (Operand.tmp 40) (Operand.const (Value.bool false)),type:=4,pos:= "quicklist.go:98",after:=#[{ on:=10,ground:=Ground.data },{ on:=18,ground:=Ground.data }],guard:=none }) (v:=?v19) rfl (by kernel_rfl) (by kernel_rfl) (by kernel_rfl) (fun _ _ _ h=>h) (Or.inl ⟨by rfl,?h19⟩) (by assumption) ?r19
    case h19=>(intro w hSw; (try dsimp only at hSw); go_simp; try with_reducible rfl)
    try simp only [Act.put,List.setIfInBounds_toArray,List.set_cons_zero,List.set_cons_succ]
    refine wpAnyH_done (by kernel_rfl) ?_ _
    refine NoPanic.normal ?_
    all_goals go_wp2
    all_goals go_meet
    all_goals exact ⟨rfl,hx1⟩
  obtain ⟨rfl,hx1⟩:=hcut
  have HX3:Hid (Below y.heap.size y wc):=hx1
  have hSB:=HKS.out _ hx1
  clear hx1
  go_wp2_with fail
  go_region_held3 (fun w':World=>w'.cell? ⟨w2.heap.size,0,none⟩=some (.int .i64 0)∧w'.cell? ⟨w2.heap.size,1,none⟩=some (.int .i64 (t:Int))∧w'.cell? ⟨w2.heap.size,2,none⟩=some (.int .i64 (q:Int))∧w'.cell? ⟨g,0,none⟩=some (.int .i64 (E:Int))∧w'.cell? ⟨g,1,none⟩=some (.int .i64 (B:Int)))
    (first | exact hSB | exact HKS.out _ hx5 | exact HKS.out _ hx4 | exact HKC.out _ _ _ hx5 hc5 | exact HKS.out _ (hx5.alloc hx5.size _) | exact HKS.out _ (HX3.out.drew))
    (first | (go_at_call 26; refine (show Calls _ _ _ _ _ from HRP.out a5 _ (HBY.out _ hx5) rfl).mono ?_; rintro e a6 ⟨rfl,hc5⟩) | (go_at_call 72; refine (show Calls _ _ _ _ _ from HAL.out _ (HW.out.on (HBY.out _ hx4))).mono ?_; rintro e a5 ⟨rfl,hb5⟩; have hx5:=bel_to hx4 hb5 (Nat.le_refl _)) | (go_at_call 27; refine (show Calls _ _ _ _ _ from HGA.out _ (HL.out.on (HBY.out _ HX3.out.drew))).mono ?_; rintro e a4 ⟨rfl,hb4⟩; have hx4:=bel_to HX3.out.drew hb4 (Nat.le_refl _)))
  have HC5:Hid _:=hc5.back (HBY.out _ hx5)
  clear hc5 hx4 hx5 hb4 hb5 hSB
  go_wp2
  go_returns
  exact ⟨rfl,HC5.out⟩

end
end Go.Proofs.YtjnbjfjoejfmpaaGreatDoor
namespace Go.Proofs.YtjnbjfjoejfmpaaGreatDoor
open Go.RowKit
set_option linter.unusedVariables false
set_option linter.unusedSimpArgs false
theorem whl_step (C:QM.NL) (m q:Nat) (hm:m < C.length) (h:C[m].length ≤ q):QM.whl (C.drop m) q=QM.whl (C.drop (m + 1)) (q - C[m].length) + 1:=by
  rw [List.drop_eq_getElem_cons hm]; rw [QM.whl,if_pos h]
theorem whl_stop (C:QM.NL) (m q:Nat) (hm:m < C.length) (h:¬ C[m].length ≤ q):QM.whl (C.drop m) q=0:=by
  rw [List.drop_eq_getElem_cons hm]; rw [QM.whl,if_neg h]
theorem flat_snoc (C:QM.NL) (m:Nat) (hm:m < C.length):(C.take (m + 1)).flatten.length=(C.take m).flatten.length + C[m].length:=by
  rw [List.take_add_one,List.getElem?_eq_getElem hm,List.flatten_append,List.length_append]; simp
section
variable {b0 g r c:Nat} {rest:List Value} {nv:Value} {E B:Nat} {N:QM.NL}
set_option maxHeartbeats 4000000 in
set_option maxRecDepth 100000 in
theorem delRow_any (t k:Nat) (X:List ByteArray) (ht:t < N.length) (hX:N[t]=X) (hk:k < X.length) (most:Nat) (hmost:1 ≤ most) (hmb:most ≤ 1000) (hl:N.flatten.length ≤ 1000) (hI:QM.Inv E B N) (w:World) (hw:Lay w) (h:LS w b0 g r c rest nv E B (nds B N)):Calls Tryz.prog 84 #[ptr g,plV t k,.int .i64 (most:Int)] w fun e w'=>∃ cut m taken:Nat,cut=min most (X.length - k)∧m=QM.whl (N.drop (t + 1)) (most - cut)∧taken=cut + ((N.drop (t + 1)).take m).flatten.length∧e=.returned (.int .i64 (taken:Int))∧Chg w w' b0 g r c rest nv E B (QM.rep N t (m + 1) [X.take k ++ X.drop (k + cut)]):=by
  have HL:Hid _:=h
  have HW:Hid _:=hw
  have HI:Hid _:=hI
  have hln:N.length ≤ 1000:=Nat.le_trans (QM.len_le hI.some) hl
  have hXm:X ∈ N:=by rw [← hX]; exact List.getElem_mem _
  have hXl:=hI.few X hXm
  have hXE:=hI.le
  obtain ⟨l0,l1,l2,l3,lf⟩:=lrow4 h.hd
  obtain ⟨r0,r1,rf⟩:=lrow2 h.rw_
  rcases h.nd with ⟨_,e⟩ | ⟨Y,cc,rfl,hY,hN⟩
  · have:N=[]:=by simpa [nds] using e
    rw [this] at ht; simp at ht
  have HN:Hid _:=hN
  have hcc:=hN.le
  have hll:(nds B N).length=N.length:=by simp [nds]
  rw [hll] at r0 hcc
  have L3:=cell_a1 l3
  have R0:=cell_a1 r0
  obtain ⟨LN,hLN⟩:∃ LN,N.length=LN:=⟨_,rfl⟩
  rw [hLN] at R0 hcc
  have hz0:(0:Int) ≤ (t:Int):=by omega
  have hz1:(t:Int) ≤ (LN:Int):=by omega
  have hz2:(t:Int) ≤ (cc:Int):=by omega
  have hct:¬ (cc=t):=by omega
  obtain ⟨x0,x1,x2⟩:=hN.cells t (by rw [hll]; exact ht)
  rw [nds_at] at x0 x1 x2
  simp only [hX] at x0 x1 x2
  obtain ⟨LX,hLX⟩:∃ LX,X.length=LX:=⟨_,rfl⟩
  obtain ⟨d,hd⟩:∃ d,LX - k=d:=⟨_,rfl⟩
  obtain ⟨cut,hcut⟩:∃ cut,min most d=cut:=⟨_,rfl⟩
  have X0:∀ o,(w.alloc o).cell? ⟨Y,t * 3,none⟩=some (.string (packN X)):=cell_a1 x0
  have X1:∀ o,(w.alloc o).cell? ⟨Y,t * 3 + 1,none⟩=some (.int .i64 (LX:Int)):=by rw [← hLX]; exact cell_a1 x1
  have X2:∀ o,(w.alloc o).cell? ⟨Y,t * 3 + 2,none⟩=some (.bool (QM.lg B X)):=cell_a1 x2
  have hwk:IntKind.i64.wrap ((LX:Int) - (k:Int))=(d:Int):=by rw [IntKind.wrap_i64] <;> omega
  have hmin:min (most:Int) (d:Int)=(cut:Int):=by omega
  obtain ⟨M,hM⟩:∃ M,LN - t=M:=⟨_,rfl⟩
  have hM1:1 ≤ M:=by omega
  obtain ⟨C,hC⟩:∃ C:QM.NL,N.drop (t + 1)=C:=⟨_,rfl⟩
  have hCl:C.length + 1=M:=by rw [← hC,List.length_drop]; omega
  have HCN:Hid (∀ m (hm:m < C.length),∀ W,Below w.heap.size w W → W.cell? ⟨Y,t * 3 + (m + 1) * 3 + 1,none⟩=some (.int .i64 (C[m].length:Int))):=fun m hm W hW=>by
    have h1:=(hN.cells (t + 1 + m) (by rw [hll]; omega)).2.1
    rw [nds_at] at h1
    have e:C[m]=N[t + 1 + m]'(by omega):=by simp only [← hC,List.getElem_drop]
    rw [e,show t * 3 + (m + 1) * 3 + 1=(t + 1 + m) * 3 + 1 by omega]
    exact cell_on h1 hW
  have HCF:Hid ((C.flatten).length ≤ 1000):=by
    show C.flatten.length ≤ 1000
    have:=QM.split_flat N (t + 1) 0
    rw [Nat.add_zero,hC] at this
    omega
  have hfit:Fit X:=fit_node hI hXm
  have HWO:Hid (∀ W,Lay W → Calls Tryz.prog 106 #[.agg #[.string (packN X),.int .i64 (LX:Int),.bool (QM.lg B X)],.int .i64 (k:Int),.int .i64 (cut:Int)] W fun e w'=>e=.returned (.agg #[.string (packN (X.take k ++ X.drop (k + cut))),.int .i64 ((LX - cut:Nat):Int),.bool (QM.lg B X)])∧Below W.heap.size W w'):=fun W hW=>by
    have:=without_any B X hfit k cut (by omega) (QM.lg B X) W hW
    rw [hLX] at this; exact this
  have hlgp:X.take k ++ X.drop (k + cut) ≠ [] → QM.lg B X=QM.lg B (X.take k ++ X.drop (k + cut)):=fun hne=>by
    cases hq:QM.lg B X with
    | true =>
      obtain ⟨u,hu,_⟩:=QM.lg_alone hI hXm hq
      subst hu
      simp at hk
      subst hk
      have hc1:1 ≤ cut:=by simp at hLX; omega
      obtain ⟨c',rfl⟩:∃ c',cut=c' + 1:=⟨cut - 1,by omega⟩
      simp at hne
    | false =>
      have hsm:=QM.lg_not hI hXm hq
      cases hh:X.take k ++ X.drop (k + cut) with
      | nil=>rfl
      | cons u us =>
        have hu:u ∈ X.take k ++ X.drop (k + cut):=by rw [hh]; simp
        have hux:u ∈ X:=by
          rcases List.mem_append.1 hu with h | h
          · exact List.mem_of_mem_take h
          · exact List.mem_of_mem_drop h
        have:=hsm u hux
        unfold QM.lg; simp; omega
  have HRP:Hid (∀ (m:Nat) (a W:World),m ≤ C.length → Below w.heap.size w a → W=a.alloc (.cells #[.string (packN (X.take k ++ X.drop (k + cut))),.int .i64 ((LX - cut:Nat):Int),.bool (QM.lg B X)] 57) → Calls Tryz.prog 26 #[ptr g,plV t k,.int .i64 ((m:Int) + 1),.slice (some ⟨a.heap.size,0,none⟩) 1 1] W fun e w'=>e=.returned (.tuple #[])∧Chg a w' b0 g r c rest (.slice (some ⟨Y,0,none⟩) (nds B N).length cc) E B (QM.rep N t (m + 1) [X.take k ++ X.drop (k + cut)])):=fun m a W hm ha hW=>by
    subst hW
    have hLa:=HL.out.on ha
    have hba:Below a.heap.size a (a.alloc (.cells #[.string (packN (X.take k ++ X.drop (k + cut))),.int .i64 ((LX - cut:Nat):Int),.bool (QM.lg B X)] 57)):=(Below.refl _ _).alloc (Nat.le_refl _) _
    have:=replN_any t k (m + 1) a.heap.size [(packN (X.take k ++ X.drop (k + cut)),LX - cut,QM.lg B X)] [X.take k ++ X.drop (k + cut)] ⟨⟨rfl,by simp; omega,hlgp⟩,trivial⟩ a _ hba (hLa.on hba) hLa (by omega) hln (by omega) (by simp; omega) (by simp) (by simp) (nx_one a (packN (X.take k ++ X.drop (k + cut)),LX - cut,QM.lg B X)) (Nat.le_refl _) (fun e=>by omega)
    rw [show ((m + 1:Nat):Int)=(m:Int) + 1 by omega] at this; exact this
  have HCUT:Hid (cut=min most (X.length - k)):=by show _=_; rw [hLX,hd,hcut]
  have HCD:Hid _:=hC
  clear h hN hw hlgp hfit x0 x1 x2 hC hcut hd hLX l0 l1 l2 l3 lf r0 r1 rf hX hXm
  generalize packN (X.take k ++ X.drop (k + cut))=PQ at *
  generalize LX - cut=LQ at *
  go_enter Tryz.func84,Tryz.ntmps84
  go_wp2
  go_quiet (fail)
  go_wp2
  have HW0:Hid (Below w.heap.size w (((w.alloc (.cells #[.int .i64 0,.int .i64 (t:Int),.int .i64 (k:Int)] 67)).drewN nq).alloc (.cells #[.string (packN X),.int .i64 (LX:Int),.bool (QM.lg B X)] 57))∧((((w.alloc (.cells #[.int .i64 0,.int .i64 (t:Int),.int .i64 (k:Int)] 67)).drewN nq).alloc (.cells #[.string (packN X),.int .i64 (LX:Int),.bool (QM.lg B X)] 57)).cell? ⟨w.heap.size,0,none⟩=some (.int .i64 0)∧(((w.alloc (.cells #[.int .i64 0,.int .i64 (t:Int),.int .i64 (k:Int)] 67)).drewN nq).alloc (.cells #[.string (packN X),.int .i64 (LX:Int),.bool (QM.lg B X)] 57)).cell? ⟨w.heap.size,1,none⟩=some (.int .i64 (t:Int))∧(((w.alloc (.cells #[.int .i64 0,.int .i64 (t:Int),.int .i64 (k:Int)] 67)).drewN nq).alloc (.cells #[.string (packN X),.int .i64 (LX:Int),.bool (QM.lg B X)] 57)).cell? ⟨w.heap.size,2,none⟩=some (.int .i64 (k:Int))∧(((w.alloc (.cells #[.int .i64 0,.int .i64 (t:Int),.int .i64 (k:Int)] 67)).drewN nq).alloc (.cells #[.string (packN X),.int .i64 (LX:Int),.bool (QM.lg B X)] 57)).cell? ⟨w.heap.size + 1,0,none⟩=some (.string (packN X))∧(((w.alloc (.cells #[.int .i64 0,.int .i64 (t:Int),.int .i64 (k:Int)] 67)).drewN nq).alloc (.cells #[.string (packN X),.int .i64 (LX:Int),.bool (QM.lg B X)] 57)).cell? ⟨w.heap.size + 1,1,none⟩=some (.int .i64 (LX:Int))∧(((w.alloc (.cells #[.int .i64 0,.int .i64 (t:Int),.int .i64 (k:Int)] 67)).drewN nq).alloc (.cells #[.string (packN X),.int .i64 (LX:Int),.bool (QM.lg B X)] 57)).cell? ⟨w.heap.size + 1,2,none⟩=some (.bool (QM.lg B X)))):=by
    have h1:Below w.heap.size w ((w.alloc (.cells #[.int .i64 0,.int .i64 (t:Int),.int .i64 (k:Int)] 67)).drewN nq):=below_dn ((Below.refl _ w).alloc (Nat.le_refl _) _) _
    have hp:((w.alloc (.cells #[.int .i64 0,.int .i64 (t:Int),.int .i64 (k:Int)] 67)).drewN nq).heap[w.heap.size]?=some (.cells #[.int .i64 0,.int .i64 (t:Int),.int .i64 (k:Int)] 67):=one_alloc w _
    have hs:((w.alloc (.cells #[.int .i64 0,.int .i64 (t:Int),.int .i64 (k:Int)] 67)).drewN nq).heap.size=w.heap.size + 1:=by show (w.alloc _).heap.size=_; simp
    have hf:=one_alloc ((w.alloc (.cells #[.int .i64 0,.int .i64 (t:Int),.int .i64 (k:Int)] 67)).drewN nq) (.cells #[.string (packN X),.int .i64 (LX:Int),.bool (QM.lg B X)] 57)
    rw [hs] at hf
    have hp2:=keep_row hp ((Below.refl _ _).alloc (Nat.le_refl _) (.cells #[.string (packN X),.int .i64 (LX:Int),.bool (QM.lg B X)] 57))
    obtain ⟨a0,a1,a2,_⟩:=row3 hp2
    obtain ⟨f0,f1,f2,_⟩:=row3 hf
    exact ⟨h1.alloc h1.size _,a0,a1,a2,f0,f1,f2⟩
  go_loopw [10,11] (fun ct cm w'=>∃ m tk:Nat,m ≤ C.length∧cm=.int .i64 ((m:Int) + 1)∧ct=.int .i64 (tk:Int)∧tk=cut + (C.take m).flatten.length∧tk ≤ most∧QM.whl C (most - cut)=m + QM.whl (C.drop m) (most - tk)∧Below w.heap.size w w'∧(w'.cell? ⟨w.heap.size,0,none⟩=some (.int .i64 0)∧w'.cell? ⟨w.heap.size,1,none⟩=some (.int .i64 (t:Int))∧w'.cell? ⟨w.heap.size,2,none⟩=some (.int .i64 (k:Int))∧w'.cell? ⟨w.heap.size + 1,0,none⟩=some (.string (packN X))∧w'.cell? ⟨w.heap.size + 1,1,none⟩=some (.int .i64 (LX:Int))∧w'.cell? ⟨w.heap.size + 1,2,none⟩=some (.bool (QM.lg B X)))) (fun _ cm _=>C.length + 1 - (intOf cm).toNat)
  case atStart=>exact ⟨0,cut,by omega,rfl,rfl,by simp,by omega,by simp,HW0.out.1,HW0.out.2⟩
  case round =>
    obtain ⟨m,tk,hm,rfl,rfl,htk,htm,hwh,hb,hS⟩:=hrel
    have HB:Hid (Below w.heap.size w wr):=hb
    have HS:Hid _:=hS
    have HTK:Hid _:=htk
    have HWH:Hid _:=hwh
    clear HW0
    by_cases hlt:m < C.length
    · have hcell:=HCN.out m hlt wr hb
      have hfs:=flat_snoc C m hlt
      have hst:=whl_step C m (most - tk) hlt
      have hsp:=whl_stop C m (most - tk) hlt
      have hcfl:(C.take (m + 1)).flatten.length ≤ 1000:=by
        have h1:=HCF.out
        have h2:C.flatten.length=(C.take (m + 1)).flatten.length + (C.drop (m + 1)).flatten.length:=by rw [← List.length_append,← List.flatten_append,List.take_append_drop]
        omega
      have HFS:Hid _:=hfs
      have HST:Hid _:=hst
      have HSP:Hid _:=hsp
      obtain ⟨cl,hcl⟩:∃ cl,C[m].length=cl:=⟨_,rfl⟩
      rw [hcl] at hcell HFS HST HSP
      have hcb:cl ≤ 1000:=by have:=HFS.out; omega
      have hj1:(m:Int) + 1 < (M:Int):=by omega
      have hj0:(0:Int) ≤ (m:Int) + 1:=by omega
      have hw9:IntKind.i64.wrap ((most:Int) - (tk:Int))=(most:Int) - (tk:Int):=by rw [IntKind.wrap_i64] <;> omega
      clear hfs hst hsp hcl hb hS htk hwh
      by_cases hle:cl ≤ most - tk
      · have hle2:(cl:Int) ≤ (most:Int) - (tk:Int):=by omega
        go_wp2
        refine ⟨⟨m + 1,tk + cl,hlt,by congr 1,by congr 1,by have:=HFS.out; have:=HTK.out; omega,by omega,?_,HB.out,HS.out⟩,by simp [intOf]; omega⟩
        rw [HWH.out,HST.out hle,Nat.sub_sub]; omega
      · have hle2:¬ ((cl:Int) ≤ (most:Int) - (tk:Int)):=by omega
        have HMW:Hid (m=QM.whl C (most - cut)):=by show _=_; have h1:=HWH.out; have h2:=HSP.out hle; omega
        have HKS:Hid (∀ w':World,Below wr.heap.size wr w' → w'.cell? ⟨w.heap.size,0,none⟩=some (.int .i64 0)∧w'.cell? ⟨w.heap.size,1,none⟩=some (.int .i64 (t:Int))∧w'.cell? ⟨w.heap.size,2,none⟩=some (.int .i64 (k:Int))∧w'.cell? ⟨w.heap.size + 1,0,none⟩=some (.string (packN X))∧w'.cell? ⟨w.heap.size + 1,1,none⟩=some (.int .i64 (LX:Int))∧w'.cell? ⟨w.heap.size + 1,2,none⟩=some (.bool (QM.lg B X))):=fun W hW=>by
          obtain ⟨h0,h1,h2,h3,h4,h5⟩:=HS.out
          exact ⟨cell_on h0 hW,cell_on h1 hW,cell_on h2 hW,cell_on h3 hW,cell_on h4 hW,cell_on h5 hW⟩
        have HKC:Hid (∀ (a w':World) (N':QM.NL),Below wr.heap.size wr a → Chg a w' b0 g r c rest (.slice (some ⟨Y,0,none⟩) (nds B N).length cc) E B N' → w'.cell? ⟨w.heap.size,0,none⟩=some (.int .i64 0)∧w'.cell? ⟨w.heap.size,1,none⟩=some (.int .i64 (t:Int))∧w'.cell? ⟨w.heap.size,2,none⟩=some (.int .i64 (k:Int))∧w'.cell? ⟨w.heap.size + 1,0,none⟩=some (.string (packN X))∧w'.cell? ⟨w.heap.size + 1,1,none⟩=some (.int .i64 (LX:Int))∧w'.cell? ⟨w.heap.size + 1,2,none⟩=some (.bool (QM.lg B X))):=fun a W N' ha hc=>by
          obtain ⟨h0,h1,h2,h3,h4,h5⟩:=HS.out
          exact ⟨hc.cell HL.out (Nat.le_refl _) (cell_on h0 ha),hc.cell HL.out (Nat.le_refl _) (cell_on h1 ha),hc.cell HL.out (Nat.le_refl _) (cell_on h2 ha),hc.cell HL.out (Nat.le_succ _) (cell_on h3 ha),hc.cell HL.out (Nat.le_succ _) (cell_on h4 ha),hc.cell HL.out (Nat.le_succ _) (cell_on h5 ha)⟩
        have HBR:Hid (∀ W,Below wr.heap.size wr W → Below w.heap.size w W):=fun W hW=>bel_to HB.out hW (Nat.le_refl _)
        have hSA:=HS.out
        go_wp2_with fail
        go_region_held3 (fun w':World=>w'.cell? ⟨w.heap.size,0,none⟩=some (.int .i64 0)∧w'.cell? ⟨w.heap.size,1,none⟩=some (.int .i64 (t:Int))∧w'.cell? ⟨w.heap.size,2,none⟩=some (.int .i64 (k:Int))∧w'.cell? ⟨w.heap.size + 1,0,none⟩=some (.string (packN X))∧w'.cell? ⟨w.heap.size + 1,1,none⟩=some (.int .i64 (LX:Int))∧w'.cell? ⟨w.heap.size + 1,2,none⟩=some (.bool (QM.lg B X)))
          (first | exact hSA | exact HKS.out _ hx1 | exact HKC.out _ _ _ hx1 hc5 | exact HKS.out _ (hx1.alloc hx1.size _) | exact HKS.out _ ((Below.refl _ wr).drew))
          (first | (go_at_call 26; refine (show Calls _ _ _ _ _ from HRP.out m a1 _ hm (HBR.out _ hx1) rfl).mono ?_; rintro e a5 ⟨rfl,hc5⟩) | (go_at_call 106; refine (show Calls _ _ _ _ _ from HWO.out _ (HW.out.on (HBR.out _ ((Below.refl _ wr).drew)))).mono ?_; rintro e a1 ⟨rfl,hb1⟩; have hx1:=bel_to ((Below.refl _ wr).drew) hb1 (Nat.le_refl _)))
        have HC5:Hid _:=hc5.back (HBR.out _ hx1)
        clear hc5 hx1 hb1 hSA
        go_wp2
        go_returns
        refine ⟨cut,m,tk,HCUT.out,?_,?_,rfl,HC5.out⟩
        · rw [HCD.out]; exact HMW.out
        · rw [HCD.out]; exact HTK.out
    · have he:m=C.length:=by omega
      have hj1:¬ ((m:Int) + 1 < (M:Int)):=by omega
      clear hb hS htk hwh
      have HMW:Hid (m=QM.whl C (most - cut)):=by
        show _=_
        have h1:=HWH.out
        have h2:QM.whl (C.drop m) (most - tk)=0:=by rw [List.drop_eq_nil_of_le (by omega)]; rfl
        omega
      clear he
      have HKS:Hid (∀ w':World,Below wr.heap.size wr w' → w'.cell? ⟨w.heap.size,0,none⟩=some (.int .i64 0)∧w'.cell? ⟨w.heap.size,1,none⟩=some (.int .i64 (t:Int))∧w'.cell? ⟨w.heap.size,2,none⟩=some (.int .i64 (k:Int))∧w'.cell? ⟨w.heap.size + 1,0,none⟩=some (.string (packN X))∧w'.cell? ⟨w.heap.size + 1,1,none⟩=some (.int .i64 (LX:Int))∧w'.cell? ⟨w.heap.size + 1,2,none⟩=some (.bool (QM.lg B X))):=fun W hW=>by
        obtain ⟨h0,h1,h2,h3,h4,h5⟩:=HS.out
        exact ⟨cell_on h0 hW,cell_on h1 hW,cell_on h2 hW,cell_on h3 hW,cell_on h4 hW,cell_on h5 hW⟩
      have HKC:Hid (∀ (a w':World) (N':QM.NL),Below wr.heap.size wr a → Chg a w' b0 g r c rest (.slice (some ⟨Y,0,none⟩) (nds B N).length cc) E B N' → w'.cell? ⟨w.heap.size,0,none⟩=some (.int .i64 0)∧w'.cell? ⟨w.heap.size,1,none⟩=some (.int .i64 (t:Int))∧w'.cell? ⟨w.heap.size,2,none⟩=some (.int .i64 (k:Int))∧w'.cell? ⟨w.heap.size + 1,0,none⟩=some (.string (packN X))∧w'.cell? ⟨w.heap.size + 1,1,none⟩=some (.int .i64 (LX:Int))∧w'.cell? ⟨w.heap.size + 1,2,none⟩=some (.bool (QM.lg B X))):=fun a W N' ha hc=>by
        obtain ⟨h0,h1,h2,h3,h4,h5⟩:=HS.out
        exact ⟨hc.cell HL.out (Nat.le_refl _) (cell_on h0 ha),hc.cell HL.out (Nat.le_refl _) (cell_on h1 ha),hc.cell HL.out (Nat.le_refl _) (cell_on h2 ha),hc.cell HL.out (Nat.le_succ _) (cell_on h3 ha),hc.cell HL.out (Nat.le_succ _) (cell_on h4 ha),hc.cell HL.out (Nat.le_succ _) (cell_on h5 ha)⟩
      have HBR:Hid (∀ W,Below wr.heap.size wr W → Below w.heap.size w W):=fun W hW=>bel_to HB.out hW (Nat.le_refl _)
      have hSA:=HS.out
      go_wp2_with fail
      go_region_held3 (fun w':World=>w'.cell? ⟨w.heap.size,0,none⟩=some (.int .i64 0)∧w'.cell? ⟨w.heap.size,1,none⟩=some (.int .i64 (t:Int))∧w'.cell? ⟨w.heap.size,2,none⟩=some (.int .i64 (k:Int))∧w'.cell? ⟨w.heap.size + 1,0,none⟩=some (.string (packN X))∧w'.cell? ⟨w.heap.size + 1,1,none⟩=some (.int .i64 (LX:Int))∧w'.cell? ⟨w.heap.size + 1,2,none⟩=some (.bool (QM.lg B X)))
        (first | exact hSA | exact HKS.out _ hx1 | exact HKC.out _ _ _ hx1 hc5 | exact HKS.out _ (hx1.alloc hx1.size _) | exact HKS.out _ ((Below.refl _ wr).drew))
        (first | (go_at_call 26; refine (show Calls _ _ _ _ _ from HRP.out m a1 _ hm (HBR.out _ hx1) rfl).mono ?_; rintro e a5 ⟨rfl,hc5⟩) | (go_at_call 106; refine (show Calls _ _ _ _ _ from HWO.out _ (HW.out.on (HBR.out _ ((Below.refl _ wr).drew)))).mono ?_; rintro e a1 ⟨rfl,hb1⟩; have hx1:=bel_to ((Below.refl _ wr).drew) hb1 (Nat.le_refl _)))
      have HC5:Hid _:=hc5.back (HBR.out _ hx1)
      clear hc5 hx1 hb1 hSA
      go_wp2
      go_returns
      refine ⟨cut,m,tk,HCUT.out,?_,?_,rfl,HC5.out⟩
      · rw [HCD.out]; exact HMW.out
      · rw [HCD.out]; exact HTK.out
end
end Go.Proofs.YtjnbjfjoejfmpaaGreatDoor
namespace Go.Proofs.YtjnbjfjoejfmpaaGreatDoor
open Go.RowKit
set_option linter.unusedVariables false
set_option linter.unusedSimpArgs false
theorem rep_del (A:QM.NL) (x:List ByteArray) (C:QM.NL) (m:Nat) (vs:QM.NL):QM.rep (A ++ x :: C) A.length (m + 1) vs=A ++ (QM.nes vs ++ C.drop m):=by
  unfold QM.rep; rw [List.take_left' rfl,← List.drop_drop,List.drop_left' rfl]; rfl
section
variable {b0 g r c:Nat} {rest:List Value} {nv:Value} {E B:Nat} {N:QM.NL}
theorem Chg.trans {w w1 w2:World} {N1 N2:QM.NL} {nv1:Value} (h1:LS w1 b0 g r c rest nv1 E B (nds B N1)) (hf:Fr w w1 (fun k=>k=g ∨ k=r ∨ nv.ownBlock=some k)) (ho:∀ Y,nv1.ownBlock=some Y → nv.ownBlock=some Y ∨ w.heap.size ≤ Y) (h2:Chg w1 w2 b0 g r c rest nv1 E B N2):Chg w w2 b0 g r c rest nv E B N2:=by
  obtain ⟨nv2,q1,q2,q3⟩:=h2
  refine ⟨nv2,q1,⟨q2.os.trans hf.os,q2.tape.trans hf.tape,q2.output.trans hf.output,Nat.le_trans hf.size q2.size,fun k hk hn=>?_⟩,fun Y hY=>?_⟩
  · refine (q2.block k (Nat.lt_of_lt_of_le hk hf.size) ?_).trans (hf.block k hk hn)
    rintro (e | e | e)
    · exact hn (Or.inl e)
    · exact hn (Or.inr (Or.inl e))
    · rcases ho k e with h | h
      · exact hn (Or.inr (Or.inr h))
      · omega
  · rcases q3 Y hY with h | h
    · exact ho Y h
    · right; have:=hf.size; omega
theorem Chg.bel {w00 w w':World} {N':QM.NL} (hL:LS w b0 g r c rest nv E B (nds B N)) (hc:Chg w w' b0 g r c rest nv E B N') (hb:Below w00.heap.size w00 w) (h0:w00.heap.size ≤ b0):Below w00.heap.size w00 w':=by
  obtain ⟨nv',q1,q2,q3⟩:=hc
  refine ⟨q2.os.trans hb.os,q2.tape.trans hb.tape,q2.output.trans hb.output,Nat.le_trans hb.size q2.size,fun k hk=>?_⟩
  refine (q2.block k (Nat.lt_of_lt_of_le hk hb.size) ?_).trans (hb.block k hk)
  rintro (e | e | e)
  · have:=hL.hg; omega
  · have:=hL.hr; omega
  · rcases hL.nd with ⟨e1,_⟩ | ⟨E2,c2,e1,e2,hN⟩
    · rw [e1] at e; simp [Value.ownBlock] at e
    · have:E2=k:=by rw [e1] at e; simpa [Value.ownBlock] using e
      omega
theorem del_one {N1:QM.NL} (hI:QM.Inv E B N1) (i lf:Nat) (hlf:1 ≤ lf) (hi:i + lf ≤ N1.flatten.length) (t k:Nat) (X:List ByteArray) (ht:t < N1.length) (hX:N1[t]=X) (hk:k < X.length) (he:(N1.take t).flatten.length + k=i) (cut m taken:Nat) (hcut:cut=min lf (X.length - k)) (hm:m=QM.whl (N1.drop (t + 1)) (lf - cut)) (htk:taken=cut + ((N1.drop (t + 1)).take m).flatten.length) :
    1 ≤ taken∧taken ≤ lf∧QM.Inv E B (QM.rep N1 t (m + 1) [X.take k ++ X.drop (k + cut)])∧(QM.rep N1 t (m + 1) [X.take k ++ X.drop (k + cut)]).flatten.length + taken=N1.flatten.length∧QM.delE N1 i (i + lf)=QM.delE (QM.rep N1 t (m + 1) [X.take k ++ X.drop (k + cut)]) i (i + (lf - taken)):=by
  obtain ⟨A,hA⟩:∃ A,N1.take t=A:=⟨_,rfl⟩
  obtain ⟨C,hC⟩:∃ C,N1.drop (t + 1)=C:=⟨_,rfl⟩
  have hN:N1=A ++ X :: C:=by rw [← hA,← hC,← hX,← List.drop_eq_getElem_cons ht,List.take_append_drop]
  have hAl:A.length=t:=by rw [← hA,List.length_take]; omega
  rw [hC] at hm htk
  rw [hA] at he
  have hXm:X ∈ N1:=by rw [← hX]; exact List.getElem_mem _
  have hrep:QM.rep N1 t (m + 1) [X.take k ++ X.drop (k + cut)]=A ++ (QM.ne (X.take k ++ X.drop (k + cut)) ++ C.drop m):=by
    rw [hN,← hAl,rep_del,QM.nes_cons,QM.nes_nil,List.append_nil]
  have hd:=QM.del_step A X C k lf (fun y hy=>hI.some y (by rw [hN]; simp [hy])) (fun y hy=>hI.some y (by rw [hN]; simp [hy])) hk hlf cut m hcut hm taken htk
  rw [← hN,he,← hrep] at hd
  refine ⟨hd.1,hd.2.1,hI.rep t (m + 1) _ (fun x hx=>?_),?_,hd.2.2⟩
  · rw [List.mem_singleton] at hx; subst hx
    exact QM.part hI hXm (by simp; omega) (fun u hu=>by
      rcases List.mem_append.1 hu with h | h
      · exact List.mem_of_mem_take h
      · exact List.mem_of_mem_drop h)
  · have hcs:C.flatten.length=(C.take m).flatten.length + (C.drop m).flatten.length:=by rw [← List.length_append,← List.flatten_append,List.take_append_drop]
    rw [hrep,hN]
    simp only [List.flatten_append,List.flatten_cons,List.length_append,QM.ne_flat,List.length_take,List.length_drop]
    omega
set_option maxHeartbeats 4000000 in
set_option maxRecDepth 100000 in
theorem Delete_yes (i:Nat) (hi:i < N.flatten.length) (n:Nat) (hn:1 ≤ n) (hnb:n ≤ 9223372036854775807) (hl:N.flatten.length ≤ 1000) (hI:QM.Inv E B N) (w00 w:World) (hw:Lay w00) (hbb:Below w00.heap.size w00 w) (hbz:w00.heap.size ≤ b0) (h:LS w b0 g r c rest nv E B (nds B N)):Calls Tryz.prog 42 #[ptr g,.int .i64 (i:Int),.int .i64 (n:Int)] w fun e w'=>e=.returned (.int .i64 ((min n (N.flatten.length - i):Nat):Int))∧Chg w w' b0 g r c rest nv E B (QM.delE N i (i + min n (N.flatten.length - i))):=by
  have HL:Hid _:=h
  have HW:Hid _:=hw
  have HI:Hid _:=hI
  obtain ⟨F,hF⟩:∃ F,N.flatten.length=F:=⟨_,rfl⟩
  have HFF:Hid _:=hF
  rw [hF] at hi hl ⊢
  obtain ⟨n0,hn0⟩:∃ n0,min n (F - i)=n0:=⟨_,rfl⟩
  rw [hn0]
  have HHA:Hid (Calls Tryz.prog 79 #[ptr g,.int .i64 (i:Int)] w fun e w'=>e=.returned (.bool true)∧w'=w):=by
    have:=has_any (i:Int) w h
    have e1:hasQ (cntN (nds B N)) (i:Int)=true:=by unfold hasQ; rw [cnt_nds]; exact decide_eq_true ⟨by omega,by omega⟩
    rw [e1] at this; exact this
  have hmin:min (n:Int) ((F:Int) - (i:Int))=(n0:Int):=by omega
  have hwf:IntKind.i64.wrap ((F:Int) - (i:Int))=(F:Int) - (i:Int):=by rw [IntKind.wrap_i64] <;> omega
  have hn1:¬ ((n:Int) < 1):=by omega
  obtain ⟨l0,l1,l2,l3,lf⟩:=lrow4 h.hd
  rw [cnt_nds,hF] at l2
  clear h hw hF
  go_enter Tryz.func42,Tryz.ntmps42
  go_wp2_with fail
  refine (show Calls _ _ _ _ _ from HHA.out).mono ?_
  rintro e w1 ⟨rfl,rfl⟩
  have HST:Hid (LS w1 b0 g r c rest nv E B (nds B N)∧Below w00.heap.size w00 w1):=⟨HL.out,hbb⟩
  have hi0:i + n0 ≤ F:=by omega
  go_wp2
  go_loopw [7] (fun cl wr=>∃ (lf:Nat) (N1:QM.NL) (nv1:Value),cl=.int .i64 (lf:Int)∧LS wr b0 g r c rest nv1 E B (nds B N1)∧QM.Inv E B N1∧N1.flatten.length ≤ 1000∧Fr w1 wr (fun k=>k=g ∨ k=r ∨ nv.ownBlock=some k)∧(∀ Y,nv1.ownBlock=some Y → nv.ownBlock=some Y ∨ w1.heap.size ≤ Y)∧Below w00.heap.size w00 wr∧QM.delE N1 i (i + lf)=QM.delE N i (i + n0)∧i + lf ≤ N1.flatten.length) (fun cl _=>(intOf cl).toNat)
  case atStart=>exact ⟨n0,N,nv,rfl,HST.out.1,HI.out,by rw [HFF.out]; exact hl,Fr.of_below (Below.refl _ _),fun Y hY=>Or.inl hY,HST.out.2,rfl,by rw [HFF.out]; exact hi0⟩
  case round =>
    obtain ⟨lf,N1,nv1,rfl,hL1,hI1,hl1,hF1,hO1,hB1,hD1,hi1⟩:=hrel
    have HL1:Hid _:=hL1
    have HI1:Hid _:=hI1
    have HF1:Hid _:=hF1
    have HO1:Hid _:=hO1
    have HB1:Hid _:=hB1
    have HD1:Hid _:=hD1
    by_cases hz:0 < lf
    · have hz1:(0:Int) < (lf:Int):=by omega
      obtain ⟨ht,hq,he⟩:=QM.plc_lt N1 i (by omega)
      have HFD:Hid _:=findN_any i (by omega) hl1 hI1 wr hL1
      have HDR:Hid (∀ W,Below wr.heap.size wr W → _):=fun W hW=>delRow_any (QM.plc N1 i).1 (QM.plc N1 i).2 N1[(QM.plc N1 i).1] ht rfl hq lf (by omega) (by omega) hl1 hI1 W (HW.out.on (bel_to HB1.out hW (Nat.le_refl _))) (hL1.on hW)
      have HDO:Hid _:=fun cut m taken=>del_one hI1 i lf (by omega) hi1 (QM.plc N1 i).1 (QM.plc N1 i).2 N1[(QM.plc N1 i).1] ht rfl hq he cut m taken
      generalize N1[(QM.plc N1 i).1]=X at *
      generalize (QM.plc N1 i).1=t at *
      generalize (QM.plc N1 i).2=q at *
      clear hL1 hI1 hF1 hO1 hB1 hD1 he hq ht HHA
      go_wp2_with fail
      refine (show Calls _ _ _ _ _ from HFD.out).mono ?_
      rintro e w2 ⟨rfl,hb2⟩
      have HB2:Hid _:=hb2
      clear hb2
      go_wp2_with fail
      refine (show Calls _ _ _ _ _ from HDR.out _ HB2.out).mono ?_
      rintro e w3 ⟨cut,m,taken,hc,hm,htk,rfl,hch⟩
      obtain ⟨d1,d2,d3,d4,d5⟩:=HDO.out cut m taken hc hm htk
      have hchw:=hch.back HB2.out
      have HBW:Hid _:=hchw.bel HL1.out HB1.out hbz
      obtain ⟨nv2,g1,g2,g3⟩:=Chg.trans (nv:=nv) HL1.out HF1.out HO1.out hchw
      have HRES:Hid _:=And.intro g1 (And.intro d3 (And.intro d4 (And.intro g2 (And.intro g3 d5))))
      have hwl:IntKind.i64.wrap ((lf:Int) - (taken:Int))=((lf - taken:Nat):Int):=by rw [IntKind.wrap_i64] <;> omega
      clear hc hm htk hch hchw g1 g2 g3 d3 d4 d5
      go_wp2
      obtain ⟨q1,q2,q3,q4,q5,q6⟩:=HRES.out
      refine ⟨⟨lf - taken,_,nv2,by congr 1,q1,q2,by omega,q4,q5,HBW.out,?_,by omega⟩,by simp [intOf]; omega⟩
      rw [← q6]; exact HD1.out
    · have hz1:¬ ((0:Int) < (lf:Int)):=by omega
      have hz0:lf=0:=by omega
      have HZ:Hid _:=hz0
      clear hL1 hI1 hF1 hO1 hB1 hD1 hz0
      go_wp2
      go_returns
      refine ⟨rfl,nv1,?_,HF1.out,HO1.out⟩
      have:=HD1.out
      rw [HZ.out,Nat.add_zero,QM.delE_zero N1 i HI1.out.some] at this
      rw [← this]; exact HL1.out
set_option maxHeartbeats 1000000 in
theorem Delete_nil (i n:Int) (hi:¬ (0 ≤ i∧i < (N.flatten.length:Int)) ∨ n < 1) (w:World) (h:LS w b0 g r c rest nv E B (nds B N)):Calls Tryz.prog 42 #[ptr g,.int .i64 i,.int .i64 n] w fun e w'=>e=.returned (.int .i64 0)∧w'=w:=by
  obtain ⟨bb,hbb⟩:∃ bb,hasQ (cntN (nds B N)) i=bb:=⟨_,rfl⟩
  have HHA:Hid (Calls Tryz.prog 79 #[ptr g,.int .i64 i] w fun e w'=>e=.returned (.bool bb)∧w'=w):=by
    have:=has_any i w h
    rw [hbb] at this; exact this
  cases bb with
  | false =>
    clear hi hbb h
    go_enter Tryz.func42,Tryz.ntmps42
    go_wp2_with fail
    refine (show Calls _ _ _ _ _ from HHA.out).mono ?_
    rintro e w1 ⟨rfl,rfl⟩
    go_wp2
    go_returns
    exact ⟨rfl,rfl⟩
  | true =>
    have hn:n < 1:=by
      rcases hi with h1 | h1
      · unfold hasQ at hbb; rw [cnt_nds] at hbb; exact absurd (of_decide_eq_true hbb) h1
      · exact h1
    clear hi hbb h
    go_enter Tryz.func42,Tryz.ntmps42
    go_wp2_with fail
    refine (show Calls _ _ _ _ _ from HHA.out).mono ?_
    rintro e w1 ⟨rfl,rfl⟩
    go_wp2
    go_returns
    exact ⟨rfl,rfl⟩
set_option maxHeartbeats 2000000 in
set_option maxRecDepth 100000 in
theorem Pop_yes (f:Bool) (i:Nat) (hi:i < N.flatten.length) (hfi:i=if f then 0 else N.flatten.length - 1) (hl:N.flatten.length ≤ 1000) (hI:QM.Inv E B N) (w00 w:World) (hw:Lay w00) (hbb:Below w00.heap.size w00 w) (hbz:w00.heap.size ≤ b0) (h:LS w b0 g r c rest nv E B (nds B N)):Calls Tryz.prog 36 #[ptr g,.bool f] w fun e w'=>e=.returned (.tuple #[.string N.flatten[i],.bool true])∧Chg w w' b0 g r c rest nv E B (QM.delE N i (i + 1)):=by
  have HAT:Hid _:=At_yes i hi hl hI w (hw.on hbb) h
  have HDE:Hid (∀ W,Below w.heap.size w W → Calls Tryz.prog 42 #[ptr g,.int .i64 (i:Int),.int .i64 1] W fun e w'=>e=.returned (.int .i64 1)∧Chg W w' b0 g r c rest nv E B (QM.delE N i (i + 1))):=fun W hW=>by
    have:=Delete_yes i hi 1 (by omega) (by omega) hl hI w00 W hw (bel_to hbb hW (Nat.le_refl _)) hbz (h.on hW)
    rw [show min 1 (N.flatten.length - i)=1 by omega] at this
    exact this
  obtain ⟨l0,l1,l2,l3,lf⟩:=lrow4 h.hd
  rw [cnt_nds] at l2
  generalize N.flatten[i]=T at *
  obtain ⟨F,hF⟩:∃ F,N.flatten.length=F:=⟨_,rfl⟩
  rw [hF] at l2 hfi hi hl
  clear hF h
  cases f with
  | true =>
    simp at hfi
    subst hfi
    simp only [Int.natCast_zero,Int.ofNat_zero] at HAT HDE
    go_enter Tryz.func36,Tryz.ntmps36
    go_wp2_with fail
    refine (show Calls _ _ _ _ _ from HAT.out).mono ?_
    rintro e w1 ⟨rfl,hb1⟩
    have HB1:Hid _:=hb1
    clear hb1
    go_wp2_with fail
    refine (show Calls _ _ _ _ _ from HDE.out _ HB1.out).mono ?_
    rintro e w2 ⟨rfl,hc⟩
    have HC:Hid _:=hc.back HB1.out
    clear hc
    go_wp2
    go_returns
    exact ⟨rfl,HC.out⟩
  | false =>
    simp at hfi
    have hwf:IntKind.i64.wrap ((F:Int) - 1)=(i:Int):=by rw [IntKind.wrap_i64] <;> omega
    clear hfi
    go_enter Tryz.func36,Tryz.ntmps36
    go_wp2_with fail
    refine (show Calls _ _ _ _ _ from HAT.out).mono ?_
    rintro e w1 ⟨rfl,hb1⟩
    have HB1:Hid _:=hb1
    clear hb1
    go_wp2_with fail
    refine (show Calls _ _ _ _ _ from HDE.out _ HB1.out).mono ?_
    rintro e w2 ⟨rfl,hc⟩
    have HC:Hid _:=hc.back HB1.out
    clear hc
    go_wp2
    go_returns
    exact ⟨rfl,HC.out⟩
end
end Go.Proofs.YtjnbjfjoejfmpaaGreatDoor
namespace Go.Proofs.YtjnbjfjoejfmpaaGreatDoor
open Go.RowKit
set_option linter.unusedVariables false
set_option linter.unusedSimpArgs false
theorem rep_take {N:QM.NL} (i:Nat) (hi:i < N.length) (hne:N[i] ≠ []):QM.rep (N.take i) i 0 [N[i]]=N.take (i + 1):=by
  have h1:(N.take i).take i=N.take i:=by rw [List.take_take,Nat.min_self]
  have h2:(N.take i).drop (i + 0)=[]:=by rw [Nat.add_zero]; exact List.drop_eq_nil_of_le (by rw [List.length_take]; omega)
  unfold QM.rep
  rw [h1,h2,QM.nes_cons,QM.nes_nil,QM.ne_some hne,List.append_nil,List.append_nil,List.take_succ_eq_append_getElem hi]
theorem take_flat (N:QM.NL) (i:Nat):(N.take i).flatten.length ≤ N.flatten.length:=by
  conv=>rhs; rw [← List.take_append_drop i N]
  rw [List.flatten_append,List.length_append]; omega
set_option maxHeartbeats 4000000 in
set_option maxRecDepth 100000 in
theorem Load_yes (E B:Nat) (hm:mayB (E:Int) (B:Int)=true) (N:QM.NL) (hI:QM.Inv E B N) (hl:N.flatten.length ≤ 1000) (P:Option Addr) (cc:Nat) (w:World) (hw:Lay w) (hrow:∀ j (hj:j < N.length),∃ Y,P=some ⟨Y,0,none⟩∧w.cell? ⟨Y,j,none⟩=some (.string (packN N[j])))
    (hread:∀ j (hj:j < N.length) W,Lay W → Calls Tryz.prog 25 #[.agg #[.int .i64 (E:Int),.int .i64 (B:Int)],.string (packN N[j])] W fun e w'=>e=.returned (.tuple #[.agg #[.string (packN N[j]),.int .i64 (N[j].length:Int),.bool (QM.lg B N[j])],.bool true])∧Below W.heap.size W w') :
    Calls Tryz.prog 9 #[.int .i64 (E:Int),.int .i64 (B:Int),.slice P N.length cc] w fun e w'=>∃ g r nv,e=.returned (.tuple #[ptr g,.int .i64 0])∧LS w' w.heap.size g r 1 [] nv E B (nds B N)∧Below w.heap.size w w':=by
  have hln:N.length ≤ 1000:=Nat.le_trans (QM.len_le hI.some) hl
  have HW:Hid (Lay w):=hw
  have HI:Hid _:=hI
  have HR:Hid _:=hrow
  have HRD:Hid _:=hread
  have HN:Hid _:=New_yes E B hm w
  have HNL:Hid (N.flatten.length ≤ 1000):=hl
  obtain ⟨n,hn⟩:∃ n,N.length=n:=⟨_,rfl⟩
  have HNN:Hid (N.length=n):=hn
  rw [hn] at hln ⊢
  clear hw hI hrow hread hm hl hn
  go_enter Tryz.func9,Tryz.ntmps9
  go_wp2_with fail
  refine (show Calls _ _ _ _ _ from HN.out).mono ?_
  rintro e w1 ⟨g,r,rfl,hL1,hb1⟩
  have HL1:Hid _:=hL1
  have HB1:Hid (Below w.heap.size w w1):=hb1
  clear hL1 hb1
  go_wp2
  go_loopw [25] (fun ci wr=>∃ (i:Nat) (nv:Value),i ≤ n∧ci=.int .i64 (i:Int)∧LS wr w.heap.size g r 1 [] nv E B (nds B (N.take i))∧Below w.heap.size w wr) (fun ci _=>n - (intOf ci).toNat)
  case atStart=>exact ⟨0,_,by omega,rfl,HL1.out,HB1.out⟩
  case round =>
    obtain ⟨i,nv,hi,rfl,hL,hb⟩:=hrel
    have HL:Hid (LS wr w.heap.size g r 1 [] nv E B (nds B (N.take i))):=hL
    have HB:Hid (Below w.heap.size w wr):=hb
    by_cases hlt:i < n
    · have hix:i < N.length:=by rw [HNN.out]; exact hlt
      obtain ⟨Y,hP,y0⟩:=HR.out i hix
      subst hP
      have y0:=cell_on y0 hb
      obtain ⟨l0,l1,l2,l3,lf⟩:=lrow4 hL.hd
      have HRE:Hid (Calls Tryz.prog 25 #[.agg #[.int .i64 (E:Int),.int .i64 (B:Int)],.string (packN N[i])] wr fun e w'=>e=.returned (.tuple #[.agg #[.string (packN N[i]),.int .i64 (N[i].length:Int),.bool (QM.lg B N[i])],.bool true])∧Below wr.heap.size wr w'):=HRD.out i hix wr (HW.out.on hb)
      have hti:(N.take i).length=i:=by rw [List.length_take]; have:=HNN.out; omega
      have hxm:N[i] ∈ N:=List.getElem_mem _
      have hne:=HI.out.some _ hxm
      have hfe:=HI.out.few _ hxm
      have hEl:=HI.out.le
      have HGA:Hid (∀ W,LS W w.heap.size g r 1 [] nv E B (nds B (N.take i)) → Calls Tryz.prog 27 #[ptr g,.bool false] W fun e w'=>e=.returned (plV i 0)∧Below W.heap.size W w'):=fun W hW=>by
        have:=gap_n false (by simp [nds]; omega) W hW
        simp only [nds,List.length_map] at this
        rw [if_neg (by simp),hti] at this; exact this
      have HRP:Hid (∀ a a5 X,Below wr.heap.size wr a → Below a.heap.size a a5 → NX a5 X 1 [(packN N[i],N[i].length,QM.lg B N[i])] → a.heap.size ≤ X → Calls Tryz.prog 26 #[ptr g,plV i 0,.int .i64 0,.slice (some ⟨X,0,none⟩) 1 1] a5 fun e w'=>e=.returned (.tuple #[])∧Chg a w' w.heap.size g r 1 [] nv E B (N.take (i + 1))):=fun a a5 X ha hba hX hXs=>by
        have hLa:=HL.out.on ha
        have hfl:=take_flat N i
        have hq:=replN_any i 0 0 X [(packN N[i],N[i].length,QM.lg B N[i])] [N[i]] ⟨⟨rfl,rfl,fun _=>rfl⟩,trivial⟩ a a5 hba (hLa.on hba) hLa (by omega) (by omega) (by have:=HNL.out; omega) (by simp; omega) (by simp) (by simp) hX hXs (fun e=>by rw [QM.nes_cons,QM.ne_some hne]; simp)
        rw [rep_take i hix hne] at hq
        exact hq
      have HNX:Hid (∀ W:World,NX (W.alloc (.cells #[.string (packN N[i]),.int .i64 (N[i].length:Int),.bool (QM.lg B N[i])] 57)) W.heap.size 1 [(packN N[i],N[i].length,QM.lg B N[i])]):=fun W=>nx_one W (packN N[i],N[i].length,QM.lg B N[i])
      have hcnt:(N.take i).flatten.length ≤ 1000:=Nat.le_trans (take_flat N i) HNL.out
      rw [cnt_nds] at l2
      obtain ⟨K,hK⟩:∃ K,(N.take i).flatten.length=K:=⟨_,rfl⟩
      rw [hK] at l2 hcnt
      have HKK:Hid ((N.take i).flatten.length=K):=hK
      clear hK hne hxm hti
      generalize packN N[i]=PK at *
      generalize N[i].length=CN at *
      generalize QM.lg B N[i]=LG at *
      have hz0:(0:Int) ≤ (i:Int):=by omega
      have hz1:(i:Int) < (n:Int):=by omega
      have hiw:IntKind.i64.wrap ((i:Int) + 1)=(i:Int) + 1:=by rw [IntKind.wrap_i64] <;> omega
      obtain ⟨S,hS⟩:∃ S:Int,(K:Int) + (CN:Int)=S:=⟨_,rfl⟩
      have hsw:IntKind.i64.wrap ((K:Int) + (CN:Int))=S:=by rw [IntKind.wrap_i64] <;> omega
      have hS1:¬ (S > 1048576):=by omega
      clear hL hb hS
      go_wp2_with fail
      refine (show Calls _ _ _ _ _ from HRE.out).mono ?_
      rintro e w2 ⟨rfl,hb2⟩
      have hwy:Below wr.heap.size wr (w2.alloc (.cells #[.string PK,.int .i64 (CN:Int),.bool LG] 57)):=hb2.alloc hb2.size _
      have hpy:=one_alloc w2 (.cells #[.string PK,.int .i64 (CN:Int),.bool LG] 57)
      have HK2:Hid (wr.heap.size ≤ w2.heap.size):=hb2.size
      clear hb2 l0 l1 l2 l3 lf y0
      go_upto_region 8 with fail
      generalize w2.alloc (.cells #[.string PK,.int .i64 (CN:Int),.bool LG] 57)=y at *
      have HBY:Hid (∀ W,Below y.heap.size y W → Below wr.heap.size wr W):=fun W hW=>bel_to hwy hW (Nat.le_refl _)
      obtain ⟨l0,l1,l2,l3,lf⟩:=lrow4 (HL.out.on hwy).hd
      obtain ⟨p0,p1,p2,pf⟩:=row3 hpy
      rw [cnt_nds,HKK.out] at l2
      have HKS:Hid (∀ w':World,Below y.heap.size y w' → w'.cell? ⟨w2.heap.size,0,none⟩=some (.string PK)∧w'.cell? ⟨w2.heap.size,1,none⟩=some (.int .i64 (CN:Int))∧w'.cell? ⟨w2.heap.size,2,none⟩=some (.bool LG)):=fun W hW=>And.intro (cell_on p0 hW) (And.intro (cell_on p1 hW) (cell_on p2 hW))
      have HKC:Hid (∀ (a w':World) (N':QM.NL),Below y.heap.size y a → Chg a w' w.heap.size g r 1 [] nv E B N' → w'.cell? ⟨w2.heap.size,0,none⟩=some (.string PK)∧w'.cell? ⟨w2.heap.size,1,none⟩=some (.int .i64 (CN:Int))∧w'.cell? ⟨w2.heap.size,2,none⟩=some (.bool LG)):=fun a W N' ha hc=>And.intro (hc.cell HL.out HK2.out (cell_on p0 ha)) (And.intro (hc.cell HL.out HK2.out (cell_on p1 ha)) (hc.cell HL.out HK2.out (cell_on p2 ha)))
      clear hwy hpy
      go_quiet (fail)
      have HX3:Hid (Below y.heap.size y (y.drewN nq)):=below_dn (Below.refl _ y) _
      generalize y.drewN nq=D at *
      have hSB:=HKS.out _ HX3.out
      have HXY:Hid (Below y.heap.size y y):=Below.refl _ _
      have HRY:Hid _:=fun a5 X=>HRP.out y a5 X (HBY.out y (Below.refl _ _))
      have HXD:Hid (Below y.heap.size y D.drew):=HX3.out.drew
      have HXA:Hid (Below y.heap.size y (D.alloc (.cells #[.string PK,.int .i64 (CN:Int),.bool LG] 57)).drew):=(HX3.out.alloc HX3.out.size _).drew
      have HND:Hid (NX (D.alloc (.cells #[.string PK,.int .i64 (CN:Int),.bool LG] 57)).drew D.heap.size 1 [(PK,CN,LG)]):=(HNX.out D).on (Below.refl _ _).drew
      have HLD:Hid _:=HL.out.on (HBY.out _ HXD.out)
      have HLA:Hid _:=HL.out.on (HBY.out _ HXA.out)
      clear l0 l1 l2 l3 lf p0 p1 p2 pf
      go_wp2_with fail
      go_region_held3 (fun w':World=>w'.cell? ⟨w2.heap.size,0,none⟩=some (.string PK)∧w'.cell? ⟨w2.heap.size,1,none⟩=some (.int .i64 (CN:Int))∧w'.cell? ⟨w2.heap.size,2,none⟩=some (.bool LG))
        (first | with_reducible exact hSB | with_reducible exact HKS.out _ HXD.out | with_reducible exact HKS.out _ HXA.out | with_reducible exact HKS.out _ hx4 | with_reducible exact HKS.out _ (hx4.alloc hx4.size _) | with_reducible exact HKC.out _ _ _ HXY.out hc5)
        (first | (go_at_call 26; refine Calls.mono (HRY.out _ _ ?_ ?_ ?_) ?_; (any_goals (first | with_reducible exact hx4 | with_reducible exact (hx4.alloc hx4.size _) | with_reducible exact HNX.out _ | with_reducible exact HND.out.on hb4 | with_reducible exact hx4.size | with_reducible exact HX3.out.size | with_reducible exact Nat.le_refl _)); rintro e a6 ⟨rfl,hc5⟩) | (go_at_call 27; refine Calls.mono (HGA.out _ ?_) ?_; (any_goals (first | with_reducible exact HLD.out | with_reducible exact HLA.out)); rintro e a4 ⟨rfl,hb4⟩; have hx4:Below y.heap.size y a4:=by first | with_reducible exact bel_to HXD.out hb4 (Nat.le_refl _) | with_reducible exact bel_to HXA.out hb4 (Nat.le_refl _)))
      all_goals
        have HC5:Hid (Chg wr a6 w.heap.size g r 1 [] nv E B (N.take (i + 1))):=hc5.back (HBY.out _ HXY.out)
        have HB6:Hid (Below w.heap.size w a6):=Chg.bel HL.out HC5.out HB.out (Nat.le_refl _)
        clear hc5 hx4 hb4 hSB
        go_wp2
        obtain ⟨nv',q1,_,_⟩:=HC5.out
        exact ⟨⟨i + 1,nv',hlt,by congr 1,q1,HB6.out⟩,by simp [intOf]; omega⟩
    · have hz1:¬ (i:Int) < (n:Int):=by omega
      have hie:i=n:=by omega
      subst hie
      clear hL hb
      go_wp2
      go_returns
      have hLL:=HL.out
      rw [← HNN.out,List.take_length] at hLL
      first | exact ⟨g,r,nv,rfl,hLL,HB.out⟩ | exact ⟨g,rfl,⟨r,nv,hLL⟩,HB.out⟩
end Go.Proofs.YtjnbjfjoejfmpaaGreatDoor
