import Derived.Test.YtjnbjfjoejfmpaaGreatDoorQSt
import Derived.Deep.CutRange
import Derived.Test.YtjnbjfjoejfmpaaGreatDoorWAX
import Derived.Test.YtjnbjfjoejfmpaaGreatDoorWAY
namespace Go.Proofs.YtjnbjfjoejfmpaaGreatDoor
open Go.RowKit
set_option linter.unusedVariables false
set_option linter.unusedSimpArgs false
section
variable {b0 g r c:Nat} {rest:List Value} {nv:Value} {E B:Nat} {N:QM.NL}
set_option maxHeartbeats 4000000 in
set_option maxRecDepth 100000 in
theorem Push_none (f:Bool) (s:ByteArray) (hs:s.size ≤ 524288) (hl:N.flatten.length ≤ 1000) (hI:QM.Inv E B N) (t q:Nat) (w:World) (hw:Lay w) (h:LS w b0 g r c rest nv E B (nds B N)) (hEN:∀ W,LS W b0 g r c rest nv E B (nds B N) → Calls Tryz.prog 68 #[ptr g,.bool f] W fun e w'=>e=.returned (.tuple #[plV t q,.bool false])∧Below W.heap.size W w'):Calls Tryz.prog 31 #[ptr g,.string s,.bool f] w fun e w'=>e=.returned (.int .i64 0)∧Chg w w' b0 g r c rest nv E B (QM.rep N (if f then 0 else N.length) 0 [[s]]):=by
  have HL:Hid _:=h
  have HW:Hid _:=hw
  have HEN:Hid _:=hEN
  have HI:Hid _:=hI
  have hln:N.length ≤ 1000:=Nat.le_trans (QM.len_le hI.some) hl
  have hXE:=hI.le
  have HMJ:Hid (∀ W,LS W b0 g r c rest nv E B (nds B N) → Calls Tryz.prog 67 #[ptr g,.string s] W fun e w'=>e=.returned (.int .i64 0)∧w'=W):=fun W hW=>by
    have:=mayJoin_any s (by omega) W hW
    have e:mayQ (cntN (nds B N)) s=0:=by unfold mayQ; rw [cnt_nds,if_neg (by omega),if_neg (by omega)]
    rw [e] at this; exact this
  obtain ⟨gp,hgp⟩:∃ gp,(if f then 0 else N.length)=gp:=⟨_,rfl⟩
  have hgl:gp ≤ N.length:=by rw [← hgp]; split <;> omega
  have HGA:Hid (∀ W,LS W b0 g r c rest nv E B (nds B N) → Calls Tryz.prog 27 #[ptr g,.bool f] W fun e w'=>e=.returned (plV gp 0)∧Below W.heap.size W w'):=fun W hW=>by
    have:=gap_n f (by simp [nds]; omega) W hW
    simp only [nds,List.length_map] at this
    rw [hgp] at this; exact this
  have HAL:Hid (∀ W,Lay W → Calls Tryz.prog 72 #[.agg #[.int .i64 (E:Int),.int .i64 (B:Int)],.string s] W fun e w'=>e=.returned (.agg #[.string (packN [s]),.int .i64 1,.bool (QM.big B s)])∧Below W.heap.size W w'):=fun W hW=>alone_any E B s hs HI.out.lb W hW
  have HRP:Hid (∀ a W,Below w.heap.size w a → W=a.alloc (.cells #[.string (packN [s]),.int .i64 1,.bool (QM.big B s)] 57) → Calls Tryz.prog 26 #[ptr g,plV gp 0,.int .i64 0,.slice (some ⟨a.heap.size,0,none⟩) 1 1] W fun e w'=>e=.returned (.tuple #[])∧Chg a w' b0 g r c rest nv E B (QM.rep N gp 0 [[s]])):=fun a W ha hW=>by
    subst hW
    have hLa:=HL.out.on ha
    have hba:Below a.heap.size a (a.alloc (.cells #[.string (packN [s]),.int .i64 1,.bool (QM.big B s)] 57)):=(Below.refl _ _).alloc (Nat.le_refl _) _
    exact replN_any gp 0 0 a.heap.size [(packN [s],1,QM.big B s)] [[s]] ⟨⟨rfl,rfl,fun _=>rfl⟩,trivial⟩ a _ hba (hLa.on hba) hLa (by omega) hln (by omega) (by simp) (by simp) (by simp) (nx_one a (packN [s],1,QM.big B s)) (Nat.le_refl _) (fun e=>by simp [QM.nes])
  rw [hgp]
  generalize packN [s]=PK at *
  generalize QM.big B s=BG at *
  clear hw h hEN hI hgp
  go_enter Tryz.func31,Tryz.ntmps31
  go_wp2_with fail
  refine (show Calls _ _ _ _ _ from HMJ.out _ HL.out).mono ?_
  rintro e w1 ⟨rfl,rfl⟩
  go_wp2_with fail
  refine (show Calls _ _ _ _ _ from HEN.out _ HL.out).mono ?_
  rintro e w2 ⟨rfl,hb2⟩
  have HB2:Hid (Below w1.heap.size w1 w2):=hb2
  have hwy:Below w1.heap.size w1 (w2.alloc (.cells #[.int .i64 0,.int .i64 (t:Int),.int .i64 (q:Int)] 67)):=HB2.out.alloc HB2.out.size _
  have hpy:=one_alloc w2 (.cells #[.int .i64 0,.int .i64 (t:Int),.int .i64 (q:Int)] 67)
  clear hb2
  go_wp2_with fail
  generalize w2.alloc (.cells #[.int .i64 0,.int .i64 (t:Int),.int .i64 (q:Int)] 67)=y at *
  have HBY:Hid (∀ W,Below y.heap.size y W → Below w1.heap.size w1 W):=fun W hW=>bel_to hwy hW (Nat.le_refl _)
  obtain ⟨l0,l1,l2,l3,lf⟩:=lrow4 (HL.out.on hwy).hd
  obtain ⟨p0,p1,p2,pf⟩:=row3 hpy
  have hsz2:w1.heap.size ≤ w2.heap.size:=HB2.out.size
  have hSA:=And.intro p0 (And.intro p1 (And.intro p2 (And.intro l0 l1)))
  have HKS:Hid (∀ w':World,Below y.heap.size y w' → w'.cell? ⟨w2.heap.size,0,none⟩=some (.int .i64 0)∧w'.cell? ⟨w2.heap.size,1,none⟩=some (.int .i64 (t:Int))∧w'.cell? ⟨w2.heap.size,2,none⟩=some (.int .i64 (q:Int))∧w'.cell? ⟨g,0,none⟩=some (.int .i64 (E:Int))∧w'.cell? ⟨g,1,none⟩=some (.int .i64 (B:Int))):=fun W hW=>And.intro (cell_on p0 hW) (And.intro (cell_on p1 hW) (And.intro (cell_on p2 hW) (And.intro (cell_on l0 hW) (cell_on l1 hW))))
  have HKC:Hid (∀ (a w':World) (N':QM.NL),Below y.heap.size y a → Chg a w' b0 g r c rest nv E B N' → w'.cell? ⟨w2.heap.size,0,none⟩=some (.int .i64 0)∧w'.cell? ⟨w2.heap.size,1,none⟩=some (.int .i64 (t:Int))∧w'.cell? ⟨w2.heap.size,2,none⟩=some (.int .i64 (q:Int))∧w'.cell? ⟨g,0,none⟩=some (.int .i64 (E:Int))∧w'.cell? ⟨g,1,none⟩=some (.int .i64 (B:Int))):=fun a W N' ha hc=>And.intro (hc.cell HL.out hsz2 (cell_on p0 ha)) (And.intro (hc.cell HL.out hsz2 (cell_on p1 ha)) (And.intro (hc.cell HL.out hsz2 (cell_on p2 ha)) hc.bnd))
  clear hwy hpy l0 l1 l2 l3 lf p0 p1 p2 pf HMJ HEN
  go_quiet (fail)
  have HX3:Hid (Below y.heap.size y (y.drewN nq)):=below_dn (Below.refl _ y) _
  have hSB:=HKS.out _ HX3.out
  clear hSA
  go_wp2_with fail
  go_region_held3 (fun w':World=>w'.cell? ⟨w2.heap.size,0,none⟩=some (.int .i64 0)∧w'.cell? ⟨w2.heap.size,1,none⟩=some (.int .i64 (t:Int))∧w'.cell? ⟨w2.heap.size,2,none⟩=some (.int .i64 (q:Int))∧w'.cell? ⟨g,0,none⟩=some (.int .i64 (E:Int))∧w'.cell? ⟨g,1,none⟩=some (.int .i64 (B:Int)))
    (first | exact hSB | exact HKS.out _ hx5 | exact HKS.out _ hx4 | exact HKC.out _ _ _ hx5 hc5 | exact HKS.out _ (hx5.alloc hx5.size _) | exact HKS.out _ (HX3.out.drew))
    (first | (go_at_call 26; refine (show Calls _ _ _ _ _ from HRP.out a5 _ (HBY.out _ hx5) rfl).mono ?_; rintro e a6 ⟨rfl,hc5⟩) | (go_at_call 72; refine (show Calls _ _ _ _ _ from HAL.out _ (HW.out.on (HBY.out _ hx4))).mono ?_; rintro e a5 ⟨rfl,hb5⟩; have hx5:=bel_to hx4 hb5 (Nat.le_refl _)) | (go_at_call 27; refine (show Calls _ _ _ _ _ from HGA.out _ (HL.out.on (HBY.out _ HX3.out.drew))).mono ?_; rintro e a4 ⟨rfl,hb4⟩; have hx4:=bel_to HX3.out.drew hb4 (Nat.le_refl _)))
  have HC5:Hid _:=hc5.back (HBY.out _ hx5)
  clear hc5 hx4 hx5 hb4 hb5 hSB
  go_wp2
  go_returns
  exact ⟨rfl,HC5.out⟩
set_option maxHeartbeats 4000000 in
set_option maxRecDepth 100000 in
theorem Push_full (f:Bool) (s:ByteArray) (hs:s.size ≤ 524288) (hl:N.flatten.length ≤ 1000) (hI:QM.Inv E B N) (t q:Nat) (X:List ByteArray) (ht:t < N.length) (hX:N[t]=X) (hb:QM.big B s=false) (hr:QM.room E B X=false) (w:World) (hw:Lay w) (h:LS w b0 g r c rest nv E B (nds B N)) (hEN:∀ W,LS W b0 g r c rest nv E B (nds B N) → Calls Tryz.prog 68 #[ptr g,.bool f] W fun e w'=>e=.returned (.tuple #[plV t q,.bool true])∧Below W.heap.size W w'):Calls Tryz.prog 31 #[ptr g,.string s,.bool f] w fun e w'=>e=.returned (.int .i64 0)∧Chg w w' b0 g r c rest nv E B (QM.rep N (if f then 0 else N.length) 0 [[s]]):=by
  have HL:Hid _:=h
  have HW:Hid _:=hw
  have HEN:Hid _:=hEN
  have HI:Hid _:=hI
  have hln:N.length ≤ 1000:=Nat.le_trans (QM.len_le hI.some) hl
  have hXE:=hI.le
  have HMJ:Hid (∀ W,LS W b0 g r c rest nv E B (nds B N) → Calls Tryz.prog 67 #[ptr g,.string s] W fun e w'=>e=.returned (.int .i64 0)∧w'=W):=fun W hW=>by
    have:=mayJoin_any s (by omega) W hW
    have e:mayQ (cntN (nds B N)) s=0:=by unfold mayQ; rw [cnt_nds,if_neg (by omega),if_neg (by omega)]
    rw [e] at this; exact this
  have HIL:Hid (∀ W,Calls Tryz.prog 57 #[.agg #[.int .i64 (E:Int),.int .i64 (B:Int)],.string s] W fun e w'=>e=.returned (.bool false)∧Below W.heap.size W w'):=fun W=>by
    have:=isLarge_any E B s (by omega) hI.lb W
    rw [hb] at this; exact this
  have hXm:X ∈ N:=by rw [← hX]; exact List.getElem_mem _
  have hXl:=hI.few X hXm
  have HND:Hid (∀ W,LS W b0 g r c rest nv E B (nds B N) → Calls Tryz.prog 70 #[ptr g,plV t q] W fun e w'=>e=.returned (.agg #[.string (packN X),.int .i64 (X.length:Int),.bool (QM.lg B X)])∧Below W.heap.size W w'):=fun W hW=>by
    have:=nodeN_any t q ht hln W hW
    rw [hX] at this; exact this
  have HHR:Hid (∀ W,Calls Tryz.prog 69 #[.agg #[.int .i64 (E:Int),.int .i64 (B:Int)],.agg #[.string (packN X),.int .i64 (X.length:Int),.bool (QM.lg B X)]] W fun e w'=>e=.returned (.bool false)∧Below W.heap.size W w'):=fun W=>by
    have:=hasRoom_any E B X (packN X) hXE.2 (by omega) W
    rw [hr] at this; exact this
  generalize packN X=PX at *
  generalize X.length=LX at *
  generalize QM.lg B X=GX at *
  obtain ⟨gp,hgp⟩:∃ gp,(if f then 0 else N.length)=gp:=⟨_,rfl⟩
  have hgl:gp ≤ N.length:=by rw [← hgp]; split <;> omega
  have HGA:Hid (∀ W,LS W b0 g r c rest nv E B (nds B N) → Calls Tryz.prog 27 #[ptr g,.bool f] W fun e w'=>e=.returned (plV gp 0)∧Below W.heap.size W w'):=fun W hW=>by
    have:=gap_n f (by simp [nds]; omega) W hW
    simp only [nds,List.length_map] at this
    rw [hgp] at this; exact this
  have HAL:Hid (∀ W,Lay W → Calls Tryz.prog 72 #[.agg #[.int .i64 (E:Int),.int .i64 (B:Int)],.string s] W fun e w'=>e=.returned (.agg #[.string (packN [s]),.int .i64 1,.bool (QM.big B s)])∧Below W.heap.size W w'):=fun W hW=>alone_any E B s hs HI.out.lb W hW
  have HRP:Hid (∀ a W,Below w.heap.size w a → W=a.alloc (.cells #[.string (packN [s]),.int .i64 1,.bool (QM.big B s)] 57) → Calls Tryz.prog 26 #[ptr g,plV gp 0,.int .i64 0,.slice (some ⟨a.heap.size,0,none⟩) 1 1] W fun e w'=>e=.returned (.tuple #[])∧Chg a w' b0 g r c rest nv E B (QM.rep N gp 0 [[s]])):=fun a W ha hW=>by
    subst hW
    have hLa:=HL.out.on ha
    have hba:Below a.heap.size a (a.alloc (.cells #[.string (packN [s]),.int .i64 1,.bool (QM.big B s)] 57)):=(Below.refl _ _).alloc (Nat.le_refl _) _
    exact replN_any gp 0 0 a.heap.size [(packN [s],1,QM.big B s)] [[s]] ⟨⟨rfl,rfl,fun _=>rfl⟩,trivial⟩ a _ hba (hLa.on hba) hLa (by omega) hln (by omega) (by simp) (by simp) (by simp) (nx_one a (packN [s],1,QM.big B s)) (Nat.le_refl _) (fun e=>by simp [QM.nes])
  rw [hgp]
  generalize packN [s]=PK at *
  rw [hb] at HAL HRP
  clear hb hX hXm hr
  clear hw h hEN hI hgp
  go_enter Tryz.func31,Tryz.ntmps31
  go_wp2_with fail
  refine (show Calls _ _ _ _ _ from HMJ.out _ HL.out).mono ?_
  rintro e w1 ⟨rfl,rfl⟩
  go_wp2_with fail
  refine (show Calls _ _ _ _ _ from HEN.out _ HL.out).mono ?_
  rintro e w2 ⟨rfl,hb2⟩
  have HB2:Hid (Below w1.heap.size w1 w2):=hb2
  have hwy:Below w1.heap.size w1 (w2.alloc (.cells #[.int .i64 0,.int .i64 (t:Int),.int .i64 (q:Int)] 67)):=HB2.out.alloc HB2.out.size _
  have hpy:=one_alloc w2 (.cells #[.int .i64 0,.int .i64 (t:Int),.int .i64 (q:Int)] 67)
  clear hb2
  go_wp2_with fail
  generalize w2.alloc (.cells #[.int .i64 0,.int .i64 (t:Int),.int .i64 (q:Int)] 67)=y at *
  have HBY:Hid (∀ W,Below y.heap.size y W → Below w1.heap.size w1 W):=fun W hW=>bel_to hwy hW (Nat.le_refl _)
  obtain ⟨l0,l1,l2,l3,lf⟩:=lrow4 (HL.out.on hwy).hd
  obtain ⟨p0,p1,p2,pf⟩:=row3 hpy
  have hsz2:w1.heap.size ≤ w2.heap.size:=HB2.out.size
  have hSA:=And.intro p0 (And.intro p1 (And.intro p2 (And.intro l0 l1)))
  have HKS:Hid (∀ w':World,Below y.heap.size y w' → w'.cell? ⟨w2.heap.size,0,none⟩=some (.int .i64 0)∧w'.cell? ⟨w2.heap.size,1,none⟩=some (.int .i64 (t:Int))∧w'.cell? ⟨w2.heap.size,2,none⟩=some (.int .i64 (q:Int))∧w'.cell? ⟨g,0,none⟩=some (.int .i64 (E:Int))∧w'.cell? ⟨g,1,none⟩=some (.int .i64 (B:Int))):=fun W hW=>And.intro (cell_on p0 hW) (And.intro (cell_on p1 hW) (And.intro (cell_on p2 hW) (And.intro (cell_on l0 hW) (cell_on l1 hW))))
  have HKC:Hid (∀ (a w':World) (N':QM.NL),Below y.heap.size y a → Chg a w' b0 g r c rest nv E B N' → w'.cell? ⟨w2.heap.size,0,none⟩=some (.int .i64 0)∧w'.cell? ⟨w2.heap.size,1,none⟩=some (.int .i64 (t:Int))∧w'.cell? ⟨w2.heap.size,2,none⟩=some (.int .i64 (q:Int))∧w'.cell? ⟨g,0,none⟩=some (.int .i64 (E:Int))∧w'.cell? ⟨g,1,none⟩=some (.int .i64 (B:Int))):=fun a W N' ha hc=>And.intro (hc.cell HL.out hsz2 (cell_on p0 ha)) (And.intro (hc.cell HL.out hsz2 (cell_on p1 ha)) (And.intro (hc.cell HL.out hsz2 (cell_on p2 ha)) hc.bnd))
  clear hwy hpy l0 l1 l2 l3 lf p0 p1 p2 pf HMJ HEN
  go_region_held3 (fun w':World=>w'.cell? ⟨w2.heap.size,0,none⟩=some (.int .i64 0)∧w'.cell? ⟨w2.heap.size,1,none⟩=some (.int .i64 (t:Int))∧w'.cell? ⟨w2.heap.size,2,none⟩=some (.int .i64 (q:Int))∧w'.cell? ⟨g,0,none⟩=some (.int .i64 (E:Int))∧w'.cell? ⟨g,1,none⟩=some (.int .i64 (B:Int)))
    (first | exact hSA | exact HKS.out _ hx3 | exact HKS.out _ hx2 | exact HKS.out _ hx1 | exact HKS.out _ ((Below.refl _ y).drew))
    (first | (go_at_call 69; refine (show Calls _ _ _ _ _ from HHR.out _).mono ?_; rintro e a3 ⟨rfl,hb3⟩; have hx3:=bel_to hx2 hb3 (Nat.le_refl _)) | (go_at_call 70; refine (show Calls _ _ _ _ _ from HND.out _ (HL.out.on (HBY.out _ hx1))).mono ?_; rintro e a2 ⟨rfl,hb2⟩; have hx2:=bel_to hx1 hb2 (Nat.le_refl _)) | (go_at_call 57; refine (show Calls _ _ _ _ _ from HIL.out _).mono ?_; rintro e a1 ⟨rfl,hb1⟩; have hx1:=bel_to ((Below.refl _ y).drew) hb1 (Nat.le_refl _)))
  have HX3:Hid (Below y.heap.size y a3):=hx3
  have hSB:=HKS.out _ hx3
  clear hx1 hx2 hx3 hb1 hb2 hb3 hSA
  go_wp2_with fail
  go_region_held3 (fun w':World=>w'.cell? ⟨w2.heap.size,0,none⟩=some (.int .i64 0)∧w'.cell? ⟨w2.heap.size,1,none⟩=some (.int .i64 (t:Int))∧w'.cell? ⟨w2.heap.size,2,none⟩=some (.int .i64 (q:Int))∧w'.cell? ⟨g,0,none⟩=some (.int .i64 (E:Int))∧w'.cell? ⟨g,1,none⟩=some (.int .i64 (B:Int)))
    (first | exact hSB | exact HKS.out _ hx5 | exact HKS.out _ hx4 | exact HKC.out _ _ _ hx5 hc5 | exact HKS.out _ (hx5.alloc hx5.size _) | exact HKS.out _ (HX3.out.drew))
    (first | (go_at_call 26; refine (show Calls _ _ _ _ _ from HRP.out a5 _ (HBY.out _ hx5) rfl).mono ?_; rintro e a6 ⟨rfl,hc5⟩) | (go_at_call 72; refine (show Calls _ _ _ _ _ from HAL.out _ (HW.out.on (HBY.out _ hx4))).mono ?_; rintro e a5 ⟨rfl,hb5⟩; have hx5:=bel_to hx4 hb5 (Nat.le_refl _)) | (go_at_call 27; refine (show Calls _ _ _ _ _ from HGA.out _ (HL.out.on (HBY.out _ HX3.out.drew))).mono ?_; rintro e a4 ⟨rfl,hb4⟩; have hx4:=bel_to HX3.out.drew hb4 (Nat.le_refl _)))
  have HC5:Hid _:=hc5.back (HBY.out _ hx5)
  clear hc5 hx4 hx5 hb4 hb5 hSB
  go_wp2
  go_returns
  exact ⟨rfl,HC5.out⟩
end
end Go.Proofs.YtjnbjfjoejfmpaaGreatDoor
namespace Go.Proofs.YtjnbjfjoejfmpaaGreatDoor
open Go.RowKit
set_option linter.unusedVariables false
set_option linter.unusedSimpArgs false
section
variable {b0 g r c:Nat} {rest:List Value} {nv:Value} {E B:Nat} {N:QM.NL}
set_option maxHeartbeats 4000000 in
set_option maxRecDepth 100000 in
theorem Push_big (f:Bool) (s:ByteArray) (hs:s.size ≤ 524288) (hl:N.flatten.length ≤ 1000) (hI:QM.Inv E B N) (t q:Nat) (hb:QM.big B s=true) (w:World) (hw:Lay w) (h:LS w b0 g r c rest nv E B (nds B N)) (hEN:∀ W,LS W b0 g r c rest nv E B (nds B N) → Calls Tryz.prog 68 #[ptr g,.bool f] W fun e w'=>e=.returned (.tuple #[plV t q,.bool true])∧Below W.heap.size W w'):Calls Tryz.prog 31 #[ptr g,.string s,.bool f] w fun e w'=>e=.returned (.int .i64 0)∧Chg w w' b0 g r c rest nv E B (QM.rep N (if f then 0 else N.length) 0 [[s]]):=by
  have HL:Hid _:=h
  have HW:Hid _:=hw
  have HEN:Hid _:=hEN
  have HI:Hid _:=hI
  have hln:N.length ≤ 1000:=Nat.le_trans (QM.len_le hI.some) hl
  have hXE:=hI.le
  have HMJ:Hid (∀ W,LS W b0 g r c rest nv E B (nds B N) → Calls Tryz.prog 67 #[ptr g,.string s] W fun e w'=>e=.returned (.int .i64 0)∧w'=W):=fun W hW=>by
    have:=mayJoin_any s (by omega) W hW
    have e:mayQ (cntN (nds B N)) s=0:=by unfold mayQ; rw [cnt_nds,if_neg (by omega),if_neg (by omega)]
    rw [e] at this; exact this
  have HIL:Hid (∀ W,Calls Tryz.prog 57 #[.agg #[.int .i64 (E:Int),.int .i64 (B:Int)],.string s] W fun e w'=>e=.returned (.bool true)∧Below W.heap.size W w'):=fun W=>by
    have:=isLarge_any E B s (by omega) hI.lb W
    rw [hb] at this; exact this
  obtain ⟨gp,hgp⟩:∃ gp,(if f then 0 else N.length)=gp:=⟨_,rfl⟩
  have hgl:gp ≤ N.length:=by rw [← hgp]; split <;> omega
  have HGA:Hid (∀ W,LS W b0 g r c rest nv E B (nds B N) → Calls Tryz.prog 27 #[ptr g,.bool f] W fun e w'=>e=.returned (plV gp 0)∧Below W.heap.size W w'):=fun W hW=>by
    have:=gap_n f (by simp [nds]; omega) W hW
    simp only [nds,List.length_map] at this
    rw [hgp] at this; exact this
  have HAL:Hid (∀ W,Lay W → Calls Tryz.prog 72 #[.agg #[.int .i64 (E:Int),.int .i64 (B:Int)],.string s] W fun e w'=>e=.returned (.agg #[.string (packN [s]),.int .i64 1,.bool (QM.big B s)])∧Below W.heap.size W w'):=fun W hW=>alone_any E B s hs HI.out.lb W hW
  have HRP:Hid (∀ a W,Below w.heap.size w a → W=a.alloc (.cells #[.string (packN [s]),.int .i64 1,.bool (QM.big B s)] 57) → Calls Tryz.prog 26 #[ptr g,plV gp 0,.int .i64 0,.slice (some ⟨a.heap.size,0,none⟩) 1 1] W fun e w'=>e=.returned (.tuple #[])∧Chg a w' b0 g r c rest nv E B (QM.rep N gp 0 [[s]])):=fun a W ha hW=>by
    subst hW
    have hLa:=HL.out.on ha
    have hba:Below a.heap.size a (a.alloc (.cells #[.string (packN [s]),.int .i64 1,.bool (QM.big B s)] 57)):=(Below.refl _ _).alloc (Nat.le_refl _) _
    exact replN_any gp 0 0 a.heap.size [(packN [s],1,QM.big B s)] [[s]] ⟨⟨rfl,rfl,fun _=>rfl⟩,trivial⟩ a _ hba (hLa.on hba) hLa (by omega) hln (by omega) (by simp) (by simp) (by simp) (nx_one a (packN [s],1,QM.big B s)) (Nat.le_refl _) (fun e=>by simp [QM.nes])
  rw [hgp]
  generalize packN [s]=PK at *
  rw [hb] at HAL HRP
  clear hb
  clear hw h hEN hI hgp
  go_enter Tryz.func31,Tryz.ntmps31
  go_wp2_with fail
  refine (show Calls _ _ _ _ _ from HMJ.out _ HL.out).mono ?_
  rintro e w1 ⟨rfl,rfl⟩
  go_wp2_with fail
  refine (show Calls _ _ _ _ _ from HEN.out _ HL.out).mono ?_
  rintro e w2 ⟨rfl,hb2⟩
  have HB2:Hid (Below w1.heap.size w1 w2):=hb2
  have hwy:Below w1.heap.size w1 (w2.alloc (.cells #[.int .i64 0,.int .i64 (t:Int),.int .i64 (q:Int)] 67)):=HB2.out.alloc HB2.out.size _
  have hpy:=one_alloc w2 (.cells #[.int .i64 0,.int .i64 (t:Int),.int .i64 (q:Int)] 67)
  clear hb2
  go_wp2_with fail
  generalize w2.alloc (.cells #[.int .i64 0,.int .i64 (t:Int),.int .i64 (q:Int)] 67)=y at *
  have HBY:Hid (∀ W,Below y.heap.size y W → Below w1.heap.size w1 W):=fun W hW=>bel_to hwy hW (Nat.le_refl _)
  obtain ⟨l0,l1,l2,l3,lf⟩:=lrow4 (HL.out.on hwy).hd
  obtain ⟨p0,p1,p2,pf⟩:=row3 hpy
  have hsz2:w1.heap.size ≤ w2.heap.size:=HB2.out.size
  have hSA:=And.intro p0 (And.intro p1 (And.intro p2 (And.intro l0 l1)))
  have HKS:Hid (∀ w':World,Below y.heap.size y w' → w'.cell? ⟨w2.heap.size,0,none⟩=some (.int .i64 0)∧w'.cell? ⟨w2.heap.size,1,none⟩=some (.int .i64 (t:Int))∧w'.cell? ⟨w2.heap.size,2,none⟩=some (.int .i64 (q:Int))∧w'.cell? ⟨g,0,none⟩=some (.int .i64 (E:Int))∧w'.cell? ⟨g,1,none⟩=some (.int .i64 (B:Int))):=fun W hW=>And.intro (cell_on p0 hW) (And.intro (cell_on p1 hW) (And.intro (cell_on p2 hW) (And.intro (cell_on l0 hW) (cell_on l1 hW))))
  have HKC:Hid (∀ (a w':World) (N':QM.NL),Below y.heap.size y a → Chg a w' b0 g r c rest nv E B N' → w'.cell? ⟨w2.heap.size,0,none⟩=some (.int .i64 0)∧w'.cell? ⟨w2.heap.size,1,none⟩=some (.int .i64 (t:Int))∧w'.cell? ⟨w2.heap.size,2,none⟩=some (.int .i64 (q:Int))∧w'.cell? ⟨g,0,none⟩=some (.int .i64 (E:Int))∧w'.cell? ⟨g,1,none⟩=some (.int .i64 (B:Int))):=fun a W N' ha hc=>And.intro (hc.cell HL.out hsz2 (cell_on p0 ha)) (And.intro (hc.cell HL.out hsz2 (cell_on p1 ha)) (And.intro (hc.cell HL.out hsz2 (cell_on p2 ha)) hc.bnd))
  clear hwy hpy l0 l1 l2 l3 lf p0 p1 p2 pf HMJ HEN
  go_cut [41] from 22 to 41 (fun s41 wx=>s41=.bool false∧Below y.heap.size y wx)
  case first =>
    refine wp_region_noPanic ?_
    refine wp_region_held_drew (S:=(fun w':World=>w'.cell? ⟨g,0,none⟩=some (.int .i64 (E:Int))∧w'.cell? ⟨g,1,none⟩=some (.int .i64 (B:Int)))) (by kernel_rfl) ?_ (fun hHeld=>?_)
    · exact (HKS.out _ ((Below.refl _ y).drew)).2.2.2
    refine wpAnyH_take (i:=0) (oi:={ dst:=some 22,op:=Op.move (Operand.tmp 9),type:=4,pos:= "quicklist.go:98",after:=#[],guard:=none }) (v:=?v0) rfl (by kernel_rfl) (by kernel_rfl) (by kernel_rfl) (fun _ _ _ h=>h) (Or.inl ⟨by rfl,?h0⟩) (by assumption) ?r0
    case h0=>(intro w hSw; (try dsimp only at hSw); go_simp; try with_reducible rfl)
    try simp only [Act.put,List.setIfInBounds_toArray,List.set_cons_zero,List.set_cons_succ]
    refine wpAnyH_take (i:=1) (oi:={ dst:=some 23,op:=Op.move (Operand.tmp 22),type:=4,pos:= "quicklist.go:98",after:=#[{ on:=0,ground:=Ground.data }],guard:=none }) (v:=?v1) rfl (by kernel_rfl) (by kernel_rfl) (by kernel_rfl) (fun _ _ _ h=>h) (Or.inl ⟨by rfl,?h1⟩) (by assumption) ?r1
    case h1=>(intro w hSw; (try dsimp only at hSw); go_simp; try with_reducible rfl)
    try simp only [Act.put,List.setIfInBounds_toArray,List.set_cons_zero,List.set_cons_succ]
    refine wpAnyH_take (i:=2) (oi:={ dst:=some 24,op:=Op.move (Operand.tmp 0),type:=23,pos:= "quicklist.go:98",after:=#[{ on:=1,ground:=Ground.guard }],guard:=some (1,true) }) (v:=?v2) rfl (by kernel_rfl) (by kernel_rfl) (by kernel_rfl) (fun _ _ _ h=>h) (Or.inl ⟨by rfl,?h2⟩) (by assumption) ?r2
    case h2=>(intro w hSw; (try dsimp only at hSw); go_simp; try with_reducible rfl)
    try simp only [Act.put,List.setIfInBounds_toArray,List.set_cons_zero,List.set_cons_succ]
    refine wpAnyH_take (i:=3) (oi:={ dst:=some 25,op:=Op.nilCheck (Operand.tmp 24),type:=0,pos:= "quicklist.go:98",after:=#[{ on:=2,ground:=Ground.data },{ on:=1,ground:=Ground.guard }],guard:=some (1,true) }) (v:=?v3) rfl (by kernel_rfl) (by kernel_rfl) (by kernel_rfl) (fun _ _ _ h=>h) (Or.inl ⟨by rfl,?h3⟩) (by assumption) ?r3
    case h3=>(intro w hSw; (try dsimp only at hSw); go_simp; try with_reducible rfl)
    try simp only [Act.put,List.setIfInBounds_toArray,List.set_cons_zero,List.set_cons_succ]
    refine wpAnyH_take (i:=4) (oi:={ dst:=some 26,op:=Op.fieldAddr 64 (Operand.tmp 25) 0,type:=0,pos:= "quicklist.go:98",after:=#[{ on:=3,ground:=Ground.data },{ on:=1,ground:=Ground.guard }],guard:=some (1,true) }) (v:=?v4) rfl (by kernel_rfl) (by kernel_rfl) (by kernel_rfl) (fun _ _ _ h=>h) (Or.inl ⟨by rfl,?h4⟩) (by assumption) ?r4
    case h4=>(intro w hSw; (try dsimp only at hSw); go_simp; try with_reducible rfl)
    try simp only [Act.put,List.setIfInBounds_toArray,List.set_cons_zero,List.set_cons_succ]
    refine wpAnyH_take (i:=5) (oi:={ dst:=some 27,op:=Op.load 61 (Operand.tmp 26),type:=61,pos:= "quicklist.go:98",after:=#[{ on:=4,ground:=Ground.data },{ on:=1,ground:=Ground.guard }],guard:=some (1,true) }) (v:=?v5) rfl (by kernel_rfl) (by kernel_rfl) (by kernel_rfl) (fun _ _ _ h=>h) (Or.inl ⟨by rfl,?h5⟩) (by assumption) ?r5
    case h5=>(intro w hSw; (try dsimp only at hSw); go_simp; try with_reducible rfl)
    try simp only [Act.put,List.setIfInBounds_toArray,List.set_cons_zero,List.set_cons_succ]
    refine wpAnyH_take (i:=6) (oi:={ dst:=some 28,op:=Op.move (Operand.tmp 1),type:=9,pos:= "quicklist.go:98",after:=#[{ on:=1,ground:=Ground.guard }],guard:=some (1,true) }) (v:=?v6) rfl (by kernel_rfl) (by kernel_rfl) (by kernel_rfl) (fun _ _ _ h=>h) (Or.inl ⟨by rfl,?h6⟩) (by assumption) ?r6
    case h6=>(intro w hSw; (try dsimp only at hSw); go_simp; try with_reducible rfl)
    try simp only [Act.put,List.setIfInBounds_toArray,List.set_cons_zero,List.set_cons_succ]
    refine wpAnyH_ready (rs:=[7]) (by kernel_rfl) (by simp) ?_
    refine AllReadyH.cons (o:={ dst:=some 29,op:=Op.call { callee:=Callee.value (Operand.func 57),args:=#[Operand.tmp 27,Operand.tmp 28],argTypes:=#[61,9] },type:=4,pos:= "quicklist.go:98",after:=#[{ on:=5,ground:=Ground.data },{ on:=6,ground:=Ground.data },{ on:=1,ground:=Ground.chain },{ on:=1,ground:=Ground.guard }],guard:=some (1,true) }) rfl (fun K hK=>?_) AllReadyH.nil
    go_simp
    refine (show Calls _ _ _ _ _ from HIL.out _).mono ?_
    rintro e a1 ⟨rfl,hb1⟩
    have hx1:=bel_to ((Below.refl _ y).drew) hb1 (Nat.le_refl _)
    go_wp2_with fail
    refine hK.out _ _ ?_ (fun hHeld=>?_)
    · exact (HKS.out _ hx1).2.2.2
    clear hK K
    try simp only [Act.put,List.setIfInBounds_toArray,List.set_cons_zero,List.set_cons_succ]
    refine wpAnyH_take (i:=8) (oi:={ dst:=some 30,op:=Op.unOp UnOp.not 4 (Operand.tmp 29),type:=4,pos:= "quicklist.go:98",after:=#[{ on:=7,ground:=Ground.data },{ on:=1,ground:=Ground.guard }],guard:=some (1,true) }) (v:=?v8) rfl (by kernel_rfl) (by kernel_rfl) (by kernel_rfl) (fun _ _ _ h=>h) (Or.inl ⟨by rfl,?h8⟩) (by assumption) ?r8
    case h8=>(intro w hSw; (try dsimp only at hSw); go_simp; try with_reducible rfl)
    try simp only [Act.put,List.setIfInBounds_toArray,List.set_cons_zero,List.set_cons_succ]
    refine wpAnyH_take (i:=9) (oi:={ dst:=some 31,op:=Op.pick (Operand.tmp 23) (Operand.tmp 30) (Operand.const (Value.bool false)),type:=4,pos:= "quicklist.go:98",after:=#[{ on:=1,ground:=Ground.data },{ on:=8,ground:=Ground.data }],guard:=none }) (v:=?v9) rfl (by kernel_rfl) (by kernel_rfl) (by kernel_rfl) (fun _ _ _ h=>h) (Or.inl ⟨by rfl,?h9⟩) (by assumption) ?r9
    case h9=>(intro w hSw; (try dsimp only at hSw); go_simp; try with_reducible rfl)
    try simp only [Act.put,List.setIfInBounds_toArray,List.set_cons_zero,List.set_cons_succ]
    refine wpAnyH_take (i:=10) (oi:={ dst:=some 32,op:=Op.move (Operand.tmp 31),type:=4,pos:= "quicklist.go:98",after:=#[{ on:=9,ground:=Ground.data },{ on:=7,ground:=Ground.chain }],guard:=none }) (v:=?v10) rfl (by kernel_rfl) (by kernel_rfl) (by kernel_rfl) (fun _ _ _ h=>h) (Or.inl ⟨by rfl,?h10⟩) (by assumption) ?r10
    case h10=>(intro w hSw; (try dsimp only at hSw); go_simp; try with_reducible rfl)
    try simp only [Act.put,List.setIfInBounds_toArray,List.set_cons_zero,List.set_cons_succ]
    refine wpAnyH_take (i:=11) (oi:={ dst:=some 33,op:=Op.move (Operand.tmp 0),type:=23,pos:= "quicklist.go:98",after:=#[{ on:=10,ground:=Ground.guard }],guard:=some (10,true) }) (v:=undef) rfl (by kernel_rfl) (by kernel_rfl) (by kernel_rfl) (fun _ _ _ h=>h) (Or.inr ⟨by rfl,rfl⟩) (by assumption) ?_
    try simp only [Act.put,List.setIfInBounds_toArray,List.set_cons_zero,List.set_cons_succ]
    refine wpAnyH_take (i:=12) (oi:={ dst:=some 34,op:=Op.nilCheck (Operand.tmp 33),type:=0,pos:= "quicklist.go:98",after:=#[{ on:=11,ground:=Ground.data },{ on:=10,ground:=Ground.guard }],guard:=some (10,true) }) (v:=undef) rfl (by kernel_rfl) (by kernel_rfl) (by kernel_rfl) (fun _ _ _ h=>h) (Or.inr ⟨by rfl,rfl⟩) (by assumption) ?_
    try simp only [Act.put,List.setIfInBounds_toArray,List.set_cons_zero,List.set_cons_succ]
    refine wpAnyH_take (i:=13) (oi:={ dst:=some 35,op:=Op.fieldAddr 64 (Operand.tmp 34) 0,type:=0,pos:= "quicklist.go:98",after:=#[{ on:=12,ground:=Ground.data },{ on:=10,ground:=Ground.guard }],guard:=some (10,true) }) (v:=undef) rfl (by kernel_rfl) (by kernel_rfl) (by kernel_rfl) (fun _ _ _ h=>h) (Or.inr ⟨by rfl,rfl⟩) (by assumption) ?_
    try simp only [Act.put,List.setIfInBounds_toArray,List.set_cons_zero,List.set_cons_succ]
    refine wpAnyH_take (i:=14) (oi:={ dst:=some 36,op:=Op.load 61 (Operand.tmp 35),type:=61,pos:= "quicklist.go:98",after:=#[{ on:=13,ground:=Ground.data },{ on:=10,ground:=Ground.guard }],guard:=some (10,true) }) (v:=undef) rfl (by kernel_rfl) (by kernel_rfl) (by kernel_rfl) (fun _ _ _ h=>h) (Or.inr ⟨by rfl,rfl⟩) (by assumption) ?_
    try simp only [Act.put,List.setIfInBounds_toArray,List.set_cons_zero,List.set_cons_succ]
    refine wpAnyH_take (i:=15) (oi:={ dst:=some 37,op:=Op.move (Operand.tmp 0),type:=23,pos:= "quicklist.go:98",after:=#[{ on:=10,ground:=Ground.guard }],guard:=some (10,true) }) (v:=undef) rfl (by kernel_rfl) (by kernel_rfl) (by kernel_rfl) (fun _ _ _ h=>h) (Or.inr ⟨by rfl,rfl⟩) (by assumption) ?_
    try simp only [Act.put,List.setIfInBounds_toArray,List.set_cons_zero,List.set_cons_succ]
    refine wpAnyH_take (i:=16) (oi:={ dst:=some 38,op:=Op.load 67 (Operand.tmp 8),type:=67,pos:= "quicklist.go:98",after:=#[{ on:=10,ground:=Ground.guard }],guard:=some (10,true) }) (v:=undef) rfl (by kernel_rfl) (by kernel_rfl) (by kernel_rfl) (fun _ _ _ h=>h) (Or.inr ⟨by rfl,rfl⟩) (by assumption) ?_
    try simp only [Act.put,List.setIfInBounds_toArray,List.set_cons_zero,List.set_cons_succ]
    refine wpAnyH_take (i:=17) (oi:={ dst:=some 39,op:=Op.call { callee:=Callee.value (Operand.func 70),args:=#[Operand.tmp 37,Operand.tmp 38],argTypes:=#[23,67] },type:=57,pos:= "quicklist.go:98",after:=#[{ on:=15,ground:=Ground.data },{ on:=16,ground:=Ground.data },{ on:=10,ground:=Ground.chain },{ on:=10,ground:=Ground.guard }],guard:=some (10,true) }) (v:=undef) rfl (by kernel_rfl) (by kernel_rfl) (by kernel_rfl) (fun _ _ _ h=>h) (Or.inr ⟨by rfl,rfl⟩) (by assumption) ?_
    try simp only [Act.put,List.setIfInBounds_toArray,List.set_cons_zero,List.set_cons_succ]
    refine wpAnyH_take (i:=18) (oi:={ dst:=some 40,op:=Op.call { callee:=Callee.value (Operand.func 69),args:=#[Operand.tmp 36,Operand.tmp 39],argTypes:=#[61,57] },type:=4,pos:= "quicklist.go:98",after:=#[{ on:=14,ground:=Ground.data },{ on:=17,ground:=Ground.data },{ on:=17,ground:=Ground.chain },{ on:=10,ground:=Ground.guard }],guard:=some (10,true) }) (v:=undef) rfl (by kernel_rfl) (by kernel_rfl) (by kernel_rfl) (fun _ _ _ h=>h) (Or.inr ⟨by rfl,rfl⟩) (by assumption) ?_
    try simp only [Act.put,List.setIfInBounds_toArray,List.set_cons_zero,List.set_cons_succ]
    refine wpAnyH_take (i:=19) (oi:={ dst:=some 41,op:=Op.pick (Operand.tmp 32) (Operand.tmp 40) (Operand.const (Value.bool false)),type:=4,pos:= "quicklist.go:98",after:=#[{ on:=10,ground:=Ground.data },{ on:=18,ground:=Ground.data }],guard:=none }) (v:=?v19) rfl (by kernel_rfl) (by kernel_rfl) (by kernel_rfl) (fun _ _ _ h=>h) (Or.inl ⟨by rfl,?h19⟩) (by assumption) ?r19
    case h19=>(intro w hSw; (try dsimp only at hSw); go_simp; try with_reducible rfl)
    try simp only [Act.put,List.setIfInBounds_toArray,List.set_cons_zero,List.set_cons_succ]
    refine wpAnyH_done (by kernel_rfl) ?_ _
    refine NoPanic.normal ?_
    all_goals go_wp2
    all_goals go_meet
    all_goals exact ⟨rfl,hx1⟩
  obtain ⟨rfl,hx1⟩:=hcut
  have HX3:Hid (Below y.heap.size y wc):=hx1
  have hSB:=HKS.out _ hx1
  clear hx1
  go_wp2_with fail
  go_region_held3 (fun w':World=>w'.cell? ⟨w2.heap.size,0,none⟩=some (.int .i64 0)∧w'.cell? ⟨w2.heap.size,1,none⟩=some (.int .i64 (t:Int))∧w'.cell? ⟨w2.heap.size,2,none⟩=some (.int .i64 (q:Int))∧w'.cell? ⟨g,0,none⟩=some (.int .i64 (E:Int))∧w'.cell? ⟨g,1,none⟩=some (.int .i64 (B:Int)))
    (first | exact hSB | exact HKS.out _ hx5 | exact HKS.out _ hx4 | exact HKC.out _ _ _ hx5 hc5 | exact HKS.out _ (hx5.alloc hx5.size _) | exact HKS.out _ (HX3.out.drew))
    (first | (go_at_call 26; refine (show Calls _ _ _ _ _ from HRP.out a5 _ (HBY.out _ hx5) rfl).mono ?_; rintro e a6 ⟨rfl,hc5⟩) | (go_at_call 72; refine (show Calls _ _ _ _ _ from HAL.out _ (HW.out.on (HBY.out _ hx4))).mono ?_; rintro e a5 ⟨rfl,hb5⟩; have hx5:=bel_to hx4 hb5 (Nat.le_refl _)) | (go_at_call 27; refine (show Calls _ _ _ _ _ from HGA.out _ (HL.out.on (HBY.out _ HX3.out.drew))).mono ?_; rintro e a4 ⟨rfl,hb4⟩; have hx4:=bel_to HX3.out.drew hb4 (Nat.le_refl _)))
  have HC5:Hid _:=hc5.back (HBY.out _ hx5)
  clear hc5 hx4 hx5 hb4 hb5 hSB
  go_wp2
  go_returns
  exact ⟨rfl,HC5.out⟩

end
end Go.Proofs.YtjnbjfjoejfmpaaGreatDoor
namespace Go.Proofs.YtjnbjfjoejfmpaaGreatDoor
open Go.RowKit
set_option linter.unusedVariables false
set_option linter.unusedSimpArgs false
theorem fldC (a b d:Value) (w:World):(Instr.field 57 (.agg #[a,b,d]) 1).run Tryz.prog w=.ok b w:=by kernel_rfl
section
variable {b0 g r c:Nat} {rest:List Value} {nv:Value} {E B:Nat} {N:QM.NL}
set_option maxHeartbeats 4000000 in
set_option maxRecDepth 100000 in
theorem end_back (hc:0 < N.flatten.length) (hl:N.flatten.length ≤ 1000) (hI:QM.Inv E B N) (t:Nat) (ht:t + 1=N.length) (w:World) (h:LS w b0 g r c rest nv E B (nds B N)):Calls Tryz.prog 68 #[ptr g,.bool false] w fun e w'=>e=.returned (.tuple #[plV t (N[t]'(by omega)).length,.bool true])∧Below w.heap.size w w':=by
  have HL:Hid _:=h
  have hln:N.length ≤ 1000:=Nat.le_trans (QM.len_le hI.some) hl
  have HG:Hid (∀ W,LS W b0 g r c rest nv E B (nds B N) → Calls Tryz.prog 27 #[ptr g,.bool false] W fun e w'=>e=.returned (plV (t + 1) 0)∧Below W.heap.size W w'):=fun W hW=>by
    have:=gap_back (by simp [nds]; omega) W hW
    simp only [nds,List.length_map,← ht] at this
    exact this
  have HND:Hid (∀ W,LS W b0 g r c rest nv E B (nds B N) → _):=fun W hW=>nodeN_any t 0 (by omega) hln W hW
  generalize packN (N[t]'(by omega))=PK at *
  have hL5:=hI.few _ (List.getElem_mem (show t < N.length by omega))
  have hE5:=hI.le
  generalize (N[t]'(by omega)).length=LN at *
  generalize QM.lg B (N[t]'(by omega))=LG at *
  obtain ⟨CN,hCN⟩:∃ CN,N.flatten.length=CN:=⟨_,rfl⟩
  have HCN:Hid _:=hCN
  have hc0:0 < CN:=by omega
  obtain ⟨t1,ht1⟩:∃ t1,t + 1=t1:=⟨_,rfl⟩
  rw [ht1] at HG
  have hw1:IntKind.i64.wrap ((t1:Int) - 1)=(t:Int):=by rw [IntKind.wrap_i64] <;> omega
  clear h hCN ht hc hl hI ht1
  go_enter Tryz.func68,Tryz.ntmps68
  go_wp2_with fail
  refine (show Calls _ _ _ _ _ from HG.out _ (HL.out.on ((Below.refl _ w).alloc (Nat.le_refl _) _))).mono ?_
  rintro e w1 ⟨rfl,hb1⟩
  have HB1:Hid (Below w.heap.size w w1):=bel_to ((Below.refl _ w).alloc (Nat.le_refl _) _) hb1 (Nat.le_refl _)
  have hL1:=HL.out.on HB1.out
  have hr:=keep_row (one_alloc w (.cells #[.int .i64 0,.int .i64 0,.int .i64 0] 67)) hb1
  have HR:Hid _:=hr
  obtain ⟨l0,l1,l2,l3,lf⟩:=lrow4 hL1.hd
  rw [cnt_nds,HCN.out] at l2
  have L2:=cell_a1 l2
  have hcz:¬ ((CN:Int)=0):=by omega
  have HB5:Hid (Below w.heap.size w ((w1.alloc (.cells #[.int .i64 0,.int .i64 (t1:Int),.int .i64 0] 67)).setCell ⟨w1.heap.size,1,none⟩ (.int .i64 (t:Int)))):=(HB1.out.alloc HB1.out.size _).setCell (p:=⟨w1.heap.size,1,none⟩) HB1.out.size _
  clear hL1 hr hb1 l0 l1 l2 l3 lf
  go_wp2_with fail
  refine (show Calls _ _ _ _ _ from HND.out _ (HL.out.on (HB1.out.alloc HB1.out.size _))).mono ?_
  rintro e w3 ⟨rfl,hb3⟩
  have HB3:Hid (Below w.heap.size w w3):=bel_to (HB1.out.alloc HB1.out.size _) hb3 (Nat.le_refl _)
  have hp3:=keep_row (one_alloc w1 (.cells #[.int .i64 0,.int .i64 (t:Int),.int .i64 0] 67)) hb3
  have hr3:=keep_row (keep_row HR.out ((Below.refl _ _).alloc (Nat.le_refl _) (.cells #[.int .i64 0,.int .i64 (t:Int),.int .i64 0] 67))) hb3
  obtain ⟨p0,p1,p2,pf⟩:=row3 hp3
  obtain ⟨c0,c1,c2,cf⟩:=row3 hr3
  have hsw:=row_lt HR.out
  have hne1:¬ (w.heap.size=w1.heap.size):=by omega
  have hne2:¬ (w1.heap.size=w.heap.size):=by omega
  have HG3:Hid _:=heap_set3 (w3.setCell ⟨w1.heap.size,2,none⟩ (.int .i64 (LN:Int))) w.heap.size 67 _ _ _ (.int .i64 0) (.int .i64 (t:Int)) (.int .i64 (LN:Int)) ((heap_setCell_other _ _ _ _ hne1).trans hr3)
  have HS5:Hid (w.heap.size ≤ w1.heap.size):=HB1.out.size
  clear hp3 hr3 hb3 HR HG HND L2 HB5
  have hfld:=fldC
  go_wp2
  obtain ⟨g0,g1,g2,gf⟩:=row3 HG3.out.1
  exact bodyPost_ret (v:=.tuple #[plV t LN,.bool true]) (by simp [results,Tryz.results68,go_sem,g0,g1,g2]) rfl ⟨rfl,below_set3 (HB3.out.setCell (p:=⟨w1.heap.size,2,none⟩) HS5.out _) (Nat.le_refl _) _ _ _⟩
set_option maxHeartbeats 4000000 in
set_option maxRecDepth 100000 in
theorem Push_one (f:Bool) (s:ByteArray) (hs:s.size ≤ 524288) (hl:N.flatten.length ≤ 1000) (hI:QM.Inv E B N) (t q:Nat) (X:List ByteArray) (ht:t < N.length) (hX:N[t]=X) (w:World) (hw:Lay w) (h:LS w b0 g r c rest nv E B (nds B N)) (hEN:∀ W,LS W b0 g r c rest nv E B (nds B N) → Calls Tryz.prog 68 #[ptr g,.bool f] W fun e w'=>e=.returned (.tuple #[plV t q,.bool true])∧Below W.heap.size W w') (hb:QM.big B s=false) (hr:QM.room E B X=true) (hq:q ≤ X.length):Calls Tryz.prog 31 #[ptr g,.string s,.bool f] w fun e w'=>e=.returned (.int .i64 0)∧Chg w w' b0 g r c rest nv E B (QM.rep N t 1 [X.take q ++ s :: X.drop q]):=by
  have HL:Hid _:=h
  have HW:Hid _:=hw
  have HEN:Hid _:=hEN
  have HI:Hid _:=hI
  have hln:N.length ≤ 1000:=Nat.le_trans (QM.len_le hI.some) hl
  have HMJ:Hid (∀ W,LS W b0 g r c rest nv E B (nds B N) → Calls Tryz.prog 67 #[ptr g,.string s] W fun e w'=>e=.returned (.int .i64 0)∧w'=W):=fun W hW=>by
    have:=mayJoin_any s (by omega) W hW
    have e:mayQ (cntN (nds B N)) s=0:=by unfold mayQ; rw [cnt_nds,if_neg (by omega),if_neg (by omega)]
    rw [e] at this; exact this
  have HIL:Hid (∀ W,Calls Tryz.prog 57 #[.agg #[.int .i64 (E:Int),.int .i64 (B:Int)],.string s] W fun e w'=>e=.returned (.bool false)∧Below W.heap.size W w'):=fun W=>by
    have:=isLarge_any E B s (by omega) hI.lb W
    rw [hb] at this; exact this
  have hXm:X ∈ N:=by rw [← hX]; exact List.getElem_mem _
  have hXl:=hI.few X hXm
  have hXE:=hI.le
  have hlx:=(QM.room_iff.1 hr).2
  have HND:Hid (∀ W,LS W b0 g r c rest nv E B (nds B N) → Calls Tryz.prog 70 #[ptr g,plV t q] W fun e w'=>e=.returned (.agg #[.string (packN X),.int .i64 (X.length:Int),.bool false])∧Below W.heap.size W w'):=fun W hW=>by
    have:=nodeN_any t q ht hln W hW
    rw [hX,hlx] at this; exact this
  have HHR:Hid (∀ W,Calls Tryz.prog 69 #[.agg #[.int .i64 (E:Int),.int .i64 (B:Int)],.agg #[.string (packN X),.int .i64 (X.length:Int),.bool false]] W fun e w'=>e=.returned (.bool true)∧Below W.heap.size W w'):=fun W=>by
    have:=hasRoom_any E B X (packN X) hXE.2 (by omega) W
    rw [hr,hlx] at this; exact this
  clear hw h hEN hI
  go_enter Tryz.func31,Tryz.ntmps31
  go_wp2_with fail
  refine (show Calls _ _ _ _ _ from HMJ.out _ HL.out).mono ?_
  rintro e w1 ⟨rfl,rfl⟩
  go_wp2_with fail
  refine (show Calls _ _ _ _ _ from HEN.out _ HL.out).mono ?_
  rintro e w2 ⟨rfl,hb2⟩
  have HB2:Hid (Below w1.heap.size w1 w2):=hb2
  have hL2:=HL.out.on hb2
  have hwy:Below w1.heap.size w1 (w2.alloc (.cells #[.int .i64 0,.int .i64 (t:Int),.int .i64 (q:Int)] 67)):=HB2.out.alloc HB2.out.size _
  have hpy:=one_alloc w2 (.cells #[.int .i64 0,.int .i64 (t:Int),.int .i64 (q:Int)] 67)
  go_wp2_with fail
  generalize w2.alloc (.cells #[.int .i64 0,.int .i64 (t:Int),.int .i64 (q:Int)] 67)=y at *
  have HBY:Hid (∀ W,Below y.heap.size y W → Below w1.heap.size w1 W):=fun W hW=>bel_to hwy hW (Nat.le_refl _)
  obtain ⟨l0,l1,l2,l3,lf⟩:=lrow4 (HL.out.on hwy).hd
  obtain ⟨p0,p1,p2,pf⟩:=row3 hpy
  have hsz2:w1.heap.size ≤ w2.heap.size:=HB2.out.size
  have hSA:=And.intro p0 (And.intro p1 (And.intro p2 (And.intro l0 l1)))
  have HKS:Hid (∀ w':World,Below y.heap.size y w' → w'.cell? ⟨w2.heap.size,0,none⟩=some (.int .i64 0)∧w'.cell? ⟨w2.heap.size,1,none⟩=some (.int .i64 (t:Int))∧w'.cell? ⟨w2.heap.size,2,none⟩=some (.int .i64 (q:Int))∧w'.cell? ⟨g,0,none⟩=some (.int .i64 (E:Int))∧w'.cell? ⟨g,1,none⟩=some (.int .i64 (B:Int))):=fun W hW=>And.intro (cell_on p0 hW) (And.intro (cell_on p1 hW) (And.intro (cell_on p2 hW) (And.intro (cell_on l0 hW) (cell_on l1 hW))))
  have HKC:Hid (∀ (a w':World) (N':QM.NL),Below y.heap.size y a → Chg a w' b0 g r c rest nv E B N' → w'.cell? ⟨w2.heap.size,0,none⟩=some (.int .i64 0)∧w'.cell? ⟨w2.heap.size,1,none⟩=some (.int .i64 (t:Int))∧w'.cell? ⟨w2.heap.size,2,none⟩=some (.int .i64 (q:Int))∧w'.cell? ⟨g,0,none⟩=some (.int .i64 (E:Int))∧w'.cell? ⟨g,1,none⟩=some (.int .i64 (B:Int))):=fun a W N' ha hc=>And.intro (hc.cell HL.out hsz2 (cell_on p0 ha)) (And.intro (hc.cell HL.out hsz2 (cell_on p1 ha)) (And.intro (hc.cell HL.out hsz2 (cell_on p2 ha)) hc.bnd))
  have hfit:Fit X:=fit_node HI.out hXm
  have hsm:=QM.lg_not HI.out hXm hlx
  have hsB:s.size ≤ B:=QM.big_iff.1 hb
  have hlB:=HI.out.lb
  have hfit2:Fit (X.take q ++ s :: X.drop q):=fit_many (by simp; omega) (fun u hu=>by
    rcases List.mem_append.1 hu with h | h
    · have:=hsm u (List.mem_of_mem_take h); omega
    · rcases List.mem_cons.1 h with h | h
      · subst h; omega
      · have:=hsm u (List.mem_of_mem_drop h); omega)
  have hlg:QM.lg B (X.take q ++ s :: X.drop q)=false:=by
    cases hh:X.take q ++ s :: X.drop q with
    | nil=>rfl
    | cons u us =>
      have hu:u ∈ X.take q ++ s :: X.drop q:=by rw [hh]; simp
      unfold QM.lg
      rcases List.mem_append.1 hu with h | h
      · have:=hsm u (List.mem_of_mem_take h); simp; omega
      · rcases List.mem_cons.1 h with h | h
        · subst h; simp; omega
        · have:=hsm u (List.mem_of_mem_drop h); simp; omega
  have HWI:Hid (∀ W,Lay W → Calls Tryz.prog 71 #[.agg #[.string (packN X),.int .i64 (X.length:Int),.bool false],.int .i64 (q:Int),.string s] W fun e w'=>e=.returned (.agg #[.string (packN (X.take q ++ s :: X.drop q)),.int .i64 ((X.length + 1:Nat):Int),.bool false])∧Below W.heap.size W w'):=fun W hW=>with_any B X hfit q hq s hs hfit2 false W hW
  have HRP:Hid (∀ a W,Below w1.heap.size w1 a → W=a.alloc (.cells #[.string (packN (X.take q ++ s :: X.drop q)),.int .i64 ((X.length + 1:Nat):Int),.bool false] 57) → Calls Tryz.prog 26 #[ptr g,plV t q,.int .i64 1,.slice (some ⟨a.heap.size,0,none⟩) 1 1] W fun e w'=>e=.returned (.tuple #[])∧Chg a w' b0 g r c rest nv E B (QM.rep N t 1 [X.take q ++ s :: X.drop q])):=fun a W ha hW=>by
    subst hW
    have hLa:=HL.out.on ha
    have hba:Below a.heap.size a (a.alloc (.cells #[.string (packN (X.take q ++ s :: X.drop q)),.int .i64 ((X.length + 1:Nat):Int),.bool false] 57)):=(Below.refl _ _).alloc (Nat.le_refl _) _
    exact replN_any t q 1 a.heap.size [(packN (X.take q ++ s :: X.drop q),X.length + 1,false)] [X.take q ++ s :: X.drop q] ⟨⟨rfl,by simp; omega,fun _=>hlg.symm⟩,trivial⟩ a _ hba (hLa.on hba) hLa (by omega) hln (by omega) (by simp; omega) (by simp) (by simp) (nx_one a (packN (X.take q ++ s :: X.drop q),X.length + 1,false)) (Nat.le_refl _) (fun e=>by simp at e)
  generalize packN (X.take q ++ s :: X.drop q)=PK at *
  generalize X.length + 1=LN1 at *
  clear hlg hsm hsB hfit2 hfit hwy hpy l0 l1 l2 l3 lf p0 p1 p2 pf hb hr hlx HMJ HEN hX hXm
  go_region_held3 (fun w':World=>w'.cell? ⟨w2.heap.size,0,none⟩=some (.int .i64 0)∧w'.cell? ⟨w2.heap.size,1,none⟩=some (.int .i64 (t:Int))∧w'.cell? ⟨w2.heap.size,2,none⟩=some (.int .i64 (q:Int))∧w'.cell? ⟨g,0,none⟩=some (.int .i64 (E:Int))∧w'.cell? ⟨g,1,none⟩=some (.int .i64 (B:Int)))
    (first | exact hSA | exact HKS.out _ hx3 | exact HKS.out _ hx2 | exact HKS.out _ hx1 | exact HKS.out _ ((Below.refl _ y).drew))
    (first | (go_at_call 69; refine (show Calls _ _ _ _ _ from HHR.out _).mono ?_; rintro e a3 ⟨rfl,hb3⟩; have hx3:=bel_to hx2 hb3 (Nat.le_refl _)) | (go_at_call 70; refine (show Calls _ _ _ _ _ from HND.out _ (HL.out.on (HBY.out _ hx1))).mono ?_; rintro e a2 ⟨rfl,hb2⟩; have hx2:=bel_to hx1 hb2 (Nat.le_refl _)) | (go_at_call 57; refine (show Calls _ _ _ _ _ from HIL.out _).mono ?_; rintro e a1 ⟨rfl,hb1⟩; have hx1:=bel_to ((Below.refl _ y).drew) hb1 (Nat.le_refl _)))
  have HX3:Hid (Below y.heap.size y a3):=hx3
  have hSB:=HKS.out _ hx3
  clear hx1 hx2 hx3 hb1 hb2 hb3 hSA
  go_wp2_with fail
  go_region_held3 (fun w':World=>w'.cell? ⟨w2.heap.size,0,none⟩=some (.int .i64 0)∧w'.cell? ⟨w2.heap.size,1,none⟩=some (.int .i64 (t:Int))∧w'.cell? ⟨w2.heap.size,2,none⟩=some (.int .i64 (q:Int))∧w'.cell? ⟨g,0,none⟩=some (.int .i64 (E:Int))∧w'.cell? ⟨g,1,none⟩=some (.int .i64 (B:Int)))
    (first | exact hSB | exact HKS.out _ hx5 | exact HKS.out _ hx4 | exact HKC.out _ _ _ hx5 hc5 | exact HKS.out _ (hx5.alloc hx5.size _) | exact HKS.out _ (HX3.out.drew))
    (first | (go_at_call 26; refine (show Calls _ _ _ _ _ from HRP.out a5 _ (HBY.out _ hx5) rfl).mono ?_; rintro e a6 ⟨rfl,hc5⟩) | (go_at_call 71; refine (show Calls _ _ _ _ _ from HWI.out _ (HW.out.on (HBY.out _ hx4))).mono ?_; rintro e a5 ⟨rfl,hb5⟩; have hx5:=bel_to hx4 hb5 (Nat.le_refl _)) | (go_at_call 70; refine (show Calls _ _ _ _ _ from HND.out _ (HL.out.on (HBY.out _ HX3.out.drew))).mono ?_; rintro e a4 ⟨rfl,hb4⟩; have hx4:=bel_to HX3.out.drew hb4 (Nat.le_refl _)))
  have HC5:Hid _:=hc5.back (HBY.out _ hx5)
  clear hc5 hx4 hx5 hb4 hb5 hSB
  go_wp2
  go_returns
  exact ⟨rfl,HC5.out⟩
end
end Go.Proofs.YtjnbjfjoejfmpaaGreatDoor
namespace Go.Proofs.YtjnbjfjoejfmpaaGreatDoor
open Go.RowKit
set_option linter.unusedVariables false
set_option linter.unusedSimpArgs false
section
variable {b0 g r c:Nat} {rest:List Value} {nv:Value} {E B:Nat} {N:QM.NL}
theorem insN_any (i:Nat) (hi:i < N.flatten.length) (s:ByteArray) (hs:s.size ≤ 524288) (hl:N.flatten.length ≤ 1000) (hI:QM.Inv E B N) (w:World) (hw:Lay w) (h:LS w b0 g r c rest nv E B (nds B N)):Calls Tryz.prog 80 #[ptr g,plV (QM.plc N i).1 (QM.plc N i).2,.string s] w fun e w'=>e=.returned (.tuple #[])∧Chg w w' b0 g r c rest nv E B (QM.ins E B N i s):=by
  obtain ⟨ht,hq,he⟩:=QM.plc_lt N i hi
  have hx:=QM.getD_at N _ ht
  unfold QM.ins
  simp only [hx]
  cases hb:QM.big B s with
  | true =>
    rw [if_pos rfl]
    exact insert_big _ _ _ ht rfl hq s hs hb hl hI w hw h
  | false =>
    rw [if_neg (by simp)]
    cases hr:QM.room E B N[(QM.plc N i).1] with
    | true =>
      rw [if_pos rfl]
      exact insert_room _ _ _ ht rfl hq s hs hb hr hl hI w hw h
    | false =>
      rw [if_neg (by simp)]
      by_cases hk:(QM.plc N i).2=0
      · by_cases hn:0 < (QM.plc N i).1
        · have hn1:(QM.plc N i).1 - 1 < N.length:=by omega
          rw [QM.getD_at N _ hn1]
          cases hrb:QM.room E B N[(QM.plc N i).1 - 1] with
          | true =>
            rw [if_pos ⟨hk,hn,rfl⟩]
            exact insert_before _ _ _ ht rfl hq s hs hb hr hk ((QM.plc N i).1 - 1) (by omega) _ rfl hrb hl hI w hw h
          | false =>
            rw [if_neg (by simp),if_pos hk]
            exact insert_gap _ _ _ ht rfl hq s hs hb hr hk ((QM.plc N i).1 - 1) (by omega) _ rfl hrb hl hI w hw h
        · rw [if_neg (fun hh=>hn hh.2.1),if_pos hk]
          exact insert_first _ _ _ ht rfl hq s hs hb hr hk (by omega) hl hI w hw h
      · rw [if_neg (fun hh=>hk hh.1),if_neg hk]
        exact insert_split _ _ _ ht rfl hq s hs hb hr (by omega) hl hI w hw h
set_option maxHeartbeats 2000000 in
set_option maxRecDepth 100000 in
theorem Insert_yes (i:Nat) (hi:i < N.flatten.length) (s:ByteArray) (hs:s.size ≤ 524288) (hl:N.flatten.length ≤ 1000) (hI:QM.Inv E B N) (w:World) (hw:Lay w) (h:LS w b0 g r c rest nv E B (nds B N)):Calls Tryz.prog 38 #[ptr g,.int .i64 (i:Int),.string s] w fun e w'=>e=.returned (.int .i64 0)∧Chg w w' b0 g r c rest nv E B (QM.ins E B N i s):=by
  have HL:Hid _:=h
  have HHA:Hid (Calls Tryz.prog 79 #[ptr g,.int .i64 (i:Int)] w fun e w'=>e=.returned (.bool true)∧w'=w):=by
    have:=has_any (i:Int) w h
    have e1:hasQ (cntN (nds B N)) (i:Int)=true:=by unfold hasQ; rw [cnt_nds]; exact decide_eq_true ⟨by omega,by omega⟩
    rw [e1] at this; exact this
  have HMJ:Hid (Calls Tryz.prog 67 #[ptr g,.string s] w fun e w'=>e=.returned (.int .i64 0)∧w'=w):=by
    have:=mayJoin_any s (by omega) w h
    have e:mayQ (cntN (nds B N)) s=0:=by unfold mayQ; rw [cnt_nds,if_neg (by omega),if_neg (by omega)]
    rw [e] at this; exact this
  have HFD:Hid _:=findN_any i hi hl hI w h
  have HIN:Hid (∀ W,Below w.heap.size w W → _):=fun W hW=>insN_any i hi s hs hl hI W (hw.on hW) (h.on hW)
  obtain ⟨l0,l1,l2,l3,lf⟩:=lrow4 h.hd
  rw [cnt_nds] at l2
  obtain ⟨F,hF⟩:∃ F,N.flatten.length=F:=⟨_,rfl⟩
  rw [hF] at l2 hi hl
  have hne:¬ ((i:Int)=(F:Int)):=by omega
  generalize QM.ins E B N i s=R at *
  generalize (QM.plc N i).1=t at *
  generalize (QM.plc N i).2=q at *
  clear h hw hF
  go_enter Tryz.func38,Tryz.ntmps38
  go_wp2_with fail
  refine (show Calls _ _ _ _ _ from HHA.out).mono ?_
  rintro e w1 ⟨rfl,rfl⟩
  go_wp2_with fail
  refine (show Calls _ _ _ _ _ from HMJ.out).mono ?_
  rintro e w2 ⟨rfl,rfl⟩
  go_wp2_with fail
  refine (show Calls _ _ _ _ _ from HFD.out).mono ?_
  rintro e w3 ⟨rfl,hb3⟩
  have HB3:Hid _:=hb3
  clear hb3
  go_wp2_with fail
  refine (show Calls _ _ _ _ _ from HIN.out _ HB3.out).mono ?_
  rintro e w4 ⟨rfl,hc⟩
  have HC:Hid _:=hc.back HB3.out
  clear hc
  go_wp2
  go_returns
  exact ⟨rfl,HC.out⟩
end
end Go.Proofs.YtjnbjfjoejfmpaaGreatDoor
namespace Go.Proofs.YtjnbjfjoejfmpaaGreatDoor
open Go.RowKit
set_option linter.unusedVariables false
set_option linter.unusedSimpArgs false
theorem rep_del (A:QM.NL) (x:List ByteArray) (C:QM.NL) (m:Nat) (vs:QM.NL):QM.rep (A ++ x :: C) A.length (m + 1) vs=A ++ (QM.nes vs ++ C.drop m):=by
  unfold QM.rep; rw [List.take_left' rfl,← List.drop_drop,List.drop_left' rfl]; rfl
section
variable {b0 g r c:Nat} {rest:List Value} {nv:Value} {E B:Nat} {N:QM.NL}
theorem Chg.trans {w w1 w2:World} {N1 N2:QM.NL} {nv1:Value} (h1:LS w1 b0 g r c rest nv1 E B (nds B N1)) (hf:Fr w w1 (fun k=>k=g ∨ k=r ∨ nv.ownBlock=some k)) (ho:∀ Y,nv1.ownBlock=some Y → nv.ownBlock=some Y ∨ w.heap.size ≤ Y) (h2:Chg w1 w2 b0 g r c rest nv1 E B N2):Chg w w2 b0 g r c rest nv E B N2:=by
  obtain ⟨nv2,q1,q2,q3⟩:=h2
  refine ⟨nv2,q1,⟨q2.os.trans hf.os,q2.tape.trans hf.tape,q2.output.trans hf.output,Nat.le_trans hf.size q2.size,fun k hk hn=>?_⟩,fun Y hY=>?_⟩
  · refine (q2.block k (Nat.lt_of_lt_of_le hk hf.size) ?_).trans (hf.block k hk hn)
    rintro (e | e | e)
    · exact hn (Or.inl e)
    · exact hn (Or.inr (Or.inl e))
    · rcases ho k e with h | h
      · exact hn (Or.inr (Or.inr h))
      · omega
  · rcases q3 Y hY with h | h
    · exact ho Y h
    · right; have:=hf.size; omega
theorem Chg.bel {w00 w w':World} {N':QM.NL} (hL:LS w b0 g r c rest nv E B (nds B N)) (hc:Chg w w' b0 g r c rest nv E B N') (hb:Below w00.heap.size w00 w) (h0:w00.heap.size ≤ b0):Below w00.heap.size w00 w':=by
  obtain ⟨nv',q1,q2,q3⟩:=hc
  refine ⟨q2.os.trans hb.os,q2.tape.trans hb.tape,q2.output.trans hb.output,Nat.le_trans hb.size q2.size,fun k hk=>?_⟩
  refine (q2.block k (Nat.lt_of_lt_of_le hk hb.size) ?_).trans (hb.block k hk)
  rintro (e | e | e)
  · have:=hL.hg; omega
  · have:=hL.hr; omega
  · rcases hL.nd with ⟨e1,_⟩ | ⟨E2,c2,e1,e2,hN⟩
    · rw [e1] at e; simp [Value.ownBlock] at e
    · have:E2=k:=by rw [e1] at e; simpa [Value.ownBlock] using e
      omega
theorem del_one {N1:QM.NL} (hI:QM.Inv E B N1) (i lf:Nat) (hlf:1 ≤ lf) (hi:i + lf ≤ N1.flatten.length) (t k:Nat) (X:List ByteArray) (ht:t < N1.length) (hX:N1[t]=X) (hk:k < X.length) (he:(N1.take t).flatten.length + k=i) (cut m taken:Nat) (hcut:cut=min lf (X.length - k)) (hm:m=QM.whl (N1.drop (t + 1)) (lf - cut)) (htk:taken=cut + ((N1.drop (t + 1)).take m).flatten.length) :
    1 ≤ taken∧taken ≤ lf∧QM.Inv E B (QM.rep N1 t (m + 1) [X.take k ++ X.drop (k + cut)])∧(QM.rep N1 t (m + 1) [X.take k ++ X.drop (k + cut)]).flatten.length + taken=N1.flatten.length∧QM.delE N1 i (i + lf)=QM.delE (QM.rep N1 t (m + 1) [X.take k ++ X.drop (k + cut)]) i (i + (lf - taken)):=by
  obtain ⟨A,hA⟩:∃ A,N1.take t=A:=⟨_,rfl⟩
  obtain ⟨C,hC⟩:∃ C,N1.drop (t + 1)=C:=⟨_,rfl⟩
  have hN:N1=A ++ X :: C:=by rw [← hA,← hC,← hX,← List.drop_eq_getElem_cons ht,List.take_append_drop]
  have hAl:A.length=t:=by rw [← hA,List.length_take]; omega
  rw [hC] at hm htk
  rw [hA] at he
  have hXm:X ∈ N1:=by rw [← hX]; exact List.getElem_mem _
  have hrep:QM.rep N1 t (m + 1) [X.take k ++ X.drop (k + cut)]=A ++ (QM.ne (X.take k ++ X.drop (k + cut)) ++ C.drop m):=by
    rw [hN,← hAl,rep_del,QM.nes_cons,QM.nes_nil,List.append_nil]
  have hd:=QM.del_step A X C k lf (fun y hy=>hI.some y (by rw [hN]; simp [hy])) (fun y hy=>hI.some y (by rw [hN]; simp [hy])) hk hlf cut m hcut hm taken htk
  rw [← hN,he,← hrep] at hd
  refine ⟨hd.1,hd.2.1,hI.rep t (m + 1) _ (fun x hx=>?_),?_,hd.2.2⟩
  · rw [List.mem_singleton] at hx; subst hx
    exact QM.part hI hXm (by simp; omega) (fun u hu=>by
      rcases List.mem_append.1 hu with h | h
      · exact List.mem_of_mem_take h
      · exact List.mem_of_mem_drop h)
  · have hcs:C.flatten.length=(C.take m).flatten.length + (C.drop m).flatten.length:=by rw [← List.length_append,← List.flatten_append,List.take_append_drop]
    rw [hrep,hN]
    simp only [List.flatten_append,List.flatten_cons,List.length_append,QM.ne_flat,List.length_take,List.length_drop]
    omega
set_option maxHeartbeats 4000000 in
set_option maxRecDepth 100000 in
theorem Delete_yes (i:Nat) (hi:i < N.flatten.length) (n:Nat) (hn:1 ≤ n) (hnb:n ≤ 9223372036854775807) (hl:N.flatten.length ≤ 1000) (hI:QM.Inv E B N) (w00 w:World) (hw:Lay w00) (hbb:Below w00.heap.size w00 w) (hbz:w00.heap.size ≤ b0) (h:LS w b0 g r c rest nv E B (nds B N)):Calls Tryz.prog 42 #[ptr g,.int .i64 (i:Int),.int .i64 (n:Int)] w fun e w'=>e=.returned (.int .i64 ((min n (N.flatten.length - i):Nat):Int))∧Chg w w' b0 g r c rest nv E B (QM.delE N i (i + min n (N.flatten.length - i))):=by
  have HL:Hid _:=h
  have HW:Hid _:=hw
  have HI:Hid _:=hI
  obtain ⟨F,hF⟩:∃ F,N.flatten.length=F:=⟨_,rfl⟩
  have HFF:Hid _:=hF
  rw [hF] at hi hl ⊢
  obtain ⟨n0,hn0⟩:∃ n0,min n (F - i)=n0:=⟨_,rfl⟩
  rw [hn0]
  have HHA:Hid (Calls Tryz.prog 79 #[ptr g,.int .i64 (i:Int)] w fun e w'=>e=.returned (.bool true)∧w'=w):=by
    have:=has_any (i:Int) w h
    have e1:hasQ (cntN (nds B N)) (i:Int)=true:=by unfold hasQ; rw [cnt_nds]; exact decide_eq_true ⟨by omega,by omega⟩
    rw [e1] at this; exact this
  have hmin:min (n:Int) ((F:Int) - (i:Int))=(n0:Int):=by omega
  have hwf:IntKind.i64.wrap ((F:Int) - (i:Int))=(F:Int) - (i:Int):=by rw [IntKind.wrap_i64] <;> omega
  have hn1:¬ ((n:Int) < 1):=by omega
  obtain ⟨l0,l1,l2,l3,lf⟩:=lrow4 h.hd
  rw [cnt_nds,hF] at l2
  clear h hw hF
  go_enter Tryz.func42,Tryz.ntmps42
  go_wp2_with fail
  refine (show Calls _ _ _ _ _ from HHA.out).mono ?_
  rintro e w1 ⟨rfl,rfl⟩
  have HST:Hid (LS w1 b0 g r c rest nv E B (nds B N)∧Below w00.heap.size w00 w1):=⟨HL.out,hbb⟩
  have hi0:i + n0 ≤ F:=by omega
  go_wp2
  go_loopw [7] (fun cl wr=>∃ (lf:Nat) (N1:QM.NL) (nv1:Value),cl=.int .i64 (lf:Int)∧LS wr b0 g r c rest nv1 E B (nds B N1)∧QM.Inv E B N1∧N1.flatten.length ≤ 1000∧Fr w1 wr (fun k=>k=g ∨ k=r ∨ nv.ownBlock=some k)∧(∀ Y,nv1.ownBlock=some Y → nv.ownBlock=some Y ∨ w1.heap.size ≤ Y)∧Below w00.heap.size w00 wr∧QM.delE N1 i (i + lf)=QM.delE N i (i + n0)∧i + lf ≤ N1.flatten.length) (fun cl _=>(intOf cl).toNat)
  case atStart=>exact ⟨n0,N,nv,rfl,HST.out.1,HI.out,by rw [HFF.out]; exact hl,Fr.of_below (Below.refl _ _),fun Y hY=>Or.inl hY,HST.out.2,rfl,by rw [HFF.out]; exact hi0⟩
  case round =>
    obtain ⟨lf,N1,nv1,rfl,hL1,hI1,hl1,hF1,hO1,hB1,hD1,hi1⟩:=hrel
    have HL1:Hid _:=hL1
    have HI1:Hid _:=hI1
    have HF1:Hid _:=hF1
    have HO1:Hid _:=hO1
    have HB1:Hid _:=hB1
    have HD1:Hid _:=hD1
    by_cases hz:0 < lf
    · have hz1:(0:Int) < (lf:Int):=by omega
      obtain ⟨ht,hq,he⟩:=QM.plc_lt N1 i (by omega)
      have HFD:Hid _:=findN_any i (by omega) hl1 hI1 wr hL1
      have HDR:Hid (∀ W,Below wr.heap.size wr W → _):=fun W hW=>delRow_any (QM.plc N1 i).1 (QM.plc N1 i).2 N1[(QM.plc N1 i).1] ht rfl hq lf (by omega) (by omega) hl1 hI1 W (HW.out.on (bel_to HB1.out hW (Nat.le_refl _))) (hL1.on hW)
      have HDO:Hid _:=fun cut m taken=>del_one hI1 i lf (by omega) hi1 (QM.plc N1 i).1 (QM.plc N1 i).2 N1[(QM.plc N1 i).1] ht rfl hq he cut m taken
      generalize N1[(QM.plc N1 i).1]=X at *
      generalize (QM.plc N1 i).1=t at *
      generalize (QM.plc N1 i).2=q at *
      clear hL1 hI1 hF1 hO1 hB1 hD1 he hq ht HHA
      go_wp2_with fail
      refine (show Calls _ _ _ _ _ from HFD.out).mono ?_
      rintro e w2 ⟨rfl,hb2⟩
      have HB2:Hid _:=hb2
      clear hb2
      go_wp2_with fail
      refine (show Calls _ _ _ _ _ from HDR.out _ HB2.out).mono ?_
      rintro e w3 ⟨cut,m,taken,hc,hm,htk,rfl,hch⟩
      obtain ⟨d1,d2,d3,d4,d5⟩:=HDO.out cut m taken hc hm htk
      have hchw:=hch.back HB2.out
      have HBW:Hid _:=hchw.bel HL1.out HB1.out hbz
      obtain ⟨nv2,g1,g2,g3⟩:=Chg.trans (nv:=nv) HL1.out HF1.out HO1.out hchw
      have HRES:Hid _:=And.intro g1 (And.intro d3 (And.intro d4 (And.intro g2 (And.intro g3 d5))))
      have hwl:IntKind.i64.wrap ((lf:Int) - (taken:Int))=((lf - taken:Nat):Int):=by rw [IntKind.wrap_i64] <;> omega
      clear hc hm htk hch hchw g1 g2 g3 d3 d4 d5
      go_wp2
      obtain ⟨q1,q2,q3,q4,q5,q6⟩:=HRES.out
      refine ⟨⟨lf - taken,_,nv2,by congr 1,q1,q2,by omega,q4,q5,HBW.out,?_,by omega⟩,by simp [intOf]; omega⟩
      rw [← q6]; exact HD1.out
    · have hz1:¬ ((0:Int) < (lf:Int)):=by omega
      have hz0:lf=0:=by omega
      have HZ:Hid _:=hz0
      clear hL1 hI1 hF1 hO1 hB1 hD1 hz0
      go_wp2
      go_returns
      refine ⟨rfl,nv1,?_,HF1.out,HO1.out⟩
      have:=HD1.out
      rw [HZ.out,Nat.add_zero,QM.delE_zero N1 i HI1.out.some] at this
      rw [← this]; exact HL1.out
set_option maxHeartbeats 1000000 in
theorem Delete_nil (i n:Int) (hi:¬ (0 ≤ i∧i < (N.flatten.length:Int)) ∨ n < 1) (w:World) (h:LS w b0 g r c rest nv E B (nds B N)):Calls Tryz.prog 42 #[ptr g,.int .i64 i,.int .i64 n] w fun e w'=>e=.returned (.int .i64 0)∧w'=w:=by
  obtain ⟨bb,hbb⟩:∃ bb,hasQ (cntN (nds B N)) i=bb:=⟨_,rfl⟩
  have HHA:Hid (Calls Tryz.prog 79 #[ptr g,.int .i64 i] w fun e w'=>e=.returned (.bool bb)∧w'=w):=by
    have:=has_any i w h
    rw [hbb] at this; exact this
  cases bb with
  | false =>
    clear hi hbb h
    go_enter Tryz.func42,Tryz.ntmps42
    go_wp2_with fail
    refine (show Calls _ _ _ _ _ from HHA.out).mono ?_
    rintro e w1 ⟨rfl,rfl⟩
    go_wp2
    go_returns
    exact ⟨rfl,rfl⟩
  | true =>
    have hn:n < 1:=by
      rcases hi with h1 | h1
      · unfold hasQ at hbb; rw [cnt_nds] at hbb; exact absurd (of_decide_eq_true hbb) h1
      · exact h1
    clear hi hbb h
    go_enter Tryz.func42,Tryz.ntmps42
    go_wp2_with fail
    refine (show Calls _ _ _ _ _ from HHA.out).mono ?_
    rintro e w1 ⟨rfl,rfl⟩
    go_wp2
    go_returns
    exact ⟨rfl,rfl⟩
set_option maxHeartbeats 2000000 in
set_option maxRecDepth 100000 in
theorem Pop_yes (f:Bool) (i:Nat) (hi:i < N.flatten.length) (hfi:i=if f then 0 else N.flatten.length - 1) (hl:N.flatten.length ≤ 1000) (hI:QM.Inv E B N) (w00 w:World) (hw:Lay w00) (hbb:Below w00.heap.size w00 w) (hbz:w00.heap.size ≤ b0) (h:LS w b0 g r c rest nv E B (nds B N)):Calls Tryz.prog 36 #[ptr g,.bool f] w fun e w'=>e=.returned (.tuple #[.string N.flatten[i],.bool true])∧Chg w w' b0 g r c rest nv E B (QM.delE N i (i + 1)):=by
  have HAT:Hid _:=At_yes i hi hl hI w (hw.on hbb) h
  have HDE:Hid (∀ W,Below w.heap.size w W → Calls Tryz.prog 42 #[ptr g,.int .i64 (i:Int),.int .i64 1] W fun e w'=>e=.returned (.int .i64 1)∧Chg W w' b0 g r c rest nv E B (QM.delE N i (i + 1))):=fun W hW=>by
    have:=Delete_yes i hi 1 (by omega) (by omega) hl hI w00 W hw (bel_to hbb hW (Nat.le_refl _)) hbz (h.on hW)
    rw [show min 1 (N.flatten.length - i)=1 by omega] at this
    exact this
  obtain ⟨l0,l1,l2,l3,lf⟩:=lrow4 h.hd
  rw [cnt_nds] at l2
  generalize N.flatten[i]=T at *
  obtain ⟨F,hF⟩:∃ F,N.flatten.length=F:=⟨_,rfl⟩
  rw [hF] at l2 hfi hi hl
  clear hF h
  cases f with
  | true =>
    simp at hfi
    subst hfi
    simp only [Int.natCast_zero,Int.ofNat_zero] at HAT HDE
    go_enter Tryz.func36,Tryz.ntmps36
    go_wp2_with fail
    refine (show Calls _ _ _ _ _ from HAT.out).mono ?_
    rintro e w1 ⟨rfl,hb1⟩
    have HB1:Hid _:=hb1
    clear hb1
    go_wp2_with fail
    refine (show Calls _ _ _ _ _ from HDE.out _ HB1.out).mono ?_
    rintro e w2 ⟨rfl,hc⟩
    have HC:Hid _:=hc.back HB1.out
    clear hc
    go_wp2
    go_returns
    exact ⟨rfl,HC.out⟩
  | false =>
    simp at hfi
    have hwf:IntKind.i64.wrap ((F:Int) - 1)=(i:Int):=by rw [IntKind.wrap_i64] <;> omega
    clear hfi
    go_enter Tryz.func36,Tryz.ntmps36
    go_wp2_with fail
    refine (show Calls _ _ _ _ _ from HAT.out).mono ?_
    rintro e w1 ⟨rfl,hb1⟩
    have HB1:Hid _:=hb1
    clear hb1
    go_wp2_with fail
    refine (show Calls _ _ _ _ _ from HDE.out _ HB1.out).mono ?_
    rintro e w2 ⟨rfl,hc⟩
    have HC:Hid _:=hc.back HB1.out
    clear hc
    go_wp2
    go_returns
    exact ⟨rfl,HC.out⟩
end
end Go.Proofs.YtjnbjfjoejfmpaaGreatDoor
namespace Go.Proofs.YtjnbjfjoejfmpaaGreatDoor
open Go.RowKit
set_option linter.unusedVariables false
set_option linter.unusedSimpArgs false
section
variable {b0 g r c:Nat} {rest:List Value} {nv:Value} {E B:Nat} {N:QM.NL}
theorem end_any (f:Bool) (t:Nat) (htf:t=if f then 0 else N.length - 1) (ht:t < N.length) (hl:N.flatten.length ≤ 1000) (hI:QM.Inv E B N) (w:World) (h:LS w b0 g r c rest nv E B (nds B N)):Calls Tryz.prog 68 #[ptr g,.bool f] w fun e w'=>e=.returned (.tuple #[plV t (if f then 0 else N[t].length),.bool true])∧Below w.heap.size w w':=by
  have hln:N.length ≤ 1000:=Nat.le_trans (QM.len_le hI.some) hl
  have hpos:0 < N.flatten.length:=by have:=QM.len_le hI.some; omega
  cases f with
  | true =>
    simp at htf; subst htf
    exact end_front (by rw [cnt_nds]; exact hpos) (by simp [nds]; omega) w h
  | false =>
    simp at htf
    exact end_back hpos hl hI t (by omega) w h
theorem Push_any (f:Bool) (s:ByteArray) (hs:s.size ≤ 524288) (hl:N.flatten.length ≤ 1000) (hI:QM.Inv E B N) (w:World) (hw:Lay w) (h:LS w b0 g r c rest nv E B (nds B N)):Calls Tryz.prog 31 #[ptr g,.string s,.bool f] w fun e w'=>e=.returned (.int .i64 0)∧Chg w w' b0 g r c rest nv E B (QM.push E B N s f):=by
  have hln:N.length ≤ 1000:=Nat.le_trans (QM.len_le hI.some) hl
  by_cases h0:N.length=0
  · have hN:N=[]:=List.length_eq_zero_iff.1 h0
    subst hN
    have e:QM.push E B [] s f=QM.rep [] (if f then 0 else ([]:QM.NL).length) 0 [[s]]:=by cases f <;> rfl
    rw [e]
    exact Push_none f s hs hl hI 0 0 w hw h (fun W hW=>end_none f (by rw [cnt_nds]; rfl) (by simp [nds]) W hW)
  · obtain ⟨t,htf⟩:∃ t,t=if f then 0 else N.length - 1:=⟨_,rfl⟩
    have ht:t < N.length:=by rw [htf]; split <;> omega
    have hEN:∀ W,LS W b0 g r c rest nv E B (nds B N) → _:=fun W hW=>end_any f t htf ht hl hI W hW
    cases hb:QM.big B s with
    | true =>
      have e:QM.push E B N s f=QM.rep N (if f then 0 else N.length) 0 [[s]]:=by
        rcases QM.push_rep E B N s f with e | ⟨n,hn,hb',_⟩
        · exact e
        · rw [hb] at hb'; cases hb'
      rw [e]
      exact Push_big f s hs hl hI _ _ hb w hw h hEN
    | false =>
      cases hr:QM.room E B N[t] with
      | true =>
        have e:QM.push E B N s f=QM.rep N t 1 [N[t].take (if f then 0 else N[t].length) ++ s :: N[t].drop (if f then 0 else N[t].length)]:=by
          unfold QM.push
          cases f with
          | true =>
            simp at htf; subst htf
            cases N with
            | nil=>simp at ht
            | cons x M =>
              have e5:(if true=true then QM.pushF E B (x :: M) s else QM.pushB E B (x :: M) s)=(if QM.big B s=false∧QM.room E B x=true then (s :: x) :: M else [s] :: x :: M):=rfl
              rw [e5,if_pos ⟨hb,by simpa using hr⟩]
              simp [QM.rep,QM.nes]
          | false =>
            simp at htf; subst htf
            rw [if_neg (by simp)]
            unfold QM.pushB
            rw [List.getLast?_eq_getElem?,List.getElem?_eq_getElem ht]
            simp only
            rw [if_pos ⟨hb,hr⟩]
            simp
        rw [e]
        exact Push_one f s hs hl hI t _ N[t] ht rfl w hw h hEN hb hr (by split <;> omega)
      | false =>
        have e:QM.push E B N s f=QM.rep N (if f then 0 else N.length) 0 [[s]]:=by
          rcases QM.push_rep E B N s f with e | ⟨n,hn,hb',hr',hnf,_⟩
          · exact e
          · have:n=t:=by rw [hnf,htf]
            subst this; rw [hr] at hr'; cases hr'
        rw [e]
        exact Push_full f s hs hl hI t _ N[t] ht rfl hb hr w hw h hEN
set_option maxHeartbeats 1000000 in
theorem Push_no (f:Bool) (s:ByteArray) (hs:524288 < s.size) (hs2:s.size ≤ 281474976710656) (w:World) (h:LS w b0 g r c rest nv E B (nds B N)):Calls Tryz.prog 31 #[ptr g,.string s,.bool f] w fun e w'=>e=.returned (.int .i64 2)∧w'=w:=by
  have HMJ:Hid (Calls Tryz.prog 67 #[ptr g,.string s] w fun e w'=>e=.returned (.int .i64 2)∧w'=w):=by
    have:=mayJoin_any s hs2 w h
    have e:mayQ (cntN (nds B N)) s=2:=by unfold mayQ; rw [if_pos hs]
    rw [e] at this; exact this
  clear h
  go_enter Tryz.func31,Tryz.ntmps31
  go_wp2_with fail
  refine (show Calls _ _ _ _ _ from HMJ.out).mono ?_
  rintro e w1 ⟨rfl,rfl⟩
  go_wp2
  go_returns
  exact ⟨rfl,rfl⟩
set_option maxHeartbeats 1000000 in
theorem Set_no (i:Int) (hi:¬ (0 ≤ i∧i < (N.flatten.length:Int))) (s:ByteArray) (w:World) (h:LS w b0 g r c rest nv E B (nds B N)):Calls Tryz.prog 40 #[ptr g,.int .i64 i,.string s] w fun e w'=>e=.returned (.int .i64 1)∧w'=w:=by
  have HHA:Hid (Calls Tryz.prog 79 #[ptr g,.int .i64 i] w fun e w'=>e=.returned (.bool false)∧w'=w):=by
    have:=has_any i w h
    have e1:hasQ (cntN (nds B N)) i=false:=by unfold hasQ; rw [cnt_nds]; exact decide_eq_false hi
    rw [e1] at this; exact this
  clear h
  go_enter Tryz.func40,Tryz.ntmps40
  go_wp2_with fail
  refine (show Calls _ _ _ _ _ from HHA.out).mono ?_
  rintro e w1 ⟨rfl,rfl⟩
  go_wp2
  go_returns
  exact ⟨rfl,rfl⟩
set_option maxHeartbeats 1000000 in
theorem Set_long (i:Nat) (hi:i < N.flatten.length) (s:ByteArray) (hs:524288 < s.size) (hs2:s.size ≤ 281474976710656) (w:World) (h:LS w b0 g r c rest nv E B (nds B N)):Calls Tryz.prog 40 #[ptr g,.int .i64 (i:Int),.string s] w fun e w'=>e=.returned (.int .i64 2)∧w'=w:=by
  have HHA:Hid (Calls Tryz.prog 79 #[ptr g,.int .i64 (i:Int)] w fun e w'=>e=.returned (.bool true)∧w'=w):=by
    have:=has_any (i:Int) w h
    have e1:hasQ (cntN (nds B N)) (i:Int)=true:=by unfold hasQ; rw [cnt_nds]; exact decide_eq_true ⟨by omega,by omega⟩
    rw [e1] at this; exact this
  have hd:(524288:Int) < (s.size:Int):=by omega
  clear h hi hs
  go_enter Tryz.func40,Tryz.ntmps40
  go_wp2_with fail
  refine (show Calls _ _ _ _ _ from HHA.out).mono ?_
  rintro e w1 ⟨rfl,rfl⟩
  go_wp2
  go_returns
  exact ⟨rfl,rfl⟩
set_option maxHeartbeats 1000000 in
theorem Insert_no (i:Int) (hi:¬ (0 ≤ i∧i ≤ (N.flatten.length:Int))) (s:ByteArray) (w:World) (h:LS w b0 g r c rest nv E B (nds B N)):Calls Tryz.prog 38 #[ptr g,.int .i64 i,.string s] w fun e w'=>e=.returned (.int .i64 1)∧w'=w:=by
  have HHA:Hid (Calls Tryz.prog 79 #[ptr g,.int .i64 i] w fun e w'=>e=.returned (.bool false)∧w'=w):=by
    have:=has_any i w h
    have e1:hasQ (cntN (nds B N)) i=false:=by unfold hasQ; rw [cnt_nds]; exact decide_eq_false (fun q=>hi ⟨q.1,by omega⟩)
    rw [e1] at this; exact this
  obtain ⟨l0,l1,l2,l3,lf⟩:=lrow4 h.hd
  rw [cnt_nds] at l2
  obtain ⟨F,hF⟩:∃ F,N.flatten.length=F:=⟨_,rfl⟩
  rw [hF] at l2 hi
  have hne:¬ (i=(F:Int)):=by omega
  clear h hF hi
  go_enter Tryz.func38,Tryz.ntmps38
  go_wp2_with fail
  refine (show Calls _ _ _ _ _ from HHA.out).mono ?_
  rintro e w1 ⟨rfl,rfl⟩
  go_wp2
  go_returns
  exact ⟨rfl,rfl⟩
set_option maxHeartbeats 1000000 in
theorem Insert_long (i:Nat) (hi:i < N.flatten.length) (s:ByteArray) (hs:524288 < s.size) (hs2:s.size ≤ 281474976710656) (w:World) (h:LS w b0 g r c rest nv E B (nds B N)):Calls Tryz.prog 38 #[ptr g,.int .i64 (i:Int),.string s] w fun e w'=>e=.returned (.int .i64 2)∧w'=w:=by
  have HHA:Hid (Calls Tryz.prog 79 #[ptr g,.int .i64 (i:Int)] w fun e w'=>e=.returned (.bool true)∧w'=w):=by
    have:=has_any (i:Int) w h
    have e1:hasQ (cntN (nds B N)) (i:Int)=true:=by unfold hasQ; rw [cnt_nds]; exact decide_eq_true ⟨by omega,by omega⟩
    rw [e1] at this; exact this
  have HMJ:Hid (Calls Tryz.prog 67 #[ptr g,.string s] w fun e w'=>e=.returned (.int .i64 2)∧w'=w):=by
    have:=mayJoin_any s hs2 w h
    have e:mayQ (cntN (nds B N)) s=2:=by unfold mayQ; rw [if_pos hs]
    rw [e] at this; exact this
  obtain ⟨l0,l1,l2,l3,lf⟩:=lrow4 h.hd
  rw [cnt_nds] at l2
  obtain ⟨F,hF⟩:∃ F,N.flatten.length=F:=⟨_,rfl⟩
  rw [hF] at l2 hi
  have hne:¬ ((i:Int)=(F:Int)):=by omega
  clear h hF hi
  go_enter Tryz.func38,Tryz.ntmps38
  go_wp2_with fail
  refine (show Calls _ _ _ _ _ from HHA.out).mono ?_
  rintro e w1 ⟨rfl,rfl⟩
  go_wp2_with fail
  refine (show Calls _ _ _ _ _ from HMJ.out).mono ?_
  rintro e w2 ⟨rfl,rfl⟩
  go_wp2
  go_returns
  exact ⟨rfl,rfl⟩
set_option maxHeartbeats 1000000 in
theorem Insert_end {v:Value} {Z:World → Prop} (i:Int) (hi:i=(N.flatten.length:Int)) (s:ByteArray) (w:World) (h:LS w b0 g r c rest nv E B (nds B N)) (hP:Calls Tryz.prog 31 #[ptr g,.string s,.bool false] w fun e w'=>e=.returned v∧Z w'):Calls Tryz.prog 38 #[ptr g,.int .i64 i,.string s] w fun e w'=>e=.returned v∧Z w':=by
  have HP:Hid _:=hP
  obtain ⟨l0,l1,l2,l3,lf⟩:=lrow4 h.hd
  rw [cnt_nds,← hi] at l2
  clear h hi hP
  go_enter Tryz.func38,Tryz.ntmps38
  go_wp2_with fail
  refine (show Calls _ _ _ _ _ from HP.out).mono ?_
  rintro e w1 ⟨rfl,hz⟩
  have HZ:Hid _:=hz
  clear hz
  go_wp2
  go_returns
  exact ⟨rfl,HZ.out⟩
set_option maxHeartbeats 1000000 in
theorem Pop_no (f:Bool) (h0:N.flatten.length=0) (w:World) (h:LS w b0 g r c rest nv E B (nds B N)):Calls Tryz.prog 36 #[ptr g,.bool f] w fun e w'=>e=.returned (.tuple #[.string ⟨#[]⟩,.bool false])∧Below w.heap.size w w':=by
  have HL:Hid _:=h
  obtain ⟨l0,l1,l2,l3,lf⟩:=lrow4 h.hd
  rw [cnt_nds,h0] at l2
  have HAT:Hid (∀ i:Int,_):=fun i=>At_no i (by rw [h0]; omega) w h
  have HDE:Hid (∀ i W,Below w.heap.size w W → _):=fun i W hW=>Delete_nil i 1 (Or.inl (by rw [h0]; omega)) W (h.on hW)
  clear h h0
  cases f with
  | true =>
    go_enter Tryz.func36,Tryz.ntmps36
    go_wp2_with fail
    refine (show Calls _ _ _ _ _ from HAT.out _).mono ?_
    rintro e w1 ⟨rfl,hb1⟩
    have HB1:Hid _:=hb1
    clear hb1
    go_wp2_with fail
    refine (show Calls _ _ _ _ _ from HDE.out _ _ HB1.out).mono ?_
    rintro e w2 ⟨rfl,rfl⟩
    go_wp2
    go_returns
    exact ⟨rfl,HB1.out⟩
  | false =>
    go_enter Tryz.func36,Tryz.ntmps36
    go_wp2_with fail
    refine (show Calls _ _ _ _ _ from HAT.out _).mono ?_
    rintro e w1 ⟨rfl,hb1⟩
    have HB1:Hid _:=hb1
    clear hb1
    go_wp2_with fail
    refine (show Calls _ _ _ _ _ from HDE.out _ _ HB1.out).mono ?_
    rintro e w2 ⟨rfl,rfl⟩
    go_wp2
    go_returns
    exact ⟨rfl,HB1.out⟩
end
end Go.Proofs.YtjnbjfjoejfmpaaGreatDoor
