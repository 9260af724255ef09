import Derived.Test.YtjnbjfjoejfmpaaGreatDoorQSt
namespace Go.Proofs.YtjnbjfjoejfmpaaGreatDoor
open Go.RowKit
set_option linter.unusedVariables false
set_option linter.unusedSimpArgs false
section
variable {b0 g r c:Nat} {rest:List Value} {nv:Value} {E B:Nat} {N:QM.NL}
set_option maxHeartbeats 4000000 in
set_option maxRecDepth 100000 in
theorem insert_gap (t q:Nat) (X:List ByteArray) (ht:t < N.length) (hX:N[t]=X) (hq:q < X.length) (s:ByteArray) (hs:s.size ≤ 524288) (hb:QM.big B s=false) (hr:QM.room E B X=false) (hq0:q=0) (tb:Nat) (htb:tb + 1=t) (Xb:List ByteArray) (hXb:N[tb]'(by omega)=Xb) (hrb:QM.room E B Xb=false) (hl:N.flatten.length ≤ 1000) (hI:QM.Inv E B N) (w:World) (hw:Lay w) (h:LS w b0 g r c rest nv E B (nds B N)):Calls Tryz.prog 80 #[ptr g,plV t q,.string s] w fun e w'=>e=.returned (.tuple #[])∧Chg w w' b0 g r c rest nv E B (QM.rep N t 0 [[s]]):=by
  have HL:Hid _:=h
  have HW:Hid _:=hw
  have HI:Hid _:=hI
  have hln:N.length ≤ 1000:=Nat.le_trans (QM.len_le hI.some) hl
  have hXm:X ∈ N:=by rw [← hX]; exact List.getElem_mem _
  have hXl:=hI.few X hXm
  have hXE:=hI.le
  have hfit:Fit X:=fit_node hI hXm
  have HND:Hid (∀ W,LS W b0 g r c rest nv E B (nds B N) → Calls Tryz.prog 70 #[ptr g,plV t q] W fun e w'=>e=.returned (.agg #[.string (packN X),.int .i64 (X.length:Int),.bool (QM.lg B X)])∧Below W.heap.size W w'):=fun W hW=>by
    have:=nodeN_any t q ht hln W hW
    rw [hX] at this; exact this
  have HBS:Hid (∀ W,LS W b0 g r c rest nv E B (nds B N) → Calls Tryz.prog 91 #[ptr g,plV t q,.bool true] W fun e w'=>e=.returned (.tuple #[plV tb 0,.bool true])∧Below W.heap.size W w'):=fun W hW=>by
    have:=beside_back t q W hW (by simpa [nds] using ht) (by simp [nds]; omega)
    rw [if_pos (by omega),show t - 1=tb by omega] at this; exact this
  have HIL:Hid (∀ W,Calls Tryz.prog 57 #[.agg #[.int .i64 (E:Int),.int .i64 (B:Int)],.string s] W fun e w'=>e=.returned (.bool false)∧Below W.heap.size W w'):=fun W=>by
    have:=isLarge_any E B s (by omega) hI.lb W
    rw [hb] at this; exact this
  have HHR:Hid (∀ W,Calls Tryz.prog 69 #[.agg #[.int .i64 (E:Int),.int .i64 (B:Int)],.agg #[.string (packN X),.int .i64 (X.length:Int),.bool (QM.lg B X)]] W fun e w'=>e=.returned (.bool false)∧Below W.heap.size W w'):=fun W=>by
    have:=hasRoom_any E B X (packN X) hXE.2 (by omega) W
    rw [hr] at this; exact this
  have HAL:Hid (∀ W,Lay W → Calls Tryz.prog 72 #[.agg #[.int .i64 (E:Int),.int .i64 (B:Int)],.string s] W fun e w'=>e=.returned (.agg #[.string (packN [s]),.int .i64 1,.bool false])∧Below W.heap.size W w'):=fun W hW=>by
    have:=alone_any E B s hs HI.out.lb W hW
    have e1:encN (ndOf B [s])=.agg #[.string (packN [s]),.int .i64 1,.bool (QM.big B s)]:=rfl
    rw [e1,hb] at this; exact this
  have HRP:Hid (∀ a W,Below w.heap.size w a → W=a.alloc (.cells #[.string (packN [s]),.int .i64 1,.bool false] 57) → Calls Tryz.prog 26 #[ptr g,plV t q,.int .i64 0,.slice (some ⟨a.heap.size,0,none⟩) 1 1] W fun e w'=>e=.returned (.tuple #[])∧Chg a w' b0 g r c rest nv E B (QM.rep N t 0 [[s]])):=fun a W ha hW=>by
    subst hW
    have hLa:=HL.out.on ha
    have hba:Below a.heap.size a (a.alloc (.cells #[.string (packN [s]),.int .i64 1,.bool false] 57)):=(Below.refl _ _).alloc (Nat.le_refl _) _
    exact replN_any t q 0 a.heap.size [(packN [s],1,false)] [[s]] ⟨⟨rfl,rfl,fun _=>hb.symm⟩,trivial⟩ a _ hba (hLa.on hba) hLa (by omega) hln (by omega) (by simp) (by simp) (by simp) (nx_one a (packN [s],1,false)) (Nat.le_refl _) (fun e=>by simp [QM.nes])
  have hqb:((q:Int) == 0)=true:=by simp; omega
  have hqi:((q:Int)=0):=by omega
  have HQI:Hid _:=hqi
  clear hqi
  generalize packN [s]=PK at *
  have HNB:Hid (∀ W,LS W b0 g r c rest nv E B (nds B N) → Calls Tryz.prog 70 #[ptr g,plV tb 0] W fun e w'=>e=.returned (.agg #[.string (packN Xb),.int .i64 (Xb.length:Int),.bool (QM.lg B Xb)])∧Below W.heap.size W w'):=fun W hW=>by
    have:=nodeN_any tb 0 (by omega) hln W hW
    rw [hXb] at this; exact this
  have hXbm:Xb ∈ N:=by rw [← hXb]; exact List.getElem_mem _
  have hXbl:=HI.out.few Xb hXbm
  have HHB:Hid (∀ W,Calls Tryz.prog 69 #[.agg #[.int .i64 (E:Int),.int .i64 (B:Int)],.agg #[.string (packN Xb),.int .i64 (Xb.length:Int),.bool (QM.lg B Xb)]] W fun e w'=>e=.returned (.bool false)∧Below W.heap.size W w'):=fun W=>by
    have:=hasRoom_any E B Xb (packN Xb) hXE.2 (by omega) W
    rw [hrb] at this; exact this
  clear hb hr hfit hq0 hrb
  clear h hw hI
  go_enter Tryz.func80,Tryz.ntmps80
  go_wp2_with fail
  refine (show Calls _ _ _ _ _ from HND.out _ (HL.out.on ((Below.refl _ w).alloc (Nat.le_refl _) _))).mono ?_
  rintro e w1 ⟨rfl,hb1⟩
  have HB1:Hid (Below w.heap.size w w1):=bel_to ((Below.refl _ w).alloc (Nat.le_refl _) _) hb1 (Nat.le_refl _)
  have hp1:=keep_row (one_alloc w (.cells #[.int .i64 0,.int .i64 (t:Int),.int .i64 (q:Int)] 67)) hb1
  have HP1:Hid _:=hp1
  obtain ⟨P0,P1,P2,PF⟩:=rowA3 hp1
  clear hb1 hp1
  go_wp2_with fail
  refine (show Calls _ _ _ _ _ from HBS.out _ (HL.out.on (HB1.out.alloc HB1.out.size _))).mono ?_
  rintro e w2 ⟨rfl,hb2⟩
  have HB2:Hid (Below w.heap.size w w2):=bel_to (HB1.out.alloc HB1.out.size _) hb2 (Nat.le_refl _)
  have hp2:=keep_row (keep_row HP1.out ((Below.refl _ _).alloc (Nat.le_refl _) (.cells #[.string (packN X),.int .i64 (X.length:Int),.bool (QM.lg B X)] 57))) hb2
  have hn2:=keep_row (one_alloc w1 (.cells #[.string (packN X),.int .i64 (X.length:Int),.bool (QM.lg B X)] 57)) hb2
  have hby:Below w2.heap.size w2 (w2.alloc (.cells #[.int .i64 0,.int .i64 (tb:Int),.int .i64 0] 67)):=(Below.refl _ _).alloc (Nat.le_refl _) _
  have hwy:Below w.heap.size w (w2.alloc (.cells #[.int .i64 0,.int .i64 (tb:Int),.int .i64 0] 67)):=bel_to HB2.out hby (Nat.le_refl _)
  obtain ⟨l0,l1,l2,l3,lf⟩:=lrow4 (HL.out.on HB2.out).hd
  have L0:=cell_a1 l0
  have L1:=cell_a1 l1
  have HSZ:Hid (w.heap.size ≤ w1.heap.size):=HB1.out.size
  have HPY:Hid _:=keep_row hp2 hby
  have HNY:Hid _:=keep_row hn2 hby
  have HWY:Hid _:=hwy
  have HQY:Hid _:=one_alloc w2 (.cells #[.int .i64 0,.int .i64 (tb:Int),.int .i64 0] 67)
  have HSZ2:Hid (w.heap.size ≤ w2.heap.size):=HB2.out.size
  clear hb2 hp2 hn2 hby hwy P0 P1 P2 PF l0 l1 l2 l3 lf
  go_wp2_with fail
  refine (show Calls _ _ _ _ _ from HIL.out _).mono ?_
  rintro e w3 ⟨rfl,hb3⟩
  have hw3:Below w.heap.size w w3:=bel_to HWY.out hb3 (Nat.le_refl _)
  have HBY:Hid (∀ W,Below w3.heap.size w3 W → Below w.heap.size w W):=fun W hW=>bel_to hw3 hW (Nat.le_refl _)
  obtain ⟨p0,p1,p2,pf⟩:=row3 (keep_row HPY.out hb3)
  obtain ⟨n0,n1,n2,nf⟩:=row3 (keep_row HNY.out hb3)
  obtain ⟨q0,q1,q2,qf⟩:=row3 (keep_row HQY.out hb3)
  obtain ⟨l0,l1,l2,l3,lf⟩:=lrow4 (HL.out.on hw3).hd
  have hSA:=And.intro q0 (And.intro q1 (And.intro q2 (And.intro p0 (And.intro p1 (And.intro p2 (And.intro n0 (And.intro n1 (And.intro n2 (And.intro l0 l1)))))))))
  have HKS:Hid (∀ w':World,Below w3.heap.size w3 w' → w'.cell? ⟨w2.heap.size,0,none⟩=some (.int .i64 0)∧w'.cell? ⟨w2.heap.size,1,none⟩=some (.int .i64 (tb:Int))∧w'.cell? ⟨w2.heap.size,2,none⟩=some (.int .i64 0)∧w'.cell? ⟨w.heap.size,0,none⟩=some (.int .i64 0)∧w'.cell? ⟨w.heap.size,1,none⟩=some (.int .i64 (t:Int))∧w'.cell? ⟨w.heap.size,2,none⟩=some (.int .i64 (q:Int))∧w'.cell? ⟨w1.heap.size,0,none⟩=some (.string (packN X))∧w'.cell? ⟨w1.heap.size,1,none⟩=some (.int .i64 (X.length:Int))∧w'.cell? ⟨w1.heap.size,2,none⟩=some (.bool (QM.lg B X))∧w'.cell? ⟨g,0,none⟩=some (.int .i64 (E:Int))∧w'.cell? ⟨g,1,none⟩=some (.int .i64 (B:Int))):=fun W hW=>And.intro (cell_on q0 hW) (And.intro (cell_on q1 hW) (And.intro (cell_on q2 hW) (And.intro (cell_on p0 hW) (And.intro (cell_on p1 hW) (And.intro (cell_on p2 hW) (And.intro (cell_on n0 hW) (And.intro (cell_on n1 hW) (And.intro (cell_on n2 hW) (And.intro (cell_on l0 hW) (cell_on l1 hW))))))))))
  have HKC:Hid (∀ (a w':World) (N':QM.NL),Below w3.heap.size w3 a → Chg a w' b0 g r c rest nv E B N' → w'.cell? ⟨w2.heap.size,0,none⟩=some (.int .i64 0)∧w'.cell? ⟨w2.heap.size,1,none⟩=some (.int .i64 (tb:Int))∧w'.cell? ⟨w2.heap.size,2,none⟩=some (.int .i64 0)∧w'.cell? ⟨w.heap.size,0,none⟩=some (.int .i64 0)∧w'.cell? ⟨w.heap.size,1,none⟩=some (.int .i64 (t:Int))∧w'.cell? ⟨w.heap.size,2,none⟩=some (.int .i64 (q:Int))∧w'.cell? ⟨w1.heap.size,0,none⟩=some (.string (packN X))∧w'.cell? ⟨w1.heap.size,1,none⟩=some (.int .i64 (X.length:Int))∧w'.cell? ⟨w1.heap.size,2,none⟩=some (.bool (QM.lg B X))∧w'.cell? ⟨g,0,none⟩=some (.int .i64 (E:Int))∧w'.cell? ⟨g,1,none⟩=some (.int .i64 (B:Int))):=fun a W N' ha hc=>And.intro (hc.cell HL.out HSZ2.out (cell_on q0 ha)) (And.intro (hc.cell HL.out HSZ2.out (cell_on q1 ha)) (And.intro (hc.cell HL.out HSZ2.out (cell_on q2 ha)) (And.intro (hc.cell HL.out (Nat.le_refl _) (cell_on p0 ha)) (And.intro (hc.cell HL.out (Nat.le_refl _) (cell_on p1 ha)) (And.intro (hc.cell HL.out (Nat.le_refl _) (cell_on p2 ha)) (And.intro (hc.cell HL.out HSZ.out (cell_on n0 ha)) (And.intro (hc.cell HL.out HSZ.out (cell_on n1 ha)) (And.intro (hc.cell HL.out HSZ.out (cell_on n2 ha)) hc.bnd))))))))
  clear hw3 hb3 L0 L1
  go_wp2_with fail
  go_region_held3 (fun w':World=>w'.cell? ⟨w2.heap.size,0,none⟩=some (.int .i64 0)∧w'.cell? ⟨w2.heap.size,1,none⟩=some (.int .i64 (tb:Int))∧w'.cell? ⟨w2.heap.size,2,none⟩=some (.int .i64 0)∧w'.cell? ⟨w.heap.size,0,none⟩=some (.int .i64 0)∧w'.cell? ⟨w.heap.size,1,none⟩=some (.int .i64 (t:Int))∧w'.cell? ⟨w.heap.size,2,none⟩=some (.int .i64 (q:Int))∧w'.cell? ⟨w1.heap.size,0,none⟩=some (.string (packN X))∧w'.cell? ⟨w1.heap.size,1,none⟩=some (.int .i64 (X.length:Int))∧w'.cell? ⟨w1.heap.size,2,none⟩=some (.bool (QM.lg B X))∧w'.cell? ⟨g,0,none⟩=some (.int .i64 (E:Int))∧w'.cell? ⟨g,1,none⟩=some (.int .i64 (B:Int)))
    (first | exact hSA | exact HKS.out _ hx0 | exact HKS.out _ ((Below.refl _ w3).drew))
    (first | (go_at_call 69; refine (show Calls _ _ _ _ _ from HHR.out _).mono ?_; rintro e w4 ⟨rfl,hb4⟩; have hx0:=bel_to ((Below.refl _ w3).drew) hb4 (Nat.le_refl _)))
  have HX4:Hid (Below w3.heap.size w3 w4):=hx0
  have hSB:=HKS.out _ hx0
  clear hb4 hx0 hSA q0 q1 q2 qf p0 p1 p2 pf n0 n1 n2 nf l0 l1 l2 l3 lf
  go_wp2_with fail
  go_region_held3 (fun w':World=>w'.cell? ⟨w2.heap.size,0,none⟩=some (.int .i64 0)∧w'.cell? ⟨w2.heap.size,1,none⟩=some (.int .i64 (tb:Int))∧w'.cell? ⟨w2.heap.size,2,none⟩=some (.int .i64 0)∧w'.cell? ⟨w.heap.size,0,none⟩=some (.int .i64 0)∧w'.cell? ⟨w.heap.size,1,none⟩=some (.int .i64 (t:Int))∧w'.cell? ⟨w.heap.size,2,none⟩=some (.int .i64 (q:Int))∧w'.cell? ⟨w1.heap.size,0,none⟩=some (.string (packN X))∧w'.cell? ⟨w1.heap.size,1,none⟩=some (.int .i64 (X.length:Int))∧w'.cell? ⟨w1.heap.size,2,none⟩=some (.bool (QM.lg B X))∧w'.cell? ⟨g,0,none⟩=some (.int .i64 (E:Int))∧w'.cell? ⟨g,1,none⟩=some (.int .i64 (B:Int)))
    (first | exact hSB | exact HKS.out _ hy2 | exact HKS.out _ hy1 | exact HKS.out _ (HX4.out.drew))
    (first | (go_at_call 69; refine (show Calls _ _ _ _ _ from HHB.out _).mono ?_; rintro e y ⟨rfl,hd2⟩; have hy2:=bel_to hy1 hd2 (Nat.le_refl _)) | (go_at_call 70; refine (show Calls _ _ _ _ _ from HNB.out _ (HL.out.on (HBY.out _ HX4.out.drew))).mono ?_; rintro e y1 ⟨rfl,hd1⟩; have hy1:=bel_to HX4.out.drew hd1 (Nat.le_refl _)))
  have HX5:Hid (Below w3.heap.size w3 y):=hy2
  have hSC:=HKS.out _ HX5.out
  obtain ⟨z0,z1,z2,s0,s1,s2,s3,s4,s5,s6,s7⟩:=HKS.out _ HX5.out
  clear hy1 hy2 hd1 hd2 hSB
  go_wp2_with fail
  go_region_held3 (fun w':World=>w'.cell? ⟨w2.heap.size,0,none⟩=some (.int .i64 0)∧w'.cell? ⟨w2.heap.size,1,none⟩=some (.int .i64 (tb:Int))∧w'.cell? ⟨w2.heap.size,2,none⟩=some (.int .i64 0)∧w'.cell? ⟨w.heap.size,0,none⟩=some (.int .i64 0)∧w'.cell? ⟨w.heap.size,1,none⟩=some (.int .i64 (t:Int))∧w'.cell? ⟨w.heap.size,2,none⟩=some (.int .i64 (q:Int))∧w'.cell? ⟨w1.heap.size,0,none⟩=some (.string (packN X))∧w'.cell? ⟨w1.heap.size,1,none⟩=some (.int .i64 (X.length:Int))∧w'.cell? ⟨w1.heap.size,2,none⟩=some (.bool (QM.lg B X))∧w'.cell? ⟨g,0,none⟩=some (.int .i64 (E:Int))∧w'.cell? ⟨g,1,none⟩=some (.int .i64 (B:Int)))
    (first | exact hSC | exact HKS.out _ hx1 | exact HKC.out _ _ _ hx1 hc5 | exact HKS.out _ (hx1.alloc hx1.size _) | exact HKS.out _ (HX5.out.drew))
    (first | (go_at_call 26; refine (show Calls _ _ _ _ _ from HRP.out a1 _ (HBY.out _ hx1) rfl).mono ?_; rintro e a5 ⟨rfl,hc5⟩) | (go_at_call 72; refine (show Calls _ _ _ _ _ from HAL.out _ (HW.out.on (HBY.out _ HX5.out.drew))).mono ?_; rintro e a1 ⟨rfl,hb1⟩; have hx1:=bel_to HX5.out.drew hb1 (Nat.le_refl _)))
  have HC5:Hid _:=hc5.back (HBY.out _ hx1)
  clear hc5 hx1 hb1 hSC z0 z1 z2 s0 s1 s2 s3 s4 s5 s6 s7
  go_wp2
  go_returns
  exact ⟨rfl,HC5.out⟩
end
end Go.Proofs.YtjnbjfjoejfmpaaGreatDoor
namespace Go.Proofs.YtjnbjfjoejfmpaaGreatDoor
open Go.RowKit
set_option linter.unusedVariables false
set_option linter.unusedSimpArgs false
section
variable {b0 g r c:Nat} {rest:List Value} {nv:Value} {E B:Nat} {N:QM.NL}
set_option maxHeartbeats 4000000 in
set_option maxRecDepth 100000 in
theorem insert_before (t q:Nat) (X:List ByteArray) (ht:t < N.length) (hX:N[t]=X) (hq:q < X.length) (s:ByteArray) (hs:s.size ≤ 524288) (hb:QM.big B s=false) (hr:QM.room E B X=false) (hq0:q=0) (tb:Nat) (htb:tb + 1=t) (Xb:List ByteArray) (hXb:N[tb]'(by omega)=Xb) (hrb:QM.room E B Xb=true) (hl:N.flatten.length ≤ 1000) (hI:QM.Inv E B N) (w:World) (hw:Lay w) (h:LS w b0 g r c rest nv E B (nds B N)):Calls Tryz.prog 80 #[ptr g,plV t q,.string s] w fun e w'=>e=.returned (.tuple #[])∧Chg w w' b0 g r c rest nv E B (QM.rep N tb 1 [Xb ++ [s]]):=by
  have HL:Hid _:=h
  have HW:Hid _:=hw
  have HI:Hid _:=hI
  have hln:N.length ≤ 1000:=Nat.le_trans (QM.len_le hI.some) hl
  have hXm:X ∈ N:=by rw [← hX]; exact List.getElem_mem _
  have hXl:=hI.few X hXm
  have hXE:=hI.le
  have hfit:Fit X:=fit_node hI hXm
  have HND:Hid (∀ W,LS W b0 g r c rest nv E B (nds B N) → Calls Tryz.prog 70 #[ptr g,plV t q] W fun e w'=>e=.returned (.agg #[.string (packN X),.int .i64 (X.length:Int),.bool (QM.lg B X)])∧Below W.heap.size W w'):=fun W hW=>by
    have:=nodeN_any t q ht hln W hW
    rw [hX] at this; exact this
  have HBS:Hid (∀ W,LS W b0 g r c rest nv E B (nds B N) → Calls Tryz.prog 91 #[ptr g,plV t q,.bool true] W fun e w'=>e=.returned (.tuple #[plV tb 0,.bool true])∧Below W.heap.size W w'):=fun W hW=>by
    have:=beside_back t q W hW (by simpa [nds] using ht) (by simp [nds]; omega)
    rw [if_pos (by omega),show t - 1=tb by omega] at this; exact this
  have HIL:Hid (∀ W,Calls Tryz.prog 57 #[.agg #[.int .i64 (E:Int),.int .i64 (B:Int)],.string s] W fun e w'=>e=.returned (.bool false)∧Below W.heap.size W w'):=fun W=>by
    have:=isLarge_any E B s (by omega) hI.lb W
    rw [hb] at this; exact this
  have HHR:Hid (∀ W,Calls Tryz.prog 69 #[.agg #[.int .i64 (E:Int),.int .i64 (B:Int)],.agg #[.string (packN X),.int .i64 (X.length:Int),.bool (QM.lg B X)]] W fun e w'=>e=.returned (.bool false)∧Below W.heap.size W w'):=fun W=>by
    have:=hasRoom_any E B X (packN X) hXE.2 (by omega) W
    rw [hr] at this; exact this
  have hqb:((q:Int) == 0)=true:=by simp; omega
  have hqi:((q:Int)=0):=by omega
  have HQI:Hid _:=hqi
  clear hqi
  have HNB:Hid (∀ W,LS W b0 g r c rest nv E B (nds B N) → Calls Tryz.prog 70 #[ptr g,plV tb 0] W fun e w'=>e=.returned (.agg #[.string (packN Xb),.int .i64 (Xb.length:Int),.bool (QM.lg B Xb)])∧Below W.heap.size W w'):=fun W hW=>by
    have:=nodeN_any tb 0 (by omega) hln W hW
    rw [hXb] at this; exact this
  have hXbm:Xb ∈ N:=by rw [← hXb]; exact List.getElem_mem _
  have hXbl:=HI.out.few Xb hXbm
  have HHB:Hid (∀ W,Calls Tryz.prog 69 #[.agg #[.int .i64 (E:Int),.int .i64 (B:Int)],.agg #[.string (packN Xb),.int .i64 (Xb.length:Int),.bool (QM.lg B Xb)]] W fun e w'=>e=.returned (.bool true)∧Below W.heap.size W w'):=fun W=>by
    have:=hasRoom_any E B Xb (packN Xb) hXE.2 (by omega) W
    rw [hrb] at this; exact this
  have hlx:=(QM.room_iff.1 hrb).2
  have hfitb:Fit Xb:=fit_node HI.out hXbm
  have hsm:=QM.lg_not HI.out hXbm hlx
  have hsB:s.size ≤ B:=QM.big_iff.1 hb
  have hlB:=HI.out.lb
  have hsmall:∀ u ∈ Xb ++ [s],u.size ≤ B:=fun u hu=>by
    rcases List.mem_append.1 hu with h | h
    · exact hsm u h
    · simp at h; subst h; exact hsB
  have hfit2:Fit (Xb ++ [s]):=fit_many (by simp; omega) (fun u hu=>by have:=hsmall u hu; omega)
  have hlg:QM.lg B (Xb ++ [s])=QM.lg B Xb:=by
    rw [hlx]
    cases hh:Xb ++ [s] with
    | nil=>rfl
    | cons u us =>
      have:=hsmall u (by rw [hh]; simp)
      unfold QM.lg; simp; omega
  have HWI:Hid (∀ W,Lay W → Calls Tryz.prog 71 #[.agg #[.string (packN Xb),.int .i64 (Xb.length:Int),.bool (QM.lg B Xb)],.int .i64 (Xb.length:Int),.string s] W fun e w'=>e=.returned (.agg #[.string (packN (Xb ++ [s])),.int .i64 ((Xb.length + 1:Nat):Int),.bool (QM.lg B Xb)])∧Below W.heap.size W w'):=fun W hW=>by
    have e1:Xb.take Xb.length ++ s :: Xb.drop Xb.length=Xb ++ [s]:=by rw [List.take_length,List.drop_length]
    have:=with_any B Xb hfitb Xb.length (Nat.le_refl _) s hs (by rw [e1]; exact hfit2) (QM.lg B Xb) W hW
    rw [e1] at this; exact this
  have HRP:Hid (∀ a W,Below w.heap.size w a → W=a.alloc (.cells #[.string (packN (Xb ++ [s])),.int .i64 ((Xb.length + 1:Nat):Int),.bool (QM.lg B Xb)] 57) → Calls Tryz.prog 26 #[ptr g,plV tb 0,.int .i64 1,.slice (some ⟨a.heap.size,0,none⟩) 1 1] W fun e w'=>e=.returned (.tuple #[])∧Chg a w' b0 g r c rest nv E B (QM.rep N tb 1 [Xb ++ [s]])):=fun a W ha hW=>by
    subst hW
    have hLa:=HL.out.on ha
    have hba:Below a.heap.size a (a.alloc (.cells #[.string (packN (Xb ++ [s])),.int .i64 ((Xb.length + 1:Nat):Int),.bool (QM.lg B Xb)] 57)):=(Below.refl _ _).alloc (Nat.le_refl _) _
    exact replN_any tb 0 1 a.heap.size [(packN (Xb ++ [s]),Xb.length + 1,QM.lg B Xb)] [Xb ++ [s]] ⟨⟨rfl,by simp,fun _=>hlg.symm⟩,trivial⟩ a _ hba (hLa.on hba) hLa (by omega) hln (by omega) (by simp; omega) (by simp) (by simp) (nx_one a (packN (Xb ++ [s]),Xb.length + 1,QM.lg B Xb)) (Nat.le_refl _) (fun e=>by simp at e)
  generalize packN (Xb ++ [s])=PK at *
  generalize Xb.length + 1=LN1 at *
  clear hb hr hfit hq0 hrb hlx hfitb hsm hsB hsmall hfit2 hlg
  clear h hw hI
  go_enter Tryz.func80,Tryz.ntmps80
  go_wp2_with fail
  refine (show Calls _ _ _ _ _ from HND.out _ (HL.out.on ((Below.refl _ w).alloc (Nat.le_refl _) _))).mono ?_
  rintro e w1 ⟨rfl,hb1⟩
  have HB1:Hid (Below w.heap.size w w1):=bel_to ((Below.refl _ w).alloc (Nat.le_refl _) _) hb1 (Nat.le_refl _)
  have hp1:=keep_row (one_alloc w (.cells #[.int .i64 0,.int .i64 (t:Int),.int .i64 (q:Int)] 67)) hb1
  have HP1:Hid _:=hp1
  obtain ⟨P0,P1,P2,PF⟩:=rowA3 hp1
  clear hb1 hp1
  go_wp2_with fail
  refine (show Calls _ _ _ _ _ from HBS.out _ (HL.out.on (HB1.out.alloc HB1.out.size _))).mono ?_
  rintro e w2 ⟨rfl,hb2⟩
  have HB2:Hid (Below w.heap.size w w2):=bel_to (HB1.out.alloc HB1.out.size _) hb2 (Nat.le_refl _)
  have hp2:=keep_row (keep_row HP1.out ((Below.refl _ _).alloc (Nat.le_refl _) (.cells #[.string (packN X),.int .i64 (X.length:Int),.bool (QM.lg B X)] 57))) hb2
  have hn2:=keep_row (one_alloc w1 (.cells #[.string (packN X),.int .i64 (X.length:Int),.bool (QM.lg B X)] 57)) hb2
  have hby:Below w2.heap.size w2 (w2.alloc (.cells #[.int .i64 0,.int .i64 (tb:Int),.int .i64 0] 67)):=(Below.refl _ _).alloc (Nat.le_refl _) _
  have hwy:Below w.heap.size w (w2.alloc (.cells #[.int .i64 0,.int .i64 (tb:Int),.int .i64 0] 67)):=bel_to HB2.out hby (Nat.le_refl _)
  obtain ⟨l0,l1,l2,l3,lf⟩:=lrow4 (HL.out.on HB2.out).hd
  have L0:=cell_a1 l0
  have L1:=cell_a1 l1
  have HSZ:Hid (w.heap.size ≤ w1.heap.size):=HB1.out.size
  have HPY:Hid _:=keep_row hp2 hby
  have HNY:Hid _:=keep_row hn2 hby
  have HWY:Hid _:=hwy
  have HQY:Hid _:=one_alloc w2 (.cells #[.int .i64 0,.int .i64 (tb:Int),.int .i64 0] 67)
  have HSZ2:Hid (w.heap.size ≤ w2.heap.size):=HB2.out.size
  clear hb2 hp2 hn2 hby hwy P0 P1 P2 PF l0 l1 l2 l3 lf
  go_wp2_with fail
  refine (show Calls _ _ _ _ _ from HIL.out _).mono ?_
  rintro e w3 ⟨rfl,hb3⟩
  have hw3:Below w.heap.size w w3:=bel_to HWY.out hb3 (Nat.le_refl _)
  have HBY:Hid (∀ W,Below w3.heap.size w3 W → Below w.heap.size w W):=fun W hW=>bel_to hw3 hW (Nat.le_refl _)
  obtain ⟨p0,p1,p2,pf⟩:=row3 (keep_row HPY.out hb3)
  obtain ⟨n0,n1,n2,nf⟩:=row3 (keep_row HNY.out hb3)
  obtain ⟨q0,q1,q2,qf⟩:=row3 (keep_row HQY.out hb3)
  obtain ⟨l0,l1,l2,l3,lf⟩:=lrow4 (HL.out.on hw3).hd
  have hSA:=And.intro q0 (And.intro q1 (And.intro q2 (And.intro p0 (And.intro p1 (And.intro p2 (And.intro n0 (And.intro n1 (And.intro n2 (And.intro l0 l1)))))))))
  have HKS:Hid (∀ w':World,Below w3.heap.size w3 w' → w'.cell? ⟨w2.heap.size,0,none⟩=some (.int .i64 0)∧w'.cell? ⟨w2.heap.size,1,none⟩=some (.int .i64 (tb:Int))∧w'.cell? ⟨w2.heap.size,2,none⟩=some (.int .i64 0)∧w'.cell? ⟨w.heap.size,0,none⟩=some (.int .i64 0)∧w'.cell? ⟨w.heap.size,1,none⟩=some (.int .i64 (t:Int))∧w'.cell? ⟨w.heap.size,2,none⟩=some (.int .i64 (q:Int))∧w'.cell? ⟨w1.heap.size,0,none⟩=some (.string (packN X))∧w'.cell? ⟨w1.heap.size,1,none⟩=some (.int .i64 (X.length:Int))∧w'.cell? ⟨w1.heap.size,2,none⟩=some (.bool (QM.lg B X))∧w'.cell? ⟨g,0,none⟩=some (.int .i64 (E:Int))∧w'.cell? ⟨g,1,none⟩=some (.int .i64 (B:Int))):=fun W hW=>And.intro (cell_on q0 hW) (And.intro (cell_on q1 hW) (And.intro (cell_on q2 hW) (And.intro (cell_on p0 hW) (And.intro (cell_on p1 hW) (And.intro (cell_on p2 hW) (And.intro (cell_on n0 hW) (And.intro (cell_on n1 hW) (And.intro (cell_on n2 hW) (And.intro (cell_on l0 hW) (cell_on l1 hW))))))))))
  have HKC:Hid (∀ (a w':World) (N':QM.NL),Below w3.heap.size w3 a → Chg a w' b0 g r c rest nv E B N' → w'.cell? ⟨w2.heap.size,0,none⟩=some (.int .i64 0)∧w'.cell? ⟨w2.heap.size,1,none⟩=some (.int .i64 (tb:Int))∧w'.cell? ⟨w2.heap.size,2,none⟩=some (.int .i64 0)∧w'.cell? ⟨w.heap.size,0,none⟩=some (.int .i64 0)∧w'.cell? ⟨w.heap.size,1,none⟩=some (.int .i64 (t:Int))∧w'.cell? ⟨w.heap.size,2,none⟩=some (.int .i64 (q:Int))∧w'.cell? ⟨w1.heap.size,0,none⟩=some (.string (packN X))∧w'.cell? ⟨w1.heap.size,1,none⟩=some (.int .i64 (X.length:Int))∧w'.cell? ⟨w1.heap.size,2,none⟩=some (.bool (QM.lg B X))∧w'.cell? ⟨g,0,none⟩=some (.int .i64 (E:Int))∧w'.cell? ⟨g,1,none⟩=some (.int .i64 (B:Int))):=fun a W N' ha hc=>And.intro (hc.cell HL.out HSZ2.out (cell_on q0 ha)) (And.intro (hc.cell HL.out HSZ2.out (cell_on q1 ha)) (And.intro (hc.cell HL.out HSZ2.out (cell_on q2 ha)) (And.intro (hc.cell HL.out (Nat.le_refl _) (cell_on p0 ha)) (And.intro (hc.cell HL.out (Nat.le_refl _) (cell_on p1 ha)) (And.intro (hc.cell HL.out (Nat.le_refl _) (cell_on p2 ha)) (And.intro (hc.cell HL.out HSZ.out (cell_on n0 ha)) (And.intro (hc.cell HL.out HSZ.out (cell_on n1 ha)) (And.intro (hc.cell HL.out HSZ.out (cell_on n2 ha)) hc.bnd))))))))
  clear hw3 hb3 L0 L1
  go_wp2_with fail
  go_region_held3 (fun w':World=>w'.cell? ⟨w2.heap.size,0,none⟩=some (.int .i64 0)∧w'.cell? ⟨w2.heap.size,1,none⟩=some (.int .i64 (tb:Int))∧w'.cell? ⟨w2.heap.size,2,none⟩=some (.int .i64 0)∧w'.cell? ⟨w.heap.size,0,none⟩=some (.int .i64 0)∧w'.cell? ⟨w.heap.size,1,none⟩=some (.int .i64 (t:Int))∧w'.cell? ⟨w.heap.size,2,none⟩=some (.int .i64 (q:Int))∧w'.cell? ⟨w1.heap.size,0,none⟩=some (.string (packN X))∧w'.cell? ⟨w1.heap.size,1,none⟩=some (.int .i64 (X.length:Int))∧w'.cell? ⟨w1.heap.size,2,none⟩=some (.bool (QM.lg B X))∧w'.cell? ⟨g,0,none⟩=some (.int .i64 (E:Int))∧w'.cell? ⟨g,1,none⟩=some (.int .i64 (B:Int)))
    (first | exact hSA | exact HKS.out _ hx0 | exact HKS.out _ ((Below.refl _ w3).drew))
    (first | (go_at_call 69; refine (show Calls _ _ _ _ _ from HHR.out _).mono ?_; rintro e w4 ⟨rfl,hb4⟩; have hx0:=bel_to ((Below.refl _ w3).drew) hb4 (Nat.le_refl _)))
  have HX4:Hid (Below w3.heap.size w3 w4):=hx0
  have hSB:=HKS.out _ hx0
  clear hb4 hx0 hSA q0 q1 q2 qf p0 p1 p2 pf n0 n1 n2 nf l0 l1 l2 l3 lf
  go_wp2_with fail
  go_region_held3 (fun w':World=>w'.cell? ⟨w2.heap.size,0,none⟩=some (.int .i64 0)∧w'.cell? ⟨w2.heap.size,1,none⟩=some (.int .i64 (tb:Int))∧w'.cell? ⟨w2.heap.size,2,none⟩=some (.int .i64 0)∧w'.cell? ⟨w.heap.size,0,none⟩=some (.int .i64 0)∧w'.cell? ⟨w.heap.size,1,none⟩=some (.int .i64 (t:Int))∧w'.cell? ⟨w.heap.size,2,none⟩=some (.int .i64 (q:Int))∧w'.cell? ⟨w1.heap.size,0,none⟩=some (.string (packN X))∧w'.cell? ⟨w1.heap.size,1,none⟩=some (.int .i64 (X.length:Int))∧w'.cell? ⟨w1.heap.size,2,none⟩=some (.bool (QM.lg B X))∧w'.cell? ⟨g,0,none⟩=some (.int .i64 (E:Int))∧w'.cell? ⟨g,1,none⟩=some (.int .i64 (B:Int)))
    (first | exact hSB | exact HKS.out _ hy2 | exact HKS.out _ hy1 | exact HKS.out _ (HX4.out.drew))
    (first | (go_at_call 69; refine (show Calls _ _ _ _ _ from HHB.out _).mono ?_; rintro e y ⟨rfl,hd2⟩; have hy2:=bel_to hy1 hd2 (Nat.le_refl _)) | (go_at_call 70; refine (show Calls _ _ _ _ _ from HNB.out _ (HL.out.on (HBY.out _ HX4.out.drew))).mono ?_; rintro e y1 ⟨rfl,hd1⟩; have hy1:=bel_to HX4.out.drew hd1 (Nat.le_refl _)))
  have HX5:Hid (Below w3.heap.size w3 y):=hy2
  have hSC:=HKS.out _ HX5.out
  obtain ⟨z0,z1,z2,s0,s1,s2,s3,s4,s5,s6,s7⟩:=HKS.out _ HX5.out
  clear hy1 hy2 hd1 hd2 hSB
  go_wp2_with fail
  refine (show Calls _ _ _ _ _ from HNB.out _ (HL.out.on (HBY.out _ HX5.out))).mono ?_
  rintro e y3 ⟨rfl,hd3⟩
  have hy3:Below w3.heap.size w3 y3:=bel_to HX5.out hd3 (Nat.le_refl _)
  have hy4:Below w3.heap.size w3 (y3.alloc (.cells #[.string (packN Xb),.int .i64 (Xb.length:Int),.bool (QM.lg B Xb)] 57)):=hy3.alloc hy3.size _
  have hm4:=one_alloc y3 (.cells #[.string (packN Xb),.int .i64 (Xb.length:Int),.bool (QM.lg B Xb)] 57)
  have HSZ3:Hid (w.heap.size ≤ y3.heap.size):=(HBY.out _ hy3).size
  clear hd3 hSC z0 z1 z2 s0 s1 s2 s3 s4 s5 s6 s7
  go_wp2_with fail
  generalize y3.alloc (.cells #[.string (packN Xb),.int .i64 (Xb.length:Int),.bool (QM.lg B Xb)] 57)=y4 at *
  obtain ⟨z0,z1,z2,_⟩:=HKS.out _ hy4
  obtain ⟨m0,m1,m2,mf⟩:=row3 hm4
  have HB4:Hid (∀ W,Below y4.heap.size y4 W → Below w.heap.size w W):=fun W hW=>HBY.out _ (bel_to hy4 hW (Nat.le_refl _))
  have hSD:=And.intro z0 (And.intro z1 (And.intro z2 (And.intro m0 (And.intro m1 m2))))
  have HKT:Hid (∀ w':World,Below y4.heap.size y4 w' → w'.cell? ⟨w2.heap.size,0,none⟩=some (.int .i64 0)∧w'.cell? ⟨w2.heap.size,1,none⟩=some (.int .i64 (tb:Int))∧w'.cell? ⟨w2.heap.size,2,none⟩=some (.int .i64 0)∧w'.cell? ⟨y3.heap.size,0,none⟩=some (.string (packN Xb))∧w'.cell? ⟨y3.heap.size,1,none⟩=some (.int .i64 (Xb.length:Int))∧w'.cell? ⟨y3.heap.size,2,none⟩=some (.bool (QM.lg B Xb))):=fun W hW=>And.intro (cell_on z0 hW) (And.intro (cell_on z1 hW) (And.intro (cell_on z2 hW) (And.intro (cell_on m0 hW) (And.intro (cell_on m1 hW) (cell_on m2 hW)))))
  have HKU:Hid (∀ (a w':World) (N':QM.NL),Below y4.heap.size y4 a → Chg a w' b0 g r c rest nv E B N' → w'.cell? ⟨w2.heap.size,0,none⟩=some (.int .i64 0)∧w'.cell? ⟨w2.heap.size,1,none⟩=some (.int .i64 (tb:Int))∧w'.cell? ⟨w2.heap.size,2,none⟩=some (.int .i64 0)∧w'.cell? ⟨y3.heap.size,0,none⟩=some (.string (packN Xb))∧w'.cell? ⟨y3.heap.size,1,none⟩=some (.int .i64 (Xb.length:Int))∧w'.cell? ⟨y3.heap.size,2,none⟩=some (.bool (QM.lg B Xb))):=fun a W N' ha hc=>And.intro (hc.cell HL.out HSZ2.out (cell_on z0 ha)) (And.intro (hc.cell HL.out HSZ2.out (cell_on z1 ha)) (And.intro (hc.cell HL.out HSZ2.out (cell_on z2 ha)) (And.intro (hc.cell HL.out HSZ3.out (cell_on m0 ha)) (And.intro (hc.cell HL.out HSZ3.out (cell_on m1 ha)) (hc.cell HL.out HSZ3.out (cell_on m2 ha))))))
  clear hy3 hy4 hm4 z0 z1 z2 m0 m1 m2 mf
  go_region_held3 (fun w':World=>w'.cell? ⟨w2.heap.size,0,none⟩=some (.int .i64 0)∧w'.cell? ⟨w2.heap.size,1,none⟩=some (.int .i64 (tb:Int))∧w'.cell? ⟨w2.heap.size,2,none⟩=some (.int .i64 0)∧w'.cell? ⟨y3.heap.size,0,none⟩=some (.string (packN Xb))∧w'.cell? ⟨y3.heap.size,1,none⟩=some (.int .i64 (Xb.length:Int))∧w'.cell? ⟨y3.heap.size,2,none⟩=some (.bool (QM.lg B Xb)))
    (first | exact hSD | exact HKT.out _ hx1 | exact HKU.out _ _ _ hx1 hc5 | exact HKT.out _ (hx1.alloc hx1.size _) | exact HKT.out _ ((Below.refl _ y4).drew))
    (first | (go_at_call 26; refine (show Calls _ _ _ _ _ from HRP.out a1 _ (HB4.out _ hx1) rfl).mono ?_; rintro e a5 ⟨rfl,hc5⟩) | (go_at_call 71; refine (show Calls _ _ _ _ _ from HWI.out _ (HW.out.on (HB4.out _ ((Below.refl _ y4).drew)))).mono ?_; rintro e a1 ⟨rfl,hb1⟩; have hx1:=bel_to ((Below.refl _ y4).drew) hb1 (Nat.le_refl _)))
  have HC5:Hid _:=hc5.back (HB4.out _ hx1)
  clear hc5 hx1 hb1 hSD
  go_wp2
  go_returns
  exact ⟨rfl,HC5.out⟩
end
end Go.Proofs.YtjnbjfjoejfmpaaGreatDoor
namespace Go.Proofs.YtjnbjfjoejfmpaaGreatDoor
open Go.RowKit
set_option linter.unusedVariables false
set_option linter.unusedSimpArgs false
section
variable {b0 g r c:Nat} {rest:List Value} {nv:Value} {E B:Nat} {N:QM.NL}
set_option maxHeartbeats 4000000 in
theorem Set_yes (i:Nat) (hi:i < N.flatten.length) (hl:N.flatten.length ≤ 1000) (s:ByteArray) (hs:s.size ≤ 524288) (hI:QM.Inv E B N) (w:World) (hw:Lay w) (h:LS w b0 g r c rest nv E B (nds B N)):Calls Tryz.prog 40 #[ptr g,.int .i64 (i:Int),.string s] w fun e w'=>e=.returned (.int .i64 0)∧Chg w w' b0 g r c rest nv E B (QM.setQ B N i s):=by
  have HL:Hid _:=h
  have HW:Hid _:=hw
  have hln:N.length ≤ 1000:=Nat.le_trans (QM.len_le hI.some) hl
  have HI:Hid _:=hI
  obtain ⟨ht,hq,he⟩:=QM.plc_lt N i hi
  have HHA:Hid (∀ W,LS W b0 g r c rest nv E B (nds B N) → Calls Tryz.prog 79 #[ptr g,.int .i64 (i:Int)] W fun e w'=>e=.returned (.bool true)∧w'=W):=fun W hW=>by
    have:=has_any (i:Int) W hW
    have e1:hasQ (cntN (nds B N)) (i:Int)=true:=by unfold hasQ; rw [cnt_nds]; exact decide_eq_true ⟨by omega,by omega⟩
    rw [e1] at this; exact this
  have HFD:Hid (∀ W,LS W b0 g r c rest nv E B (nds B N) → _):=fun W hW=>findN_any i hi hl hI W hW
  have HND:Hid (∀ W k,LS W b0 g r c rest nv E B (nds B N) → _):=fun W k hW=>nodeN_any (QM.plc N i).1 k ht hln W hW
  have HIL:Hid (∀ W,Calls Tryz.prog 57 #[.agg #[.int .i64 (E:Int),.int .i64 (B:Int)],.string s] W fun e w'=>e=.returned (.bool (QM.big B s))∧Below W.heap.size W w'):=fun W=>isLarge_any E B s (by omega) hI.lb W
  obtain ⟨X,hX⟩:∃ X,N[(QM.plc N i).1]=X:=⟨_,rfl⟩
  have HXX:Hid _:=hX
  rw [hX] at hq HND
  have hfit:Fit X:=by rw [← hX]; exact fit_node hI (List.getElem_mem ht)
  have HSQ:Hid (QM.setQ B N i s=if QM.lg B X=true ∨ QM.big B s=true then QM.rep N (QM.plc N i).1 1 [X.take (QM.plc N i).2,[s],X.drop ((QM.plc N i).2 + 1)] else QM.rep N (QM.plc N i).1 1 [X.set (QM.plc N i).2 s]):=by show _=_; unfold QM.setQ; simp only [QM.getD_at N _ ht,hX]
  generalize (QM.plc N i).2=q at *
  generalize (QM.plc N i).1=t at *
  have hs2:¬ (524288 < s.size):=by omega
  clear hw h he hI
  go_enter Tryz.func40,Tryz.ntmps40
  go_wp2_with fail
  refine (show Calls _ _ _ _ _ from HHA.out _ HL.out).mono ?_
  rintro e w1 ⟨rfl,rfl⟩
  go_wp2_with fail
  refine (show Calls _ _ _ _ _ from HFD.out _ HL.out).mono ?_
  rintro e w2 ⟨rfl,hb2⟩
  have HB2:Hid (Below w1.heap.size w1 w2):=hb2
  have hby:Below w1.heap.size w1 (w2.alloc (.cells #[.int .i64 0,.int .i64 (t:Int),.int .i64 (q:Int)] 67)):=hb2.alloc hb2.size _
  go_wp2_with fail
  refine (show Calls _ _ _ _ _ from HND.out _ q (HL.out.on hby)).mono ?_
  rintro e w3 ⟨rfl,hb3⟩
  have hw3:Below w1.heap.size w1 w3:=bel_to hby hb3 (Nat.le_refl _)
  have hL3:=HL.out.on hw3
  have HL3:Hid _:=hL3
  have HB3:Hid _:=hw3
  have hp3:=keep_row (one_alloc w2 (.cells #[.int .i64 0,.int .i64 (t:Int),.int .i64 (q:Int)] 67)) hb3
  have HP3:Hid _:=hp3
  obtain ⟨l0,l1,l2,l3,lf⟩:=lrow4 hL3.hd
  have L0:=cell_a1 l0
  have L1:=cell_a1 l1
  clear hL3 hw3 hb3 hby hb2 l0 l1 l2 l3 lf hp3
  obtain ⟨lx,hlx⟩:∃ lx,QM.lg B X=lx:=⟨_,rfl⟩
  rw [hlx] at HSQ ⊢
  have HLX:Hid _:=hlx
  clear hlx
  cases lx with
  | true =>
    have hw4:Below w1.heap.size w1 (w3.alloc (.cells #[.string (packN X),.int .i64 (X.length:Int),.bool true] 57)):=HB3.out.alloc HB3.out.size _
    have hp4:=keep_row HP3.out ((Below.refl _ _).alloc (Nat.le_refl _) (.cells #[.string (packN X),.int .i64 (X.length:Int),.bool true] 57))
    have hn4:=one_alloc w3 (.cells #[.string (packN X),.int .i64 (X.length:Int),.bool true] 57)
    go_wp2_with fail
    generalize w3.alloc (.cells #[.string (packN X),.int .i64 (X.length:Int),.bool true] 57)=w4 at *
    have hL4:=HL.out.on hw4
    have HL4:Hid _:=hL4
    have HB4:Hid (∀ W,Below w4.heap.size w4 W → Below w1.heap.size w1 W):=fun W hW=>bel_to hw4 hW (Nat.le_refl _)
    obtain ⟨l0,l1,l2,l3,lf⟩:=lrow4 hL4.hd
    obtain ⟨p0,p1,p2,pf⟩:=row3 hp4
    obtain ⟨n0,n1,n2,nf⟩:=row3 hn4
    have hSA:=And.intro p0 (And.intro p1 (And.intro p2 (And.intro n0 (And.intro n1 (And.intro n2 (And.intro l0 l1))))))
    have HKS:Hid (∀ w':World,Below w4.heap.size w4 w' → w'.cell? ⟨w2.heap.size,0,none⟩=some (.int .i64 0)∧w'.cell? ⟨w2.heap.size,1,none⟩=some (.int .i64 (t:Int))∧w'.cell? ⟨w2.heap.size,2,none⟩=some (.int .i64 (q:Int))∧w'.cell? ⟨w3.heap.size,0,none⟩=some (.string (packN X))∧w'.cell? ⟨w3.heap.size,1,none⟩=some (.int .i64 (X.length:Int))∧w'.cell? ⟨w3.heap.size,2,none⟩=some (.bool true)∧w'.cell? ⟨g,0,none⟩=some (.int .i64 (E:Int))∧w'.cell? ⟨g,1,none⟩=some (.int .i64 (B:Int))):=fun W hW=>And.intro (cell_on p0 hW) (And.intro (cell_on p1 hW) (And.intro (cell_on p2 hW) (And.intro (cell_on n0 hW) (And.intro (cell_on n1 hW) (And.intro (cell_on n2 hW) (And.intro (cell_on l0 hW) (cell_on l1 hW)))))))
    have hsz2:w1.heap.size ≤ w2.heap.size:=HB2.out.size
    have hsz3:w1.heap.size ≤ w3.heap.size:=HB3.out.size
    have HKC:Hid (∀ (a w':World) (N':QM.NL),Below w4.heap.size w4 a → Chg a w' b0 g r c rest nv E B N' → w'.cell? ⟨w2.heap.size,0,none⟩=some (.int .i64 0)∧w'.cell? ⟨w2.heap.size,1,none⟩=some (.int .i64 (t:Int))∧w'.cell? ⟨w2.heap.size,2,none⟩=some (.int .i64 (q:Int))∧w'.cell? ⟨w3.heap.size,0,none⟩=some (.string (packN X))∧w'.cell? ⟨w3.heap.size,1,none⟩=some (.int .i64 (X.length:Int))∧w'.cell? ⟨w3.heap.size,2,none⟩=some (.bool true)∧w'.cell? ⟨g,0,none⟩=some (.int .i64 (E:Int))∧w'.cell? ⟨g,1,none⟩=some (.int .i64 (B:Int))):=fun a W N' ha hc=>And.intro (hc.cell HL.out hsz2 (cell_on p0 ha)) (And.intro (hc.cell HL.out hsz2 (cell_on p1 ha)) (And.intro (hc.cell HL.out hsz2 (cell_on p2 ha)) (And.intro (hc.cell HL.out hsz3 (cell_on n0 ha)) (And.intro (hc.cell HL.out hsz3 (cell_on n1 ha)) (And.intro (hc.cell HL.out hsz3 (cell_on n2 ha)) hc.bnd)))))
    have hXm:X ∈ N:=by rw [← HXX.out]; exact List.getElem_mem _
    have hXl:=HI.out.few X hXm
    have hXE:=HI.out.le
    clear hw4 hp4 hn4 hL4 l0 l1 l2 l3 lf p0 p1 p2 pf n0 n1 n2 nf L0 L1
    have hQ:QM.setQ B N i s=QM.rep N t 1 [X.take q,[s],X.drop (q + 1)]:=by rw [HSQ.out]; simp
    have HAH:Hid (∀ W,Lay W → Calls Tryz.prog 81 #[.agg #[.string (packN X),.int .i64 (X.length:Int),.bool true],.int .i64 (q:Int)] W fun e w'=>e=.returned (.agg #[.string (packN (X.take q)),.int .i64 (q:Int),.bool true])∧Below W.heap.size W w'):=fun W hW=>ahead_any B X hfit q (by omega) true W hW
    have HFM:Hid (∀ W,Lay W → Calls Tryz.prog 82 #[.agg #[.string (packN X),.int .i64 (X.length:Int),.bool true],.int .i64 ((q:Int) + 1)] W fun e w'=>e=.returned (.agg #[.string (packN (X.drop (q + 1))),.int .i64 ((X.length - (q + 1):Nat):Int),.bool true])∧Below W.heap.size W w'):=fun W hW=>by
      have:=from_any B X hfit (q + 1) (by omega) true W hW
      rw [show ((q + 1:Nat):Int)=(q:Int) + 1 by omega] at this; exact this
    have HAL:Hid (∀ W,Lay W → Calls Tryz.prog 72 #[.agg #[.int .i64 (E:Int),.int .i64 (B:Int)],.string s] W fun e w'=>e=.returned (.agg #[.string (packN [s]),.int .i64 1,.bool (QM.big B s)])∧Below W.heap.size W w'):=fun W hW=>alone_any E B s hs HI.out.lb W hW
    have HRP:Hid (∀ a W,Below w1.heap.size w1 a → W=a.alloc (.cells #[.string (packN (X.take q)),.int .i64 (q:Int),.bool true,.string (packN [s]),.int .i64 1,.bool (QM.big B s),.string (packN (X.drop (q + 1))),.int .i64 ((X.length - (q + 1):Nat):Int),.bool true] 57) → Calls Tryz.prog 26 #[ptr g,plV t q,.int .i64 1,.slice (some ⟨a.heap.size,0,none⟩) 3 3] W fun e w'=>e=.returned (.tuple #[])∧Chg a w' b0 g r c rest nv E B (QM.setQ B N i s)):=fun a W ha hW=>by
      have:=repl3_any t q q (q + 1) X ht HXX.out (by omega) (by omega) s HI.out hl a W (HL.out.on ha) (by rw [HLX.out]; exact hW)
      rw [hQ]; exact this
    have hwq:IntKind.i64.wrap ((q:Int) + 1)=(q:Int) + 1:=by rw [IntKind.wrap_i64] <;> omega
    generalize packN (X.take q)=PK1 at *
    generalize packN (X.drop (q + 1))=PK3 at *
    generalize packN [s]=PK2 at *
    generalize X.length - (q + 1)=LR at *
    generalize QM.big B s=BG at *
    clear hQ HSQ HLX hfit
    go_region_held3 (fun w':World=>w'.cell? ⟨w2.heap.size,0,none⟩=some (.int .i64 0)∧w'.cell? ⟨w2.heap.size,1,none⟩=some (.int .i64 (t:Int))∧w'.cell? ⟨w2.heap.size,2,none⟩=some (.int .i64 (q:Int))∧w'.cell? ⟨w3.heap.size,0,none⟩=some (.string (packN X))∧w'.cell? ⟨w3.heap.size,1,none⟩=some (.int .i64 (X.length:Int))∧w'.cell? ⟨w3.heap.size,2,none⟩=some (.bool true)∧w'.cell? ⟨g,0,none⟩=some (.int .i64 (E:Int))∧w'.cell? ⟨g,1,none⟩=some (.int .i64 (B:Int)))
      (first | exact hSA | exact HKS.out _ hx3 | exact HKS.out _ hx2 | exact HKS.out _ hx1 | exact HKC.out _ _ _ hx3 hc5 | exact HKS.out _ (hx3.alloc hx3.size _) | exact HKS.out _ ((Below.refl _ w4).drew))
      (first | (go_at_call 26; refine (show Calls _ _ _ _ _ from HRP.out a3 _ (HB4.out _ hx3) rfl).mono ?_; rintro e a5 ⟨rfl,hc5⟩) | (go_at_call 82; refine (show Calls _ _ _ _ _ from HFM.out _ (HW.out.on (HB4.out _ hx2))).mono ?_; rintro e a3 ⟨rfl,hb3⟩; have hx3:=bel_to hx2 hb3 (Nat.le_refl _)) | (go_at_call 72; refine (show Calls _ _ _ _ _ from HAL.out _ (HW.out.on (HB4.out _ hx1))).mono ?_; rintro e a2 ⟨rfl,hb2⟩; have hx2:=bel_to hx1 hb2 (Nat.le_refl _)) | (go_at_call 81; refine (show Calls _ _ _ _ _ from HAH.out _ (HW.out.on (HB4.out _ ((Below.refl _ w4).drew)))).mono ?_; rintro e a1 ⟨rfl,hb1⟩; have hx1:=bel_to ((Below.refl _ w4).drew) hb1 (Nat.le_refl _)))
    have HC5:Hid _:=hc5.back (HB4.out _ hx3)
    clear hc5 hx1 hx2 hx3 hb1 hb2 hb3 hSA
    go_wp2
    go_returns
    exact ⟨rfl,HC5.out⟩
  | false =>
    go_wp2_with fail
    refine (show Calls _ _ _ _ _ from HIL.out _).mono ?_
    rintro e w4 ⟨rfl,hb4⟩
    have hw4:Below w1.heap.size w1 w4:=bel_to (HB3.out.alloc HB3.out.size _) hb4 (Nat.le_refl _)
    have hp4:=keep_row (keep_row HP3.out ((Below.refl _ _).alloc (Nat.le_refl _) (.cells #[.string (packN X),.int .i64 (X.length:Int),.bool false] 57))) hb4
    have hn4:=keep_row (one_alloc w3 (.cells #[.string (packN X),.int .i64 (X.length:Int),.bool false] 57)) hb4
    have hL4:=HL.out.on hw4
    have HL4:Hid _:=hL4
    have HB4:Hid (∀ W,Below w4.heap.size w4 W → Below w1.heap.size w1 W):=fun W hW=>bel_to hw4 hW (Nat.le_refl _)
    obtain ⟨l0,l1,l2,l3,lf⟩:=lrow4 hL4.hd
    obtain ⟨p0,p1,p2,pf⟩:=row3 hp4
    obtain ⟨n0,n1,n2,nf⟩:=row3 hn4
    have hSA:=And.intro p0 (And.intro p1 (And.intro p2 (And.intro n0 (And.intro n1 (And.intro n2 (And.intro l0 l1))))))
    have HKS:Hid (∀ w':World,Below w4.heap.size w4 w' → w'.cell? ⟨w2.heap.size,0,none⟩=some (.int .i64 0)∧w'.cell? ⟨w2.heap.size,1,none⟩=some (.int .i64 (t:Int))∧w'.cell? ⟨w2.heap.size,2,none⟩=some (.int .i64 (q:Int))∧w'.cell? ⟨w3.heap.size,0,none⟩=some (.string (packN X))∧w'.cell? ⟨w3.heap.size,1,none⟩=some (.int .i64 (X.length:Int))∧w'.cell? ⟨w3.heap.size,2,none⟩=some (.bool false)∧w'.cell? ⟨g,0,none⟩=some (.int .i64 (E:Int))∧w'.cell? ⟨g,1,none⟩=some (.int .i64 (B:Int))):=fun W hW=>And.intro (cell_on p0 hW) (And.intro (cell_on p1 hW) (And.intro (cell_on p2 hW) (And.intro (cell_on n0 hW) (And.intro (cell_on n1 hW) (And.intro (cell_on n2 hW) (And.intro (cell_on l0 hW) (cell_on l1 hW)))))))
    have hsz2:w1.heap.size ≤ w2.heap.size:=HB2.out.size
    have hsz3:w1.heap.size ≤ w3.heap.size:=HB3.out.size
    have HKC:Hid (∀ (a w':World) (N':QM.NL),Below w4.heap.size w4 a → Chg a w' b0 g r c rest nv E B N' → w'.cell? ⟨w2.heap.size,0,none⟩=some (.int .i64 0)∧w'.cell? ⟨w2.heap.size,1,none⟩=some (.int .i64 (t:Int))∧w'.cell? ⟨w2.heap.size,2,none⟩=some (.int .i64 (q:Int))∧w'.cell? ⟨w3.heap.size,0,none⟩=some (.string (packN X))∧w'.cell? ⟨w3.heap.size,1,none⟩=some (.int .i64 (X.length:Int))∧w'.cell? ⟨w3.heap.size,2,none⟩=some (.bool false)∧w'.cell? ⟨g,0,none⟩=some (.int .i64 (E:Int))∧w'.cell? ⟨g,1,none⟩=some (.int .i64 (B:Int))):=fun a W N' ha hc=>And.intro (hc.cell HL.out hsz2 (cell_on p0 ha)) (And.intro (hc.cell HL.out hsz2 (cell_on p1 ha)) (And.intro (hc.cell HL.out hsz2 (cell_on p2 ha)) (And.intro (hc.cell HL.out hsz3 (cell_on n0 ha)) (And.intro (hc.cell HL.out hsz3 (cell_on n1 ha)) (And.intro (hc.cell HL.out hsz3 (cell_on n2 ha)) hc.bnd)))))
    have hXm:X ∈ N:=by rw [← HXX.out]; exact List.getElem_mem _
    have hXl:=HI.out.few X hXm
    have hXE:=HI.out.le
    clear hw4 hp4 hn4 hL4 hb4 l0 l1 l2 l3 lf p0 p1 p2 pf n0 n1 n2 nf L0 L1
    obtain ⟨bb,hbb⟩:∃ bb,QM.big B s=bb:=⟨_,rfl⟩
    rw [hbb] at HSQ ⊢
    have HBB:Hid _:=hbb
    clear hbb
    cases bb with
    | true =>
      have hQ:QM.setQ B N i s=QM.rep N t 1 [X.take q,[s],X.drop (q + 1)]:=by rw [HSQ.out]; simp
      have HAH:Hid (∀ W,Lay W → Calls Tryz.prog 81 #[.agg #[.string (packN X),.int .i64 (X.length:Int),.bool false],.int .i64 (q:Int)] W fun e w'=>e=.returned (.agg #[.string (packN (X.take q)),.int .i64 (q:Int),.bool false])∧Below W.heap.size W w'):=fun W hW=>ahead_any B X hfit q (by omega) false W hW
      have HFM:Hid (∀ W,Lay W → Calls Tryz.prog 82 #[.agg #[.string (packN X),.int .i64 (X.length:Int),.bool false],.int .i64 ((q:Int) + 1)] W fun e w'=>e=.returned (.agg #[.string (packN (X.drop (q + 1))),.int .i64 ((X.length - (q + 1):Nat):Int),.bool false])∧Below W.heap.size W w'):=fun W hW=>by
        have:=from_any B X hfit (q + 1) (by omega) false W hW
        rw [show ((q + 1:Nat):Int)=(q:Int) + 1 by omega] at this; exact this
      have HAL:Hid (∀ W,Lay W → Calls Tryz.prog 72 #[.agg #[.int .i64 (E:Int),.int .i64 (B:Int)],.string s] W fun e w'=>e=.returned (.agg #[.string (packN [s]),.int .i64 1,.bool (QM.big B s)])∧Below W.heap.size W w'):=fun W hW=>alone_any E B s hs HI.out.lb W hW
      have HRP:Hid (∀ a W,Below w1.heap.size w1 a → W=a.alloc (.cells #[.string (packN (X.take q)),.int .i64 (q:Int),.bool false,.string (packN [s]),.int .i64 1,.bool (QM.big B s),.string (packN (X.drop (q + 1))),.int .i64 ((X.length - (q + 1):Nat):Int),.bool false] 57) → Calls Tryz.prog 26 #[ptr g,plV t q,.int .i64 1,.slice (some ⟨a.heap.size,0,none⟩) 3 3] W fun e w'=>e=.returned (.tuple #[])∧Chg a w' b0 g r c rest nv E B (QM.setQ B N i s)):=fun a W ha hW=>by
        have:=repl3_any t q q (q + 1) X ht HXX.out (by omega) (by omega) s HI.out hl a W (HL.out.on ha) (by rw [HLX.out]; exact hW)
        rw [hQ]; exact this
      have hwq:IntKind.i64.wrap ((q:Int) + 1)=(q:Int) + 1:=by rw [IntKind.wrap_i64] <;> omega
      generalize packN (X.take q)=PK1 at *
      generalize packN (X.drop (q + 1))=PK3 at *
      generalize packN [s]=PK2 at *
      generalize X.length - (q + 1)=LR at *
      generalize QM.big B s=BG at *
      clear hQ HSQ HLX hfit
      go_wp2_with fail
      go_region_held3 (fun w':World=>w'.cell? ⟨w2.heap.size,0,none⟩=some (.int .i64 0)∧w'.cell? ⟨w2.heap.size,1,none⟩=some (.int .i64 (t:Int))∧w'.cell? ⟨w2.heap.size,2,none⟩=some (.int .i64 (q:Int))∧w'.cell? ⟨w3.heap.size,0,none⟩=some (.string (packN X))∧w'.cell? ⟨w3.heap.size,1,none⟩=some (.int .i64 (X.length:Int))∧w'.cell? ⟨w3.heap.size,2,none⟩=some (.bool false)∧w'.cell? ⟨g,0,none⟩=some (.int .i64 (E:Int))∧w'.cell? ⟨g,1,none⟩=some (.int .i64 (B:Int)))
        (first | exact hSA | exact HKS.out _ hx3 | exact HKS.out _ hx2 | exact HKS.out _ hx1 | exact HKC.out _ _ _ hx3 hc5 | exact HKS.out _ (hx3.alloc hx3.size _) | exact HKS.out _ ((Below.refl _ w4).drew))
        (first | (go_at_call 26; refine (show Calls _ _ _ _ _ from HRP.out a3 _ (HB4.out _ hx3) rfl).mono ?_; rintro e a5 ⟨rfl,hc5⟩) | (go_at_call 82; refine (show Calls _ _ _ _ _ from HFM.out _ (HW.out.on (HB4.out _ hx2))).mono ?_; rintro e a3 ⟨rfl,hb3⟩; have hx3:=bel_to hx2 hb3 (Nat.le_refl _)) | (go_at_call 72; refine (show Calls _ _ _ _ _ from HAL.out _ (HW.out.on (HB4.out _ hx1))).mono ?_; rintro e a2 ⟨rfl,hb2⟩; have hx2:=bel_to hx1 hb2 (Nat.le_refl _)) | (go_at_call 81; refine (show Calls _ _ _ _ _ from HAH.out _ (HW.out.on (HB4.out _ ((Below.refl _ w4).drew)))).mono ?_; rintro e a1 ⟨rfl,hb1⟩; have hx1:=bel_to ((Below.refl _ w4).drew) hb1 (Nat.le_refl _)))
      have HC5:Hid _:=hc5.back (HB4.out _ hx3)
      clear hc5 hx1 hx2 hx3 hb1 hb2 hb3 hSA
      go_wp2
      go_returns
      exact ⟨rfl,HC5.out⟩
    | false =>
      have hQ:QM.setQ B N i s=QM.rep N t 1 [X.set q s]:=by rw [HSQ.out]; simp
      have hsm:=QM.lg_not HI.out hXm HLX.out
      have hsB:s.size ≤ B:=QM.big_iff.1 HBB.out
      have hfit2:Fit (X.set q s):=fit_many (by rw [List.length_set]; omega) (fun u hu=>by
        rcases List.mem_or_eq_of_mem_set hu with h | h
        · have:=hsm u h; have:=HI.out.lb; omega
        · subst h; have:=HI.out.lb; omega)
      have HCH:Hid (∀ W,Lay W → Calls Tryz.prog 83 #[.agg #[.string (packN X),.int .i64 (X.length:Int),.bool false],.int .i64 (q:Int),.string s] W fun e w'=>e=.returned (.agg #[.string (packN (X.set q s)),.int .i64 (X.length:Int),.bool false])∧Below W.heap.size W w'):=fun W hW=>changed_any B X hfit q hq s hs hfit2 false W hW
      have hne:X.set q s ≠ []:=by intro e; have:=congrArg List.length e; rw [List.length_set] at this; simp at this; rw [this] at hq; simp at hq
      have hlg:QM.lg B (X.set q s)=false:=by
        cases hh:X.set q s with
        | nil=>rfl
        | cons u us =>
          unfold QM.lg
          have hu:u ∈ X.set q s:=by rw [hh]; simp
          rcases List.mem_or_eq_of_mem_set hu with h | h
          · have:=hsm u h; simp; omega
          · subst h; simp; omega
      have HRP:Hid (∀ a W,Below w1.heap.size w1 a → W=a.alloc (.cells #[.string (packN (X.set q s)),.int .i64 (X.length:Int),.bool false] 57) → Calls Tryz.prog 26 #[ptr g,plV t q,.int .i64 1,.slice (some ⟨a.heap.size,0,none⟩) 1 1] W fun e w'=>e=.returned (.tuple #[])∧Chg a w' b0 g r c rest nv E B (QM.setQ B N i s)):=fun a W ha hW=>by
        subst hW
        have hLa:=HL.out.on ha
        have hba:Below a.heap.size a (a.alloc (.cells #[.string (packN (X.set q s)),.int .i64 (X.length:Int),.bool false] 57)):=(Below.refl _ _).alloc (Nat.le_refl _) _
        have:=replN_any t q 1 a.heap.size [(packN (X.set q s),X.length,false)] [X.set q s] ⟨⟨rfl,by simp,fun _=>hlg.symm⟩,trivial⟩ a _ hba (hLa.on hba) hLa (by omega) hln (by omega) (by simp; omega) (by simp) (by simp) (nx_one a (packN (X.set q s),X.length,false)) (Nat.le_refl _) (fun e=>by simp at e)
        rw [hQ]; exact this
      generalize packN (X.set q s)=PK at *
      clear hne hlg hsm hsB hfit2 hQ HSQ HLX HBB hfit
      go_wp2_with fail
      go_region_held3 (fun w':World=>w'.cell? ⟨w2.heap.size,0,none⟩=some (.int .i64 0)∧w'.cell? ⟨w2.heap.size,1,none⟩=some (.int .i64 (t:Int))∧w'.cell? ⟨w2.heap.size,2,none⟩=some (.int .i64 (q:Int))∧w'.cell? ⟨w3.heap.size,0,none⟩=some (.string (packN X))∧w'.cell? ⟨w3.heap.size,1,none⟩=some (.int .i64 (X.length:Int))∧w'.cell? ⟨w3.heap.size,2,none⟩=some (.bool false)∧w'.cell? ⟨g,0,none⟩=some (.int .i64 (E:Int))∧w'.cell? ⟨g,1,none⟩=some (.int .i64 (B:Int)))
        (first | exact hSA | exact HKS.out _ hx1 | exact HKC.out _ _ _ hx1 hc5 | exact HKS.out _ (hx1.alloc hx1.size _) | exact HKS.out _ ((Below.refl _ w4).drew))
        (first | (go_at_call 26; refine (show Calls _ _ _ _ _ from HRP.out a1 _ (HB4.out _ hx1) rfl).mono ?_; rintro e a5 ⟨rfl,hc5⟩) | (go_at_call 83; refine (show Calls _ _ _ _ _ from HCH.out _ (HW.out.on (HB4.out _ ((Below.refl _ w4).drew)))).mono ?_; rintro e a1 ⟨rfl,hb1⟩; have hx1:=bel_to ((Below.refl _ w4).drew) hb1 (Nat.le_refl _)))
      have HC5:Hid _:=hc5.back (HB4.out _ hx1)
      clear hc5 hx1 hb1 hSA
      go_wp2
      go_returns
      exact ⟨rfl,HC5.out⟩
end
end Go.Proofs.YtjnbjfjoejfmpaaGreatDoor
namespace Go.Proofs.YtjnbjfjoejfmpaaGreatDoor
open Go.RowKit
set_option linter.unusedVariables false
set_option linter.unusedSimpArgs false
theorem whl_step (C:QM.NL) (m q:Nat) (hm:m < C.length) (h:C[m].length ≤ q):QM.whl (C.drop m) q=QM.whl (C.drop (m + 1)) (q - C[m].length) + 1:=by
  rw [List.drop_eq_getElem_cons hm]; rw [QM.whl,if_pos h]
theorem whl_stop (C:QM.NL) (m q:Nat) (hm:m < C.length) (h:¬ C[m].length ≤ q):QM.whl (C.drop m) q=0:=by
  rw [List.drop_eq_getElem_cons hm]; rw [QM.whl,if_neg h]
theorem flat_snoc (C:QM.NL) (m:Nat) (hm:m < C.length):(C.take (m + 1)).flatten.length=(C.take m).flatten.length + C[m].length:=by
  rw [List.take_add_one,List.getElem?_eq_getElem hm,List.flatten_append,List.length_append]; simp
section
variable {b0 g r c:Nat} {rest:List Value} {nv:Value} {E B:Nat} {N:QM.NL}
set_option maxHeartbeats 4000000 in
set_option maxRecDepth 100000 in
theorem delRow_any (t k:Nat) (X:List ByteArray) (ht:t < N.length) (hX:N[t]=X) (hk:k < X.length) (most:Nat) (hmost:1 ≤ most) (hmb:most ≤ 1000) (hl:N.flatten.length ≤ 1000) (hI:QM.Inv E B N) (w:World) (hw:Lay w) (h:LS w b0 g r c rest nv E B (nds B N)):Calls Tryz.prog 84 #[ptr g,plV t k,.int .i64 (most:Int)] w fun e w'=>∃ cut m taken:Nat,cut=min most (X.length - k)∧m=QM.whl (N.drop (t + 1)) (most - cut)∧taken=cut + ((N.drop (t + 1)).take m).flatten.length∧e=.returned (.int .i64 (taken:Int))∧Chg w w' b0 g r c rest nv E B (QM.rep N t (m + 1) [X.take k ++ X.drop (k + cut)]):=by
  have HL:Hid _:=h
  have HW:Hid _:=hw
  have HI:Hid _:=hI
  have hln:N.length ≤ 1000:=Nat.le_trans (QM.len_le hI.some) hl
  have hXm:X ∈ N:=by rw [← hX]; exact List.getElem_mem _
  have hXl:=hI.few X hXm
  have hXE:=hI.le
  obtain ⟨l0,l1,l2,l3,lf⟩:=lrow4 h.hd
  obtain ⟨r0,r1,rf⟩:=lrow2 h.rw_
  rcases h.nd with ⟨_,e⟩ | ⟨Y,cc,rfl,hY,hN⟩
  · have:N=[]:=by simpa [nds] using e
    rw [this] at ht; simp at ht
  have HN:Hid _:=hN
  have hcc:=hN.le
  have hll:(nds B N).length=N.length:=by simp [nds]
  rw [hll] at r0 hcc
  have L3:=cell_a1 l3
  have R0:=cell_a1 r0
  obtain ⟨LN,hLN⟩:∃ LN,N.length=LN:=⟨_,rfl⟩
  rw [hLN] at R0 hcc
  have hz0:(0:Int) ≤ (t:Int):=by omega
  have hz1:(t:Int) ≤ (LN:Int):=by omega
  have hz2:(t:Int) ≤ (cc:Int):=by omega
  have hct:¬ (cc=t):=by omega
  obtain ⟨x0,x1,x2⟩:=hN.cells t (by rw [hll]; exact ht)
  rw [nds_at] at x0 x1 x2
  simp only [hX] at x0 x1 x2
  obtain ⟨LX,hLX⟩:∃ LX,X.length=LX:=⟨_,rfl⟩
  obtain ⟨d,hd⟩:∃ d,LX - k=d:=⟨_,rfl⟩
  obtain ⟨cut,hcut⟩:∃ cut,min most d=cut:=⟨_,rfl⟩
  have X0:∀ o,(w.alloc o).cell? ⟨Y,t * 3,none⟩=some (.string (packN X)):=cell_a1 x0
  have X1:∀ o,(w.alloc o).cell? ⟨Y,t * 3 + 1,none⟩=some (.int .i64 (LX:Int)):=by rw [← hLX]; exact cell_a1 x1
  have X2:∀ o,(w.alloc o).cell? ⟨Y,t * 3 + 2,none⟩=some (.bool (QM.lg B X)):=cell_a1 x2
  have hwk:IntKind.i64.wrap ((LX:Int) - (k:Int))=(d:Int):=by rw [IntKind.wrap_i64] <;> omega
  have hmin:min (most:Int) (d:Int)=(cut:Int):=by omega
  obtain ⟨M,hM⟩:∃ M,LN - t=M:=⟨_,rfl⟩
  have hM1:1 ≤ M:=by omega
  obtain ⟨C,hC⟩:∃ C:QM.NL,N.drop (t + 1)=C:=⟨_,rfl⟩
  have hCl:C.length + 1=M:=by rw [← hC,List.length_drop]; omega
  have HCN:Hid (∀ m (hm:m < C.length),∀ W,Below w.heap.size w W → W.cell? ⟨Y,t * 3 + (m + 1) * 3 + 1,none⟩=some (.int .i64 (C[m].length:Int))):=fun m hm W hW=>by
    have h1:=(hN.cells (t + 1 + m) (by rw [hll]; omega)).2.1
    rw [nds_at] at h1
    have e:C[m]=N[t + 1 + m]'(by omega):=by simp only [← hC,List.getElem_drop]
    rw [e,show t * 3 + (m + 1) * 3 + 1=(t + 1 + m) * 3 + 1 by omega]
    exact cell_on h1 hW
  have HCF:Hid ((C.flatten).length ≤ 1000):=by
    show C.flatten.length ≤ 1000
    have:=QM.split_flat N (t + 1) 0
    rw [Nat.add_zero,hC] at this
    omega
  have hfit:Fit X:=fit_node hI hXm
  have HWO:Hid (∀ W,Lay W → Calls Tryz.prog 106 #[.agg #[.string (packN X),.int .i64 (LX:Int),.bool (QM.lg B X)],.int .i64 (k:Int),.int .i64 (cut:Int)] W fun e w'=>e=.returned (.agg #[.string (packN (X.take k ++ X.drop (k + cut))),.int .i64 ((LX - cut:Nat):Int),.bool (QM.lg B X)])∧Below W.heap.size W w'):=fun W hW=>by
    have:=without_any B X hfit k cut (by omega) (QM.lg B X) W hW
    rw [hLX] at this; exact this
  have hlgp:X.take k ++ X.drop (k + cut) ≠ [] → QM.lg B X=QM.lg B (X.take k ++ X.drop (k + cut)):=fun hne=>by
    cases hq:QM.lg B X with
    | true =>
      obtain ⟨u,hu,_⟩:=QM.lg_alone hI hXm hq
      subst hu
      simp at hk
      subst hk
      have hc1:1 ≤ cut:=by simp at hLX; omega
      obtain ⟨c',rfl⟩:∃ c',cut=c' + 1:=⟨cut - 1,by omega⟩
      simp at hne
    | false =>
      have hsm:=QM.lg_not hI hXm hq
      cases hh:X.take k ++ X.drop (k + cut) with
      | nil=>rfl
      | cons u us =>
        have hu:u ∈ X.take k ++ X.drop (k + cut):=by rw [hh]; simp
        have hux:u ∈ X:=by
          rcases List.mem_append.1 hu with h | h
          · exact List.mem_of_mem_take h
          · exact List.mem_of_mem_drop h
        have:=hsm u hux
        unfold QM.lg; simp; omega
  have HRP:Hid (∀ (m:Nat) (a W:World),m ≤ C.length → Below w.heap.size w a → W=a.alloc (.cells #[.string (packN (X.take k ++ X.drop (k + cut))),.int .i64 ((LX - cut:Nat):Int),.bool (QM.lg B X)] 57) → Calls Tryz.prog 26 #[ptr g,plV t k,.int .i64 ((m:Int) + 1),.slice (some ⟨a.heap.size,0,none⟩) 1 1] W fun e w'=>e=.returned (.tuple #[])∧Chg a w' b0 g r c rest (.slice (some ⟨Y,0,none⟩) (nds B N).length cc) E B (QM.rep N t (m + 1) [X.take k ++ X.drop (k + cut)])):=fun m a W hm ha hW=>by
    subst hW
    have hLa:=HL.out.on ha
    have hba:Below a.heap.size a (a.alloc (.cells #[.string (packN (X.take k ++ X.drop (k + cut))),.int .i64 ((LX - cut:Nat):Int),.bool (QM.lg B X)] 57)):=(Below.refl _ _).alloc (Nat.le_refl _) _
    have:=replN_any t k (m + 1) a.heap.size [(packN (X.take k ++ X.drop (k + cut)),LX - cut,QM.lg B X)] [X.take k ++ X.drop (k + cut)] ⟨⟨rfl,by simp; omega,hlgp⟩,trivial⟩ a _ hba (hLa.on hba) hLa (by omega) hln (by omega) (by simp; omega) (by simp) (by simp) (nx_one a (packN (X.take k ++ X.drop (k + cut)),LX - cut,QM.lg B X)) (Nat.le_refl _) (fun e=>by omega)
    rw [show ((m + 1:Nat):Int)=(m:Int) + 1 by omega] at this; exact this
  have HCUT:Hid (cut=min most (X.length - k)):=by show _=_; rw [hLX,hd,hcut]
  have HCD:Hid _:=hC
  clear h hN hw hlgp hfit x0 x1 x2 hC hcut hd hLX l0 l1 l2 l3 lf r0 r1 rf hX hXm
  generalize packN (X.take k ++ X.drop (k + cut))=PQ at *
  generalize LX - cut=LQ at *
  go_enter Tryz.func84,Tryz.ntmps84
  go_wp2
  go_quiet (fail)
  go_wp2
  have HW0:Hid (Below w.heap.size w (((w.alloc (.cells #[.int .i64 0,.int .i64 (t:Int),.int .i64 (k:Int)] 67)).drewN nq).alloc (.cells #[.string (packN X),.int .i64 (LX:Int),.bool (QM.lg B X)] 57))∧((((w.alloc (.cells #[.int .i64 0,.int .i64 (t:Int),.int .i64 (k:Int)] 67)).drewN nq).alloc (.cells #[.string (packN X),.int .i64 (LX:Int),.bool (QM.lg B X)] 57)).cell? ⟨w.heap.size,0,none⟩=some (.int .i64 0)∧(((w.alloc (.cells #[.int .i64 0,.int .i64 (t:Int),.int .i64 (k:Int)] 67)).drewN nq).alloc (.cells #[.string (packN X),.int .i64 (LX:Int),.bool (QM.lg B X)] 57)).cell? ⟨w.heap.size,1,none⟩=some (.int .i64 (t:Int))∧(((w.alloc (.cells #[.int .i64 0,.int .i64 (t:Int),.int .i64 (k:Int)] 67)).drewN nq).alloc (.cells #[.string (packN X),.int .i64 (LX:Int),.bool (QM.lg B X)] 57)).cell? ⟨w.heap.size,2,none⟩=some (.int .i64 (k:Int))∧(((w.alloc (.cells #[.int .i64 0,.int .i64 (t:Int),.int .i64 (k:Int)] 67)).drewN nq).alloc (.cells #[.string (packN X),.int .i64 (LX:Int),.bool (QM.lg B X)] 57)).cell? ⟨w.heap.size + 1,0,none⟩=some (.string (packN X))∧(((w.alloc (.cells #[.int .i64 0,.int .i64 (t:Int),.int .i64 (k:Int)] 67)).drewN nq).alloc (.cells #[.string (packN X),.int .i64 (LX:Int),.bool (QM.lg B X)] 57)).cell? ⟨w.heap.size + 1,1,none⟩=some (.int .i64 (LX:Int))∧(((w.alloc (.cells #[.int .i64 0,.int .i64 (t:Int),.int .i64 (k:Int)] 67)).drewN nq).alloc (.cells #[.string (packN X),.int .i64 (LX:Int),.bool (QM.lg B X)] 57)).cell? ⟨w.heap.size + 1,2,none⟩=some (.bool (QM.lg B X)))):=by
    have h1:Below w.heap.size w ((w.alloc (.cells #[.int .i64 0,.int .i64 (t:Int),.int .i64 (k:Int)] 67)).drewN nq):=below_dn ((Below.refl _ w).alloc (Nat.le_refl _) _) _
    have hp:((w.alloc (.cells #[.int .i64 0,.int .i64 (t:Int),.int .i64 (k:Int)] 67)).drewN nq).heap[w.heap.size]?=some (.cells #[.int .i64 0,.int .i64 (t:Int),.int .i64 (k:Int)] 67):=one_alloc w _
    have hs:((w.alloc (.cells #[.int .i64 0,.int .i64 (t:Int),.int .i64 (k:Int)] 67)).drewN nq).heap.size=w.heap.size + 1:=by show (w.alloc _).heap.size=_; simp
    have hf:=one_alloc ((w.alloc (.cells #[.int .i64 0,.int .i64 (t:Int),.int .i64 (k:Int)] 67)).drewN nq) (.cells #[.string (packN X),.int .i64 (LX:Int),.bool (QM.lg B X)] 57)
    rw [hs] at hf
    have hp2:=keep_row hp ((Below.refl _ _).alloc (Nat.le_refl _) (.cells #[.string (packN X),.int .i64 (LX:Int),.bool (QM.lg B X)] 57))
    obtain ⟨a0,a1,a2,_⟩:=row3 hp2
    obtain ⟨f0,f1,f2,_⟩:=row3 hf
    exact ⟨h1.alloc h1.size _,a0,a1,a2,f0,f1,f2⟩
  go_loopw [10,11] (fun ct cm w'=>∃ m tk:Nat,m ≤ C.length∧cm=.int .i64 ((m:Int) + 1)∧ct=.int .i64 (tk:Int)∧tk=cut + (C.take m).flatten.length∧tk ≤ most∧QM.whl C (most - cut)=m + QM.whl (C.drop m) (most - tk)∧Below w.heap.size w w'∧(w'.cell? ⟨w.heap.size,0,none⟩=some (.int .i64 0)∧w'.cell? ⟨w.heap.size,1,none⟩=some (.int .i64 (t:Int))∧w'.cell? ⟨w.heap.size,2,none⟩=some (.int .i64 (k:Int))∧w'.cell? ⟨w.heap.size + 1,0,none⟩=some (.string (packN X))∧w'.cell? ⟨w.heap.size + 1,1,none⟩=some (.int .i64 (LX:Int))∧w'.cell? ⟨w.heap.size + 1,2,none⟩=some (.bool (QM.lg B X)))) (fun _ cm _=>C.length + 1 - (intOf cm).toNat)
  case atStart=>exact ⟨0,cut,by omega,rfl,rfl,by simp,by omega,by simp,HW0.out.1,HW0.out.2⟩
  case round =>
    obtain ⟨m,tk,hm,rfl,rfl,htk,htm,hwh,hb,hS⟩:=hrel
    have HB:Hid (Below w.heap.size w wr):=hb
    have HS:Hid _:=hS
    have HTK:Hid _:=htk
    have HWH:Hid _:=hwh
    clear HW0
    by_cases hlt:m < C.length
    · have hcell:=HCN.out m hlt wr hb
      have hfs:=flat_snoc C m hlt
      have hst:=whl_step C m (most - tk) hlt
      have hsp:=whl_stop C m (most - tk) hlt
      have hcfl:(C.take (m + 1)).flatten.length ≤ 1000:=by
        have h1:=HCF.out
        have h2:C.flatten.length=(C.take (m + 1)).flatten.length + (C.drop (m + 1)).flatten.length:=by rw [← List.length_append,← List.flatten_append,List.take_append_drop]
        omega
      have HFS:Hid _:=hfs
      have HST:Hid _:=hst
      have HSP:Hid _:=hsp
      obtain ⟨cl,hcl⟩:∃ cl,C[m].length=cl:=⟨_,rfl⟩
      rw [hcl] at hcell HFS HST HSP
      have hcb:cl ≤ 1000:=by have:=HFS.out; omega
      have hj1:(m:Int) + 1 < (M:Int):=by omega
      have hj0:(0:Int) ≤ (m:Int) + 1:=by omega
      have hw9:IntKind.i64.wrap ((most:Int) - (tk:Int))=(most:Int) - (tk:Int):=by rw [IntKind.wrap_i64] <;> omega
      clear hfs hst hsp hcl hb hS htk hwh
      by_cases hle:cl ≤ most - tk
      · have hle2:(cl:Int) ≤ (most:Int) - (tk:Int):=by omega
        go_wp2
        refine ⟨⟨m + 1,tk + cl,hlt,by congr 1,by congr 1,by have:=HFS.out; have:=HTK.out; omega,by omega,?_,HB.out,HS.out⟩,by simp [intOf]; omega⟩
        rw [HWH.out,HST.out hle,Nat.sub_sub]; omega
      · have hle2:¬ ((cl:Int) ≤ (most:Int) - (tk:Int)):=by omega
        have HMW:Hid (m=QM.whl C (most - cut)):=by show _=_; have h1:=HWH.out; have h2:=HSP.out hle; omega
        have HKS:Hid (∀ w':World,Below wr.heap.size wr w' → w'.cell? ⟨w.heap.size,0,none⟩=some (.int .i64 0)∧w'.cell? ⟨w.heap.size,1,none⟩=some (.int .i64 (t:Int))∧w'.cell? ⟨w.heap.size,2,none⟩=some (.int .i64 (k:Int))∧w'.cell? ⟨w.heap.size + 1,0,none⟩=some (.string (packN X))∧w'.cell? ⟨w.heap.size + 1,1,none⟩=some (.int .i64 (LX:Int))∧w'.cell? ⟨w.heap.size + 1,2,none⟩=some (.bool (QM.lg B X))):=fun W hW=>by
          obtain ⟨h0,h1,h2,h3,h4,h5⟩:=HS.out
          exact ⟨cell_on h0 hW,cell_on h1 hW,cell_on h2 hW,cell_on h3 hW,cell_on h4 hW,cell_on h5 hW⟩
        have HKC:Hid (∀ (a w':World) (N':QM.NL),Below wr.heap.size wr a → Chg a w' b0 g r c rest (.slice (some ⟨Y,0,none⟩) (nds B N).length cc) E B N' → w'.cell? ⟨w.heap.size,0,none⟩=some (.int .i64 0)∧w'.cell? ⟨w.heap.size,1,none⟩=some (.int .i64 (t:Int))∧w'.cell? ⟨w.heap.size,2,none⟩=some (.int .i64 (k:Int))∧w'.cell? ⟨w.heap.size + 1,0,none⟩=some (.string (packN X))∧w'.cell? ⟨w.heap.size + 1,1,none⟩=some (.int .i64 (LX:Int))∧w'.cell? ⟨w.heap.size + 1,2,none⟩=some (.bool (QM.lg B X))):=fun a W N' ha hc=>by
          obtain ⟨h0,h1,h2,h3,h4,h5⟩:=HS.out
          exact ⟨hc.cell HL.out (Nat.le_refl _) (cell_on h0 ha),hc.cell HL.out (Nat.le_refl _) (cell_on h1 ha),hc.cell HL.out (Nat.le_refl _) (cell_on h2 ha),hc.cell HL.out (Nat.le_succ _) (cell_on h3 ha),hc.cell HL.out (Nat.le_succ _) (cell_on h4 ha),hc.cell HL.out (Nat.le_succ _) (cell_on h5 ha)⟩
        have HBR:Hid (∀ W,Below wr.heap.size wr W → Below w.heap.size w W):=fun W hW=>bel_to HB.out hW (Nat.le_refl _)
        have hSA:=HS.out
        go_wp2_with fail
        go_region_held3 (fun w':World=>w'.cell? ⟨w.heap.size,0,none⟩=some (.int .i64 0)∧w'.cell? ⟨w.heap.size,1,none⟩=some (.int .i64 (t:Int))∧w'.cell? ⟨w.heap.size,2,none⟩=some (.int .i64 (k:Int))∧w'.cell? ⟨w.heap.size + 1,0,none⟩=some (.string (packN X))∧w'.cell? ⟨w.heap.size + 1,1,none⟩=some (.int .i64 (LX:Int))∧w'.cell? ⟨w.heap.size + 1,2,none⟩=some (.bool (QM.lg B X)))
          (first | exact hSA | exact HKS.out _ hx1 | exact HKC.out _ _ _ hx1 hc5 | exact HKS.out _ (hx1.alloc hx1.size _) | exact HKS.out _ ((Below.refl _ wr).drew))
          (first | (go_at_call 26; refine (show Calls _ _ _ _ _ from HRP.out m a1 _ hm (HBR.out _ hx1) rfl).mono ?_; rintro e a5 ⟨rfl,hc5⟩) | (go_at_call 106; refine (show Calls _ _ _ _ _ from HWO.out _ (HW.out.on (HBR.out _ ((Below.refl _ wr).drew)))).mono ?_; rintro e a1 ⟨rfl,hb1⟩; have hx1:=bel_to ((Below.refl _ wr).drew) hb1 (Nat.le_refl _)))
        have HC5:Hid _:=hc5.back (HBR.out _ hx1)
        clear hc5 hx1 hb1 hSA
        go_wp2
        go_returns
        refine ⟨cut,m,tk,HCUT.out,?_,?_,rfl,HC5.out⟩
        · rw [HCD.out]; exact HMW.out
        · rw [HCD.out]; exact HTK.out
    · have he:m=C.length:=by omega
      have hj1:¬ ((m:Int) + 1 < (M:Int)):=by omega
      clear hb hS htk hwh
      have HMW:Hid (m=QM.whl C (most - cut)):=by
        show _=_
        have h1:=HWH.out
        have h2:QM.whl (C.drop m) (most - tk)=0:=by rw [List.drop_eq_nil_of_le (by omega)]; rfl
        omega
      clear he
      have HKS:Hid (∀ w':World,Below wr.heap.size wr w' → w'.cell? ⟨w.heap.size,0,none⟩=some (.int .i64 0)∧w'.cell? ⟨w.heap.size,1,none⟩=some (.int .i64 (t:Int))∧w'.cell? ⟨w.heap.size,2,none⟩=some (.int .i64 (k:Int))∧w'.cell? ⟨w.heap.size + 1,0,none⟩=some (.string (packN X))∧w'.cell? ⟨w.heap.size + 1,1,none⟩=some (.int .i64 (LX:Int))∧w'.cell? ⟨w.heap.size + 1,2,none⟩=some (.bool (QM.lg B X))):=fun W hW=>by
        obtain ⟨h0,h1,h2,h3,h4,h5⟩:=HS.out
        exact ⟨cell_on h0 hW,cell_on h1 hW,cell_on h2 hW,cell_on h3 hW,cell_on h4 hW,cell_on h5 hW⟩
      have HKC:Hid (∀ (a w':World) (N':QM.NL),Below wr.heap.size wr a → Chg a w' b0 g r c rest (.slice (some ⟨Y,0,none⟩) (nds B N).length cc) E B N' → w'.cell? ⟨w.heap.size,0,none⟩=some (.int .i64 0)∧w'.cell? ⟨w.heap.size,1,none⟩=some (.int .i64 (t:Int))∧w'.cell? ⟨w.heap.size,2,none⟩=some (.int .i64 (k:Int))∧w'.cell? ⟨w.heap.size + 1,0,none⟩=some (.string (packN X))∧w'.cell? ⟨w.heap.size + 1,1,none⟩=some (.int .i64 (LX:Int))∧w'.cell? ⟨w.heap.size + 1,2,none⟩=some (.bool (QM.lg B X))):=fun a W N' ha hc=>by
        obtain ⟨h0,h1,h2,h3,h4,h5⟩:=HS.out
        exact ⟨hc.cell HL.out (Nat.le_refl _) (cell_on h0 ha),hc.cell HL.out (Nat.le_refl _) (cell_on h1 ha),hc.cell HL.out (Nat.le_refl _) (cell_on h2 ha),hc.cell HL.out (Nat.le_succ _) (cell_on h3 ha),hc.cell HL.out (Nat.le_succ _) (cell_on h4 ha),hc.cell HL.out (Nat.le_succ _) (cell_on h5 ha)⟩
      have HBR:Hid (∀ W,Below wr.heap.size wr W → Below w.heap.size w W):=fun W hW=>bel_to HB.out hW (Nat.le_refl _)
      have hSA:=HS.out
      go_wp2_with fail
      go_region_held3 (fun w':World=>w'.cell? ⟨w.heap.size,0,none⟩=some (.int .i64 0)∧w'.cell? ⟨w.heap.size,1,none⟩=some (.int .i64 (t:Int))∧w'.cell? ⟨w.heap.size,2,none⟩=some (.int .i64 (k:Int))∧w'.cell? ⟨w.heap.size + 1,0,none⟩=some (.string (packN X))∧w'.cell? ⟨w.heap.size + 1,1,none⟩=some (.int .i64 (LX:Int))∧w'.cell? ⟨w.heap.size + 1,2,none⟩=some (.bool (QM.lg B X)))
        (first | exact hSA | exact HKS.out _ hx1 | exact HKC.out _ _ _ hx1 hc5 | exact HKS.out _ (hx1.alloc hx1.size _) | exact HKS.out _ ((Below.refl _ wr).drew))
        (first | (go_at_call 26; refine (show Calls _ _ _ _ _ from HRP.out m a1 _ hm (HBR.out _ hx1) rfl).mono ?_; rintro e a5 ⟨rfl,hc5⟩) | (go_at_call 106; refine (show Calls _ _ _ _ _ from HWO.out _ (HW.out.on (HBR.out _ ((Below.refl _ wr).drew)))).mono ?_; rintro e a1 ⟨rfl,hb1⟩; have hx1:=bel_to ((Below.refl _ wr).drew) hb1 (Nat.le_refl _)))
      have HC5:Hid _:=hc5.back (HBR.out _ hx1)
      clear hc5 hx1 hb1 hSA
      go_wp2
      go_returns
      refine ⟨cut,m,tk,HCUT.out,?_,?_,rfl,HC5.out⟩
      · rw [HCD.out]; exact HMW.out
      · rw [HCD.out]; exact HTK.out
end
end Go.Proofs.YtjnbjfjoejfmpaaGreatDoor
