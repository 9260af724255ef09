import Derived.Test.YtjnbjfjoejfmpaaGreatDoorWAQ
namespace Go.Proofs.YtjnbjfjoejfmpaaGreatDoor
open Go.RowKit
set_option linter.unusedVariables false
set_option linter.unusedSimpArgs false
theorem fldC (a b d:Value) (w:World):(Instr.field 57 (.agg #[a,b,d]) 1).run Tryz.prog w=.ok b w:=by kernel_rfl
section
variable {b0 g r c:Nat} {rest:List Value} {nv:Value} {E B:Nat} {N:QM.NL}
set_option maxHeartbeats 4000000 in
set_option maxRecDepth 100000 in
theorem end_back (hc:0 < N.flatten.length) (hl:N.flatten.length ≤ 1000) (hI:QM.Inv E B N) (t:Nat) (ht:t + 1=N.length) (w:World) (h:LS w b0 g r c rest nv E B (nds B N)):Calls Tryz.prog 68 #[ptr g,.bool false] w fun e w'=>e=.returned (.tuple #[plV t (N[t]'(by omega)).length,.bool true])∧Below w.heap.size w w':=by
  have HL:Hid _:=h
  have hln:N.length ≤ 1000:=Nat.le_trans (QM.len_le hI.some) hl
  have HG:Hid (∀ W,LS W b0 g r c rest nv E B (nds B N) → Calls Tryz.prog 27 #[ptr g,.bool false] W fun e w'=>e=.returned (plV (t + 1) 0)∧Below W.heap.size W w'):=fun W hW=>by
    have:=gap_back (by simp [nds]; omega) W hW
    simp only [nds,List.length_map,← ht] at this
    exact this
  have HND:Hid (∀ W,LS W b0 g r c rest nv E B (nds B N) → _):=fun W hW=>nodeN_any t 0 (by omega) hln W hW
  generalize packN (N[t]'(by omega))=PK at *
  have hL5:=hI.few _ (List.getElem_mem (show t < N.length by omega))
  have hE5:=hI.le
  generalize (N[t]'(by omega)).length=LN at *
  generalize QM.lg B (N[t]'(by omega))=LG at *
  obtain ⟨CN,hCN⟩:∃ CN,N.flatten.length=CN:=⟨_,rfl⟩
  have HCN:Hid _:=hCN
  have hc0:0 < CN:=by omega
  obtain ⟨t1,ht1⟩:∃ t1,t + 1=t1:=⟨_,rfl⟩
  rw [ht1] at HG
  have hw1:IntKind.i64.wrap ((t1:Int) - 1)=(t:Int):=by rw [IntKind.wrap_i64] <;> omega
  clear h hCN ht hc hl hI ht1
  go_enter Tryz.func68,Tryz.ntmps68
  go_wp2_with fail
  refine (show Calls _ _ _ _ _ from HG.out _ (HL.out.on ((Below.refl _ w).alloc (Nat.le_refl _) _))).mono ?_
  rintro e w1 ⟨rfl,hb1⟩
  have HB1:Hid (Below w.heap.size w w1):=bel_to ((Below.refl _ w).alloc (Nat.le_refl _) _) hb1 (Nat.le_refl _)
  have hL1:=HL.out.on HB1.out
  have hr:=keep_row (one_alloc w (.cells #[.int .i64 0,.int .i64 0,.int .i64 0] 67)) hb1
  have HR:Hid _:=hr
  obtain ⟨l0,l1,l2,l3,lf⟩:=lrow4 hL1.hd
  rw [cnt_nds,HCN.out] at l2
  have L2:=cell_a1 l2
  have hcz:¬ ((CN:Int)=0):=by omega
  have HB5:Hid (Below w.heap.size w ((w1.alloc (.cells #[.int .i64 0,.int .i64 (t1:Int),.int .i64 0] 67)).setCell ⟨w1.heap.size,1,none⟩ (.int .i64 (t:Int)))):=(HB1.out.alloc HB1.out.size _).setCell (p:=⟨w1.heap.size,1,none⟩) HB1.out.size _
  clear hL1 hr hb1 l0 l1 l2 l3 lf
  go_wp2_with fail
  refine (show Calls _ _ _ _ _ from HND.out _ (HL.out.on (HB1.out.alloc HB1.out.size _))).mono ?_
  rintro e w3 ⟨rfl,hb3⟩
  have HB3:Hid (Below w.heap.size w w3):=bel_to (HB1.out.alloc HB1.out.size _) hb3 (Nat.le_refl _)
  have hp3:=keep_row (one_alloc w1 (.cells #[.int .i64 0,.int .i64 (t:Int),.int .i64 0] 67)) hb3
  have hr3:=keep_row (keep_row HR.out ((Below.refl _ _).alloc (Nat.le_refl _) (.cells #[.int .i64 0,.int .i64 (t:Int),.int .i64 0] 67))) hb3
  obtain ⟨p0,p1,p2,pf⟩:=row3 hp3
  obtain ⟨c0,c1,c2,cf⟩:=row3 hr3
  have hsw:=row_lt HR.out
  have hne1:¬ (w.heap.size=w1.heap.size):=by omega
  have hne2:¬ (w1.heap.size=w.heap.size):=by omega
  have HG3:Hid _:=heap_set3 (w3.setCell ⟨w1.heap.size,2,none⟩ (.int .i64 (LN:Int))) w.heap.size 67 _ _ _ (.int .i64 0) (.int .i64 (t:Int)) (.int .i64 (LN:Int)) ((heap_setCell_other _ _ _ _ hne1).trans hr3)
  have HS5:Hid (w.heap.size ≤ w1.heap.size):=HB1.out.size
  clear hp3 hr3 hb3 HR HG HND L2 HB5
  have hfld:=fldC
  go_wp2
  obtain ⟨g0,g1,g2,gf⟩:=row3 HG3.out.1
  exact bodyPost_ret (v:=.tuple #[plV t LN,.bool true]) (by simp [results,Tryz.results68,go_sem,g0,g1,g2]) rfl ⟨rfl,below_set3 (HB3.out.setCell (p:=⟨w1.heap.size,2,none⟩) HS5.out _) (Nat.le_refl _) _ _ _⟩
set_option maxHeartbeats 4000000 in
set_option maxRecDepth 100000 in
theorem Push_one (f:Bool) (s:ByteArray) (hs:s.size ≤ 524288) (hl:N.flatten.length ≤ 1000) (hI:QM.Inv E B N) (t q:Nat) (X:List ByteArray) (ht:t < N.length) (hX:N[t]=X) (w:World) (hw:Lay w) (h:LS w b0 g r c rest nv E B (nds B N)) (hEN:∀ W,LS W b0 g r c rest nv E B (nds B N) → Calls Tryz.prog 68 #[ptr g,.bool f] W fun e w'=>e=.returned (.tuple #[plV t q,.bool true])∧Below W.heap.size W w') (hb:QM.big B s=false) (hr:QM.room E B X=true) (hq:q ≤ X.length):Calls Tryz.prog 31 #[ptr g,.string s,.bool f] w fun e w'=>e=.returned (.int .i64 0)∧Chg w w' b0 g r c rest nv E B (QM.rep N t 1 [X.take q ++ s :: X.drop q]):=by
  have HL:Hid _:=h
  have HW:Hid _:=hw
  have HEN:Hid _:=hEN
  have HI:Hid _:=hI
  have hln:N.length ≤ 1000:=Nat.le_trans (QM.len_le hI.some) hl
  have HMJ:Hid (∀ W,LS W b0 g r c rest nv E B (nds B N) → Calls Tryz.prog 67 #[ptr g,.string s] W fun e w'=>e=.returned (.int .i64 0)∧w'=W):=fun W hW=>by
    have:=mayJoin_any s (by omega) W hW
    have e:mayQ (cntN (nds B N)) s=0:=by unfold mayQ; rw [cnt_nds,if_neg (by omega),if_neg (by omega)]
    rw [e] at this; exact this
  have HIL:Hid (∀ W,Calls Tryz.prog 57 #[.agg #[.int .i64 (E:Int),.int .i64 (B:Int)],.string s] W fun e w'=>e=.returned (.bool false)∧Below W.heap.size W w'):=fun W=>by
    have:=isLarge_any E B s (by omega) hI.lb W
    rw [hb] at this; exact this
  have hXm:X ∈ N:=by rw [← hX]; exact List.getElem_mem _
  have hXl:=hI.few X hXm
  have hXE:=hI.le
  have hlx:=(QM.room_iff.1 hr).2
  have HND:Hid (∀ W,LS W b0 g r c rest nv E B (nds B N) → Calls Tryz.prog 70 #[ptr g,plV t q] W fun e w'=>e=.returned (.agg #[.string (packN X),.int .i64 (X.length:Int),.bool false])∧Below W.heap.size W w'):=fun W hW=>by
    have:=nodeN_any t q ht hln W hW
    rw [hX,hlx] at this; exact this
  have HHR:Hid (∀ W,Calls Tryz.prog 69 #[.agg #[.int .i64 (E:Int),.int .i64 (B:Int)],.agg #[.string (packN X),.int .i64 (X.length:Int),.bool false]] W fun e w'=>e=.returned (.bool true)∧Below W.heap.size W w'):=fun W=>by
    have:=hasRoom_any E B X (packN X) hXE.2 (by omega) W
    rw [hr,hlx] at this; exact this
  clear hw h hEN hI
  go_enter Tryz.func31,Tryz.ntmps31
  go_wp2_with fail
  refine (show Calls _ _ _ _ _ from HMJ.out _ HL.out).mono ?_
  rintro e w1 ⟨rfl,rfl⟩
  go_wp2_with fail
  refine (show Calls _ _ _ _ _ from HEN.out _ HL.out).mono ?_
  rintro e w2 ⟨rfl,hb2⟩
  have HB2:Hid (Below w1.heap.size w1 w2):=hb2
  have hL2:=HL.out.on hb2
  have hwy:Below w1.heap.size w1 (w2.alloc (.cells #[.int .i64 0,.int .i64 (t:Int),.int .i64 (q:Int)] 67)):=HB2.out.alloc HB2.out.size _
  have hpy:=one_alloc w2 (.cells #[.int .i64 0,.int .i64 (t:Int),.int .i64 (q:Int)] 67)
  go_wp2_with fail
  generalize w2.alloc (.cells #[.int .i64 0,.int .i64 (t:Int),.int .i64 (q:Int)] 67)=y at *
  have HBY:Hid (∀ W,Below y.heap.size y W → Below w1.heap.size w1 W):=fun W hW=>bel_to hwy hW (Nat.le_refl _)
  obtain ⟨l0,l1,l2,l3,lf⟩:=lrow4 (HL.out.on hwy).hd
  obtain ⟨p0,p1,p2,pf⟩:=row3 hpy
  have hsz2:w1.heap.size ≤ w2.heap.size:=HB2.out.size
  have hSA:=And.intro p0 (And.intro p1 (And.intro p2 (And.intro l0 l1)))
  have HKS:Hid (∀ w':World,Below y.heap.size y w' → w'.cell? ⟨w2.heap.size,0,none⟩=some (.int .i64 0)∧w'.cell? ⟨w2.heap.size,1,none⟩=some (.int .i64 (t:Int))∧w'.cell? ⟨w2.heap.size,2,none⟩=some (.int .i64 (q:Int))∧w'.cell? ⟨g,0,none⟩=some (.int .i64 (E:Int))∧w'.cell? ⟨g,1,none⟩=some (.int .i64 (B:Int))):=fun W hW=>And.intro (cell_on p0 hW) (And.intro (cell_on p1 hW) (And.intro (cell_on p2 hW) (And.intro (cell_on l0 hW) (cell_on l1 hW))))
  have HKC:Hid (∀ (a w':World) (N':QM.NL),Below y.heap.size y a → Chg a w' b0 g r c rest nv E B N' → w'.cell? ⟨w2.heap.size,0,none⟩=some (.int .i64 0)∧w'.cell? ⟨w2.heap.size,1,none⟩=some (.int .i64 (t:Int))∧w'.cell? ⟨w2.heap.size,2,none⟩=some (.int .i64 (q:Int))∧w'.cell? ⟨g,0,none⟩=some (.int .i64 (E:Int))∧w'.cell? ⟨g,1,none⟩=some (.int .i64 (B:Int))):=fun a W N' ha hc=>And.intro (hc.cell HL.out hsz2 (cell_on p0 ha)) (And.intro (hc.cell HL.out hsz2 (cell_on p1 ha)) (And.intro (hc.cell HL.out hsz2 (cell_on p2 ha)) hc.bnd))
  have hfit:Fit X:=fit_node HI.out hXm
  have hsm:=QM.lg_not HI.out hXm hlx
  have hsB:s.size ≤ B:=QM.big_iff.1 hb
  have hlB:=HI.out.lb
  have hfit2:Fit (X.take q ++ s :: X.drop q):=fit_many (by simp; omega) (fun u hu=>by
    rcases List.mem_append.1 hu with h | h
    · have:=hsm u (List.mem_of_mem_take h); omega
    · rcases List.mem_cons.1 h with h | h
      · subst h; omega
      · have:=hsm u (List.mem_of_mem_drop h); omega)
  have hlg:QM.lg B (X.take q ++ s :: X.drop q)=false:=by
    cases hh:X.take q ++ s :: X.drop q with
    | nil=>rfl
    | cons u us =>
      have hu:u ∈ X.take q ++ s :: X.drop q:=by rw [hh]; simp
      unfold QM.lg
      rcases List.mem_append.1 hu with h | h
      · have:=hsm u (List.mem_of_mem_take h); simp; omega
      · rcases List.mem_cons.1 h with h | h
        · subst h; simp; omega
        · have:=hsm u (List.mem_of_mem_drop h); simp; omega
  have HWI:Hid (∀ W,Lay W → Calls Tryz.prog 71 #[.agg #[.string (packN X),.int .i64 (X.length:Int),.bool false],.int .i64 (q:Int),.string s] W fun e w'=>e=.returned (.agg #[.string (packN (X.take q ++ s :: X.drop q)),.int .i64 ((X.length + 1:Nat):Int),.bool false])∧Below W.heap.size W w'):=fun W hW=>with_any B X hfit q hq s hs hfit2 false W hW
  have HRP:Hid (∀ a W,Below w1.heap.size w1 a → W=a.alloc (.cells #[.string (packN (X.take q ++ s :: X.drop q)),.int .i64 ((X.length + 1:Nat):Int),.bool false] 57) → Calls Tryz.prog 26 #[ptr g,plV t q,.int .i64 1,.slice (some ⟨a.heap.size,0,none⟩) 1 1] W fun e w'=>e=.returned (.tuple #[])∧Chg a w' b0 g r c rest nv E B (QM.rep N t 1 [X.take q ++ s :: X.drop q])):=fun a W ha hW=>by
    subst hW
    have hLa:=HL.out.on ha
    have hba:Below a.heap.size a (a.alloc (.cells #[.string (packN (X.take q ++ s :: X.drop q)),.int .i64 ((X.length + 1:Nat):Int),.bool false] 57)):=(Below.refl _ _).alloc (Nat.le_refl _) _
    exact replN_any t q 1 a.heap.size [(packN (X.take q ++ s :: X.drop q),X.length + 1,false)] [X.take q ++ s :: X.drop q] ⟨⟨rfl,by simp; omega,fun _=>hlg.symm⟩,trivial⟩ a _ hba (hLa.on hba) hLa (by omega) hln (by omega) (by simp; omega) (by simp) (by simp) (nx_one a (packN (X.take q ++ s :: X.drop q),X.length + 1,false)) (Nat.le_refl _) (fun e=>by simp at e)
  generalize packN (X.take q ++ s :: X.drop q)=PK at *
  generalize X.length + 1=LN1 at *
  clear hlg hsm hsB hfit2 hfit hwy hpy l0 l1 l2 l3 lf p0 p1 p2 pf hb hr hlx HMJ HEN hX hXm
  go_region_held3 (fun w':World=>w'.cell? ⟨w2.heap.size,0,none⟩=some (.int .i64 0)∧w'.cell? ⟨w2.heap.size,1,none⟩=some (.int .i64 (t:Int))∧w'.cell? ⟨w2.heap.size,2,none⟩=some (.int .i64 (q:Int))∧w'.cell? ⟨g,0,none⟩=some (.int .i64 (E:Int))∧w'.cell? ⟨g,1,none⟩=some (.int .i64 (B:Int)))
    (first | exact hSA | exact HKS.out _ hx3 | exact HKS.out _ hx2 | exact HKS.out _ hx1 | exact HKS.out _ ((Below.refl _ y).drew))
    (first | (go_at_call 69; refine (show Calls _ _ _ _ _ from HHR.out _).mono ?_; rintro e a3 ⟨rfl,hb3⟩; have hx3:=bel_to hx2 hb3 (Nat.le_refl _)) | (go_at_call 70; refine (show Calls _ _ _ _ _ from HND.out _ (HL.out.on (HBY.out _ hx1))).mono ?_; rintro e a2 ⟨rfl,hb2⟩; have hx2:=bel_to hx1 hb2 (Nat.le_refl _)) | (go_at_call 57; refine (show Calls _ _ _ _ _ from HIL.out _).mono ?_; rintro e a1 ⟨rfl,hb1⟩; have hx1:=bel_to ((Below.refl _ y).drew) hb1 (Nat.le_refl _)))
  have HX3:Hid (Below y.heap.size y a3):=hx3
  have hSB:=HKS.out _ hx3
  clear hx1 hx2 hx3 hb1 hb2 hb3 hSA
  go_wp2_with fail
  go_region_held3 (fun w':World=>w'.cell? ⟨w2.heap.size,0,none⟩=some (.int .i64 0)∧w'.cell? ⟨w2.heap.size,1,none⟩=some (.int .i64 (t:Int))∧w'.cell? ⟨w2.heap.size,2,none⟩=some (.int .i64 (q:Int))∧w'.cell? ⟨g,0,none⟩=some (.int .i64 (E:Int))∧w'.cell? ⟨g,1,none⟩=some (.int .i64 (B:Int)))
    (first | exact hSB | exact HKS.out _ hx5 | exact HKS.out _ hx4 | exact HKC.out _ _ _ hx5 hc5 | exact HKS.out _ (hx5.alloc hx5.size _) | exact HKS.out _ (HX3.out.drew))
    (first | (go_at_call 26; refine (show Calls _ _ _ _ _ from HRP.out a5 _ (HBY.out _ hx5) rfl).mono ?_; rintro e a6 ⟨rfl,hc5⟩) | (go_at_call 71; refine (show Calls _ _ _ _ _ from HWI.out _ (HW.out.on (HBY.out _ hx4))).mono ?_; rintro e a5 ⟨rfl,hb5⟩; have hx5:=bel_to hx4 hb5 (Nat.le_refl _)) | (go_at_call 70; refine (show Calls _ _ _ _ _ from HND.out _ (HL.out.on (HBY.out _ HX3.out.drew))).mono ?_; rintro e a4 ⟨rfl,hb4⟩; have hx4:=bel_to HX3.out.drew hb4 (Nat.le_refl _)))
  have HC5:Hid _:=hc5.back (HBY.out _ hx5)
  clear hc5 hx4 hx5 hb4 hb5 hSB
  go_wp2
  go_returns
  exact ⟨rfl,HC5.out⟩
end
end Go.Proofs.YtjnbjfjoejfmpaaGreatDoor
namespace Go.Proofs.YtjnbjfjoejfmpaaGreatDoor
open Go.RowKit
set_option linter.unusedVariables false
set_option linter.unusedSimpArgs false
section
variable {b0 g r c:Nat} {rest:List Value} {nv:Value} {E B:Nat} {N:QM.NL}
set_option maxHeartbeats 4000000 in
set_option maxRecDepth 100000 in
theorem insert_big (t q:Nat) (X:List ByteArray) (ht:t < N.length) (hX:N[t]=X) (hq:q < X.length) (s:ByteArray) (hs:s.size ≤ 524288) (hb:QM.big B s=true) (hl:N.flatten.length ≤ 1000) (hI:QM.Inv E B N) (w:World) (hw:Lay w) (h:LS w b0 g r c rest nv E B (nds B N)):Calls Tryz.prog 80 #[ptr g,plV t q,.string s] w fun e w'=>e=.returned (.tuple #[])∧Chg w w' b0 g r c rest nv E B (QM.rep N t 1 [X.take q,[s],X.drop q]):=by
  have HL:Hid _:=h
  have HW:Hid _:=hw
  have HI:Hid _:=hI
  have hln:N.length ≤ 1000:=Nat.le_trans (QM.len_le hI.some) hl
  have hXm:X ∈ N:=by rw [← hX]; exact List.getElem_mem _
  have hXl:=hI.few X hXm
  have hXE:=hI.le
  have hfit:Fit X:=fit_node hI hXm
  have HND:Hid (∀ W,LS W b0 g r c rest nv E B (nds B N) → Calls Tryz.prog 70 #[ptr g,plV t q] W fun e w'=>e=.returned (.agg #[.string (packN X),.int .i64 (X.length:Int),.bool (QM.lg B X)])∧Below W.heap.size W w'):=fun W hW=>by
    have:=nodeN_any t q ht hln W hW
    rw [hX] at this; exact this
  obtain ⟨tb,bo,hbt⟩:∃ (tb:Nat) (bo:Bool),(if 0 < t then Value.tuple #[plV (t - 1) 0,.bool true] else .tuple #[plV 0 0,.bool false])=.tuple #[plV tb 0,.bool bo]:=by
    by_cases h0:0 < t
    · exact ⟨t - 1,true,by rw [if_pos h0]⟩
    · exact ⟨0,false,by rw [if_neg h0]⟩
  have HBS:Hid (∀ W,LS W b0 g r c rest nv E B (nds B N) → Calls Tryz.prog 91 #[ptr g,plV t q,.bool true] W fun e w'=>e=.returned (.tuple #[plV tb 0,.bool bo])∧Below W.heap.size W w'):=fun W hW=>by
    have:=beside_back t q W hW (by simpa [nds] using ht) (by simp [nds]; omega)
    rw [hbt] at this; exact this
  have HIL:Hid (∀ W,Calls Tryz.prog 57 #[.agg #[.int .i64 (E:Int),.int .i64 (B:Int)],.string s] W fun e w'=>e=.returned (.bool true)∧Below W.heap.size W w'):=fun W=>by
    have:=isLarge_any E B s (by omega) hI.lb W
    rw [hb] at this; exact this
  have HAH:Hid (∀ W,Lay W → Calls Tryz.prog 81 #[.agg #[.string (packN X),.int .i64 (X.length:Int),.bool (QM.lg B X)],.int .i64 (q:Int)] W fun e w'=>e=.returned (.agg #[.string (packN (X.take q)),.int .i64 (q:Int),.bool (QM.lg B X)])∧Below W.heap.size W w'):=fun W hW=>ahead_any B X hfit q (by omega) (QM.lg B X) W hW
  have HFM:Hid (∀ W,Lay W → Calls Tryz.prog 82 #[.agg #[.string (packN X),.int .i64 (X.length:Int),.bool (QM.lg B X)],.int .i64 (q:Int)] W fun e w'=>e=.returned (.agg #[.string (packN (X.drop q)),.int .i64 ((X.length - q:Nat):Int),.bool (QM.lg B X)])∧Below W.heap.size W w'):=fun W hW=>from_any B X hfit q (by omega) (QM.lg B X) W hW
  have HAL:Hid (∀ W,Lay W → Calls Tryz.prog 72 #[.agg #[.int .i64 (E:Int),.int .i64 (B:Int)],.string s] W fun e w'=>e=.returned (.agg #[.string (packN [s]),.int .i64 1,.bool true])∧Below W.heap.size W w'):=fun W hW=>by
    have:=alone_any E B s hs HI.out.lb W hW
    have e1:encN (ndOf B [s])=.agg #[.string (packN [s]),.int .i64 1,.bool (QM.big B s)]:=rfl
    rw [e1,hb] at this; exact this
  have HRP:Hid (∀ a W,Below w.heap.size w a → W=a.alloc (.cells #[.string (packN (X.take q)),.int .i64 (q:Int),.bool (QM.lg B X),.string (packN [s]),.int .i64 1,.bool true,.string (packN (X.drop q)),.int .i64 ((X.length - q:Nat):Int),.bool (QM.lg B X)] 57) → Calls Tryz.prog 26 #[ptr g,plV t q,.int .i64 1,.slice (some ⟨a.heap.size,0,none⟩) 3 3] W fun e w'=>e=.returned (.tuple #[])∧Chg a w' b0 g r c rest nv E B (QM.rep N t 1 [X.take q,[s],X.drop q])):=fun a W ha hW=>repl3_any t q q q X ht hX (by omega) (by omega) s HI.out hl a W (HL.out.on ha) (by rw [hb]; exact hW)
  clear hb
  generalize packN (X.take q)=PK1 at *
  generalize packN (X.drop q)=PK3 at *
  generalize packN [s]=PK2 at *
  generalize X.length - q=LR at *
  clear h hw hI hbt
  go_enter Tryz.func80,Tryz.ntmps80
  go_wp2_with fail
  refine (show Calls _ _ _ _ _ from HND.out _ (HL.out.on ((Below.refl _ w).alloc (Nat.le_refl _) _))).mono ?_
  rintro e w1 ⟨rfl,hb1⟩
  have HB1:Hid (Below w.heap.size w w1):=bel_to ((Below.refl _ w).alloc (Nat.le_refl _) _) hb1 (Nat.le_refl _)
  have hp1:=keep_row (one_alloc w (.cells #[.int .i64 0,.int .i64 (t:Int),.int .i64 (q:Int)] 67)) hb1
  have HP1:Hid _:=hp1
  obtain ⟨P0,P1,P2,PF⟩:=rowA3 hp1
  clear hb1 hp1
  go_wp2_with fail
  refine (show Calls _ _ _ _ _ from HBS.out _ (HL.out.on (HB1.out.alloc HB1.out.size _))).mono ?_
  rintro e w2 ⟨rfl,hb2⟩
  have HB2:Hid (Below w.heap.size w w2):=bel_to (HB1.out.alloc HB1.out.size _) hb2 (Nat.le_refl _)
  have hp2:=keep_row (keep_row HP1.out ((Below.refl _ _).alloc (Nat.le_refl _) (.cells #[.string (packN X),.int .i64 (X.length:Int),.bool (QM.lg B X)] 57))) hb2
  have hn2:=keep_row (one_alloc w1 (.cells #[.string (packN X),.int .i64 (X.length:Int),.bool (QM.lg B X)] 57)) hb2
  have hby:Below w2.heap.size w2 (w2.alloc (.cells #[.int .i64 0,.int .i64 (tb:Int),.int .i64 0] 67)):=(Below.refl _ _).alloc (Nat.le_refl _) _
  have hwy:Below w.heap.size w (w2.alloc (.cells #[.int .i64 0,.int .i64 (tb:Int),.int .i64 0] 67)):=bel_to HB2.out hby (Nat.le_refl _)
  obtain ⟨l0,l1,l2,l3,lf⟩:=lrow4 (HL.out.on HB2.out).hd
  have L0:=cell_a1 l0
  have L1:=cell_a1 l1
  have HSZ:Hid (w.heap.size ≤ w1.heap.size):=HB1.out.size
  have HPY:Hid _:=keep_row hp2 hby
  have HNY:Hid _:=keep_row hn2 hby
  have HWY:Hid _:=hwy
  clear hb2 hp2 hn2 hby hwy P0 P1 P2 PF l0 l1 l2 l3 lf
  go_wp2_with fail
  refine (show Calls _ _ _ _ _ from HIL.out _).mono ?_
  rintro e w3 ⟨rfl,hb3⟩
  have hw3:Below w.heap.size w w3:=bel_to HWY.out hb3 (Nat.le_refl _)
  have HBY:Hid (∀ W,Below w3.heap.size w3 W → Below w.heap.size w W):=fun W hW=>bel_to hw3 hW (Nat.le_refl _)
  obtain ⟨p0,p1,p2,pf⟩:=row3 (keep_row HPY.out hb3)
  obtain ⟨n0,n1,n2,nf⟩:=row3 (keep_row HNY.out hb3)
  obtain ⟨l0,l1,l2,l3,lf⟩:=lrow4 (HL.out.on hw3).hd
  have hSA:=And.intro p0 (And.intro p1 (And.intro p2 (And.intro n0 (And.intro n1 (And.intro n2 (And.intro l0 l1))))))
  have HKS:Hid (∀ w':World,Below w3.heap.size w3 w' → w'.cell? ⟨w.heap.size,0,none⟩=some (.int .i64 0)∧w'.cell? ⟨w.heap.size,1,none⟩=some (.int .i64 (t:Int))∧w'.cell? ⟨w.heap.size,2,none⟩=some (.int .i64 (q:Int))∧w'.cell? ⟨w1.heap.size,0,none⟩=some (.string (packN X))∧w'.cell? ⟨w1.heap.size,1,none⟩=some (.int .i64 (X.length:Int))∧w'.cell? ⟨w1.heap.size,2,none⟩=some (.bool (QM.lg B X))∧w'.cell? ⟨g,0,none⟩=some (.int .i64 (E:Int))∧w'.cell? ⟨g,1,none⟩=some (.int .i64 (B:Int))):=fun W hW=>And.intro (cell_on p0 hW) (And.intro (cell_on p1 hW) (And.intro (cell_on p2 hW) (And.intro (cell_on n0 hW) (And.intro (cell_on n1 hW) (And.intro (cell_on n2 hW) (And.intro (cell_on l0 hW) (cell_on l1 hW)))))))
  have HKC:Hid (∀ (a w':World) (N':QM.NL),Below w3.heap.size w3 a → Chg a w' b0 g r c rest nv E B N' → w'.cell? ⟨w.heap.size,0,none⟩=some (.int .i64 0)∧w'.cell? ⟨w.heap.size,1,none⟩=some (.int .i64 (t:Int))∧w'.cell? ⟨w.heap.size,2,none⟩=some (.int .i64 (q:Int))∧w'.cell? ⟨w1.heap.size,0,none⟩=some (.string (packN X))∧w'.cell? ⟨w1.heap.size,1,none⟩=some (.int .i64 (X.length:Int))∧w'.cell? ⟨w1.heap.size,2,none⟩=some (.bool (QM.lg B X))∧w'.cell? ⟨g,0,none⟩=some (.int .i64 (E:Int))∧w'.cell? ⟨g,1,none⟩=some (.int .i64 (B:Int))):=fun a W N' ha hc=>And.intro (hc.cell HL.out (Nat.le_refl _) (cell_on p0 ha)) (And.intro (hc.cell HL.out (Nat.le_refl _) (cell_on p1 ha)) (And.intro (hc.cell HL.out (Nat.le_refl _) (cell_on p2 ha)) (And.intro (hc.cell HL.out HSZ.out (cell_on n0 ha)) (And.intro (hc.cell HL.out HSZ.out (cell_on n1 ha)) (And.intro (hc.cell HL.out HSZ.out (cell_on n2 ha)) hc.bnd)))))
  clear hw3 hb3 L0 L1
  go_wp2_with fail
  go_region_held3 (fun w':World=>w'.cell? ⟨w.heap.size,0,none⟩=some (.int .i64 0)∧w'.cell? ⟨w.heap.size,1,none⟩=some (.int .i64 (t:Int))∧w'.cell? ⟨w.heap.size,2,none⟩=some (.int .i64 (q:Int))∧w'.cell? ⟨w1.heap.size,0,none⟩=some (.string (packN X))∧w'.cell? ⟨w1.heap.size,1,none⟩=some (.int .i64 (X.length:Int))∧w'.cell? ⟨w1.heap.size,2,none⟩=some (.bool (QM.lg B X))∧w'.cell? ⟨g,0,none⟩=some (.int .i64 (E:Int))∧w'.cell? ⟨g,1,none⟩=some (.int .i64 (B:Int)))
    (first | exact hSA | exact HKS.out _ hx3 | exact HKS.out _ hx2 | exact HKS.out _ hx1 | exact HKC.out _ _ _ hx3 hc5 | exact HKS.out _ (hx3.alloc hx3.size _) | exact HKS.out _ ((Below.refl _ w3).drew))
    (first | (go_at_call 26; refine (show Calls _ _ _ _ _ from HRP.out a3 _ (HBY.out _ hx3) rfl).mono ?_; rintro e a5 ⟨rfl,hc5⟩) | (go_at_call 82; refine (show Calls _ _ _ _ _ from HFM.out _ (HW.out.on (HBY.out _ hx2))).mono ?_; rintro e a3 ⟨rfl,hb3⟩; have hx3:=bel_to hx2 hb3 (Nat.le_refl _)) | (go_at_call 72; refine (show Calls _ _ _ _ _ from HAL.out _ (HW.out.on (HBY.out _ hx1))).mono ?_; rintro e a2 ⟨rfl,hb2⟩; have hx2:=bel_to hx1 hb2 (Nat.le_refl _)) | (go_at_call 81; refine (show Calls _ _ _ _ _ from HAH.out _ (HW.out.on (HBY.out _ ((Below.refl _ w3).drew)))).mono ?_; rintro e a1 ⟨rfl,hb1⟩; have hx1:=bel_to ((Below.refl _ w3).drew) hb1 (Nat.le_refl _)))
  have HC5:Hid _:=hc5.back (HBY.out _ hx3)
  clear hc5 hx1 hx2 hx3 hb1 hb2 hb3 hSA p0 p1 p2 pf n0 n1 n2 nf l0 l1 l2 l3 lf
  go_wp2
  go_returns
  exact ⟨rfl,HC5.out⟩
end
end Go.Proofs.YtjnbjfjoejfmpaaGreatDoor
namespace Go.Proofs.YtjnbjfjoejfmpaaGreatDoor
open Go.RowKit
set_option linter.unusedVariables false
set_option linter.unusedSimpArgs false
section
variable {b0 g r c:Nat} {rest:List Value} {nv:Value} {E B:Nat} {N:QM.NL}
set_option maxHeartbeats 4000000 in
set_option maxRecDepth 100000 in
theorem insert_room (t q:Nat) (X:List ByteArray) (ht:t < N.length) (hX:N[t]=X) (hq:q < X.length) (s:ByteArray) (hs:s.size ≤ 524288) (hb:QM.big B s=false) (hr:QM.room E B X=true) (hl:N.flatten.length ≤ 1000) (hI:QM.Inv E B N) (w:World) (hw:Lay w) (h:LS w b0 g r c rest nv E B (nds B N)):Calls Tryz.prog 80 #[ptr g,plV t q,.string s] w fun e w'=>e=.returned (.tuple #[])∧Chg w w' b0 g r c rest nv E B (QM.rep N t 1 [X.take q ++ s :: X.drop q]):=by
  have HL:Hid _:=h
  have HW:Hid _:=hw
  have HI:Hid _:=hI
  have hln:N.length ≤ 1000:=Nat.le_trans (QM.len_le hI.some) hl
  have hXm:X ∈ N:=by rw [← hX]; exact List.getElem_mem _
  have hXl:=hI.few X hXm
  have hXE:=hI.le
  have hfit:Fit X:=fit_node hI hXm
  have HND:Hid (∀ W,LS W b0 g r c rest nv E B (nds B N) → Calls Tryz.prog 70 #[ptr g,plV t q] W fun e w'=>e=.returned (.agg #[.string (packN X),.int .i64 (X.length:Int),.bool (QM.lg B X)])∧Below W.heap.size W w'):=fun W hW=>by
    have:=nodeN_any t q ht hln W hW
    rw [hX] at this; exact this
  obtain ⟨tb,bo,hbt⟩:∃ (tb:Nat) (bo:Bool),(if 0 < t then Value.tuple #[plV (t - 1) 0,.bool true] else .tuple #[plV 0 0,.bool false])=.tuple #[plV tb 0,.bool bo]:=by
    by_cases h0:0 < t
    · exact ⟨t - 1,true,by rw [if_pos h0]⟩
    · exact ⟨0,false,by rw [if_neg h0]⟩
  have HBS:Hid (∀ W,LS W b0 g r c rest nv E B (nds B N) → Calls Tryz.prog 91 #[ptr g,plV t q,.bool true] W fun e w'=>e=.returned (.tuple #[plV tb 0,.bool bo])∧Below W.heap.size W w'):=fun W hW=>by
    have:=beside_back t q W hW (by simpa [nds] using ht) (by simp [nds]; omega)
    rw [hbt] at this; exact this
  have HIL:Hid (∀ W,Calls Tryz.prog 57 #[.agg #[.int .i64 (E:Int),.int .i64 (B:Int)],.string s] W fun e w'=>e=.returned (.bool false)∧Below W.heap.size W w'):=fun W=>by
    have:=isLarge_any E B s (by omega) hI.lb W
    rw [hb] at this; exact this
  have hlx:=(QM.room_iff.1 hr).2
  have HHR:Hid (∀ W,Calls Tryz.prog 69 #[.agg #[.int .i64 (E:Int),.int .i64 (B:Int)],.agg #[.string (packN X),.int .i64 (X.length:Int),.bool (QM.lg B X)]] W fun e w'=>e=.returned (.bool true)∧Below W.heap.size W w'):=fun W=>by
    have:=hasRoom_any E B X (packN X) hXE.2 (by omega) W
    rw [hr] at this; exact this
  have hsm:=QM.lg_not HI.out hXm hlx
  have hsB:s.size ≤ B:=QM.big_iff.1 hb
  have hlB:=HI.out.lb
  have hfit2:Fit (X.take q ++ s :: X.drop q):=fit_many (by simp; omega) (fun u hu=>by
    rcases List.mem_append.1 hu with h | h
    · have:=hsm u (List.mem_of_mem_take h); omega
    · rcases List.mem_cons.1 h with h | h
      · subst h; omega
      · have:=hsm u (List.mem_of_mem_drop h); omega)
  have hlg:QM.lg B (X.take q ++ s :: X.drop q)=QM.lg B X:=by
    rw [hlx]
    cases hh:X.take q ++ s :: X.drop q with
    | nil=>rfl
    | cons u us =>
      have hu:u ∈ X.take q ++ s :: X.drop q:=by rw [hh]; simp
      unfold QM.lg
      rcases List.mem_append.1 hu with h | h
      · have:=hsm u (List.mem_of_mem_take h); simp; omega
      · rcases List.mem_cons.1 h with h | h
        · subst h; simp; omega
        · have:=hsm u (List.mem_of_mem_drop h); simp; omega
  have HWI:Hid (∀ W,Lay W → Calls Tryz.prog 71 #[.agg #[.string (packN X),.int .i64 (X.length:Int),.bool (QM.lg B X)],.int .i64 (q:Int),.string s] W fun e w'=>e=.returned (.agg #[.string (packN (X.take q ++ s :: X.drop q)),.int .i64 ((X.length + 1:Nat):Int),.bool (QM.lg B X)])∧Below W.heap.size W w'):=fun W hW=>with_any B X hfit q (by omega) s hs hfit2 (QM.lg B X) W hW
  have HRP:Hid (∀ a W,Below w.heap.size w a → W=a.alloc (.cells #[.string (packN (X.take q ++ s :: X.drop q)),.int .i64 ((X.length + 1:Nat):Int),.bool (QM.lg B X)] 57) → Calls Tryz.prog 26 #[ptr g,plV t q,.int .i64 1,.slice (some ⟨a.heap.size,0,none⟩) 1 1] W fun e w'=>e=.returned (.tuple #[])∧Chg a w' b0 g r c rest nv E B (QM.rep N t 1 [X.take q ++ s :: X.drop q])):=fun a W ha hW=>by
    subst hW
    have hLa:=HL.out.on ha
    have hba:Below a.heap.size a (a.alloc (.cells #[.string (packN (X.take q ++ s :: X.drop q)),.int .i64 ((X.length + 1:Nat):Int),.bool (QM.lg B X)] 57)):=(Below.refl _ _).alloc (Nat.le_refl _) _
    exact replN_any t q 1 a.heap.size [(packN (X.take q ++ s :: X.drop q),X.length + 1,QM.lg B X)] [X.take q ++ s :: X.drop q] ⟨⟨rfl,by simp; omega,fun _=>hlg.symm⟩,trivial⟩ a _ hba (hLa.on hba) hLa (by omega) hln (by omega) (by simp; omega) (by simp) (by simp) (nx_one a (packN (X.take q ++ s :: X.drop q),X.length + 1,QM.lg B X)) (Nat.le_refl _) (fun e=>by simp at e)
  generalize packN (X.take q ++ s :: X.drop q)=PK at *
  generalize X.length + 1=LN1 at *
  clear hlg hsm hsB hfit2 hfit hb hr hlx
  clear h hw hI hbt
  go_enter Tryz.func80,Tryz.ntmps80
  go_wp2_with fail
  refine (show Calls _ _ _ _ _ from HND.out _ (HL.out.on ((Below.refl _ w).alloc (Nat.le_refl _) _))).mono ?_
  rintro e w1 ⟨rfl,hb1⟩
  have HB1:Hid (Below w.heap.size w w1):=bel_to ((Below.refl _ w).alloc (Nat.le_refl _) _) hb1 (Nat.le_refl _)
  have hp1:=keep_row (one_alloc w (.cells #[.int .i64 0,.int .i64 (t:Int),.int .i64 (q:Int)] 67)) hb1
  have HP1:Hid _:=hp1
  obtain ⟨P0,P1,P2,PF⟩:=rowA3 hp1
  clear hb1 hp1
  go_wp2_with fail
  refine (show Calls _ _ _ _ _ from HBS.out _ (HL.out.on (HB1.out.alloc HB1.out.size _))).mono ?_
  rintro e w2 ⟨rfl,hb2⟩
  have HB2:Hid (Below w.heap.size w w2):=bel_to (HB1.out.alloc HB1.out.size _) hb2 (Nat.le_refl _)
  have hp2:=keep_row (keep_row HP1.out ((Below.refl _ _).alloc (Nat.le_refl _) (.cells #[.string (packN X),.int .i64 (X.length:Int),.bool (QM.lg B X)] 57))) hb2
  have hn2:=keep_row (one_alloc w1 (.cells #[.string (packN X),.int .i64 (X.length:Int),.bool (QM.lg B X)] 57)) hb2
  have hby:Below w2.heap.size w2 (w2.alloc (.cells #[.int .i64 0,.int .i64 (tb:Int),.int .i64 0] 67)):=(Below.refl _ _).alloc (Nat.le_refl _) _
  have hwy:Below w.heap.size w (w2.alloc (.cells #[.int .i64 0,.int .i64 (tb:Int),.int .i64 0] 67)):=bel_to HB2.out hby (Nat.le_refl _)
  obtain ⟨l0,l1,l2,l3,lf⟩:=lrow4 (HL.out.on HB2.out).hd
  have L0:=cell_a1 l0
  have L1:=cell_a1 l1
  have HSZ:Hid (w.heap.size ≤ w1.heap.size):=HB1.out.size
  have HPY:Hid _:=keep_row hp2 hby
  have HNY:Hid _:=keep_row hn2 hby
  have HWY:Hid _:=hwy
  clear hb2 hp2 hn2 hby hwy P0 P1 P2 PF l0 l1 l2 l3 lf
  go_wp2_with fail
  refine (show Calls _ _ _ _ _ from HIL.out _).mono ?_
  rintro e w3 ⟨rfl,hb3⟩
  have hw3:Below w.heap.size w w3:=bel_to HWY.out hb3 (Nat.le_refl _)
  have HBY:Hid (∀ W,Below w3.heap.size w3 W → Below w.heap.size w W):=fun W hW=>bel_to hw3 hW (Nat.le_refl _)
  obtain ⟨p0,p1,p2,pf⟩:=row3 (keep_row HPY.out hb3)
  obtain ⟨n0,n1,n2,nf⟩:=row3 (keep_row HNY.out hb3)
  obtain ⟨l0,l1,l2,l3,lf⟩:=lrow4 (HL.out.on hw3).hd
  have hSA:=And.intro p0 (And.intro p1 (And.intro p2 (And.intro n0 (And.intro n1 (And.intro n2 (And.intro l0 l1))))))
  have HKS:Hid (∀ w':World,Below w3.heap.size w3 w' → w'.cell? ⟨w.heap.size,0,none⟩=some (.int .i64 0)∧w'.cell? ⟨w.heap.size,1,none⟩=some (.int .i64 (t:Int))∧w'.cell? ⟨w.heap.size,2,none⟩=some (.int .i64 (q:Int))∧w'.cell? ⟨w1.heap.size,0,none⟩=some (.string (packN X))∧w'.cell? ⟨w1.heap.size,1,none⟩=some (.int .i64 (X.length:Int))∧w'.cell? ⟨w1.heap.size,2,none⟩=some (.bool (QM.lg B X))∧w'.cell? ⟨g,0,none⟩=some (.int .i64 (E:Int))∧w'.cell? ⟨g,1,none⟩=some (.int .i64 (B:Int))):=fun W hW=>And.intro (cell_on p0 hW) (And.intro (cell_on p1 hW) (And.intro (cell_on p2 hW) (And.intro (cell_on n0 hW) (And.intro (cell_on n1 hW) (And.intro (cell_on n2 hW) (And.intro (cell_on l0 hW) (cell_on l1 hW)))))))
  have HKC:Hid (∀ (a w':World) (N':QM.NL),Below w3.heap.size w3 a → Chg a w' b0 g r c rest nv E B N' → w'.cell? ⟨w.heap.size,0,none⟩=some (.int .i64 0)∧w'.cell? ⟨w.heap.size,1,none⟩=some (.int .i64 (t:Int))∧w'.cell? ⟨w.heap.size,2,none⟩=some (.int .i64 (q:Int))∧w'.cell? ⟨w1.heap.size,0,none⟩=some (.string (packN X))∧w'.cell? ⟨w1.heap.size,1,none⟩=some (.int .i64 (X.length:Int))∧w'.cell? ⟨w1.heap.size,2,none⟩=some (.bool (QM.lg B X))∧w'.cell? ⟨g,0,none⟩=some (.int .i64 (E:Int))∧w'.cell? ⟨g,1,none⟩=some (.int .i64 (B:Int))):=fun a W N' ha hc=>And.intro (hc.cell HL.out (Nat.le_refl _) (cell_on p0 ha)) (And.intro (hc.cell HL.out (Nat.le_refl _) (cell_on p1 ha)) (And.intro (hc.cell HL.out (Nat.le_refl _) (cell_on p2 ha)) (And.intro (hc.cell HL.out HSZ.out (cell_on n0 ha)) (And.intro (hc.cell HL.out HSZ.out (cell_on n1 ha)) (And.intro (hc.cell HL.out HSZ.out (cell_on n2 ha)) hc.bnd)))))
  clear hw3 hb3 L0 L1
  go_wp2_with fail
  go_region_held3 (fun w':World=>w'.cell? ⟨w.heap.size,0,none⟩=some (.int .i64 0)∧w'.cell? ⟨w.heap.size,1,none⟩=some (.int .i64 (t:Int))∧w'.cell? ⟨w.heap.size,2,none⟩=some (.int .i64 (q:Int))∧w'.cell? ⟨w1.heap.size,0,none⟩=some (.string (packN X))∧w'.cell? ⟨w1.heap.size,1,none⟩=some (.int .i64 (X.length:Int))∧w'.cell? ⟨w1.heap.size,2,none⟩=some (.bool (QM.lg B X))∧w'.cell? ⟨g,0,none⟩=some (.int .i64 (E:Int))∧w'.cell? ⟨g,1,none⟩=some (.int .i64 (B:Int)))
    (first | exact hSA | exact HKS.out _ hx0 | exact HKS.out _ ((Below.refl _ w3).drew))
    (first | (go_at_call 69; refine (show Calls _ _ _ _ _ from HHR.out _).mono ?_; rintro e w4 ⟨rfl,hb4⟩; have hx0:=bel_to ((Below.refl _ w3).drew) hb4 (Nat.le_refl _)))
  have HX4:Hid (Below w3.heap.size w3 w4):=hx0
  have hSB:=HKS.out _ hx0
  clear hb4 hx0 hSA p0 p1 p2 pf n0 n1 n2 nf l0 l1 l2 l3 lf
  go_wp2_with fail
  go_region_held3 (fun w':World=>w'.cell? ⟨w.heap.size,0,none⟩=some (.int .i64 0)∧w'.cell? ⟨w.heap.size,1,none⟩=some (.int .i64 (t:Int))∧w'.cell? ⟨w.heap.size,2,none⟩=some (.int .i64 (q:Int))∧w'.cell? ⟨w1.heap.size,0,none⟩=some (.string (packN X))∧w'.cell? ⟨w1.heap.size,1,none⟩=some (.int .i64 (X.length:Int))∧w'.cell? ⟨w1.heap.size,2,none⟩=some (.bool (QM.lg B X))∧w'.cell? ⟨g,0,none⟩=some (.int .i64 (E:Int))∧w'.cell? ⟨g,1,none⟩=some (.int .i64 (B:Int)))
    (first | exact hSB | exact HKS.out _ hx1 | exact HKC.out _ _ _ hx1 hc5 | exact HKS.out _ (hx1.alloc hx1.size _) | exact HKS.out _ (HX4.out.drew))
    (first | (go_at_call 26; refine (show Calls _ _ _ _ _ from HRP.out a1 _ (HBY.out _ hx1) rfl).mono ?_; rintro e a5 ⟨rfl,hc5⟩) | (go_at_call 71; refine (show Calls _ _ _ _ _ from HWI.out _ (HW.out.on (HBY.out _ HX4.out.drew))).mono ?_; rintro e a1 ⟨rfl,hb1⟩; have hx1:=bel_to HX4.out.drew hb1 (Nat.le_refl _)))
  have HC5:Hid _:=hc5.back (HBY.out _ hx1)
  clear hc5 hx1 hb1 hSB
  go_wp2
  go_returns
  exact ⟨rfl,HC5.out⟩
end
end Go.Proofs.YtjnbjfjoejfmpaaGreatDoor
