import Derived.Test.YtjnbjfjoejfmpaaGreatDoorWAQ
namespace Go.Proofs.YtjnbjfjoejfmpaaGreatDoor
open Go.RowKit
set_option linter.unusedVariables false
set_option linter.unusedSimpArgs false
section
variable {b0 g r c:Nat} {rest:List Value} {nv:Value} {E B:Nat} {N:QM.NL}
set_option maxHeartbeats 4000000 in
set_option maxRecDepth 100000 in
theorem insert_split (t q:Nat) (X:List ByteArray) (ht:t < N.length) (hX:N[t]=X) (hq:q < X.length) (s:ByteArray) (hs:s.size ≤ 524288) (hb:QM.big B s=false) (hr:QM.room E B X=false) (hq0:0 < q) (hl:N.flatten.length ≤ 1000) (hI:QM.Inv E B N) (w:World) (hw:Lay w) (h:LS w b0 g r c rest nv E B (nds B N)):Calls Tryz.prog 80 #[ptr g,plV t q,.string s] w fun e w'=>e=.returned (.tuple #[])∧Chg w w' b0 g r c rest nv E B (QM.rep N t 1 [X.take q ++ [s],X.drop q]):=by
  have HL:Hid _:=h
  have HW:Hid _:=hw
  have HI:Hid _:=hI
  have hln:N.length ≤ 1000:=Nat.le_trans (QM.len_le hI.some) hl
  have hXm:X ∈ N:=by rw [← hX]; exact List.getElem_mem _
  have hXl:=hI.few X hXm
  have hXE:=hI.le
  have hfit:Fit X:=fit_node hI hXm
  have HND:Hid (∀ W,LS W b0 g r c rest nv E B (nds B N) → Calls Tryz.prog 70 #[ptr g,plV t q] W fun e w'=>e=.returned (.agg #[.string (packN X),.int .i64 (X.length:Int),.bool (QM.lg B X)])∧Below W.heap.size W w'):=fun W hW=>by
    have:=nodeN_any t q ht hln W hW
    rw [hX] at this; exact this
  obtain ⟨tb,bo,hbt⟩:∃ (tb:Nat) (bo:Bool),(if 0 < t then Value.tuple #[plV (t - 1) 0,.bool true] else .tuple #[plV 0 0,.bool false])=.tuple #[plV tb 0,.bool bo]:=by
    by_cases h0:0 < t
    · exact ⟨t - 1,true,by rw [if_pos h0]⟩
    · exact ⟨0,false,by rw [if_neg h0]⟩
  have HBS:Hid (∀ W,LS W b0 g r c rest nv E B (nds B N) → Calls Tryz.prog 91 #[ptr g,plV t q,.bool true] W fun e w'=>e=.returned (.tuple #[plV tb 0,.bool bo])∧Below W.heap.size W w'):=fun W hW=>by
    have:=beside_back t q W hW (by simpa [nds] using ht) (by simp [nds]; omega)
    rw [hbt] at this; exact this
  have HIL:Hid (∀ W,Calls Tryz.prog 57 #[.agg #[.int .i64 (E:Int),.int .i64 (B:Int)],.string s] W fun e w'=>e=.returned (.bool false)∧Below W.heap.size W w'):=fun W=>by
    have:=isLarge_any E B s (by omega) hI.lb W
    rw [hb] at this; exact this
  have hlx:QM.lg B X=false:=by
    cases hh:QM.lg B X with
    | false=>rfl
    | true =>
      obtain ⟨u,hu,_⟩:=QM.lg_alone HI.out hXm hh
      rw [hu] at hq; simp at hq; omega
  have HHR:Hid (∀ W,Calls Tryz.prog 69 #[.agg #[.int .i64 (E:Int),.int .i64 (B:Int)],.agg #[.string (packN X),.int .i64 (X.length:Int),.bool (QM.lg B X)]] W fun e w'=>e=.returned (.bool false)∧Below W.heap.size W w'):=fun W=>by
    have:=hasRoom_any E B X (packN X) hXE.2 (by omega) W
    rw [hr] at this; exact this
  have hsm:=QM.lg_not HI.out hXm hlx
  have hsB:s.size ≤ B:=QM.big_iff.1 hb
  have hlB:=HI.out.lb
  have hsmall:∀ u ∈ X.take q ++ [s],u.size ≤ B:=fun u hu=>by
    rcases List.mem_append.1 hu with h | h
    · exact hsm u (List.mem_of_mem_take h)
    · simp at h; subst h; exact hsB
  have hfitT:Fit (X.take q):=hfit.sub (List.take_sublist _ _)
  have hfit2:Fit (X.take q ++ [s]):=fit_many (by simp; omega) (fun u hu=>by have:=hsmall u hu; omega)
  have hlg:QM.lg B (X.take q ++ [s])=QM.lg B X:=by
    rw [hlx]
    cases hh:X.take q ++ [s] with
    | nil=>rfl
    | cons u us =>
      have:=hsmall u (by rw [hh]; simp)
      unfold QM.lg; simp; omega
  have htl:(X.take q).length=q:=by rw [List.length_take]; omega
  have HAH:Hid (∀ W,Lay W → Calls Tryz.prog 81 #[.agg #[.string (packN X),.int .i64 (X.length:Int),.bool (QM.lg B X)],.int .i64 (q:Int)] W fun e w'=>e=.returned (.agg #[.string (packN (X.take q)),.int .i64 (q:Int),.bool (QM.lg B X)])∧Below W.heap.size W w'):=fun W hW=>ahead_any B X hfit q (by omega) (QM.lg B X) W hW
  have HFM:Hid (∀ W,Lay W → Calls Tryz.prog 82 #[.agg #[.string (packN X),.int .i64 (X.length:Int),.bool (QM.lg B X)],.int .i64 (q:Int)] W fun e w'=>e=.returned (.agg #[.string (packN (X.drop q)),.int .i64 ((X.length - q:Nat):Int),.bool (QM.lg B X)])∧Below W.heap.size W w'):=fun W hW=>from_any B X hfit q (by omega) (QM.lg B X) W hW
  have HWI:Hid (∀ W,Lay W → Calls Tryz.prog 71 #[.agg #[.string (packN (X.take q)),.int .i64 (q:Int),.bool (QM.lg B X)],.int .i64 (q:Int),.string s] W fun e w'=>e=.returned (.agg #[.string (packN (X.take q ++ [s])),.int .i64 ((q + 1:Nat):Int),.bool (QM.lg B X)])∧Below W.heap.size W w'):=fun W hW=>by
    have e1:(X.take q).take q ++ s :: (X.take q).drop q=X.take q ++ [s]:=by
      rw [List.take_of_length_le (by omega),List.drop_eq_nil_of_le (by omega)]
    have:=with_any B (X.take q) hfitT q (by omega) s hs (by rw [e1]; exact hfit2) (QM.lg B X) W hW
    rw [e1,htl] at this; exact this
  have HRP:Hid (∀ a W,Below w.heap.size w a → W=a.alloc (.cells #[.string (packN (X.take q ++ [s])),.int .i64 ((q + 1:Nat):Int),.bool (QM.lg B X),.string (packN (X.drop q)),.int .i64 ((X.length - q:Nat):Int),.bool (QM.lg B X)] 57) → Calls Tryz.prog 26 #[ptr g,plV t q,.int .i64 1,.slice (some ⟨a.heap.size,0,none⟩) 2 2] W fun e w'=>e=.returned (.tuple #[])∧Chg a w' b0 g r c rest nv E B (QM.rep N t 1 [X.take q ++ [s],X.drop q])):=fun a W ha hW=>by
    subst hW
    have hLa:=HL.out.on ha
    have hba:Below a.heap.size a (a.alloc (.cells #[.string (packN (X.take q ++ [s])),.int .i64 ((q + 1:Nat):Int),.bool (QM.lg B X),.string (packN (X.drop q)),.int .i64 ((X.length - q:Nat):Int),.bool (QM.lg B X)] 57)):=(Below.refl _ _).alloc (Nat.le_refl _) _
    exact replN_any t q 1 a.heap.size [(packN (X.take q ++ [s]),q + 1,QM.lg B X),(packN (X.drop q),X.length - q,QM.lg B X)] [X.take q ++ [s],X.drop q] ⟨⟨rfl,by simp; omega,fun _=>hlg.symm⟩,⟨rfl,by simp,fun hne=>(lg_drop HI.out hXm hne).symm⟩,trivial⟩ a _ hba (hLa.on hba) hLa (by omega) hln (by omega) (by simp; omega) (by simp) (by simp) (nx_two a (packN (X.take q ++ [s]),q + 1,QM.lg B X) (packN (X.drop q),X.length - q,QM.lg B X)) (Nat.le_refl _) (fun e=>by simp at e)
  have hqz:¬ ((q:Int)=0):=by omega
  have hqb:((q:Int) == 0)=false:=by simp; omega
  generalize packN (X.take q ++ [s])=PK at *
  generalize packN (X.take q)=PK1 at *
  generalize packN (X.drop q)=PK3 at *
  generalize X.length - q=LR at *
  generalize q + 1=q1 at *
  clear hlg hsm hsB hfit2 hfit hfitT hsmall htl hb hr hlx
  clear h hw hI hbt
  go_enter Tryz.func80,Tryz.ntmps80
  go_wp2_with fail
  refine (show Calls _ _ _ _ _ from HND.out _ (HL.out.on ((Below.refl _ w).alloc (Nat.le_refl _) _))).mono ?_
  rintro e w1 ⟨rfl,hb1⟩
  have HB1:Hid (Below w.heap.size w w1):=bel_to ((Below.refl _ w).alloc (Nat.le_refl _) _) hb1 (Nat.le_refl _)
  have hp1:=keep_row (one_alloc w (.cells #[.int .i64 0,.int .i64 (t:Int),.int .i64 (q:Int)] 67)) hb1
  have HP1:Hid _:=hp1
  obtain ⟨P0,P1,P2,PF⟩:=rowA3 hp1
  clear hb1 hp1
  go_wp2_with fail
  refine (show Calls _ _ _ _ _ from HBS.out _ (HL.out.on (HB1.out.alloc HB1.out.size _))).mono ?_
  rintro e w2 ⟨rfl,hb2⟩
  have HB2:Hid (Below w.heap.size w w2):=bel_to (HB1.out.alloc HB1.out.size _) hb2 (Nat.le_refl _)
  have hp2:=keep_row (keep_row HP1.out ((Below.refl _ _).alloc (Nat.le_refl _) (.cells #[.string (packN X),.int .i64 (X.length:Int),.bool (QM.lg B X)] 57))) hb2
  have hn2:=keep_row (one_alloc w1 (.cells #[.string (packN X),.int .i64 (X.length:Int),.bool (QM.lg B X)] 57)) hb2
  have hby:Below w2.heap.size w2 (w2.alloc (.cells #[.int .i64 0,.int .i64 (tb:Int),.int .i64 0] 67)):=(Below.refl _ _).alloc (Nat.le_refl _) _
  have hwy:Below w.heap.size w (w2.alloc (.cells #[.int .i64 0,.int .i64 (tb:Int),.int .i64 0] 67)):=bel_to HB2.out hby (Nat.le_refl _)
  obtain ⟨l0,l1,l2,l3,lf⟩:=lrow4 (HL.out.on HB2.out).hd
  have L0:=cell_a1 l0
  have L1:=cell_a1 l1
  have HSZ:Hid (w.heap.size ≤ w1.heap.size):=HB1.out.size
  have HPY:Hid _:=keep_row hp2 hby
  have HNY:Hid _:=keep_row hn2 hby
  have HWY:Hid _:=hwy
  clear hb2 hp2 hn2 hby hwy P0 P1 P2 PF l0 l1 l2 l3 lf
  go_wp2_with fail
  refine (show Calls _ _ _ _ _ from HIL.out _).mono ?_
  rintro e w3 ⟨rfl,hb3⟩
  have hw3:Below w.heap.size w w3:=bel_to HWY.out hb3 (Nat.le_refl _)
  have HBY:Hid (∀ W,Below w3.heap.size w3 W → Below w.heap.size w W):=fun W hW=>bel_to hw3 hW (Nat.le_refl _)
  obtain ⟨p0,p1,p2,pf⟩:=row3 (keep_row HPY.out hb3)
  obtain ⟨n0,n1,n2,nf⟩:=row3 (keep_row HNY.out hb3)
  obtain ⟨l0,l1,l2,l3,lf⟩:=lrow4 (HL.out.on hw3).hd
  have hSA:=And.intro p0 (And.intro p1 (And.intro p2 (And.intro n0 (And.intro n1 (And.intro n2 (And.intro l0 l1))))))
  have HKS:Hid (∀ w':World,Below w3.heap.size w3 w' → w'.cell? ⟨w.heap.size,0,none⟩=some (.int .i64 0)∧w'.cell? ⟨w.heap.size,1,none⟩=some (.int .i64 (t:Int))∧w'.cell? ⟨w.heap.size,2,none⟩=some (.int .i64 (q:Int))∧w'.cell? ⟨w1.heap.size,0,none⟩=some (.string (packN X))∧w'.cell? ⟨w1.heap.size,1,none⟩=some (.int .i64 (X.length:Int))∧w'.cell? ⟨w1.heap.size,2,none⟩=some (.bool (QM.lg B X))∧w'.cell? ⟨g,0,none⟩=some (.int .i64 (E:Int))∧w'.cell? ⟨g,1,none⟩=some (.int .i64 (B:Int))):=fun W hW=>And.intro (cell_on p0 hW) (And.intro (cell_on p1 hW) (And.intro (cell_on p2 hW) (And.intro (cell_on n0 hW) (And.intro (cell_on n1 hW) (And.intro (cell_on n2 hW) (And.intro (cell_on l0 hW) (cell_on l1 hW)))))))
  have HKC:Hid (∀ (a w':World) (N':QM.NL),Below w3.heap.size w3 a → Chg a w' b0 g r c rest nv E B N' → w'.cell? ⟨w.heap.size,0,none⟩=some (.int .i64 0)∧w'.cell? ⟨w.heap.size,1,none⟩=some (.int .i64 (t:Int))∧w'.cell? ⟨w.heap.size,2,none⟩=some (.int .i64 (q:Int))∧w'.cell? ⟨w1.heap.size,0,none⟩=some (.string (packN X))∧w'.cell? ⟨w1.heap.size,1,none⟩=some (.int .i64 (X.length:Int))∧w'.cell? ⟨w1.heap.size,2,none⟩=some (.bool (QM.lg B X))∧w'.cell? ⟨g,0,none⟩=some (.int .i64 (E:Int))∧w'.cell? ⟨g,1,none⟩=some (.int .i64 (B:Int))):=fun a W N' ha hc=>And.intro (hc.cell HL.out (Nat.le_refl _) (cell_on p0 ha)) (And.intro (hc.cell HL.out (Nat.le_refl _) (cell_on p1 ha)) (And.intro (hc.cell HL.out (Nat.le_refl _) (cell_on p2 ha)) (And.intro (hc.cell HL.out HSZ.out (cell_on n0 ha)) (And.intro (hc.cell HL.out HSZ.out (cell_on n1 ha)) (And.intro (hc.cell HL.out HSZ.out (cell_on n2 ha)) hc.bnd)))))
  clear hw3 hb3 L0 L1
  go_wp2_with fail
  go_region_held3 (fun w':World=>w'.cell? ⟨w.heap.size,0,none⟩=some (.int .i64 0)∧w'.cell? ⟨w.heap.size,1,none⟩=some (.int .i64 (t:Int))∧w'.cell? ⟨w.heap.size,2,none⟩=some (.int .i64 (q:Int))∧w'.cell? ⟨w1.heap.size,0,none⟩=some (.string (packN X))∧w'.cell? ⟨w1.heap.size,1,none⟩=some (.int .i64 (X.length:Int))∧w'.cell? ⟨w1.heap.size,2,none⟩=some (.bool (QM.lg B X))∧w'.cell? ⟨g,0,none⟩=some (.int .i64 (E:Int))∧w'.cell? ⟨g,1,none⟩=some (.int .i64 (B:Int)))
    (first | exact hSA | exact HKS.out _ hx0 | exact HKS.out _ ((Below.refl _ w3).drew))
    (first | (go_at_call 69; refine (show Calls _ _ _ _ _ from HHR.out _).mono ?_; rintro e w4 ⟨rfl,hb4⟩; have hx0:=bel_to ((Below.refl _ w3).drew) hb4 (Nat.le_refl _)))
  have HX4:Hid (Below w3.heap.size w3 w4):=hx0
  have hSB:=HKS.out _ hx0
  clear hb4 hx0 hSA p0 p1 p2 pf n0 n1 n2 nf l0 l1 l2 l3 lf
  obtain ⟨s0,s1,s2,s3,s4,s5,s6,s7⟩:=hSB
  have HKS4:Hid _:=HKS.out
  go_wp2
  go_quiet (fail)
  have HX5:Hid (Below w3.heap.size w3 (w4.drewN nq)):=below_dn HX4.out _
  have hSC:=HKS.out _ HX5.out
  clear s0 s1 s2 s3 s4 s5 s6 s7
  obtain ⟨s0,s1,s2,s3,s4,s5,s6,s7⟩:=hSC
  have hSC:=HKS.out _ HX5.out
  generalize w4.drewN nq=y at *
  go_wp2_with fail
  go_region_held3 (fun w':World=>w'.cell? ⟨w.heap.size,0,none⟩=some (.int .i64 0)∧w'.cell? ⟨w.heap.size,1,none⟩=some (.int .i64 (t:Int))∧w'.cell? ⟨w.heap.size,2,none⟩=some (.int .i64 (q:Int))∧w'.cell? ⟨w1.heap.size,0,none⟩=some (.string (packN X))∧w'.cell? ⟨w1.heap.size,1,none⟩=some (.int .i64 (X.length:Int))∧w'.cell? ⟨w1.heap.size,2,none⟩=some (.bool (QM.lg B X))∧w'.cell? ⟨g,0,none⟩=some (.int .i64 (E:Int))∧w'.cell? ⟨g,1,none⟩=some (.int .i64 (B:Int)))
    (first | exact hSC | exact HKS.out _ hx3 | exact HKS.out _ hx2 | exact HKS.out _ hx1 | exact HKC.out _ _ _ hx3 hc5 | exact HKS.out _ (hx3.alloc hx3.size _) | exact HKS.out _ (HX5.out.drew))
    (first | (go_at_call 26; refine (show Calls _ _ _ _ _ from HRP.out a3 _ (HBY.out _ hx3) rfl).mono ?_; rintro e a5 ⟨rfl,hc5⟩) | (go_at_call 82; refine (show Calls _ _ _ _ _ from HFM.out _ (HW.out.on (HBY.out _ hx2))).mono ?_; rintro e a3 ⟨rfl,hb3⟩; have hx3:=bel_to hx2 hb3 (Nat.le_refl _)) | (go_at_call 71; refine (show Calls _ _ _ _ _ from HWI.out _ (HW.out.on (HBY.out _ hx1))).mono ?_; rintro e a2 ⟨rfl,hb2⟩; have hx2:=bel_to hx1 hb2 (Nat.le_refl _)) | (go_at_call 81; refine (show Calls _ _ _ _ _ from HAH.out _ (HW.out.on (HBY.out _ HX5.out.drew))).mono ?_; rintro e a1 ⟨rfl,hb1⟩; have hx1:=bel_to HX5.out.drew hb1 (Nat.le_refl _)))
  have HC5:Hid _:=hc5.back (HBY.out _ hx3)
  clear hc5 hx1 hx2 hx3 hb1 hb2 hb3 hSC s0 s1 s2 s3 s4 s5 s6 s7
  go_wp2
  go_returns
  exact ⟨rfl,HC5.out⟩
end
end Go.Proofs.YtjnbjfjoejfmpaaGreatDoor
namespace Go.Proofs.YtjnbjfjoejfmpaaGreatDoor
open Go.RowKit
set_option linter.unusedVariables false
set_option linter.unusedSimpArgs false
section
variable {b0 g r c:Nat} {rest:List Value} {nv:Value} {E B:Nat} {N:QM.NL}
set_option maxHeartbeats 4000000 in
set_option maxRecDepth 100000 in
theorem insert_first (t q:Nat) (X:List ByteArray) (ht:t < N.length) (hX:N[t]=X) (hq:q < X.length) (s:ByteArray) (hs:s.size ≤ 524288) (hb:QM.big B s=false) (hr:QM.room E B X=false) (hq0:q=0) (ht0:t=0) (hl:N.flatten.length ≤ 1000) (hI:QM.Inv E B N) (w:World) (hw:Lay w) (h:LS w b0 g r c rest nv E B (nds B N)):Calls Tryz.prog 80 #[ptr g,plV t q,.string s] w fun e w'=>e=.returned (.tuple #[])∧Chg w w' b0 g r c rest nv E B (QM.rep N t 0 [[s]]):=by
  have HL:Hid _:=h
  have HW:Hid _:=hw
  have HI:Hid _:=hI
  have hln:N.length ≤ 1000:=Nat.le_trans (QM.len_le hI.some) hl
  have hXm:X ∈ N:=by rw [← hX]; exact List.getElem_mem _
  have hXl:=hI.few X hXm
  have hXE:=hI.le
  have hfit:Fit X:=fit_node hI hXm
  have HND:Hid (∀ W,LS W b0 g r c rest nv E B (nds B N) → Calls Tryz.prog 70 #[ptr g,plV t q] W fun e w'=>e=.returned (.agg #[.string (packN X),.int .i64 (X.length:Int),.bool (QM.lg B X)])∧Below W.heap.size W w'):=fun W hW=>by
    have:=nodeN_any t q ht hln W hW
    rw [hX] at this; exact this
  have HBS:Hid (∀ W,LS W b0 g r c rest nv E B (nds B N) → Calls Tryz.prog 91 #[ptr g,plV t q,.bool true] W fun e w'=>e=.returned (.tuple #[plV 0 0,.bool false])∧Below W.heap.size W w'):=fun W hW=>by
    have:=beside_back t q W hW (by simpa [nds] using ht) (by simp [nds]; omega)
    rw [if_neg (by omega)] at this; exact this
  have HIL:Hid (∀ W,Calls Tryz.prog 57 #[.agg #[.int .i64 (E:Int),.int .i64 (B:Int)],.string s] W fun e w'=>e=.returned (.bool false)∧Below W.heap.size W w'):=fun W=>by
    have:=isLarge_any E B s (by omega) hI.lb W
    rw [hb] at this; exact this
  have HHR:Hid (∀ W,Calls Tryz.prog 69 #[.agg #[.int .i64 (E:Int),.int .i64 (B:Int)],.agg #[.string (packN X),.int .i64 (X.length:Int),.bool (QM.lg B X)]] W fun e w'=>e=.returned (.bool false)∧Below W.heap.size W w'):=fun W=>by
    have:=hasRoom_any E B X (packN X) hXE.2 (by omega) W
    rw [hr] at this; exact this
  have HAL:Hid (∀ W,Lay W → Calls Tryz.prog 72 #[.agg #[.int .i64 (E:Int),.int .i64 (B:Int)],.string s] W fun e w'=>e=.returned (.agg #[.string (packN [s]),.int .i64 1,.bool false])∧Below W.heap.size W w'):=fun W hW=>by
    have:=alone_any E B s hs HI.out.lb W hW
    have e1:encN (ndOf B [s])=.agg #[.string (packN [s]),.int .i64 1,.bool (QM.big B s)]:=rfl
    rw [e1,hb] at this; exact this
  have HRP:Hid (∀ a W,Below w.heap.size w a → W=a.alloc (.cells #[.string (packN [s]),.int .i64 1,.bool false] 57) → Calls Tryz.prog 26 #[ptr g,plV t q,.int .i64 0,.slice (some ⟨a.heap.size,0,none⟩) 1 1] W fun e w'=>e=.returned (.tuple #[])∧Chg a w' b0 g r c rest nv E B (QM.rep N t 0 [[s]])):=fun a W ha hW=>by
    subst hW
    have hLa:=HL.out.on ha
    have hba:Below a.heap.size a (a.alloc (.cells #[.string (packN [s]),.int .i64 1,.bool false] 57)):=(Below.refl _ _).alloc (Nat.le_refl _) _
    exact replN_any t q 0 a.heap.size [(packN [s],1,false)] [[s]] ⟨⟨rfl,rfl,fun _=>hb.symm⟩,trivial⟩ a _ hba (hLa.on hba) hLa (by omega) hln (by omega) (by simp) (by simp) (by simp) (nx_one a (packN [s],1,false)) (Nat.le_refl _) (fun e=>by simp [QM.nes])
  have hqb:((q:Int) == 0)=true:=by simp; omega
  have hqi:((q:Int)=0):=by omega
  have HQI:Hid _:=hqi
  clear hqi
  generalize packN [s]=PK at *
  clear hb hr hfit hq0 ht0
  clear h hw hI
  go_enter Tryz.func80,Tryz.ntmps80
  go_wp2_with fail
  refine (show Calls _ _ _ _ _ from HND.out _ (HL.out.on ((Below.refl _ w).alloc (Nat.le_refl _) _))).mono ?_
  rintro e w1 ⟨rfl,hb1⟩
  have HB1:Hid (Below w.heap.size w w1):=bel_to ((Below.refl _ w).alloc (Nat.le_refl _) _) hb1 (Nat.le_refl _)
  have hp1:=keep_row (one_alloc w (.cells #[.int .i64 0,.int .i64 (t:Int),.int .i64 (q:Int)] 67)) hb1
  have HP1:Hid _:=hp1
  obtain ⟨P0,P1,P2,PF⟩:=rowA3 hp1
  clear hb1 hp1
  go_wp2_with fail
  refine (show Calls _ _ _ _ _ from HBS.out _ (HL.out.on (HB1.out.alloc HB1.out.size _))).mono ?_
  rintro e w2 ⟨rfl,hb2⟩
  have HB2:Hid (Below w.heap.size w w2):=bel_to (HB1.out.alloc HB1.out.size _) hb2 (Nat.le_refl _)
  have hp2:=keep_row (keep_row HP1.out ((Below.refl _ _).alloc (Nat.le_refl _) (.cells #[.string (packN X),.int .i64 (X.length:Int),.bool (QM.lg B X)] 57))) hb2
  have hn2:=keep_row (one_alloc w1 (.cells #[.string (packN X),.int .i64 (X.length:Int),.bool (QM.lg B X)] 57)) hb2
  have hby:Below w2.heap.size w2 (w2.alloc (.cells #[.int .i64 0,.int .i64 0,.int .i64 0] 67)):=(Below.refl _ _).alloc (Nat.le_refl _) _
  have hwy:Below w.heap.size w (w2.alloc (.cells #[.int .i64 0,.int .i64 0,.int .i64 0] 67)):=bel_to HB2.out hby (Nat.le_refl _)
  obtain ⟨l0,l1,l2,l3,lf⟩:=lrow4 (HL.out.on HB2.out).hd
  have L0:=cell_a1 l0
  have L1:=cell_a1 l1
  have HSZ:Hid (w.heap.size ≤ w1.heap.size):=HB1.out.size
  have HPY:Hid _:=keep_row hp2 hby
  have HNY:Hid _:=keep_row hn2 hby
  have HWY:Hid _:=hwy
  clear hb2 hp2 hn2 hby hwy P0 P1 P2 PF l0 l1 l2 l3 lf
  go_wp2_with fail
  refine (show Calls _ _ _ _ _ from HIL.out _).mono ?_
  rintro e w3 ⟨rfl,hb3⟩
  have hw3:Below w.heap.size w w3:=bel_to HWY.out hb3 (Nat.le_refl _)
  have HBY:Hid (∀ W,Below w3.heap.size w3 W → Below w.heap.size w W):=fun W hW=>bel_to hw3 hW (Nat.le_refl _)
  obtain ⟨p0,p1,p2,pf⟩:=row3 (keep_row HPY.out hb3)
  obtain ⟨n0,n1,n2,nf⟩:=row3 (keep_row HNY.out hb3)
  obtain ⟨l0,l1,l2,l3,lf⟩:=lrow4 (HL.out.on hw3).hd
  have hSA:=And.intro p0 (And.intro p1 (And.intro p2 (And.intro n0 (And.intro n1 (And.intro n2 (And.intro l0 l1))))))
  have HKS:Hid (∀ w':World,Below w3.heap.size w3 w' → w'.cell? ⟨w.heap.size,0,none⟩=some (.int .i64 0)∧w'.cell? ⟨w.heap.size,1,none⟩=some (.int .i64 (t:Int))∧w'.cell? ⟨w.heap.size,2,none⟩=some (.int .i64 (q:Int))∧w'.cell? ⟨w1.heap.size,0,none⟩=some (.string (packN X))∧w'.cell? ⟨w1.heap.size,1,none⟩=some (.int .i64 (X.length:Int))∧w'.cell? ⟨w1.heap.size,2,none⟩=some (.bool (QM.lg B X))∧w'.cell? ⟨g,0,none⟩=some (.int .i64 (E:Int))∧w'.cell? ⟨g,1,none⟩=some (.int .i64 (B:Int))):=fun W hW=>And.intro (cell_on p0 hW) (And.intro (cell_on p1 hW) (And.intro (cell_on p2 hW) (And.intro (cell_on n0 hW) (And.intro (cell_on n1 hW) (And.intro (cell_on n2 hW) (And.intro (cell_on l0 hW) (cell_on l1 hW)))))))
  have HKC:Hid (∀ (a w':World) (N':QM.NL),Below w3.heap.size w3 a → Chg a w' b0 g r c rest nv E B N' → w'.cell? ⟨w.heap.size,0,none⟩=some (.int .i64 0)∧w'.cell? ⟨w.heap.size,1,none⟩=some (.int .i64 (t:Int))∧w'.cell? ⟨w.heap.size,2,none⟩=some (.int .i64 (q:Int))∧w'.cell? ⟨w1.heap.size,0,none⟩=some (.string (packN X))∧w'.cell? ⟨w1.heap.size,1,none⟩=some (.int .i64 (X.length:Int))∧w'.cell? ⟨w1.heap.size,2,none⟩=some (.bool (QM.lg B X))∧w'.cell? ⟨g,0,none⟩=some (.int .i64 (E:Int))∧w'.cell? ⟨g,1,none⟩=some (.int .i64 (B:Int))):=fun a W N' ha hc=>And.intro (hc.cell HL.out (Nat.le_refl _) (cell_on p0 ha)) (And.intro (hc.cell HL.out (Nat.le_refl _) (cell_on p1 ha)) (And.intro (hc.cell HL.out (Nat.le_refl _) (cell_on p2 ha)) (And.intro (hc.cell HL.out HSZ.out (cell_on n0 ha)) (And.intro (hc.cell HL.out HSZ.out (cell_on n1 ha)) (And.intro (hc.cell HL.out HSZ.out (cell_on n2 ha)) hc.bnd)))))
  clear hw3 hb3 L0 L1
  go_wp2_with fail
  go_region_held3 (fun w':World=>w'.cell? ⟨w.heap.size,0,none⟩=some (.int .i64 0)∧w'.cell? ⟨w.heap.size,1,none⟩=some (.int .i64 (t:Int))∧w'.cell? ⟨w.heap.size,2,none⟩=some (.int .i64 (q:Int))∧w'.cell? ⟨w1.heap.size,0,none⟩=some (.string (packN X))∧w'.cell? ⟨w1.heap.size,1,none⟩=some (.int .i64 (X.length:Int))∧w'.cell? ⟨w1.heap.size,2,none⟩=some (.bool (QM.lg B X))∧w'.cell? ⟨g,0,none⟩=some (.int .i64 (E:Int))∧w'.cell? ⟨g,1,none⟩=some (.int .i64 (B:Int)))
    (first | exact hSA | exact HKS.out _ hx0 | exact HKS.out _ ((Below.refl _ w3).drew))
    (first | (go_at_call 69; refine (show Calls _ _ _ _ _ from HHR.out _).mono ?_; rintro e w4 ⟨rfl,hb4⟩; have hx0:=bel_to ((Below.refl _ w3).drew) hb4 (Nat.le_refl _)))
  have HX4:Hid (Below w3.heap.size w3 w4):=hx0
  have hSB:=HKS.out _ hx0
  clear hb4 hx0 hSA p0 p1 p2 pf n0 n1 n2 nf l0 l1 l2 l3 lf
  obtain ⟨s0,s1,s2,s3,s4,s5,s6,s7⟩:=hSB
  go_wp2
  go_quiet (fail)
  have HX5:Hid (Below w3.heap.size w3 (w4.drewN nq)):=below_dn HX4.out _
  clear s0 s1 s2 s3 s4 s5 s6 s7
  have hSC:=HKS.out _ HX5.out
  obtain ⟨s0,s1,s2,s3,s4,s5,s6,s7⟩:=HKS.out _ HX5.out
  generalize w4.drewN nq=y at *
  go_wp2_with fail
  go_region_held3 (fun w':World=>w'.cell? ⟨w.heap.size,0,none⟩=some (.int .i64 0)∧w'.cell? ⟨w.heap.size,1,none⟩=some (.int .i64 (t:Int))∧w'.cell? ⟨w.heap.size,2,none⟩=some (.int .i64 (q:Int))∧w'.cell? ⟨w1.heap.size,0,none⟩=some (.string (packN X))∧w'.cell? ⟨w1.heap.size,1,none⟩=some (.int .i64 (X.length:Int))∧w'.cell? ⟨w1.heap.size,2,none⟩=some (.bool (QM.lg B X))∧w'.cell? ⟨g,0,none⟩=some (.int .i64 (E:Int))∧w'.cell? ⟨g,1,none⟩=some (.int .i64 (B:Int)))
    (first | exact hSC | exact HKS.out _ hx1 | exact HKC.out _ _ _ hx1 hc5 | exact HKS.out _ (hx1.alloc hx1.size _) | exact HKS.out _ (HX5.out.drew))
    (first | (go_at_call 26; refine (show Calls _ _ _ _ _ from HRP.out a1 _ (HBY.out _ hx1) rfl).mono ?_; rintro e a5 ⟨rfl,hc5⟩) | (go_at_call 72; refine (show Calls _ _ _ _ _ from HAL.out _ (HW.out.on (HBY.out _ HX5.out.drew))).mono ?_; rintro e a1 ⟨rfl,hb1⟩; have hx1:=bel_to HX5.out.drew hb1 (Nat.le_refl _)))
  have HC5:Hid _:=hc5.back (HBY.out _ hx1)
  clear hc5 hx1 hb1 hSC s0 s1 s2 s3 s4 s5 s6 s7
  go_wp2
  go_returns
  exact ⟨rfl,HC5.out⟩
end
end Go.Proofs.YtjnbjfjoejfmpaaGreatDoor
namespace Go.Proofs.YtjnbjfjoejfmpaaGreatDoor
open Go.RowKit
set_option linter.unusedVariables false
set_option linter.unusedSimpArgs false
section
variable {b0 g r c:Nat} {rest:List Value} {nv:Value} {E B:Nat} {N:QM.NL}
set_option maxHeartbeats 4000000 in
set_option maxRecDepth 100000 in
theorem insert_gap (t q:Nat) (X:List ByteArray) (ht:t < N.length) (hX:N[t]=X) (hq:q < X.length) (s:ByteArray) (hs:s.size ≤ 524288) (hb:QM.big B s=false) (hr:QM.room E B X=false) (hq0:q=0) (tb:Nat) (htb:tb + 1=t) (Xb:List ByteArray) (hXb:N[tb]'(by omega)=Xb) (hrb:QM.room E B Xb=false) (hl:N.flatten.length ≤ 1000) (hI:QM.Inv E B N) (w:World) (hw:Lay w) (h:LS w b0 g r c rest nv E B (nds B N)):Calls Tryz.prog 80 #[ptr g,plV t q,.string s] w fun e w'=>e=.returned (.tuple #[])∧Chg w w' b0 g r c rest nv E B (QM.rep N t 0 [[s]]):=by
  have HL:Hid _:=h
  have HW:Hid _:=hw
  have HI:Hid _:=hI
  have hln:N.length ≤ 1000:=Nat.le_trans (QM.len_le hI.some) hl
  have hXm:X ∈ N:=by rw [← hX]; exact List.getElem_mem _
  have hXl:=hI.few X hXm
  have hXE:=hI.le
  have hfit:Fit X:=fit_node hI hXm
  have HND:Hid (∀ W,LS W b0 g r c rest nv E B (nds B N) → Calls Tryz.prog 70 #[ptr g,plV t q] W fun e w'=>e=.returned (.agg #[.string (packN X),.int .i64 (X.length:Int),.bool (QM.lg B X)])∧Below W.heap.size W w'):=fun W hW=>by
    have:=nodeN_any t q ht hln W hW
    rw [hX] at this; exact this
  have HBS:Hid (∀ W,LS W b0 g r c rest nv E B (nds B N) → Calls Tryz.prog 91 #[ptr g,plV t q,.bool true] W fun e w'=>e=.returned (.tuple #[plV tb 0,.bool true])∧Below W.heap.size W w'):=fun W hW=>by
    have:=beside_back t q W hW (by simpa [nds] using ht) (by simp [nds]; omega)
    rw [if_pos (by omega),show t - 1=tb by omega] at this; exact this
  have HIL:Hid (∀ W,Calls Tryz.prog 57 #[.agg #[.int .i64 (E:Int),.int .i64 (B:Int)],.string s] W fun e w'=>e=.returned (.bool false)∧Below W.heap.size W w'):=fun W=>by
    have:=isLarge_any E B s (by omega) hI.lb W
    rw [hb] at this; exact this
  have HHR:Hid (∀ W,Calls Tryz.prog 69 #[.agg #[.int .i64 (E:Int),.int .i64 (B:Int)],.agg #[.string (packN X),.int .i64 (X.length:Int),.bool (QM.lg B X)]] W fun e w'=>e=.returned (.bool false)∧Below W.heap.size W w'):=fun W=>by
    have:=hasRoom_any E B X (packN X) hXE.2 (by omega) W
    rw [hr] at this; exact this
  have HAL:Hid (∀ W,Lay W → Calls Tryz.prog 72 #[.agg #[.int .i64 (E:Int),.int .i64 (B:Int)],.string s] W fun e w'=>e=.returned (.agg #[.string (packN [s]),.int .i64 1,.bool false])∧Below W.heap.size W w'):=fun W hW=>by
    have:=alone_any E B s hs HI.out.lb W hW
    have e1:encN (ndOf B [s])=.agg #[.string (packN [s]),.int .i64 1,.bool (QM.big B s)]:=rfl
    rw [e1,hb] at this; exact this
  have HRP:Hid (∀ a W,Below w.heap.size w a → W=a.alloc (.cells #[.string (packN [s]),.int .i64 1,.bool false] 57) → Calls Tryz.prog 26 #[ptr g,plV t q,.int .i64 0,.slice (some ⟨a.heap.size,0,none⟩) 1 1] W fun e w'=>e=.returned (.tuple #[])∧Chg a w' b0 g r c rest nv E B (QM.rep N t 0 [[s]])):=fun a W ha hW=>by
    subst hW
    have hLa:=HL.out.on ha
    have hba:Below a.heap.size a (a.alloc (.cells #[.string (packN [s]),.int .i64 1,.bool false] 57)):=(Below.refl _ _).alloc (Nat.le_refl _) _
    exact replN_any t q 0 a.heap.size [(packN [s],1,false)] [[s]] ⟨⟨rfl,rfl,fun _=>hb.symm⟩,trivial⟩ a _ hba (hLa.on hba) hLa (by omega) hln (by omega) (by simp) (by simp) (by simp) (nx_one a (packN [s],1,false)) (Nat.le_refl _) (fun e=>by simp [QM.nes])
  have hqb:((q:Int) == 0)=true:=by simp; omega
  have hqi:((q:Int)=0):=by omega
  have HQI:Hid _:=hqi
  clear hqi
  generalize packN [s]=PK at *
  have HNB:Hid (∀ W,LS W b0 g r c rest nv E B (nds B N) → Calls Tryz.prog 70 #[ptr g,plV tb 0] W fun e w'=>e=.returned (.agg #[.string (packN Xb),.int .i64 (Xb.length:Int),.bool (QM.lg B Xb)])∧Below W.heap.size W w'):=fun W hW=>by
    have:=nodeN_any tb 0 (by omega) hln W hW
    rw [hXb] at this; exact this
  have hXbm:Xb ∈ N:=by rw [← hXb]; exact List.getElem_mem _
  have hXbl:=HI.out.few Xb hXbm
  have HHB:Hid (∀ W,Calls Tryz.prog 69 #[.agg #[.int .i64 (E:Int),.int .i64 (B:Int)],.agg #[.string (packN Xb),.int .i64 (Xb.length:Int),.bool (QM.lg B Xb)]] W fun e w'=>e=.returned (.bool false)∧Below W.heap.size W w'):=fun W=>by
    have:=hasRoom_any E B Xb (packN Xb) hXE.2 (by omega) W
    rw [hrb] at this; exact this
  clear hb hr hfit hq0 hrb
  clear h hw hI
  go_enter Tryz.func80,Tryz.ntmps80
  go_wp2_with fail
  refine (show Calls _ _ _ _ _ from HND.out _ (HL.out.on ((Below.refl _ w).alloc (Nat.le_refl _) _))).mono ?_
  rintro e w1 ⟨rfl,hb1⟩
  have HB1:Hid (Below w.heap.size w w1):=bel_to ((Below.refl _ w).alloc (Nat.le_refl _) _) hb1 (Nat.le_refl _)
  have hp1:=keep_row (one_alloc w (.cells #[.int .i64 0,.int .i64 (t:Int),.int .i64 (q:Int)] 67)) hb1
  have HP1:Hid _:=hp1
  obtain ⟨P0,P1,P2,PF⟩:=rowA3 hp1
  clear hb1 hp1
  go_wp2_with fail
  refine (show Calls _ _ _ _ _ from HBS.out _ (HL.out.on (HB1.out.alloc HB1.out.size _))).mono ?_
  rintro e w2 ⟨rfl,hb2⟩
  have HB2:Hid (Below w.heap.size w w2):=bel_to (HB1.out.alloc HB1.out.size _) hb2 (Nat.le_refl _)
  have hp2:=keep_row (keep_row HP1.out ((Below.refl _ _).alloc (Nat.le_refl _) (.cells #[.string (packN X),.int .i64 (X.length:Int),.bool (QM.lg B X)] 57))) hb2
  have hn2:=keep_row (one_alloc w1 (.cells #[.string (packN X),.int .i64 (X.length:Int),.bool (QM.lg B X)] 57)) hb2
  have hby:Below w2.heap.size w2 (w2.alloc (.cells #[.int .i64 0,.int .i64 (tb:Int),.int .i64 0] 67)):=(Below.refl _ _).alloc (Nat.le_refl _) _
  have hwy:Below w.heap.size w (w2.alloc (.cells #[.int .i64 0,.int .i64 (tb:Int),.int .i64 0] 67)):=bel_to HB2.out hby (Nat.le_refl _)
  obtain ⟨l0,l1,l2,l3,lf⟩:=lrow4 (HL.out.on HB2.out).hd
  have L0:=cell_a1 l0
  have L1:=cell_a1 l1
  have HSZ:Hid (w.heap.size ≤ w1.heap.size):=HB1.out.size
  have HPY:Hid _:=keep_row hp2 hby
  have HNY:Hid _:=keep_row hn2 hby
  have HWY:Hid _:=hwy
  have HQY:Hid _:=one_alloc w2 (.cells #[.int .i64 0,.int .i64 (tb:Int),.int .i64 0] 67)
  have HSZ2:Hid (w.heap.size ≤ w2.heap.size):=HB2.out.size
  clear hb2 hp2 hn2 hby hwy P0 P1 P2 PF l0 l1 l2 l3 lf
  go_wp2_with fail
  refine (show Calls _ _ _ _ _ from HIL.out _).mono ?_
  rintro e w3 ⟨rfl,hb3⟩
  have hw3:Below w.heap.size w w3:=bel_to HWY.out hb3 (Nat.le_refl _)
  have HBY:Hid (∀ W,Below w3.heap.size w3 W → Below w.heap.size w W):=fun W hW=>bel_to hw3 hW (Nat.le_refl _)
  obtain ⟨p0,p1,p2,pf⟩:=row3 (keep_row HPY.out hb3)
  obtain ⟨n0,n1,n2,nf⟩:=row3 (keep_row HNY.out hb3)
  obtain ⟨q0,q1,q2,qf⟩:=row3 (keep_row HQY.out hb3)
  obtain ⟨l0,l1,l2,l3,lf⟩:=lrow4 (HL.out.on hw3).hd
  have hSA:=And.intro q0 (And.intro q1 (And.intro q2 (And.intro p0 (And.intro p1 (And.intro p2 (And.intro n0 (And.intro n1 (And.intro n2 (And.intro l0 l1)))))))))
  have HKS:Hid (∀ w':World,Below w3.heap.size w3 w' → w'.cell? ⟨w2.heap.size,0,none⟩=some (.int .i64 0)∧w'.cell? ⟨w2.heap.size,1,none⟩=some (.int .i64 (tb:Int))∧w'.cell? ⟨w2.heap.size,2,none⟩=some (.int .i64 0)∧w'.cell? ⟨w.heap.size,0,none⟩=some (.int .i64 0)∧w'.cell? ⟨w.heap.size,1,none⟩=some (.int .i64 (t:Int))∧w'.cell? ⟨w.heap.size,2,none⟩=some (.int .i64 (q:Int))∧w'.cell? ⟨w1.heap.size,0,none⟩=some (.string (packN X))∧w'.cell? ⟨w1.heap.size,1,none⟩=some (.int .i64 (X.length:Int))∧w'.cell? ⟨w1.heap.size,2,none⟩=some (.bool (QM.lg B X))∧w'.cell? ⟨g,0,none⟩=some (.int .i64 (E:Int))∧w'.cell? ⟨g,1,none⟩=some (.int .i64 (B:Int))):=fun W hW=>And.intro (cell_on q0 hW) (And.intro (cell_on q1 hW) (And.intro (cell_on q2 hW) (And.intro (cell_on p0 hW) (And.intro (cell_on p1 hW) (And.intro (cell_on p2 hW) (And.intro (cell_on n0 hW) (And.intro (cell_on n1 hW) (And.intro (cell_on n2 hW) (And.intro (cell_on l0 hW) (cell_on l1 hW))))))))))
  have HKC:Hid (∀ (a w':World) (N':QM.NL),Below w3.heap.size w3 a → Chg a w' b0 g r c rest nv E B N' → w'.cell? ⟨w2.heap.size,0,none⟩=some (.int .i64 0)∧w'.cell? ⟨w2.heap.size,1,none⟩=some (.int .i64 (tb:Int))∧w'.cell? ⟨w2.heap.size,2,none⟩=some (.int .i64 0)∧w'.cell? ⟨w.heap.size,0,none⟩=some (.int .i64 0)∧w'.cell? ⟨w.heap.size,1,none⟩=some (.int .i64 (t:Int))∧w'.cell? ⟨w.heap.size,2,none⟩=some (.int .i64 (q:Int))∧w'.cell? ⟨w1.heap.size,0,none⟩=some (.string (packN X))∧w'.cell? ⟨w1.heap.size,1,none⟩=some (.int .i64 (X.length:Int))∧w'.cell? ⟨w1.heap.size,2,none⟩=some (.bool (QM.lg B X))∧w'.cell? ⟨g,0,none⟩=some (.int .i64 (E:Int))∧w'.cell? ⟨g,1,none⟩=some (.int .i64 (B:Int))):=fun a W N' ha hc=>And.intro (hc.cell HL.out HSZ2.out (cell_on q0 ha)) (And.intro (hc.cell HL.out HSZ2.out (cell_on q1 ha)) (And.intro (hc.cell HL.out HSZ2.out (cell_on q2 ha)) (And.intro (hc.cell HL.out (Nat.le_refl _) (cell_on p0 ha)) (And.intro (hc.cell HL.out (Nat.le_refl _) (cell_on p1 ha)) (And.intro (hc.cell HL.out (Nat.le_refl _) (cell_on p2 ha)) (And.intro (hc.cell HL.out HSZ.out (cell_on n0 ha)) (And.intro (hc.cell HL.out HSZ.out (cell_on n1 ha)) (And.intro (hc.cell HL.out HSZ.out (cell_on n2 ha)) hc.bnd))))))))
  clear hw3 hb3 L0 L1
  go_wp2_with fail
  go_region_held3 (fun w':World=>w'.cell? ⟨w2.heap.size,0,none⟩=some (.int .i64 0)∧w'.cell? ⟨w2.heap.size,1,none⟩=some (.int .i64 (tb:Int))∧w'.cell? ⟨w2.heap.size,2,none⟩=some (.int .i64 0)∧w'.cell? ⟨w.heap.size,0,none⟩=some (.int .i64 0)∧w'.cell? ⟨w.heap.size,1,none⟩=some (.int .i64 (t:Int))∧w'.cell? ⟨w.heap.size,2,none⟩=some (.int .i64 (q:Int))∧w'.cell? ⟨w1.heap.size,0,none⟩=some (.string (packN X))∧w'.cell? ⟨w1.heap.size,1,none⟩=some (.int .i64 (X.length:Int))∧w'.cell? ⟨w1.heap.size,2,none⟩=some (.bool (QM.lg B X))∧w'.cell? ⟨g,0,none⟩=some (.int .i64 (E:Int))∧w'.cell? ⟨g,1,none⟩=some (.int .i64 (B:Int)))
    (first | exact hSA | exact HKS.out _ hx0 | exact HKS.out _ ((Below.refl _ w3).drew))
    (first | (go_at_call 69; refine (show Calls _ _ _ _ _ from HHR.out _).mono ?_; rintro e w4 ⟨rfl,hb4⟩; have hx0:=bel_to ((Below.refl _ w3).drew) hb4 (Nat.le_refl _)))
  have HX4:Hid (Below w3.heap.size w3 w4):=hx0
  have hSB:=HKS.out _ hx0
  clear hb4 hx0 hSA q0 q1 q2 qf p0 p1 p2 pf n0 n1 n2 nf l0 l1 l2 l3 lf
  go_wp2_with fail
  go_region_held3 (fun w':World=>w'.cell? ⟨w2.heap.size,0,none⟩=some (.int .i64 0)∧w'.cell? ⟨w2.heap.size,1,none⟩=some (.int .i64 (tb:Int))∧w'.cell? ⟨w2.heap.size,2,none⟩=some (.int .i64 0)∧w'.cell? ⟨w.heap.size,0,none⟩=some (.int .i64 0)∧w'.cell? ⟨w.heap.size,1,none⟩=some (.int .i64 (t:Int))∧w'.cell? ⟨w.heap.size,2,none⟩=some (.int .i64 (q:Int))∧w'.cell? ⟨w1.heap.size,0,none⟩=some (.string (packN X))∧w'.cell? ⟨w1.heap.size,1,none⟩=some (.int .i64 (X.length:Int))∧w'.cell? ⟨w1.heap.size,2,none⟩=some (.bool (QM.lg B X))∧w'.cell? ⟨g,0,none⟩=some (.int .i64 (E:Int))∧w'.cell? ⟨g,1,none⟩=some (.int .i64 (B:Int)))
    (first | exact hSB | exact HKS.out _ hy2 | exact HKS.out _ hy1 | exact HKS.out _ (HX4.out.drew))
    (first | (go_at_call 69; refine (show Calls _ _ _ _ _ from HHB.out _).mono ?_; rintro e y ⟨rfl,hd2⟩; have hy2:=bel_to hy1 hd2 (Nat.le_refl _)) | (go_at_call 70; refine (show Calls _ _ _ _ _ from HNB.out _ (HL.out.on (HBY.out _ HX4.out.drew))).mono ?_; rintro e y1 ⟨rfl,hd1⟩; have hy1:=bel_to HX4.out.drew hd1 (Nat.le_refl _)))
  have HX5:Hid (Below w3.heap.size w3 y):=hy2
  have hSC:=HKS.out _ HX5.out
  obtain ⟨z0,z1,z2,s0,s1,s2,s3,s4,s5,s6,s7⟩:=HKS.out _ HX5.out
  clear hy1 hy2 hd1 hd2 hSB
  go_wp2_with fail
  go_region_held3 (fun w':World=>w'.cell? ⟨w2.heap.size,0,none⟩=some (.int .i64 0)∧w'.cell? ⟨w2.heap.size,1,none⟩=some (.int .i64 (tb:Int))∧w'.cell? ⟨w2.heap.size,2,none⟩=some (.int .i64 0)∧w'.cell? ⟨w.heap.size,0,none⟩=some (.int .i64 0)∧w'.cell? ⟨w.heap.size,1,none⟩=some (.int .i64 (t:Int))∧w'.cell? ⟨w.heap.size,2,none⟩=some (.int .i64 (q:Int))∧w'.cell? ⟨w1.heap.size,0,none⟩=some (.string (packN X))∧w'.cell? ⟨w1.heap.size,1,none⟩=some (.int .i64 (X.length:Int))∧w'.cell? ⟨w1.heap.size,2,none⟩=some (.bool (QM.lg B X))∧w'.cell? ⟨g,0,none⟩=some (.int .i64 (E:Int))∧w'.cell? ⟨g,1,none⟩=some (.int .i64 (B:Int)))
    (first | exact hSC | exact HKS.out _ hx1 | exact HKC.out _ _ _ hx1 hc5 | exact HKS.out _ (hx1.alloc hx1.size _) | exact HKS.out _ (HX5.out.drew))
    (first | (go_at_call 26; refine (show Calls _ _ _ _ _ from HRP.out a1 _ (HBY.out _ hx1) rfl).mono ?_; rintro e a5 ⟨rfl,hc5⟩) | (go_at_call 72; refine (show Calls _ _ _ _ _ from HAL.out _ (HW.out.on (HBY.out _ HX5.out.drew))).mono ?_; rintro e a1 ⟨rfl,hb1⟩; have hx1:=bel_to HX5.out.drew hb1 (Nat.le_refl _)))
  have HC5:Hid _:=hc5.back (HBY.out _ hx1)
  clear hc5 hx1 hb1 hSC z0 z1 z2 s0 s1 s2 s3 s4 s5 s6 s7
  go_wp2
  go_returns
  exact ⟨rfl,HC5.out⟩
end
end Go.Proofs.YtjnbjfjoejfmpaaGreatDoor
namespace Go.Proofs.YtjnbjfjoejfmpaaGreatDoor
open Go.RowKit
set_option linter.unusedVariables false
set_option linter.unusedSimpArgs false
section
variable {b0 g r c:Nat} {rest:List Value} {nv:Value} {E B:Nat} {N:QM.NL}
set_option maxHeartbeats 4000000 in
set_option maxRecDepth 100000 in
theorem insert_before (t q:Nat) (X:List ByteArray) (ht:t < N.length) (hX:N[t]=X) (hq:q < X.length) (s:ByteArray) (hs:s.size ≤ 524288) (hb:QM.big B s=false) (hr:QM.room E B X=false) (hq0:q=0) (tb:Nat) (htb:tb + 1=t) (Xb:List ByteArray) (hXb:N[tb]'(by omega)=Xb) (hrb:QM.room E B Xb=true) (hl:N.flatten.length ≤ 1000) (hI:QM.Inv E B N) (w:World) (hw:Lay w) (h:LS w b0 g r c rest nv E B (nds B N)):Calls Tryz.prog 80 #[ptr g,plV t q,.string s] w fun e w'=>e=.returned (.tuple #[])∧Chg w w' b0 g r c rest nv E B (QM.rep N tb 1 [Xb ++ [s]]):=by
  have HL:Hid _:=h
  have HW:Hid _:=hw
  have HI:Hid _:=hI
  have hln:N.length ≤ 1000:=Nat.le_trans (QM.len_le hI.some) hl
  have hXm:X ∈ N:=by rw [← hX]; exact List.getElem_mem _
  have hXl:=hI.few X hXm
  have hXE:=hI.le
  have hfit:Fit X:=fit_node hI hXm
  have HND:Hid (∀ W,LS W b0 g r c rest nv E B (nds B N) → Calls Tryz.prog 70 #[ptr g,plV t q] W fun e w'=>e=.returned (.agg #[.string (packN X),.int .i64 (X.length:Int),.bool (QM.lg B X)])∧Below W.heap.size W w'):=fun W hW=>by
    have:=nodeN_any t q ht hln W hW
    rw [hX] at this; exact this
  have HBS:Hid (∀ W,LS W b0 g r c rest nv E B (nds B N) → Calls Tryz.prog 91 #[ptr g,plV t q,.bool true] W fun e w'=>e=.returned (.tuple #[plV tb 0,.bool true])∧Below W.heap.size W w'):=fun W hW=>by
    have:=beside_back t q W hW (by simpa [nds] using ht) (by simp [nds]; omega)
    rw [if_pos (by omega),show t - 1=tb by omega] at this; exact this
  have HIL:Hid (∀ W,Calls Tryz.prog 57 #[.agg #[.int .i64 (E:Int),.int .i64 (B:Int)],.string s] W fun e w'=>e=.returned (.bool false)∧Below W.heap.size W w'):=fun W=>by
    have:=isLarge_any E B s (by omega) hI.lb W
    rw [hb] at this; exact this
  have HHR:Hid (∀ W,Calls Tryz.prog 69 #[.agg #[.int .i64 (E:Int),.int .i64 (B:Int)],.agg #[.string (packN X),.int .i64 (X.length:Int),.bool (QM.lg B X)]] W fun e w'=>e=.returned (.bool false)∧Below W.heap.size W w'):=fun W=>by
    have:=hasRoom_any E B X (packN X) hXE.2 (by omega) W
    rw [hr] at this; exact this
  have hqb:((q:Int) == 0)=true:=by simp; omega
  have hqi:((q:Int)=0):=by omega
  have HQI:Hid _:=hqi
  clear hqi
  have HNB:Hid (∀ W,LS W b0 g r c rest nv E B (nds B N) → Calls Tryz.prog 70 #[ptr g,plV tb 0] W fun e w'=>e=.returned (.agg #[.string (packN Xb),.int .i64 (Xb.length:Int),.bool (QM.lg B Xb)])∧Below W.heap.size W w'):=fun W hW=>by
    have:=nodeN_any tb 0 (by omega) hln W hW
    rw [hXb] at this; exact this
  have hXbm:Xb ∈ N:=by rw [← hXb]; exact List.getElem_mem _
  have hXbl:=HI.out.few Xb hXbm
  have HHB:Hid (∀ W,Calls Tryz.prog 69 #[.agg #[.int .i64 (E:Int),.int .i64 (B:Int)],.agg #[.string (packN Xb),.int .i64 (Xb.length:Int),.bool (QM.lg B Xb)]] W fun e w'=>e=.returned (.bool true)∧Below W.heap.size W w'):=fun W=>by
    have:=hasRoom_any E B Xb (packN Xb) hXE.2 (by omega) W
    rw [hrb] at this; exact this
  have hlx:=(QM.room_iff.1 hrb).2
  have hfitb:Fit Xb:=fit_node HI.out hXbm
  have hsm:=QM.lg_not HI.out hXbm hlx
  have hsB:s.size ≤ B:=QM.big_iff.1 hb
  have hlB:=HI.out.lb
  have hsmall:∀ u ∈ Xb ++ [s],u.size ≤ B:=fun u hu=>by
    rcases List.mem_append.1 hu with h | h
    · exact hsm u h
    · simp at h; subst h; exact hsB
  have hfit2:Fit (Xb ++ [s]):=fit_many (by simp; omega) (fun u hu=>by have:=hsmall u hu; omega)
  have hlg:QM.lg B (Xb ++ [s])=QM.lg B Xb:=by
    rw [hlx]
    cases hh:Xb ++ [s] with
    | nil=>rfl
    | cons u us =>
      have:=hsmall u (by rw [hh]; simp)
      unfold QM.lg; simp; omega
  have HWI:Hid (∀ W,Lay W → Calls Tryz.prog 71 #[.agg #[.string (packN Xb),.int .i64 (Xb.length:Int),.bool (QM.lg B Xb)],.int .i64 (Xb.length:Int),.string s] W fun e w'=>e=.returned (.agg #[.string (packN (Xb ++ [s])),.int .i64 ((Xb.length + 1:Nat):Int),.bool (QM.lg B Xb)])∧Below W.heap.size W w'):=fun W hW=>by
    have e1:Xb.take Xb.length ++ s :: Xb.drop Xb.length=Xb ++ [s]:=by rw [List.take_length,List.drop_length]
    have:=with_any B Xb hfitb Xb.length (Nat.le_refl _) s hs (by rw [e1]; exact hfit2) (QM.lg B Xb) W hW
    rw [e1] at this; exact this
  have HRP:Hid (∀ a W,Below w.heap.size w a → W=a.alloc (.cells #[.string (packN (Xb ++ [s])),.int .i64 ((Xb.length + 1:Nat):Int),.bool (QM.lg B Xb)] 57) → Calls Tryz.prog 26 #[ptr g,plV tb 0,.int .i64 1,.slice (some ⟨a.heap.size,0,none⟩) 1 1] W fun e w'=>e=.returned (.tuple #[])∧Chg a w' b0 g r c rest nv E B (QM.rep N tb 1 [Xb ++ [s]])):=fun a W ha hW=>by
    subst hW
    have hLa:=HL.out.on ha
    have hba:Below a.heap.size a (a.alloc (.cells #[.string (packN (Xb ++ [s])),.int .i64 ((Xb.length + 1:Nat):Int),.bool (QM.lg B Xb)] 57)):=(Below.refl _ _).alloc (Nat.le_refl _) _
    exact replN_any tb 0 1 a.heap.size [(packN (Xb ++ [s]),Xb.length + 1,QM.lg B Xb)] [Xb ++ [s]] ⟨⟨rfl,by simp,fun _=>hlg.symm⟩,trivial⟩ a _ hba (hLa.on hba) hLa (by omega) hln (by omega) (by simp; omega) (by simp) (by simp) (nx_one a (packN (Xb ++ [s]),Xb.length + 1,QM.lg B Xb)) (Nat.le_refl _) (fun e=>by simp at e)
  generalize packN (Xb ++ [s])=PK at *
  generalize Xb.length + 1=LN1 at *
  clear hb hr hfit hq0 hrb hlx hfitb hsm hsB hsmall hfit2 hlg
  clear h hw hI
  go_enter Tryz.func80,Tryz.ntmps80
  go_wp2_with fail
  refine (show Calls _ _ _ _ _ from HND.out _ (HL.out.on ((Below.refl _ w).alloc (Nat.le_refl _) _))).mono ?_
  rintro e w1 ⟨rfl,hb1⟩
  have HB1:Hid (Below w.heap.size w w1):=bel_to ((Below.refl _ w).alloc (Nat.le_refl _) _) hb1 (Nat.le_refl _)
  have hp1:=keep_row (one_alloc w (.cells #[.int .i64 0,.int .i64 (t:Int),.int .i64 (q:Int)] 67)) hb1
  have HP1:Hid _:=hp1
  obtain ⟨P0,P1,P2,PF⟩:=rowA3 hp1
  clear hb1 hp1
  go_wp2_with fail
  refine (show Calls _ _ _ _ _ from HBS.out _ (HL.out.on (HB1.out.alloc HB1.out.size _))).mono ?_
  rintro e w2 ⟨rfl,hb2⟩
  have HB2:Hid (Below w.heap.size w w2):=bel_to (HB1.out.alloc HB1.out.size _) hb2 (Nat.le_refl _)
  have hp2:=keep_row (keep_row HP1.out ((Below.refl _ _).alloc (Nat.le_refl _) (.cells #[.string (packN X),.int .i64 (X.length:Int),.bool (QM.lg B X)] 57))) hb2
  have hn2:=keep_row (one_alloc w1 (.cells #[.string (packN X),.int .i64 (X.length:Int),.bool (QM.lg B X)] 57)) hb2
  have hby:Below w2.heap.size w2 (w2.alloc (.cells #[.int .i64 0,.int .i64 (tb:Int),.int .i64 0] 67)):=(Below.refl _ _).alloc (Nat.le_refl _) _
  have hwy:Below w.heap.size w (w2.alloc (.cells #[.int .i64 0,.int .i64 (tb:Int),.int .i64 0] 67)):=bel_to HB2.out hby (Nat.le_refl _)
  obtain ⟨l0,l1,l2,l3,lf⟩:=lrow4 (HL.out.on HB2.out).hd
  have L0:=cell_a1 l0
  have L1:=cell_a1 l1
  have HSZ:Hid (w.heap.size ≤ w1.heap.size):=HB1.out.size
  have HPY:Hid _:=keep_row hp2 hby
  have HNY:Hid _:=keep_row hn2 hby
  have HWY:Hid _:=hwy
  have HQY:Hid _:=one_alloc w2 (.cells #[.int .i64 0,.int .i64 (tb:Int),.int .i64 0] 67)
  have HSZ2:Hid (w.heap.size ≤ w2.heap.size):=HB2.out.size
  clear hb2 hp2 hn2 hby hwy P0 P1 P2 PF l0 l1 l2 l3 lf
  go_wp2_with fail
  refine (show Calls _ _ _ _ _ from HIL.out _).mono ?_
  rintro e w3 ⟨rfl,hb3⟩
  have hw3:Below w.heap.size w w3:=bel_to HWY.out hb3 (Nat.le_refl _)
  have HBY:Hid (∀ W,Below w3.heap.size w3 W → Below w.heap.size w W):=fun W hW=>bel_to hw3 hW (Nat.le_refl _)
  obtain ⟨p0,p1,p2,pf⟩:=row3 (keep_row HPY.out hb3)
  obtain ⟨n0,n1,n2,nf⟩:=row3 (keep_row HNY.out hb3)
  obtain ⟨q0,q1,q2,qf⟩:=row3 (keep_row HQY.out hb3)
  obtain ⟨l0,l1,l2,l3,lf⟩:=lrow4 (HL.out.on hw3).hd
  have hSA:=And.intro q0 (And.intro q1 (And.intro q2 (And.intro p0 (And.intro p1 (And.intro p2 (And.intro n0 (And.intro n1 (And.intro n2 (And.intro l0 l1)))))))))
  have HKS:Hid (∀ w':World,Below w3.heap.size w3 w' → w'.cell? ⟨w2.heap.size,0,none⟩=some (.int .i64 0)∧w'.cell? ⟨w2.heap.size,1,none⟩=some (.int .i64 (tb:Int))∧w'.cell? ⟨w2.heap.size,2,none⟩=some (.int .i64 0)∧w'.cell? ⟨w.heap.size,0,none⟩=some (.int .i64 0)∧w'.cell? ⟨w.heap.size,1,none⟩=some (.int .i64 (t:Int))∧w'.cell? ⟨w.heap.size,2,none⟩=some (.int .i64 (q:Int))∧w'.cell? ⟨w1.heap.size,0,none⟩=some (.string (packN X))∧w'.cell? ⟨w1.heap.size,1,none⟩=some (.int .i64 (X.length:Int))∧w'.cell? ⟨w1.heap.size,2,none⟩=some (.bool (QM.lg B X))∧w'.cell? ⟨g,0,none⟩=some (.int .i64 (E:Int))∧w'.cell? ⟨g,1,none⟩=some (.int .i64 (B:Int))):=fun W hW=>And.intro (cell_on q0 hW) (And.intro (cell_on q1 hW) (And.intro (cell_on q2 hW) (And.intro (cell_on p0 hW) (And.intro (cell_on p1 hW) (And.intro (cell_on p2 hW) (And.intro (cell_on n0 hW) (And.intro (cell_on n1 hW) (And.intro (cell_on n2 hW) (And.intro (cell_on l0 hW) (cell_on l1 hW))))))))))
  have HKC:Hid (∀ (a w':World) (N':QM.NL),Below w3.heap.size w3 a → Chg a w' b0 g r c rest nv E B N' → w'.cell? ⟨w2.heap.size,0,none⟩=some (.int .i64 0)∧w'.cell? ⟨w2.heap.size,1,none⟩=some (.int .i64 (tb:Int))∧w'.cell? ⟨w2.heap.size,2,none⟩=some (.int .i64 0)∧w'.cell? ⟨w.heap.size,0,none⟩=some (.int .i64 0)∧w'.cell? ⟨w.heap.size,1,none⟩=some (.int .i64 (t:Int))∧w'.cell? ⟨w.heap.size,2,none⟩=some (.int .i64 (q:Int))∧w'.cell? ⟨w1.heap.size,0,none⟩=some (.string (packN X))∧w'.cell? ⟨w1.heap.size,1,none⟩=some (.int .i64 (X.length:Int))∧w'.cell? ⟨w1.heap.size,2,none⟩=some (.bool (QM.lg B X))∧w'.cell? ⟨g,0,none⟩=some (.int .i64 (E:Int))∧w'.cell? ⟨g,1,none⟩=some (.int .i64 (B:Int))):=fun a W N' ha hc=>And.intro (hc.cell HL.out HSZ2.out (cell_on q0 ha)) (And.intro (hc.cell HL.out HSZ2.out (cell_on q1 ha)) (And.intro (hc.cell HL.out HSZ2.out (cell_on q2 ha)) (And.intro (hc.cell HL.out (Nat.le_refl _) (cell_on p0 ha)) (And.intro (hc.cell HL.out (Nat.le_refl _) (cell_on p1 ha)) (And.intro (hc.cell HL.out (Nat.le_refl _) (cell_on p2 ha)) (And.intro (hc.cell HL.out HSZ.out (cell_on n0 ha)) (And.intro (hc.cell HL.out HSZ.out (cell_on n1 ha)) (And.intro (hc.cell HL.out HSZ.out (cell_on n2 ha)) hc.bnd))))))))
  clear hw3 hb3 L0 L1
  go_wp2_with fail
  go_region_held3 (fun w':World=>w'.cell? ⟨w2.heap.size,0,none⟩=some (.int .i64 0)∧w'.cell? ⟨w2.heap.size,1,none⟩=some (.int .i64 (tb:Int))∧w'.cell? ⟨w2.heap.size,2,none⟩=some (.int .i64 0)∧w'.cell? ⟨w.heap.size,0,none⟩=some (.int .i64 0)∧w'.cell? ⟨w.heap.size,1,none⟩=some (.int .i64 (t:Int))∧w'.cell? ⟨w.heap.size,2,none⟩=some (.int .i64 (q:Int))∧w'.cell? ⟨w1.heap.size,0,none⟩=some (.string (packN X))∧w'.cell? ⟨w1.heap.size,1,none⟩=some (.int .i64 (X.length:Int))∧w'.cell? ⟨w1.heap.size,2,none⟩=some (.bool (QM.lg B X))∧w'.cell? ⟨g,0,none⟩=some (.int .i64 (E:Int))∧w'.cell? ⟨g,1,none⟩=some (.int .i64 (B:Int)))
    (first | exact hSA | exact HKS.out _ hx0 | exact HKS.out _ ((Below.refl _ w3).drew))
    (first | (go_at_call 69; refine (show Calls _ _ _ _ _ from HHR.out _).mono ?_; rintro e w4 ⟨rfl,hb4⟩; have hx0:=bel_to ((Below.refl _ w3).drew) hb4 (Nat.le_refl _)))
  have HX4:Hid (Below w3.heap.size w3 w4):=hx0
  have hSB:=HKS.out _ hx0
  clear hb4 hx0 hSA q0 q1 q2 qf p0 p1 p2 pf n0 n1 n2 nf l0 l1 l2 l3 lf
  go_wp2_with fail
  go_region_held3 (fun w':World=>w'.cell? ⟨w2.heap.size,0,none⟩=some (.int .i64 0)∧w'.cell? ⟨w2.heap.size,1,none⟩=some (.int .i64 (tb:Int))∧w'.cell? ⟨w2.heap.size,2,none⟩=some (.int .i64 0)∧w'.cell? ⟨w.heap.size,0,none⟩=some (.int .i64 0)∧w'.cell? ⟨w.heap.size,1,none⟩=some (.int .i64 (t:Int))∧w'.cell? ⟨w.heap.size,2,none⟩=some (.int .i64 (q:Int))∧w'.cell? ⟨w1.heap.size,0,none⟩=some (.string (packN X))∧w'.cell? ⟨w1.heap.size,1,none⟩=some (.int .i64 (X.length:Int))∧w'.cell? ⟨w1.heap.size,2,none⟩=some (.bool (QM.lg B X))∧w'.cell? ⟨g,0,none⟩=some (.int .i64 (E:Int))∧w'.cell? ⟨g,1,none⟩=some (.int .i64 (B:Int)))
    (first | exact hSB | exact HKS.out _ hy2 | exact HKS.out _ hy1 | exact HKS.out _ (HX4.out.drew))
    (first | (go_at_call 69; refine (show Calls _ _ _ _ _ from HHB.out _).mono ?_; rintro e y ⟨rfl,hd2⟩; have hy2:=bel_to hy1 hd2 (Nat.le_refl _)) | (go_at_call 70; refine (show Calls _ _ _ _ _ from HNB.out _ (HL.out.on (HBY.out _ HX4.out.drew))).mono ?_; rintro e y1 ⟨rfl,hd1⟩; have hy1:=bel_to HX4.out.drew hd1 (Nat.le_refl _)))
  have HX5:Hid (Below w3.heap.size w3 y):=hy2
  have hSC:=HKS.out _ HX5.out
  obtain ⟨z0,z1,z2,s0,s1,s2,s3,s4,s5,s6,s7⟩:=HKS.out _ HX5.out
  clear hy1 hy2 hd1 hd2 hSB
  go_wp2_with fail
  refine (show Calls _ _ _ _ _ from HNB.out _ (HL.out.on (HBY.out _ HX5.out))).mono ?_
  rintro e y3 ⟨rfl,hd3⟩
  have hy3:Below w3.heap.size w3 y3:=bel_to HX5.out hd3 (Nat.le_refl _)
  have hy4:Below w3.heap.size w3 (y3.alloc (.cells #[.string (packN Xb),.int .i64 (Xb.length:Int),.bool (QM.lg B Xb)] 57)):=hy3.alloc hy3.size _
  have hm4:=one_alloc y3 (.cells #[.string (packN Xb),.int .i64 (Xb.length:Int),.bool (QM.lg B Xb)] 57)
  have HSZ3:Hid (w.heap.size ≤ y3.heap.size):=(HBY.out _ hy3).size
  clear hd3 hSC z0 z1 z2 s0 s1 s2 s3 s4 s5 s6 s7
  go_wp2_with fail
  generalize y3.alloc (.cells #[.string (packN Xb),.int .i64 (Xb.length:Int),.bool (QM.lg B Xb)] 57)=y4 at *
  obtain ⟨z0,z1,z2,_⟩:=HKS.out _ hy4
  obtain ⟨m0,m1,m2,mf⟩:=row3 hm4
  have HB4:Hid (∀ W,Below y4.heap.size y4 W → Below w.heap.size w W):=fun W hW=>HBY.out _ (bel_to hy4 hW (Nat.le_refl _))
  have hSD:=And.intro z0 (And.intro z1 (And.intro z2 (And.intro m0 (And.intro m1 m2))))
  have HKT:Hid (∀ w':World,Below y4.heap.size y4 w' → w'.cell? ⟨w2.heap.size,0,none⟩=some (.int .i64 0)∧w'.cell? ⟨w2.heap.size,1,none⟩=some (.int .i64 (tb:Int))∧w'.cell? ⟨w2.heap.size,2,none⟩=some (.int .i64 0)∧w'.cell? ⟨y3.heap.size,0,none⟩=some (.string (packN Xb))∧w'.cell? ⟨y3.heap.size,1,none⟩=some (.int .i64 (Xb.length:Int))∧w'.cell? ⟨y3.heap.size,2,none⟩=some (.bool (QM.lg B Xb))):=fun W hW=>And.intro (cell_on z0 hW) (And.intro (cell_on z1 hW) (And.intro (cell_on z2 hW) (And.intro (cell_on m0 hW) (And.intro (cell_on m1 hW) (cell_on m2 hW)))))
  have HKU:Hid (∀ (a w':World) (N':QM.NL),Below y4.heap.size y4 a → Chg a w' b0 g r c rest nv E B N' → w'.cell? ⟨w2.heap.size,0,none⟩=some (.int .i64 0)∧w'.cell? ⟨w2.heap.size,1,none⟩=some (.int .i64 (tb:Int))∧w'.cell? ⟨w2.heap.size,2,none⟩=some (.int .i64 0)∧w'.cell? ⟨y3.heap.size,0,none⟩=some (.string (packN Xb))∧w'.cell? ⟨y3.heap.size,1,none⟩=some (.int .i64 (Xb.length:Int))∧w'.cell? ⟨y3.heap.size,2,none⟩=some (.bool (QM.lg B Xb))):=fun a W N' ha hc=>And.intro (hc.cell HL.out HSZ2.out (cell_on z0 ha)) (And.intro (hc.cell HL.out HSZ2.out (cell_on z1 ha)) (And.intro (hc.cell HL.out HSZ2.out (cell_on z2 ha)) (And.intro (hc.cell HL.out HSZ3.out (cell_on m0 ha)) (And.intro (hc.cell HL.out HSZ3.out (cell_on m1 ha)) (hc.cell HL.out HSZ3.out (cell_on m2 ha))))))
  clear hy3 hy4 hm4 z0 z1 z2 m0 m1 m2 mf
  go_region_held3 (fun w':World=>w'.cell? ⟨w2.heap.size,0,none⟩=some (.int .i64 0)∧w'.cell? ⟨w2.heap.size,1,none⟩=some (.int .i64 (tb:Int))∧w'.cell? ⟨w2.heap.size,2,none⟩=some (.int .i64 0)∧w'.cell? ⟨y3.heap.size,0,none⟩=some (.string (packN Xb))∧w'.cell? ⟨y3.heap.size,1,none⟩=some (.int .i64 (Xb.length:Int))∧w'.cell? ⟨y3.heap.size,2,none⟩=some (.bool (QM.lg B Xb)))
    (first | exact hSD | exact HKT.out _ hx1 | exact HKU.out _ _ _ hx1 hc5 | exact HKT.out _ (hx1.alloc hx1.size _) | exact HKT.out _ ((Below.refl _ y4).drew))
    (first | (go_at_call 26; refine (show Calls _ _ _ _ _ from HRP.out a1 _ (HB4.out _ hx1) rfl).mono ?_; rintro e a5 ⟨rfl,hc5⟩) | (go_at_call 71; refine (show Calls _ _ _ _ _ from HWI.out _ (HW.out.on (HB4.out _ ((Below.refl _ y4).drew)))).mono ?_; rintro e a1 ⟨rfl,hb1⟩; have hx1:=bel_to ((Below.refl _ y4).drew) hb1 (Nat.le_refl _)))
  have HC5:Hid _:=hc5.back (HB4.out _ hx1)
  clear hc5 hx1 hb1 hSD
  go_wp2
  go_returns
  exact ⟨rfl,HC5.out⟩
end
end Go.Proofs.YtjnbjfjoejfmpaaGreatDoor
