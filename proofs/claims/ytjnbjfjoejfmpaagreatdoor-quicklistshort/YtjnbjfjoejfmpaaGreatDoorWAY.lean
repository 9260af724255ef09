import Derived.Test.YtjnbjfjoejfmpaaGreatDoorWAQ
import Derived.Deep.RegionHeld3
import Derived.Deep.RegionWith
import Derived.Deep.Cut
import Derived.Deep.CutRange
import Derived.Maps.AppendAt
namespace Go.Proofs.YtjnbjfjoejfmpaaGreatDoor
open Go.RowKit
set_option linter.unusedVariables false
set_option linter.unusedSimpArgs false
section
variable {b0 g r c:Nat} {rest:List Value} {nv:Value} {E B:Nat} {N:QM.NL}
set_option maxHeartbeats 4000000 in
theorem Set_yes (i:Nat) (hi:i < N.flatten.length) (hl:N.flatten.length ≤ 1000) (s:ByteArray) (hs:s.size ≤ 524288) (hI:QM.Inv E B N) (w:World) (hw:Lay w) (h:LS w b0 g r c rest nv E B (nds B N)):Calls Tryz.prog 40 #[ptr g,.int .i64 (i:Int),.string s] w fun e w'=>e=.returned (.int .i64 0)∧Chg w w' b0 g r c rest nv E B (QM.setQ B N i s):=by
  have HL:Hid _:=h
  have HW:Hid _:=hw
  have hln:N.length ≤ 1000:=Nat.le_trans (QM.len_le hI.some) hl
  have HI:Hid _:=hI
  obtain ⟨ht,hq,he⟩:=QM.plc_lt N i hi
  have HHA:Hid (∀ W,LS W b0 g r c rest nv E B (nds B N) → Calls Tryz.prog 79 #[ptr g,.int .i64 (i:Int)] W fun e w'=>e=.returned (.bool true)∧w'=W):=fun W hW=>by
    have:=has_any (i:Int) W hW
    have e1:hasQ (cntN (nds B N)) (i:Int)=true:=by unfold hasQ; rw [cnt_nds]; exact decide_eq_true ⟨by omega,by omega⟩
    rw [e1] at this; exact this
  have HFD:Hid (∀ W,LS W b0 g r c rest nv E B (nds B N) → _):=fun W hW=>findN_any i hi hl hI W hW
  have HND:Hid (∀ W k,LS W b0 g r c rest nv E B (nds B N) → _):=fun W k hW=>nodeN_any (QM.plc N i).1 k ht hln W hW
  have HIL:Hid (∀ W,Calls Tryz.prog 57 #[.agg #[.int .i64 (E:Int),.int .i64 (B:Int)],.string s] W fun e w'=>e=.returned (.bool (QM.big B s))∧Below W.heap.size W w'):=fun W=>isLarge_any E B s (by omega) hI.lb W
  obtain ⟨X,hX⟩:∃ X,N[(QM.plc N i).1]=X:=⟨_,rfl⟩
  have HXX:Hid _:=hX
  rw [hX] at hq HND
  have hfit:Fit X:=by rw [← hX]; exact fit_node hI (List.getElem_mem ht)
  have HSQ:Hid (QM.setQ B N i s=if QM.lg B X=true ∨ QM.big B s=true then QM.rep N (QM.plc N i).1 1 [X.take (QM.plc N i).2,[s],X.drop ((QM.plc N i).2 + 1)] else QM.rep N (QM.plc N i).1 1 [X.set (QM.plc N i).2 s]):=by show _=_; unfold QM.setQ; simp only [QM.getD_at N _ ht,hX]
  generalize (QM.plc N i).2=q at *
  generalize (QM.plc N i).1=t at *
  have hs2:¬ (524288 < s.size):=by omega
  clear hw h he hI
  go_enter Tryz.func40,Tryz.ntmps40
  go_wp2_with fail
  refine (show Calls _ _ _ _ _ from HHA.out _ HL.out).mono ?_
  rintro e w1 ⟨rfl,rfl⟩
  go_wp2_with fail
  refine (show Calls _ _ _ _ _ from HFD.out _ HL.out).mono ?_
  rintro e w2 ⟨rfl,hb2⟩
  have HB2:Hid (Below w1.heap.size w1 w2):=hb2
  have hby:Below w1.heap.size w1 (w2.alloc (.cells #[.int .i64 0,.int .i64 (t:Int),.int .i64 (q:Int)] 67)):=hb2.alloc hb2.size _
  go_wp2_with fail
  refine (show Calls _ _ _ _ _ from HND.out _ q (HL.out.on hby)).mono ?_
  rintro e w3 ⟨rfl,hb3⟩
  have hw3:Below w1.heap.size w1 w3:=bel_to hby hb3 (Nat.le_refl _)
  have hL3:=HL.out.on hw3
  have HL3:Hid _:=hL3
  have HB3:Hid _:=hw3
  have hp3:=keep_row (one_alloc w2 (.cells #[.int .i64 0,.int .i64 (t:Int),.int .i64 (q:Int)] 67)) hb3
  have HP3:Hid _:=hp3
  obtain ⟨l0,l1,l2,l3,lf⟩:=lrow4 hL3.hd
  have L0:=cell_a1 l0
  have L1:=cell_a1 l1
  clear hL3 hw3 hb3 hby hb2 l0 l1 l2 l3 lf hp3
  obtain ⟨lx,hlx⟩:∃ lx,QM.lg B X=lx:=⟨_,rfl⟩
  rw [hlx] at HSQ ⊢
  have HLX:Hid _:=hlx
  clear hlx
  cases lx with
  | true =>
    have hw4:Below w1.heap.size w1 (w3.alloc (.cells #[.string (packN X),.int .i64 (X.length:Int),.bool true] 57)):=HB3.out.alloc HB3.out.size _
    have hp4:=keep_row HP3.out ((Below.refl _ _).alloc (Nat.le_refl _) (.cells #[.string (packN X),.int .i64 (X.length:Int),.bool true] 57))
    have hn4:=one_alloc w3 (.cells #[.string (packN X),.int .i64 (X.length:Int),.bool true] 57)
    go_wp2_with fail
    generalize w3.alloc (.cells #[.string (packN X),.int .i64 (X.length:Int),.bool true] 57)=w4 at *
    have hL4:=HL.out.on hw4
    have HL4:Hid _:=hL4
    have HB4:Hid (∀ W,Below w4.heap.size w4 W → Below w1.heap.size w1 W):=fun W hW=>bel_to hw4 hW (Nat.le_refl _)
    obtain ⟨l0,l1,l2,l3,lf⟩:=lrow4 hL4.hd
    obtain ⟨p0,p1,p2,pf⟩:=row3 hp4
    obtain ⟨n0,n1,n2,nf⟩:=row3 hn4
    have hSA:=And.intro p0 (And.intro p1 (And.intro p2 (And.intro n0 (And.intro n1 (And.intro n2 (And.intro l0 l1))))))
    have HKS:Hid (∀ w':World,Below w4.heap.size w4 w' → w'.cell? ⟨w2.heap.size,0,none⟩=some (.int .i64 0)∧w'.cell? ⟨w2.heap.size,1,none⟩=some (.int .i64 (t:Int))∧w'.cell? ⟨w2.heap.size,2,none⟩=some (.int .i64 (q:Int))∧w'.cell? ⟨w3.heap.size,0,none⟩=some (.string (packN X))∧w'.cell? ⟨w3.heap.size,1,none⟩=some (.int .i64 (X.length:Int))∧w'.cell? ⟨w3.heap.size,2,none⟩=some (.bool true)∧w'.cell? ⟨g,0,none⟩=some (.int .i64 (E:Int))∧w'.cell? ⟨g,1,none⟩=some (.int .i64 (B:Int))):=fun W hW=>And.intro (cell_on p0 hW) (And.intro (cell_on p1 hW) (And.intro (cell_on p2 hW) (And.intro (cell_on n0 hW) (And.intro (cell_on n1 hW) (And.intro (cell_on n2 hW) (And.intro (cell_on l0 hW) (cell_on l1 hW)))))))
    have hsz2:w1.heap.size ≤ w2.heap.size:=HB2.out.size
    have hsz3:w1.heap.size ≤ w3.heap.size:=HB3.out.size
    have HKC:Hid (∀ (a w':World) (N':QM.NL),Below w4.heap.size w4 a → Chg a w' b0 g r c rest nv E B N' → w'.cell? ⟨w2.heap.size,0,none⟩=some (.int .i64 0)∧w'.cell? ⟨w2.heap.size,1,none⟩=some (.int .i64 (t:Int))∧w'.cell? ⟨w2.heap.size,2,none⟩=some (.int .i64 (q:Int))∧w'.cell? ⟨w3.heap.size,0,none⟩=some (.string (packN X))∧w'.cell? ⟨w3.heap.size,1,none⟩=some (.int .i64 (X.length:Int))∧w'.cell? ⟨w3.heap.size,2,none⟩=some (.bool true)∧w'.cell? ⟨g,0,none⟩=some (.int .i64 (E:Int))∧w'.cell? ⟨g,1,none⟩=some (.int .i64 (B:Int))):=fun a W N' ha hc=>And.intro (hc.cell HL.out hsz2 (cell_on p0 ha)) (And.intro (hc.cell HL.out hsz2 (cell_on p1 ha)) (And.intro (hc.cell HL.out hsz2 (cell_on p2 ha)) (And.intro (hc.cell HL.out hsz3 (cell_on n0 ha)) (And.intro (hc.cell HL.out hsz3 (cell_on n1 ha)) (And.intro (hc.cell HL.out hsz3 (cell_on n2 ha)) hc.bnd)))))
    have hXm:X ∈ N:=by rw [← HXX.out]; exact List.getElem_mem _
    have hXl:=HI.out.few X hXm
    have hXE:=HI.out.le
    clear hw4 hp4 hn4 hL4 l0 l1 l2 l3 lf p0 p1 p2 pf n0 n1 n2 nf L0 L1
    have hQ:QM.setQ B N i s=QM.rep N t 1 [X.take q,[s],X.drop (q + 1)]:=by rw [HSQ.out]; simp
    have HAH:Hid (∀ W,Lay W → Calls Tryz.prog 81 #[.agg #[.string (packN X),.int .i64 (X.length:Int),.bool true],.int .i64 (q:Int)] W fun e w'=>e=.returned (.agg #[.string (packN (X.take q)),.int .i64 (q:Int),.bool true])∧Below W.heap.size W w'):=fun W hW=>ahead_any B X hfit q (by omega) true W hW
    have HFM:Hid (∀ W,Lay W → Calls Tryz.prog 82 #[.agg #[.string (packN X),.int .i64 (X.length:Int),.bool true],.int .i64 ((q:Int) + 1)] W fun e w'=>e=.returned (.agg #[.string (packN (X.drop (q + 1))),.int .i64 ((X.length - (q + 1):Nat):Int),.bool true])∧Below W.heap.size W w'):=fun W hW=>by
      have:=from_any B X hfit (q + 1) (by omega) true W hW
      rw [show ((q + 1:Nat):Int)=(q:Int) + 1 by omega] at this; exact this
    have HAL:Hid (∀ W,Lay W → Calls Tryz.prog 72 #[.agg #[.int .i64 (E:Int),.int .i64 (B:Int)],.string s] W fun e w'=>e=.returned (.agg #[.string (packN [s]),.int .i64 1,.bool (QM.big B s)])∧Below W.heap.size W w'):=fun W hW=>alone_any E B s hs HI.out.lb W hW
    have HRP:Hid (∀ a W,Below w1.heap.size w1 a → W=a.alloc (.cells #[.string (packN (X.take q)),.int .i64 (q:Int),.bool true,.string (packN [s]),.int .i64 1,.bool (QM.big B s),.string (packN (X.drop (q + 1))),.int .i64 ((X.length - (q + 1):Nat):Int),.bool true] 57) → Calls Tryz.prog 26 #[ptr g,plV t q,.int .i64 1,.slice (some ⟨a.heap.size,0,none⟩) 3 3] W fun e w'=>e=.returned (.tuple #[])∧Chg a w' b0 g r c rest nv E B (QM.setQ B N i s)):=fun a W ha hW=>by
      have:=repl3_any t q q (q + 1) X ht HXX.out (by omega) (by omega) s HI.out hl a W (HL.out.on ha) (by rw [HLX.out]; exact hW)
      rw [hQ]; exact this
    have hwq:IntKind.i64.wrap ((q:Int) + 1)=(q:Int) + 1:=by rw [IntKind.wrap_i64] <;> omega
    generalize packN (X.take q)=PK1 at *
    generalize packN (X.drop (q + 1))=PK3 at *
    generalize packN [s]=PK2 at *
    generalize X.length - (q + 1)=LR at *
    generalize QM.big B s=BG at *
    clear hQ HSQ HLX hfit
    go_region_held3 (fun w':World=>w'.cell? ⟨w2.heap.size,0,none⟩=some (.int .i64 0)∧w'.cell? ⟨w2.heap.size,1,none⟩=some (.int .i64 (t:Int))∧w'.cell? ⟨w2.heap.size,2,none⟩=some (.int .i64 (q:Int))∧w'.cell? ⟨w3.heap.size,0,none⟩=some (.string (packN X))∧w'.cell? ⟨w3.heap.size,1,none⟩=some (.int .i64 (X.length:Int))∧w'.cell? ⟨w3.heap.size,2,none⟩=some (.bool true)∧w'.cell? ⟨g,0,none⟩=some (.int .i64 (E:Int))∧w'.cell? ⟨g,1,none⟩=some (.int .i64 (B:Int)))
      (first | exact hSA | exact HKS.out _ hx3 | exact HKS.out _ hx2 | exact HKS.out _ hx1 | exact HKC.out _ _ _ hx3 hc5 | exact HKS.out _ (hx3.alloc hx3.size _) | exact HKS.out _ ((Below.refl _ w4).drew))
      (first | (go_at_call 26; refine (show Calls _ _ _ _ _ from HRP.out a3 _ (HB4.out _ hx3) rfl).mono ?_; rintro e a5 ⟨rfl,hc5⟩) | (go_at_call 82; refine (show Calls _ _ _ _ _ from HFM.out _ (HW.out.on (HB4.out _ hx2))).mono ?_; rintro e a3 ⟨rfl,hb3⟩; have hx3:=bel_to hx2 hb3 (Nat.le_refl _)) | (go_at_call 72; refine (show Calls _ _ _ _ _ from HAL.out _ (HW.out.on (HB4.out _ hx1))).mono ?_; rintro e a2 ⟨rfl,hb2⟩; have hx2:=bel_to hx1 hb2 (Nat.le_refl _)) | (go_at_call 81; refine (show Calls _ _ _ _ _ from HAH.out _ (HW.out.on (HB4.out _ ((Below.refl _ w4).drew)))).mono ?_; rintro e a1 ⟨rfl,hb1⟩; have hx1:=bel_to ((Below.refl _ w4).drew) hb1 (Nat.le_refl _)))
    have HC5:Hid _:=hc5.back (HB4.out _ hx3)
    clear hc5 hx1 hx2 hx3 hb1 hb2 hb3 hSA
    go_wp2
    go_returns
    exact ⟨rfl,HC5.out⟩
  | false =>
    go_wp2_with fail
    refine (show Calls _ _ _ _ _ from HIL.out _).mono ?_
    rintro e w4 ⟨rfl,hb4⟩
    have hw4:Below w1.heap.size w1 w4:=bel_to (HB3.out.alloc HB3.out.size _) hb4 (Nat.le_refl _)
    have hp4:=keep_row (keep_row HP3.out ((Below.refl _ _).alloc (Nat.le_refl _) (.cells #[.string (packN X),.int .i64 (X.length:Int),.bool false] 57))) hb4
    have hn4:=keep_row (one_alloc w3 (.cells #[.string (packN X),.int .i64 (X.length:Int),.bool false] 57)) hb4
    have hL4:=HL.out.on hw4
    have HL4:Hid _:=hL4
    have HB4:Hid (∀ W,Below w4.heap.size w4 W → Below w1.heap.size w1 W):=fun W hW=>bel_to hw4 hW (Nat.le_refl _)
    obtain ⟨l0,l1,l2,l3,lf⟩:=lrow4 hL4.hd
    obtain ⟨p0,p1,p2,pf⟩:=row3 hp4
    obtain ⟨n0,n1,n2,nf⟩:=row3 hn4
    have hSA:=And.intro p0 (And.intro p1 (And.intro p2 (And.intro n0 (And.intro n1 (And.intro n2 (And.intro l0 l1))))))
    have HKS:Hid (∀ w':World,Below w4.heap.size w4 w' → w'.cell? ⟨w2.heap.size,0,none⟩=some (.int .i64 0)∧w'.cell? ⟨w2.heap.size,1,none⟩=some (.int .i64 (t:Int))∧w'.cell? ⟨w2.heap.size,2,none⟩=some (.int .i64 (q:Int))∧w'.cell? ⟨w3.heap.size,0,none⟩=some (.string (packN X))∧w'.cell? ⟨w3.heap.size,1,none⟩=some (.int .i64 (X.length:Int))∧w'.cell? ⟨w3.heap.size,2,none⟩=some (.bool false)∧w'.cell? ⟨g,0,none⟩=some (.int .i64 (E:Int))∧w'.cell? ⟨g,1,none⟩=some (.int .i64 (B:Int))):=fun W hW=>And.intro (cell_on p0 hW) (And.intro (cell_on p1 hW) (And.intro (cell_on p2 hW) (And.intro (cell_on n0 hW) (And.intro (cell_on n1 hW) (And.intro (cell_on n2 hW) (And.intro (cell_on l0 hW) (cell_on l1 hW)))))))
    have hsz2:w1.heap.size ≤ w2.heap.size:=HB2.out.size
    have hsz3:w1.heap.size ≤ w3.heap.size:=HB3.out.size
    have HKC:Hid (∀ (a w':World) (N':QM.NL),Below w4.heap.size w4 a → Chg a w' b0 g r c rest nv E B N' → w'.cell? ⟨w2.heap.size,0,none⟩=some (.int .i64 0)∧w'.cell? ⟨w2.heap.size,1,none⟩=some (.int .i64 (t:Int))∧w'.cell? ⟨w2.heap.size,2,none⟩=some (.int .i64 (q:Int))∧w'.cell? ⟨w3.heap.size,0,none⟩=some (.string (packN X))∧w'.cell? ⟨w3.heap.size,1,none⟩=some (.int .i64 (X.length:Int))∧w'.cell? ⟨w3.heap.size,2,none⟩=some (.bool false)∧w'.cell? ⟨g,0,none⟩=some (.int .i64 (E:Int))∧w'.cell? ⟨g,1,none⟩=some (.int .i64 (B:Int))):=fun a W N' ha hc=>And.intro (hc.cell HL.out hsz2 (cell_on p0 ha)) (And.intro (hc.cell HL.out hsz2 (cell_on p1 ha)) (And.intro (hc.cell HL.out hsz2 (cell_on p2 ha)) (And.intro (hc.cell HL.out hsz3 (cell_on n0 ha)) (And.intro (hc.cell HL.out hsz3 (cell_on n1 ha)) (And.intro (hc.cell HL.out hsz3 (cell_on n2 ha)) hc.bnd)))))
    have hXm:X ∈ N:=by rw [← HXX.out]; exact List.getElem_mem _
    have hXl:=HI.out.few X hXm
    have hXE:=HI.out.le
    clear hw4 hp4 hn4 hL4 hb4 l0 l1 l2 l3 lf p0 p1 p2 pf n0 n1 n2 nf L0 L1
    obtain ⟨bb,hbb⟩:∃ bb,QM.big B s=bb:=⟨_,rfl⟩
    rw [hbb] at HSQ ⊢
    have HBB:Hid _:=hbb
    clear hbb
    cases bb with
    | true =>
      have hQ:QM.setQ B N i s=QM.rep N t 1 [X.take q,[s],X.drop (q + 1)]:=by rw [HSQ.out]; simp
      have HAH:Hid (∀ W,Lay W → Calls Tryz.prog 81 #[.agg #[.string (packN X),.int .i64 (X.length:Int),.bool false],.int .i64 (q:Int)] W fun e w'=>e=.returned (.agg #[.string (packN (X.take q)),.int .i64 (q:Int),.bool false])∧Below W.heap.size W w'):=fun W hW=>ahead_any B X hfit q (by omega) false W hW
      have HFM:Hid (∀ W,Lay W → Calls Tryz.prog 82 #[.agg #[.string (packN X),.int .i64 (X.length:Int),.bool false],.int .i64 ((q:Int) + 1)] W fun e w'=>e=.returned (.agg #[.string (packN (X.drop (q + 1))),.int .i64 ((X.length - (q + 1):Nat):Int),.bool false])∧Below W.heap.size W w'):=fun W hW=>by
        have:=from_any B X hfit (q + 1) (by omega) false W hW
        rw [show ((q + 1:Nat):Int)=(q:Int) + 1 by omega] at this; exact this
      have HAL:Hid (∀ W,Lay W → Calls Tryz.prog 72 #[.agg #[.int .i64 (E:Int),.int .i64 (B:Int)],.string s] W fun e w'=>e=.returned (.agg #[.string (packN [s]),.int .i64 1,.bool (QM.big B s)])∧Below W.heap.size W w'):=fun W hW=>alone_any E B s hs HI.out.lb W hW
      have HRP:Hid (∀ a W,Below w1.heap.size w1 a → W=a.alloc (.cells #[.string (packN (X.take q)),.int .i64 (q:Int),.bool false,.string (packN [s]),.int .i64 1,.bool (QM.big B s),.string (packN (X.drop (q + 1))),.int .i64 ((X.length - (q + 1):Nat):Int),.bool false] 57) → Calls Tryz.prog 26 #[ptr g,plV t q,.int .i64 1,.slice (some ⟨a.heap.size,0,none⟩) 3 3] W fun e w'=>e=.returned (.tuple #[])∧Chg a w' b0 g r c rest nv E B (QM.setQ B N i s)):=fun a W ha hW=>by
        have:=repl3_any t q q (q + 1) X ht HXX.out (by omega) (by omega) s HI.out hl a W (HL.out.on ha) (by rw [HLX.out]; exact hW)
        rw [hQ]; exact this
      have hwq:IntKind.i64.wrap ((q:Int) + 1)=(q:Int) + 1:=by rw [IntKind.wrap_i64] <;> omega
      generalize packN (X.take q)=PK1 at *
      generalize packN (X.drop (q + 1))=PK3 at *
      generalize packN [s]=PK2 at *
      generalize X.length - (q + 1)=LR at *
      generalize QM.big B s=BG at *
      clear hQ HSQ HLX hfit
      go_wp2_with fail
      go_region_held3 (fun w':World=>w'.cell? ⟨w2.heap.size,0,none⟩=some (.int .i64 0)∧w'.cell? ⟨w2.heap.size,1,none⟩=some (.int .i64 (t:Int))∧w'.cell? ⟨w2.heap.size,2,none⟩=some (.int .i64 (q:Int))∧w'.cell? ⟨w3.heap.size,0,none⟩=some (.string (packN X))∧w'.cell? ⟨w3.heap.size,1,none⟩=some (.int .i64 (X.length:Int))∧w'.cell? ⟨w3.heap.size,2,none⟩=some (.bool false)∧w'.cell? ⟨g,0,none⟩=some (.int .i64 (E:Int))∧w'.cell? ⟨g,1,none⟩=some (.int .i64 (B:Int)))
        (first | exact hSA | exact HKS.out _ hx3 | exact HKS.out _ hx2 | exact HKS.out _ hx1 | exact HKC.out _ _ _ hx3 hc5 | exact HKS.out _ (hx3.alloc hx3.size _) | exact HKS.out _ ((Below.refl _ w4).drew))
        (first | (go_at_call 26; refine (show Calls _ _ _ _ _ from HRP.out a3 _ (HB4.out _ hx3) rfl).mono ?_; rintro e a5 ⟨rfl,hc5⟩) | (go_at_call 82; refine (show Calls _ _ _ _ _ from HFM.out _ (HW.out.on (HB4.out _ hx2))).mono ?_; rintro e a3 ⟨rfl,hb3⟩; have hx3:=bel_to hx2 hb3 (Nat.le_refl _)) | (go_at_call 72; refine (show Calls _ _ _ _ _ from HAL.out _ (HW.out.on (HB4.out _ hx1))).mono ?_; rintro e a2 ⟨rfl,hb2⟩; have hx2:=bel_to hx1 hb2 (Nat.le_refl _)) | (go_at_call 81; refine (show Calls _ _ _ _ _ from HAH.out _ (HW.out.on (HB4.out _ ((Below.refl _ w4).drew)))).mono ?_; rintro e a1 ⟨rfl,hb1⟩; have hx1:=bel_to ((Below.refl _ w4).drew) hb1 (Nat.le_refl _)))
      have HC5:Hid _:=hc5.back (HB4.out _ hx3)
      clear hc5 hx1 hx2 hx3 hb1 hb2 hb3 hSA
      go_wp2
      go_returns
      exact ⟨rfl,HC5.out⟩
    | false =>
      have hQ:QM.setQ B N i s=QM.rep N t 1 [X.set q s]:=by rw [HSQ.out]; simp
      have hsm:=QM.lg_not HI.out hXm HLX.out
      have hsB:s.size ≤ B:=QM.big_iff.1 HBB.out
      have hfit2:Fit (X.set q s):=fit_many (by rw [List.length_set]; omega) (fun u hu=>by
        rcases List.mem_or_eq_of_mem_set hu with h | h
        · have:=hsm u h; have:=HI.out.lb; omega
        · subst h; have:=HI.out.lb; omega)
      have HCH:Hid (∀ W,Lay W → Calls Tryz.prog 83 #[.agg #[.string (packN X),.int .i64 (X.length:Int),.bool false],.int .i64 (q:Int),.string s] W fun e w'=>e=.returned (.agg #[.string (packN (X.set q s)),.int .i64 (X.length:Int),.bool false])∧Below W.heap.size W w'):=fun W hW=>changed_any B X hfit q hq s hs hfit2 false W hW
      have hne:X.set q s ≠ []:=by intro e; have:=congrArg List.length e; rw [List.length_set] at this; simp at this; rw [this] at hq; simp at hq
      have hlg:QM.lg B (X.set q s)=false:=by
        cases hh:X.set q s with
        | nil=>rfl
        | cons u us =>
          unfold QM.lg
          have hu:u ∈ X.set q s:=by rw [hh]; simp
          rcases List.mem_or_eq_of_mem_set hu with h | h
          · have:=hsm u h; simp; omega
          · subst h; simp; omega
      have HRP:Hid (∀ a W,Below w1.heap.size w1 a → W=a.alloc (.cells #[.string (packN (X.set q s)),.int .i64 (X.length:Int),.bool false] 57) → Calls Tryz.prog 26 #[ptr g,plV t q,.int .i64 1,.slice (some ⟨a.heap.size,0,none⟩) 1 1] W fun e w'=>e=.returned (.tuple #[])∧Chg a w' b0 g r c rest nv E B (QM.setQ B N i s)):=fun a W ha hW=>by
        subst hW
        have hLa:=HL.out.on ha
        have hba:Below a.heap.size a (a.alloc (.cells #[.string (packN (X.set q s)),.int .i64 (X.length:Int),.bool false] 57)):=(Below.refl _ _).alloc (Nat.le_refl _) _
        have:=replN_any t q 1 a.heap.size [(packN (X.set q s),X.length,false)] [X.set q s] ⟨⟨rfl,by simp,fun _=>hlg.symm⟩,trivial⟩ a _ hba (hLa.on hba) hLa (by omega) hln (by omega) (by simp; omega) (by simp) (by simp) (nx_one a (packN (X.set q s),X.length,false)) (Nat.le_refl _) (fun e=>by simp at e)
        rw [hQ]; exact this
      generalize packN (X.set q s)=PK at *
      clear hne hlg hsm hsB hfit2 hQ HSQ HLX HBB hfit
      go_wp2_with fail
      go_region_held3 (fun w':World=>w'.cell? ⟨w2.heap.size,0,none⟩=some (.int .i64 0)∧w'.cell? ⟨w2.heap.size,1,none⟩=some (.int .i64 (t:Int))∧w'.cell? ⟨w2.heap.size,2,none⟩=some (.int .i64 (q:Int))∧w'.cell? ⟨w3.heap.size,0,none⟩=some (.string (packN X))∧w'.cell? ⟨w3.heap.size,1,none⟩=some (.int .i64 (X.length:Int))∧w'.cell? ⟨w3.heap.size,2,none⟩=some (.bool false)∧w'.cell? ⟨g,0,none⟩=some (.int .i64 (E:Int))∧w'.cell? ⟨g,1,none⟩=some (.int .i64 (B:Int)))
        (first | exact hSA | exact HKS.out _ hx1 | exact HKC.out _ _ _ hx1 hc5 | exact HKS.out _ (hx1.alloc hx1.size _) | exact HKS.out _ ((Below.refl _ w4).drew))
        (first | (go_at_call 26; refine (show Calls _ _ _ _ _ from HRP.out a1 _ (HB4.out _ hx1) rfl).mono ?_; rintro e a5 ⟨rfl,hc5⟩) | (go_at_call 83; refine (show Calls _ _ _ _ _ from HCH.out _ (HW.out.on (HB4.out _ ((Below.refl _ w4).drew)))).mono ?_; rintro e a1 ⟨rfl,hb1⟩; have hx1:=bel_to ((Below.refl _ w4).drew) hb1 (Nat.le_refl _)))
      have HC5:Hid _:=hc5.back (HB4.out _ hx1)
      clear hc5 hx1 hb1 hSA
      go_wp2
      go_returns
      exact ⟨rfl,HC5.out⟩
end
end Go.Proofs.YtjnbjfjoejfmpaaGreatDoor
namespace Go.Proofs.YtjnbjfjoejfmpaaGreatDoor
open Go.RowKit
set_option linter.unusedVariables false
set_option linter.unusedSimpArgs false
theorem NX.setSame {W:World} {E c:Nat} {ns:List Nd} (h:NX W E c ns) (i:Nat) (hi:i < ns.length):NX (W.setCell ⟨E,i * 3,none⟩ (.string ns[i].1)) E c ns:=by
  obtain ⟨cur,h1,h2,h3⟩:=h.row
  refine ⟨⟨cur,?_,h2,h3⟩,h.le,h.max⟩
  rw [heap_setCell_same _ _ _ _ _ _ h1]
  congr 2
  have hc:=(h.cells i hi).1
  rw [cell_of_row _ _ _ _ _ _ h1] at hc
  apply Array.ext_getElem?
  intro j
  rw [Array.getElem?_setIfInBounds]
  split
  · rename_i e
    subst e
    split
    · exact hc.symm
    · rw [Array.getElem?_eq_none (by omega)]
  · rfl
set_option maxHeartbeats 1000000 in
set_option maxRecDepth 100000 in
theorem scloneN_any (b0:Nat) (nv:Value) (ns:List Nd) (hl:ns.length ≤ 1000) (w:World) (hB:NV w b0 nv ns):Calls Tryz.prog 92 #[nv] w fun e w'=>∃ v',e=.returned v'∧NV w' w.heap.size v' ns∧Below w.heap.size w w':=by
  obtain ⟨i0,hi0,hz0,hz1,hz2⟩:=info_parts infoN
  rcases hB with ⟨rfl,rfl⟩ | ⟨E,c,rfl,hbE,hN⟩
  · have hcmp:∀ W,(binOp .eql 69 (.slice none 0 0) (.slice none 0 0)).run Tryz.prog W=.ok (.bool true) W:=fun W=>by kernel_rfl
    go_enter Tryz.func92,Tryz.ntmps92
    go_wp2
    go_returns
    exact ⟨_,rfl,Or.inl ⟨rfl,rfl⟩,Below.refl _ _⟩
  · have hcmp:∀ W,(binOp .eql 69 (.slice (some ⟨E,0,none⟩) ns.length c) (.slice none 0 0)).run Tryz.prog W=.ok (.bool false) W:=fun W=>by kernel_rfl
    obtain ⟨W1,hW1⟩:∃ W1,W1=w.alloc (.cells #[] 57):=⟨_,rfl⟩
    have hb1:Below w.heap.size w W1:=by rw [hW1]; exact (Below.refl _ _).alloc (Nat.le_refl _) _
    have HO1:Hid (W1.ownsRow w.heap.size 57 3 (.slice (some ⟨w.heap.size,0,none⟩) 0 0) 0 []):=⟨rfl,Or.inr ⟨w.heap.size,0,#[],rfl,Nat.le_refl _,by rw [hW1]; exact one_alloc _ _,Nat.le_refl _,Nat.zero_le _,rfl,rfl⟩⟩
    have HC1:Hid (∀ j u,(flatN ns)[j]?=some u → W1.cell? ((⟨E,0,none⟩:Addr).add j)=some u):=fun j u hu=>by
      rw [Lib.add_plain,Nat.zero_add]
      exact cell_on (hN.cellAt j u hu) hb1
    have HB1:Hid (Below w.heap.size w W1):=hb1
    have hfl:=flatN_len ns
    have h1c:=flatN_one ns
    clear hN hb1
    go_enter Tryz.func92,Tryz.ntmps92
    go_upto_region 3 with fail
    go_wp2_with (at_builtin; rw [← hW1]; go_must (refine wpList_append_own W1 rfl _ _ 69 rfl w.heap.size 57 i0 (.agg #[.string ⟨#[]⟩,.int .i64 0,.bool false]) 3 32 Tryz.underlying69 hi0 hz0 hz1 hz2 rfl (by decide) (.slice (some ⟨w.heap.size,0,none⟩) 0 0) 0 [] rfl HO1.out ⟨E,0,none⟩ ns.length c (flatN ns) rfl hfl HC1.out h1c (by unfold maxLen; omega) (by omega) HB1.out.size ?_))
    intro v3 w3 ho3 hg3 hnil
    rw [← hW1] at hg3
    have HB3:Hid (Below w.heap.size w w3):=HB1.out.grown hg3 HB1.out.size (fun q hq=>(World.ownsRow.lt HO1.out q hq).1)
    have HV3:Hid (NV w3 w.heap.size v3 ns):=NX.of ho3 rfl
    obtain ⟨P9,k9,hkf⟩:=own_form ho3
    subst hkf
    clear ho3 hg3 hnil hW1
    go_wp2
    go_returns
    exact ⟨_,rfl,HV3.out,HB3.out⟩
end Go.Proofs.YtjnbjfjoejfmpaaGreatDoor
namespace Go.Proofs.YtjnbjfjoejfmpaaGreatDoor
open Go.RowKit
set_option linter.unusedVariables false
set_option linter.unusedSimpArgs false
theorem infoRow:(Tryz.prog.info? 71).map (fun i=>(i.zero,i.size,i.bytes))=some (some (.agg #[.slice none 0 0,.int .i64 0]),2,32):=by kernel_rfl
theorem step_append_rw {w:World} {ops:Array Oper} {o:Oper} {a:Act} {K:Act → World → Prop} {Q:Exit → Act → World → Prop} {E:Prop} (hg:o.guard=none) (s x:Operand)
    (hop:o.op=Op.call { callee:=Callee.builtin Builtin.append,args:=#[s,x],argTypes:=#[62,62] })
    (b:Nat) (hb:b ≤ w.heap.size) (hs:a.eval s=.slice none 0 0) (B:Nat) (p0:Option Addr) (l0 c0:Nat) (y1:Int) (hx:a.eval x=.slice (some ⟨B,0,none⟩) 1 1) (hB:w.heap[B]?=some (.cells #[.slice p0 l0 c0,.int .i64 y1] 71))
    (h:∀ v' w',w'.ownsRow b 71 2 v' 1 [.slice p0 l0 c0,.int .i64 y1] → w.grownBy w' none → K (a.put o.dst v') w') :
    if Region.wanted o (yielded ops a.tmps)=true then Oper.wp Tryz.prog o a w K Q else E:=by
  have hw:Region.wanted o (yielded ops a.tmps)=true:=by simp [Region.wanted,hg]
  rw [if_pos hw]
  obtain ⟨i0,hi,hz0,hz1,hz2⟩:=info_parts infoRow
  obtain ⟨v',w',hrun,h2,h3,h4,h5⟩:=run_append_own_at (P:=Tryz.prog) w b 62 o.type 71 i0 (.agg #[.slice none 0 0,.int .i64 0]) 2 32 Tryz.underlying62 hi hz0 hz1 hz2 rfl (by decide) (.slice none 0 0) 0 [] ⟨rfl,Or.inl ⟨rfl,rfl⟩⟩ ⟨B,0,none⟩ 1 1 [.slice p0 l0 c0,.int .i64 y1] rfl (fun j u hu=>by
    rw [Lib.add_plain,Nat.zero_add,cell_of_row _ _ _ _ _ _ hB]; simpa using hu) (by intro u hu; simp at hu; rcases hu with rfl | rfl <;> rfl) (by unfold maxLen; omega) (by omega) hb
  unfold Oper.wp
  simp [execOp,hop,resolve,invoke,builtin,hs,hx,hrun,Result.andThen]
  exact h v' w' (by simpa using h2) h3
set_option maxHeartbeats 2000000 in
set_option maxRecDepth 100000 in
theorem rclone_any (b0:Nat) (nv:Value) (ns:List Nd) (cn:Int) (hl:ns.length ≤ 1000) (hsz:∀ n ∈ ns,n.1.size ≤ 281474976710656) (w:World) (hB:NV w b0 nv ns):Calls Tryz.prog 53 #[.agg #[nv,.int .i64 cn]] w fun e w'=>∃ P c,e=.returned (.agg #[.slice P ns.length c,.int .i64 cn])∧NV w' w.heap.size (.slice P ns.length c) ns∧Below w.heap.size w w':=by
  obtain ⟨P0,c0,rfl,hc0⟩:=hB.form
  obtain ⟨W0,hW0⟩:∃ W0,W0=(w.alloc (.cells #[.slice P0 ns.length c0,.int .i64 cn] 71)).alloc (.cells #[.slice none 0 0,.int .i64 0] 71):=⟨_,rfl⟩
  have hb0:Below w.heap.size w W0:=by rw [hW0]; exact ((Below.refl _ _).alloc (Nat.le_refl _) _).alloc (by simp) _
  have HB0:Hid (Below w.heap.size w W0):=hb0
  have HR0:Hid (W0.heap[w.heap.size]?=some (.cells #[.slice P0 ns.length c0,.int .i64 cn] 71)∧W0.heap[w.heap.size + 1]?=some (.cells #[.slice none 0 0,.int .i64 0] 71)):=by
    rw [hW0]; obtain ⟨_,q2,q3⟩:=two_rows (Below.refl ((w.alloc (.cells #[.slice P0 ns.length c0,.int .i64 cn] 71)).alloc (.cells #[.slice none 0 0,.int .i64 0] 71)).heap.size _); exact ⟨q2,q3⟩
  have HZ0:Hid (W0.heap.size=w.heap.size + 2):=by show _=_; rw [hW0]; simp
  have HCN:Hid _:=scloneN_any b0 (.slice P0 ns.length c0) ns hl W0 (hB.on hb0)
  have HCL:Hid _:=clone_any
  have HSZ:Hid _:=hsz
  obtain ⟨n,hn⟩:∃ n,ns.length=n:=⟨_,rfl⟩
  have HNN:Hid (ns.length=n):=hn
  obtain ⟨q0,q1,qf⟩:=prow2 HR0.out.1
  rw [hn] at HR0 HCN hW0 q0 ⊢
  rw [hn] at hl
  clear hb0 hB hsz hc0 hn
  go_enter Tryz.func53,Tryz.ntmps53
  go_upto_region 1 with fail
  rw [← hW0]
  clear hW0
  go_wp2_with fail
  refine (show Calls _ _ _ _ _ from HCN.out).mono ?_
  rintro e w1 ⟨v1,rfl,hv1,hb1⟩
  have HV1:Hid (NV w1 W0.heap.size v1 ns):=hv1
  obtain ⟨P1,c1,hf1,hc1⟩:=hv1.form
  subst hf1
  have HB1:Hid (Below W0.heap.size W0 w1):=hb1
  rw [HNN.out] at HV1 ⊢
  clear hb1 hv1 hc1 q0 q1 qf
  go_wp2
  go_loopw [10] (fun ci wr=>∃ i:Nat,i ≤ n∧ci=.int .i64 (i:Int)∧Below W0.heap.size W0 wr∧NV wr W0.heap.size (.slice P1 n c1) ns) (fun ci _=>n - (intOf ci).toNat)
  case atStart=>exact ⟨0,by omega,rfl,HB1.out,HV1.out⟩
  case round =>
    obtain ⟨i,hi,rfl,hb,hv⟩:=hrel
    have HB:Hid (Below W0.heap.size W0 wr):=hb
    by_cases hlt:i < n
    · have hix:i < ns.length:=by rw [HNN.out]; exact hlt
      rcases hv with ⟨_,e⟩ | ⟨E1,c2,e,hE1,hN⟩
      · rw [e] at hix; simp at hix
      injection e with e1 e2 e3
      subst e1; subst e3
      have HN:Hid (NX wr E1 c1 ns):=hN
      obtain ⟨y0,y1,y2⟩:=hN.cells i hix
      have hz0:(0:Int) ≤ (i:Int):=by omega
      have hz1:(i:Int) < (n:Int):=by omega
      have hiw:IntKind.i64.wrap ((i:Int) + 1)=(i:Int) + 1:=by rw [IntKind.wrap_i64] <;> omega
      have hss:=HSZ.out ns[i] (List.getElem_mem hix)
      obtain ⟨PK,hPK⟩:∃ PK,ns[i].1=PK:=⟨_,rfl⟩
      have HPK:Hid (ns[i].1=PK):=hPK
      rw [hPK] at y0 hss
      clear hb hN e2 hPK y1 y2
      go_wp2_with fail
      refine (show Calls _ _ _ _ _ from HCL.out PK hss _).mono ?_
      rintro e w2 ⟨rfl,hb2⟩
      have y0':=cell_on y0 hb2
      have hN2:=HN.out.on hb2
      have hfz:w2.frozen? ⟨E1,i * 3,none⟩=false:=hN2.frozen _
      have HN3:Hid (NX (w2.setCell ⟨E1,i * 3,none⟩ (.string PK)) E1 c1 ns):=by have:=hN2.setSame i hix; rw [HPK.out] at this; exact this
      have HB3:Hid (Below W0.heap.size W0 (w2.setCell ⟨E1,i * 3,none⟩ (.string PK))):=(bel_to HB.out hb2 (Nat.le_refl _)).setCell (p:=⟨E1,i * 3,none⟩) hE1 _
      clear hb2 hN2 y0
      go_wp2
      exact ⟨⟨i + 1,hlt,by congr 1,HB3.out,Or.inr ⟨E1,c1,by rw [HNN.out],hE1,HN3.out⟩⟩,by simp [intOf]; omega⟩
    · have hz1:¬ (i:Int) < (n:Int):=by omega
      have HV:Hid (NV wr W0.heap.size (.slice P1 n c1) ns):=hv
      have hr:=keep_row HR0.out.2 hb
      obtain ⟨q0,q1,qf⟩:=prow2 (keep_row HR0.out.1 hb)
      obtain ⟨r0,r1,rf⟩:=prow2 hr
      have hr2:((wr.setCell ⟨w.heap.size + 1,0,none⟩ (.slice P1 n c1)).setCell ⟨w.heap.size + 1,1,none⟩ (.int .i64 cn)).heap[w.heap.size + 1]?=some (.cells #[.slice P1 n c1,.int .i64 cn] 71):=by
        rw [heap_setCell_same _ _ _ _ _ _ (heap_setCell_same _ _ _ _ _ _ hr)]; rfl
      have HR2:Hid _:=hr2
      have HBF:Hid (Below w.heap.size w ((wr.setCell ⟨w.heap.size + 1,0,none⟩ (.slice P1 n c1)).setCell ⟨w.heap.size + 1,1,none⟩ (.int .i64 cn))):=((bel_to HB0.out hb (Nat.le_refl _)).setCell (p:=⟨w.heap.size + 1,0,none⟩) (by simp) _).setCell (p:=⟨w.heap.size + 1,1,none⟩) (by simp) _
      have HVF:Hid (NV ((wr.setCell ⟨w.heap.size + 1,0,none⟩ (.slice P1 n c1)).setCell ⟨w.heap.size + 1,1,none⟩ (.int .i64 cn)) w.heap.size (.slice P1 n c1) ns):=by
        have hz:=HZ0.out
        rcases hv with h0 | ⟨E1,c2,e,hE1,hN⟩
        · exact Or.inl h0
        · refine Or.inr ⟨E1,c2,e,by omega,hN.same ?_⟩
          rw [heap_setCell_other _ _ _ _ (by show E1 ≠ w.heap.size + 1; omega),heap_setCell_other _ _ _ _ (by show E1 ≠ w.heap.size + 1; omega)]
      clear hv hb hr hr2
      go_wp2
      obtain ⟨g0,g1,gf⟩:=prow2 HR2.out
      exact bodyPost_ret (v:=.agg #[.slice P1 n c1,.int .i64 cn]) (by simp [results,Tryz.results53,go_sem,g0,g1]) rfl ⟨_,_,rfl,HVF.out,HBF.out⟩
theorem clone_fin {W5 w6:World} {G b0 b n E B:Nat} {K:Int} {P:Option Addr} {c:Nat} {v6:Value} {ns:List Nd} (hg5:W5.heap[G]?=some (.cells #[.int .i64 (E:Int),.int .i64 (B:Int),.int .i64 K,.slice none 0 0] 64)) (hn:NV W5 b (.slice P n c) ns) (hbb:b0 ≤ b) (hbG:b0 ≤ G) (hK:(cntN ns:Int)=K) (ho:w6.ownsRow b0 71 2 v6 1 [.slice P n c,.int .i64 K]) (hgr:W5.grownBy w6 none) :
    ∃ r' c' rest',v6=.slice (some ⟨r',0,none⟩) 1 c'∧w6.heap[G]?=some (.cells #[.int .i64 (E:Int),.int .i64 (B:Int),.int .i64 K,.slice none 0 0] 64)∧LS (w6.setCell ⟨G,3,none⟩ v6) b0 G r' c' rest' (.slice P n c) E B ns:=by
  obtain ⟨_,⟨_,q⟩ | ⟨r',c',cur,rfl,hr',hcur,_,_,hsz,htk⟩⟩:=ho
  · omega
  have hg6:w6.heap[G]?=some (.cells #[.int .i64 (E:Int),.int .i64 (B:Int),.int .i64 K,.slice none 0 0] 64):=(hgr.block G (row_lt hg5) (by simp)).trans hg5
  have hne:r' ≠ G:=by rintro rfl; rw [hg6] at hcur; simp at hcur
  have hcc:∃ rest',cur=(.slice P n c :: .int .i64 K :: rest').toArray:=by
    obtain ⟨l⟩:=cur
    refine ⟨l.drop 2,?_⟩
    simp only at htk
    congr 1
    conv=>lhs; rw [← List.take_append_drop 2 l]
    rw [show (1 * 2)=2 from rfl] at htk
    rw [htk]; rfl
  obtain ⟨rest',rfl⟩:=hcc
  refine ⟨r',c',rest',rfl,hg6,?_,?_,?_,hbG,hr'⟩
  · rw [heap_setCell_same _ _ _ _ _ _ hg6,hK]; rfl
  · rw [heap_setCell_other _ _ _ _ hne,hcur,hK]
  · rcases hn with h0 | ⟨Y,c2,e,hY,hN⟩
    · exact Or.inl h0
    · have hyl:=hN.lt
      have hyG:Y ≠ G:=by
        rintro rfl
        obtain ⟨cur2,q1,_⟩:=hN.row
        rw [hg5] at q1; simp at q1
      exact Or.inr ⟨Y,c2,e,by omega,hN.same ((heap_setCell_other _ _ _ _ hyG).trans (hgr.block Y hyl (by simp)))⟩
section
variable {b0 g r c:Nat} {rest:List Value} {nv:Value} {E B:Nat} {ns:List Nd}
set_option maxHeartbeats 4000000 in
set_option maxRecDepth 100000 in
theorem Clone_any (hl:ns.length ≤ 1000) (hsz:∀ n ∈ ns,n.1.size ≤ 281474976710656) (w:World) (h:LS w b0 g r c rest nv E B ns):Calls Tryz.prog 24 #[ptr g] w fun e w'=>∃ g' r' c' rest' nv',e=.returned (ptr g')∧LS w' w.heap.size g' r' c' rest' nv' E B ns∧Below w.heap.size w w':=by
  have HL:Hid _:=h
  obtain ⟨l0,l1,l2,l3,lf⟩:=lrow4 h.hd
  obtain ⟨P0,c0,hnv,hc0⟩:=h.nd.form
  have HRC:Hid (∀ W,Below w.heap.size w W → Calls Tryz.prog 53 #[.agg #[.slice P0 ns.length c0,.int .i64 (cntN ns:Int)]] W fun e w'=>∃ P c,e=.returned (.agg #[.slice P ns.length c,.int .i64 (cntN ns:Int)])∧NV w' W.heap.size (.slice P ns.length c) ns∧Below W.heap.size W w'):=fun W hW=>rclone_any b0 _ ns _ hl hsz W (by rw [← hnv]; exact (h.on hW).nd)
  have HRW:Hid (w.heap[r]?=some (.cells (.slice P0 ns.length c0 :: .int .i64 (cntN ns:Int) :: rest).toArray 71)):=by rw [← hnv]; exact h.rw_
  obtain ⟨K,hK⟩:∃ K:Int,(cntN ns:Int)=K:=⟨_,rfl⟩
  have HK:Hid ((cntN ns:Int)=K):=hK
  obtain ⟨n,hn⟩:∃ n,ns.length=n:=⟨_,rfl⟩
  have HNN:Hid (ns.length=n):=hn
  rw [hK] at HRC HRW l2
  rw [hn] at HRC HRW
  clear h hnv hK hn hsz hc0 hl
  have HKS:Hid (∀ W:World,Below w.heap.size w W → W.cell? ⟨g,0,none⟩=some (.int .i64 (E:Int))∧W.cell? ⟨g,1,none⟩=some (.int .i64 (B:Int))∧W.cell? ⟨g,2,none⟩=some (.int .i64 K)):=fun W hW=>⟨cell_on l0 hW,cell_on l1 hW,cell_on l2 hW⟩
  have hS0:=HKS.out w (Below.refl _ _)
  have hSd:=HKS.out w.drew (Below.refl _ _).drew
  have hSa:=HKS.out _ (((Below.refl _ w).alloc (Nat.le_refl _) (.cells #[.int .i64 (E:Int),.int .i64 (B:Int),.int .i64 K,.slice none 0 0] 64)).drew)
  have L3:Hid _:=l3
  clear l0 l1 l2 l3 lf
  go_enter Tryz.func24,Tryz.ntmps24
  go_upto_region 1 with fail
  go_region_held3 (fun W:World=>W.cell? ⟨g,0,none⟩=some (.int .i64 (E:Int))∧W.cell? ⟨g,1,none⟩=some (.int .i64 (B:Int))∧W.cell? ⟨g,2,none⟩=some (.int .i64 K))
    (first | with_reducible exact hS0 | with_reducible exact hSd | with_reducible exact hSa)
    (fail)
  obtain ⟨W1,hW1⟩:∃ W1,W1=(w.alloc (.cells #[.int .i64 (E:Int),.int .i64 (B:Int),.int .i64 K,.slice none 0 0] 64)).drew:=⟨_,rfl⟩
  have HB1:Hid (Below w.heap.size w W1):=by show Below _ _ _; rw [hW1]; exact ((Below.refl _ _).alloc (Nat.le_refl _) _).drew
  have HG1:Hid (W1.heap[w.heap.size]?=some (.cells #[.int .i64 (E:Int),.int .i64 (B:Int),.int .i64 K,.slice none 0 0] 64)):=by show _=_; rw [hW1]; exact one_alloc w _
  clear hS0 hSd hSa
  go_upto_region 2 with fail
  rw [← hW1]
  clear hW1
  have l3:=cell_on L3.out HB1.out
  go_wp2
  clear l3
  go_loopw [21] (fun ci wr=>∃ i:Nat,i ≤ 1∧ci=.int .i64 (i:Int)∧Below w.heap.size w wr∧(i=0 → wr.heap[w.heap.size]?=some (.cells #[.int .i64 (E:Int),.int .i64 (B:Int),.int .i64 K,.slice none 0 0] 64))∧(i=1 → ∃ r' c' rest' nv',LS wr w.heap.size w.heap.size r' c' rest' nv' E B ns)) (fun ci _=>1 - (intOf ci).toNat)
  case atStart=>exact ⟨0,by omega,rfl,HB1.out,fun _=>HG1.out,fun h=>by omega⟩
  case round =>
    obtain ⟨i,hi,rfl,hb,h0,h1⟩:=hrel
    rcases Nat.lt_or_ge i 1 with hlt | hlt
    · have hi0:i=0:=by omega
      subst hi0
      obtain ⟨wx,hwx⟩:∃ wx,wx=wr:=⟨_,rfl⟩
      subst hwx
      obtain ⟨r0,r1,rf⟩:=lrow2 (keep_row HRW.out hb)
      obtain ⟨W2,hW2⟩:∃ W2,W2=wx.alloc (.cells #[.slice P0 n c0,.int .i64 K] 71):=⟨_,rfl⟩
      have hb2:Below wx.heap.size wx W2:=by rw [hW2]; exact (Below.refl _ _).alloc (Nat.le_refl _) _
      have HG2:Hid (W2.heap[w.heap.size]?=some (.cells #[.int .i64 (E:Int),.int .i64 (B:Int),.int .i64 K,.slice none 0 0] 64)):=keep_row (h0 rfl) hb2
      have HT2:Hid (W2.heap[wx.heap.size]?=some (.cells #[.slice P0 n c0,.int .i64 K] 71)):=by show _=_; rw [hW2]; exact one_alloc _ _
      have HB2:Hid (Below w.heap.size w W2):=bel_to hb hb2 (Nat.le_refl _)
      have HRC2:Hid (∀ W,Below W2.heap.size W2 W → Calls Tryz.prog 53 #[.agg #[.slice P0 n c0,.int .i64 K]] W fun e w'=>∃ P c,e=.returned (.agg #[.slice P n c,.int .i64 K])∧NV w' W.heap.size (.slice P n c) ns∧Below W.heap.size W w'):=fun W hW=>HRC.out W (bel_to HB2.out hW (Nat.le_refl _))
      clear hb hb2 h0 h1
      go_upto_region 5 with fail
      rw [← hW2]
      clear hW2 r0 r1 rf
      obtain ⟨kt,hkt⟩:∃ kt,wx.heap.size=kt:=⟨_,rfl⟩
      rw [hkt] at HT2 ⊢
      clear hkt
      obtain ⟨g0,g1,g2,g3,gf⟩:=lrow4 HG2.out
      obtain ⟨t0,t1,tf⟩:=prow2 HT2.out
      go_region_law (first | (refine step_append_rw rfl _ _ rfl w.heap.size (by have:=(bel_to HB2.out hx4 (Nat.le_refl _)).size; simp; omega) (by simp [Act.eval,Act.put]) a4.heap.size P4 n c4 K (by simp [Act.eval,Act.put]) (one_alloc _ _) ?_; intro v6 w6 ho6 hg6; obtain ⟨r6,c6,rest6,hv6,hG6,hL6⟩:=clone_fin (keep_row (keep_row HG2.out hx4) ((Below.refl _ a4).alloc (Nat.le_refl _) _)) (hv4.on ((Below.refl _ a4).alloc (Nat.le_refl _) _)) HB2.out.size (Nat.le_refl _) HK.out ho6 hg6; subst hv6; obtain ⟨z0,z1,z2,z3,zf⟩:=lrow4 hG6) | (go_simp; go_at_call 53; refine (show Calls _ _ _ _ _ from HRC2.out _ (by repeat (first | exact Below.refl _ _ | refine Below.drew ?_))).mono ?_; rintro e a4 ⟨P4,c4,rfl,hv4,hb4⟩; have hx4:Below W2.heap.size W2 a4:=bel_to (by repeat (first | exact Below.refl _ _ | refine Below.drew ?_)) hb4 (Nat.le_refl _); obtain ⟨g0',g1',g2',g3',gf'⟩:=lrow4 (keep_row HG2.out hx4); have g3a:=cell_a1 g3'))
      all_goals
        have HB5:Hid _:=((bel_to HB2.out hx4 (Nat.le_refl _)).alloc (bel_to HB2.out hx4 (Nat.le_refl _)).size (.cells #[.slice P4 n c4,.int .i64 K] 71)).grown hg6 (by have:=(bel_to HB2.out hx4 (Nat.le_refl _)).size; simp; omega) (fun q hq=>by cases hq)
        have HL6:Hid _:=hL6
        clear hL6 ho6 hg6 hv4 hb4 hx4 g0 g1 g2 g3 gf t0 t1 tf g3a g0' g1' g2' g3' gf' z0 z1 z2 z3 zf hG6
        go_wp2
        exact ⟨⟨1,by omega,rfl,HB5.out.setCell (p:=⟨w.heap.size,3,none⟩) (Nat.le_refl _) _,fun h=>by omega,fun _=>⟨_,_,_,_,HL6.out⟩⟩,by simp [intOf]⟩
    · have hi1:i=1:=by omega
      subst hi1
      obtain ⟨r',c',rest',nv',hL⟩:=h1 rfl
      have HL9:Hid (LS wr w.heap.size w.heap.size r' c' rest' nv' E B ns):=hL
      have HB9:Hid (Below w.heap.size w wr):=hb
      clear hL hb h0 h1
      go_wp2
      go_returns
      exact ⟨_,_,_,_,_,rfl,HL9.out,HB9.out⟩
end
end Go.Proofs.YtjnbjfjoejfmpaaGreatDoor
