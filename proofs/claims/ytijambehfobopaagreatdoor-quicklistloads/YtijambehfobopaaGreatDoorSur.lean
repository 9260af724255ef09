import Derived.Test.YtijambehfobopaaGreatDoorWBD
import Derived.Test.YtijambehfobopaaGreatDoorWAL
import Derived.Test.YtijambehfobopaaGreatDoorRRa
import Derived.Test.YtijambehfobopaaGreatDoorWAN
namespace Go.Proofs.YtijambehfobopaaGreatDoor
open Go.RowKit
set_option linter.unusedVariables false
set_option linter.unusedSimpArgs false
abbrev tA:ByteArray:=⟨#[97]⟩
abbrev tB:ByteArray:=⟨#[98]⟩
abbrev tZ:ByteArray:=⟨#[122]⟩
theorem sur_1:QM.push 2 5 [] tA false=[[tA]]:=by rfl
theorem sur_2:QM.push 2 5 [[tA]] tB false=[[tA,tB]]:=by decide
theorem sur_3:QM.push 2 5 [[tA,tB]] tZ true=[[tZ],[tA,tB]]:=by decide
theorem pkV_str (N:QM.NL):pkV N=strV (N.map packN):=by unfold pkV strV; rw [List.map_map]; rfl
theorem nodesN_any {b0 g r c:Nat} {rest:List Value} {nv:Value} {E B:Nat} {N:QM.NL} (hl:N.length ≤ 1000) (hI:QM.Inv E B N) (w:World) (h:LS w b0 g r c rest nv E B (nds B N)):Calls Tryz.prog 9 #[ptr g] w fun e w'=>∃ v,e=.returned v∧w'.ownsRow w.heap.size 9 1 v N.length (pkV N)∧Below w.heap.size w w':=by
  have:=Nodes_any (ns:=nds B N) (by simp [nds]; omega) (fun n hn=>by
    obtain ⟨x,hx,rfl⟩:=List.mem_map.1 hn
    have:=(fit_node hI hx).pk.size
    rw [list_len] at this
    show (packN x).size ≤ _
    omega) w h
  have e1:(nds B N).length=N.length:=by simp [nds]
  have e2:(nds B N).map (fun n=>Value.string n.1)=pkV N:=by unfold pkV nds; rw [List.map_map]; rfl
  rw [e1,e2] at this
  exact this
theorem sur_i1:QM.Inv 2 5 [[tA]]:=by have:=(QM.push_good (QM.Inv.empty (E:=2) (B:=5) (by omega) (by omega)) tA (by decide) false).inv; rw [sur_1] at this; exact this
theorem sur_i2:QM.Inv 2 5 [[tA,tB]]:=by have:=(QM.push_good sur_i1 tB (by decide) false).inv; rw [sur_2] at this; exact this
theorem sur_i3:QM.Inv 2 5 [[tZ],[tA,tB]]:=by have:=(QM.push_good sur_i2 tZ (by decide) true).inv; rw [sur_3] at this; exact this
theorem srow_lay (W:World) (L:List ByteArray) (T:Nat):SRow (W.alloc (.cells (strV L).toArray T)) (.slice (some ⟨W.heap.size,0,none⟩) L.length L.length) L:=by
  have hx2:=one_alloc W (.cells (strV L).toArray T)
  refine Or.inr ⟨W.heap.size,0,L.length,rfl,fun j hj=>?_⟩
  rw [Nat.zero_add,cell_of_row _ _ _ _ _ _ hx2]; simp [hj]
theorem same_eq {R:List ByteArray} (hR:R.length ≤ 1000) (W:World) (va vb:Value) (h1:SRow W va R) (h2:SRow W vb R):Calls Tryz.prog 8 #[va,vb] W fun e w'=>e=.returned (.bool true)∧Below W.heap.size W w':=by
  refine (same_any va vb R R (by omega) (by omega) W h1 h2).mono ?_
  rintro e w' ⟨⟨bb,rfl,hbb⟩,k,rfl⟩
  rw [hbb.2 rfl]
  exact ⟨rfl,below_dn (Below.refl _ _) _⟩
set_option maxHeartbeats 4000000 in
set_option maxRecDepth 100000 in
theorem sure_any (w:World) (hw:Lay w):Calls Tryz.prog 13 #[] w fun e w'=>e=.returned (.bool true)∧Below w.heap.size w w':=by
  have HW:Hid (Lay w):=hw
  have HNW:Hid (Calls Tryz.prog 14 #[.int .i64 2,.int .i64 5] w fun e w'=>∃ g r,e=.returned (.tuple #[ptr g,.int .i64 0])∧LS w' w.heap.size g r 1 [] (.slice none 0 0) 2 5 (nds 5 [])∧Below w.heap.size w w'):=New_yes 2 5 rfl w
  have HNU:Hid (∀ W,Calls Tryz.prog 7 #[.int .i64 0] W fun e w'=>e=.returned (.int .i64 0)∧w'=W):=fun W=>num_any 0 W
  have HP1:Hid (∀ (g r:Nat) (nv:Value) (W:World),LS W w.heap.size g r 1 [] nv 2 5 (nds 5 []) → Below w.heap.size w W → Calls Tryz.prog 26 #[ptr g,.string tA,.bool false] W fun e w'=>e=.returned (.int .i64 0)∧(∃ nv',LS w' w.heap.size g r 1 [] nv' 2 5 (nds 5 [[tA]]))∧Below w.heap.size w w'):=fun g r nv W hL hb=>by
    refine (Push_any false tA (by decide) (by simp) (QM.Inv.empty (E:=2) (B:=5) (by omega) (by omega)) W (HW.out.on hb) hL).mono ?_
    rintro e w' ⟨rfl,hc⟩
    rw [sur_1] at hc
    have hbl:=hc.bel hL hb (Nat.le_refl _)
    obtain ⟨nv',h1,_⟩:=hc
    exact ⟨rfl,⟨nv',h1⟩,hbl⟩
  have HP2:Hid (∀ (g r:Nat) (nv:Value) (W:World),LS W w.heap.size g r 1 [] nv 2 5 (nds 5 [[tA]]) → Below w.heap.size w W → Calls Tryz.prog 26 #[ptr g,.string tB,.bool false] W fun e w'=>e=.returned (.int .i64 0)∧(∃ nv',LS w' w.heap.size g r 1 [] nv' 2 5 (nds 5 [[tA,tB]]))∧Below w.heap.size w w'):=fun g r nv W hL hb=>by
    refine (Push_any false tB (by decide) (by simp) sur_i1 W (HW.out.on hb) hL).mono ?_
    rintro e w' ⟨rfl,hc⟩
    rw [sur_2] at hc
    have hbl:=hc.bel hL hb (Nat.le_refl _)
    obtain ⟨nv',h1,_⟩:=hc
    exact ⟨rfl,⟨nv',h1⟩,hbl⟩
  have HP3:Hid (∀ (g r:Nat) (nv:Value) (W:World),LS W w.heap.size g r 1 [] nv 2 5 (nds 5 [[tA,tB]]) → Below w.heap.size w W → Calls Tryz.prog 26 #[ptr g,.string tZ,.bool true] W fun e w'=>e=.returned (.int .i64 0)∧(∃ nv',LS w' w.heap.size g r 1 [] nv' 2 5 (nds 5 [[tZ],[tA,tB]]))∧Below w.heap.size w w'):=fun g r nv W hL hb=>by
    refine (Push_any true tZ (by decide) (by simp) sur_i2 W (HW.out.on hb) hL).mono ?_
    rintro e w' ⟨rfl,hc⟩
    rw [sur_3] at hc
    have hbl:=hc.bel hL hb (Nat.le_refl _)
    obtain ⟨nv',h1,_⟩:=hc
    exact ⟨rfl,⟨nv',h1⟩,hbl⟩
  have HRG:Hid (∀ (g r:Nat) (nv:Value) (W:World),LS W w.heap.size g r 1 [] nv 2 5 (nds 5 [[tZ],[tA,tB]]) → Below w.heap.size w W → Calls Tryz.prog 18 #[ptr g,.int .i64 0,.int .i64 9] W fun e w'=>∃ v',e=.returned v'∧SRow w' v' [tZ,tA,tB]∧Below W.heap.size W w'):=fun g r nv W hL hb=>by
    refine (Range_yes 0 9 0 2 rfl (by decide) (by omega) (by simp) sur_i3 W (HW.out.on hb) hL).mono ?_
    rintro e w' ⟨v',rfl,ho,hb2⟩
    exact ⟨v',rfl,(DRow.of_own (ok:=fun _=>True) ho (by simp) (fun _ _=>trivial)).srow,hb2⟩
  have HND:Hid (∀ (g r:Nat) (nv:Value) (W:World),LS W w.heap.size g r 1 [] nv 2 5 (nds 5 [[tZ],[tA,tB]]) → Calls Tryz.prog 9 #[ptr g] W fun e w'=>∃ v',e=.returned v'∧SRow w' v' [packN [tZ],packN [tA,tB]]∧Below W.heap.size W w'):=fun g r nv W hL=>by
    refine (nodesN_any (by simp) sur_i3 W hL).mono ?_
    rintro e w' ⟨v',rfl,ho,hb2⟩
    rw [pkV_str] at ho
    exact ⟨v',rfl,(DRow.of_own (ok:=fun _=>True) ho (by simp) (fun _ _=>trivial)).srow,hb2⟩
  have HB1:Hid (∀ W v,SRow W v [tZ] → Calls Tryz.prog 24 #[v] W fun e w'=>e=.returned (.string (packN [tZ]))∧Below W.heap.size W w'):=fun W v h=>rBuild_any v [tZ] (by simp) (by intro x hx; simp at hx; subst hx; decide) W h
  have HB2:Hid (∀ W v,SRow W v [tA,tB] → Calls Tryz.prog 24 #[v] W fun e w'=>e=.returned (.string (packN [tA,tB]))∧Below W.heap.size W w'):=fun W v h=>rBuild_any v [tA,tB] (by simp) (by intro x hx; simp at hx; rcases hx with rfl | rfl <;> decide) W h
  have HS3:Hid (∀ W va vb,SRow W va [tZ,tA,tB] → SRow W vb [tZ,tA,tB] → Calls Tryz.prog 8 #[va,vb] W fun e w'=>e=.returned (.bool true)∧Below W.heap.size W w'):=fun W va vb h1 h2=>same_eq (by simp) W va vb h1 h2
  have HS2:Hid (∀ W va vb,SRow W va [packN [tZ],packN [tA,tB]] → SRow W vb [packN [tZ],packN [tA,tB]] → Calls Tryz.prog 8 #[va,vb] W fun e w'=>e=.returned (.bool true)∧Below W.heap.size W w'):=fun W va vb h1 h2=>same_eq (by simp) W va vb h1 h2
  clear hw
  generalize packN [tZ]=KZ at *
  generalize packN [tA,tB]=KA at *
  go_enter Tryz.func13,Tryz.ntmps13
  go_wp2_with fail
  refine (show Calls _ _ _ _ _ from HNW.out).mono ?_
  rintro e w1 ⟨g,r,rfl,hL1,hb1⟩
  have HL1:Hid _:=hL1
  have HX1:Hid (Below w.heap.size w w1):=hb1
  clear hL1 hb1
  go_wp2_with fail
  refine (show Calls _ _ _ _ _ from HNU.out _).mono ?_
  rintro e w2 ⟨rfl,hw2⟩
  have hw2':=hw2.symm; subst hw2'
  go_wp2_with fail
  refine (show Calls _ _ _ _ _ from HP1.out g r _ _ HL1.out HX1.out).mono ?_
  rintro e w3 ⟨rfl,⟨nv3,hL3⟩,hb3⟩
  have HL3:Hid _:=hL3
  have HX3:Hid (Below w.heap.size w w3):=hb3
  clear hL3 hb3
  go_wp2_with fail
  refine (show Calls _ _ _ _ _ from HNU.out _).mono ?_
  rintro e w4 ⟨rfl,hw4⟩
  have hw4':=hw4.symm; subst hw4'
  go_wp2_with fail
  refine (show Calls _ _ _ _ _ from HP2.out g r _ _ HL3.out HX3.out).mono ?_
  rintro e w5 ⟨rfl,⟨nv5,hL5⟩,hb5⟩
  have HL5:Hid _:=hL5
  have HX5:Hid (Below w.heap.size w w5):=hb5
  clear hL5 hb5
  go_wp2_with fail
  refine (show Calls _ _ _ _ _ from HNU.out _).mono ?_
  rintro e w6 ⟨rfl,hw6⟩
  have hw6':=hw6.symm; subst hw6'
  go_wp2_with fail
  refine (show Calls _ _ _ _ _ from HP3.out g r _ _ HL5.out HX5.out).mono ?_
  rintro e w7 ⟨rfl,⟨nv7,hL7⟩,hb7⟩
  have HL7:Hid _:=hL7
  have HX7:Hid (Below w.heap.size w w7):=hb7
  clear hL7 hb7
  go_wp2_with fail
  refine (show Calls _ _ _ _ _ from HNU.out _).mono ?_
  rintro e w8 ⟨rfl,hw8⟩
  have hw8':=hw8.symm; subst hw8'
  go_wp2_with fail
  refine (show Calls _ _ _ _ _ from HRG.out g r _ _ HL7.out HX7.out).mono ?_
  rintro e w9 ⟨v9,rfl,hs9,hb9⟩
  obtain ⟨P9,k9,hf9⟩:=hs9.form
  subst hf9
  have HS9:Hid (SRow w9 _ [tZ,tA,tB]):=hs9
  have HX9:Hid (Below w.heap.size w w9):=bel_to HX7.out hb9 (Nat.le_refl _)
  have HL9:Hid _:=HL7.out.on hb9
  clear hs9 hb9
  go_wp2_with fail
  refine (show Calls _ _ _ _ _ from HS3.out _ _ _ (HS9.out.on ((Below.refl _ w9).alloc (Nat.le_refl _) _)) (srow_lay w9 [tZ,tA,tB] 9)).mono ?_
  rintro e w10 ⟨rfl,hb10⟩
  have hq10:=bel_to ((Below.refl _ w9).alloc (Nat.le_refl _) _) hb10 (Nat.le_refl _)
  have HX10:Hid (Below w.heap.size w w10):=bel_to HX9.out hq10 (Nat.le_refl _)
  have HL10:Hid _:=HL9.out.on hq10
  clear hb10 hq10
  go_wp2_with fail
  refine (show Calls _ _ _ _ _ from HND.out g r _ _ HL10.out).mono ?_
  rintro e w11 ⟨v11,rfl,hs11,hb11⟩
  obtain ⟨P11,k11,hf11⟩:=hs11.form
  subst hf11
  have HS11:Hid (SRow w11 _ [KZ,KA]):=hs11
  have HX11:Hid (Below w.heap.size w w11):=bel_to HX10.out hb11 (Nat.le_refl _)
  clear hs11 hb11
  go_wp2_with fail
  refine (show Calls _ _ _ _ _ from HB1.out _ _ (srow_lay w11 [tZ] 9)).mono ?_
  rintro e w12 ⟨rfl,hb12⟩
  have hq12:=bel_to ((Below.refl _ w11).alloc (Nat.le_refl _) _) hb12 (Nat.le_refl _)
  have HX12:Hid (Below w.heap.size w w12):=bel_to HX11.out hq12 (Nat.le_refl _)
  have HS12:Hid (SRow w12 _ [KZ,KA]):=HS11.out.on hq12
  clear hb12 hq12
  go_wp2_with fail
  refine (show Calls _ _ _ _ _ from HB2.out _ _ (srow_lay w12 [tA,tB] 9)).mono ?_
  rintro e w13 ⟨rfl,hb13⟩
  have hq13:=bel_to ((Below.refl _ w12).alloc (Nat.le_refl _) _) hb13 (Nat.le_refl _)
  have HX13:Hid (Below w.heap.size w w13):=bel_to HX12.out hq13 (Nat.le_refl _)
  have HS13:Hid (SRow w13 _ [KZ,KA]):=HS12.out.on hq13
  clear hb13 hq13
  go_wp2_with fail
  refine (show Calls _ _ _ _ _ from HS2.out _ _ _ (HS13.out.on ((Below.refl _ w13).alloc (Nat.le_refl _) _)) (srow_lay w13 [KZ,KA] 9)).mono ?_
  rintro e w14 ⟨rfl,hb14⟩
  have HX14:Hid (Below w.heap.size w w14):=bel_to HX13.out (bel_to ((Below.refl _ w13).alloc (Nat.le_refl _) _) hb14 (Nat.le_refl _)) (Nat.le_refl _)
  clear hb14
  go_wp2
  go_returns
  exact ⟨rfl,HX14.out⟩
end Go.Proofs.YtijambehfobopaaGreatDoor
