import Derived.Test.YtjnbjfjoejfmpaaGreatDoorWBA
import Derived.Test.YtjnbjfjoejfmpaaGreatDoorWAL
import Derived.Test.YtjnbjfjoejfmpaaGreatDoorRRa
import Derived.Test.YtjnbjfjoejfmpaaGreatDoorWAN
import Derived.Test.YtjnbjfjoejfmpaaGreatDoorWAO
import Derived.Test.YtjnbjfjoejfmpaaGreatDoorRows
import Derived.ProofKit
import Derived.OpenShut
import Derived.ShutString
import Derived.SizedLaws
import Derived.ChangeArms
import Derived.Deep.Slices
import Derived.Deep.Grids
import Derived.Carry
namespace Go.Proofs.YtjnbjfjoejfmpaaGreatDoor
open Go.RowKit
set_option linter.unusedVariables false
set_option linter.unusedSimpArgs false
abbrev tA:ByteArray:=⟨#[97]⟩
abbrev tB:ByteArray:=⟨#[98]⟩
abbrev tZ:ByteArray:=⟨#[122]⟩
theorem sur_1:QM.push 2 5 [] tA false=[[tA]]:=by rfl
theorem sur_2:QM.push 2 5 [[tA]] tB false=[[tA,tB]]:=by decide
theorem sur_3:QM.push 2 5 [[tA,tB]] tZ true=[[tZ],[tA,tB]]:=by decide
theorem pkV_str (N:QM.NL):pkV N=strV (N.map packN):=by unfold pkV strV; rw [List.map_map]; rfl
theorem nodesN_any {b0 g r c:Nat} {rest:List Value} {nv:Value} {E B:Nat} {N:QM.NL} (hl:N.length ≤ 1000) (hI:QM.Inv E B N) (w:World) (h:LS w b0 g r c rest nv E B (nds B N)):Calls Tryz.prog 13 #[ptr g] w fun e w'=>∃ v,e=.returned v∧w'.ownsRow w.heap.size 9 1 v N.length (pkV N)∧Below w.heap.size w w':=by
  have:=Nodes_any (ns:=nds B N) (by simp [nds]; omega) (fun n hn=>by
    obtain ⟨x,hx,rfl⟩:=List.mem_map.1 hn
    have:=(fit_node hI hx).pk.size
    rw [list_len] at this
    show (packN x).size ≤ _
    omega) w h
  have e1:(nds B N).length=N.length:=by simp [nds]
  have e2:(nds B N).map (fun n=>Value.string n.1)=pkV N:=by unfold pkV nds; rw [List.map_map]; rfl
  rw [e1,e2] at this
  exact this
theorem sur_i1:QM.Inv 2 5 [[tA]]:=by have:=(QM.push_good (QM.Inv.empty (E:=2) (B:=5) (by omega) (by omega)) tA (by decide) false).inv; rw [sur_1] at this; exact this
theorem sur_i2:QM.Inv 2 5 [[tA,tB]]:=by have:=(QM.push_good sur_i1 tB (by decide) false).inv; rw [sur_2] at this; exact this
theorem sur_i3:QM.Inv 2 5 [[tZ],[tA,tB]]:=by have:=(QM.push_good sur_i2 tZ (by decide) true).inv; rw [sur_3] at this; exact this
theorem srow_lay (W:World) (L:List ByteArray) (T:Nat):SRow (W.alloc (.cells (strV L).toArray T)) (.slice (some ⟨W.heap.size,0,none⟩) L.length L.length) L:=by
  have hx2:=one_alloc W (.cells (strV L).toArray T)
  refine Or.inr ⟨W.heap.size,0,L.length,rfl,fun j hj=>?_⟩
  rw [Nat.zero_add,cell_of_row _ _ _ _ _ _ hx2]; simp [hj]
theorem same_eq {R:List ByteArray} (hR:R.length ≤ 1000) (W:World) (va vb:Value) (h1:SRow W va R) (h2:SRow W vb R):Calls Tryz.prog 12 #[va,vb] W fun e w'=>e=.returned (.bool true)∧Below W.heap.size W w':=by
  refine (same_any va vb R R (by omega) (by omega) W h1 h2).mono ?_
  rintro e w' ⟨⟨bb,rfl,hbb⟩,k,rfl⟩
  rw [hbb.2 rfl]
  exact ⟨rfl,below_dn (Below.refl _ _) _⟩
set_option maxHeartbeats 4000000 in
set_option maxRecDepth 100000 in
theorem sure_any (w:World) (hw:Lay w):Calls Tryz.prog 17 #[] w fun e w'=>e=.returned (.bool true)∧Below w.heap.size w w':=by
  have HW:Hid (Lay w):=hw
  have HNW:Hid (Calls Tryz.prog 19 #[.int .i64 2,.int .i64 5] w fun e w'=>∃ g r,e=.returned (.tuple #[ptr g,.int .i64 0])∧LS w' w.heap.size g r 1 [] (.slice none 0 0) 2 5 (nds 5 [])∧Below w.heap.size w w'):=New_yes 2 5 rfl w
  have HNU:Hid (∀ W,Calls Tryz.prog 11 #[.int .i64 0] W fun e w'=>e=.returned (.int .i64 0)∧w'=W):=fun W=>num_any 0 W
  have HP1:Hid (∀ (g r:Nat) (nv:Value) (W:World),LS W w.heap.size g r 1 [] nv 2 5 (nds 5 []) → Below w.heap.size w W → Calls Tryz.prog 31 #[ptr g,.string tA,.bool false] W fun e w'=>e=.returned (.int .i64 0)∧(∃ nv',LS w' w.heap.size g r 1 [] nv' 2 5 (nds 5 [[tA]]))∧Below w.heap.size w w'):=fun g r nv W hL hb=>by
    refine (Push_any false tA (by decide) (by simp) (QM.Inv.empty (E:=2) (B:=5) (by omega) (by omega)) W (HW.out.on hb) hL).mono ?_
    rintro e w' ⟨rfl,hc⟩
    rw [sur_1] at hc
    have hbl:=hc.bel hL hb (Nat.le_refl _)
    obtain ⟨nv',h1,_⟩:=hc
    exact ⟨rfl,⟨nv',h1⟩,hbl⟩
  have HP2:Hid (∀ (g r:Nat) (nv:Value) (W:World),LS W w.heap.size g r 1 [] nv 2 5 (nds 5 [[tA]]) → Below w.heap.size w W → Calls Tryz.prog 31 #[ptr g,.string tB,.bool false] W fun e w'=>e=.returned (.int .i64 0)∧(∃ nv',LS w' w.heap.size g r 1 [] nv' 2 5 (nds 5 [[tA,tB]]))∧Below w.heap.size w w'):=fun g r nv W hL hb=>by
    refine (Push_any false tB (by decide) (by simp) sur_i1 W (HW.out.on hb) hL).mono ?_
    rintro e w' ⟨rfl,hc⟩
    rw [sur_2] at hc
    have hbl:=hc.bel hL hb (Nat.le_refl _)
    obtain ⟨nv',h1,_⟩:=hc
    exact ⟨rfl,⟨nv',h1⟩,hbl⟩
  have HP3:Hid (∀ (g r:Nat) (nv:Value) (W:World),LS W w.heap.size g r 1 [] nv 2 5 (nds 5 [[tA,tB]]) → Below w.heap.size w W → Calls Tryz.prog 31 #[ptr g,.string tZ,.bool true] W fun e w'=>e=.returned (.int .i64 0)∧(∃ nv',LS w' w.heap.size g r 1 [] nv' 2 5 (nds 5 [[tZ],[tA,tB]]))∧Below w.heap.size w w'):=fun g r nv W hL hb=>by
    refine (Push_any true tZ (by decide) (by simp) sur_i2 W (HW.out.on hb) hL).mono ?_
    rintro e w' ⟨rfl,hc⟩
    rw [sur_3] at hc
    have hbl:=hc.bel hL hb (Nat.le_refl _)
    obtain ⟨nv',h1,_⟩:=hc
    exact ⟨rfl,⟨nv',h1⟩,hbl⟩
  have HRG:Hid (∀ (g r:Nat) (nv:Value) (W:World),LS W w.heap.size g r 1 [] nv 2 5 (nds 5 [[tZ],[tA,tB]]) → Below w.heap.size w W → Calls Tryz.prog 23 #[ptr g,.int .i64 0,.int .i64 9] W fun e w'=>∃ v',e=.returned v'∧SRow w' v' [tZ,tA,tB]∧Below W.heap.size W w'):=fun g r nv W hL hb=>by
    refine (Range_yes 0 9 0 2 rfl (by decide) (by omega) (by simp) sur_i3 W (HW.out.on hb) hL).mono ?_
    rintro e w' ⟨v',rfl,ho,hb2⟩
    exact ⟨v',rfl,(DRow.of_own (ok:=fun _=>True) ho (by simp) (fun _ _=>trivial)).srow,hb2⟩
  have HND:Hid (∀ (g r:Nat) (nv:Value) (W:World),LS W w.heap.size g r 1 [] nv 2 5 (nds 5 [[tZ],[tA,tB]]) → Calls Tryz.prog 13 #[ptr g] W fun e w'=>∃ v',e=.returned v'∧SRow w' v' [packN [tZ],packN [tA,tB]]∧Below W.heap.size W w'):=fun g r nv W hL=>by
    refine (nodesN_any (by simp) sur_i3 W hL).mono ?_
    rintro e w' ⟨v',rfl,ho,hb2⟩
    rw [pkV_str] at ho
    exact ⟨v',rfl,(DRow.of_own (ok:=fun _=>True) ho (by simp) (fun _ _=>trivial)).srow,hb2⟩
  have HB1:Hid (∀ W v,SRow W v [tZ] → Calls Tryz.prog 29 #[v] W fun e w'=>e=.returned (.string (packN [tZ]))∧Below W.heap.size W w'):=fun W v h=>rBuild_any v [tZ] (by simp) (by intro x hx; simp at hx; subst hx; decide) W h
  have HB2:Hid (∀ W v,SRow W v [tA,tB] → Calls Tryz.prog 29 #[v] W fun e w'=>e=.returned (.string (packN [tA,tB]))∧Below W.heap.size W w'):=fun W v h=>rBuild_any v [tA,tB] (by simp) (by intro x hx; simp at hx; rcases hx with rfl | rfl <;> decide) W h
  have HS3:Hid (∀ W va vb,SRow W va [tZ,tA,tB] → SRow W vb [tZ,tA,tB] → Calls Tryz.prog 12 #[va,vb] W fun e w'=>e=.returned (.bool true)∧Below W.heap.size W w'):=fun W va vb h1 h2=>same_eq (by simp) W va vb h1 h2
  have HS2:Hid (∀ W va vb,SRow W va [packN [tZ],packN [tA,tB]] → SRow W vb [packN [tZ],packN [tA,tB]] → Calls Tryz.prog 12 #[va,vb] W fun e w'=>e=.returned (.bool true)∧Below W.heap.size W w'):=fun W va vb h1 h2=>same_eq (by simp) W va vb h1 h2
  clear hw
  generalize packN [tZ]=KZ at *
  generalize packN [tA,tB]=KA at *
  go_enter Tryz.func17,Tryz.ntmps17
  go_wp2_with fail
  refine (show Calls _ _ _ _ _ from HNW.out).mono ?_
  rintro e w1 ⟨g,r,rfl,hL1,hb1⟩
  have HL1:Hid _:=hL1
  have HX1:Hid (Below w.heap.size w w1):=hb1
  clear hL1 hb1
  go_wp2_with fail
  refine (show Calls _ _ _ _ _ from HNU.out _).mono ?_
  rintro e w2 ⟨rfl,hw2⟩
  have hw2':=hw2.symm; subst hw2'
  go_wp2_with fail
  refine (show Calls _ _ _ _ _ from HP1.out g r _ _ HL1.out HX1.out).mono ?_
  rintro e w3 ⟨rfl,⟨nv3,hL3⟩,hb3⟩
  have HL3:Hid _:=hL3
  have HX3:Hid (Below w.heap.size w w3):=hb3
  clear hL3 hb3
  go_wp2_with fail
  refine (show Calls _ _ _ _ _ from HNU.out _).mono ?_
  rintro e w4 ⟨rfl,hw4⟩
  have hw4':=hw4.symm; subst hw4'
  go_wp2_with fail
  refine (show Calls _ _ _ _ _ from HP2.out g r _ _ HL3.out HX3.out).mono ?_
  rintro e w5 ⟨rfl,⟨nv5,hL5⟩,hb5⟩
  have HL5:Hid _:=hL5
  have HX5:Hid (Below w.heap.size w w5):=hb5
  clear hL5 hb5
  go_wp2_with fail
  refine (show Calls _ _ _ _ _ from HNU.out _).mono ?_
  rintro e w6 ⟨rfl,hw6⟩
  have hw6':=hw6.symm; subst hw6'
  go_wp2_with fail
  refine (show Calls _ _ _ _ _ from HP3.out g r _ _ HL5.out HX5.out).mono ?_
  rintro e w7 ⟨rfl,⟨nv7,hL7⟩,hb7⟩
  have HL7:Hid _:=hL7
  have HX7:Hid (Below w.heap.size w w7):=hb7
  clear hL7 hb7
  go_wp2_with fail
  refine (show Calls _ _ _ _ _ from HNU.out _).mono ?_
  rintro e w8 ⟨rfl,hw8⟩
  have hw8':=hw8.symm; subst hw8'
  go_wp2_with fail
  refine (show Calls _ _ _ _ _ from HRG.out g r _ _ HL7.out HX7.out).mono ?_
  rintro e w9 ⟨v9,rfl,hs9,hb9⟩
  obtain ⟨P9,k9,hf9⟩:=hs9.form
  subst hf9
  have HS9:Hid (SRow w9 _ [tZ,tA,tB]):=hs9
  have HX9:Hid (Below w.heap.size w w9):=bel_to HX7.out hb9 (Nat.le_refl _)
  have HL9:Hid _:=HL7.out.on hb9
  clear hs9 hb9
  go_wp2_with fail
  refine (show Calls _ _ _ _ _ from HS3.out _ _ _ (HS9.out.on ((Below.refl _ w9).alloc (Nat.le_refl _) _)) (srow_lay w9 [tZ,tA,tB] 9)).mono ?_
  rintro e w10 ⟨rfl,hb10⟩
  have hq10:=bel_to ((Below.refl _ w9).alloc (Nat.le_refl _) _) hb10 (Nat.le_refl _)
  have HX10:Hid (Below w.heap.size w w10):=bel_to HX9.out hq10 (Nat.le_refl _)
  have HL10:Hid _:=HL9.out.on hq10
  clear hb10 hq10
  go_wp2_with fail
  refine (show Calls _ _ _ _ _ from HND.out g r _ _ HL10.out).mono ?_
  rintro e w11 ⟨v11,rfl,hs11,hb11⟩
  obtain ⟨P11,k11,hf11⟩:=hs11.form
  subst hf11
  have HS11:Hid (SRow w11 _ [KZ,KA]):=hs11
  have HX11:Hid (Below w.heap.size w w11):=bel_to HX10.out hb11 (Nat.le_refl _)
  clear hs11 hb11
  go_wp2_with fail
  refine (show Calls _ _ _ _ _ from HB1.out _ _ (srow_lay w11 [tZ] 9)).mono ?_
  rintro e w12 ⟨rfl,hb12⟩
  have hq12:=bel_to ((Below.refl _ w11).alloc (Nat.le_refl _) _) hb12 (Nat.le_refl _)
  have HX12:Hid (Below w.heap.size w w12):=bel_to HX11.out hq12 (Nat.le_refl _)
  have HS12:Hid (SRow w12 _ [KZ,KA]):=HS11.out.on hq12
  clear hb12 hq12
  go_wp2_with fail
  refine (show Calls _ _ _ _ _ from HB2.out _ _ (srow_lay w12 [tA,tB] 9)).mono ?_
  rintro e w13 ⟨rfl,hb13⟩
  have hq13:=bel_to ((Below.refl _ w12).alloc (Nat.le_refl _) _) hb13 (Nat.le_refl _)
  have HX13:Hid (Below w.heap.size w w13):=bel_to HX12.out hq13 (Nat.le_refl _)
  have HS13:Hid (SRow w13 _ [KZ,KA]):=HS12.out.on hq13
  clear hb13 hq13
  go_wp2_with fail
  refine (show Calls _ _ _ _ _ from HS2.out _ _ _ (HS13.out.on ((Below.refl _ w13).alloc (Nat.le_refl _) _)) (srow_lay w13 [KZ,KA] 9)).mono ?_
  rintro e w14 ⟨rfl,hb14⟩
  have HX14:Hid (Below w.heap.size w w14):=bel_to HX13.out (bel_to ((Below.refl _ w13).alloc (Nat.le_refl _) _) hb14 (Nat.le_refl _)) (Nat.le_refl _)
  clear hb14
  go_wp2
  go_returns
  exact ⟨rfl,HX14.out⟩
end Go.Proofs.YtjnbjfjoejfmpaaGreatDoor
namespace Go.Proofs.YtjnbjfjoejfmpaaGreatDoor
open Go.RowKit
set_option linter.unusedVariables false
set_option linter.unusedSimpArgs false
abbrev i64B (x:Int):Prop:=-9223372036854775808 ≤ x∧x ≤ 9223372036854775807
structure OpD where
  k:Int
  a:Int
  b:Int
  t:ByteArray
  f:Bool
def opC (o:OpD):List Value:=[.int .i64 o.k,.int .i64 o.a,.int .i64 o.b,.string o.t,.bool o.f]
structure OpAt (W:World) (g off i:Nat) (o:OpD):Prop where
  cells:∀ j u,(opC o)[j]?=some u → W.cell? ⟨g,off + i * 5 + j,none⟩=some u
  t:o.t.size ≤ 140737488351232
  a:i64B o.a
  b:i64B o.b
theorem OpAt.keep {W W':World} {g off i:Nat} {o:OpD} (h:OpAt W g off i o) (hb:Below W.heap.size W W'):OpAt W' g off i o:=
  ⟨fun j u hu=>cell_on (h.cells j u hu) hb,h.t,h.a,h.b⟩
theorem OpAt.c5 {W:World} {g off i:Nat} {o:OpD} (h:OpAt W g off i o):W.cell? ⟨g,off + i * 5,none⟩=some (.int .i64 o.k)∧W.cell? ⟨g,off + i * 5 + 1,none⟩=some (.int .i64 o.a)∧W.cell? ⟨g,off + i * 5 + 2,none⟩=some (.int .i64 o.b)∧W.cell? ⟨g,off + i * 5 + 3,none⟩=some (.string o.t)∧W.cell? ⟨g,off + i * 5 + 4,none⟩=some (.bool o.f):=
  ⟨h.cells 0 _ rfl,h.cells 1 _ rfl,h.cells 2 _ rfl,h.cells 3 _ rfl,h.cells 4 _ rfl⟩
end Go.Proofs.YtjnbjfjoejfmpaaGreatDoor
namespace Go.Proofs.YtjnbjfjoejfmpaaGreatDoor
open Go.ChangeShapes Go.WideShapes Go.RowKit
set_option linter.unusedVariables false
theorem laidOut:laidOutB Tryz.prog=true:=by kernel_rfl
theorem cellsI:Tryz.prog.cellsOf 3=1:=by kernel_rfl
theorem cellsS:Tryz.prog.cellsOf 9=1:=by kernel_rfl
theorem cellsBo:Tryz.prog.cellsOf 4=1:=by kernel_rfl
theorem cellsOx:Tryz.prog.cellsOf 46=5:=by kernel_rfl
theorem cellsCs:Tryz.prog.cellsOf 42=3:=by kernel_rfl
theorem cellsSl:Tryz.prog.cellsOf 40=1:=by kernel_rfl
theorem weights_elem {H:Type} (P:Program) (e:TypeId) (l:List (DataW H)) (d:DataW H) (hd:d ∈ l) (n:Nat) (hn:n ∈ d.weights P e):n ∈ DataW.weightsAll P e l:=by
  induction l with
  | nil=>cases hd
  | cons y l ih =>
    simp only [DataW.weightsAll,List.mem_append]
    rcases List.mem_cons.1 hd with rfl | h
    · exact Or.inl hn
    · exact Or.inr (ih h)
section
variable {H:Type} {enc:TypeId × Value → H} {W:World} {fuel:Nat}
set_option maxRecDepth 100000 in
theorem open_op {cs:List Value} {x:DataW H × List MemPlace} (hc:cs.length=5) (h:DataW.trod enc Tryz.prog W 0 (fun _=>true) true fuel 46 cs=some x) (hw:∀ z,z ∈ x.1.weights Tryz.prog 46 → z ≤ reachBytes):∃ o:OpD,cs=opC o∧o.t.size ≤ 140737488351232∧i64B o.a∧i64B o.b:=by
  obtain ⟨xs,k,hk,hxy,_,hxl,hf⟩:=DataW.trod_struct Tryz.underlying46 h
  match xs,hxl,cs,hc with
  | [y0,y1,y2,y3,y4],_,[v0,v1,v2,v3,v4],_ =>
    have g0:=hf 0 _ rfl
    have g1:=hf 1 _ rfl
    have g2:=hf 2 _ rfl
    have g3:=hf 3 _ rfl
    have g4:=hf 4 _ rfl
    simp [cellsI,cellsS,cellsBo] at g0 g1 g2 g3 g4
    obtain ⟨z0,e0,_,hw0⟩:=DataW.trod_int Tryz.underlying3 g0
    obtain ⟨z1,e1,_,hw1⟩:=DataW.trod_int Tryz.underlying3 g1
    obtain ⟨z2,e2,_,hw2⟩:=DataW.trod_int Tryz.underlying3 g2
    obtain ⟨z3,e3,hy3,_⟩:=DataW.trod_string Tryz.underlying9 g3
    obtain ⟨z4,e4,_⟩:=DataW.trod_bool Tryz.underlying4 g4
    simp at e0 e1 e2 e3 e4
    simp [Lit.wf,IntKind.min,IntKind.max,IntKind.signed,IntKind.bits] at hw0 hw1 hw2
    have hz3:z3.size ≤ reachBytes:=hw _ (by
      rw [hxy]
      simp only [DataW.weights,Tryz.underlying46]
      refine DataW.weights_mem_each (j:=3) (t:=9) rfl (show _=some y3.1 from rfl) _ ?_
      rw [hy3]
      simp [DataW.weights])
    have h10:reachBytes=140737488351232:=rfl
    have r3:z3.size ≤ 140737488351232:=by omega
    have r1:i64B z1:=⟨by omega,by omega⟩
    have r2:i64B z2:=⟨by omega,by omega⟩
    subst e0; subst e1; subst e2; subst e3; subst e4
    exact ⟨⟨z0,z1,z2,z3,z4⟩,rfl,r3,r1,r2⟩
set_option maxRecDepth 100000 in
theorem open_case {cs:List Value} {x:DataW H × List MemPlace} {ts:List TypeId} {ds:List (DataW H)} {j:Nat} (hc:cs.length=3)
    (h:DataW.trod enc Tryz.prog W 0 (fun _=>true) true fuel 42 cs=some x)
    (hsz:(DataW.weightsEach Tryz.prog ts ds).all (· ≤ reachBytes)=true) (ht:ts[j]?=some 42) (hd:ds[j]?=some x.1) :
    ∃ (e b:Int) (ad:Option Addr) (len cap:Nat),cs=[.int .i64 e,.int .i64 b,.slice ad len cap]∧∃ g off,(len ≠ 0 → ad=some ⟨g,off,none⟩)∧len ≤ 9223372036854775807∧∀ i,i < len → ∃ o,OpAt W g off i o:=by
  obtain ⟨xs,k,hk,hxy,_,hxl,hf⟩:=DataW.trod_struct Tryz.underlying42 h
  match xs,hxl,cs,hc with
  | [y0,y1,y2],_,[v0,v1,v2],_ =>
    have g0:=hf 0 _ rfl
    have g1:=hf 1 _ rfl
    have g2:=hf 2 _ rfl
    simp [cellsI,cellsSl] at g0 g1 g2
    obtain ⟨z0,e0,_,hw0⟩:=DataW.trod_int Tryz.underlying3 g0
    obtain ⟨z1,e1,_,hw1⟩:=DataW.trod_int Tryz.underlying3 g1
    simp at e0 e1
    subst e0; subst e1
    rcases Go.Deep.open_slice Tryz.underlying40 g2 with ⟨hcs,hx⟩ | ⟨a,len,cap,m,n,D,Pl,hcs,_,hl,hm,hmm,hx,hcell⟩
    · simp at hcs
      subst hcs
      exact ⟨z0,z1,none,0,0,rfl,0,0,fun h=>absurd rfl h,Nat.zero_le _,fun i hi=>by omega⟩
    · simp at hcs
      subst hcs
      simp only [if_true] at hmm
      subst hmm
      have hw:∀ i,i < len → ∀ z,z ∈ (D i).weights Tryz.prog 46 → z ≤ reachBytes:=by
        intro i hi z hz
        have hmem:z ∈ DataW.weightsEach Tryz.prog ts ds:=by
          refine DataW.weights_mem_each ht hd _ ?_
          rw [hxy]
          simp only [DataW.weights,Tryz.underlying42]
          refine DataW.weights_mem_each (j:=2) (t:=40) rfl (show _=some y2.1 from rfl) _ ?_
          rw [hx]
          simp only [DataW.weights,Tryz.underlying40,List.mem_cons,List.mem_append]
          exact Or.inr (Or.inl (weights_elem _ _ _ (D i) (List.mem_map.2 ⟨i,List.mem_range.2 hi,rfl⟩) z hz))
        have:=List.all_eq_true.1 hsz _ hmem
        exact of_decide_eq_true this
      obtain ⟨g,off,spot⟩:=a
      have hsp:len ≠ 0 → spot=none:=fun h=>by
        obtain ⟨cs',h1,h2⟩:=hcell 0 (by omega)
        rw [cellsOx] at h1
        obtain ⟨_,hlen4,hc4⟩:=World.cells?_some h1
        have c0:=hc4 0 (by omega)
        obtain ⟨v0,hv0⟩:∃ v0,cs'[0]?=some v0:=⟨_,List.getElem?_eq_getElem (by omega)⟩
        rw [hv0] at c0
        simpa [Addr.add] using World.cell?_spot c0
      refine ⟨z0,z1,some ⟨g,off,spot⟩,len,m,rfl,g,off,fun h=>by rw [hsp h],by unfold maxLen at hm; omega,fun i hi=>?_⟩
      obtain ⟨cs',h1,h2⟩:=hcell i (by omega)
      have hs:=hsp (by omega)
      subst hs
      rw [cellsOx] at h1
      obtain ⟨_,hlen4,hc4⟩:=World.cells?_some h1
      obtain ⟨o,rfl,q1,q2,q3⟩:=open_op hlen4 h2 (hw i hi)
      refine ⟨o,fun j u hu=>?_,q1,q2,q3⟩
      have hj:j < 5:=by
        obtain ⟨h1,_⟩:=List.getElem?_eq_some_iff.1 hu
        exact h1
      have c0:=hc4 j hj
      rw [hu,Go.Deep.add_add,Lib.add_plain] at c0
      rw [← c0]
      congr 2
      omega
end
end Go.Proofs.YtjnbjfjoejfmpaaGreatDoor
