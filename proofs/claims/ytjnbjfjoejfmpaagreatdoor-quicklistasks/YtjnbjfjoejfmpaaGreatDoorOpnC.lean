import Derived.Test.YtjnbjfjoejfmpaaGreatDoorWBF
import Derived.Test.YtjnbjfjoejfmpaaGreatDoorRows
import Derived.ProofKit
import Derived.OpenShut
import Derived.ShutString
import Derived.SizedLaws
import Derived.ChangeArms
import Derived.Deep.Slices
import Derived.Deep.Grids
import Derived.Carry
namespace Go.Proofs.YtjnbjfjoejfmpaaGreatDoor
open Go.ChangeShapes Go.WideShapes Go.RowKit
set_option linter.unusedVariables false
theorem laidOut:laidOutB Tryz.prog=true:=by kernel_rfl
theorem cellsI:Tryz.prog.cellsOf 3=1:=by kernel_rfl
theorem cellsS:Tryz.prog.cellsOf 9=1:=by kernel_rfl
theorem cellsBo:Tryz.prog.cellsOf 4=1:=by kernel_rfl
theorem cellsOx:Tryz.prog.cellsOf 46=5:=by kernel_rfl
theorem cellsCs:Tryz.prog.cellsOf 42=3:=by kernel_rfl
theorem cellsSl:Tryz.prog.cellsOf 40=1:=by kernel_rfl
theorem weights_elem {H:Type} (P:Program) (e:TypeId) (l:List (DataW H)) (d:DataW H) (hd:d ∈ l) (n:Nat) (hn:n ∈ d.weights P e):n ∈ DataW.weightsAll P e l:=by
  induction l with
  | nil=>cases hd
  | cons y l ih =>
    simp only [DataW.weightsAll,List.mem_append]
    rcases List.mem_cons.1 hd with rfl | h
    · exact Or.inl hn
    · exact Or.inr (ih h)
section
variable {H:Type} {enc:TypeId × Value → H} {W:World} {fuel:Nat}
set_option maxRecDepth 100000 in
theorem open_op {cs:List Value} {x:DataW H × List MemPlace} (hc:cs.length=5) (h:DataW.trod enc Tryz.prog W 0 (fun _=>true) true fuel 46 cs=some x) (hw:∀ z,z ∈ x.1.weights Tryz.prog 46 → z ≤ reachBytes):∃ o:OpD,cs=opC o∧o.t.size ≤ 140737488351232∧i64B o.a∧i64B o.b:=by
  obtain ⟨xs,k,hk,hxy,_,hxl,hf⟩:=DataW.trod_struct Tryz.underlying46 h
  match xs,hxl,cs,hc with
  | [y0,y1,y2,y3,y4],_,[v0,v1,v2,v3,v4],_ =>
    have g0:=hf 0 _ rfl
    have g1:=hf 1 _ rfl
    have g2:=hf 2 _ rfl
    have g3:=hf 3 _ rfl
    have g4:=hf 4 _ rfl
    simp [cellsI,cellsS,cellsBo] at g0 g1 g2 g3 g4
    obtain ⟨z0,e0,_,hw0⟩:=DataW.trod_int Tryz.underlying3 g0
    obtain ⟨z1,e1,_,hw1⟩:=DataW.trod_int Tryz.underlying3 g1
    obtain ⟨z2,e2,_,hw2⟩:=DataW.trod_int Tryz.underlying3 g2
    obtain ⟨z3,e3,hy3,_⟩:=DataW.trod_string Tryz.underlying9 g3
    obtain ⟨z4,e4,_⟩:=DataW.trod_bool Tryz.underlying4 g4
    simp at e0 e1 e2 e3 e4
    simp [Lit.wf,IntKind.min,IntKind.max,IntKind.signed,IntKind.bits] at hw0 hw1 hw2
    have hz3:z3.size ≤ reachBytes:=hw _ (by
      rw [hxy]
      simp only [DataW.weights,Tryz.underlying46]
      refine DataW.weights_mem_each (j:=3) (t:=9) rfl (show _=some y3.1 from rfl) _ ?_
      rw [hy3]
      simp [DataW.weights])
    have h10:reachBytes=140737488351232:=rfl
    have r3:z3.size ≤ 140737488351232:=by omega
    have r1:i64B z1:=⟨by omega,by omega⟩
    have r2:i64B z2:=⟨by omega,by omega⟩
    subst e0; subst e1; subst e2; subst e3; subst e4
    exact ⟨⟨z0,z1,z2,z3,z4⟩,rfl,r3,r1,r2⟩
set_option maxRecDepth 100000 in
theorem open_case {cs:List Value} {x:DataW H × List MemPlace} {ts:List TypeId} {ds:List (DataW H)} {j:Nat} (hc:cs.length=3)
    (h:DataW.trod enc Tryz.prog W 0 (fun _=>true) true fuel 42 cs=some x)
    (hsz:(DataW.weightsEach Tryz.prog ts ds).all (· ≤ reachBytes)=true) (ht:ts[j]?=some 42) (hd:ds[j]?=some x.1) :
    ∃ (e b:Int) (ad:Option Addr) (len cap:Nat),cs=[.int .i64 e,.int .i64 b,.slice ad len cap]∧∃ g off,(len ≠ 0 → ad=some ⟨g,off,none⟩)∧len ≤ 9223372036854775807∧∀ i,i < len → ∃ o,OpAt W g off i o:=by
  obtain ⟨xs,k,hk,hxy,_,hxl,hf⟩:=DataW.trod_struct Tryz.underlying42 h
  match xs,hxl,cs,hc with
  | [y0,y1,y2],_,[v0,v1,v2],_ =>
    have g0:=hf 0 _ rfl
    have g1:=hf 1 _ rfl
    have g2:=hf 2 _ rfl
    simp [cellsI,cellsSl] at g0 g1 g2
    obtain ⟨z0,e0,_,hw0⟩:=DataW.trod_int Tryz.underlying3 g0
    obtain ⟨z1,e1,_,hw1⟩:=DataW.trod_int Tryz.underlying3 g1
    simp at e0 e1
    subst e0; subst e1
    rcases Go.Deep.open_slice Tryz.underlying40 g2 with ⟨hcs,hx⟩ | ⟨a,len,cap,m,n,D,Pl,hcs,_,hl,hm,hmm,hx,hcell⟩
    · simp at hcs
      subst hcs
      exact ⟨z0,z1,none,0,0,rfl,0,0,fun h=>absurd rfl h,Nat.zero_le _,fun i hi=>by omega⟩
    · simp at hcs
      subst hcs
      simp only [if_true] at hmm
      subst hmm
      have hw:∀ i,i < len → ∀ z,z ∈ (D i).weights Tryz.prog 46 → z ≤ reachBytes:=by
        intro i hi z hz
        have hmem:z ∈ DataW.weightsEach Tryz.prog ts ds:=by
          refine DataW.weights_mem_each ht hd _ ?_
          rw [hxy]
          simp only [DataW.weights,Tryz.underlying42]
          refine DataW.weights_mem_each (j:=2) (t:=40) rfl (show _=some y2.1 from rfl) _ ?_
          rw [hx]
          simp only [DataW.weights,Tryz.underlying40,List.mem_cons,List.mem_append]
          exact Or.inr (Or.inl (weights_elem _ _ _ (D i) (List.mem_map.2 ⟨i,List.mem_range.2 hi,rfl⟩) z hz))
        have:=List.all_eq_true.1 hsz _ hmem
        exact of_decide_eq_true this
      obtain ⟨g,off,spot⟩:=a
      have hsp:len ≠ 0 → spot=none:=fun h=>by
        obtain ⟨cs',h1,h2⟩:=hcell 0 (by omega)
        rw [cellsOx] at h1
        obtain ⟨_,hlen4,hc4⟩:=World.cells?_some h1
        have c0:=hc4 0 (by omega)
        obtain ⟨v0,hv0⟩:∃ v0,cs'[0]?=some v0:=⟨_,List.getElem?_eq_getElem (by omega)⟩
        rw [hv0] at c0
        simpa [Addr.add] using World.cell?_spot c0
      refine ⟨z0,z1,some ⟨g,off,spot⟩,len,m,rfl,g,off,fun h=>by rw [hsp h],by unfold maxLen at hm; omega,fun i hi=>?_⟩
      obtain ⟨cs',h1,h2⟩:=hcell i (by omega)
      have hs:=hsp (by omega)
      subst hs
      rw [cellsOx] at h1
      obtain ⟨_,hlen4,hc4⟩:=World.cells?_some h1
      obtain ⟨o,rfl,q1,q2,q3⟩:=open_op hlen4 h2 (hw i hi)
      refine ⟨o,fun j u hu=>?_,q1,q2,q3⟩
      have hj:j < 5:=by
        obtain ⟨h1,_⟩:=List.getElem?_eq_some_iff.1 hu
        exact h1
      have c0:=hc4 j hj
      rw [hu,Go.Deep.add_add,Lib.add_plain] at c0
      rw [← c0]
      congr 2
      omega
end
end Go.Proofs.YtjnbjfjoejfmpaaGreatDoor
