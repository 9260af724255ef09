import Derived.Test.YtijambehfobopaaGreatDoorWBE
import Derived.Test.YtijambehfobopaaGreatDoorWAL
import Derived.Carry
namespace Go.Proofs.YtijambehfobopaaGreatDoor
open Go.ChangeShapes Go.WideShapes Go.RowKit
set_option linter.unusedVariables false
theorem bytes9L:Tryz.prog.bytesOf 9=16:=by kernel_rfl
theorem weights_strsL {H:Type} (P:Program) (e:TypeId) (l:List ByteArray) (x:ByteArray) (hx:x ∈ l):x.data.toList.length ∈ DataW.weightsAll P e (strs (H:=H) l):=by
  induction l with
  | nil=>cases hx
  | cons y l ih =>
    simp only [strs,List.map_cons,DataW.weightsAll,DataW.weights,List.mem_append,List.mem_singleton]
    rcases List.mem_cons.1 hx with rfl | hx
    · exact Or.inl rfl
    · exact Or.inr (ih hx)
set_option maxRecDepth 100000 in
theorem door_metL (os:Os) (args:Array Value):laidMetH Tryz.prog laidL ((World.doorLaid Tryz.prog 400 os).forCall (fun _ _=>0) ⟨#[],args,[]⟩).memory:=
  laidMetH_of_parts3 (fuel:=8) (laidMet_of_run' 8 (by kernel_rfl) (by kernel_rfl)) (by kernel_rfl) (by kernel_rfl)

theorem open_rowS {H:Type} {enc:TypeId × Value → H} {W:World} {fuel:Nat} {v:Value} {y:DataW H × List MemPlace} {ts:List TypeId} {ds:List (DataW H)} {j:Nat}
    (h:DataW.trod enc Tryz.prog W 0 (fun _=>true) true fuel 22 [v]=some y)
    (hsz:(DataW.weightsEach Tryz.prog ts ds).all (· ≤ reachBytes)=true) (ht:ts[j]?=some 22) (hd:ds[j]?=some y.1) :
    ∃ vs:List ByteArray,SRow W v vs∧(∀ c,v=.slice none 0 c → c=0)∧vs.length * 16 ≤ 140737488351232∧∀ x ∈ vs,x.size ≤ 140737488351232:=by
  rcases open_strings Tryz.underlying22 Tryz.underlying9 cells9 h with ⟨hcs,hx⟩ | ⟨a,len,cap,ss,hcs,_,hl,hm,hz,hx,hcell,hws⟩
  · have e:v=.slice none 0 0:=by simpa using hcs
    subst e
    exact ⟨[],Or.inl ⟨rfl,none,0,rfl⟩,fun c h=>nil_cap h,by simp,by simp⟩
  · have e:v=.slice (some a) len cap:=by simpa using hcs
    subst e
    simp only [if_true] at hz
    rw [hx] at hd
    have hr:len * 16 ≤ 140737488351232:=by
      have:=sized_slice hsz ht hd Tryz.underlying22
      rw [bytes9L] at this
      simp only [strs,List.length_map,List.length_take,List.length_drop,reachBytes] at this
      omega
    have hstr:∀ x ∈ ss.take len,x.size ≤ 140737488351232:=fun x hx'=>by
      have hmem:x.data.toList.length ∈ DataW.weightsEach Tryz.prog ts ds:=by
        refine DataW.weights_mem_each ht hd _ ?_
        simp only [DataW.weights,Tryz.underlying22,List.mem_cons,List.mem_append]
        exact Or.inr (Or.inl (weights_strsL _ _ _ x hx'))
      have:=List.all_eq_true.1 hsz _ hmem
      rw [list_len] at this
      have h9:x.size ≤ reachBytes:=of_decide_eq_true this
      have h10:reachBytes=140737488351232:=rfl
      omega
    refine ⟨ss.take len,?_,(fun c h=>by cases h),(by rw [List.length_take]; omega),hstr⟩
    have hlen:(ss.take len).length=len:=by rw [List.length_take]; omega
    by_cases h0:len=0
    · subst h0
      exact Or.inl ⟨by simp,some a,cap,rfl⟩
    · obtain ⟨b,off,spot⟩:=a
      have hspot:spot=none:=by simpa [Addr.add] using World.cell?_spot (hcell 0 (by omega))
      subst hspot
      refine Or.inr ⟨b,off,cap,by rw [hlen],fun j hj=>?_⟩
      have:=hcell j (by omega)
      rw [Lib.add_plain] at this
      rw [this,List.getElem_take,List.getD_eq_getElem?_getD,List.getElem?_eq_getElem (by omega)]
      rfl
end Go.Proofs.YtijambehfobopaaGreatDoor
namespace Go.Proofs.YtijambehfobopaaGreatDoor.quicklistLoads
open Go.ChangeShapes Go.WideShapes Go.ChangeAt Go.RowKit
open Go.ChangeMaps (open_string shut_string)
set_option linter.unusedVariables false
set_option maxRecDepth 100000 in
theorem lifted (os:Os) (started:os.Started) (H:Type) (enc:TypeId × Value → H) :
    ReturnsInHanded {} Tryz.checked os 3 .any (fun w args=>(Rows.quicklistLoadsSpec.pre enc Tryz.prog Tryz.f3 [] false w args∧laidMetH Tryz.prog laidL w)∧sizedMet enc Tryz.prog Tryz.f3 (OpenSpec.ofChange Rows.quicklistLoadsSpec) false w args)
      (Rows.quicklistLoadsSpec.post enc Tryz.prog Tryz.f3 false true false false):=by
  refine returnsInHanded_of_change_and (C:=Tryz.checked) (X:=fun w _=>laidMetH Tryz.prog laidL w) (fun _ _ _ hh h=>h.of_heap hh) own started (by kernel_rfl) Tryz.func3
    (ChangeSpec.witness_shaped (enc:=enc) (C:=Tryz.checked) (os:=os) (X:=fun w _=>laidMetH Tryz.prog laidL w) false (World.doorLaid Tryz.prog 400 os) #[.int .i64 0,.int .i64 0,.slice none 0 0] 8 rfl (World.shaped_of_RefB (by kernel_rfl) (by kernel_rfl)) (by kernel_rfl) (by kernel_rfl) (by kernel_rfl) (door_metL os _)) ?_
  intro W base args ds gs before hval0 hW hcnd hsz0 hL _
  have hval:∀ (j:Nat) t v,Tryz.f3.params[j]?=some t → args[j]?=some v → Value.okWide Tryz.prog W .any base t v:=hval0
  have hsz:(DataW.weightsEach Tryz.prog (Tryz.f3.params.toList ++ Rows.quicklistLoadsSpec.plain.varTypes Tryz.prog) (ds ++ gs)).all (· ≤ reachBytes)=true:=hsz0
  have hW':=hW
  obtain ⟨p,q,hA0,hV,rfl,hfz,hnd⟩:=hW
  have hA:DataW.TrodAll enc Tryz.prog W 0 (fun _=>true) true Tryz.f3.params.toList args.toList ds p:=hA0
  rw [Tryz.params3] at hA hval hsz
  obtain ⟨v0,vs0,d0,ds0,p0,q0,hargs,rfl,rfl,h0,r0⟩:=trodAll_cons hA
  obtain ⟨v1,vs1,d1,ds1,p1,q1,rfl,rfl,rfl,h1,r1⟩:=trodAll_cons r0
  obtain ⟨v2,vs2,d2,ds2,p2,q2,rfl,rfl,rfl,h2,r2⟩:=trodAll_cons r1
  obtain ⟨rfl,rfl,rfl⟩:=trodAll_nil r2
  obtain rfl:args=#[v0,v1,v2]:=by cases args; simp_all
  obtain ⟨rfl,rfl⟩:=trodVars_none hV
  obtain ⟨a0,rfl,rfl,rfl,w0⟩:=open_int Tryz.underlying3 (hval 0 3 v0 rfl rfl) h0
  obtain ⟨a1,rfl,rfl,rfl,w1⟩:=open_int Tryz.underlying3 (hval 1 3 v1 rfl rfl) h1
  have hlt2:∀ x ∈ p2,x.block < W.heap.size:=fun x hx=>by simpa using hW'.lt x (by simp [hx])
  have hk2:=h2
  obtain ⟨ad2,ln2,cp2,rfl⟩:=okWide_slice Tryz.underlying22 (hval 2 22 v2 rfl rfl)
  obtain ⟨fuel2,hf2⟩:=h2
  obtain ⟨x2,hS2,hN2,hL2,hM2⟩:=open_rowS (v:=.slice ad2 ln2 cp2) (y:=(d2,p2)) (j:=2) (by simpa [Value.cells] using hf2) hsz rfl rfl
  clear hA0 hval0 hsz0
  refine (Loads_walk a0 a1 (.slice ad2 ln2 cp2) x2 W hS2 hN2 hL2 hM2 (of_laid hL)).mono fun e W' ⟨he,bel⟩=>?_
  subst he
  exact ⟨_,rfl,_,_,_,[],_,[],hW',trodAll_mk1 (shut_bool Tryz.underlying4 _),(trodAll_cons_mk (shut_int Tryz.underlying3 w0) (trodAll_cons_mk (shut_int Tryz.underlying3 w1) (trodAll_cons_mk (Below.trod laidOut (by kernel_rfl) (of_decide_eq_true (by kernel_rfl)) hk2 bel hlt2) trodAll_mk0))),rfl,bel.frame _,fun h=>by cases h⟩

theorem over:Rows.QuicklistLoadsSaid:=
  OpenClaim.holds_of_wide 3 Tryz.f3 rfl rfl rfl rfl rfl rfl rfl ⟨rfl,rfl,rfl,rfl,rfl⟩ rfl rfl rfl rfl rfl (by kernel_rfl) Tryz.func3 (by kernel_rfl)
    (of_decide_eq_true (by kernel_rfl)) (by unfold Func.isWrapper; first | (rw [if_pos (by decide +kernel)]; kernel_rfl) | (rw [if_neg (by decide +kernel)]; exact ⟨rfl,rfl⟩))
    (fun os started H enc _=>lifted os started H enc)
end Go.Proofs.YtijambehfobopaaGreatDoor.quicklistLoads
namespace Go.Proofs.YtijambehfobopaaGreatDoor
theorem quicklistLoads_card:Rows.QuicklistLoadsCardSaid:=
  Claim7.holds_tied_plain_at .later [] [.data,.data,.data,.sentinel,.sentinel,.data] true (true, "abf37d0f523298e89a436900234224b520bb8f629c85cabbe3fff7d614cdc69d") true
    quicklistLoads.over (fun _ h=>by cases h) (by kernel_rfl) (fun _ h=>by cases h) quicklistLoads_row_tie rfl ⟨rfl,rfl⟩ (by kernel_rfl) rfl
    (fun f fn hf hfn=>by
      obtain rfl:f=3:=Option.some.inj ((show Tryz.prog.funcNamed "cistern/cisternlaw07.QuicklistLoads"=some 3 by kernel_rfl).symm.trans hf) |>.symm
      obtain rfl:fn=Tryz.f3:=(Option.some.inj (Tryz.func3.symm.trans hfn)).symm
      exact ⟨by kernel_rfl,fun j t ht=>by
        rw [Tryz.params3] at ht
        have hm:t ∈ [3,3,22]:=by simpa using Array.mem_of_getElem? ht
        have hall:([3,3,22].all fun u=>!Tryz.prog.wantsStandIn u)=true:=by kernel_rfl
        exact (show Tryz.prog.wantsStandIn t=false by simpa using List.all_eq_true.1 hall t hm)⟩)
    (by kernel_rfl)
#print axioms quicklistLoads_card
end Go.Proofs.YtijambehfobopaaGreatDoor
