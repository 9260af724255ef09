import Derived.Test.YtbgbmfmgdgalbaaGreatDoorM26
import Derived.Test.YtbgbmfmgdgalbaaGreatDoorM21
import Derived.Test.YtbgbmfmgdgalbaaGreatDoorM00
import Derived.Test.YtbgbmfmgdgalbaaGreatDoorM22
import Derived.Test.YtbgbmfmgdgalbaaGreatDoorM20
import Derived.Test.YtbgbmfmgdgalbaaGreatDoorM34
import Derived.Test.YtbgbmfmgdgalbaaGreatDoorTie
import Derived.Test.YtbgbmfmgdgalbaaGreatDoorCards
import Derived.Deep.Grids
import Derived.Carry
import Derived.Deep.DeepHandedRow
import Derived.Deep.DeepWitnessRowRef
import Derived.LaidMore
import Derived.Lib.MinMax
import Derived.Deep.RegionHeld3
import Derived.Laws.BytesArg
import Derived.Deep.MidRow
import Derived.Deep.Cut
namespace Go.Proofs.YtbgbmfmgdgalbaaGreatDoor.persistWhole
open Go.ChangeShapes Go.WideShapes Go.ChangeAt Go.RowKit Go.Deep
set_option linter.unusedVariables false
theorem own:ownKnob Tryz.prog.godebug=none:=by kernel_rfl
theorem laidOut:laidOutB Tryz.prog=true:=by kernel_rfl
set_option maxRecDepth 100000 in
theorem contract (H:Type) (enc:TypeId × Value → H) (W:World) (base:Nat) (args:Array Value) (ds gs:List (DataW H)) (before:List MemPlace)
    (hval0:∀ (j:Nat) t v,Tryz.f5.params[j]?=some t → args[j]?=some v → Value.okWide Tryz.prog W .any base t v)
    (hW:DataW.Whole enc Tryz.prog Tryz.f5.params.toList Rows.persistWholeSpec.vars false W args.toList ds gs before) (hk:Rows.uptoSmall H (ds ++ gs)=true) :
    Calls Tryz.prog 5 args W fun e W'=>∃ v,e=.returned v∧Rows.persistWholeSpec.post enc Tryz.prog Tryz.f5 false true false false W args v W':=by
  have hval:∀ (j:Nat) t v,Tryz.f5.params[j]?=some t → args[j]?=some v → Value.okWide Tryz.prog W .any base t v:=hval0
  have hW':=hW
  obtain ⟨p,q,hA0,hV,rfl,hfz,hnd⟩:=hW
  have hA:DataW.TrodAll enc Tryz.prog W 0 (fun _=>true) true Tryz.f5.params.toList args.toList ds p:=hA0
  rw [Tryz.params5] at hA hval
  obtain ⟨v0,vs0,d0,ds0,p0,q0,hargs,rfl,rfl,h0,r0⟩:=trodAll_cons hA
  obtain ⟨v1,vs1,d1,ds1,p1,q1,rfl,rfl,rfl,h1,r1⟩:=trodAll_cons r0
  obtain ⟨rfl,rfl,rfl⟩:=trodAll_nil r1
  obtain rfl:args=#[v0,v1]:=by cases args; simp_all
  obtain ⟨rfl,rfl⟩:=trodVars_none hV
  have hlt0:∀ x ∈ p0,x.block < W.heap.size:=fun x hx=>by simpa using hW'.lt x (by simp [hx])
  have hk0:=h0
  obtain ⟨ad0,ln0,cp0,rfl⟩:=okWide_slice Tryz.underlying43 (hval 0 43 v0 rfl rfl)
  obtain ⟨fuel0,hf0⟩:=h0
  have hlt1:∀ x ∈ p1,x.block < W.heap.size:=fun x hx=>by simpa using hW'.lt x (by simp [hx])
  have hk1:=h1
  obtain ⟨ad1,ln1,cp1,rfl⟩:=okWide_slice Tryz.underlying44 (hval 1 44 v1 rfl rfl)
  obtain ⟨fuel1,hf1⟩:=h1
  have hb:=bulk_small hk
  simp only [List.append_nil,Rows.uptoBulkAll] at hb
  obtain ⟨g0,o0,hA0',hL0,hO0⟩:=openU_qops (x:=(d0,p0)) (by simpa [Value.cells] using hf0) (by show Rows.uptoBulk d0 ≤ _; omega)
  obtain ⟨zs1,hP1,hQ1,hB1⟩:=openU_picks (y:=(d1,p1)) (v:=.slice ad1 ln1 cp1) (by simpa [Value.cells] using hf1) (by show Rows.uptoBulk d1 ≤ _; omega)
  clear hA0 hval0 hk hb
  refine (Whole_walk saveC loadC tidyC olderC ad0 g0 o0 ln0 cp0 _ zs1 W hA0' hL0 hO0 hP1 hQ1 hB1).mono fun e W' ⟨he,bel⟩=>?_
  subst he
  exact ⟨_,rfl,_,_,_,[],_,[],hW',trodAll_mk1 (shut_bool Tryz.underlying4 _),(trodAll_cons_mk (Below.trod laidOut (by kernel_rfl) (of_decide_eq_true (by kernel_rfl)) hk0 bel hlt0) (trodAll_cons_mk (Below.trod laidOut (by kernel_rfl) (of_decide_eq_true (by kernel_rfl)) hk1 bel hlt1) trodAll_mk0)),rfl,bel.frame _,fun h=>by cases h⟩
theorem laid_met (os:Os) (args:Array Value):laidMet Tryz.prog Rows.persistWholeUptoRow.laid ((World.doorLaid Tryz.prog 400 os).forCall (fun _ _=>0) ⟨#[],args,[]⟩).memory:=
  laidMet_of_run' 8 (by kernel_rfl) (by kernel_rfl)
theorem reads (os:Os) {H:Type} (enc:TypeId × Value → H):∃ places,DataW.whole enc Tryz.prog ((World.doorLaid Tryz.prog 400 os).forCall (fun _ _=>0) ⟨#[],#[.slice none 0 0,.slice none 0 0],[]⟩).memory Tryz.f5.params.toList Rows.persistWholeSpec.vars false #[.slice none 0 0,.slice none 0 0].toList 8=some ([.nil,.nil],[],places):=
  ⟨[],by kernel_rfl⟩
set_option maxRecDepth 100000 in
theorem liftedUpto (os:Os) (started:os.Started) (H:Type) (enc:TypeId × Value → H) (F:Stop.Interp) :
    ReturnsInHanded {} Tryz.checked os 5 .any ((Rows.OpenSpec.upto Rows.persistWholeSpec).preRow enc Tryz.prog Tryz.f5 Rows.persistWholeUptoRow.domain false Rows.persistWholeUptoRow.laid) (((Rows.OpenSpec.upto Rows.persistWholeSpec).at F).post enc Tryz.prog Tryz.f5 false true false false):=by
  obtain ⟨places,hx⟩:=reads os enc
  refine returnsInHanded_of_row (C:=Tryz.checked) (s:=Rows.OpenSpec.upto Rows.persistWholeSpec) own started (by kernel_rfl) Tryz.func5
    (witness_row_atRef (enc:=enc) (C:=Tryz.checked) false (World.doorLaid Tryz.prog 400 os) #[.slice none 0 0,.slice none 0 0] rfl (by kernel_rfl) (by kernel_rfl) (by kernel_rfl)
      (OpenSpec.preRow_of_cond 8 hx (by kernel_rfl) (fun k hk=>by cases hk; kernel_rfl) (by kernel_rfl) (laid_met os _))) ?_
  intro W base args ds gs before hval hW _ hc _ hL _ _
  exact contract H enc W base args ds gs before hval hW (hc _ rfl)
set_option maxRecDepth 400000 in
theorem over:Rows.PersistWholeUptoSaid:=
  OpenClaim.holds_of_cond 5 Tryz.f5 rfl rfl rfl rfl rfl rfl rfl ⟨rfl,rfl,rfl,rfl,rfl⟩ rfl rfl rfl rfl rfl (by kernel_rfl) Tryz.func5 (by kernel_rfl)
    (of_decide_eq_true (by kernel_rfl)) (by unfold Func.isWrapper; first | (rw [if_pos (by decide +kernel)]; kernel_rfl) | (rw [if_neg (by decide +kernel)]; exact ⟨rfl,rfl⟩))
    (fun os started H enc _ F=>by rw [OpenClaim.pre_eq_preRow]; exact liftedUpto os started H enc F)
end Go.Proofs.YtbgbmfmgdgalbaaGreatDoor.persistWhole
namespace Go.Proofs.YtbgbmfmgdgalbaaGreatDoor
theorem persistWholeUpto_card:Rows.PersistWholeUptoCardSaid:=
  Claim7.holds_tied_plain_at .later [] [.data,.data,.data] true (true, "ffb09901f0085b6715ed66b31d5b2686904a08004dc13c6b1793c998eabf4f70") true
    persistWhole.over (fun _ h=>by cases h) (by kernel_rfl) (fun _ h=>by cases h) persistWholeUpto_row_tie rfl ⟨rfl,rfl⟩ (by kernel_rfl) rfl
    (fun f fn hf hfn=>by
      obtain rfl:f=5:=Option.some.inj ((show Tryz.prog.funcNamed "cistern/cisternlaw24.PersistWhole"=some 5 by kernel_rfl).symm.trans hf) |>.symm
      obtain rfl:fn=Tryz.f5:=(Option.some.inj (Tryz.func5.symm.trans hfn)).symm
      exact ⟨by kernel_rfl,fun j t ht=>by
        rw [Tryz.params5] at ht
        have hm:t ∈ [43,44]:=by simpa using Array.mem_of_getElem? ht
        have hall:([43,44].all fun u=>!Tryz.prog.wantsStandIn u)=true:=by kernel_rfl
        exact (show Tryz.prog.wantsStandIn t=false by simpa using List.all_eq_true.1 hall t hm)⟩)
    (by kernel_rfl)
#print axioms persistWholeUpto_card
end Go.Proofs.YtbgbmfmgdgalbaaGreatDoor
