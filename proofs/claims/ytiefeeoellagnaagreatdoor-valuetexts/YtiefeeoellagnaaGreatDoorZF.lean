import Derived.Test.YtiefeeoellagnaaGreatDoorZA
import Derived.Test.YtiefeeoellagnaaGreatDoorZC
import Derived.Test.YtiefeeoellagnaaGreatDoorZE
import Derived.Test.YtiefeeoellagnaaGreatDoorZG
import Derived.Test.YtiefeeoellagnaaGreatDoorJL
import Derived.Test.YtiefeeoellagnaaGreatDoorPQ
import Derived.Test.YtiefeeoellagnaaGreatDoorPS
import Derived.Test.YtiefeeoellagnaaGreatDoorYE
import Derived.Test.YtiefeeoellagnaaGreatDoorZP
import Derived.Test.YtiefeeoellagnaaGreatDoorJO
import Derived.ChangeArms
import Derived.SliceStrings
import Derived.Carry
import Derived.Deep.DeepHandedRow
import Derived.Deep.DeepWitnessRowRef
namespace Go.Proofs.YtiefeeoellagnaaGreatDoor
open Go
set_option maxRecDepth 100000
theorem and2 {a b:Bool} (ha:a=true) (hb:b=true):(a && b)=true:=by rw [ha,hb]; rfl
theorem laidOut:laidOutB Tryz.prog=true:=and2 (and2 lo_types lo_globs) lo_funcs
theorem joined:joinedFacts Tryz.prog 3 Tryz.f3 Rows.valueTextsSpec Rows.valueTextsRow=true:=by
  unfold joinedFacts
  rw [if_pos jf_k25d]
  rw [jf_k1,laidOut,jf_maps,jf_k4,jf_k5,jf_k6,jf_stops,jf_k8,jf_knobs,jf_inPlace,jf_unf,jf_rec,jf_named,jf_k14,jf_k15,jf_k16,jf_k17,jf_k17b,jf_k18,jf_k19,jf_k20,jf_k21,jf_k22,jf_k23,jf_k23b,jf_k24,jf_k24b,jf_k24c,jf_k25,jf_k26,jf_k27,jf_k28]
  rfl
end Go.Proofs.YtiefeeoellagnaaGreatDoor
namespace Go.Proofs.YtiefeeoellagnaaGreatDoor.valueTexts
open Go.ChangeShapes Go.WideShapes Go.ChangeAt Go.RowKit
open Go.ChangeMaps (open_string shut_string)
set_option linter.unusedVariables false
set_option maxRecDepth 100000 in
theorem lifted (os:Os) (started:os.Started) (H:Type) (enc:TypeId × Value → H) :
    ReturnsInHanded {} Tryz.checked os 3 .any (fun w args=>(Rows.valueTextsSpec.pre enc Tryz.prog Tryz.f3 [] false w args∧laidMetH Tryz.prog laidL w)∧sizedMet enc Tryz.prog Tryz.f3 (OpenSpec.ofChange Rows.valueTextsSpec) false w args)
      (Rows.valueTextsSpec.post enc Tryz.prog Tryz.f3 false true false false):=by
  refine returnsInHanded_of_change_and (C:=Tryz.checked) (X:=fun w _=>laidMetH Tryz.prog laidL w) (fun _ _ _ hh h=>h.of_heap hh) own started (by kernel_rfl) Tryz.func3
    (ChangeSpec.witness_shaped (enc:=enc) (C:=Tryz.checked) (os:=os) (X:=fun w _=>laidMetH Tryz.prog laidL w) false (World.doorLaid Tryz.prog 72 os) #[.agg #[.int .i64 0,.int .i64 0,.int .i64 0,.int .i64 0,.int .i64 0,.int .i64 0,.int .i64 0,.int .i64 0,.int .i64 0],.slice none 0 0] 8 rfl (World.shaped_of_RefB (by kernel_rfl) (by kernel_rfl)) (by kernel_rfl) (by kernel_rfl) (by kernel_rfl) (door_met os _)) ?_
  intro W base args ds gs before hval0 hW hcnd hsz0 hL _
  have hval:∀ (j:Nat) t v,Tryz.f3.params[j]?=some t → args[j]?=some v → Value.okWide Tryz.prog W .any base t v:=hval0
  have hsz:(DataW.weightsEach Tryz.prog (Tryz.f3.params.toList ++ Rows.valueTextsSpec.plain.varTypes Tryz.prog) (ds ++ gs)).all (· ≤ reachBytes)=true:=hsz0
  have hW':=hW
  obtain ⟨p,q,hA0,hV,rfl,hfz,hnd⟩:=hW
  have hA:DataW.TrodAll enc Tryz.prog W 0 (fun _=>true) true Tryz.f3.params.toList args.toList ds p:=hA0
  rw [Tryz.params3] at hA hval hsz
  obtain ⟨v0,vs0,d0,ds0,p0,q0,hargs,rfl,rfl,h0,r0⟩:=trodAll_cons hA
  obtain ⟨v1,vs1,d1,ds1,p1,q1,rfl,rfl,rfl,h1,r1⟩:=trodAll_cons r0
  obtain ⟨rfl,rfl,rfl⟩:=trodAll_nil r1
  obtain rfl:args=#[v0,v1]:=by cases args; simp_all
  obtain ⟨rfl,rfl⟩:=trodVars_none hV
  have hlt0:∀ x ∈ p0,x.block < W.heap.size:=fun x hx=>by simpa using hW'.lt x (by simp [hx])
  have hlt1:∀ x ∈ p1,x.block < W.heap.size:=fun x hx=>by simpa using hW'.lt x (by simp [hx])
  have hk0:=h0
  have hk1:=h1
  obtain ⟨cs0,rfl,hcs0⟩:=okWide_struct Tryz.underlying23 (hval 0 23 v0 rfl rfl)
  obtain ⟨fuel0,hf0⟩:=h0
  obtain ⟨z0,z1,z2,z3,z4,z5,z6,z7,z8,hce0⟩:=V.open_th (x:=(d0,p0)) (cs:=cs0.toList) (by rw [Array.length_toList,hcs0]; exact V.cellsTh) (by simpa [Value.cells] using hf0)
  obtain rfl:cs0=#[.int .i64 z0,.int .i64 z1,.int .i64 z2,.int .i64 z3,.int .i64 z4,.int .i64 z5,.int .i64 z6,.int .i64 z7,.int .i64 z8]:=by cases cs0; simp_all
  obtain ⟨ad1,ln1,cp1,rfl⟩:=okWide_slice Tryz.underlying24 (hval 1 24 v1 rfl rfl)
  obtain ⟨fuel1,hf1⟩:=h1
  obtain ⟨ad,len,cap,hcs1,G,off,had,hlen,hops⟩:=V.open_script (x:=(d1,p1)) (cs:=[.slice ad1 ln1 cp1]) (j:=1) rfl (by simpa [Value.cells] using hf1) hsz rfl rfl
  simp only [List.cons.injEq,Value.slice.injEq,and_true] at hcs1
  obtain ⟨rfl,rfl,rfl⟩:=hcs1
  clear hA0 hval0 hsz0
  refine (V.texts_walk ⟨z0,z1,z2,z3,z4,z5,z6,z7,z8⟩ ad1 ln1 cp1 G off had hlen W (of_laid hL) hops).mono fun e W' ⟨he,bel⟩=>?_
  subst he
  exact ⟨_,rfl,_,_,_,[],_,[],hW',trodAll_mk1 (shut_bool Tryz.underlying4 _),(trodAll_cons_mk (Below.trod laidOut (by kernel_rfl) (of_decide_eq_true (by kernel_rfl)) hk0 bel hlt0) (trodAll_cons_mk (Below.trod laidOut (by kernel_rfl) (of_decide_eq_true (by kernel_rfl)) hk1 bel hlt1) trodAll_mk0)),rfl,bel.frame _,fun h=>by cases h⟩

theorem over:Rows.ValueTextsSaid:=
  OpenClaim.holds_of_wide 3 Tryz.f3 rfl rfl rfl rfl rfl rfl rfl ⟨rfl,rfl,rfl,rfl,rfl⟩ rfl rfl rfl rfl rfl cd_named Tryz.func3 joined
    (of_decide_eq_true cd_inst) (by unfold Func.isWrapper; first | (rw [if_pos (by decide +kernel)]; kernel_rfl) | (rw [if_neg (by decide +kernel)]; exact ⟨rfl,rfl⟩))
    (fun os started H enc _=>lifted os started H enc)
end Go.Proofs.YtiefeeoellagnaaGreatDoor.valueTexts
namespace Go.Proofs.YtiefeeoellagnaaGreatDoor
theorem valueTexts_card:Rows.ValueTextsCardSaid:=
  Claim7.holds_tied_plain_at .later [] [.data,.sentinel,.sentinel,.data,.data,.data] true (true, "37619bb843d036d0e3119ec923b0658f85d1aba44a0585655b9634bd9dcacd71") true
    valueTexts.over (fun _ h=>by cases h) cd_wf (fun _ h=>by cases h) valueTexts_row_tie rfl ⟨rfl,rfl⟩ cd_main rfl
    (fun f fn hf hfn=>by
      obtain rfl:f=3:=Option.some.inj (cd_named.symm.trans hf) |>.symm
      obtain rfl:fn=Tryz.f3:=(Option.some.inj (Tryz.func3.symm.trans hfn)).symm
      exact ⟨cd_looks,fun j t ht=>by
        rw [Tryz.params3] at ht
        have hm:t ∈ [23,24]:=by simpa using Array.mem_of_getElem? ht
        exact (show Tryz.prog.wantsStandIn t=false by simpa using List.all_eq_true.1 cd_wants t hm)⟩)
    cd_goes
#print axioms valueTexts_card
end Go.Proofs.YtiefeeoellagnaaGreatDoor
