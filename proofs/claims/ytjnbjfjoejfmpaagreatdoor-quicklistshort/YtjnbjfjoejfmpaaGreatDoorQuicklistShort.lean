import Derived.Test.YtjnbjfjoejfmpaaGreatDoorWBH
import Derived.Test.YtjnbjfjoejfmpaaGreatDoorWBG
import Derived.Test.YtjnbjfjoejfmpaaGreatDoorWAF
namespace Go.Proofs.YtjnbjfjoejfmpaaGreatDoor.quicklistShort
open Go.ChangeShapes Go.WideShapes Go.ChangeAt Go.RowKit
set_option linter.unusedVariables false
set_option maxRecDepth 100000 in
theorem lifted (os:Os) (started:os.Started) (H:Type) (enc:TypeId × Value → H) :
    ReturnsInHanded {} Tryz.checked os 8 .any (fun w args=>(Rows.quicklistShortSpec.pre enc Tryz.prog Tryz.f8 [] false w args∧laidMetH Tryz.prog laidL w)∧sizedMet enc Tryz.prog Tryz.f8 (OpenSpec.ofChange Rows.quicklistShortSpec) false w args)
      (Rows.quicklistShortSpec.post enc Tryz.prog Tryz.f8 false true false false):=by
  refine returnsInHanded_of_change_and (C:=Tryz.checked) (X:=fun w _=>laidMetH Tryz.prog laidL w) (fun _ _ _ hh h=>h.of_heap hh) own started (by kernel_rfl) Tryz.func8
    (ChangeSpec.witness_shaped (enc:=enc) (C:=Tryz.checked) (os:=os) (X:=fun w _=>laidMetH Tryz.prog laidL w) false (World.doorLaid Tryz.prog 400 os) #[.agg #[.int .i64 0,.int .i64 0,.slice none 0 0],.agg #[.int .i64 0,.int .i64 0,.int .i64 0,.string ByteArray.empty,.bool false]] 8 rfl (World.shaped_of_RefB (by kernel_rfl) (by kernel_rfl)) (by kernel_rfl) (by kernel_rfl) (by kernel_rfl) (door_met os _)) ?_
  intro W base args ds gs before hval0 hW hcnd hsz0 hL _
  have hval:∀ (j:Nat) t v,Tryz.f8.params[j]?=some t → args[j]?=some v → Value.okWide Tryz.prog W .any base t v:=hval0
  have hsz:(DataW.weightsEach Tryz.prog (Tryz.f8.params.toList ++ Rows.quicklistShortSpec.plain.varTypes Tryz.prog) (ds ++ gs)).all (· ≤ reachBytes)=true:=hsz0
  have hW':=hW
  obtain ⟨p,q,hA0,hV,rfl,hfz,hnd⟩:=hW
  have hA:DataW.TrodAll enc Tryz.prog W 0 (fun _=>true) true Tryz.f8.params.toList args.toList ds p:=hA0
  rw [Tryz.params8] at hA hval hsz
  obtain ⟨v0,vs0,d0,ds0,p0,q0,hargs,rfl,rfl,h0,r0⟩:=trodAll_cons hA
  obtain ⟨v1,vs1,d1,ds1,p1,q1,rfl,rfl,rfl,h1,r1⟩:=trodAll_cons r0
  obtain ⟨rfl,rfl,rfl⟩:=trodAll_nil r1
  obtain rfl:args=#[v0,v1]:=by cases args; simp_all
  obtain ⟨rfl,rfl⟩:=trodVars_none hV
  have hlt0:∀ x ∈ p0,x.block < W.heap.size:=fun x hx=>by simpa using hW'.lt x (by simp [hx])
  have hk0:=h0
  have hlt1:∀ x ∈ p1,x.block < W.heap.size:=fun x hx=>by simpa using hW'.lt x (by simp [hx])
  have hk1:=h1
  obtain ⟨cs0,rfl,hcs0⟩:=okWide_struct Tryz.underlying42 (hval 0 42 v0 rfl rfl)
  obtain ⟨fuel0,hf0⟩:=h0
  obtain ⟨e0,b0,ad,len,cap,hce,g,off,had,hlen,hops⟩:=open_case (x:=(d0,p0)) (j:=0) (cs:=cs0.toList) (by rw [Array.length_toList,hcs0]; exact cellsCs) (by simpa [Value.cells] using hf0) hsz rfl rfl
  obtain rfl:cs0=#[.int .i64 e0,.int .i64 b0,.slice ad len cap]:=by cases cs0; simp_all
  obtain ⟨cs1,rfl,hcs1⟩:=okWide_struct Tryz.underlying46 (hval 1 46 v1 rfl rfl)
  obtain ⟨fuel1,hf1⟩:=h1
  obtain ⟨o1,ho1,z1,z2,z3⟩:=open_op (x:=(d1,p1)) (cs:=cs1.toList) (by rw [Array.length_toList,hcs1]; exact cellsOx) (by simpa [Value.cells] using hf1) (fun z hz=>of_decide_eq_true (List.all_eq_true.1 hsz _ (DataW.weights_mem_each (j:=1) (t:=46) rfl rfl _ hz)))
  obtain ⟨lk,la,lb,lt,lf⟩:=o1
  obtain rfl:cs1=#[.int .i64 lk,.int .i64 la,.int .i64 lb,.string lt,.bool lf]:=by cases cs1; simp_all [opC]
  clear hA0 hval0 hsz0
  refine (QuicklistShort_walk e0 b0 ad len cap g off had hlen lk la lb lt lf z1 z2 z3 W hops (of_laid hL)).mono fun e W' ⟨he,bel⟩=>?_
  subst he
  exact ⟨_,rfl,_,_,_,[],_,[],hW',trodAll_mk1 (shut_bool Tryz.underlying4 _),(trodAll_cons_mk (Below.trod laidOut (by kernel_rfl) (of_decide_eq_true (by kernel_rfl)) hk0 bel hlt0) (trodAll_cons_mk (Below.trod laidOut (by kernel_rfl) (of_decide_eq_true (by kernel_rfl)) hk1 bel hlt1) trodAll_mk0)),rfl,bel.frame _,fun h=>by cases h⟩

theorem over:Rows.QuicklistShortSaid:=
  OpenClaim.holds_of_wide 8 Tryz.f8 rfl rfl rfl rfl rfl rfl rfl ⟨rfl,rfl,rfl,rfl,rfl⟩ rfl rfl rfl rfl rfl (by kernel_rfl) Tryz.func8 (by kernel_rfl)
    (of_decide_eq_true (by kernel_rfl)) (by unfold Func.isWrapper; first | (rw [if_pos (by decide +kernel)]; kernel_rfl) | (rw [if_neg (by decide +kernel)]; exact ⟨rfl,rfl⟩))
    (fun os started H enc _=>lifted os started H enc)
end Go.Proofs.YtjnbjfjoejfmpaaGreatDoor.quicklistShort
namespace Go.Proofs.YtjnbjfjoejfmpaaGreatDoor
theorem quicklistShort_card:Rows.QuicklistShortCardSaid:=
  Claim7.holds_tied_plain_at .later [] [.data,.data,.data,.sentinel,.sentinel,.data] true (true, "42f8de4642b41c17ea80a43df1e8345d95f29928789a0cadd3c480b7109dd4e9") true
    quicklistShort.over (fun _ h=>by cases h) (by kernel_rfl) (fun _ h=>by cases h) quicklistShort_row_tie rfl ⟨rfl,rfl⟩ (by kernel_rfl) rfl
    (fun f fn hf hfn=>by
      obtain rfl:f=8:=Option.some.inj ((show Tryz.prog.funcNamed "cistern/cisternlaw07.QuicklistShort"=some 8 by kernel_rfl).symm.trans hf) |>.symm
      obtain rfl:fn=Tryz.f8:=(Option.some.inj (Tryz.func8.symm.trans hfn)).symm
      exact ⟨by kernel_rfl,fun j t ht=>by
        rw [Tryz.params8] at ht
        have hm:t ∈ [42,46]:=by simpa using Array.mem_of_getElem? ht
        have hall:([42,46].all fun u=>!Tryz.prog.wantsStandIn u)=true:=by kernel_rfl
        exact (show Tryz.prog.wantsStandIn t=false by simpa using List.all_eq_true.1 hall t hm)⟩)
    (by kernel_rfl)
#print axioms quicklistShort_card
end Go.Proofs.YtjnbjfjoejfmpaaGreatDoor
