import Derived.Test.YtijambehfobopaaGreatDoorWAF
import Derived.Test.YtijambehfobopaaGreatDoorWAG
namespace Go.Proofs.YtijambehfobopaaGreatDoor
open Go.RowKit
set_option linter.unusedVariables false
set_option maxHeartbeats 4000000 in
set_option maxRecDepth 100000 in
theorem repl_shrink (b0 X i j vc:Nat) (vs:List Nd) (hvs:vs.length ≤ 3) (E c:Nat) (ns:List Nd) (hl:ns.length ≤ 1073741824) (w:World) (hbE:b0 ≤ E) (hB:NX w E c ns) (hij:i < j) (hj:j < ns.length) (hX:VX w X vs) (hXE:X ≠ E) (hw:i + vs.length ≤ j) :
    Calls Tryz.prog 54 #[.slice (some ⟨E,0,none⟩) ns.length c,.int .i64 (i:Int),.int .i64 (j:Int),.slice (some ⟨X,0,none⟩) vs.length vc] w fun r w'=>∃ v',r=.returned v'∧NBec w w' b0 (.slice (some ⟨E,0,none⟩) ns.length c) v' (rplN ns i j vs):=by
  have hle:=hB.le
  have hcm:=hB.max
  have hrl:=rplN_len ns i j vs (by omega) (by omega)
  obtain ⟨q,hq⟩:∃ q,i + vs.length=q:=⟨_,rfl⟩
  obtain ⟨u,hu⟩:∃ u,ns.length - j=u:=⟨_,rfl⟩
  obtain ⟨t,ht⟩:∃ t,q + u=t:=⟨_,rfl⟩
  have hz2:¬ ((i:Int)=(j:Int)):=by omega
  have hz3:¬ ((j:Int)=(ns.length:Int)):=by omega
  have hb4:¬ (c=i):=by omega
  have hb2:¬ (c=q):=by omega
  have hb5:¬ (c=j):=by omega
  have hw1:IntKind.i64.wrap ((i:Int) + (vs.length:Int))=(q:Int):=by rw [IntKind.wrap_i64] <;> omega
  have hw2:IntKind.i64.wrap ((q:Int) + (u:Int))=(t:Int):=by rw [IntKind.wrap_i64] <;> omega
  have hb6:¬ ((c:Int) < (t:Int)):=by omega
  have hb7:(t:Int) ≤ (c:Int):=by omega
  have hb8:((q:Int) ≤ (j:Int)):=by omega
  have hb9:(q:Int) ≤ (t:Int):=by omega
  have hb10:(i:Int) ≤ (t:Int):=by omega
  have hqt:t - q=u:=by omega
  have hb11:(i:Int) ≤ (j:Int):=by omega
  have hb12:(j:Int) ≤ (ns.length:Int):=by omega
  obtain ⟨k,hk⟩:∃ k,t - i=k:=⟨_,rfl⟩
  obtain ⟨z,hz⟩:∃ z,ns.length - t=z:=⟨_,rfl⟩
  have hb13:(t:Int) ≤ (ns.length:Int):=by omega
  have hic:(i:Int) ≤ (c:Int):=by omega
  have hjc:(j:Int) ≤ (c:Int):=by omega
  have HB:Hid (NX w E c ns):=hB
  have HX:Hid (VX w X vs):=hX
  clear hB hX
  go_enter Tryz.func54,Tryz.ntmps54
  go_wp2_with fail
  go_quiet (fail)
  have hB:NX (w.drewN nq) E c ns:=HB.out.same rfl
  have hX:VX (w.drewN nq) X vs:=HX.out.same rfl
  have HG:Hid (w.grownBy (w.drewN nq) (some E)):=grown_dn w nq _
  generalize w.drewN nq=w0 at *
  clear HB HX
  have HSH:=hB.shrink (vs:=vs) (by omega) (show j ≤ ns.length by omega)
  obtain ⟨cur,h1,h2,h3⟩:=hB.row
  obtain ⟨cx,x1,x2,x3,x4⟩:=hX.row
  rw [hq] at HSH
  have hfl:(flatN (ns.drop j)).length=u * 3:=by rw [flatN_len,List.length_drop,hu]
  have hcp1:∀ ty dc,(Builtin.copy_ #[67,67] ty #[.slice (some ⟨E,i * 3,none⟩) k dc,.slice (some ⟨X,0,none⟩) vs.length vc]).run Tryz.prog w0=.ok (goInt (Nat.min vs.length k)) (w0.setCells E (i * 3) (flatN vs)):=fun ty dc =>
    run_copy3 w0 ty E (i * 3) k dc ⟨X,0,none⟩ vs.length vc (flatN vs) (by rw [flatN_len]; simp only [Nat.min_def]; split <;> omega) hX.cells
      (fun a ha=>by rw [flatN_len] at ha; rw [cell_of_row _ _ _ _ _ _ h1,Array.getElem?_eq_getElem (by omega)]; rfl) (fun a ha=>frozen_of_row _ _ _ _ _ h1) (flatN_one _)
  obtain ⟨W1,hW1⟩:∃ W1,W1=w0.setCells E (i * 3) (flatN vs):=⟨_,rfl⟩
  have r1:=heap_cells E _ (flatN vs) (i * 3) w0 cur h1 (by rw [flatN_len]; omega)
  have s1:=spl_size cur (i * 3) (flatN vs) (by rw [flatN_len]; omega)
  rw [← hW1] at r1 hcp1 HSH
  have r1d:W1.drew.heap[E]?=_:=r1
  have hdr:∀ t v,(flatN (ns.drop j))[t]?=some v → W1.drew.cell? ((⟨E,j * 3,none⟩:Addr).add t)=some v:=fun t v ht=>by
    have h0:=hB.dropAt j (by omega) t v ht
    rw [Addr.add_lit] at h0 ⊢
    show W1.cell? _=_
    rw [hW1,World.cell?_setCells_out E _ _ w0 ⟨E,j * 3 + t,none⟩ (fun _ _=>Or.inr (by rw [flatN_len]; show _ ≤ j * 3 + t; omega))]
    exact h0
  have hcp2:∀ ty dc sc,(Builtin.copy_ #[67,67] ty #[.slice (some ⟨E,q * 3,none⟩) u dc,.slice (some ⟨E,j * 3,none⟩) u sc]).run Tryz.prog W1.drew=.ok (goInt (Nat.min u u)) (W1.drew.setCells E (q * 3) (flatN (ns.drop j))):=fun ty dc sc =>
    run_copy3 W1.drew ty E (q * 3) u dc ⟨E,j * 3,none⟩ u sc (flatN (ns.drop j)) (by rw [hfl]; simp) hdr
      (fun k hk=>by rw [cell_of_row _ _ _ _ _ _ r1d,Array.getElem?_eq_getElem (by omega)]; rfl) (fun k hk=>frozen_of_row _ _ _ _ _ r1d) (flatN_one _)
  obtain ⟨W2,hW2⟩:∃ W2,W2=W1.drew.setCells E (q * 3) (flatN (ns.drop j)):=⟨_,rfl⟩
  have r2:=heap_cells E _ (flatN (ns.drop j)) (q * 3) W1.drew _ r1d (by rw [s1,hfl]; omega)
  have s2:=spl_size (spl cur (i * 3) (flatN vs)) (q * 3) (flatN (ns.drop j)) (by rw [s1,hfl]; omega)
  rw [← hW2] at r2 hcp2 HSH
  have hcl:∀ ty cc,Sem.run Tryz.prog (Builtin.clear_ #[67] ty #[.slice (some ⟨E,t * 3,none⟩) z cc]) W2=.ok (.tuple #[]) (W2.setCells E (t * 3) (zeroN z)):=fun ty cc=>run_clrN E (t * 3) z cc ty W2 _ r2 (by rw [s2,s1]; omega)
  have HRES:Hid (NBec w (W2.setCells E (t * 3) (zeroN z)) b0 (.slice (some ⟨E,0,none⟩) ns.length c) (.slice (some ⟨E,0,none⟩) t c) (rplN ns i j vs)):=⟨Or.inr ⟨E,c,by rw [hrl,hq,hu,ht],hbE,HSH.1.clr (by rw [hrl,hq,hu,ht]; omega) (by omega)⟩,grown_trans (grown_trans HG.out HSH.2) (grown_cells E _ _ _),fun E' h=>Or.inl (by simpa [Value.ownBlock] using h)⟩
  have hz0':zeroN 0=[]:=by unfold zeroN Builtin.zeroCells; simp
  have hcl0:∀ ty cc,Sem.run Tryz.prog (Builtin.clear_ #[67] ty #[.slice (some ⟨E,0,none⟩) 0 cc]) W2=.ok (.tuple #[]) W2:=fun ty cc=>by
    have:=run_clrN E 0 0 cc ty W2 _ r2 (by omega)
    rw [hz0'] at this; exact this
  have mixed:Tryz.prog.follows Departure.mixedOrders=true:=by kernel_rfl
  clear HSH h1 r1 r1d r2 hB hX x1 x2 x3 h3 hdr
  rcases Nat.eq_or_lt_of_le (show t ≤ c by omega) with hct | hct
  · have hzz:z=0:=by omega
    subst hzz
    have hnl:ns.length=t:=by omega
    rw [hz0'] at HRES
    clear hz
    subst hct
    have htj:t - j=u:=by omega
    subst hW2
    subst hW1
    go_wp2
    go_region_law_o (refine step_copy_runI rfl _ _ 67 67 rfl _ _ (by simp [Act.eval,Act.put]) (by simp [Act.eval,Act.put]) (hcp2 _ _ _) ?_)
    go_wp2
    go_returns
    refine ⟨_,rfl,?_⟩
    first | exact HRES.out | (rw [hnl]; exact HRES.out) | (have:=HRES.out; rw [hnl] at this; exact this)
  · have hct':¬ (c=t):=by omega
    clear hct
    subst hW2
    subst hW1
    go_wp2
    go_region_law_o (refine step_copy_runI rfl _ _ 67 67 rfl _ _ (by simp [Act.eval,Act.put]) (by simp [Act.eval,Act.put]) (hcp2 _ _ _) ?_)
    go_wp2
    go_returns
    exact ⟨_,rfl,HRES.out⟩
end Go.Proofs.YtijambehfobopaaGreatDoor
namespace Go.Proofs.YtijambehfobopaaGreatDoor
open Go.RowKit
set_option linter.unusedVariables false
set_option maxHeartbeats 4000000 in
set_option maxRecDepth 100000 in
theorem ins_end (b0 X vc:Nat) (vs:List Nd) (hvs:vs.length ≤ 3) (hv1:1 ≤ vs.length) (nv:Value) (ns:List Nd) (hl:ns.length ≤ 1073741824) (w:World) (hb0:b0 ≤ w.heap.size) (hB:NV w b0 nv ns) (hX:VX w X vs) :
    Calls Tryz.prog 91 #[nv,.int .i64 (ns.length:Int),.slice (some ⟨X,0,none⟩) vs.length vc] w fun r w'=>∃ v',r=.returned v'∧NBec w w' b0 nv v' (ns ++ vs):=by
  obtain ⟨i0,hi0,hz0,hz1,hz2⟩:=info_parts infoN
  have HN:Hid _:=hX.cells
  have HFL:Hid (flatN ns ++ flatN vs=flatN (ns ++ vs)):=(flatN_app _ _).symm
  have h1c:∀ v ∈ flatN vs,v.oneCell'=true:=flatN_one vs
  obtain ⟨q,hq⟩:∃ q,ns.length + vs.length=q:=⟨_,rfl⟩
  have HLQ:Hid ((ns ++ vs).length=q):=by show _=_; rw [List.length_append,hq]
  have hq3:q ≤ 1073741827:=by omega
  have hm0:¬ ((vs.length:Int)=0):=by omega
  have hne:¬ (ns ++ vs=[]):=by intro e; have:=HLQ.out; rw [e] at this; simp at this; omega
  have HNE:Hid _:=hne
  clear hne
  rcases hB with ⟨rfl,rfl⟩ | ⟨E,c,rfl,hbE,hN⟩
  · clear hX
    have hq0:vs.length=q:=by simpa using hq
    clear hq
    subst hq0
    go_enter Tryz.func91,Tryz.ntmps91
    go_upto_region 7 with fail
    go_wp2_with (at_builtin; go_must (refine wpList_append_grows _ rfl _ _ 67 rfl 55 i0 (.agg #[.string ⟨#[]⟩,.int .i64 0,.bool false]) 3 32 Tryz.underlying67 hi0 hz0 hz1 hz2 rfl (by decide) none 0 0 [] rfl (fun _=>⟨rfl,rfl⟩) rfl (fun b h=>by cases h) ⟨X,0,none⟩ vs.length vc (flatN vs) rfl (flatN_len vs) HN.out h1c (by omega) (by unfold maxLen; omega) (by omega) ?_))
    intro v' w1 hown hgr
    rcases NX.of hown rfl with ⟨_,h'⟩ | ⟨E',c',rfl,hE',hN⟩
    · exact absurd (by simp [h']) HNE.out
    have HR:Hid (NBec w w1 b0 (.slice none 0 0) (.slice (some ⟨E',0,none⟩) vs.length c') vs):=⟨Or.inr ⟨E',c',rfl,by omega,hN⟩,hgr,fun E h=>by right; simp [Value.ownBlock] at h; omega⟩
    clear hown hgr hE' hN
    go_wp2
    go_returns
    exact ⟨_,rfl,HR.out⟩
  · have HOW:Hid _:=hN.own hbE
    have hle:=hN.le
    have hmx:=hN.max
    by_cases hroom:ns.length + vs.length ≤ c
    · clear hX hN
      go_enter Tryz.func91,Tryz.ntmps91
      go_upto_region 7 with fail
      all_goals
       go_wp2_with (at_builtin; go_must (refine wpList_append_fits w rfl _ _ 67 rfl b0 55 i0 3 Tryz.underlying67 hi0 hz1 E ns.length c (flatN ns) rfl HOW.out ⟨X,0,none⟩ vs.length vc (flatN vs) rfl (flatN_len vs) HN.out h1c hroom ?_))
       intro w1 hown hgr
       rw [HFL.out] at hown
       rcases NX.of hown HLQ.out.symm with ⟨h',_⟩ | ⟨E',c',hv',hE',hN⟩
       · cases h'
       injection hv' with e1 e2 e3
       injection e1 with e1
       injection e1 with e1 _ _
       subst e1; subst e3
       have HR:Hid (NBec w w1 b0 (.slice (some ⟨E,0,none⟩) ns.length c) (.slice (some ⟨E,0,none⟩) q c) (ns ++ vs)):=by
         refine ⟨Or.inr ⟨E,c,by rw [HLQ.out],hbE,hN⟩,hgr,fun E' h=>Or.inl (by simpa [Value.ownBlock] using h)⟩
       clear hown hgr hN e2 hE' hroom
       go_wp2
       go_returns
       exact ⟨_,rfl,HR.out⟩
    · have HOL:Hid (∀ b,some (⟨E,0,none⟩:Addr)=some b → ∀ j u,(flatN ns)[j]?=some u → w.cell? (b.add j)=some u):=fun b hb j u hj=>by
        cases hb; exact World.ownsRow.cells HOW.out (g:=E) rfl j u hj
      have hfi:(flatN ns).length=ns.length * 3:=flatN_len ns
      clear hX hN
      go_enter Tryz.func91,Tryz.ntmps91
      go_upto_region 7 with fail
      all_goals
       go_wp2_with (at_builtin; go_must (refine wpList_append_grows _ rfl _ _ 67 rfl 55 i0 (.agg #[.string ⟨#[]⟩,.int .i64 0,.bool false]) 3 32 Tryz.underlying67 hi0 hz0 hz1 hz2 rfl (by decide) (some ⟨E,0,none⟩) ns.length c (flatN ns) rfl (fun h=>by cases h) hfi HOL.out ⟨X,0,none⟩ vs.length vc (flatN vs) rfl (flatN_len vs) HN.out h1c (by omega) (by unfold maxLen; omega) (by omega) ?_))
       all_goals
        intro v' w1 hown hgr
        rw [HFL.out] at hown
        rcases NX.of hown HLQ.out.symm with ⟨_,h'⟩ | ⟨E',c',rfl,hE',hN⟩
        · exact absurd h' HNE.out
        have HR:Hid (NBec w w1 b0 (.slice (some ⟨E,0,none⟩) ns.length c) (.slice (some ⟨E',0,none⟩) q c') (ns ++ vs)):=by
          refine ⟨Or.inr ⟨E',c',by rw [HLQ.out],by omega,hN⟩,grown_wide hgr,fun E2 h=>by right; simp [Value.ownBlock] at h; omega⟩
        rw [HLQ.out]
        clear hown hgr hN hE' hroom
        go_wp2
        go_returns
        exact ⟨_,rfl,HR.out⟩
end Go.Proofs.YtijambehfobopaaGreatDoor
namespace Go.Proofs.YtijambehfobopaaGreatDoor
open Go.RowKit
set_option linter.unusedVariables false
set_option maxHeartbeats 4000000 in
set_option maxRecDepth 100000 in
theorem ins_shift (b0 X i vc:Nat) (vs:List Nd) (hvs:vs.length ≤ 3) (hv1:1 ≤ vs.length) (E c:Nat) (ns:List Nd) (hl:ns.length ≤ 1073741824) (w:World) (hbE:b0 ≤ E) (hB:NX w E c ns) (hi:i < ns.length) (hX:VX w X vs) (hXE:X ≠ E) (hroom:ns.length + vs.length ≤ c) :
    Calls Tryz.prog 91 #[.slice (some ⟨E,0,none⟩) ns.length c,.int .i64 (i:Int),.slice (some ⟨X,0,none⟩) vs.length vc] w fun r w'=>∃ v',r=.returned v'∧NBec w w' b0 (.slice (some ⟨E,0,none⟩) ns.length c) v' (rplN ns i i vs):=by
  have HSH:=hB.widen (vs:=vs) (Nat.le_refl i) (by omega) (by omega)
  have hle:=hB.le
  have hcm:=hB.max
  obtain ⟨cur,h1,h2,h3⟩:=hB.row
  obtain ⟨cx,x1,x2,x3,x4⟩:=hX.row
  have hrl:=rplN_len ns i i vs (Nat.le_refl i) (by omega)
  obtain ⟨q,hq⟩:∃ q,i + vs.length=q:=⟨_,rfl⟩
  obtain ⟨u,hu⟩:∃ u,ns.length - i=u:=⟨_,rfl⟩
  obtain ⟨t,ht⟩:∃ t,ns.length + vs.length=t:=⟨_,rfl⟩
  have hce:cur.size ≠ 0:=by omega
  have hov:∀ la ca lb cb,(callFunc 92 #[.slice (some ⟨X,0,none⟩) la ca,.slice (some ⟨E,q * 3,none⟩) lb cb]).run Tryz.prog w=.ok (.value (.bool false)) w:=fun la ca lb cb=>overlaps_no w X E la ca lb cb 0 (q * 3) hXE cx cur x1 h1 hce
  rw [hq] at HSH
  have HRES:Hid (NBec w ((w.drew.setCells E (q * 3) (flatN (ns.drop i))).setCells E (i * 3) (flatN vs)) b0 (.slice (some ⟨E,0,none⟩) ns.length c) (.slice (some ⟨E,0,none⟩) t c) (rplN ns i i vs)):=⟨Or.inr ⟨E,c,by rw [hrl]; congr 1; omega,hbE,HSH.1⟩,HSH.2,fun E' h=>Or.inl (by simpa [Value.ownBlock] using h)⟩
  have h1d:w.drew.heap[E]?=some (.cells cur 55):=h1
  have hfl:(flatN (ns.drop i)).length=u * 3:=by rw [flatN_len,List.length_drop,hu]
  obtain ⟨k,hk⟩:∃ k,t - i=k:=⟨_,rfl⟩
  have hcp1:∀ ty dc sc,(Builtin.copy_ #[67,67] ty #[.slice (some ⟨E,q * 3,none⟩) u dc,.slice (some ⟨E,i * 3,none⟩) k sc]).run Tryz.prog w.drew=.ok (goInt (Nat.min k u)) (w.drew.setCells E (q * 3) (flatN (ns.drop i))):=fun ty dc sc =>
    run_copy3 w.drew ty E (q * 3) u dc ⟨E,i * 3,none⟩ k sc (flatN (ns.drop i)) (by rw [hfl]; simp only [Nat.min_def]; split <;> omega) (fun k v hk=>(hB.dropAt i (by omega)) k v hk)
      (fun k hk=>by rw [cell_of_row _ _ _ _ _ _ h1d,Array.getElem?_eq_getElem (by omega)]; rfl) (fun k hk=>frozen_of_row _ _ _ _ _ h1d) (flatN_one _)
  obtain ⟨W1,hW1⟩:∃ W1,W1=w.drew.setCells E (q * 3) (flatN (ns.drop i)):=⟨_,rfl⟩
  have r1:=heap_cells E _ (flatN (ns.drop i)) (q * 3) w.drew cur h1d (by rw [hfl]; omega)
  have s1:=spl_size cur (q * 3) (flatN (ns.drop i)) (by rw [hfl]; omega)
  rw [← hW1] at r1 hcp1 HRES
  have hXW:VX W1 X vs:=hX.same (by rw [hW1,(grown_cells E _ _ w.drew).block X hX.lt (by simpa using hXE)]; rfl)
  have hcp2:∀ ty dc,(Builtin.copy_ #[67,67] ty #[.slice (some ⟨E,i * 3,none⟩) k dc,.slice (some ⟨X,0,none⟩) vs.length vc]).run Tryz.prog W1=.ok (goInt (Nat.min vs.length k)) (W1.setCells E (i * 3) (flatN vs)):=fun ty dc =>
    run_copy3 W1 ty E (i * 3) k dc ⟨X,0,none⟩ vs.length vc (flatN vs) (by rw [flatN_len]; simp only [Nat.min_def]; split <;> omega) hXW.cells
      (fun a ha=>by rw [flatN_len] at ha; rw [cell_of_row _ _ _ _ _ _ r1,Array.getElem?_eq_getElem (by omega)]; rfl) (fun a ha=>frozen_of_row _ _ _ _ _ r1) (flatN_one _)
  have hm0:¬ ((vs.length:Int)=0):=by omega
  have hz2:¬ ((i:Int)=(ns.length:Int)):=by omega
  have hb4:¬ (c=i):=by omega
  have hb2:¬ (c=q):=by omega
  have hw1:IntKind.i64.wrap ((i:Int) + (vs.length:Int))=(q:Int):=by rw [IntKind.wrap_i64] <;> omega
  have hw2:IntKind.i64.wrap ((ns.length:Int) + (vs.length:Int))=(t:Int):=by rw [IntKind.wrap_i64] <;> omega
  have hb6:¬ ((c:Int) < (t:Int)):=by omega
  have hb7:(t:Int) ≤ (c:Int):=by omega
  have hb9:(q:Int) ≤ (t:Int):=by omega
  have hb10:(i:Int) ≤ (t:Int):=by omega
  have hqt:t - q=u:=by omega
  have hic:(i:Int) ≤ (c:Int):=by omega
  have hin:(i:Int) ≤ (ns.length:Int):=by omega
  have mixed:Tryz.prog.follows Departure.mixedOrders=true:=by kernel_rfl
  clear HSH h1 h1d r1 hXW hB hX x1 x2 x3 h3
  subst hW1
  go_enter Tryz.func91,Tryz.ntmps91
  go_wp2_with (simp only [hov])
  go_region_law_o (refine step_copy_runI rfl _ _ 67 67 rfl _ _ (by simp [Act.eval,Act.put]) (by simp [Act.eval,Act.put]) (hcp1 _ _ _) ?_)
  go_wp2
  go_returns
  exact ⟨_,rfl,HRES.out⟩
end Go.Proofs.YtijambehfobopaaGreatDoor
namespace Go.Proofs.YtijambehfobopaaGreatDoor
open Go.RowKit
set_option linter.unusedVariables false
theorem ins_any (b0 X i vc:Nat) (vs:List Nd) (hvs:vs.length ≤ 3) (hv1:1 ≤ vs.length) (nv:Value) (ns:List Nd) (hl:ns.length ≤ 1073741824) (hi:i ≤ ns.length) (w:World) (hb0:b0 ≤ w.heap.size) (hB:NV w b0 nv ns) (hX:VX w X vs) (hXn:∀ E,nv.ownBlock=some E → X ≠ E) :
    Calls Tryz.prog 91 #[nv,.int .i64 (i:Int),.slice (some ⟨X,0,none⟩) vs.length vc] w fun r w'=>∃ v',r=.returned v'∧NBec w w' b0 nv v' (rplN ns i i vs):=by
  rcases Nat.lt_or_eq_of_le hi with h | h
  · rcases hB with ⟨_,rfl⟩ | ⟨E,c,rfl,hbE,hN⟩
    · simp at h
    · rcases Nat.lt_or_ge c (ns.length + vs.length) with hr | hr
      · exact ins_grow b0 X i vc vs hvs hv1 E c ns hl w hN h hX hb0 hr
      · exact ins_shift b0 X i vc vs hvs hv1 E c ns hl w hbE hN h hX (hXn E rfl) hr
  · subst h
    have e:rplN ns ns.length ns.length vs=ns ++ vs:=by unfold rplN; simp
    rw [e]
    exact ins_end b0 X vc vs hvs hv1 nv ns hl w hb0 hB hX
set_option maxHeartbeats 1000000 in
set_option maxRecDepth 100000 in
theorem repl_any (b0 X i j vc:Nat) (vs:List Nd) (hvs:vs.length ≤ 3) (hv1:i=j → 1 ≤ vs.length) (nv:Value) (ns:List Nd) (hl:ns.length ≤ 1073741824) (hi:i ≤ j) (hj:j ≤ ns.length) (w:World) (hb0:b0 ≤ w.heap.size) (hB:NV w b0 nv ns) (hX:VX w X vs) (hXn:∀ E,nv.ownBlock=some E → X ≠ E) :
    Calls Tryz.prog 54 #[nv,.int .i64 (i:Int),.int .i64 (j:Int),.slice (some ⟨X,0,none⟩) vs.length vc] w fun r w'=>∃ v',r=.returned v'∧NBec w w' b0 nv v' (rplN ns i j vs):=by
  rcases Nat.lt_or_eq_of_le hi with h | h
  · rcases hB with ⟨_,rfl⟩ | ⟨E,c,rfl,hbE,hN⟩
    · simp at hj; omega
    · rcases Nat.lt_or_eq_of_le hj with h2 | h2
      · rcases Nat.lt_or_ge c (i + vs.length + (ns.length - j)) with hr | hr
        · exact repl_grow b0 X i j vc vs hvs E c ns hl w hN h h2 hX (hXn E rfl) hb0 hr
        · rcases Nat.lt_or_ge j (i + vs.length) with h3 | h3
          · exact repl_widen b0 X i j vc vs hvs E c ns hl w hbE hN h h2 hX (hXn E rfl) hr h3
          · exact repl_shrink b0 X i j vc vs hvs E c ns hl w hbE hN h h2 hX (hXn E rfl) h3
      · subst h2
        have e:rplN ns i ns.length vs=ns.take i ++ vs:=by unfold rplN; simp
        rw [e]
        exact repl_end b0 X i vc vs hvs E c ns hl w hb0 hbE hN h hX (hXn E rfl)
  · subst h
    have HI:Hid _:=ins_any b0 X i vc vs hvs (hv1 rfl) nv ns hl hj w hb0 hB hX hXn
    have hform:∃ P c,nv=.slice P ns.length c∧ns.length ≤ c:=by
      rcases hB with ⟨rfl,rfl⟩ | ⟨E,c,rfl,_,hN⟩
      · exact ⟨none,0,rfl,by simp⟩
      · exact ⟨some ⟨E,0,none⟩,c,rfl,hN.le⟩
    clear hB hX hXn
    obtain ⟨P,c,rfl,hc⟩:=hform
    have hii:(i:Int) ≤ (ns.length:Int):=by omega
    by_cases hci:c=i
    · subst hci
      go_enter Tryz.func54,Tryz.ntmps54
      go_wp2_with fail
      refine (show Calls _ _ _ _ _ from HI.out).mono ?_
      rintro e w1 ⟨v',rfl,hb1⟩
      have HB:Hid _:=hb1
      clear hb1
      go_wp2
      go_returns
      exact ⟨_,rfl,HB.out⟩
    · have hic:(i:Int) ≤ (c:Int):=by omega
      go_enter Tryz.func54,Tryz.ntmps54
      go_wp2_with fail
      refine (show Calls _ _ _ _ _ from HI.out).mono ?_
      rintro e w1 ⟨v',rfl,hb1⟩
      have HB:Hid _:=hb1
      clear hb1
      go_wp2
      go_returns
      exact ⟨_,rfl,HB.out⟩
end Go.Proofs.YtijambehfobopaaGreatDoor
