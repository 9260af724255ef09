import Derived.Test.YtijambehfobopaaGreatDoorWAF
namespace Go.Proofs.YtijambehfobopaaGreatDoor
open Go.RowKit
set_option linter.unusedVariables false
set_option maxHeartbeats 4000000 in
set_option maxRecDepth 100000 in
theorem repl_grow (b0 X i j vc:Nat) (vs:List Nd) (hvs:vs.length ≤ 3) (E c:Nat) (ns:List Nd) (hl:ns.length ≤ 1073741824) (w:World) (hB:NX w E c ns) (hij:i < j) (hj:j < ns.length) (hX:VX w X vs) (hXE:X ≠ E) (hb0:b0 ≤ w.heap.size) (hroom:c < i + vs.length + (ns.length - j)) :
    Calls Tryz.prog 54 #[.slice (some ⟨E,0,none⟩) ns.length c,.int .i64 (i:Int),.int .i64 (j:Int),.slice (some ⟨X,0,none⟩) vs.length vc] w fun r w'=>∃ v',r=.returned v'∧NBec w w' b0 (.slice (some ⟨E,0,none⟩) ns.length c) v' (rplN ns i j vs):=by
  have hle:=hB.le
  have hcm:=hB.max
  have hrl:=rplN_len ns i j vs (by omega) (by omega)
  obtain ⟨q,hq⟩:∃ q,i + vs.length=q:=⟨_,rfl⟩
  obtain ⟨u,hu⟩:∃ u,ns.length - j=u:=⟨_,rfl⟩
  obtain ⟨t,ht⟩:∃ t,q + u=t:=⟨_,rfl⟩
  rw [hq,hu] at hroom
  have hz2:¬ ((i:Int)=(j:Int)):=by omega
  have hz3:¬ ((j:Int)=(ns.length:Int)):=by omega
  have hb4:¬ (c=i):=by omega
  have hb5:¬ (c=j):=by omega
  have hw1:IntKind.i64.wrap ((i:Int) + (vs.length:Int))=(q:Int):=by rw [IntKind.wrap_i64] <;> omega
  have hw2:IntKind.i64.wrap ((q:Int) + (u:Int))=(t:Int):=by rw [IntKind.wrap_i64] <;> omega
  have hb9:(q:Int) ≤ (t:Int):=by omega
  have hb10:(i:Int) ≤ (t:Int):=by omega
  have hqt:t - q=u:=by omega
  have hb11:(i:Int) ≤ (j:Int):=by omega
  have hb12:(j:Int) ≤ (ns.length:Int):=by omega
  have hb6:((c:Int) < (t:Int)):=by omega
  obtain ⟨k,hk⟩:∃ k,t - i=k:=⟨_,rfl⟩
  have hw3:IntKind.i64.wrap ((t:Int) - (i:Int))=(k:Int):=by rw [IntKind.wrap_i64] <;> omega
  have hik:i + k=t:=by omega
  have hic:(i:Int) ≤ (c:Int):=by omega
  have hjc:(j:Int) ≤ (c:Int):=by omega
  have HB:Hid (NX w E c ns):=hB
  have HX:Hid (VX w X vs):=hX
  clear hB hX
  go_enter Tryz.func54,Tryz.ntmps54
  go_wp2_with fail
  go_quiet (fail)
  have hB:NX (w.drewN nq) E c ns:=HB.out.same rfl
  have hX:VX (w.drewN nq) X vs:=HX.out.same rfl
  have HG:Hid (w.grownBy (w.drewN nq) none):=grown_dn w nq _
  generalize w.drewN nq=w0 at *
  clear HB HX
  obtain ⟨i0,hi0,hz0,hz1,hz2'⟩:=info_parts infoN
  have hcs:∀ a v,(flatN (ns.take i))[a]?=some v → w0.drew.cell? ((⟨E,0,none⟩:Addr).add a)=some v:=fun a v ha=>by
    have:=World.ownsRow.cells (hB.ownTake (Nat.zero_le E) i (by omega)) (g:=E) rfl a v ha
    exact this
  have hfi:(flatN (ns.take i)).length=i * 3:=by rw [flatN_len,List.length_take]; congr 1; omega
  have hold:(Builtin.firstCells i0.size i (.slice (some ⟨E,0,none⟩) i c)).run Tryz.prog w0.drew=.ok (flatN (ns.take i)).toArray w0.drew:=by
    rw [hz1]; exact run_firstCells_some w0.drew 3 i ⟨E,0,none⟩ i c (flatN (ns.take i)) hfi hcs
  have hrun:∀ ty,(Builtin.append_ #[67,3] ty #[.slice (some ⟨E,0,none⟩) i c,.int .i64 (k:Int)]).run Tryz.prog w0=_:=fun ty =>
    Lib.run_append_grow_zeros w0 67 3 ty 55 i0 _ .i64 .i64 Tryz.underlying67 Tryz.underlying3 hi0 hz0 (some ⟨E,0,none⟩) i c (flatN (ns.take i)) hold k (by omega) (by omega) (by omega) (by omega) (by rw [hz2']; omega) (by rw [hz2']; exact growslice_fits (by omega) (by omega))
  obtain ⟨c',hc'⟩:∃ c',grownCap w0 (i + k) c 55=c':=⟨_,rfl⟩
  have hc1:i + k ≤ c':=by rw [← hc']; exact grownCap_ge w0 (i + k) c 55
  have hcm':c' ≤ maxLen:=by rw [← hc']; exact grownCap_le_maxLen w0 (i + k) c 55 (by unfold maxLen; omega)
  rw [hc'] at hrun
  obtain ⟨CUR,hCUR⟩:∃ CUR,CUR=(flatN (ns.take i)).toArray ++ Builtin.zeroCells (Value.cells (.agg #[.string ⟨#[]⟩,.int .i64 0,.bool false])) k ++ Builtin.zeroCells (Value.cells (.agg #[.string ⟨#[]⟩,.int .i64 0,.bool false])) (c' - (i + k)):=⟨_,rfl⟩
  rw [← hCUR] at hrun
  obtain ⟨W1,hW1⟩:∃ W1,W1=w0.drew.alloc (.cells CUR 55):=⟨_,rfl⟩
  rw [← hW1] at hrun
  have hbw:Below w0.heap.size w0 W1:=by rw [hW1]; exact (Below.refl _ w0).drew.alloc (Nat.le_refl _) _
  have hXW:VX W1 X vs:=hX.same (hbw.block X hX.lt)
  have hBE:NX W1 E c ns:=hB.on hbw
  have r0:W1.heap[w0.heap.size]?=some (.cells CUR 55):=by rw [hW1]; exact one_alloc w0.drew _
  have s0:CUR.size=c' * 3:=by
    rw [hCUR]; simp only [Array.size_append,size_zeroCells,List.size_toArray,hfi]
    rw [show (Value.cells (.agg #[.string ⟨#[]⟩,.int .i64 0,.bool false])).size=3 from rfl]; omega
  have hgl:CUR.toList.take (i * 3)=flatN (ns.take i):=by
    rw [hCUR]; simp only [Array.toList_append,List.append_assoc]; rw [← hfi]; exact List.take_left
  have HF:=NX.fill (vs:=vs) r0 s0 hcm' hgl (show i ≤ j by omega) (show j ≤ ns.length by omega) (by omega)
  rw [hq] at HF
  have HRES:Hid (NBec w ((W1.setCells w0.heap.size (i * 3) (flatN vs)).drew.setCells w0.heap.size (q * 3) (flatN (ns.drop j))) b0 (.slice (some ⟨E,0,none⟩) ns.length c) (.slice (some ⟨w0.heap.size,0,none⟩) t c') (rplN ns i j vs)):=by
    refine ⟨Or.inr ⟨w0.heap.size,c',by rw [hrl,hq,hu,ht],Nat.le_trans hb0 HG.out.size,HF.1⟩,?_,fun E' h=>Or.inr (by simp [Value.ownBlock] at h; have:=HG.out.size; omega)⟩
    have hg1:w0.grownBy ((W1.setCells w0.heap.size (i * 3) (flatN vs)).drew.setCells w0.heap.size (q * 3) (flatN (ns.drop j))) none:=
      ⟨HF.2.os.trans hbw.os,HF.2.tape.trans hbw.tape,HF.2.output.trans hbw.output,Nat.le_trans hbw.size HF.2.size,fun y hy _=>(HF.2.block y (Nat.lt_of_lt_of_le hy hbw.size) (by simp; omega)).trans (hbw.block y hy)⟩
    exact grown_wide (grown_trans HG.out hg1)
  have hcp1:∀ ty dc,(Builtin.copy_ #[67,67] ty #[.slice (some ⟨w0.heap.size,i * 3,none⟩) k dc,.slice (some ⟨X,0,none⟩) vs.length vc]).run Tryz.prog W1=.ok (goInt (Nat.min vs.length k)) (W1.setCells w0.heap.size (i * 3) (flatN vs)):=fun ty dc =>
    run_copy3 W1 ty w0.heap.size (i * 3) k dc ⟨X,0,none⟩ vs.length vc (flatN vs) (by rw [flatN_len]; simp only [Nat.min_def]; split <;> omega) hXW.cells
      (fun a ha=>by rw [flatN_len] at ha; rw [cell_of_row _ _ _ _ _ _ r0,Array.getElem?_eq_getElem (by omega)]; rfl) (fun a ha=>frozen_of_row _ _ _ _ _ r0) (flatN_one _)
  obtain ⟨W2,hW2⟩:∃ W2,W2=W1.setCells w0.heap.size (i * 3) (flatN vs):=⟨_,rfl⟩
  have r1:=heap_cells w0.heap.size _ (flatN vs) (i * 3) W1 CUR r0 (by rw [flatN_len]; omega)
  have s1:=spl_size CUR (i * 3) (flatN vs) (by rw [flatN_len]; omega)
  have hBE2:NX W2 E c ns:=hBE.same (by rw [hW2,(grown_cells w0.heap.size _ _ W1).block E hBE.lt (by have:=hB.lt; simp; omega)])
  rw [← hW2] at r1 hcp1 HRES
  have r1d:W2.drew.heap[w0.heap.size]?=_:=r1
  have hfl:(flatN (ns.drop j)).length=u * 3:=by rw [flatN_len,List.length_drop,hu]
  have hcp2:∀ ty dc sc,(Builtin.copy_ #[67,67] ty #[.slice (some ⟨w0.heap.size,q * 3,none⟩) u dc,.slice (some ⟨E,j * 3,none⟩) u sc]).run Tryz.prog W2.drew=.ok (goInt (Nat.min u u)) (W2.drew.setCells w0.heap.size (q * 3) (flatN (ns.drop j))):=fun ty dc sc =>
    run_copy3 W2.drew ty w0.heap.size (q * 3) u dc ⟨E,j * 3,none⟩ u sc (flatN (ns.drop j)) (by rw [hfl]; simp) (hBE2.dropAt j (by omega))
      (fun k hk=>by rw [cell_of_row _ _ _ _ _ _ r1d,Array.getElem?_eq_getElem (by omega)]; rfl) (fun k hk=>frozen_of_row _ _ _ _ _ r1d) (flatN_one _)
  have hci:¬ (c'=i):=by omega
  have hcq:¬ (c'=q):=by omega
  have mixed:Tryz.prog.follows Departure.mixedOrders=true:=by kernel_rfl
  have HRUN:Hid _:=hrun
  obtain ⟨S,hS⟩:∃ S,w0.heap.size=S:=⟨_,rfl⟩
  rw [hS] at hcp1 hcp2 HRES HRUN
  rw [hik] at HRUN
  clear hold hcs hrun hc' hz2' hz1 hz0 hi0 hfi hcm' hbw hXW hBE r0 s0 hgl HF r1 r1d hBE2 hfl hCUR s1 hB hX hS hW1 HG
  subst hW2
  go_upto_region 11 with fail
  go_wp2_with (at_builtin; go_must (refine Lib.wpList_append_run _ rfl _ _ 67 3 rfl (.slice (some ⟨E,0,none⟩) i c) (.int .i64 (k:Int)) ?a1 ?a2 _ _ (HRUN.out _) ?_))
  case a1=>rfl
  case a2=>rfl
  go_region_law_o (refine step_copy_runI rfl _ _ 67 67 rfl _ _ (by simp [Act.eval,Act.put]) (by simp [Act.eval,Act.put]) (hcp2 _ _ _) ?_)
  go_wp2
  go_returns
  exact ⟨_,rfl,HRES.out⟩
end Go.Proofs.YtijambehfobopaaGreatDoor
namespace Go.Proofs.YtijambehfobopaaGreatDoor
open Go.RowKit
set_option linter.unusedVariables false
set_option maxHeartbeats 4000000 in
set_option maxRecDepth 100000 in
theorem ins_grow (b0 X i vc:Nat) (vs:List Nd) (hvs:vs.length ≤ 3) (hv1:1 ≤ vs.length) (E c:Nat) (ns:List Nd) (hl:ns.length ≤ 1073741824) (w:World) (hB:NX w E c ns) (hi:i < ns.length) (hX:VX w X vs) (hb0:b0 ≤ w.heap.size) (hroom:c < ns.length + vs.length) :
    Calls Tryz.prog 91 #[.slice (some ⟨E,0,none⟩) ns.length c,.int .i64 (i:Int),.slice (some ⟨X,0,none⟩) vs.length vc] w fun r w'=>∃ v',r=.returned v'∧NBec w w' b0 (.slice (some ⟨E,0,none⟩) ns.length c) v' (rplN ns i i vs):=by
  have hle:=hB.le
  have hcm:=hB.max
  have hrl:=rplN_len ns i i vs (Nat.le_refl i) (by omega)
  obtain ⟨q,hq⟩:∃ q,i + vs.length=q:=⟨_,rfl⟩
  obtain ⟨u,hu⟩:∃ u,ns.length - i=u:=⟨_,rfl⟩
  obtain ⟨t,ht⟩:∃ t,ns.length + vs.length=t:=⟨_,rfl⟩
  have hm0:¬ ((vs.length:Int)=0):=by omega
  have hz2:¬ ((i:Int)=(ns.length:Int)):=by omega
  have hb4:¬ (c=i):=by omega
  have hw1:IntKind.i64.wrap ((i:Int) + (vs.length:Int))=(q:Int):=by rw [IntKind.wrap_i64] <;> omega
  have hw2:IntKind.i64.wrap ((ns.length:Int) + (vs.length:Int))=(t:Int):=by rw [IntKind.wrap_i64] <;> omega
  have hb6:((c:Int) < (t:Int)):=by omega
  have hb9:(q:Int) ≤ (t:Int):=by omega
  have hb10:(i:Int) ≤ (t:Int):=by omega
  have hqt:t - q=u:=by omega
  obtain ⟨k,hk⟩:∃ k,t - i=k:=⟨_,rfl⟩
  have hw3:IntKind.i64.wrap ((t:Int) - (i:Int))=(k:Int):=by rw [IntKind.wrap_i64] <;> omega
  have hik:i + k=t:=by omega
  have hic:(i:Int) ≤ (c:Int):=by omega
  have hin:(i:Int) ≤ (ns.length:Int):=by omega
  obtain ⟨i0,hi0,hz0,hz1,hz2'⟩:=info_parts infoN
  have hcs:∀ a v,(flatN (ns.take i))[a]?=some v → w.drew.cell? ((⟨E,0,none⟩:Addr).add a)=some v:=fun a v ha=>by
    have:=World.ownsRow.cells (hB.ownTake (Nat.zero_le E) i (by omega)) (g:=E) rfl a v ha
    exact this
  have hfi:(flatN (ns.take i)).length=i * 3:=by rw [flatN_len,List.length_take]; congr 1; omega
  have hold:(Builtin.firstCells i0.size i (.slice (some ⟨E,0,none⟩) i c)).run Tryz.prog w.drew=.ok (flatN (ns.take i)).toArray w.drew:=by
    rw [hz1]; exact run_firstCells_some w.drew 3 i ⟨E,0,none⟩ i c (flatN (ns.take i)) hfi hcs
  have hrun:∀ ty,(Builtin.append_ #[67,3] ty #[.slice (some ⟨E,0,none⟩) i c,.int .i64 (k:Int)]).run Tryz.prog w=_:=fun ty =>
    Lib.run_append_grow_zeros w 67 3 ty 55 i0 _ .i64 .i64 Tryz.underlying67 Tryz.underlying3 hi0 hz0 (some ⟨E,0,none⟩) i c (flatN (ns.take i)) hold k (by omega) (by omega) (by omega) (by omega) (by rw [hz2']; omega) (by rw [hz2']; exact growslice_fits (by omega) (by omega))
  obtain ⟨c',hc'⟩:∃ c',grownCap w (i + k) c 55=c':=⟨_,rfl⟩
  have hc1:i + k ≤ c':=by rw [← hc']; exact grownCap_ge w (i + k) c 55
  have hcm':c' ≤ maxLen:=by rw [← hc']; exact grownCap_le_maxLen w (i + k) c 55 (by unfold maxLen; omega)
  rw [hc'] at hrun
  obtain ⟨CUR,hCUR⟩:∃ CUR,CUR=(flatN (ns.take i)).toArray ++ Builtin.zeroCells (Value.cells (.agg #[.string ⟨#[]⟩,.int .i64 0,.bool false])) k ++ Builtin.zeroCells (Value.cells (.agg #[.string ⟨#[]⟩,.int .i64 0,.bool false])) (c' - (i + k)):=⟨_,rfl⟩
  rw [← hCUR] at hrun
  obtain ⟨W1,hW1⟩:∃ W1,W1=w.drew.alloc (.cells CUR 55):=⟨_,rfl⟩
  rw [← hW1] at hrun
  have hbw:Below w.heap.size w W1:=by rw [hW1]; exact (Below.refl _ w).drew.alloc (Nat.le_refl _) _
  have hXW:VX W1 X vs:=hX.same (hbw.block X hX.lt)
  have hBE:NX W1 E c ns:=hB.on hbw
  have r0:W1.heap[w.heap.size]?=some (.cells CUR 55):=by rw [hW1]; exact one_alloc w.drew _
  have s0:CUR.size=c' * 3:=by
    rw [hCUR]; simp only [Array.size_append,size_zeroCells,List.size_toArray,hfi]
    rw [show (Value.cells (.agg #[.string ⟨#[]⟩,.int .i64 0,.bool false])).size=3 from rfl]; omega
  have hgl:CUR.toList.take (i * 3)=flatN (ns.take i):=by
    rw [hCUR]; simp only [Array.toList_append,List.append_assoc]; rw [← hfi]; exact List.take_left
  have HF:=NX.fill (vs:=vs) r0 s0 hcm' hgl (Nat.le_refl i) (show i ≤ ns.length by omega) (by omega)
  rw [hq] at HF
  have HRES:Hid (NBec w ((W1.setCells w.heap.size (i * 3) (flatN vs)).drew.setCells w.heap.size (q * 3) (flatN (ns.drop i))) b0 (.slice (some ⟨E,0,none⟩) ns.length c) (.slice (some ⟨w.heap.size,0,none⟩) t c') (rplN ns i i vs)):=by
    refine ⟨Or.inr ⟨w.heap.size,c',by rw [hrl]; congr 1; omega,hb0,HF.1⟩,?_,fun E' h=>Or.inr (by simp [Value.ownBlock] at h; omega)⟩
    have hg1:w.grownBy ((W1.setCells w.heap.size (i * 3) (flatN vs)).drew.setCells w.heap.size (q * 3) (flatN (ns.drop i))) none:=
      ⟨HF.2.os.trans hbw.os,HF.2.tape.trans hbw.tape,HF.2.output.trans hbw.output,Nat.le_trans hbw.size HF.2.size,fun y hy _=>(HF.2.block y (Nat.lt_of_lt_of_le hy hbw.size) (by simp; omega)).trans (hbw.block y hy)⟩
    exact grown_wide hg1
  have hcp1:∀ ty dc,(Builtin.copy_ #[67,67] ty #[.slice (some ⟨w.heap.size,i * 3,none⟩) k dc,.slice (some ⟨X,0,none⟩) vs.length vc]).run Tryz.prog W1=.ok (goInt (Nat.min vs.length k)) (W1.setCells w.heap.size (i * 3) (flatN vs)):=fun ty dc =>
    run_copy3 W1 ty w.heap.size (i * 3) k dc ⟨X,0,none⟩ vs.length vc (flatN vs) (by rw [flatN_len]; simp only [Nat.min_def]; split <;> omega) hXW.cells
      (fun a ha=>by rw [flatN_len] at ha; rw [cell_of_row _ _ _ _ _ _ r0,Array.getElem?_eq_getElem (by omega)]; rfl) (fun a ha=>frozen_of_row _ _ _ _ _ r0) (flatN_one _)
  obtain ⟨W2,hW2⟩:∃ W2,W2=W1.setCells w.heap.size (i * 3) (flatN vs):=⟨_,rfl⟩
  have r1:=heap_cells w.heap.size _ (flatN vs) (i * 3) W1 CUR r0 (by rw [flatN_len]; omega)
  have s1:=spl_size CUR (i * 3) (flatN vs) (by rw [flatN_len]; omega)
  have hBE2:NX W2 E c ns:=hBE.same (by rw [hW2,(grown_cells w.heap.size _ _ W1).block E hBE.lt (by have:=hB.lt; simp; omega)])
  rw [← hW2] at r1 hcp1 HRES
  have r1d:W2.drew.heap[w.heap.size]?=_:=r1
  have hfl:(flatN (ns.drop i)).length=u * 3:=by rw [flatN_len,List.length_drop,hu]
  have hcp2:∀ ty dc sc,(Builtin.copy_ #[67,67] ty #[.slice (some ⟨w.heap.size,q * 3,none⟩) u dc,.slice (some ⟨E,i * 3,none⟩) u sc]).run Tryz.prog W2.drew=.ok (goInt (Nat.min u u)) (W2.drew.setCells w.heap.size (q * 3) (flatN (ns.drop i))):=fun ty dc sc =>
    run_copy3 W2.drew ty w.heap.size (q * 3) u dc ⟨E,i * 3,none⟩ u sc (flatN (ns.drop i)) (by rw [hfl]; simp) (hBE2.dropAt i (by omega))
      (fun k hk=>by rw [cell_of_row _ _ _ _ _ _ r1d,Array.getElem?_eq_getElem (by omega)]; rfl) (fun k hk=>frozen_of_row _ _ _ _ _ r1d) (flatN_one _)
  have hci:¬ (c'=i):=by omega
  have hcq:¬ (c'=q):=by omega
  have mixed:Tryz.prog.follows Departure.mixedOrders=true:=by kernel_rfl
  have HRUN:Hid _:=hrun
  obtain ⟨S,hS⟩:∃ S,w.heap.size=S:=⟨_,rfl⟩
  rw [hS] at hcp1 hcp2 HRES HRUN
  rw [hik] at HRUN
  clear hold hcs hrun hc' hz2' hz1 hz0 hi0 hfi hcm' hbw hXW hBE r0 s0 hgl HF r1 r1d hBE2 hfl hCUR s1 hB hX hS hW1
  subst hW2
  go_enter Tryz.func91,Tryz.ntmps91
  go_upto_region 9 with fail
  go_wp2_with (at_builtin; go_must (refine Lib.wpList_append_run _ rfl _ _ 67 3 rfl (.slice (some ⟨E,0,none⟩) i c) (.int .i64 (k:Int)) ?a1 ?a2 _ _ (HRUN.out _) ?_))
  case a1=>rfl
  case a2=>rfl
  go_region_law_o (refine step_copy_runI rfl _ _ 67 67 rfl _ _ (by simp [Act.eval,Act.put]) (by simp [Act.eval,Act.put]) (hcp2 _ _ _) ?_)
  go_wp2
  go_returns
  exact ⟨_,rfl,HRES.out⟩
end Go.Proofs.YtijambehfobopaaGreatDoor
namespace Go.Proofs.YtijambehfobopaaGreatDoor
open Go.RowKit
set_option linter.unusedVariables false
/-! slices.DeleteFunc of nodes without elements. -/
abbrev isE:Value:=.func (.func 56) #[] #[]
theorem isEmpty_any (n:Nd) (w:World):Calls Tryz.prog 56 #[.agg #[.string n.1,.int .i64 (n.2.1:Int),.bool n.2.2]] w fun e w'=>e=.returned (.bool (n.2.1 == 0))∧Below w.heap.size w w':=by
  obtain ⟨p,c,l⟩:=n
  have HB:Hid (((c:Int) == 0)=(c == 0)):=by show _=_; rcases Nat.eq_zero_or_pos c with h | h; subst h; rfl; rw [show ((c:Int) == 0)=false by simp; omega,show (c == 0)=false by simp; omega]
  go_enter Tryz.func56,Tryz.ntmps56
  go_wp2
  go_returns
  refine ⟨?_,(Below.refl _ w).alloc (Nat.le_refl _) _⟩
  show Ending.returned (Value.bool ((c:Int) == 0))=_
  rw [HB.out]
def okN (n:Nd):Bool:=!(n.2.1 == 0)
set_option maxHeartbeats 1000000 in
set_option maxRecDepth 100000 in
theorem indexF_any (E c:Nat) (vs:List Nd) (hl:vs.length ≤ 1073741824) (w:World) (hB:NX w E c vs) :
    Calls Tryz.prog 95 #[.slice (some ⟨E,0,none⟩) vs.length c,isE] w fun e w'=>Below w.heap.size w w'∧((∃ i:Nat,i < vs.length∧e=.returned (.int .i64 (i:Int))∧(∀ t (h:t < vs.length),t < i → okN vs[t]=true)∧∀ h:i < vs.length,okN vs[i]=false) ∨ (e=.returned (.int .i64 (-1))∧∀ t (h:t < vs.length),okN vs[t]=true)):=by
  have HB:Hid (NX w E c vs):=hB
  have HE:Hid _:=isEmpty_any
  clear hB
  go_enter Tryz.func95,Tryz.ntmps95
  go_wp2
  go_loopw [8] (fun ci wr=>∃ i:Nat,i ≤ vs.length∧ci=.int .i64 (i:Int)∧Below w.heap.size w wr∧∀ t (h:t < vs.length),t < i → okN vs[t]=true) (fun ci _=>vs.length - (intOf ci).toNat)
  case atStart=>exact ⟨0,by omega,rfl,Below.refl _ _,fun t _ h=>by omega⟩
  case round =>
    obtain ⟨i,hi,rfl,hb,hall⟩:=hrel
    have HBR:Hid (Below w.heap.size w wr):=hb
    have HALL:Hid _:=hall
    by_cases hlt:i < vs.length
    · obtain ⟨x0,x1,x2⟩:=(HB.out.on hb).cells i hlt
      have hz0:(0:Int) ≤ (i:Int):=by omega
      have hz1:(i:Int) < (vs.length:Int):=by omega
      have HEI:Hid _:=HE.out vs[i]
      have HO:Hid (okN vs[i]=!(vs[i].2.1 == 0)):=rfl
      obtain ⟨b,hbb⟩:∃ b,(vs[i].2.1 == 0)=b:=⟨_,rfl⟩
      rw [hbb] at HEI HO
      generalize vs[i].1=P at *
      generalize vs[i].2.1=Cn at *
      generalize vs[i].2.2=Lg at *
      clear hb hall hbb
      go_wp2_with fail
      refine (show Calls _ _ _ _ _ from HEI.out _).mono ?_
      rintro e w1 ⟨rfl,hb1⟩
      have HB1:Hid (Below w.heap.size w w1):=bel_to HBR.out hb1 (Nat.le_refl _)
      clear hb1 x0 x1 x2
      cases b with
      | true =>
        go_wp2
        go_returns
        exact ⟨HB1.out,Or.inl ⟨i,hlt,rfl,HALL.out,fun _=>HO.out⟩⟩
      | false =>
        go_wp2
        go_roundw
        case rel =>
          refine ⟨i + 1,hlt,by congr 1,HB1.out,fun t ht hti=>?_⟩
          rcases Nat.lt_or_eq_of_le (Nat.le_of_lt_succ hti) with h1 | h1
          · exact HALL.out t ht h1
          · subst h1; exact HO.out
        case measure=>simp [intOf]; omega
    · have he:i=vs.length:=by omega
      subst he
      clear hb hall
      go_wp2
      go_returns
      exact ⟨HBR.out,Or.inr ⟨rfl,fun t ht=>HALL.out t ht ht⟩⟩
def DI (W:World) (X c:Nat) (vs:List Nd) (i j:Nat):Prop:=∃ cur,W.heap[X]?=some (.cells cur 55)∧cur.size=c * 3∧cur.toList.take (i * 3)=flatN ((vs.take j).filter okN)∧i=((vs.take j).filter okN).length∧∀ t (h:t < vs.length),j ≤ t → ∀ k v,(ndC vs[t])[k]?=some v → cur[t * 3 + k]?=some v
theorem grown_of {w w':World} {r:Option Nat} (h:Below w.heap.size w w'):w.grownBy w' r:=⟨h.os,h.tape,h.output,h.size,fun k hk _=>h.block k hk⟩
theorem DI.lt {W:World} {X c i j:Nat} {vs:List Nd} (h:DI W X c vs i j):X < W.heap.size:=by obtain ⟨cur,h1,_⟩:=h; exact row_lt h1
theorem DI.on {W W':World} {X c i j:Nat} {vs:List Nd} (h:DI W X c vs i j) (hb:Below W.heap.size W W'):DI W' X c vs i j:=by
  obtain ⟨cur,h1,h2⟩:=h; exact ⟨cur,keep_row h1 hb,h2⟩
theorem DI.frozen {W:World} {X c i j:Nat} {vs:List Nd} (h:DI W X c vs i j) (k:Nat):W.frozen? ⟨X,k,none⟩=false:=by
  obtain ⟨cur,h1,_⟩:=h; exact frozen_of_row _ _ _ _ _ h1
theorem DI.there {W:World} {X c i j:Nat} {vs:List Nd} (h:DI W X c vs i j) (k:Nat) (hk:k < c * 3):∃ u,W.cell? ⟨X,k,none⟩=some u:=by
  obtain ⟨cur,h1,h2,_⟩:=h; exact ⟨cur[k],by rw [cell_of_row _ _ _ _ _ _ h1,Array.getElem?_eq_getElem (by omega)]⟩
theorem DI.cells {W:World} {X c i j:Nat} {vs:List Nd} (h:DI W X c vs i j) (t:Nat) (ht:t < vs.length) (hj:j ≤ t):W.cell? ⟨X,t * 3,none⟩=some (.string vs[t].1)∧W.cell? ⟨X,t * 3 + 1,none⟩=some (.int .i64 (vs[t].2.1:Int))∧W.cell? ⟨X,t * 3 + 2,none⟩=some (.bool vs[t].2.2):=by
  obtain ⟨cur,h1,_,_,_,h5⟩:=h
  rw [cell_of_row _ _ _ _ _ _ h1,cell_of_row _ _ _ _ _ _ h1,cell_of_row _ _ _ _ _ _ h1]
  exact ⟨h5 t ht hj 0 _ rfl,h5 t ht hj 1 _ rfl,h5 t ht hj 2 _ rfl⟩
theorem take_snoc (vs:List Nd) (j:Nat) (h:j < vs.length):vs.take (j + 1)=vs.take j ++ [vs[j]]:=by rw [List.take_add_one,List.getElem?_eq_getElem h]; rfl
theorem DI.skip {W:World} {X c i j:Nat} {vs:List Nd} (h:DI W X c vs i j) (hj:j < vs.length) (ho:okN vs[j]=!true):DI W X c vs i (j + 1):=by
  obtain ⟨cur,h1,h2,h3,h4,h5⟩:=h
  have e:(vs.take (j + 1)).filter okN=(vs.take j).filter okN:=by
    rw [take_snoc vs j hj,List.filter_append,List.filter_cons_of_neg (by rw [ho]; simp),List.filter_nil,List.append_nil]
  exact ⟨cur,h1,h2,by rw [e]; exact h3,by rw [e]; exact h4,fun t ht hjt=>h5 t ht (by omega)⟩
theorem DI.put {W:World} {X c i j:Nat} {vs:List Nd} (h:DI W X c vs i j) (hj:j < vs.length) (hij:i < j) (ho:okN vs[j]=!false):DI (W.setCells X (i * 3) (ndC vs[j])) X c vs (i + 1) (j + 1):=by
  obtain ⟨cur,h1,h2,h3,h4,h5⟩:=h
  have hl3:(ndC vs[j]).length=3:=rfl
  have hjc:j * 3 + 2 < cur.size:=by
    have:=h5 j hj (Nat.le_refl _) 2 _ rfl
    exact (Array.getElem?_eq_some_iff.1 this).1
  have e:(vs.take (j + 1)).filter okN=(vs.take j).filter okN ++ [vs[j]]:=by
    rw [take_snoc vs j hj,List.filter_append,List.filter_cons_of_pos (by rw [ho]; rfl),List.filter_nil]
  refine ⟨_,heap_cells X _ (ndC vs[j]) (i * 3) W cur h1 (by rw [hl3]; omega),by rw [spl_size _ _ _ (by rw [hl3]; omega)]; exact h2,?_,by rw [e,List.length_append,← h4]; rfl,fun t ht hjt k v hv=>?_⟩
  · rw [e,flatN_app,show (i + 1) * 3=i * 3 + (ndC vs[j]).length by rw [hl3]; omega,spl_take2 _ _ _ (by omega),h3]
    show _=_ ++ (ndC vs[j] ++ [])
    rw [List.append_nil]
  · have:=h5 t ht (by omega) k v hv
    have hk:=(Array.getElem?_eq_some_iff.1 this).1
    rw [← Array.getElem?_toList]
    unfold spl
    rw [List.getElem?_append_right (by rw [List.length_take]; omega),List.getElem?_append_right (by rw [List.length_take,hl3]; simp; omega),List.getElem?_drop,← this,← Array.getElem?_toList]
    congr 1
    rw [List.length_take,hl3]; simp; omega
theorem DI.ini {W:World} {X c i:Nat} {vs:List Nd} (h:NX W X c vs) (hi:i < vs.length) (hlo:∀ t (h:t < vs.length),t < i → okN vs[t]=true) (hat:∀ h:i < vs.length,okN vs[i]=false):DI W X c vs i (i + 1):=by
  obtain ⟨cur,h1,h2,h3⟩:=h.row
  have e0:(vs.take i).filter okN=vs.take i:=List.filter_eq_self.2 (fun x hx=>by
    obtain ⟨t,ht,rfl⟩:=List.getElem_of_mem hx
    rw [List.length_take] at ht
    rw [List.getElem_take]; exact hlo t (by omega) (by omega))
  have e:(vs.take (i + 1)).filter okN=vs.take i:=by
    rw [take_snoc vs i hi,List.filter_append,List.filter_cons_of_neg (by rw [hat hi]; simp),List.filter_nil,List.append_nil,e0]
  refine ⟨cur,h1,h2,?_,by rw [e,List.length_take]; omega,fun t ht _ k v hv=>?_⟩
  · rw [e,flatN_take vs i (by omega),← h3,List.take_take]; congr 1; omega
  · have hk:k < 3:=(List.getElem?_eq_some_iff.1 hv).1
    have hf:=flatN_at vs t ht
    have:(flatN vs)[t * 3 + k]?=some v:=by
      match k,hk,hv with
      | 0,_,hv=>cases hv; exact hf.1
      | 1,_,hv=>cases hv; exact hf.2.1
      | 2,_,hv=>cases hv; exact hf.2.2
    rw [← Array.getElem?_toList,← List.getElem?_take_of_lt (show t * 3 + k < vs.length * 3 by omega),h3]; exact this
set_option maxHeartbeats 2000000 in
set_option maxRecDepth 100000 in
theorem deleteF_any (X c:Nat) (vs:List Nd) (hl:vs.length ≤ 1073741824) (w:World) (hB:NX w X c vs) :
    Calls Tryz.prog 55 #[.slice (some ⟨X,0,none⟩) vs.length c,isE] w fun e w'=>e=.returned (.slice (some ⟨X,0,none⟩) (vs.filter okN).length c)∧w.grownBy w' (some X)∧NX w' X c (vs.filter okN):=by
  have HB:Hid (NX w X c vs):=hB
  have HE:Hid _:=isEmpty_any
  have HI:Hid _:=indexF_any X c vs hl w hB
  have hle:=hB.le
  have hmx:=hB.max
  clear hB
  go_enter Tryz.func55,Tryz.ntmps55
  go_wp2_with fail
  refine (show Calls _ _ _ _ _ from HI.out).mono ?_
  rintro e w1 ⟨hb1,⟨i,hi,rfl,hlo,hat⟩ | ⟨rfl,hall⟩⟩
  · have HB1:Hid (Below w.heap.size w w1):=hb1
    have HLO:Hid _:=hlo
    have HAT:Hid _:=hat
    have hm1:¬ ((i:Int)=-1):=by omega
    clear hb1 hlo hat
    go_wp2
    have HINI:Hid (DI w1 X c vs i (i + 1)):=DI.ini (HB.out.on HB1.out) hi HLO.out HAT.out
    go_loopw [5,6,7] (fun ci cj _ wr=>∃ i j:Nat,i < j∧j ≤ vs.length∧ci=.int .i64 (i:Int)∧cj=.int .i64 (j:Int)∧DI wr X c vs i j∧w.grownBy wr (some X)) (fun _ cj _ _=>vs.length - (intOf cj).toNat)
    case atStart=>exact ⟨i,i + 1,by omega,by omega,rfl,by congr 1,HINI.out,grown_of HB1.out⟩
    case round =>
      clear HLO HAT HINI HB1 hm1 hi
      obtain ⟨i,j,hij,hj,rfl,rfl,hD,hG⟩:=hrel
      have HD:Hid (DI wr X c vs i j):=hD
      have HG:Hid (w.grownBy wr (some X)):=hG
      by_cases hlt:j < vs.length
      · obtain ⟨x0,x1,x2⟩:=hD.cells j hlt (Nat.le_refl _)
        have hXl:=hD.lt
        have hz0:(0:Int) ≤ (j:Int):=by omega
        have hz1:(j:Int) < (vs.length:Int):=by omega
        have HEI:Hid _:=HE.out vs[j]
        have HO:Hid (okN vs[j]=!(vs[j].2.1 == 0)):=rfl
        obtain ⟨b,hbb⟩:∃ b,(vs[j].2.1 == 0)=b:=⟨_,rfl⟩
        rw [hbb] at HEI HO
        have HN:Hid (∃ n:Nd,n=vs[j]):=⟨_,rfl⟩
        obtain ⟨n,hn⟩:=HN.out
        have HNE:Hid (n=vs[j]):=hn
        rw [← hn] at x0 x1 x2 HEI
        obtain ⟨P,Cn,Lg⟩:=n
        simp only at x0 x1 x2 HEI
        clear hD hG hbb hn HN
        go_wp2_with fail
        refine (show Calls _ _ _ _ _ from HEI.out _).mono ?_
        rintro e w2 ⟨rfl,hb2⟩
        have hv:w2.heap[wr.heap.size]?=some (.cells #[.string P,.int .i64 (Cn:Int),.bool Lg] 55):=keep_row (one_alloc wr _) hb2
        have HB2:Hid (Below wr.heap.size wr w2):=bel_to ((Below.refl _ wr).alloc (Nat.le_refl _) _) hb2 (Nat.le_refl _)
        obtain ⟨v0,v1,v2,vf⟩:=row3 hv
        clear hb2 x0 x1 x2
        cases b with
        | true =>
          have HR:Hid (DI w2 X c vs i (j + 1)):=(HD.out.on HB2.out).skip hlt HO.out
          have HG2:Hid (w.grownBy w2 (some X)):=grown_trans HG.out (grown_of HB2.out)
          go_wp2
          go_roundw
          case rel=>exact ⟨_,_,_,_,_,_,_,_,_,_,_,_,_,_,_,_,_,_,_,_,_,_,_,⟨i,j + 1,by omega,by omega,rfl,by congr 1,HR.out,HG2.out⟩,rfl⟩
          case measure=>simp [intOf]; omega
        | false =>
          have hD2:=HD.out.on HB2.out
          have hiX:i * 3 + 3 ≤ c * 3:=by omega
          obtain ⟨u0,q0⟩:=hD2.there (i * 3) (by omega)
          obtain ⟨u1,q1⟩:=hD2.there (i * 3 + 1) (by omega)
          obtain ⟨u2,q2⟩:=hD2.there (i * 3 + 2) (by omega)
          have hfz:∀ k,w2.frozen? ⟨X,k,none⟩=false:=hD2.frozen
          have HR:Hid (DI (w2.setCells X (i * 3) (ndC (P,Cn,Lg))) X c vs (i + 1) (j + 1)):=by
            have:=hD2.put hlt hij HO.out
            rw [← HNE.out] at this; exact this
          have HG2:Hid (w.grownBy (w2.setCells X (i * 3) (ndC (P,Cn,Lg))) (some X)):=grown_trans (grown_trans HG.out (grown_of HB2.out)) (grown_cells X _ _ _)
          have hzi:(0:Int) ≤ (i:Int):=by omega
          have hzn:(i:Int) < (vs.length:Int):=by omega
          clear hD2
          go_wp2
          go_roundw
          case rel=>exact ⟨_,_,_,_,_,_,_,_,_,_,_,_,_,_,_,_,_,_,_,_,_,_,_,⟨i + 1,j + 1,by omega,by omega,by congr 1,by congr 1,HR.out,HG2.out⟩,rfl⟩
          case measure=>simp [intOf]; omega
      · have he:j=vs.length:=by omega
        subst he
        obtain ⟨cur,r1,r2,r3,r4,r5⟩:=hD
        rw [List.take_length] at r3 r4
        obtain ⟨k,hk⟩:∃ k,vs.length - i=k:=⟨_,rfl⟩
        have hcl:∀ ty cc,Sem.run Tryz.prog (Builtin.clear_ #[67] ty #[.slice (some ⟨X,i * 3,none⟩) k cc]) wr=.ok (.tuple #[]) (wr.setCells X (i * 3) (zeroN k)):=fun ty cc=>run_clrN X (i * 3) k cc ty wr cur r1 (by omega)
        have hNX:NX wr X c (vs.filter okN):=⟨⟨cur,r1,r2,by rw [← r4]; exact r3⟩,by omega,hmx⟩
        have HR:Hid (NX (wr.setCells X (i * 3) (zeroN k)) X c (vs.filter okN)):=hNX.clr (by rw [← r4]; exact Nat.le_refl _) (by omega)
        have HG2:Hid (w.grownBy (wr.setCells X (i * 3) (zeroN k)) (some X)):=grown_trans HG.out (grown_cells X _ _ _)
        have HI4:Hid (i=(vs.filter okN).length):=r4
        have hci:¬ (c=i):=by omega
        have hic:(i:Int) ≤ (c:Int):=by omega
        have hin:(i:Int) ≤ (vs.length:Int):=by omega
        clear r1 r2 r3 r4 r5 hNX hG
        go_wp2
        go_returns
        exact ⟨by rw [← HI4.out]; rfl,HG2.out,HR.out⟩
  · have hf:vs.filter okN=vs:=List.filter_eq_self.2 (fun x hx=>by obtain ⟨t,ht,rfl⟩:=List.getElem_of_mem hx; exact hall t ht)
    have HF:Hid _:=hf
    have HG:Hid (w.grownBy w1 (some X)∧NX w1 X c vs):=⟨⟨hb1.os,hb1.tape,hb1.output,hb1.size,fun k hk _=>hb1.block k hk⟩,HB.out.on hb1⟩
    clear hb1 hall hf
    go_wp2
    go_returns
    rw [HF.out]
    exact ⟨rfl,HG.out⟩
end Go.Proofs.YtijambehfobopaaGreatDoor
