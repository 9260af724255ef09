import Derived.Test.YtbgbmfmgdgalbaaGreatDoorM02
import Derived.Deep.RegionHeld3
namespace Go.Proofs.YtbgbmfmgdgalbaaGreatDoor
open Go.RowKit
set_option linter.unusedVariables false
set_option linter.unusedSimpArgs false
theorem ylF {ops:Array Oper} {S:World → Prop} {op:Oper} {a:Act} (C:Array Value) (r:Nat) (x:Operand) (ho:op.op=.load 61 x) (hx:a.eval x=.pointer (some ⟨r,0,none⟩)) (hS:∀ w,S w → w.rangeAt r 0 C.toList) (h9:C.size=9) (hw:Region.wanted op (yielded ops a.tmps)=true:=by rfl):YieldsIf Tryz.prog ops S op (.agg C) a:=by
  have:=yieldsIf_load_mid (P:=Tryz.prog) (ops:=ops) (S:=S) (a:=a) hw 61 x ho r 0 hx C.toList _ hS Tryz.underlying61 rfl (by rw [Array.length_toList,h9]; exact i31)
  rw [Array.toArray_toList] at this
  exact this
theorem rdF {ops:Array Oper} {op:Oper} {a:Act} {w:World} {K:Act → World → Prop} {Q:Exit → Act → World → Prop} (g:Nat) (C Z:Array Value) (x y:Operand) (hw:Region.wanted op (yielded ops a.tmps)=true) (ho:op.op=.store 61 x y) (hx:a.eval x=.pointer (some ⟨g,0,none⟩)) (hy:a.eval y=.agg C) (h9:C.size=9) (h1:C.all (·.oneCell')=true) (hZ:Z.size=9) (hr:w.heap[g]?=some (.cells Z 61)) (h:∀ W,W.heap[g]?=some (.cells C 61) → Mod g w W → K (a.put op.dst undef) W) :
    if Region.wanted op (yielded ops a.tmps)=true then Oper.wp Tryz.prog op a w K Q else K (a.put op.dst undef) w:=by
  rw [if_pos hw]
  refine wp_store_mid 61 x y ho g 0 C hx hy ?_ (by rw [h9]; exact i31) h1 ?_
  · intro j hj
    rw [h9] at hj
    refine ⟨?_,frozen_of_row _ _ _ _ _ hr⟩
    rw [cell_of_row _ _ _ _ _ _ hr]
    simp; omega
  have h3:=setCells_pre g 61 C.toList [] Z.toList w (by simp [h9,hZ]) (by simpa using hr)
  rw [List.length_nil] at h3
  simp only [List.nil_append,Array.toArray_toList] at h3
  exact h _ h3.1 (Mod.only h3.2)
theorem failM_hit {l:List (Int × Int)} {n m:Nat} (hm:m < l.length) (he:l[m].1=(n:Int)) (hn:∀ j (h:j < l.length),m < j → l[j].1 ≠ (n:Int)):failM l n=some l[m].2:=by
  have h2:l.reverse.find? (fun x=>x.1 == (n:Int))=some l[m]:=by
    rw [List.find?_eq_some_iff_getElem]
    refine ⟨by simp [he],l.length - 1 - m,by simp; omega,?_,fun j hj=>?_⟩
    · rw [List.getElem_reverse]
      congr 1
      omega
    · rw [List.getElem_reverse]
      simpa using hn _ _ (by omega)
  unfold failM
  rw [h2]
  rfl
theorem failM_miss {l:List (Int × Int)} {n:Nat} (hn:∀ j (h:j < l.length),l[j].1 ≠ (n:Int)):failM l n=none:=by
  have:l.reverse.find? (fun x=>x.1 == (n:Int))=none:=by
    rw [List.find?_eq_none]
    intro x hx
    rw [List.mem_reverse] at hx
    obtain ⟨j,hj,rfl⟩:=List.getElem_of_mem hx
    simpa using hn j hj
  unfold failM
  rw [this]
  rfl
theorem FsAt.same {s s':Fs} {V:FV} {w:World} (h:FsAt s V w) (h1:s'.files=s.files) (h2:s'.dir=s.dir) (h3:s'.sure=s.sure) (h4:s'.chg=s.chg) (h5:s'.fails=s.fails) (h6:s'.picks=s.picks):FsAt s' V w:=⟨by rw [h1]; exact h.qf,by rw [h2]; exact h.qd,by rw [h3]; exact h.qs,by rw [h4]; exact h.qc,by rw [h5]; exact h.qp,by rw [h6]; exact h.qk⟩
theorem Av.same {S:Nat → Prop} {s s':Fs} {V:FV} (h:Av S s V) (h1:s'.files=s.files) (h2:s'.dir=s.dir) (h3:s'.sure=s.sure) (h4:s'.chg=s.chg) (h5:s'.fails=s.fails) (h6:s'.picks=s.picks):Av S s' V:=⟨by rw [h1]; exact h.af,by rw [h2]; exact h.ad,by rw [h3]; exact h.as_,by rw [h4]; exact h.ac,by rw [h5]; exact h.ap,by rw [h6]; exact h.ak⟩
set_option maxHeartbeats 4000000 in
set_option maxRecDepth 20000 in
theorem r_step_any (s:Fs) (V:FV) (hst:s.steps ≤ 4611686018427387904) (hfl:s.files.length ≤ 3298534883328) (hcl:s.chg.length ≤ 3298534883328) (hpl:s.fails.length ≤ 4611686018427387904) (hdl:∀ i,(dirAt s i).length ≤ 1099511627770) (hfz:∀ x ∈ s.files,x.d.size ≤ 1073741824∧x.s ≤ x.d.size) (w:World) (h:FsAt s V w) :
    Calls Tryz.prog 100 #[.agg (fsC s V)] w fun e w'=>∃ V',e=.returned (.tuple #[.agg (fsC (stepM s).1 V'),.int .i64 (stepM s).2.1,.int .i64 (stepM s).2.2])∧Made s V w (stepM s).1 V' w':=by
  obtain ⟨Z,hZ⟩:∃ Z,Z=zF:=⟨_,rfl⟩
  have HZZ:Hid (Z=zF):=hZ
  have HZS:Hid (Z.size=9):=by show _=_; rw [hZ]; rfl
  clear hZ
  obtain ⟨W1,hW1⟩:∃ W1,W1=(w.alloc (.cells (fsC s V) 61)).alloc (.cells Z 61):=⟨_,rfl⟩
  obtain ⟨r,hr⟩:∃ r,w.heap.size=r:=⟨_,rfl⟩
  have HRR:Hid (w.heap.size=r):=hr
  have H2:=two_rows (w:=w) (.cells (fsC s V) 61) (.cells Z 61)
  rw [← hW1,hr] at H2
  obtain ⟨hB1,hR1,hR2⟩:=H2
  have HW1:Hid (W1.heap.size=r + 2):=by show _=_; rw [hW1,← hr]; simp [World.size_alloc]
  have hBw:Below w.heap.size w W1:=by rw [hr]; exact hB1
  obtain ⟨n,hn⟩:∃ n,s.steps + 1=n:=⟨_,rfl⟩
  obtain ⟨s1,hs1⟩:∃ s1:Fs,s1={ s with steps:=s.steps + 1 }:=⟨_,rfl⟩
  have hst1:s1.steps=n:=by rw [hs1]; exact hn
  obtain ⟨W2,hW2⟩:∃ W2,W2=W1.setCell ⟨r,1,none⟩ (.int .i64 (n:Int)):=⟨_,rfl⟩
  have hm2:Mod r W1 W2:=by rw [hW2]; exact setMod _ _
  have hRow2:W2.heap[r]?=some (.cells (fsC s1 V) 61):=by rw [hW2,hs1,← hn]; exact setRow hR1 _ _
  have hav:Av (fun k=>r ≤ k) s V:=by rw [← hr]; exact h.av
  have HF2:Hid (FsAt s1 V W2):=by
    have h1:FsAt s V W2:=(h.on hBw).mod hm2 (hav.weak fun k e=>by have:k=r:=e; show _ ≤ _; omega)
    exact h1.same (by rw [hs1]) (by rw [hs1]) (by rw [hs1]) (by rw [hs1]) (by rw [hs1]) (by rw [hs1])
  have HAV1:Hid (Av (fun k=>r ≤ k) s1 V):=hav.same (by rw [hs1]) (by rw [hs1]) (by rw [hs1]) (by rw [hs1]) (by rw [hs1]) (by rw [hs1])
  have HAVS:Hid (∀ S:Nat → Prop,Av S s V → Av S s1 V):=fun S ha=>ha.same (by rw [hs1]) (by rw [hs1]) (by rw [hs1]) (by rw [hs1]) (by rw [hs1]) (by rw [hs1])
  have HB2:Hid (Below r w W2):=hB1.trans (hm2.below (Nat.le_refl _) (by rw [HW1.out]; omega))
  have HR2':Hid (W2.heap[r]?=some (.cells (fsC s1 V) 61)):=hRow2
  have HZ2:Hid (W2.heap[r + 1]?=some (.cells Z 61)):=hm2.row hR2 (by omega)
  have HS2:Hid (r + 2 ≤ W2.heap.size):=by have:=hm2.size; rw [HW1.out] at this; exact this
  have HDW:Hid (∀ W,FsAt s1 V W → Calls Tryz.prog 97 #[.agg (fsC s1 V),V.k] W fun e w'=>∃ V',e=.returned (.agg (fsC (downM s1 s1.picks) V'))∧Made s1 V W (downM s1 s1.picks) V' w'):=fun W hF=>down_any s1 V V.k s1.picks (by rw [hs1]; exact hfl) (by rw [hs1]; exact hcl) (fun i=>by have:=hdl i; rw [hs1]; exact this) (by rw [hs1]; exact hfz) W hF hF.qk
  have HSM:Hid (stepM s=if s1.crash=(n:Int) then ((downM s1 s1.picks,203,0):Fs × Int × Int) else match failM s1.fails n with | some p=>(s1,200,p) | none=>(s1,0,0)):=by
    have h0:stepM s=if s1.crash=(s1.steps:Int) then ((downM s1 s1.picks,203,0):Fs × Int × Int) else match failM s1.fails s1.steps with | some p=>(s1,200,p) | none=>(s1,0,0):=by rw [hs1]; rfl
    rw [hst1] at h0
    exact h0
  have HPL:Hid (s1.fails.length ≤ 4611686018427387904):=by rw [hs1]; exact hpl
  obtain ⟨x0,x1,x2,x3,x4,x5,x6,x7,x8,xf⟩:=row9 (v0:=.bool s.down) (v1:=.int .i64 (s.steps:Int)) (v2:=V.f) (v3:=V.d) (v4:=V.s) (v5:=V.c) (v6:=V.p) (v7:=.int .i64 s.crash) (v8:=V.k) hR1
  have hw1:IntKind.i64.wrap ((s.steps:Int) + 1)=(n:Int):=by rw [IntKind.wrap_i64] <;> omega
  rw [show fsC s V=#[.bool s.down,.int .i64 (s.steps:Int),V.f,V.d,V.s,V.c,V.p,.int .i64 s.crash,V.k] from rfl] at hW1
  unfold fsC
  have HST1:Hid (s1.steps=n):=hst1
  clear h hB1 hR1 hR2 hr hst hfl hcl hpl hdl hfz hn hs1 hm2 hRow2 hav hBw hst1
  go_enter Tryz.func100,Tryz.ntmps100
  go_upto_region 1 with (refine alF rfl rfl Z HZZ.out ?_)
  rw [← hW1,HRR.out]
  clear hW1
  go_upto_region 2 with fail
  rw [← hW2]
  clear hW2 x0 x1 x2 x3 x4 x5 x6 x7 x8 xf hw1
  obtain ⟨x0,x1,x2,x3,x4,x5,x6,x7,x8,xf⟩:=row9 (v0:=.bool s1.down) (v1:=.int .i64 (s1.steps:Int)) (v2:=V.f) (v3:=V.d) (v4:=V.s) (v5:=V.c) (v6:=V.p) (v7:=.int .i64 s1.crash) (v8:=V.k) HR2'.out
  rw [HST1.out] at x1
  by_cases hcr:s1.crash=(n:Int)
  · rw [hcr] at x7
    have HS:Hid (stepM s=(downM s1 s1.picks,203,0)):=by show _=_; rw [HSM.out,if_pos hcr]
    clear hcr
    go_wp2_with (refine ldF (fsC s1 V) r _ rfl rfl rfl HR2'.out rfl ?_)
    refine (show Calls _ _ _ _ _ from HDW.out W2 HF2.out).mono ?_
    rintro e w3 ⟨V',rfl,hM⟩
    clear x0 x1 x2 x3 x4 x5 x6 x7 x8 xf
    have HM:Hid (Made s1 V W2 (downM s1 s1.picks) V' w3):=hM
    have HZ3:Hid (w3.heap[r + 1]?=some (.cells Z 61)):=keep_row HZ2.out hM.bel
    have H1:Hid ((fsC (downM s1 s1.picks) V').all (·.oneCell')=true):=fsC_one hM.at_
    clear hM
    obtain ⟨C,hC⟩:∃ C,C=fsC (downM s1 s1.picks) V':=⟨_,rfl⟩
    have hC9:C.size=9:=by rw [hC]; rfl
    rw [← hC] at H1 ⊢
    have HCC:Hid (C=fsC (downM s1 s1.picks) V'):=hC
    clear hC
    go_wp2_with (refine stF rfl _ _ rfl (r + 1) C Z rfl rfl hC9 H1.out HZS.out HZ3.out ?_; intro W7 hr7 hm7)
    have hlv:=run_loadVar_mid (P:=Tryz.prog) W7 (r + 1) 0 61 C.toList _ (fun j v hv=>by rw [cell_of_row _ _ _ _ _ _ hr7]; simpa using hv) Tryz.underlying61 rfl (by rw [Array.length_toList,hC9]; exact i31)
    rw [Array.toArray_toList] at hlv
    have hb7:Below r w3 W7:=hm7.below (by omega) (by have:=HS2.out; have:=HM.out.bel.size; omega)
    have hB7:Below w.heap.size w W7:=by rw [HRR.out]; exact (HB2.out.trans (HM.out.bel.mono (by have:=HS2.out; omega))).trans hb7
    refine bodyPost_ret (v:=.tuple #[.agg C,.int .i64 203,.int .i64 0]) (by simp [results,Tryz.results100,asAddr,Act.put,hlv,Result.andThen]) rfl ?_
    rw [HS.out,HCC.out]
    refine ⟨V',rfl,⟨HM.out.at_.mod hm7 (HM.out.av (fun k=>k=r + 1) (fun k e=>by have:k=r + 1:=e; have:=HS2.out; omega) (HAV1.out.weak fun k e=>by have:k=r + 1:=e; show _ ≤ _; omega)),hB7,fun S hS ha=>HM.out.av S (fun k e=>by have:=hS k e; have:=HRR.out; have:=HS2.out; omega) (HAVS.out S ha)⟩⟩
  · have hcb:(s1.crash == (n:Int))=false:=by rw [beq_eq_false_iff_ne]; exact hcr
    have HS:Hid (stepM s=match failM s1.fails n with | some p=>(s1,200,p) | none=>(s1,0,0)):=by show _=_; rw [HSM.out,if_neg hcr]
    obtain ⟨Pp,kp,hVp⟩:=HF2.out.qp.form
    have HVP:Hid (V.p=.slice Pp s1.fails.length kp):=hVp
    rw [hVp] at x6
    have hwl:IntKind.i64.wrap ((s1.fails.length:Int) - 1)=(s1.fails.length:Int) - 1:=by have:=HPL.out; rw [IntKind.wrap_i64] <;> omega
    obtain ⟨cr,hcre⟩:∃ cr,s1.crash=cr:=⟨_,rfl⟩
    rw [hcre] at x7 hcb
    clear hcr hVp hcre
    go_wp2
    have HWQ:Hid (∀ k,(W2.drewN k).heap=W2.heap):=fun k=>by simp
    go_loopw [5] (fun ci wr=>∃ m:Nat,m ≤ s1.fails.length∧ci=.int .i64 ((m:Int) - 1)∧(∃ k,wr=W2.drewN k)∧∀ j (h:j < s1.fails.length),m ≤ j → s1.fails[j].1 ≠ (n:Int)) (fun ci _=>((intOf ci) + 1).toNat)
    case atStart=>exact ⟨s1.fails.length,Nat.le_refl _,rfl,⟨0,rfl⟩,fun j h hm=>absurd h (by omega)⟩
    case round =>
      obtain ⟨m,hm,rfl,⟨kk,hwr⟩,hall⟩:=hrel
      have hbq:Below W2.heap.size W2 wr:=by rw [hwr]; exact below_dn (Below.refl _ _) kk
      have HROW:Hid (wr.heap[r]?=some (.cells (fsC s1 V) 61)):=keep_row HR2'.out hbq
      have HZW:Hid (wr.heap[r + 1]?=some (.cells Z 61)):=keep_row HZ2.out hbq
      have HFW:Hid (FsAt s1 V wr):=HF2.out.on hbq
      have HBW:Hid (Below W2.heap.size W2 wr):=hbq
      have HWR:Hid (wr=W2.drewN kk):=hwr
      clear hwr hbq x0 x1 x2 x3 x4 x5 x6 x7 x8 xf
      obtain ⟨x0,x1,x2,x3,x4,x5,x6,x7,x8,xf⟩:=row9 (v0:=.bool s1.down) (v1:=.int .i64 (s1.steps:Int)) (v2:=V.f) (v3:=V.d) (v4:=V.s) (v5:=V.c) (v6:=V.p) (v7:=.int .i64 s1.crash) (v8:=V.k) HROW.out
      rw [HST1.out] at x1
      rw [HVP.out] at x6
      cases m with
      | zero =>
        have HS0:Hid (stepM s=(s1,0,0)):=by show _=_; rw [HS.out,failM_miss (fun j h=>hall j h (Nat.zero_le _))]
        clear hall hm x0 x1 x2 x3 x4 x5 x6 x7 x8 xf
        obtain ⟨C,hC⟩:∃ C,C=fsC s1 V:=⟨_,rfl⟩
        have hC9:C.size=9:=by rw [hC]; rfl
        have H1:Hid (C.all (·.oneCell')=true):=by show _=_; rw [hC]; exact fsC_one HFW.out
        rw [← hC] at HROW
        have HCC:Hid (C=fsC s1 V):=hC
        clear hC
        go_wp2_with (first | refine ldF C r _ rfl rfl rfl HROW.out hC9 ?_ | (refine stF rfl _ _ rfl (r + 1) C Z rfl rfl hC9 H1.out HZS.out HZW.out ?_; intro W7 hr7 hm7))
        have hlv:=run_loadVar_mid (P:=Tryz.prog) W7 (r + 1) 0 61 C.toList _ (fun j v hv=>by rw [cell_of_row _ _ _ _ _ _ hr7]; simpa using hv) Tryz.underlying61 rfl (by rw [Array.length_toList,hC9]; exact i31)
        rw [Array.toArray_toList] at hlv
        have hb7:Below r wr W7:=hm7.below (by omega) (by have:=HS2.out; have:=HBW.out.size; omega)
        have hB7:Below w.heap.size w W7:=by rw [HRR.out]; exact (HB2.out.trans (HBW.out.mono (by have:=HS2.out; omega))).trans hb7
        refine bodyPost_ret (v:=.tuple #[.agg C,.int .i64 0,.int .i64 0]) (by simp [results,Tryz.results100,asAddr,Act.put,hlv,Result.andThen]) rfl ?_
        rw [HS0.out,HCC.out]
        exact ⟨V,rfl,⟨HFW.out.mod hm7 (HAV1.out.weak fun k e=>by have:k=r + 1:=e; show _ ≤ _; omega),hB7,fun S hS ha=>HAVS.out S ha⟩⟩
      | succ m =>
        have hlt:m < s1.fails.length:=by omega
        have hk:=HFW.out.qp
        rw [HVP.out] at hk
        obtain ⟨g,o,c',he,hc⟩:=hk.cell plOk hlt
        injection he with he1 _ he2
        subst he1
        obtain ⟨A0,hA0⟩:∃ A0,s1.fails[m].1=A0:=⟨_,rfl⟩
        obtain ⟨B0,hB0⟩:∃ B0,s1.fails[m].2=B0:=⟨_,rfl⟩
        have c0:wr.cell? ⟨g,o + m * 2,none⟩=some (.int .i64 A0):=by rw [← hA0]; exact hc 0 _ rfl
        have c1:wr.cell? ⟨g,o + m * 2 + 1,none⟩=some (.int .i64 B0):=by rw [← hB0]; exact hc 1 _ rfl
        have hci:(((m + 1:Nat):Int) - 1)=(m:Int):=by omega
        rw [hci]
        have hz0:(0:Int) ≤ (m:Int):=by omega
        have hz1:(m:Int) < (s1.fails.length:Int):=by omega
        have hiw:IntKind.i64.wrap ((m:Int) - 1)=(m:Int) - 1:=by have:=HPL.out; rw [IntKind.wrap_i64] <;> omega
        have HI:Hid (m < s1.fails.length):=hlt
        by_cases hA:A0=(n:Int)
        · have HS0:Hid (stepM s=(s1,200,B0)):=by
            show _=_
            rw [HS.out,failM_hit hlt (by rw [hA0,hA]) (fun j h hj=>hall j h (by omega)),hB0]
          have hAb:(A0 == (n:Int))=true:=by rw [beq_iff_eq]; exact hA
          have HGN:Hid (g ≠ r + 1):=fun e=>by
            have hne:s1.fails ≠ []:=fun h0=>by rw [h0] at hlt; simp at hlt
            exact HAV1.out.ap hne g o _ _ (by rw [HVP.out]) (by show _ ≤ _; omega)
          clear hall hk hc he2 hA0 hB0 hA hci hm hlt
          go_wp2
          go_quiet (fail)
          go_wp2_with fail
          have hbn:Below wr.heap.size wr (wr.drewN nq):=below_dn (Below.refl _ _) nq
          have HRQ:Hid ((wr.drewN nq).heap[r]?=some (.cells (fsC s1 V) 61)):=keep_row HROW.out hbn
          have HZQ:Hid ((wr.drewN nq).heap[r + 1]?=some (.cells Z 61)):=keep_row HZW.out hbn
          have HFQ:Hid (FsAt s1 V (wr.drewN nq)):=HFW.out.on hbn
          have HBQ:Hid (Below W2.heap.size W2 (wr.drewN nq)):=HBW.out.trans (hbn.mono HBW.out.size)
          have d6:=cell_on x6 hbn
          have d1:=cell_on c1 hbn
          have HD6:Hid ((wr.drewN nq).cell? ⟨r,6,none⟩=some (.slice (some ⟨g,o,none⟩) s1.fails.length kp)∧(wr.drewN nq).cell? ⟨g,o + m * 2 + 1,none⟩=some (.int .i64 B0)):=⟨d6,d1⟩
          clear hbn d6 d1 x0 x1 x2 x3 x4 x5 x6 x7 x8 xf c0 c1
          generalize wr.drewN nq=WQ at *
          obtain ⟨C,hC⟩:∃ C,C=fsC s1 V:=⟨_,rfl⟩
          have hC9:C.size=9:=by rw [hC]; rfl
          have H1:Hid (C.all (·.oneCell')=true):=by show _=_; rw [hC]; exact fsC_one HFQ.out
          rw [← hC] at HRQ
          have HCC:Hid (C=fsC s1 V):=hC
          clear hC
          have hcur:Below WQ.heap.size WQ WQ.drew:=(Below.refl _ WQ).drew
          have HRD:Hid (∀ W,Below WQ.heap.size WQ W → W.heap[r]?=some (.cells C 61)):=fun W hW=>keep_row HRQ.out hW
          have HXD:Hid (∀ W,Below WQ.heap.size WQ W → W.cell? ⟨r,6,none⟩=some (.slice (some ⟨g,o,none⟩) s1.fails.length kp)∧W.cell? ⟨g,o + m * 2 + 1,none⟩=some (.int .i64 B0)):=fun W hW=>⟨cell_on HD6.out.1 hW,cell_on HD6.out.2 hW⟩
          have HZD:Hid (WQ.drew.heap[r + 1]?=some (.cells Z 61)):=keep_row HZQ.out hcur
          have hz2:(m:Int) < (s1.fails.length:Int):=hz1
          refine wp_region_held_drew (S:=fun W:World=>W.rangeAt r 0 C.toList∧W.cell? ⟨r,6,none⟩=some (.slice (some ⟨g,o,none⟩) s1.fails.length kp)∧W.cell? ⟨g,o + m * 2 + 1,none⟩=some (.int .i64 B0)) (by kernel_rfl) (⟨fun j v hv=>by rw [cellC (HRD.out _ hcur)]; simpa using hv,HXD.out _ hcur⟩) (fun hHeld=>?_)
          refine wpAnyH_take (i:=1) (oi:={ dst:=some 37,op:=Op.fieldAddr 61 (Operand.tmp 1) 6,type:=0,pos:= "ref.go:156",after:=#[{ on:=8,ground:=Ground.gcOnly Departure.lateStores }],guard:=none }) (v:=.pointer (some ⟨r,6,none⟩)) rfl (by kernel_rfl) (by kernel_rfl) (by kernel_rfl) (fun _ _ _ h=>h) (Or.inl ⟨by rfl,?y1⟩) (by assumption) ?_
          case y1=>(intro w hSw; (try dsimp only at hSw); first | (go_simp; done) | (go_simp; with_reducible rfl) | (go_simp; rfl))
          try simp only [Act.put,List.setIfInBounds_toArray,List.set_cons_zero,List.set_cons_succ]
          refine wpAnyH_take (i:=2) (oi:={ dst:=some 38,op:=Op.load 59 (Operand.tmp 37),type:=59,pos:= "ref.go:156",after:=#[{ on:=1,ground:=Ground.data },{ on:=8,ground:=Ground.gcOnly Departure.lateStores }],guard:=none }) (v:=.slice (some ⟨g,o,none⟩) s1.fails.length kp) rfl (by kernel_rfl) (by kernel_rfl) (by kernel_rfl) (fun _ _ _ h=>h) (Or.inl ⟨by rfl,?y2⟩) (by assumption) ?_
          case y2=>(intro w hSw; (try dsimp only at hSw); first | (go_simp; done) | (go_simp; with_reducible rfl) | (go_simp; rfl))
          try simp only [Act.put,List.setIfInBounds_toArray,List.set_cons_zero,List.set_cons_succ]
          refine wpAnyH_take (i:=3) (oi:={ dst:=some 39,op:=Op.move (Operand.tmp 5),type:=3,pos:= "ref.go:156",after:=#[{ on:=8,ground:=Ground.gcOnly Departure.lateStores }],guard:=none }) (v:=.int .i64 (m:Int)) rfl (by kernel_rfl) (by kernel_rfl) (by kernel_rfl) (fun _ _ _ h=>h) (Or.inl ⟨by rfl,?y3⟩) (by assumption) ?_
          case y3=>(intro w hSw; (try dsimp only at hSw); first | (go_simp; done) | (go_simp; with_reducible rfl) | (go_simp; rfl))
          try simp only [Act.put,List.setIfInBounds_toArray,List.set_cons_zero,List.set_cons_succ]
          refine wpAnyH_take (i:=4) (oi:={ dst:=some 40,op:=Op.indexAddr 59 (Operand.tmp 38) (Operand.tmp 39),type:=0,pos:= "ref.go:156",after:=#[{ on:=2,ground:=Ground.data },{ on:=3,ground:=Ground.data },{ on:=8,ground:=Ground.gcOnly Departure.lateStores }],guard:=none }) (v:=.pointer (some ⟨g,o + m * 2,none⟩)) rfl (by kernel_rfl) (by kernel_rfl) (by kernel_rfl) (fun _ _ _ h=>h) (Or.inl ⟨by rfl,?y4⟩) (by assumption) ?_
          case y4=>(intro w hSw; (try dsimp only at hSw); first | (go_simp; done) | (go_simp; with_reducible rfl) | (go_simp; rfl))
          try simp only [Act.put,List.setIfInBounds_toArray,List.set_cons_zero,List.set_cons_succ]
          refine wpAnyH_take (i:=5) (oi:={ dst:=some 41,op:=Op.fieldAddr 151 (Operand.tmp 40) 1,type:=0,pos:= "ref.go:156",after:=#[{ on:=4,ground:=Ground.data },{ on:=8,ground:=Ground.gcOnly Departure.lateStores }],guard:=none }) (v:=.pointer (some ⟨g,o + m * 2 + 1,none⟩)) rfl (by kernel_rfl) (by kernel_rfl) (by kernel_rfl) (fun _ _ _ h=>h) (Or.inl ⟨by rfl,?y5⟩) (by assumption) ?_
          case y5=>(intro w hSw; (try dsimp only at hSw); first | (go_simp; done) | (go_simp; with_reducible rfl) | (go_simp; rfl))
          try simp only [Act.put,List.setIfInBounds_toArray,List.set_cons_zero,List.set_cons_succ]
          refine wpAnyH_take (i:=6) (oi:={ dst:=some 42,op:=Op.load 3 (Operand.tmp 41),type:=3,pos:= "ref.go:156",after:=#[{ on:=5,ground:=Ground.data },{ on:=8,ground:=Ground.gcOnly Departure.lateStores }],guard:=none }) (v:=.int .i64 B0) rfl (by kernel_rfl) (by kernel_rfl) (by kernel_rfl) (fun _ _ _ h=>h) (Or.inl ⟨by rfl,?y6⟩) (by assumption) ?_
          case y6=>(intro w hSw; (try dsimp only at hSw); first | (go_simp; done) | (go_simp; with_reducible rfl) | (go_simp; rfl))
          try simp only [Act.put,List.setIfInBounds_toArray,List.set_cons_zero,List.set_cons_succ]
          refine wpAnyH_take (i:=0) (oi:={ dst:=some 36,op:=Op.load 61 (Operand.tmp 1),type:=61,pos:= "ref.go:156",after:=#[],guard:=none }) (v:=.agg C) rfl (by kernel_rfl) (by kernel_rfl) (by kernel_rfl) (fun _ _ _ h=>h) (ylF C r _ rfl rfl (fun _ h=>h.1) hC9) (by assumption) ?_
          try simp only [Act.put,List.setIfInBounds_toArray,List.set_cons_zero,List.set_cons_succ]
          refine wpAnyH_ready (rs:=[7]) (by kernel_rfl) (by simp) ?_
          refine AllReadyH.cons (o:={ dst:=none,op:=Op.store 61 (Operand.tmp 2) (Operand.tmp 36),type:=0,pos:= "ref.go:156",after:=#[{ on:=0,ground:=Ground.data },{ on:=0,ground:=Ground.phase },{ on:=1,ground:=Ground.textOnly Departure.lateStores },{ on:=2,ground:=Ground.textOnly Departure.lateStores },{ on:=3,ground:=Ground.textOnly Departure.lateStores },{ on:=4,ground:=Ground.textOnly Departure.lateStores },{ on:=5,ground:=Ground.textOnly Departure.lateStores },{ on:=6,ground:=Ground.textOnly Departure.lateStores }],guard:=none }) rfl (fun K hK=>?_) AllReadyH.nil
          refine rdF (r + 1) C Z _ _ (by rfl) rfl rfl rfl hC9 H1.out HZS.out HZD.out ?_; intro W6 hr6 hm6
          refine hK.out _ _ (⟨fun j v hv=>by rw [cellC (hm6.row (HRD.out _ hcur) (by omega))]; simpa using hv,by rw [cell_same (hm6.oth r (row_lt (HRD.out _ hcur)) (by omega))]; exact (HXD.out _ hcur).1,by rw [cell_same (hm6.oth g (lt_of_cell (HXD.out _ hcur).2) HGN.out)]; exact (HXD.out _ hcur).2⟩) (fun hHeld=>?_)
          clear hK K
          try simp only [Act.put,List.setIfInBounds_toArray,List.set_cons_zero,List.set_cons_succ]
          refine wpAnyH_take (i:=8) (oi:={ dst:=some 3,op:=Op.assign (Operand.const (Value.int IntKind.i64 200)),type:=3,pos:= "ref.go:156",after:=#[{ on:=7,ground:=Ground.chain },{ on:=0,ground:=Ground.phase },{ on:=1,ground:=Ground.textOnly Departure.lateStores },{ on:=2,ground:=Ground.textOnly Departure.lateStores },{ on:=3,ground:=Ground.textOnly Departure.lateStores },{ on:=4,ground:=Ground.textOnly Departure.lateStores },{ on:=5,ground:=Ground.textOnly Departure.lateStores },{ on:=6,ground:=Ground.textOnly Departure.lateStores },{ on:=7,ground:=Ground.phase }],guard:=none }) (v:=.int .i64 200) rfl (by kernel_rfl) (by kernel_rfl) (by kernel_rfl) (fun _ _ _ h=>h) (Or.inl ⟨by rfl,?y8⟩) (by assumption) ?_
          case y8=>(intro w hSw; (try dsimp only at hSw); first | (go_simp; done) | (go_simp; with_reducible rfl) | (go_simp; rfl))
          try simp only [Act.put,List.setIfInBounds_toArray,List.set_cons_zero,List.set_cons_succ]
          refine wpAnyH_take (i:=9) (oi:={ dst:=some 4,op:=Op.assign (Operand.tmp 42),type:=3,pos:= "ref.go:156",after:=#[{ on:=6,ground:=Ground.data },{ on:=8,ground:=Ground.chain },{ on:=0,ground:=Ground.phase },{ on:=1,ground:=Ground.phase },{ on:=2,ground:=Ground.phase },{ on:=3,ground:=Ground.phase },{ on:=4,ground:=Ground.phase },{ on:=5,ground:=Ground.phase },{ on:=6,ground:=Ground.phase },{ on:=7,ground:=Ground.phase },{ on:=8,ground:=Ground.phase }],guard:=none }) (v:=.int .i64 B0) rfl (by kernel_rfl) (by kernel_rfl) (by kernel_rfl) (fun _ _ _ h=>h) (Or.inl ⟨by rfl,?y9⟩) (by assumption) ?_
          case y9=>(intro w hSw; (try dsimp only at hSw); first | (go_simp; done) | (go_simp; with_reducible rfl) | (go_simp; rfl))
          try simp only [Act.put,List.setIfInBounds_toArray,List.set_cons_zero,List.set_cons_succ]
          refine wpAnyH_done (by kernel_rfl) ?_ _
          have hlv:=run_loadVar_mid (P:=Tryz.prog) W6 (r + 1) 0 61 C.toList _ (fun j v hv=>by rw [cell_of_row _ _ _ _ _ _ hr6]; simpa using hv) Tryz.underlying61 rfl (by rw [Array.length_toList,hC9]; exact i31)
          rw [Array.toArray_toList] at hlv
          have hb7:Below r WQ.drew W6:=hm6.below (by omega) (by have:=HS2.out; have:=HBQ.out.size; have:=hcur.size; omega)
          have hB7:Below w.heap.size w W6:=by rw [HRR.out]; exact ((HB2.out.trans (HBQ.out.mono (by have:=HS2.out; omega))).trans (hcur.mono (by have:=HS2.out; have:=HBQ.out.size; omega))).trans hb7
          go_wp2
          refine bodyPost_ret (v:=.tuple #[.agg C,.int .i64 200,.int .i64 B0]) (by simp [results,Tryz.results100,asAddr,Act.put,hlv,Result.andThen]) rfl ?_
          rw [HS0.out,HCC.out]
          exact ⟨V,rfl,⟨(HFQ.out.on hcur).mod hm6 (HAV1.out.weak fun k e=>by have:k=r + 1:=e; show _ ≤ _; omega),hB7,fun S hS ha=>HAVS.out S ha⟩⟩
        · have HAL:Hid (∀ j (h:j < s1.fails.length),m ≤ j → s1.fails[j].1 ≠ (n:Int)):=fun j h hj=>by
            rcases Nat.lt_or_eq_of_le hj with h1 | h1
            · exact hall j h (by omega)
            · subst h1; rw [hA0]; exact hA
          have hAb:(A0 == (n:Int))=false:=by rw [beq_eq_false_iff_ne]; exact hA
          clear hall hk hc he2 hA0 hB0 hA hci hm hlt c1
          go_wp2
          go_quiet (fail)
          go_wp2
          go_roundw
          case rel=>exact ⟨m,Nat.le_of_lt HI.out,rfl,⟨kk + nq,by rw [HWR.out,World.drewN_drewN]⟩,HAL.out⟩
          case measure=>simp [intOf]
end Go.Proofs.YtbgbmfmgdgalbaaGreatDoor
namespace Go.Proofs.YtbgbmfmgdgalbaaGreatDoor
open Go.RowKit
set_option linter.unusedVariables false
set_option linter.unusedSimpArgs false
structure Bd (s:Fs):Prop where
  st:s.steps ≤ 4611686018427387000
  fl:s.files.length ≤ 3298534883000
  cl:s.chg.length ≤ 3298534883000
  pl:s.fails.length ≤ 4611686018427387000
  dd:s.dir.length ≤ 1099511627770
  dl:∀ i,(dirAt s i).length ≤ 1099511627770
  fz:∀ x ∈ s.files,x.d.size ≤ 1073741824∧x.s ≤ x.d.size
structure LS (w:World) (s0:Fs) (V0:FV) (r:Nat) (Z:Array Value) (s:Fs) (V:FV) (W:World):Prop where
  row:W.heap[r]?=some (.cells (fsC s V) 61)
  res:W.heap[r + 1]?=some (.cells Z 61)
  at_:FsAt s V W
  lo:Av (fun k=>k=r ∨ k=r + 1) s V
  bel:Below r w W
  sz:r + 2 ≤ W.heap.size
  av:∀ S:Nat → Prop,(∀ k,S k → k < r) → Av S s0 V0 → Av S s V
section
variable {w:World} {s0:Fs} {V0:FV} {r:Nat} {Z:Array Value} {s:Fs} {V:FV} {W W':World}
theorem LS.on (h:LS w s0 V0 r Z s V W) (hb:Below W.heap.size W W'):LS w s0 V0 r Z s V W':=
  ⟨keep_row h.row hb,keep_row h.res hb,h.at_.on hb,h.lo,h.bel.trans (hb.mono (by have:=h.sz; omega)),Nat.le_trans h.sz hb.size,h.av⟩
theorem LS.put (h:LS w s0 V0 r Z s V W) {s':Fs} {V':FV} (hr:W'.heap[r]?=some (.cells (fsC s' V') 61)) (hm:Mod r W W') (ha:FsAt s' V' W) (hl:Av (fun k=>k=r ∨ k=r + 1) s' V') (hv:∀ S:Nat → Prop,(∀ k,S k → k < r) → Av S s V → Av S s' V'):LS w s0 V0 r Z s' V' W':=
  ⟨hr,hm.row h.res (by omega),ha.mod hm (hl.weak fun k e=>Or.inl e),hl,h.bel.trans (hm.below (Nat.le_refl _) (by have:=h.sz; omega)),Nat.le_trans h.sz hm.size,fun S hS hA=>hv S hS (h.av S hS hA)⟩
theorem LS.made (h:LS w s0 V0 r Z s V W) {s':Fs} {V':FV} {w3:World} (hM:Made s V W s' V' w3) (hr:W'.heap[r]?=some (.cells (fsC s' V') 61)) (hm:Mod r w3 W'):LS w s0 V0 r Z s' V' W':=by
  have h2:=h.on hM.bel
  exact h2.put hr hm hM.at_ (hM.av _ (fun k e=>by have:=h.sz; rcases e with e | e <;> omega) h.lo) (fun S hS hA=>hM.av S (fun k e=>by have:=hS k e; have:=h.sz; omega) hA)
theorem LS.fin (h:LS w s0 V0 r Z s V W) (hr:w.heap.size=r) (hm:Mod (r + 1) W W'):Made s0 V0 w s V W':=
  ⟨h.at_.mod hm (h.lo.weak fun k e=>Or.inr e),by rw [hr]; exact h.bel.trans (hm.below (by omega) (by have:=h.sz; omega)),fun S hS hA=>h.av S (fun k e=>by have:=hS k e; omega) hA⟩
theorem LS.finM (h:LS w s0 V0 r Z s V W) (hr:w.heap.size=r) {s':Fs} {V':FV} {w3:World} (hM:Made s V W s' V' w3) (hm:Mod (r + 1) w3 W'):Made s0 V0 w s' V' W':=by
  have hsz:=h.sz
  have hl:=hM.av (fun k=>k=r ∨ k=r + 1) (fun k e=>by rcases e with e | e <;> omega) h.lo
  refine ⟨hM.at_.mod hm (hl.weak fun k e=>Or.inr e),?_,fun S hS hA=>hM.av S (fun k e=>by have:=hS k e; omega) (h.av S (fun k e=>by have:=hS k e; omega) hA)⟩
  rw [hr]
  exact (h.bel.trans (hM.bel.mono (by omega))).trans (hm.below (by omega) (by have:=hM.bel.size; omega))
end
theorem LS.start {s:Fs} {V:FV} {w:World} (h:FsAt s V w) (Z:Array Value):LS w s V w.heap.size Z s V ((w.alloc (.cells (fsC s V) 61)).alloc (.cells Z 61)):=by
  obtain ⟨h1,h2,h3⟩:=two_rows (w:=w) (.cells (fsC s V) 61) (.cells Z 61)
  exact ⟨h2,h3,h.on h1,h.av.weak (fun k e=>by rcases e with e | e <;> (show _ ≤ _; omega)),h1,by simp [World.size_alloc],fun S _ hA=>hA⟩
theorem stepM_ok {s:Fs} (h:(stepM s).2.1=0):(stepM s).1={ s with steps:=s.steps + 1 }:=by
  unfold stepM at *
  simp only at *
  split at h
  · simp at h
  · rename_i hc
    rw [if_neg hc]
    split at h
    · simp at h
    · rfl
set_option maxHeartbeats 1000000 in
theorem has_any (s:Fs) (V:FV) (n:ByteArray) (hb:Bd s) (hn:n.size ≤ 140737488355328) (w:World) (h:FsAt s V w):Calls Tryz.prog 102 #[.agg (fsC s V),.string n] w fun e w'=>e=.returned (.int .i64 (hasM s n))∧Below w.heap.size w w':=by
  obtain ⟨W0,hW0⟩:∃ W0,W0=w.alloc (.cells (fsC s V) 61):=⟨_,rfl⟩
  have hB0:Below w.heap.size w W0:=by rw [hW0]; exact (Below.refl _ _).alloc (Nat.le_refl _) _
  have hX0:W0.heap[w.heap.size]?=some (.cells (fsC s V) 61):=by rw [hW0]; exact one_alloc _ _
  obtain ⟨r,hr⟩:∃ r,w.heap.size=r:=⟨_,rfl⟩
  have HR:Hid (w.heap.size=r):=hr
  have HB:Hid (Below w.heap.size w W0):=hB0
  have HNM:Hid (Calls Tryz.prog 98 #[.string n] W0 fun e w'=>e=.returned (.bool (namedM n))∧w'=W0):=named_any n hn W0
  have HFI:Hid (Calls Tryz.prog 99 #[V.d,.string n] W0 fun e w'=>e=.returned (.int .i64 (findM s.dir n))∧w'=W0):=r_find_any V.d s.dir (by have:=hb.dd; omega) n W0 (h.on hB0).qd
  obtain ⟨x0,x1,x2,x3,x4,x5,x6,x7,x8,xf⟩:=row9 (v0:=.bool s.down) (v1:=.int .i64 (s.steps:Int)) (v2:=V.f) (v3:=V.d) (v4:=V.s) (v5:=V.c) (v6:=V.p) (v7:=.int .i64 s.crash) (v8:=V.k) hX0
  rw [hr] at x0 x1 x2 x3 x4 x5 x6 x7 x8 xf
  rw [show fsC s V=#[.bool s.down,.int .i64 (s.steps:Int),V.f,V.d,V.s,V.c,V.p,.int .i64 s.crash,V.k] from rfl] at hW0
  unfold fsC
  obtain ⟨dn,hdn⟩:∃ dn,s.down=dn:=⟨_,rfl⟩
  obtain ⟨nm,hnm⟩:∃ nm,namedM n=nm:=⟨_,rfl⟩
  obtain ⟨fi,hfi⟩:∃ fi,findM s.dir n=fi:=⟨_,rfl⟩
  have HM:Hid (hasM s n=if dn=true then 203 else if nm=true then (if fi < 0 then 201 else 0) else 202):=by show _=_; unfold hasM; rw [hdn,hnm,hfi]
  rw [hnm] at HNM
  rw [hfi] at HFI
  rw [hdn] at x0 hW0 ⊢
  clear hX0 hB0 h hb hn hr hnm hfi hdn
  go_enter Tryz.func102,Tryz.ntmps102
  go_upto_region 1 with fail
  rw [← hW0,HR.out]
  clear hW0
  cases dn with
  | true =>
    have HV:Hid (hasM s n=203):=by show _=_; rw [HM.out]; rfl
    go_wp2
    go_ret
    exact ⟨by rw [HV.out]; rfl,HB.out⟩
  | false =>
    go_wp2_with fail
    refine (show Calls _ _ _ _ _ from HNM.out).mono ?_
    rintro e w1 ⟨rfl,hw1⟩
    rw [hw1]
    clear hw1
    cases nm with
    | false =>
      have HV:Hid (hasM s n=202):=by show _=_; rw [HM.out]; rfl
      go_wp2
      go_ret
      exact ⟨by rw [HV.out]; rfl,HB.out⟩
    | true =>
      go_wp2_with fail
      refine (show Calls _ _ _ _ _ from HFI.out).mono ?_
      rintro e w2 ⟨rfl,hw2⟩
      rw [hw2]
      clear hw2
      by_cases hf:fi < 0
      · have HV:Hid (hasM s n=201):=by show _=_; rw [HM.out]; simp [hf]
        go_wp2
        go_ret
        exact ⟨by rw [HV.out]; rfl,HB.out⟩
      · have HV:Hid (hasM s n=0):=by show _=_; rw [HM.out]; simp [hf]
        go_wp2
        go_ret
        exact ⟨by rw [HV.out]; rfl,HB.out⟩
end Go.Proofs.YtbgbmfmgdgalbaaGreatDoor
namespace Go.Proofs.YtbgbmfmgdgalbaaGreatDoor
open Go.RowKit
set_option linter.unusedVariables false
set_option linter.unusedSimpArgs false
theorem setC {s':Fs} {V':FV} {C:Array Value} {w:World} {r i:Nat} {v:Value} (h:w.heap[r]?=some (.cells C 61)) (e:C.set! i v=fsC s' V'):(w.setCell ⟨r,i,none⟩ v).heap[r]?=some (.cells (fsC s' V') 61):=by rw [← e]; exact setRow h i v
theorem step_b (s:Fs) (V:FV) (hb:Bd s) (w:World) (h:FsAt s V w):Calls Tryz.prog 100 #[.agg (fsC s V)] w fun e w'=>∃ V',e=.returned (.tuple #[.agg (fsC (stepM s).1 V'),.int .i64 (stepM s).2.1,.int .i64 (stepM s).2.2])∧Made s V w (stepM s).1 V' w':=r_step_any s V (by have:=hb.st; omega) (by have:=hb.fl; omega) (by have:=hb.cl; omega) (by have:=hb.pl; omega) hb.dl hb.fz w h
set_option maxHeartbeats 2000000 in
set_option maxRecDepth 20000 in
theorem start_any (s:Fs) (V:FV) (w:World) (h:FsAt s V w):Calls Tryz.prog 57 #[.agg (fsC s V)] w fun e w'=>∃ V',e=.returned (.tuple #[.agg (fsC (startM s).1 V'),.int .i64 (startM s).2])∧Made s V w (startM s).1 V' w':=by
  obtain ⟨Z,hZ⟩:∃ Z,Z=zF:=⟨_,rfl⟩
  have HZZ:Hid (Z=zF):=hZ
  have HZS:Hid (Z.size=9):=by show _=_; rw [hZ]; rfl
  clear hZ
  obtain ⟨W1,hW1⟩:∃ W1,W1=(w.alloc (.cells (fsC s V) 61)).alloc (.cells Z 61):=⟨_,rfl⟩
  have hls:=LS.start h Z
  rw [← hW1] at hls
  obtain ⟨r,hr⟩:∃ r,w.heap.size=r:=⟨_,rfl⟩
  have HRR:Hid (w.heap.size=r):=hr
  rw [hr] at hls
  clear h hr
  rw [show fsC s V=#[.bool s.down,.int .i64 (s.steps:Int),V.f,V.d,V.s,V.c,V.p,.int .i64 s.crash,V.k] from rfl] at hW1
  rw [show fsC s V=#[.bool s.down,.int .i64 (s.steps:Int),V.f,V.d,V.s,V.c,V.p,.int .i64 s.crash,V.k] from rfl]
  go_enter Tryz.func57,Tryz.ntmps57
  go_upto_region 1 with (refine alF rfl rfl Z HZZ.out ?_)
  rw [← hW1,HRR.out]
  clear hW1
  obtain ⟨dn,hdn⟩:∃ dn,s.down=dn:=⟨_,rfl⟩
  obtain ⟨x0,x1,x2,x3,x4,x5,x6,x7,x8,xf⟩:=row9 (v0:=.bool s.down) (v1:=.int .i64 (s.steps:Int)) (v2:=V.f) (v3:=V.d) (v4:=V.s) (v5:=V.c) (v6:=V.p) (v7:=.int .i64 s.crash) (v8:=V.k) hls.row
  rw [hdn] at x0
  cases dn with
  | false =>
    have HV:Hid (startM s=(s,1)):=by show _=_; simp [startM,hdn]
    clear hdn
    go_wp2_with (first | refine ldF (fsC s V) r _ rfl rfl rfl hls.row rfl ?_ | (refine stF rfl _ _ rfl (r + 1) (fsC s V) Z rfl rfl rfl (fsC_one hls.at_) HZS.out hls.res ?_; intro W7 hr7 hm7))
    have hlv:=run_loadVar_mid (P:=Tryz.prog) W7 (r + 1) 0 61 (fsC s V).toList _ (fun j v hv=>by rw [cell_of_row _ _ _ _ _ _ hr7]; simpa using hv) Tryz.underlying61 rfl (by rw [Array.length_toList,fsC_size]; exact i31)
    rw [Array.toArray_toList] at hlv
    refine bodyPost_ret (v:=.tuple #[.agg (fsC s V),.int .i64 (1)]) (by simp [results,Tryz.results57,asAddr,Act.put,hlv,Result.andThen]) rfl ?_
    rw [HV.out]
    exact ⟨_,rfl,hls.fin HRR.out hm7⟩
  | true =>
    have HV:Hid (startM s=({ s with down:=false },0)):=by show _=_; simp [startM,hdn]
    clear hdn
    obtain ⟨s2,hs2⟩:∃ s2:Fs,s2={ s with down:=false }:=⟨_,rfl⟩
    rw [← hs2] at HV
    obtain ⟨W2,hW2⟩:∃ W2,W2=W1.setCell ⟨r,0,none⟩ (.bool false):=⟨_,rfl⟩
    have hr2:W2.heap[r]?=some (.cells (fsC s2 V) 61):=by rw [hW2]; exact setC hls.row (by rw [hs2]; rfl)
    have hm2:Mod r W1 W2:=by rw [hW2]; exact setMod _ _
    have sm:s2.files=s.files∧s2.dir=s.dir∧s2.sure=s.sure∧s2.chg=s.chg∧s2.fails=s.fails∧s2.picks=s.picks:=by rw [hs2]; exact ⟨rfl,rfl,rfl,rfl,rfl,rfl⟩
    have hls2:LS w s V r Z s2 V W2:=hls.put hr2 hm2 (hls.at_.same sm.1 sm.2.1 sm.2.2.1 sm.2.2.2.1 sm.2.2.2.2.1 sm.2.2.2.2.2) (hls.lo.same sm.1 sm.2.1 sm.2.2.1 sm.2.2.2.1 sm.2.2.2.2.1 sm.2.2.2.2.2) (fun S _ hA=>hA.same sm.1 sm.2.1 sm.2.2.1 sm.2.2.2.1 sm.2.2.2.2.1 sm.2.2.2.2.2)
    clear hr2 hm2 sm hs2
    go_upto_region 4 with fail
    rw [← hW2]
    clear hW2 x0 x1 x2 x3 x4 x5 x6 x7 x8 xf
    go_wp2_with (first | refine ldF (fsC s2 V) r _ rfl rfl rfl hls2.row rfl ?_ | (refine stF rfl _ _ rfl (r + 1) (fsC s2 V) Z rfl rfl rfl (fsC_one hls2.at_) HZS.out hls2.res ?_; intro W7 hr7 hm7))
    have hlv:=run_loadVar_mid (P:=Tryz.prog) W7 (r + 1) 0 61 (fsC s2 V).toList _ (fun j v hv=>by rw [cell_of_row _ _ _ _ _ _ hr7]; simpa using hv) Tryz.underlying61 rfl (by rw [Array.length_toList,fsC_size]; exact i31)
    rw [Array.toArray_toList] at hlv
    refine bodyPost_ret (v:=.tuple #[.agg (fsC s2 V),.int .i64 (0)]) (by simp [results,Tryz.results57,asAddr,Act.put,hlv,Result.andThen]) rfl ?_
    rw [HV.out]
    exact ⟨_,rfl,hls2.fin HRR.out hm7⟩
set_option maxHeartbeats 2000000 in
set_option maxRecDepth 20000 in
theorem remove_any (s:Fs) (V:FV) (n:ByteArray) (hb:Bd s) (hn:n.size ≤ 140737488355328) (w:World) (h:FsAt s V w):Calls Tryz.prog 94 #[.agg (fsC s V),.string n] w fun e w'=>∃ V',e=.returned (.tuple #[.agg (fsC (removeM s n).1 V'),.int .i64 (removeM s n).2])∧Made s V w (removeM s n).1 V' w':=by
  obtain ⟨Z,hZ⟩:∃ Z,Z=zF:=⟨_,rfl⟩
  have HZZ:Hid (Z=zF):=hZ
  have HZS:Hid (Z.size=9):=by show _=_; rw [hZ]; rfl
  clear hZ
  obtain ⟨W1,hW1⟩:∃ W1,W1=(w.alloc (.cells (fsC s V) 61)).alloc (.cells Z 61):=⟨_,rfl⟩
  have hls:=LS.start h Z
  rw [← hW1] at hls
  obtain ⟨r,hr⟩:∃ r,w.heap.size=r:=⟨_,rfl⟩
  have HRR:Hid (w.heap.size=r):=hr
  rw [hr] at hls
  have HBD:Hid (Bd s):=hb
  have HNS:Hid (n.size ≤ 140737488355328):=hn
  clear hb hn
  clear h hr
  rw [show fsC s V=#[.bool s.down,.int .i64 (s.steps:Int),V.f,V.d,V.s,V.c,V.p,.int .i64 s.crash,V.k] from rfl] at hW1
  rw [show fsC s V=#[.bool s.down,.int .i64 (s.steps:Int),V.f,V.d,V.s,V.c,V.p,.int .i64 s.crash,V.k] from rfl]
  go_enter Tryz.func94,Tryz.ntmps94
  go_upto_region 1 with (refine alF rfl rfl Z HZZ.out ?_)
  rw [← hW1,HRR.out]
  clear hW1
  go_wp2_with (refine ldF (fsC s V) r _ rfl rfl rfl hls.row rfl ?_)
  refine (show Calls _ _ _ _ _ from has_any s V n HBD.out HNS.out _ hls.at_).mono ?_
  rintro e wh ⟨rfl,hbh⟩
  have hls:=hls.on hbh
  clear hbh
  obtain ⟨eh,heh⟩:∃ eh,hasM s n=eh:=⟨_,rfl⟩
  rw [heh]
  by_cases h0:eh=0
  · have HH:Hid (hasM s n=0):=by show _=_; rw [heh,h0]
    subst h0
    clear heh
    go_upto_region 4 with fail
    go_wp2_with (refine ldF (fsC s V) r _ rfl rfl rfl hls.row rfl ?_)
    refine (show Calls _ _ _ _ _ from step_b s V HBD.out _ hls.at_).mono ?_
    rintro e w3 ⟨V1,rfl,hM1⟩
    obtain ⟨s1,hs1⟩:∃ s1,(stepM s).1=s1:=⟨_,rfl⟩
    obtain ⟨e1,he1⟩:∃ e1,(stepM s).2.1=e1:=⟨_,rfl⟩
    obtain ⟨p1,hp1⟩:∃ p1,(stepM s).2.2=p1:=⟨_,rfl⟩
    rw [hs1] at hM1 ⊢
    rw [he1,hp1]
    have HS1:Hid ((stepM s).1=s1):=hs1
    have HE1:Hid ((stepM s).2.1=e1):=he1
    have HP1:Hid ((stepM s).2.2=p1):=hp1
    clear hs1 he1 hp1
    have HM1:Hid (Made s V _ s1 V1 w3):=hM1
    have HL0:Hid (LS w s V r Z s V _):=hls
    have H1c:Hid ((fsC s1 V1).all (·.oneCell')=true):=fsC_one hM1.at_
    have HRW:Hid _:=keep_row hls.row hM1.bel
    clear hM1
    go_upto_region 5 with (refine stF rfl _ _ rfl r (fsC s1 V1) (fsC s V) rfl rfl rfl H1c.out rfl HRW.out ?_; intro W5 hr5 hm5)
    have hls:=HL0.out.made HM1.out hr5 hm5
    clear hr5 hm5
    by_cases he1:e1=0
    · subst he1
      have HV:Hid (removeM s n=(changeM s1 ⟨n,⟨#[]⟩,-1⟩,0)):=by show _=_; unfold removeM; rw [if_pos HH.out]; simp only [HE1.out,HS1.out]; rfl
      have hs1':s1={ s with steps:=s.steps + 1 }:=by rw [← HS1.out]; exact stepM_ok HE1.out
      have HD1:Hid (s1.dir.length ≤ 1099511627770):=by rw [hs1']; exact HBD.out.dd
      have HC1:Hid (s1.chg.length ≤ 3298534883328):=by rw [hs1']; have:=HBD.out.cl; show _ ≤ _; simp only; omega
      clear hs1'
      go_upto_region 7 with fail
      go_wp2_with (refine ldF (fsC s1 V1) r _ rfl rfl rfl hls.row rfl ?_)
      refine (show Calls _ _ _ _ _ from r_change_any s1 V1 ⟨n,⟨#[]⟩,-1⟩ HD1.out HC1.out _ hls.at_).mono ?_
      rintro e w6 ⟨V2,rfl,hM⟩
      have HMM:Hid _:=hM
      have HZ9:Hid _:=keep_row hls.res hM.bel
      go_wp2_with (refine stF rfl _ _ rfl (r + 1) (fsC (changeM s1 ⟨n,⟨#[]⟩,-1⟩) V2) Z rfl rfl rfl (fsC_one HMM.out.at_) HZS.out HZ9.out ?_; intro W7 hr7 hm7)
      have hlv:=run_loadVar_mid (P:=Tryz.prog) W7 (r + 1) 0 61 (fsC (changeM s1 ⟨n,⟨#[]⟩,-1⟩) V2).toList _ (fun j v hv=>by rw [cell_of_row _ _ _ _ _ _ hr7]; simpa using hv) Tryz.underlying61 rfl (by rw [Array.length_toList,fsC_size]; exact i31)
      rw [Array.toArray_toList] at hlv
      refine bodyPost_ret (v:=.tuple #[.agg (fsC (changeM s1 ⟨n,⟨#[]⟩,-1⟩) V2),.int .i64 0]) (by simp [results,Tryz.results94,asAddr,Act.put,hlv,Result.andThen]) rfl ?_
      rw [HV.out]
      exact ⟨_,rfl,hls.finM HRR.out HMM.out hm7⟩
    · have HV:Hid (removeM s n=(s1,e1)):=by show _=_; unfold removeM; rw [if_pos HH.out]; simp only [HE1.out,HS1.out]; rw [if_neg he1]
      have heb:(e1 != 0)=true:=bne_iff_ne.mpr he1
      clear he1
      go_wp2_with (first | refine ldF (fsC s1 V1) r _ rfl rfl rfl hls.row rfl ?_ | (refine stF rfl _ _ rfl (r + 1) (fsC s1 V1) Z rfl rfl rfl (fsC_one hls.at_) HZS.out hls.res ?_; intro W7 hr7 hm7))
      have hlv:=run_loadVar_mid (P:=Tryz.prog) W7 (r + 1) 0 61 (fsC s1 V1).toList _ (fun j v hv=>by rw [cell_of_row _ _ _ _ _ _ hr7]; simpa using hv) Tryz.underlying61 rfl (by rw [Array.length_toList,fsC_size]; exact i31)
      rw [Array.toArray_toList] at hlv
      refine bodyPost_ret (v:=.tuple #[.agg (fsC s1 V1),.int .i64 (e1)]) (by simp [results,Tryz.results94,asAddr,Act.put,hlv,Result.andThen]) rfl ?_
      rw [HV.out]
      exact ⟨_,rfl,hls.fin HRR.out hm7⟩
  · have HV:Hid (removeM s n=(s,eh)):=by show _=_; unfold removeM; rw [if_neg (by rw [heh]; exact h0),heh]
    have heb:(eh != 0)=true:=bne_iff_ne.mpr h0
    clear h0 heh
    go_wp2_with (first | refine ldF (fsC s V) r _ rfl rfl rfl hls.row rfl ?_ | (refine stF rfl _ _ rfl (r + 1) (fsC s V) Z rfl rfl rfl (fsC_one hls.at_) HZS.out hls.res ?_; intro W7 hr7 hm7))
    have hlv:=run_loadVar_mid (P:=Tryz.prog) W7 (r + 1) 0 61 (fsC s V).toList _ (fun j v hv=>by rw [cell_of_row _ _ _ _ _ _ hr7]; simpa using hv) Tryz.underlying61 rfl (by rw [Array.length_toList,fsC_size]; exact i31)
    rw [Array.toArray_toList] at hlv
    refine bodyPost_ret (v:=.tuple #[.agg (fsC s V),.int .i64 (eh)]) (by simp [results,Tryz.results94,asAddr,Act.put,hlv,Result.andThen]) rfl ?_
    rw [HV.out]
    exact ⟨_,rfl,hls.fin HRR.out hm7⟩
end Go.Proofs.YtbgbmfmgdgalbaaGreatDoor
