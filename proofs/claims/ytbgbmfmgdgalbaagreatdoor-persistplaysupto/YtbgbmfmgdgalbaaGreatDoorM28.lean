import Derived.Test.YtbgbmfmgdgalbaaGreatDoorM22
import Derived.Test.YtbgbmfmgdgalbaaGreatDoorM27
import Derived.Deep.RegionHeld3
namespace Go.Proofs.YtbgbmfmgdgalbaaGreatDoor
open Go.RowKit Go.Maps
set_option linter.unusedVariables false
set_option linter.unusedSimpArgs false
theorem Dv.bt {w0 W W':World} {g i k:Nat} {X X':Gh} {F F' Fd:Fs} {V:FV} (h:Dv w0 W g X F i Fd V) (hs:St w0 W' g X' F' k) (hb:Bt W g X F W' X' F'):Dv w0 W' g X' F' k Fd V:=
  ⟨hs,h.dc.modP hb.md h.av,h.av.or h.dc.av (fun q hq=>hb.own q hq)⟩
def StpP (w0 W:World) (g:Nat) (X:Gh) (F F':Fs) (V:FV) (i:Nat) (e:Ending) (w':World):Prop:=
  ∃ V' X',e=.returned (.tuple #[.agg (fsC F' V'),.bool true])∧St w0 w' g X' F' i∧Bt W g X F w' X' F'∧FsAt F' V' w'∧Av (Own g F' X') F' V'∧∀ S:Nat → Prop,(∀ k,S k → k < W.heap.size) → Av S F V → Av S F' V'
theorem stp_fin {w0 w W1 w2 w5 W7:World} {g i j k r2:Nat} {X X2:Gh} {F F':Fs} {V V':FV} {Z:Array Value} (hd:Dv w0 w g X F i F V) (hw:Below w.heap.size w W1) (hb:Bt W1 g X F w2 X2 F') (hs:St w0 w2 g X2 F' j) (hj:j ≤ k) (hM:Made F V w2 F' V' w5) (hr1:w.heap.size ≤ r2) (hr2:w5.heap[r2]?=some (.cells Z 61)) (hr3:r2 < w2.heap.size) (hm:Mod r2 w5 W7):StpP w0 w g X F F' V k (.returned (.tuple #[.agg (fsC F' V'),.bool true])) W7:=by
  have hd2:=(hd.on hw).bt hs hb
  have hbt:Bt w g X F w5 X2 F':=(Bt.pre hw hb).after hM.bel
  have hw0:=hd.st.bel.size
  refine ⟨V',X2,rfl,((hs.on hM.bel).one hm.modP hr2 (by unfold tyOwn; decide) (by decide) (by decide) (by omega)).more24 hj,⟨hbt.md.andThen hm.modP (fun q hq e=>by omega),hbt.own⟩,hM.at_.mod hm (hM.av _ (fun q e=>by omega) (hd.dc.av.weak (fun q e=>by omega))),hM.av _ (fun q hq=>hs.fs.own_lt hq) hd2.av,fun S hS hA=>hM.av S (fun q hq=>?_) hA⟩
  have h1:=hS q hq
  have h2:=hw.size
  have h3:=hb.md.size
  omega
structure Sx (w0 W:World) (g:Nat) (X:Gh) (F:Fs) (i:Nat) (Fd:Fs) (V:FV) (r0 r1 r2:Nat) (C O Z:Array Value):Prop where
  dv:Dv w0 W g X F i Fd V
  h0:W.heap[r0]?=some (.cells C 61)
  h1:W.heap[r1]?=some (.cells O 47)
  h2:W.heap[r2]?=some (.cells Z 61)
theorem Sx.bt {w0 W W':World} {g i k r0 r1 r2:Nat} {X X':Gh} {F F' Fd:Fs} {V:FV} {C O Z:Array Value} (h:Sx w0 W g X F i Fd V r0 r1 r2 C O Z) (hs:St w0 W' g X' F' k) (hb:Bt W g X F W' X' F'):Sx w0 W' g X' F' k Fd V r0 r1 r2 C O Z:=
  ⟨h.dv.bt hs hb,hb.md.row h.h0 (ref_own h.dv.st.fs.toFsC h.h0),qo_mod h.h1 h.dv.st.fs.toFsC hb.md,hb.md.row h.h2 (ref_own h.dv.st.fs.toFsC h.h2)⟩
theorem Sx.on {w0 W W':World} {g i r0 r1 r2:Nat} {X:Gh} {F Fd:Fs} {V:FV} {C O Z:Array Value} (h:Sx w0 W g X F i Fd V r0 r1 r2 C O Z) (hb:Below W.heap.size W W'):Sx w0 W' g X F i Fd V r0 r1 r2 C O Z:=⟨h.dv.on hb,keep_row h.h0 hb,keep_row h.h1 hb,keep_row h.h2 hb⟩
theorem Made.idem {s:Fs} {V:FV} {w w':World} (h:FsAt s V w) (hb:Below w.heap.size w w'):Made s V w s V w':=⟨h.on hb,hb,fun _ _ hA=>hA⟩
theorem inv_create {F:Fs} {i:Nat} (h:Inv F i) (n:ByteArray):Inv (createM F n).1 (i + 1):=h.create n
theorem same_txt24 {W:World} {va vb:Value} {l:List ByteArray} (hl:l.length ≤ 4611686018427387000) (ha:KR psE W va l) (hb:KR psE W vb l):Calls Tryz.prog 12 #[va,vb] W fun e w'=>e=.returned (.bool true)∧Below W.heap.size W w':=by
  have:=sameTexts_any va vb l l hl W ha hb
  simpa using this
theorem older_len (F:Fs):(olderM F).1.length ≤ 4611686018427387000:=by
  unfold olderM
  split
  · have:=olders_len F 8; show (oldersM F 8).length ≤ _; omega
  · simp
theorem zF_str (j:Nat) (s:ByteArray):zF[j]? ≠ some (.string s):=fun h=>by
  have:=Array.mem_of_getElem? h
  simp [zF] at this
theorem txt_mod {W W':World} {v:Value} {l:List ByteArray} {r2:Nat} {Z:Array Value} (hZ:Z=zF) (h:KR psE W v l) (hr:W.heap[r2]?=some (.cells Z 61)) (hm:Mod r2 W W'):KR psE W' v l:=by
  by_cases hl:l=[]
  · subst hl
    rcases h with h | ⟨g,o,cap,rfl,hc⟩
    · exact Or.inl h
    · exact Or.inr ⟨g,o,cap,rfl,fun j u hu=>by simp [ET.fl] at hu⟩
  · rcases h with ⟨h,_⟩ | ⟨g,o,cap,rfl,hc⟩
    · exact absurd h hl
    · refine Or.inr ⟨g,o,cap,rfl,fun j u hu=>?_⟩
      have h1:=hc j u hu
      refine (cell_same (hm.oth g (lt_of_cell h1) (fun e=>?_))).trans h1
      rw [ps_fl,List.getElem?_map] at hu
      obtain ⟨x,hx,rfl⟩:∃ x,l[j]?=some x∧Value.string x=u:=by
        cases hq:l[j]? with
        | none=>rw [hq] at hu; cases hu
        | some x=>rw [hq] at hu; exact ⟨x,rfl,by injection hu⟩
      have e2:g=r2:=e
      subst e2
      rw [cell_of_row _ _ _ _ _ _ hr,hZ] at h1
      exact zF_str _ _ h1
theorem made_two {F F1 F2:Fs} {V V1 V2:FV} {w2 w5 w6 w7:World} {N:Nat} {C:Array Value} (h1:Made F V w2 F1 V1 w5) (h2:Made F1 V1 w5 F2 V2 w6) (hN:w2.heap.size ≤ N) (hr:w5.heap[N]?=some (.cells C 61)) (ha:Av (fun k=>k=N) F1 V1) (hm:Mod N w6 w7):Made F V w2 F2 V2 w7:=
  ⟨h2.at_.mod hm (h2.av _ (fun k e=>by rw [e]; exact row_lt hr) ha),(h1.bel.trans (h2.bel.mono h1.bel.size)).trans (hm.below hN (Nat.le_trans h1.bel.size h2.bel.size)),fun S hS hA=>h2.av S (fun k hk=>Nat.lt_of_lt_of_le (hS k hk) h1.bel.size) (h1.av S hS hA)⟩
set_option maxHeartbeats 16000000 in
set_option maxRecDepth 100000 in
theorem step24_any (hSV:SaveC) (hLD:LoadC) (hTD:TidyC) (hOL:OlderC) {w0 w:World} {g i:Nat} {X:Gh} {F:Fs} {V:FV} {o:Qo} {pv:Value} {C O:Array Value} (h:Dv w0 w g X F i F V) (hI:Inv F i) (hi:i + 32830 ≤ 3298534883000) (hC:C=fsC F V) (hO:O=qoArr o pv) (ok:QoOk o) (hv:Pks w (Own g F X) pv o.p) :
    Calls Tryz.prog 24 #[ptr (some g),.agg C,.agg O] w (StpP w0 w g X F (doneL F o).1 V (i + 32830)):=by
  obtain ⟨Q,c,rfl⟩:=hv.form
  obtain ⟨k,t,m,a,p,n⟩:=o
  obtain ⟨ot,on,op,om⟩:=ok
  simp only at ot on op om hv
  obtain ⟨Z,hZ⟩:∃ Z,Z=zF:=⟨_,rfl⟩
  have HZZ:Hid (Z=zF):=hZ
  have HZS:Hid (Z.size=9):=by show _=_; rw [hZ]; rfl
  clear hZ
  obtain ⟨A1,hA1⟩:∃ A1,w.alloc (.cells C 61)=A1:=⟨_,rfl⟩
  obtain ⟨A2,hA2⟩:∃ A2,A1.alloc (.cells O 47)=A2:=⟨_,rfl⟩
  obtain ⟨W1,hW1⟩:∃ W1,A2.alloc (.cells Z 61)=W1:=⟨_,rfl⟩
  have b1:Below w.heap.size w A1:=by rw [← hA1]; exact (Below.refl _ _).alloc (Nat.le_refl _) _
  have b2:Below A1.heap.size A1 A2:=by rw [← hA2]; exact (Below.refl _ _).alloc (Nat.le_refl _) _
  have b3:Below A2.heap.size A2 W1:=by rw [← hW1]; exact (Below.refl _ _).alloc (Nat.le_refl _) _
  obtain ⟨r0,hr0⟩:∃ r0,w.heap.size=r0:=⟨_,rfl⟩
  obtain ⟨r1,hr1⟩:∃ r1,A1.heap.size=r1:=⟨_,rfl⟩
  obtain ⟨r2,hr2⟩:∃ r2,A2.heap.size=r2:=⟨_,rfl⟩
  have q0:W1.heap[r0]?=some (.cells C 61):=keep_row (keep_row (by rw [← hA1,← hr0]; exact one_alloc _ _) b2) b3
  have q1:W1.heap[r1]?=some (.cells O 47):=keep_row (by rw [← hA2,← hr1]; exact one_alloc _ _) b3
  have q2:W1.heap[r2]?=some (.cells Z 61):=by rw [← hW1,← hr2]; exact one_alloc _ _
  have hbw:Below w.heap.size w W1:=(b1.trans (b2.mono b1.size)).trans (b3.mono (Nat.le_trans b1.size b2.size))
  have HBW:Hid (Below w.heap.size w W1):=hbw
  have HR2:Hid (w.heap.size ≤ r2∧r2 < W1.heap.size∧r0 ≠ r2):=⟨by have:=b1.size; have:=b2.size; omega,row_lt q2,fun e=>by
    have h5:r0 < A2.heap.size:=row_lt (keep_row (show A1.heap[r0]?=_ from by rw [← hA1,← hr0]; exact one_alloc _ _) b2)
    omega⟩
  have HD:Hid (Dv w0 w g X F i F V):=h
  have HCS:Hid (C.size=9):=by show _=_; rw [hC]; rfl
  have HCE:Hid (C=fsC F V):=hC
  have HOE:Hid (O=#[.int .i64 k,.string t,.int .i64 m,.int .i64 a,.slice Q p.length c,.string n]):=hO
  have HSX:Hid (Sx w0 W1 g X F i F V r0 r1 r2 C O Z):=⟨h.on hbw,q0,q1,q2⟩
  have HPK:Hid (Pks W1 (Own g F X) (.slice Q p.length c) p):=hv.on hbw
  have HI:Hid (Inv F i):=hI
  have HIB:Hid (i + 32830 ≤ 3298534883000):=hi
  have HOT:Hid (t.size ≤ 140737488355328):=ot
  have HON:Hid (n.size ≤ 140737488355328):=on
  have HOP:Hid (p.length ≤ 17592186044416):=op
  have HOM:Hid (-9223372036854775808 ≤ m∧m ≤ 9223372036854775807):=om
  have HSV:Hid SaveC:=hSV
  have HLD:Hid LoadC:=hLD
  have HTD:Hid TidyC:=hTD
  have HOL:Hid OlderC:=hOL
  have q1c:=q1
  rw [hO] at q1c
  obtain ⟨c0,c1,c2,c3,c4,c5⟩:=row6 q1c
  clear h hI hi hC hO hv ot on op om q0 q1 q2 q1c b1 b2 b3 hbw hSV hLD hTD hOL
  unfold doneL ptr
  simp only
  by_cases e0:k=0
  · subst e0
    rw [if_pos rfl]
    obtain ⟨M,hMM⟩:∃ M,saveM F t m=M:=⟨_,rfl⟩
    have HX:Hid (Calls Tryz.prog 9 #[.pointer (some ⟨g,0,none⟩),.string t,.int .i64 m] W1 (CalP w0 W1 g X F M.1 (i + 32830) (.int .i64 M.2))):=by
      have:=HSV.out w0 W1 g X F i t m HSX.out.dv.st HI.out HIB.out HOT.out HOM.out
      rw [hMM] at this
      exact this
    have HYY:Hid (∀ W,FsAt F V W → Calls Tryz.prog 51 #[.agg C,.string t,.int .i64 m] W (RP F V W M)):=fun W hW=>by
      have:=rsave_any (t:=t) HI.out HOM.out HOT.out HIB.out W hW
      rw [hMM,← HCE.out] at this
      exact this
    rw [hMM]
    clear hMM
    go_enter Tryz.func24,Tryz.ntmps24
    go_upto_region 1 with (refine alF rfl rfl Z HZZ.out ?_)
    try rw [hA1]
    try rw [hr1]
    try rw [hA2]
    try rw [hr2]
    try rw [hW1]
    clear hA1 hA2 hW1
    go_wp2_with fail
    refine (show Calls _ _ _ _ _ from HX.out).mono ?_
    rintro e w2 ⟨rfl,X2,hs,hB⟩
    have HS2:Hid (Sx w0 w2 g X2 M.1 (i + 32830) F V r0 r1 r2 C O Z):=HSX.out.bt hs hB
    have HB2:Hid (Bt W1 g X F w2 X2 M.1):=hB
    have HR2b:Hid (r2 < w2.heap.size):=row_lt HS2.out.h2
    clear hs hB HX c0 c1 c2 c3 c4 c5
    have h1c:=HS2.out.h1
    rw [HOE.out] at h1c
    obtain ⟨c0,c1,c2,c3,c4,c5⟩:=row6 h1c
    clear h1c
    have HY:Hid _:=HYY.out w2 HS2.out.dv.dc
    clear HYY
    go_wp2_with (refine ldF C r0 _ rfl rfl rfl HS2.out.h0 HCS.out ?_)
    refine (show Calls _ _ _ _ _ from HY.out).mono ?_
    rintro e w3 ⟨V',rfl,hM⟩
    have HM:Hid (Made F V w2 M.1 V' w3):=hM
    clear hM HY c0 c1 c2 c3 c4 c5
    obtain ⟨N,hN⟩:∃ N,w3.heap.size=N:=⟨_,rfl⟩
    have HN:Hid (w3.heap.size=N):=hN
    clear hN
    go_upto_region 5 with (first
      | (refine alF rfl rfl Z HZZ.out ?_)
      | (refine stF rfl _ _ rfl w3.heap.size (fsC M.1 V') Z rfl rfl rfl (fsC_one HM.out.at_) HZS.out (one_alloc _ _) ?_; intro w5 hr5 hm5))
    have hb5:Below w3.heap.size w3 w5:=((Below.refl _ w3).alloc (Nat.le_refl _) _).trans (hm5.below (Nat.le_refl _) (by simp [World.size_alloc]))
    rw [HN.out] at hr5
    rw [HN.out]
    have HM5:Hid (Made F V w2 M.1 V' w5):=HM.out.after hb5
    have HN5:Hid (w5.heap[N]?=some (.cells (fsC M.1 V') 61)):=hr5
    have HZ5:Hid (w5.heap[r2]?=some (.cells Z 61)):=keep_row HS2.out.h2 HM5.out.bel
    clear hb5 hr5 hm5 HM HN
    have q9:(M.2 == M.2)=true:=beq_self_eq_true _
    go_wp2_with (first
      | (refine ldF (fsC M.1 V') N _ rfl rfl rfl HN5.out rfl ?_)
      | (refine stF rfl _ _ rfl r2 (fsC M.1 V') Z rfl rfl rfl (fsC_one HM5.out.at_) HZS.out HZ5.out ?_; intro W7 hr7 hm7))
    have hlv:=run_loadVar_mid (P:=Tryz.prog) W7 r2 0 61 (fsC M.1 V').toList _ (fun j v hv=>by rw [cell_of_row _ _ _ _ _ _ hr7]; simpa using hv) Tryz.underlying61 rfl (by rw [Array.length_toList,fsC_size]; exact i31)
    rw [Array.toArray_toList] at hlv
    refine bodyPost_ret (v:=.tuple #[.agg (fsC M.1 V'),.bool true]) (by simp [results,Tryz.results24,asAddr,Act.put,hlv,Result.andThen]) rfl ?_
    exact stp_fin HD.out HBW.out HB2.out HS2.out.dv.st (Nat.le_refl _) HM5.out HR2.out.1 HZ5.out HR2b.out hm7
  rw [if_neg e0]
  by_cases e1:k=1
  · subst e1
    rw [if_pos rfl]
    obtain ⟨M,hMM⟩:∃ M,loadM F=M:=⟨_,rfl⟩
    have HX:Hid (Calls Tryz.prog 11 #[.pointer (some ⟨g,0,none⟩)] W1 (CalP w0 W1 g X F M.1 (i + 65) (.tuple #[.string M.2.1,.bool M.2.2.1,.int .i64 M.2.2.2]))):=by
      have:=HLD.out w0 W1 g X F i HSX.out.dv.st HI.out HIB.out
      rw [hMM] at this
      exact this
    have HYY:Hid (∀ W,FsAt F V W → Calls Tryz.prog 52 #[.agg C] W (RP4 F V W M)):=fun W hW=>by
      have:=rload_any HI.out (by have:=HIB.out; omega) W hW
      rw [hMM,← HCE.out] at this
      exact this
    rw [hMM]
    clear hMM e0
    go_enter Tryz.func24,Tryz.ntmps24
    go_upto_region 1 with (refine alF rfl rfl Z HZZ.out ?_)
    try rw [hA1]
    try rw [hr1]
    try rw [hA2]
    try rw [hr2]
    try rw [hW1]
    clear hA1 hA2 hW1
    go_wp2_with fail
    refine (show Calls _ _ _ _ _ from HX.out).mono ?_
    rintro e w2 ⟨rfl,X2,hs,hB⟩
    have HS2:Hid (Sx w0 w2 g X2 M.1 (i + 65) F V r0 r1 r2 C O Z):=HSX.out.bt hs hB
    have HB2:Hid (Bt W1 g X F w2 X2 M.1):=hB
    have HR2b:Hid (r2 < w2.heap.size):=row_lt HS2.out.h2
    clear hs hB HX c0 c1 c2 c3 c4 c5
    have h1c:=HS2.out.h1
    rw [HOE.out] at h1c
    obtain ⟨c0,c1,c2,c3,c4,c5⟩:=row6 h1c
    clear h1c
    have HY:Hid _:=HYY.out w2 HS2.out.dv.dc
    clear HYY
    go_wp2_with (refine ldF C r0 _ rfl rfl rfl HS2.out.h0 HCS.out ?_)
    refine (show Calls _ _ _ _ _ from HY.out).mono ?_
    rintro e w3 ⟨V',rfl,hM⟩
    have HM:Hid (Made F V w2 M.1 V' w3):=hM
    clear hM HY c0 c1 c2 c3 c4 c5
    obtain ⟨N,hN⟩:∃ N,w3.heap.size=N:=⟨_,rfl⟩
    have HN:Hid (w3.heap.size=N):=hN
    clear hN
    go_upto_region 9 with (first
      | (refine alF rfl rfl Z HZZ.out ?_)
      | (refine stF rfl _ _ rfl w3.heap.size (fsC M.1 V') Z rfl rfl rfl (fsC_one HM.out.at_) HZS.out (one_alloc _ _) ?_; intro w5 hr5 hm5))
    have hb5:Below w3.heap.size w3 w5:=((Below.refl _ w3).alloc (Nat.le_refl _) _).trans (hm5.below (Nat.le_refl _) (by simp [World.size_alloc]))
    rw [HN.out] at hr5
    rw [HN.out]
    have HM5:Hid (Made F V w2 M.1 V' w5):=HM.out.after hb5
    have HN5:Hid (w5.heap[N]?=some (.cells (fsC M.1 V') 61)):=hr5
    have HZ5:Hid (w5.heap[r2]?=some (.cells Z 61)):=keep_row HS2.out.h2 HM5.out.bel
    clear hb5 hr5 hm5 HM HN
    have q7:(M.2.1.toList == M.2.1.toList)=true:=beq_self_eq_true _
    have q8:(M.2.2.1 == M.2.2.1)=true:=beq_self_eq_true _
    have q9:(M.2.2.2 == M.2.2.2)=true:=beq_self_eq_true _
    go_wp2_with (first
      | (refine ldF (fsC M.1 V') N _ rfl rfl rfl HN5.out rfl ?_)
      | (refine stF rfl _ _ rfl r2 (fsC M.1 V') Z rfl rfl rfl (fsC_one HM5.out.at_) HZS.out HZ5.out ?_; intro W7 hr7 hm7))
    have hlv:=run_loadVar_mid (P:=Tryz.prog) W7 r2 0 61 (fsC M.1 V').toList _ (fun j v hv=>by rw [cell_of_row _ _ _ _ _ _ hr7]; simpa using hv) Tryz.underlying61 rfl (by rw [Array.length_toList,fsC_size]; exact i31)
    rw [Array.toArray_toList] at hlv
    refine bodyPost_ret (v:=.tuple #[.agg (fsC M.1 V'),.bool true]) (by simp [results,Tryz.results24,asAddr,Act.put,hlv,Result.andThen]) rfl ?_
    exact stp_fin HD.out HBW.out HB2.out HS2.out.dv.st (by omega) HM5.out HR2.out.1 HZ5.out HR2b.out hm7
  rw [if_neg e1]
  by_cases e2:k=2
  · subst e2
    rw [if_pos rfl]
    obtain ⟨M,hMM⟩:∃ M,tidyM F=M:=⟨_,rfl⟩
    have HX:Hid (Calls Tryz.prog 33 #[.pointer (some ⟨g,0,none⟩)] W1 (CalP w0 W1 g X F M.1 (i + 65) (.tuple #[.int .i64 M.2.1,.int .i64 M.2.2]))):=by
      have:=HTD.out w0 W1 g X F i HSX.out.dv.st HI.out HIB.out
      rw [hMM] at this
      exact this
    have HYY:Hid (∀ W,FsAt F V W → Calls Tryz.prog 53 #[.agg C] W (RP3 F V W M)):=fun W hW=>by
      have:=rtidy_any HI.out (by have:=HIB.out; omega) W hW
      rw [hMM,← HCE.out] at this
      exact this
    rw [hMM]
    clear hMM e0 e1
    go_enter Tryz.func24,Tryz.ntmps24
    go_upto_region 1 with (refine alF rfl rfl Z HZZ.out ?_)
    try rw [hA1]
    try rw [hr1]
    try rw [hA2]
    try rw [hr2]
    try rw [hW1]
    clear hA1 hA2 hW1
    go_wp2_with fail
    refine (show Calls _ _ _ _ _ from HX.out).mono ?_
    rintro e w2 ⟨rfl,X2,hs,hB⟩
    have HS2:Hid (Sx w0 w2 g X2 M.1 (i + 65) F V r0 r1 r2 C O Z):=HSX.out.bt hs hB
    have HB2:Hid (Bt W1 g X F w2 X2 M.1):=hB
    have HR2b:Hid (r2 < w2.heap.size):=row_lt HS2.out.h2
    clear hs hB HX c0 c1 c2 c3 c4 c5
    have h1c:=HS2.out.h1
    rw [HOE.out] at h1c
    obtain ⟨c0,c1,c2,c3,c4,c5⟩:=row6 h1c
    clear h1c
    have HY:Hid _:=HYY.out w2 HS2.out.dv.dc
    clear HYY
    go_wp2_with (refine ldF C r0 _ rfl rfl rfl HS2.out.h0 HCS.out ?_)
    refine (show Calls _ _ _ _ _ from HY.out).mono ?_
    rintro e w3 ⟨V',rfl,hM⟩
    have HM:Hid (Made F V w2 M.1 V' w3):=hM
    clear hM HY c0 c1 c2 c3 c4 c5
    obtain ⟨N,hN⟩:∃ N,w3.heap.size=N:=⟨_,rfl⟩
    have HN:Hid (w3.heap.size=N):=hN
    clear hN
    go_upto_region 13 with (first
      | (refine alF rfl rfl Z HZZ.out ?_)
      | (refine stF rfl _ _ rfl w3.heap.size (fsC M.1 V') Z rfl rfl rfl (fsC_one HM.out.at_) HZS.out (one_alloc _ _) ?_; intro w5 hr5 hm5))
    have hb5:Below w3.heap.size w3 w5:=((Below.refl _ w3).alloc (Nat.le_refl _) _).trans (hm5.below (Nat.le_refl _) (by simp [World.size_alloc]))
    rw [HN.out] at hr5
    rw [HN.out]
    have HM5:Hid (Made F V w2 M.1 V' w5):=HM.out.after hb5
    have HN5:Hid (w5.heap[N]?=some (.cells (fsC M.1 V') 61)):=hr5
    have HZ5:Hid (w5.heap[r2]?=some (.cells Z 61)):=keep_row HS2.out.h2 HM5.out.bel
    clear hb5 hr5 hm5 HM HN
    have q8:(M.2.1 == M.2.1)=true:=beq_self_eq_true _
    have q9:(M.2.2 == M.2.2)=true:=beq_self_eq_true _
    go_wp2_with (first
      | (refine ldF (fsC M.1 V') N _ rfl rfl rfl HN5.out rfl ?_)
      | (refine stF rfl _ _ rfl r2 (fsC M.1 V') Z rfl rfl rfl (fsC_one HM5.out.at_) HZS.out HZ5.out ?_; intro W7 hr7 hm7))
    have hlv:=run_loadVar_mid (P:=Tryz.prog) W7 r2 0 61 (fsC M.1 V').toList _ (fun j v hv=>by rw [cell_of_row _ _ _ _ _ _ hr7]; simpa using hv) Tryz.underlying61 rfl (by rw [Array.length_toList,fsC_size]; exact i31)
    rw [Array.toArray_toList] at hlv
    refine bodyPost_ret (v:=.tuple #[.agg (fsC M.1 V'),.bool true]) (by simp [results,Tryz.results24,asAddr,Act.put,hlv,Result.andThen]) rfl ?_
    exact stp_fin HD.out HBW.out HB2.out HS2.out.dv.st (by omega) HM5.out HR2.out.1 HZ5.out HR2b.out hm7
  rw [if_neg e2]
  by_cases e3:k=3
  · subst e3
    obtain ⟨l,el,hle⟩:∃ l el,olderM F=(l,el):=⟨_,_,rfl⟩
    obtain ⟨nl,hnl⟩:∃ nl,l.length=nl:=⟨_,rfl⟩
    have HNL:Hid (l.length=nl):=hnl
    have HNB:Hid (l.length ≤ 4611686018427387000):=by
      have h1:l=(olderM F).1:=by rw [hle]
      show _ ≤ _
      rw [h1]
      exact older_len F
    have HX:Hid (Calls Tryz.prog 10 #[.pointer (some ⟨g,0,none⟩)] W1 (OlderP W1 l nl el)):=by
      have:=HOL.out w0 W1 g X F i HSX.out.dv.st HI.out HIB.out
      rw [hle] at this
      simp only at this
      rw [hnl] at this
      exact this
    have HYY:Hid (∀ W,FsAt F V W → Calls Tryz.prog 54 #[.agg C] W (RPO W (l,el))):=fun W hW=>by
      have:=rOlder_any HI.out (by have:=HIB.out; omega) W hW
      rw [hle,← HCE.out] at this
      exact this
    rw [if_neg (by decide),if_neg (by decide),if_neg (by decide),if_neg (by decide)]
    clear hle hnl e0 e1 e2
    go_enter Tryz.func24,Tryz.ntmps24
    go_upto_region 1 with (refine alF rfl rfl Z HZZ.out ?_)
    try rw [hA1]
    try rw [hr1]
    try rw [hA2]
    try rw [hr2]
    try rw [hW1]
    clear hA1 hA2 hW1
    go_wp2_with fail
    refine (show Calls _ _ _ _ _ from HX.out).mono ?_
    rintro e w2 ⟨P3,k3,rfl,ho3,hb2⟩
    have HS2:Hid (Sx w0 w2 g X F i F V r0 r1 r2 C O Z):=HSX.out.on hb2
    have HB2:Hid (Below W1.heap.size W1 w2):=hb2
    have HK2:Hid (KR stE w2 (.slice P3 nl k3) l):=KR.own (E:=stE) ho3 HNL.out.symm
    have HY:Hid _:=HYY.out w2 HS2.out.dv.dc
    clear ho3 hb2 HX HYY c0 c1 c2 c3 c4 c5
    go_wp2_with (refine ldF C r0 _ rfl rfl rfl HS2.out.h0 HCS.out ?_)
    refine (show Calls _ _ _ _ _ from HY.out).mono ?_
    rintro e w3 ⟨v4,rfl,hk4,hb3⟩
    obtain ⟨P4,k4,hv4⟩:=hk4.form
    have HS3:Hid (Sx w0 w3 g X F i F V r0 r1 r2 C O Z):=HS2.out.on hb3
    have HB3:Hid (Below W1.heap.size W1 w3):=HB2.out.trans (hb3.mono HB2.out.size)
    have HK3:Hid (KR stE w3 (.slice P3 nl k3) l):=HK2.out.on hb3
    have hv4':v4=.slice P4 nl k4:=by rw [hv4]; simp only; rw [HNL.out]
    subst hv4'
    have HK4:Hid (KR stE w3 (.slice P4 nl k4) l):=hk4
    clear hk4 hb3 hv4 HY HS2 HB2 HK2
    have HSMM:Hid (∀ W,Below w3.drew.heap.size w3.drew W ∨ (∃ W',Below w3.drew.heap.size w3.drew W'∧Mod r2 W' W) → Calls Tryz.prog 12 #[.slice P3 nl k3,.slice P4 nl k4] W fun e w'=>e=.returned (.bool true)∧Below W.heap.size W w'):=fun W hW=>by
      have hcur:Below w3.heap.size w3 w3.drew:=(Below.refl _ w3).drew
      rcases hW with hb | ⟨W',hb,hm⟩
      · exact same_txt24 HNB.out ((HK3.out.on hcur).on hb) ((HK4.out.on hcur).on hb)
      · have ht:=keep_row (keep_row HS3.out.h2 hcur) hb
        exact same_txt24 HNB.out (txt_mod HZZ.out ((HK3.out.on hcur).on hb) ht hm) (txt_mod HZZ.out ((HK4.out.on hcur).on hb) ht hm)
    have q9:(el == el)=true:=beq_self_eq_true _
    go_upto_region 17 with fail
    have hcur:Below w3.heap.size w3 w3.drew:=(Below.refl _ w3).drew
    have HC3:Hid (w3.drew.heap[r0]?=some (.cells C 61)):=keep_row HS3.out.h0 hcur
    have HZ3:Hid (w3.drew.heap[r2]?=some (.cells Z 61)):=keep_row HS3.out.h2 hcur
    have HSM:Hid (∀ W,Below w3.drew.heap.size w3.drew W ∨ (∃ W',Below w3.drew.heap.size w3.drew W'∧Mod r2 W' W) → Calls Tryz.prog 12 #[.slice P3 nl k3,.slice P4 nl k4] W fun e w'=>e=.returned (.bool true)∧Below W.heap.size W w'):=HSMM.out
    have HCC:Hid (C.all (·.oneCell')=true):=by show _=_; rw [HCE.out]; exact fsC_one HS3.out.dv.dc
    have HSD:Hid (Dv w0 w3.drew g X F i F V):=HS3.out.dv.on hcur
    have HBD:Hid (Below W1.heap.size W1 w3.drew):=HB3.out.trans (hcur.mono HB3.out.size)
    clear hcur HSMM
    refine wp_region_held_drew (S:=fun W:World=>W.rangeAt r0 0 C.toList) (by kernel_rfl) (range_row HC3.out) (fun hHeld=>?_)
    refine wpAnyH_take (i:=0) (oi:={ dst:=some 125,op:=Op.load 61 (Operand.tmp 4),type:=61,pos:= "law.go:123",after:=#[],guard:=none }) (v:=.agg C) rfl (by kernel_rfl) (by kernel_rfl) (by kernel_rfl) (fun _ _ _ h=>h) (ylF C r0 _ rfl rfl (fun _ h=>h) HCS.out) (by assumption) ?_
    try simp only [Act.put,List.setIfInBounds_toArray,List.set_cons_zero,List.set_cons_succ]
    refine wpAnyH_take (i:=1) (oi:={ dst:=some 126,op:=Op.move (Operand.tmp 23),type:=22,pos:= "law.go:123",after:=#[],guard:=none }) (v:=.slice P3 nl k3) rfl (by kernel_rfl) (by kernel_rfl) (by kernel_rfl) (fun _ _ _ h=>h) (Or.inl ⟨by rfl,?y1⟩) (by assumption) ?_
    case y1=>(intro w hSw; (try dsimp only at hSw); first | (go_simp; done) | (go_simp; with_reducible rfl) | (go_simp; rfl))
    try simp only [Act.put,List.setIfInBounds_toArray,List.set_cons_zero,List.set_cons_succ]
    refine wpAnyH_take (i:=2) (oi:={ dst:=some 127,op:=Op.move (Operand.tmp 25),type:=22,pos:= "law.go:123",after:=#[],guard:=none }) (v:=.slice P4 nl k4) rfl (by kernel_rfl) (by kernel_rfl) (by kernel_rfl) (fun _ _ _ h=>h) (Or.inl ⟨by rfl,?y2⟩) (by assumption) ?_
    case y2=>(intro w hSw; (try dsimp only at hSw); first | (go_simp; done) | (go_simp; with_reducible rfl) | (go_simp; rfl))
    try simp only [Act.put,List.setIfInBounds_toArray,List.set_cons_zero,List.set_cons_succ]
    refine wpAnyH_ready (rs:=[3]) (by kernel_rfl) (by simp) ?_
    refine AllReadyH.cons (o:={ dst:=some 128,op:=Op.call { callee:=Callee.value (Operand.func 12),args:=#[Operand.tmp 126,Operand.tmp 127],argTypes:=#[22,22] },type:=4,pos:= "law.go:123",after:=#[{ on:=1,ground:=Ground.data },{ on:=2,ground:=Ground.data }],guard:=none }) rfl (fun K hK=>?_) AllReadyH.nil
    first | (go_at_call 12; refine (show Calls _ _ _ _ _ from HSM.out _ (Or.inl (Below.refl _ _))).mono ?_; rintro e wu ⟨rfl,hb4⟩) | (go_simp; go_at_call 12; refine (show Calls _ _ _ _ _ from HSM.out _ (Or.inl (Below.refl _ _))).mono ?_; rintro e wu ⟨rfl,hb4⟩)
    refine hK.out _ _ (range_row (keep_row HC3.out (hb4))) (fun hHeld=>?_)
    clear hK K
    try simp only [Act.put,List.setIfInBounds_toArray,List.set_cons_zero,List.set_cons_succ]
    refine wpAnyH_take (i:=4) (oi:={ dst:=some 129,op:=Op.move (Operand.tmp 128),type:=4,pos:= "law.go:123",after:=#[{ on:=3,ground:=Ground.data },{ on:=3,ground:=Ground.chain }],guard:=none }) (v:=.bool true) rfl (by kernel_rfl) (by kernel_rfl) (by kernel_rfl) (fun _ _ _ h=>h) (Or.inl ⟨by rfl,?y4⟩) (by assumption) ?_
    case y4=>(intro w hSw; (try dsimp only at hSw); first | (go_simp; done) | (go_simp; with_reducible rfl) | (go_simp; rfl))
    try simp only [Act.put,List.setIfInBounds_toArray,List.set_cons_zero,List.set_cons_succ]
    refine wpAnyH_take (i:=5) (oi:={ dst:=some 130,op:=Op.move (Operand.tmp 24),type:=28,pos:= "law.go:123",after:=#[{ on:=4,ground:=Ground.guard },{ on:=9,ground:=Ground.gcOnly Departure.lateStores }],guard:=some (4,true) }) (v:=.int .i64 el) rfl (by kernel_rfl) (by kernel_rfl) (by kernel_rfl) (fun _ _ _ h=>h) (Or.inl ⟨by rfl,?y5⟩) (by assumption) ?_
    case y5=>(intro w hSw; (try dsimp only at hSw); first | (go_simp; done) | (go_simp; with_reducible rfl) | (go_simp; rfl))
    try simp only [Act.put,List.setIfInBounds_toArray,List.set_cons_zero,List.set_cons_succ]
    refine wpAnyH_take (i:=6) (oi:={ dst:=some 131,op:=Op.move (Operand.tmp 26),type:=3,pos:= "law.go:123",after:=#[{ on:=4,ground:=Ground.guard },{ on:=9,ground:=Ground.gcOnly Departure.lateStores }],guard:=some (4,true) }) (v:=.int .i64 el) rfl (by kernel_rfl) (by kernel_rfl) (by kernel_rfl) (fun _ _ _ h=>h) (Or.inl ⟨by rfl,?y6⟩) (by assumption) ?_
    case y6=>(intro w hSw; (try dsimp only at hSw); first | (go_simp; done) | (go_simp; with_reducible rfl) | (go_simp; rfl))
    try simp only [Act.put,List.setIfInBounds_toArray,List.set_cons_zero,List.set_cons_succ]
    refine wpAnyH_take (i:=7) (oi:={ dst:=some 132,op:=Op.binOp BinOp.eql 3 (Operand.tmp 130) (Operand.tmp 131) 3,type:=4,pos:= "law.go:123",after:=#[{ on:=5,ground:=Ground.data },{ on:=6,ground:=Ground.data },{ on:=4,ground:=Ground.guard },{ on:=9,ground:=Ground.gcOnly Departure.lateStores }],guard:=some (4,true) }) (v:=.bool true) rfl (by kernel_rfl) (by kernel_rfl) (by kernel_rfl) (fun _ _ _ h=>h) (Or.inl ⟨by rfl,?y7⟩) (by assumption) ?_
    case y7=>(intro w hSw; (try dsimp only at hSw); first | (go_simp; done) | (go_simp; with_reducible rfl) | (go_simp; rfl))
    try simp only [Act.put,List.setIfInBounds_toArray,List.set_cons_zero,List.set_cons_succ]
    refine wpAnyH_take (i:=8) (oi:={ dst:=some 133,op:=Op.pick (Operand.tmp 129) (Operand.tmp 132) (Operand.const (Value.bool false)),type:=4,pos:= "law.go:123",after:=#[{ on:=4,ground:=Ground.data },{ on:=7,ground:=Ground.data },{ on:=9,ground:=Ground.gcOnly Departure.lateStores }],guard:=none }) (v:=.bool true) rfl (by kernel_rfl) (by kernel_rfl) (by kernel_rfl) (fun _ _ _ h=>h) (Or.inl ⟨by rfl,?y8⟩) (by assumption) ?_
    case y8=>(intro w hSw; (try dsimp only at hSw); first | (go_simp; done) | (go_simp; with_reducible rfl) | (go_simp; rfl))
    try simp only [Act.put,List.setIfInBounds_toArray,List.set_cons_zero,List.set_cons_succ]
    refine wpAnyH_ready (rs:=[9]) (by kernel_rfl) (by simp) ?_
    refine AllReadyH.cons (o:={ dst:=none,op:=Op.store 61 (Operand.tmp 6) (Operand.tmp 125),type:=0,pos:= "law.go:123",after:=#[{ on:=0,ground:=Ground.data },{ on:=4,ground:=Ground.chain },{ on:=0,ground:=Ground.phase },{ on:=1,ground:=Ground.textOnly Departure.lateStores },{ on:=2,ground:=Ground.textOnly Departure.lateStores },{ on:=3,ground:=Ground.textOnly Departure.lateStoresUnsure },{ on:=4,ground:=Ground.textOnly Departure.lateStores },{ on:=5,ground:=Ground.textOnly Departure.lateStores },{ on:=6,ground:=Ground.textOnly Departure.lateStores },{ on:=7,ground:=Ground.textOnly Departure.lateStores },{ on:=8,ground:=Ground.textOnly Departure.lateStores }],guard:=none }) rfl (fun K hK=>?_) AllReadyH.nil
    refine rdF r2 C Z _ _ (by rfl) rfl rfl rfl HCS.out HCC.out HZS.out (keep_row HZ3.out hb4) ?_; intro W6 hr6 hm6
    refine hK.out _ _ (fun j v hv=>by rw [cell_same (hm6.oth r0 (row_lt (keep_row HC3.out hb4)) HR2.out.2.2)]; exact range_row (keep_row HC3.out hb4) j v hv) (fun hHeld=>?_)
    clear hK K
    try simp only [Act.put,List.setIfInBounds_toArray,List.set_cons_zero,List.set_cons_succ]
    refine wpAnyH_take (i:=10) (oi:={ dst:=some 7,op:=Op.assign (Operand.tmp 133),type:=4,pos:= "law.go:123",after:=#[{ on:=8,ground:=Ground.data },{ on:=9,ground:=Ground.chain },{ on:=0,ground:=Ground.phase },{ on:=1,ground:=Ground.phase },{ on:=2,ground:=Ground.phase },{ on:=3,ground:=Ground.phase },{ on:=4,ground:=Ground.phase },{ on:=5,ground:=Ground.phase },{ on:=6,ground:=Ground.phase },{ on:=7,ground:=Ground.phase },{ on:=8,ground:=Ground.phase },{ on:=9,ground:=Ground.phase }],guard:=none }) (v:=.bool true) rfl (by kernel_rfl) (by kernel_rfl) (by kernel_rfl) (fun _ _ _ h=>h) (Or.inl ⟨by rfl,?y10⟩) (by assumption) ?_
    case y10=>(intro w hSw; (try dsimp only at hSw); first | (go_simp; done) | (go_simp; with_reducible rfl) | (go_simp; rfl))
    try simp only [Act.put,List.setIfInBounds_toArray,List.set_cons_zero,List.set_cons_succ]
    refine wpAnyH_done (by kernel_rfl) ?_ _
    have hfn:∃ wz,Below w3.drew.heap.size w3.drew wz∧wz.heap[r2]?=some (.cells Z 61)∧Mod r2 wz W6:=⟨wu,hb4,keep_row HZ3.out hb4,hm6⟩
    clear hb4 hm6
    have HR6:Hid _:=hr6
    clear hr6
    go_wp2
    have hlv:=run_loadVar_mid (P:=Tryz.prog) W6 r2 0 61 C.toList _ (fun j v hv=>by rw [cell_of_row _ _ _ _ _ _ HR6.out]; simpa using hv) Tryz.underlying61 rfl (by rw [Array.length_toList,HCS.out]; exact i31)
    rw [Array.toArray_toList] at hlv
    refine bodyPost_ret (v:=.tuple #[.agg C,.bool true]) (by simp [results,Tryz.results24,asAddr,Act.put,hlv,Result.andThen]) rfl ?_
    obtain ⟨wz,z1,z2,z3⟩:=hfn
    rw [HCE.out]
    have hbz:=HBD.out.trans (z1.mono HBD.out.size)
    exact stp_fin (k:=i + 32830) HD.out HBW.out ((Bt.refl W1 g X F).after hbz) (HSX.out.dv.st.on hbz) (by omega) (Made.idem (HSX.out.dv.dc.on hbz) (Below.refl _ _)) HR2.out.1 z2 (row_lt z2) z3
  by_cases e4:k=4
  · subst e4
    rw [if_pos rfl]
    obtain ⟨M,hMM⟩:∃ M,failsM F m a=M:=⟨_,rfl⟩
    have HX:Hid (Calls Tryz.prog 15 #[.pointer (some ⟨g,0,none⟩),.int .i64 m,.int .i64 a] W1 (CalP w0 W1 g X F M.1 (i + 1) (.int .i64 M.2))):=by
      have:=fails_cal (n:=m) (p:=a) HSX.out.dv.st (by have:=HIB.out; omega)
      rw [hMM] at this
      exact this
    have HYY:Hid (∀ W,Bt W1 g X F W X F ∨ True → FsAt F V W → KR pinE W (.slice Q p.length c) p → Calls Tryz.prog 55 #[.agg C,.int .i64 m,.int .i64 a] W (RP F V W M)):=fun W _ hW hk=>by
      have:=fail_any F V m a (HI.out.bd (by have:=HIB.out; omega)) (by have:=HI.out.iv.fl; have:=HIB.out; omega) W hW
      rw [hMM,← HCE.out] at this
      exact this
    rw [hMM]
    clear hMM e0 e1 e2 e3
    go_enter Tryz.func24,Tryz.ntmps24
    go_upto_region 1 with (refine alF rfl rfl Z HZZ.out ?_)
    try rw [hA1]
    try rw [hr1]
    try rw [hA2]
    try rw [hr2]
    try rw [hW1]
    clear hA1 hA2 hW1
    have HKR:Hid (KR pinE W1 (.slice Q p.length c) p):=HPK.out.1
    have HKO:Hid (p ≠ [] → NB (Own g F X) (.slice Q p.length c)):=fun hp b x n' c' e hs=>HPK.out.2 hp b x n' c' e hs
    go_wp2_with fail
    refine (show Calls _ _ _ _ _ from HX.out).mono ?_
    rintro e w2 ⟨rfl,X2,hs,hB⟩
    have HS2:Hid (Sx w0 w2 g X2 M.1 (i + 1) F V r0 r1 r2 C O Z):=HSX.out.bt hs hB
    have HB2:Hid (Bt W1 g X F w2 X2 M.1):=hB
    have HR2b:Hid (r2 < w2.heap.size):=row_lt HS2.out.h2
    clear hs hB HX c0 c1 c2 c3 c4 c5
    have h1c:=HS2.out.h1
    rw [HOE.out] at h1c
    obtain ⟨c0,c1,c2,c3,c4,c5⟩:=row6 h1c
    clear h1c
    have HY:Hid _:=HYY.out w2 (Or.inr trivial) HS2.out.dv.dc (HKR.out.modP HB2.out.md HKO.out)
    clear HYY HKR HKO
    go_wp2_with (refine ldF C r0 _ rfl rfl rfl HS2.out.h0 HCS.out ?_)
    refine (show Calls _ _ _ _ _ from HY.out).mono ?_
    rintro e w3 ⟨V',rfl,hM⟩
    have HM:Hid (Made F V w2 M.1 V' w3):=hM
    clear hM HY c0 c1 c2 c3 c4 c5
    obtain ⟨N,hN⟩:∃ N,w3.heap.size=N:=⟨_,rfl⟩
    have HN:Hid (w3.heap.size=N):=hN
    clear hN
    go_upto_region 21 with (first
      | (refine alF rfl rfl Z HZZ.out ?_)
      | (refine stF rfl _ _ rfl w3.heap.size (fsC M.1 V') Z rfl rfl rfl (fsC_one HM.out.at_) HZS.out (one_alloc _ _) ?_; intro w5 hr5 hm5))
    have hb5:Below w3.heap.size w3 w5:=((Below.refl _ w3).alloc (Nat.le_refl _) _).trans (hm5.below (Nat.le_refl _) (by simp [World.size_alloc]))
    rw [HN.out] at hr5
    rw [HN.out]
    have HM5:Hid (Made F V w2 M.1 V' w5):=HM.out.after hb5
    have HN5:Hid (w5.heap[N]?=some (.cells (fsC M.1 V') 61)):=hr5
    have HZ5:Hid (w5.heap[r2]?=some (.cells Z 61)):=keep_row HS2.out.h2 HM5.out.bel
    clear hb5 hr5 hm5 HM HN
    have q9:(M.2 == M.2)=true:=beq_self_eq_true _
    go_wp2_with (first
      | (refine ldF (fsC M.1 V') N _ rfl rfl rfl HN5.out rfl ?_)
      | (refine stF rfl _ _ rfl r2 (fsC M.1 V') Z rfl rfl rfl (fsC_one HM5.out.at_) HZS.out HZ5.out ?_; intro W7 hr7 hm7))
    have hlv:=run_loadVar_mid (P:=Tryz.prog) W7 r2 0 61 (fsC M.1 V').toList _ (fun j v hv=>by rw [cell_of_row _ _ _ _ _ _ hr7]; simpa using hv) Tryz.underlying61 rfl (by rw [Array.length_toList,fsC_size]; exact i31)
    rw [Array.toArray_toList] at hlv
    refine bodyPost_ret (v:=.tuple #[.agg (fsC M.1 V'),.bool true]) (by simp [results,Tryz.results24,asAddr,Act.put,hlv,Result.andThen]) rfl ?_
    exact stp_fin HD.out HBW.out HB2.out HS2.out.dv.st (by omega) HM5.out HR2.out.1 HZ5.out HR2b.out hm7
  rw [if_neg e4]
  by_cases e5:k=5
  · subst e5
    rw [if_pos rfl]
    obtain ⟨M,hMM⟩:∃ M,crashM F m p=M:=⟨_,rfl⟩
    have HX:Hid (Calls Tryz.prog 18 #[.pointer (some ⟨g,0,none⟩),.int .i64 m,.slice Q p.length c] W1 (CalP w0 W1 g X F M.1 (i + 1) (.int .i64 M.2))):=by
      have:=crash_cal (n:=m) HSX.out.dv.st (by have:=HIB.out; omega) HOP.out HPK.out
      rw [hMM] at this
      exact this
    have HYY:Hid (∀ W,Bt W1 g X F W X F ∨ True → FsAt F V W → KR pinE W (.slice Q p.length c) p → Calls Tryz.prog 56 #[.agg C,.int .i64 m,.slice Q p.length c] W (RP F V W M)):=fun W _ hW hk=>by
      have:=crash_any F V m (.slice Q p.length c) p (HI.out.bd (by have:=HIB.out; omega)) HOP.out W hW hk
      rw [hMM,← HCE.out] at this
      exact this
    rw [hMM]
    clear hMM e0 e1 e2 e3 e4
    go_enter Tryz.func24,Tryz.ntmps24
    go_upto_region 1 with (refine alF rfl rfl Z HZZ.out ?_)
    try rw [hA1]
    try rw [hr1]
    try rw [hA2]
    try rw [hr2]
    try rw [hW1]
    clear hA1 hA2 hW1
    have HKR:Hid (KR pinE W1 (.slice Q p.length c) p):=HPK.out.1
    have HKO:Hid (p ≠ [] → NB (Own g F X) (.slice Q p.length c)):=fun hp b x n' c' e hs=>HPK.out.2 hp b x n' c' e hs
    go_wp2_with fail
    refine (show Calls _ _ _ _ _ from HX.out).mono ?_
    rintro e w2 ⟨rfl,X2,hs,hB⟩
    have HS2:Hid (Sx w0 w2 g X2 M.1 (i + 1) F V r0 r1 r2 C O Z):=HSX.out.bt hs hB
    have HB2:Hid (Bt W1 g X F w2 X2 M.1):=hB
    have HR2b:Hid (r2 < w2.heap.size):=row_lt HS2.out.h2
    clear hs hB HX c0 c1 c2 c3 c4 c5
    have h1c:=HS2.out.h1
    rw [HOE.out] at h1c
    obtain ⟨c0,c1,c2,c3,c4,c5⟩:=row6 h1c
    clear h1c
    have HY:Hid _:=HYY.out w2 (Or.inr trivial) HS2.out.dv.dc (HKR.out.modP HB2.out.md HKO.out)
    clear HYY HKR HKO
    go_wp2_with (refine ldF C r0 _ rfl rfl rfl HS2.out.h0 HCS.out ?_)
    refine (show Calls _ _ _ _ _ from HY.out).mono ?_
    rintro e w3 ⟨V',rfl,hM⟩
    have HM:Hid (Made F V w2 M.1 V' w3):=hM
    clear hM HY c0 c1 c2 c3 c4 c5
    obtain ⟨N,hN⟩:∃ N,w3.heap.size=N:=⟨_,rfl⟩
    have HN:Hid (w3.heap.size=N):=hN
    clear hN
    go_upto_region 25 with (first
      | (refine alF rfl rfl Z HZZ.out ?_)
      | (refine stF rfl _ _ rfl w3.heap.size (fsC M.1 V') Z rfl rfl rfl (fsC_one HM.out.at_) HZS.out (one_alloc _ _) ?_; intro w5 hr5 hm5))
    have hb5:Below w3.heap.size w3 w5:=((Below.refl _ w3).alloc (Nat.le_refl _) _).trans (hm5.below (Nat.le_refl _) (by simp [World.size_alloc]))
    rw [HN.out] at hr5
    rw [HN.out]
    have HM5:Hid (Made F V w2 M.1 V' w5):=HM.out.after hb5
    have HN5:Hid (w5.heap[N]?=some (.cells (fsC M.1 V') 61)):=hr5
    have HZ5:Hid (w5.heap[r2]?=some (.cells Z 61)):=keep_row HS2.out.h2 HM5.out.bel
    clear hb5 hr5 hm5 HM HN
    have q9:(M.2 == M.2)=true:=beq_self_eq_true _
    go_wp2_with (first
      | (refine ldF (fsC M.1 V') N _ rfl rfl rfl HN5.out rfl ?_)
      | (refine stF rfl _ _ rfl r2 (fsC M.1 V') Z rfl rfl rfl (fsC_one HM5.out.at_) HZS.out HZ5.out ?_; intro W7 hr7 hm7))
    have hlv:=run_loadVar_mid (P:=Tryz.prog) W7 r2 0 61 (fsC M.1 V').toList _ (fun j v hv=>by rw [cell_of_row _ _ _ _ _ _ hr7]; simpa using hv) Tryz.underlying61 rfl (by rw [Array.length_toList,fsC_size]; exact i31)
    rw [Array.toArray_toList] at hlv
    refine bodyPost_ret (v:=.tuple #[.agg (fsC M.1 V'),.bool true]) (by simp [results,Tryz.results24,asAddr,Act.put,hlv,Result.andThen]) rfl ?_
    exact stp_fin HD.out HBW.out HB2.out HS2.out.dv.st (by omega) HM5.out HR2.out.1 HZ5.out HR2b.out hm7
  rw [if_neg e5]
  by_cases e6:k=6
  · subst e6
    rw [if_pos rfl]
    obtain ⟨M,hMM⟩:∃ M,startM F=M:=⟨_,rfl⟩
    have HX:Hid (Calls Tryz.prog 19 #[.pointer (some ⟨g,0,none⟩)] W1 (CalP w0 W1 g X F M.1 (i + 1) (.int .i64 M.2))):=by
      have:=start_cal HSX.out.dv.st
      rw [hMM] at this
      exact this
    have HYY:Hid (∀ W,Bt W1 g X F W X F ∨ True → FsAt F V W → KR pinE W (.slice Q p.length c) p → Calls Tryz.prog 57 #[.agg C] W (RP F V W M)):=fun W _ hW hk=>by
      have:=start_any F V W hW
      rw [hMM,← HCE.out] at this
      exact this
    rw [hMM]
    clear hMM e0 e1 e2 e3 e4 e5
    go_enter Tryz.func24,Tryz.ntmps24
    go_upto_region 1 with (refine alF rfl rfl Z HZZ.out ?_)
    try rw [hA1]
    try rw [hr1]
    try rw [hA2]
    try rw [hr2]
    try rw [hW1]
    clear hA1 hA2 hW1
    have HKR:Hid (KR pinE W1 (.slice Q p.length c) p):=HPK.out.1
    have HKO:Hid (p ≠ [] → NB (Own g F X) (.slice Q p.length c)):=fun hp b x n' c' e hs=>HPK.out.2 hp b x n' c' e hs
    go_wp2_with fail
    refine (show Calls _ _ _ _ _ from HX.out).mono ?_
    rintro e w2 ⟨rfl,X2,hs,hB⟩
    have HS2:Hid (Sx w0 w2 g X2 M.1 (i + 1) F V r0 r1 r2 C O Z):=HSX.out.bt hs hB
    have HB2:Hid (Bt W1 g X F w2 X2 M.1):=hB
    have HR2b:Hid (r2 < w2.heap.size):=row_lt HS2.out.h2
    clear hs hB HX c0 c1 c2 c3 c4 c5
    have h1c:=HS2.out.h1
    rw [HOE.out] at h1c
    obtain ⟨c0,c1,c2,c3,c4,c5⟩:=row6 h1c
    clear h1c
    have HY:Hid _:=HYY.out w2 (Or.inr trivial) HS2.out.dv.dc (HKR.out.modP HB2.out.md HKO.out)
    clear HYY HKR HKO
    go_wp2_with (refine ldF C r0 _ rfl rfl rfl HS2.out.h0 HCS.out ?_)
    refine (show Calls _ _ _ _ _ from HY.out).mono ?_
    rintro e w3 ⟨V',rfl,hM⟩
    have HM:Hid (Made F V w2 M.1 V' w3):=hM
    clear hM HY c0 c1 c2 c3 c4 c5
    obtain ⟨N,hN⟩:∃ N,w3.heap.size=N:=⟨_,rfl⟩
    have HN:Hid (w3.heap.size=N):=hN
    clear hN
    go_upto_region 29 with (first
      | (refine alF rfl rfl Z HZZ.out ?_)
      | (refine stF rfl _ _ rfl w3.heap.size (fsC M.1 V') Z rfl rfl rfl (fsC_one HM.out.at_) HZS.out (one_alloc _ _) ?_; intro w5 hr5 hm5))
    have hb5:Below w3.heap.size w3 w5:=((Below.refl _ w3).alloc (Nat.le_refl _) _).trans (hm5.below (Nat.le_refl _) (by simp [World.size_alloc]))
    rw [HN.out] at hr5
    rw [HN.out]
    have HM5:Hid (Made F V w2 M.1 V' w5):=HM.out.after hb5
    have HN5:Hid (w5.heap[N]?=some (.cells (fsC M.1 V') 61)):=hr5
    have HZ5:Hid (w5.heap[r2]?=some (.cells Z 61)):=keep_row HS2.out.h2 HM5.out.bel
    clear hb5 hr5 hm5 HM HN
    have q9:(M.2 == M.2)=true:=beq_self_eq_true _
    go_wp2_with (first
      | (refine ldF (fsC M.1 V') N _ rfl rfl rfl HN5.out rfl ?_)
      | (refine stF rfl _ _ rfl r2 (fsC M.1 V') Z rfl rfl rfl (fsC_one HM5.out.at_) HZS.out HZ5.out ?_; intro W7 hr7 hm7))
    have hlv:=run_loadVar_mid (P:=Tryz.prog) W7 r2 0 61 (fsC M.1 V').toList _ (fun j v hv=>by rw [cell_of_row _ _ _ _ _ _ hr7]; simpa using hv) Tryz.underlying61 rfl (by rw [Array.length_toList,fsC_size]; exact i31)
    rw [Array.toArray_toList] at hlv
    refine bodyPost_ret (v:=.tuple #[.agg (fsC M.1 V'),.bool true]) (by simp [results,Tryz.results24,asAddr,Act.put,hlv,Result.andThen]) rfl ?_
    exact stp_fin HD.out HBW.out HB2.out HS2.out.dv.st (by omega) HM5.out HR2.out.1 HZ5.out HR2b.out hm7
  rw [if_neg e6]
  by_cases e7:k=7
  · subst e7
    rw [if_pos rfl]
    obtain ⟨F1,f1,hc1⟩:∃ F1 e1,createM F n=(F1,e1):=⟨_,_,rfl⟩
    obtain ⟨M,hMM⟩:∃ M,plantM F n t=M:=⟨_,rfl⟩
    have HMD:Hid (M=if f1=0 then appendM F1 n t else (F1,f1)):=by show _=_; rw [← hMM]; unfold plantM andM; rw [hc1]
    have HX:Hid (Calls Tryz.prog 40 #[.pointer (some ⟨g,0,none⟩),.agg O] W1 (CalP w0 W1 g X F M.1 (i + 2) (.int .i64 M.2))):=by
      have:=planted24_any (o:=⟨7,t,m,a,p,n⟩) HSX.out.dv.st (by have:=HIB.out; omega) HOE.out ⟨HOT.out,HON.out,HOP.out,HOM.out⟩ ⟨_,_,_,rfl⟩
      rw [show plantM F (Qo.mk 7 t m a p n).n (Qo.mk 7 t m a p n).t=M from hMM] at this
      exact this
    have HI1:Hid (Inv F1 (i + 1)):=by have:=inv_create HI.out n; rw [hc1] at this; exact this
    have HYY:Hid (∀ W,FsAt F V W → Calls Tryz.prog 58 #[.agg C,.string n] W (RP F V W (F1,f1))):=fun W hW=>by
      have:=rcreate_i HI.out (by have:=HIB.out; omega) n HON.out W hW
      rw [hc1,← HCE.out] at this
      exact this
    have HYZ:Hid (∀ W V1 C1,C1=fsC F1 V1 → FsAt F1 V1 W → Calls Tryz.prog 59 #[.agg C1,.string n,.string t] W (RP F1 V1 W (appendM F1 n t))):=fun W V1 C1 hC1 hW=>by
      subst hC1
      exact rappend_i HI1.out (by have:=HIB.out; omega) n t HON.out HOT.out W hW
    rw [hMM]
    clear hMM hc1 HSV HLD HTD HOL
    go_enter Tryz.func24,Tryz.ntmps24
    go_upto_region 1 with (refine alF rfl rfl Z HZZ.out ?_)
    try rw [hA1]
    try rw [hr1]
    try rw [hA2]
    try rw [hr2]
    try rw [hW1]
    clear hA1 hA2 hW1
    go_wp2_with (refine ldQ O r1 _ rfl rfl rfl HSX.out.h1 (by rw [HOE.out]; rfl) ?_)
    refine (show Calls _ _ _ _ _ from HX.out).mono ?_
    rintro e w2 ⟨rfl,X2,hs,hB⟩
    have HS2:Hid (Sx w0 w2 g X2 M.1 (i + 2) F V r0 r1 r2 C O Z):=HSX.out.bt hs hB
    have HB2:Hid (Bt W1 g X F w2 X2 M.1):=hB
    have HR2b:Hid (r2 < w2.heap.size):=row_lt HS2.out.h2
    clear hs hB HX c0 c1 c2 c3 c4 c5
    have h1c:=HS2.out.h1
    rw [HOE.out] at h1c
    obtain ⟨c0,c1,c2,c3,c4,c5⟩:=row6 h1c
    clear h1c
    have HY:Hid _:=HYY.out w2 HS2.out.dv.dc
    clear HYY
    go_wp2_with (refine ldF C r0 _ rfl rfl rfl HS2.out.h0 HCS.out ?_)
    refine (show Calls _ _ _ _ _ from HY.out).mono ?_
    rintro e w3 ⟨V1,rfl,hM⟩
    have HM:Hid (Made F V w2 F1 V1 w3):=hM
    clear hM HY c0 c1 c2 c3 c4 c5
    obtain ⟨N,hN⟩:∃ N,w3.heap.size=N:=⟨_,rfl⟩
    have HN:Hid (w3.heap.size=N):=hN
    clear hN
    go_upto_region 33 with (first
      | (refine alF rfl rfl Z HZZ.out ?_)
      | (refine stF rfl _ _ rfl w3.heap.size (fsC F1 V1) Z rfl rfl rfl (fsC_one HM.out.at_) HZS.out (one_alloc _ _) ?_; intro w5 hr5 hm5))
    have hb5:Below w3.heap.size w3 w5:=((Below.refl _ w3).alloc (Nat.le_refl _) _).trans (hm5.below (Nat.le_refl _) (by simp [World.size_alloc]))
    rw [HN.out] at hr5
    rw [HN.out]
    have HM5:Hid (Made F V w2 F1 V1 w5):=HM.out.after hb5
    have HN5:Hid (w5.heap[N]?=some (.cells (fsC F1 V1) 61)):=hr5
    have HAN:Hid (Av (fun k=>k=N) F1 V1):=HM.out.at_.av.weak (fun k e=>by rw [e,HN.out]; exact Nat.le_refl _)
    have HNW:Hid (w2.heap.size ≤ N):=by show _ ≤ _; rw [← HN.out]; exact HM.out.bel.size
    have HZ5:Hid (w5.heap[r2]?=some (.cells Z 61)):=keep_row HS2.out.h2 HM5.out.bel
    have HO5:Hid (w5.heap[r1]?=some (.cells O 47)):=keep_row HS2.out.h1 HM5.out.bel
    clear hb5 hr5 hm5 HM HN
    by_cases hf:f1=0
    · subst hf
      have HMA:Hid (M=appendM F1 n t):=by show _=_; rw [HMD.out,if_pos rfl]
      obtain ⟨C1,hC1⟩:∃ C1,C1=fsC F1 V1:=⟨_,rfl⟩
      have HC1:Hid (C1=fsC F1 V1):=hC1
      have HC1S:Hid (C1.size=9):=by show _=_; rw [hC1]; rfl
      rw [← hC1] at HN5
      have HY:Hid (Calls Tryz.prog 59 #[.agg C1,.string n,.string t] w5 (RP F1 V1 w5 M)):=by
        have:=HYZ.out w5 V1 C1 hC1 HM5.out.at_
        rw [← HMA.out] at this
        exact this
      have h1c:=HO5.out
      rw [HOE.out] at h1c
      obtain ⟨c0,c1,c2,c3,c4,c5⟩:=row6 h1c
      clear h1c hC1 HMD
      go_wp2_with (refine ldF C1 N _ rfl rfl rfl HN5.out HC1S.out ?_)
      refine (show Calls _ _ _ _ _ from HY.out).mono ?_
      rintro e w6 ⟨V',rfl,hM⟩
      have HM6:Hid (Made F1 V1 w5 M.1 V' w6):=hM
      have HN6:Hid (w6.heap[N]?=some (.cells C1 61)):=keep_row HN5.out hM.bel
      have HZ6:Hid (w6.heap[r2]?=some (.cells Z 61)):=keep_row HZ5.out hM.bel
      clear hM HY c0 c1 c2 c3 c4 c5
      go_upto_region 35 with (refine stF rfl _ _ rfl N (fsC M.1 V') C1 rfl rfl rfl (fsC_one HM6.out.at_) HC1S.out HN6.out ?_; intro w7 hr7 hm7)
      have HM7:Hid (Made F V w2 M.1 V' w7):=made_two HM5.out HM6.out HNW.out HN5.out HAN.out hm7
      have HN7:Hid (w7.heap[N]?=some (.cells (fsC M.1 V') 61)):=hr7
      have HZ7:Hid (w7.heap[r2]?=some (.cells Z 61)):=keep_row HS2.out.h2 HM7.out.bel
      clear hr7 hm7 HM6 HN6 HZ6
      have q9:(M.2 == M.2)=true:=beq_self_eq_true _
      go_wp2_with (first
        | (refine ldF (fsC M.1 V') N _ rfl rfl rfl HN7.out rfl ?_)
        | (refine stF rfl _ _ rfl r2 (fsC M.1 V') Z rfl rfl rfl (fsC_one HM7.out.at_) HZS.out HZ7.out ?_; intro W7 hr7 hm7))
      have hlv:=run_loadVar_mid (P:=Tryz.prog) W7 r2 0 61 (fsC M.1 V').toList _ (fun j v hv=>by rw [cell_of_row _ _ _ _ _ _ hr7]; simpa using hv) Tryz.underlying61 rfl (by rw [Array.length_toList,fsC_size]; exact i31)
      rw [Array.toArray_toList] at hlv
      refine bodyPost_ret (v:=.tuple #[.agg (fsC M.1 V'),.bool true]) (by simp [results,Tryz.results24,asAddr,Act.put,hlv,Result.andThen]) rfl ?_
      exact stp_fin HD.out HBW.out HB2.out HS2.out.dv.st (by omega) HM7.out HR2.out.1 HZ7.out HR2b.out hm7
    · have HMA:M=(F1,f1):=by rw [HMD.out,if_neg hf]
      have hfb:(f1 == 0)=false:=beq_eq_false_iff_ne.mpr hf
      subst HMA
      have q9:(f1 == f1)=true:=beq_self_eq_true _
      clear hf
      go_wp2_with (first
        | (refine ldF (fsC F1 V1) N _ rfl rfl rfl HN5.out rfl ?_)
        | (refine stF rfl _ _ rfl r2 (fsC F1 V1) Z rfl rfl rfl (fsC_one HM5.out.at_) HZS.out HZ5.out ?_; intro W7 hr7 hm7))
      have hlv:=run_loadVar_mid (P:=Tryz.prog) W7 r2 0 61 (fsC F1 V1).toList _ (fun j v hv=>by rw [cell_of_row _ _ _ _ _ _ hr7]; simpa using hv) Tryz.underlying61 rfl (by rw [Array.length_toList,fsC_size]; exact i31)
      rw [Array.toArray_toList] at hlv
      refine bodyPost_ret (v:=.tuple #[.agg (fsC F1 V1),.bool true]) (by simp [results,Tryz.results24,asAddr,Act.put,hlv,Result.andThen]) rfl ?_
      exact stp_fin HD.out HBW.out HB2.out HS2.out.dv.st (by omega) HM5.out HR2.out.1 HZ5.out HR2b.out hm7
  rw [if_neg e7]
  have n0:(k == 0)=false:=beq_eq_false_iff_ne.mpr e0
  have n1:(k == 1)=false:=beq_eq_false_iff_ne.mpr e1
  have n2:(k == 2)=false:=beq_eq_false_iff_ne.mpr e2
  have n3:(k == 3)=false:=beq_eq_false_iff_ne.mpr e3
  have n4:(k == 4)=false:=beq_eq_false_iff_ne.mpr e4
  have n5:(k == 5)=false:=beq_eq_false_iff_ne.mpr e5
  have n6:(k == 6)=false:=beq_eq_false_iff_ne.mpr e6
  have n7:(k == 7)=false:=beq_eq_false_iff_ne.mpr e7
  clear e0 e1 e2 e3 e4 e5 e6 e7 HSV HLD HTD HOL
  go_enter Tryz.func24,Tryz.ntmps24
  go_upto_region 1 with (refine alF rfl rfl Z HZZ.out ?_)
  try rw [hA1]
  try rw [hr1]
  try rw [hA2]
  try rw [hr2]
  try rw [hW1]
  clear hA1 hA2 hW1
  have HCC:Hid (C.all (·.oneCell')=true):=by show _=_; rw [HCE.out]; exact fsC_one HSX.out.dv.dc
  go_wp2_with (first
    | (refine ldF C r0 _ rfl rfl rfl HSX.out.h0 HCS.out ?_)
    | (refine stF rfl _ _ rfl r2 C Z rfl rfl HCS.out HCC.out HZS.out HSX.out.h2 ?_; intro W7 hr7 hm7))
  have hlv:=run_loadVar_mid (P:=Tryz.prog) W7 r2 0 61 C.toList _ (fun j v hv=>by rw [cell_of_row _ _ _ _ _ _ hr7]; simpa using hv) Tryz.underlying61 rfl (by rw [Array.length_toList,HCS.out]; exact i31)
  rw [Array.toArray_toList] at hlv
  refine bodyPost_ret (v:=.tuple #[.agg C,.bool true]) (by simp [results,Tryz.results24,asAddr,Act.put,hlv,Result.andThen]) rfl ?_
  rw [HCE.out]
  exact stp_fin HD.out HBW.out (Bt.refl W1 g X F) HSX.out.dv.st (by omega) (Made.idem HSX.out.dv.dc (Below.refl _ _)) HR2.out.1 HSX.out.h2 HR2.out.2.1 hm7
end Go.Proofs.YtbgbmfmgdgalbaaGreatDoor
