import Derived.Test.YtiefeeoellagnaaGreatDoorAD
import Derived.RecoverIn
import Derived.Test.YtiefeeoellagnaaGreatDoorAB
import Derived.Test.YtiefeeoellagnaaGreatDoorAN
import Derived.Laws.BytesArg
namespace Go.Proofs.YtiefeeoellagnaaGreatDoor.S6
open Go.RowKit
set_option linter.unusedVariables false
attribute [local go_sem] Oper.semAt_some
theorem row1 {w:World} {g T:Nat} {v0:Value} (h:w.heap[g]?=some (.cells #[v0] T)):w.cell? ⟨g,0,none⟩=some v0∧∀ j,w.frozen? ⟨g,j,none⟩=false:=by
  refine ⟨?_,fun j=>frozen_of_row _ _ _ _ _ h⟩ <;> rw [cell_of_row _ _ _ _ _ _ h] <;> rfl
def spoilt (W:World) (L E:Nat):World:=((W.setCell ⟨L,0,none⟩ (.string ⟨#[]⟩)).setCell ⟨L,1,none⟩ (.int .i64 0)).setCell ⟨E,0,none⟩ (.int .i64 60)
theorem catch_p (n L E:Nat) (b:ByteArray) (c x:Int) (w:World) (hL:w.heap[L]?=some (.cells #[.string b,.int .i64 c] 349)) (hE:w.heap[E]?=some (.cells #[.int .i64 x] 28)) :
    CallsDIn Fence.wide n Tryz.prog 316 #[.pointer (some ⟨L,0,none⟩),.pointer (some ⟨E,0,none⟩)] (.panicking pch) w fun e u' w' =>
      e=.returned (.tuple #[])∧settle u'=.returning∧w'=spoilt w L E:=by
  obtain ⟨l0,l1,lf⟩:=prow2 hL
  obtain ⟨e0,ef⟩:=row1 hE
  have hne:L ≠ E:=by rintro rfl; rw [hL] at hE; cases hE
  refine callsDIn_of_wpSIn Tryz.func316 rfl trivial fun c₀ cs hu=>?_
  apply wpSIn_seq
  apply wpSIn_region
  simp [wpOpsSIn,go_sem,recoverD,hu,Tryz.ntmps316,Exit.thenS,pch]
  refine wpSIn_cond (t:=true) (by simp [Act.eval,Array.replicate]) ?_
  simp only [if_true]
  refine wpSIn_of_wpIn rfl ?_
  have hst:(#[Value.pointer (some ⟨L,0,none⟩),Value.pointer (some ⟨E,0,none⟩)] ++ ((Array.replicate 3 undef).setIfInBounds 0 (Value.iface 28 (Value.int IntKind.i64 60))).setIfInBounds 1 (Value.bool true))=#[Value.pointer (some ⟨L,0,none⟩),Value.pointer (some ⟨E,0,none⟩),Value.iface 28 (Value.int IntKind.i64 60),Value.bool true,undef]:=by rfl
  rw [hst]
  clear hst
  gi_wp2
  refine ⟨rfl,_,rfl,.tuple #[],?_,rfl,rfl,rfl⟩
  exact results_none rfl _ _ _
theorem catch_i (n L E:Nat) (w:World) :
    CallsDIn Fence.wide n Tryz.prog 316 #[.pointer (some ⟨L,0,none⟩),.pointer (some ⟨E,0,none⟩)] .returning w fun e u' w' =>
      e=.returned (.tuple #[])∧u'=.returning∧w'=w:=by
  refine callsDIn_of_wpSIn Tryz.func316 rfl trivial fun c₀ cs hu=>?_
  apply wpSIn_seq
  apply wpSIn_region
  simp [wpOpsSIn,go_sem,recoverD,hu,Tryz.ntmps316,Exit.thenS]
  refine wpSIn_cond (t:=false) (by simp [Act.eval,Array.replicate]) ?_
  simp only [Bool.false_eq_true,if_false]
  refine wpSIn_of_wpIn rfl (wpIn_skip ?_)
  cases c₀
  simp_all [bodyPostS,results,Tryz.results316]
end Go.Proofs.YtiefeeoellagnaaGreatDoor.S6
namespace Go.Proofs.YtiefeeoellagnaaGreatDoor.S6
open Go.RowKit
set_option linter.unusedVariables false
attribute [local go_sem] Oper.semAt_some
def rdP (p:ByteArray) (w0:World) (e:Ending) (W:World):Prop:=
  ((∃ l,LM.Pk p.data.toList l∧e=.returned (.tuple #[.agg #[.string (strB (LM.bodyOf l)),.int .i64 (l.length:Int)],.int .i64 0])) ∨
    ((∀ l,¬ LM.Pk p.data.toList l)∧e=.returned (.tuple #[.agg #[.string ⟨#[]⟩,.int .i64 0],.int .i64 60])))∧Below w0.heap.size w0 W
theorem res_read {W:World} {L E:Nat} {b:ByteArray} {c x:Int} {tmps:Array Value} (h2:tmps[2]?=some (.pointer (some ⟨L,0,none⟩))) (h3:tmps[3]?=some (.pointer (some ⟨E,0,none⟩)))
    (hL:W.heap[L]?=some (.cells #[.string b,.int .i64 c] 349)) (hE:W.heap[E]?=some (.cells #[.int .i64 x] 28)) :
    (results Tryz.f257 tmps).run Tryz.prog W=.ok (.tuple #[.agg #[.string b,.int .i64 c],.int .i64 x]) W:=by
  obtain ⟨l0,l1,lf⟩:=prow2 hL
  obtain ⟨e0,ef⟩:=row1 hE
  simp [results,Tryz.results257,go_sem,l0,l1,e0,h2,h3]
def dfr (L E:Nat):Deferred:={ target:=.fn (.func 316) #[.pointer (some ⟨L,0,none⟩),.pointer (some ⟨E,0,none⟩)],args:=#[] }
theorem leave_bad {n:Nat} {p:ByteArray} {w0 W:World} {L E:Nat} {b:ByteArray} {c x:Int} {tmps:Array Value} (h2:tmps[2]?=some (.pointer (some ⟨L,0,none⟩))) (h3:tmps[3]?=some (.pointer (some ⟨E,0,none⟩)))
    (hL:W.heap[L]?=some (.cells #[.string b,.int .i64 c] 349)) (hE:W.heap[E]?=some (.cells #[.int .i64 x] 28)) (hbl:w0.heap.size ≤ L) (hbe:w0.heap.size ≤ E) (hb:Below w0.heap.size w0 W)
    (hno:∀ l,¬ LM.Pk p.data.toList l):LeavesInM Fence.wide n Tryz.prog Tryz.f257 tmps (rdP p w0) [dfr L E] (.panicking pch) W:=by
  have hne:E ≠ L:=by rintro rfl; rw [hL] at hE; cases hE
  refine ⟨by simp,Or.inr ⟨(fun h=>(by cases h)),_,_,316,_,rfl,(by simp [dfr,go_sem,invoke]),fun _ _=>trivial,(catch_p _ L E b c x W hL hE).mono ?_⟩⟩
  rintro e u' w' ⟨rfl,hu,rfl⟩
  show LeavesInM _ _ _ _ _ _ [] (settle u') _
  rw [hu]
  have hL2:(spoilt W L E).heap[L]?=some (.cells #[.string ⟨#[]⟩,.int .i64 0] 349):=by
    unfold spoilt
    rw [heap_setCell_other _ _ _ _ hne.symm,heap_setCell_same _ _ _ _ _ _ (heap_setCell_same _ _ _ _ _ _ hL)]; rfl
  have hE2:(spoilt W L E).heap[E]?=some (.cells #[.int .i64 60] 28):=by
    unfold spoilt
    rw [heap_setCell_same _ _ _ _ _ _ ((heap_setCell_other _ _ _ _ hne).trans ((heap_setCell_other _ _ _ _ hne).trans hE))]; rfl
  refine ⟨_,res_read h2 h3 hL2 hE2,Or.inr ⟨hno,rfl⟩,?_⟩
  unfold spoilt
  exact ((hb.setCell (p:=⟨L,0,none⟩) hbl _).setCell (p:=⟨L,1,none⟩) hbl _).setCell (p:=⟨E,0,none⟩) hbe _
def mrk (D:Nat):Deferred:={ target:=.collected D,args:=#[] }
theorem put_keep {W:World} {k D:Nat} {o o':Obj} (h:W.heap[k]?=some o) (hne:k ≠ D):(W.putObj D o').heap[k]?=some o:=(World.putObj_heap_other hne).trans h
theorem put_below {w0 W:World} {D:Nat} {o':Obj} (hb:Below w0.heap.size w0 W) (hD:w0.heap.size ≤ D):Below w0.heap.size w0 (W.putObj D o'):=
  hb.trans ⟨rfl,rfl,rfl,by simp,fun k hk=>World.putObj_heap_other (by omega)⟩
theorem leave_bad_m {n D:Nat} {p:ByteArray} {w0 W:World} {L E:Nat} {b:ByteArray} {c x:Int} {tmps:Array Value} (hD:W.heap[D]?=some (.deferred (some []))) (hD0:w0.heap.size ≤ D) (h2:tmps[2]?=some (.pointer (some ⟨L,0,none⟩))) (h3:tmps[3]?=some (.pointer (some ⟨E,0,none⟩)))
    (hL:W.heap[L]?=some (.cells #[.string b,.int .i64 c] 349)) (hE:W.heap[E]?=some (.cells #[.int .i64 x] 28)) (hbl:w0.heap.size ≤ L) (hbe:w0.heap.size ≤ E) (hb:Below w0.heap.size w0 W)
    (hno:∀ l,¬ LM.Pk p.data.toList l):LeavesInM Fence.wide n Tryz.prog Tryz.f257 tmps (rdP p w0) [mrk D,dfr L E] (.panicking pch) W:=by
  have h1:L ≠ D:=by rintro rfl; rw [hL] at hD; cases hD
  have h1':E ≠ D:=by rintro rfl; rw [hE] at hD; cases hD
  exact ⟨by simp,.inl ⟨_,_,rfl,run_takeDeferred hD,leave_bad h2 h3 (put_keep hL h1) (put_keep hE h1') hbl hbe (put_below hb hD0) hno⟩⟩
theorem leave_ok_m {n D:Nat} {p:ByteArray} {w0 W:World} {L E:Nat} {l:List LM.Item} {tmps:Array Value} (hD:W.heap[D]?=some (.deferred (some []))) (hD0:w0.heap.size ≤ D) (h2:tmps[2]?=some (.pointer (some ⟨L,0,none⟩))) (h3:tmps[3]?=some (.pointer (some ⟨E,0,none⟩)))
    (hL:W.heap[L]?=some (.cells #[.string (strB (LM.bodyOf l)),.int .i64 (l.length:Int)] 349)) (hE:W.heap[E]?=some (.cells #[.int .i64 0] 28)) (hb:Below w0.heap.size w0 W)
    (hpk:LM.Pk p.data.toList l):LeavesInM Fence.wide n Tryz.prog Tryz.f257 tmps (rdP p w0) [mrk D,dfr L E] .returning W:=by
  have h1:L ≠ D:=by rintro rfl; rw [hL] at hD; cases hD
  have h1':E ≠ D:=by rintro rfl; rw [hE] at hD; cases hD
  refine ⟨by simp,.inl ⟨_,_,rfl,run_takeDeferred hD,?_⟩⟩
  refine ⟨by simp,Or.inr ⟨(fun h=>(by cases h)),_,_,316,_,rfl,(by simp [dfr,go_sem,invoke]),fun _ _=>trivial,(catch_i _ L E _).mono ?_⟩⟩
  rintro e u' w' ⟨rfl,rfl,rfl⟩
  exact ⟨_,res_read h2 h3 (put_keep hL h1) (put_keep hE h1'),Or.inl ⟨l,hpk,rfl⟩,put_below hb hD0⟩
end Go.Proofs.YtiefeeoellagnaaGreatDoor.S6
namespace Go.Proofs.YtiefeeoellagnaaGreatDoor.S6
open Go.RowKit
set_option linter.unusedVariables false
attribute [local go_sem] Oper.semAt_some
set_option maxHeartbeats 1000000 in
set_option maxRecDepth 100000 in
theorem tail_ok {r0 r1 r2 r3 r4 r5 c:Code} (hc:Tryz.f257.body=some (.seq r0 (.seq r1 (.seq r2 (.seq r3 (.seq r4 (.seq r5 c))))))) (p Bo:ByteArray) (cnt D:Nat) (w W:World) (Q2:ByteArray) (Z M:Int) (hQ2:p.extract 4 6=Q2) (hp6:(6:Int) ≤ (p.size:Int)) (hM:min (cnt:Int) 65535=M) (hlo:∀ W,Calls Tryz.prog 318 #[.string Q2] W fun e w'=>e=.returned (.int .i64 Z)∧w'=W) (hc20:cnt ≤ 1048576) (hzt:(Z == M)=true) (l:List LM.Item) (hpk:LM.Pk p.data.toList l) (hcl:cnt=l.length) (hbd:Bo=strB (LM.bodyOf l)) (hBD:w.heap.size ≤ D)
    (hL:W.heap[w.heap.size]?=some (.cells #[.string Bo,.int .i64 (cnt:Int)] 349)) (hE:W.heap[w.heap.size + 1]?=some (.cells #[.int .i64 0] 28)) (hB:Below w.heap.size w W) (hD:W.heap[D]?=some (.deferred (some []))) {u1 u4 u5 u6 u7 u8 u9 u10 u11 u12 u13 u14 u15 u16 u17 u18 u19 u20 u21 u22 u23 u24 u25 u26 u27 u28 u29 u30 u31 u32 u33 u34 u35 u36 u37 u38 u39 u40 u41 u42 u43 u44 u45 u46 u47 u48 u49 u50 u51 u52 u53 u54 u55 u56 u57 u58 u59 u60:Value} :
    WpB Tryz.prog 257 c (bodyPostM Fence.wide 10 Tryz.prog Tryz.f257 (rdP p w)) { tmps:=#[.string p,u1,.pointer (some ⟨w.heap.size,0,none⟩),.pointer (some ⟨w.heap.size + 1,0,none⟩),u4,u5,u6,u7,u8,u9,u10,u11,u12,u13,u14,u15,u16,u17,u18,u19,u20,u21,u22,u23,u24,u25,u26,u27,u28,u29,u30,u31,u32,u33,u34,u35,u36,u37,u38,u39,u40,u41,u42,u43,u44,u45,u46,u47,u48,u49,u50,u51,u52,u53,u54,u55,u56,u57,u58,u59,u60],defers:=[mrk D,dfr w.heap.size (w.heap.size + 1)] } W:=by
  simp only [Tryz.f257,Option.some.injEq,Code.seq.injEq] at hc
  obtain ⟨-,-,-,-,-,-,rfl⟩:=hc
  have hdc:decide ((cnt:Int) ≤ 1048576)=true:=dec_t (by omega)
  obtain ⟨d0,d1,df⟩:=prow2 hL
  have HL:Hid _:=hL
  have HE:Hid _:=hE
  have HB:Hid (Below w.heap.size w W):=hB
  have HDR:Hid _:=hD
  have HLO2:Hid _:=hlo
  have HPK:Hid _:=hpk
  have HCL:Hid _:=hcl
  have HBD:Hid _:=hbd
  clear hc20 hL hE hB hD hlo hpk hcl hbd
  refine wpB_then (n:=10) (wpIn_wide.2 ?_)
  go_quiet ((first
    | (go_at_call 318; exact Calls.quiet_of_same (show Calls _ _ _ _ _ from HLO2.out _))
    | (go_at_call 317; exact Calls.quiet_of_same (must_ok _))))
  obtain ⟨W5,hW5⟩:∃ W5,W.drewN nq=W5:=⟨_,rfl⟩
  have HL5:Hid (W5.heap[w.heap.size]?=some (.cells #[.string Bo,.int .i64 (cnt:Int)] 349)):=by rw [← hW5]; exact HL.out
  have HE5:Hid (W5.heap[w.heap.size + 1]?=some (.cells #[.int .i64 0] 28)):=by rw [← hW5]; exact HE.out
  have HD5:Hid (W5.heap[D]?=some (.deferred (some []))):=by rw [← hW5]; exact HDR.out
  have HB5:Hid (Below w.heap.size w W5):=by rw [← hW5]; exact below_dn HB.out nq
  rw [hW5]
  clear hW5 d0 d1 df
  obtain ⟨d0,d1,df⟩:=prow2 HL5.out
  obtain ⟨e0,ef⟩:=row1 HE5.out
  show WpB _ _ _ _ _ _
  refine wpB_then (n:=10) ?_
  gi_wp2
  obtain ⟨W6,hW6⟩:∃ W6,(((W5.setCell ⟨w.heap.size,0,none⟩ (.string Bo)).setCell ⟨w.heap.size,1,none⟩ (.int .i64 (cnt:Int))).setCell ⟨w.heap.size + 1,0,none⟩ (.int .i64 0))=W6:=⟨_,rfl⟩
  have hl6:W6.heap[w.heap.size]?=some (.cells #[.string Bo,.int .i64 (cnt:Int)] 349):=by
    rw [← hW6,heap_setCell_other _ _ _ _ (show w.heap.size ≠ w.heap.size + 1 by omega),heap_setCell_same _ _ _ _ _ _ (heap_setCell_same _ _ _ _ _ _ HL5.out)]; rfl
  have he6:W6.heap[w.heap.size + 1]?=some (.cells #[.int .i64 0] 28):=by
    rw [← hW6,heap_setCell_same _ _ _ _ _ _ ((heap_setCell_other _ _ _ _ (show w.heap.size + 1 ≠ w.heap.size by omega)).trans ((heap_setCell_other _ _ _ _ (show w.heap.size + 1 ≠ w.heap.size by omega)).trans HE5.out))]; rfl
  have hDn:D ≠ w.heap.size:=by rintro rfl; have:=HD5.out; rw [HL5.out] at this; cases this
  have hDn':D ≠ w.heap.size + 1:=by rintro rfl; have:=HD5.out; rw [HE5.out] at this; cases this
  have hd6:W6.heap[D]?=some (.deferred (some [])):=by
    rw [← hW6,heap_setCell_other _ _ _ _ hDn',heap_setCell_other _ _ _ _ hDn,heap_setCell_other _ _ _ _ hDn]; exact HD5.out
  have hb6:Below w.heap.size w W6:=by
    rw [← hW6]; exact ((HB5.out.setCell (p:=⟨w.heap.size,0,none⟩) (Nat.le_refl _) _).setCell (p:=⟨w.heap.size,1,none⟩) (Nat.le_refl _) _).setCell (p:=⟨w.heap.size + 1,0,none⟩) (by show w.heap.size ≤ w.heap.size + 1; omega) _
  rw [hW6]
  refine wpB_of (n:=10) ?_
  gi_wp2
  rw [HCL.out,HBD.out] at hl6
  exact leave_ok_m hd6 hBD rfl rfl hl6 he6 hb6 HPK.out
end Go.Proofs.YtiefeeoellagnaaGreatDoor.S6
namespace Go.Proofs.YtiefeeoellagnaaGreatDoor.S6
open Go.RowKit Vi
set_option linter.unusedVariables false

theorem cons_str (b:UInt8) (l:List UInt8):(⟨#[b]⟩:ByteArray) ++ ⟨l.toArray⟩=⟨(b :: l).toArray⟩:=by
  apply ByteArray.ext
  simp
theorem conv1 (w:World) (T:TypeId) (x:Int) :
    Sem.run Tryz.prog (convert 218 9 (.slice (some ⟨w.heap.size,0,none⟩) 1 1)) (w.alloc (.cells #[.int .u8 x] T)) =
      .ok (.string (strOfNums [x])) (w.alloc (.cells #[.int .u8 x] T)):=by
  refine run_convert_bytes_arg _ 218 5 Tryz.underlying218 Tryz.underlying5 w.heap.size 0 1 1 _ rfl ?_ 9 Tryz.underlying9
  intro i hi
  rw [World.cell?_alloc_at _ _ _ _ rfl]
  match i,hi with
  | 0,_=>rfl
theorem digit_str (u:Nat) (r:List UInt8):strOfNums [48 + (u:Int) % 10] ++ (⟨r.toArray⟩:ByteArray)=⟨(UInt8.ofNat (48 + u % 10) :: r).toArray⟩:=by
  have e:strOfNums [48 + (u:Int) % 10]=⟨#[UInt8.ofNat (48 + u % 10)]⟩:=by
    unfold strOfNums
    simp only [List.map]
    rw [show ((48 + (u:Int) % 10).toNat)=48 + u % 10 by omega]
  rw [e,cons_str]
theorem one_size (x:Int):(strOfNums [x]).size=1:=rfl
def upper (u:Nat):List UInt8:=if u=0 then [] else Lib.decDigits u
theorem upper_step (u:Nat) (r:List UInt8) (h:u ≠ 0):upper (u / 10) ++ (UInt8.ofNat (48 + u % 10) :: r)=upper u ++ r:=by
  unfold upper
  rw [if_neg h]
  exact digits_step u r
theorem upper_len {u N:Nat} {r:List UInt8} (h:upper u ++ r=Lib.decDigits N) (hN:N < 18446744073709551616):r.length ≤ 20:=by
  have h1:=congrArg List.length h
  rw [List.length_append,Lib.decDigits_length] at h1
  have h2:=Lib.nDigits_le20 N hN
  omega

set_option maxHeartbeats 400000 in
theorem refDigits_zero (w:World) :
    Calls Tryz.prog 178 #[.int .i64 0] w fun e w'=>e=.returned (.string (itoaB 0))∧Below w.heap.size w w':=by
  have HI:Hid (itoaB 0=⟨#[48]⟩):=by show _=_; unfold itoaB; rw [show Lib.itoa 0=[48] by decide +kernel]
  go_enter Tryz.func178,Tryz.ntmps178
  go_wp2
  go_ret
  exact ⟨by rw [HI.out]; rfl,Below.refl _ _⟩
set_option maxHeartbeats 1000000 in
set_option maxRecDepth 20000 in
theorem refDigits_pos (N:Nat) (h0:1 ≤ N) (h1:N ≤ 9223372036854775807) (w:World) :
    Calls Tryz.prog 178 #[.int .i64 (N:Int)] w fun e w'=>e=.returned (.string (itoaB N))∧Below w.heap.size w w':=by
  have HI:Hid (itoaB N=⟨(Lib.decDigits N).toArray⟩):=by show _=_; unfold itoaB; rw [Lib.itoa_nonneg]
  have hn0:((N:Int) == 0)=false:=by simp; omega
  have hng:decide ((N:Int) < 0)=false:=by simp
  have HN:Hid (N ≤ 9223372036854775807∧1 ≤ N):=⟨h1,h0⟩
  clear h0 h1
  go_enter Tryz.func178,Tryz.ntmps178
  go_wp2
  go_loopw [3,4,5] (fun t m d wr=>∃ (u:Nat) (r:List UInt8),u ≤ N∧m=.int .i64 (u:Int)∧t=.string ⟨r.toArray⟩∧upper u ++ r=Lib.decDigits N∧Below w.heap.size w wr) (fun _ m _ _=>(intOf m).toNat)
  case atStart=>exact ⟨N,[],by omega,rfl,rfl,by unfold upper; rw [if_neg (by have:=HN.out; omega)]; simp,Below.refl _ _⟩
  case round =>
    obtain ⟨u,r,hu,rfl,rfl,hr,hbel⟩:=hrel
    have HR:Hid (upper u ++ r=Lib.decDigits N):=hr
    clear hr
    by_cases hz:u=0
    · subst hz
      go_wp2
      go_ret
      exact ⟨by rw [HI.out,← HR.out]; rfl,hbel⟩
    · have hne:((u:Int) != 0)=true:=by simp; omega
      have HS:Hid _:=digit_str u r
      have HU:Hid (upper (u / 10) ++ (UInt8.ofNat (48 + u % 10) :: r)=Lib.decDigits N):=by show _=_; rw [upper_step u r hz]; exact HR.out
      have hcv:=conv1 wr
      have hub:(u:Int) ≤ 9223372036854775807:=by have:=HN.out; omega
      have hu0:0 ≤ (u:Int):=by omega
      have hd:decide ((u:Int) % 10 < 0)=false:=by simp; omega
      have hrl:=upper_len HR.out (by have:=HN.out; omega)
      have hsz:=one_size (48 + (u:Int) % 10)
      have HD:Hid (u ≤ N):=hu
      clear hu
      go_wp2
      go_roundw
      case rel =>
        refine ⟨u / 10,_,by have:=HD.out; omega,by go_num,by rw [HS.out],HU.out,hbel.alloc hbel.size _⟩
      case measure=>simp [intOf]; omega
theorem tmod_neg (u:Nat):(-(u:Int)).tmod 10=-((u:Int) % 10):=by
  rw [Int.neg_tmod,Int.tmod_eq_emod_of_nonneg (by omega)]
theorem tdiv_neg (u:Nat):(-(u:Int)).tdiv 10=-((u:Int) / 10):=by
  rw [Int.neg_tdiv,Int.tdiv_eq_ediv_of_nonneg (by omega)]
set_option maxHeartbeats 1000000 in
set_option maxRecDepth 20000 in
theorem refDigits_neg (N:Nat) (h0:1 ≤ N) (h1:N ≤ 9223372036854775808) (w:World) :
    Calls Tryz.prog 178 #[.int .i64 (-(N:Int))] w fun e w'=>e=.returned (.string (itoaB (-(N:Int))))∧Below w.heap.size w w':=by
  have HI:Hid (itoaB (-(N:Int))=⟨(45 :: Lib.decDigits N).toArray⟩):=by show _=_; unfold itoaB; rw [Lib.itoa_neg N h0]
  have hn0:((-(N:Int)) == 0)=false:=by simp; omega
  have hng:decide (-(N:Int) < 0)=true:=by simp; omega
  have hNp:0 < N:=h0
  have HN:Hid (N ≤ 9223372036854775808∧1 ≤ N):=⟨h1,h0⟩
  clear h0 h1
  go_enter Tryz.func178,Tryz.ntmps178
  go_wp2
  go_loopw [3,4,5] (fun t m d wr=>∃ (u:Nat) (r:List UInt8),u ≤ N∧m=.int .i64 (-(u:Int))∧t=.string ⟨r.toArray⟩∧upper u ++ r=Lib.decDigits N∧Below w.heap.size w wr) (fun _ m _ _=>(-(intOf m)).toNat)
  case atStart=>exact ⟨N,[],by omega,rfl,rfl,by unfold upper; rw [if_neg (by have:=HN.out; omega)]; simp,Below.refl _ _⟩
  case round =>
    obtain ⟨u,r,hu,rfl,rfl,hr,hbel⟩:=hrel
    have HR:Hid (upper u ++ r=Lib.decDigits N):=hr
    clear hr
    have hrl:=upper_len HR.out (by have:=HN.out; omega)
    by_cases hz:u=0
    · subst hz
      have HC:Hid _:=cons_str 45 r
      rw [show (-((0:Nat):Int))=0 from rfl]
      go_wp2
      go_ret
      exact ⟨by rw [HI.out,← HR.out,show upper 0 ++ r=r from rfl,← HC.out]; rfl,hbel⟩
    · have hne:((-(u:Int)) != 0)=true:=by simp; omega
      have HS:Hid _:=digit_str u r
      have HU:Hid (upper (u / 10) ++ (UInt8.ofNat (48 + u % 10) :: r)=Lib.decDigits N):=by show _=_; rw [upper_step u r hz]; exact HR.out
      have hcv:=conv1 wr
      have hub:(u:Int) ≤ 9223372036854775808:=by have:=HN.out; omega
      have hu0:0 ≤ (u:Int):=by omega
      have htm:=tmod_neg u
      have htd:=tdiv_neg u
      have hsz:=one_size (48 + (u:Int) % 10)
      have HD:Hid (u ≤ N):=hu
      clear hu
      by_cases hd:(u:Int) % 10=0
      · have HZ:Hid (strOfNums [48] ++ (⟨r.toArray⟩:ByteArray)=⟨(UInt8.ofNat (48 + u % 10) :: r).toArray⟩):=by
          show _=_
          have:=HS.out
          rw [hd] at this
          exact this
        have hsz2:=one_size 48
        go_wp2
        go_roundw
        case rel=>exact ⟨u / 10,_,by have:=HD.out; omega,by go_num,by rw [HZ.out],HU.out,hbel.alloc hbel.size _⟩
        case measure=>simp [intOf]; omega
      · have hd1:0 < (u:Int) % 10:=by omega
        go_wp2
        go_roundw
        case rel=>exact ⟨u / 10,_,by have:=HD.out; omega,by go_num,by rw [HS.out],HU.out,hbel.alloc hbel.size _⟩
        case measure=>simp [intOf]; omega
theorem refDigits_any (n:Int) (h0:-9223372036854775808 ≤ n) (h1:n ≤ 9223372036854775807) (w:World) :
    Calls Tryz.prog 178 #[.int .i64 n] w fun e w'=>e=.returned (.string (itoaB n))∧Below w.heap.size w w':=by
  rcases Int.lt_trichotomy n 0 with h | h | h
  · obtain ⟨N,rfl⟩:∃ N:Nat,n=-(N:Int):=⟨n.natAbs,by omega⟩
    exact refDigits_neg N (by omega) (by omega) w
  · subst h
    exact refDigits_zero w
  · obtain ⟨N,rfl⟩:∃ N:Nat,n=(N:Int):=⟨n.toNat,by omega⟩
    exact refDigits_pos N (by omega) (by omega) w
end Go.Proofs.YtiefeeoellagnaaGreatDoor.S6
namespace Go.Proofs.YtiefeeoellagnaaGreatDoor.S6
open Go.RowKit Vi
set_option linter.unusedVariables false

theorem itoaB_list (n:Int):(itoaB n).data.toList=Lib.itoa n:=by unfold itoaB; simp
theorem neg_of (s:ByteArray) (hs:0 < s.size):isNeg s.data.toList=(s[0] == 45):=by
  rw [head_tl s hs]; rfl
structure NumAt (l:List UInt8) (k:Nat) (x:Int) (m:Nat):Prop where
  dec:Lib.decFrom 0 ((body l).take (k - off l))=some m
  val:x=w64 (sg (isNeg l) m)
theorem NumAt.start (l:List UInt8):NumAt l 0 0 0:=⟨by simp [Lib.decFrom],by unfold sg w64; cases isNeg l <;> simp⟩
theorem NumAt.skip {l:List UInt8} {x:Int} {m:Nat} (h:NumAt l 0 x m) (ho:off l=1):NumAt l 1 x m:=⟨by rw [ho]; have:=h.dec; rw [ho] at this; exact this,h.val⟩
theorem NumAt.range {l:List UInt8} {k:Nat} {x:Int} {m:Nat} (h:NumAt l k x m):-9223372036854775808 ≤ x∧x ≤ 9223372036854775807:=by rw [h.val]; exact w64_range _
theorem body_get (l:List UInt8) (k:Nat) (hk:off l ≤ k):(body l)[k - off l]?=l[k]?:=by
  rw [← body_drop,List.getElem?_drop,show off l + (k - off l)=k by omega]
theorem dig_val {c:UInt8} (h0:48 ≤ c.toNat) (h1:c.toNat ≤ 57):Lib.digitVal c=some (c.toNat - 48):=by unfold Lib.digitVal; rw [if_pos ⟨h0,h1⟩]
theorem NumAt.dec_step {l:List UInt8} {k:Nat} {x:Int} {m:Nat} (h:NumAt l k x m) (hk:off l ≤ k) (c:UInt8) (hc:l[k]?=some c) (h0:48 ≤ c.toNat) (h1:c.toNat ≤ 57) :
    Lib.decFrom 0 ((body l).take (k + 1 - off l))=some (m * 10 + (c.toNat - 48)):=by
  rw [show k + 1 - off l=(k - off l) + 1 by omega]
  exact Lib.decFrom_take _ _ _ _ _ _ h.dec (by rw [body_get l k hk]; exact hc) (dig_val h0 h1)
theorem NumAt.pos {l:List UInt8} {k:Nat} {x:Int} {m:Nat} (h:NumAt l k x m) (hn:isNeg l=false) (c:UInt8) (hc:l[k]?=some c) (h0:48 ≤ c.toNat) (h1:c.toNat ≤ 57) :
    NumAt l (k + 1) (w64 (w64 (x * 10) + ((c.toNat:Int) - 48))) (m * 10 + (c.toNat - 48)):=by
  refine ⟨h.dec_step (by unfold off; rw [hn]; simp) c hc h0 h1,?_⟩
  rw [h.val,hn,← w64_step_pos]
  congr 2
  omega
theorem NumAt.neg {l:List UInt8} {k:Nat} {x:Int} {m:Nat} (h:NumAt l k x m) (hn:isNeg l=true) (hk:1 ≤ k) (c:UInt8) (hc:l[k]?=some c) (h0:48 ≤ c.toNat) (h1:c.toNat ≤ 57) :
    NumAt l (k + 1) (w64 (w64 (x * 10) + -((c.toNat:Int) - 48))) (m * 10 + (c.toNat - 48)):=by
  refine ⟨h.dec_step (by unfold off; rw [hn]; simpa using hk) c hc h0 h1,?_⟩
  rw [h.val,hn,← w64_step_neg]
  congr 3
  omega
theorem NumAt.end {l:List UInt8} {x:Int} {m:Nat} (h:NumAt l l.length x m):numberOf l=if Lib.itoa x=l then some x else none:=by
  have hd:=h.dec
  rw [List.take_of_length_le (by rw [← body_drop]; simp)] at hd
  have:=end_number l m hd
  rw [← h.val] at this
  exact this

theorem w64_wrap6 (x:Int):w64 x=wrap64 x:=by unfold w64 wrap64; rfl
theorem str48 {s:ByteArray} {x:Int} (h:Lib.itoa x=s.data.toList):((itoaB x).toList == s.toList)=true:=str_same (by rw [itoaB_list]; exact h)
theorem str48' {s:ByteArray} {x:Int} (h:¬ Lib.itoa x=s.data.toList):((itoaB x).toList == s.toList)=false:=str_other (by rw [itoaB_list]; exact h)

set_option maxHeartbeats 1000000 in
set_option maxRecDepth 20000 in
theorem refNumber_pos (s:ByteArray) (hs:0 < s.size) (hm:s.size ≤ maxLen) (hn:(s[0] == 45)=false) (w:World) :
    Calls Tryz.prog 176 #[.string s] w fun e w'=>e=.returned (numT s.data.toList)∧Below w.heap.size w w':=by
  unfold maxLen at hm
  have t0:((s[0].toNat:Int) == 45)=false:=by
    simp only [beq_eq_false_iff_ne,ne_eq] at hn ⊢
    intro e
    exact hn (UInt8.toNat_inj.1 (by show s[0].toNat=45; omega))
  have HN:Hid (isNeg s.data.toList=false):=by show _=_; rw [neg_of s hs]; exact hn
  have hs':0 < (s.size:Int):=by omega
  clear hn
  go_enter Tryz.func176,Tryz.ntmps176
  go_wp2
  go_loop [4,6,7] (fun n i _=>∃ (k:Nat) (x:Int) (m:Nat),k ≤ s.size∧i=.int .i64 k∧n=.int .i64 x∧NumAt s.data.toList k x m) (fun _ i _=>s.size - (intOf i).toNat)
  case atStart=>exact ⟨0,0,0,by omega,rfl,rfl,NumAt.start _⟩
  case round =>
    obtain ⟨k,x,m,hk,rfl,rfl,hat⟩:=hrel
    have HA:Hid (NumAt s.data.toList k x m):=hat
    obtain ⟨hx0,hx1⟩:=hat.range
    clear hat
    obtain ⟨kz,tz⟩:∃ b:Bool,((k:Int) == 0)=b:=⟨_,rfl⟩
    by_cases hlt:k < s.size
    · by_cases hd:48 ≤ s[k].toNat∧s[k].toNat ≤ 57∧k ≤ 20
      · have HS0:=HA.out.pos HN.out s[k] (at_list s k hlt) hd.1 hd.2.1
        rw [w64_wrap6,w64_wrap6] at HS0
        have HS:Hid _:=HS0
        clear HS0
        have t1:decide ((s[k].toNat:Int) < 48)=false:=by simp; omega
        have t2:decide ((57:Int) < (s[k].toNat:Int))=false:=by simp; omega
        have t3:(k:Int) ≤ 20:=by omega
        have hu1:(48:Int) ≤ s[k].toNat:=by omega
        have hu2:(s[k].toNat:Int) ≤ 57:=by omega
        clear hd
        go_wp2
        all_goals
          go_round
          case rel=>exact ⟨k + 1,_,_,by omega,by go_num,rfl,HS.out⟩
          case measure=>simp [intOf]; omega
      · have HR:Hid (numberOf s.data.toList=none):=by
          show _=_
          by_cases c:k ≤ 20
          · exact bad_digit _ k s[k] (by unfold off; rw [HN.out]; simp) (at_list s k hlt) (by omega)
          · exact bad_long _ (by rw [list_len]; omega)
        have HR':Hid _:=numT_none HR.out
        rcases (show (s[k].toNat:Int) < 48 ∨ 48 ≤ (s[k].toNat:Int)∧57 < (s[k].toNat:Int) ∨ 48 ≤ (s[k].toNat:Int)∧(s[k].toNat:Int) ≤ 57∧20 < (k:Int) by omega) with c | c | c
        · have t1:decide ((s[k].toNat:Int) < 48)=true:=by simpa using c
          clear c hd
          go_wp2
          all_goals
            go_ret2
            exact ⟨by rw [HR'.out]; rfl,Below.refl _ _⟩
        · have t1:decide ((s[k].toNat:Int) < 48)=false:=by simp; omega
          have t2:decide ((57:Int) < (s[k].toNat:Int))=true:=by simpa using c.2
          clear c hd
          go_wp2
          all_goals
            go_ret2
            exact ⟨by rw [HR'.out]; rfl,Below.refl _ _⟩
        · have t1:decide ((s[k].toNat:Int) < 48)=false:=by simp; omega
          have t2:decide ((57:Int) < (s[k].toNat:Int))=false:=by simp; omega
          have t3:(20:Int) < k:=c.2.2
          clear c hd
          go_wp2
          all_goals
            go_ret2
            exact ⟨by rw [HR'.out]; rfl,Below.refl _ _⟩
    · have HE:Hid (numberOf s.data.toList=if Lib.itoa x=s.data.toList then some x else none):=by
        have h:=HA.out
        rw [show k=s.data.toList.length by rw [list_len]; omega] at h
        exact h.end
      by_cases he:Lib.itoa x=s.data.toList
      · have hq:=str48 he
        have HR:Hid _:=numT_some (HE.out.trans (if_pos he))
        clear he
        go_wp2_with fail
        refine (refDigits_any x hx0 hx1 _).mono ?_
        rintro e w1 ⟨rfl,hb1⟩
        go_wp2
        go_ret2
        exact ⟨by rw [HR.out]; rfl,hb1⟩
      · have hq:=str48' he
        have HR:Hid _:=numT_none (HE.out.trans (if_neg he))
        clear he
        go_wp2_with fail
        refine (refDigits_any x hx0 hx1 _).mono ?_
        rintro e w1 ⟨rfl,hb1⟩
        go_wp2
        go_ret2
        exact ⟨by rw [HR.out]; rfl,hb1⟩
set_option maxHeartbeats 1000000 in
set_option maxRecDepth 20000 in
theorem refNumber_neg (s:ByteArray) (hs:0 < s.size) (hm:s.size ≤ maxLen) (hn:(s[0] == 45)=true) (w:World) :
    Calls Tryz.prog 176 #[.string s] w fun e w'=>e=.returned (numT s.data.toList)∧Below w.heap.size w w':=by
  unfold maxLen at hm
  have t0:((s[0].toNat:Int) == 45)=true:=by
    simp only [beq_iff_eq] at hn ⊢
    rw [hn]; rfl
  have HN:Hid (isNeg s.data.toList=true):=by show _=_; rw [neg_of s hs]; exact hn
  have hs':0 < (s.size:Int):=by omega
  clear hn
  go_enter Tryz.func176,Tryz.ntmps176
  go_wp2
  go_loop [4,6,7] (fun n i _=>∃ (k:Nat) (x:Int) (m:Nat),k ≤ s.size∧i=.int .i64 k∧n=.int .i64 x∧NumAt s.data.toList k x m) (fun _ i _=>s.size - (intOf i).toNat)
  case atStart=>exact ⟨0,0,0,by omega,rfl,rfl,NumAt.start _⟩
  case round =>
    obtain ⟨k,x,m,hk,rfl,rfl,hat⟩:=hrel
    have HA:Hid (NumAt s.data.toList k x m):=hat
    obtain ⟨hx0,hx1⟩:=hat.range
    clear hat
    have HO:Hid (off s.data.toList=1):=by show _=_; unfold off; rw [HN.out]; rfl
    by_cases hlt:k < s.size
    · by_cases hk0:k=0
      · subst hk0
        have HS:Hid _:=HA.out.skip HO.out
        rw [show ((0:Nat):Int)=0 from rfl]
        go_wp2
        go_round
        case rel=>exact ⟨1,_,_,by omega,by go_num,rfl,HS.out⟩
        case measure=>simp [intOf]; omega
      have tz:((k:Int) == 0)=false:=by simp; omega
      have hk1:1 ≤ k:=by omega
      clear hk0
      by_cases hd:48 ≤ s[k].toNat∧s[k].toNat ≤ 57∧k ≤ 20
      · have HS0:=HA.out.neg HN.out hk1 s[k] (at_list s k hlt) hd.1 hd.2.1
        rw [w64_wrap6,w64_wrap6] at HS0
        have HS:Hid _:=HS0
        clear HS0
        have t1:decide ((s[k].toNat:Int) < 48)=false:=by simp; omega
        have t2:decide ((57:Int) < (s[k].toNat:Int))=false:=by simp; omega
        have t3:(k:Int) ≤ 20:=by omega
        have hu1:(48:Int) ≤ s[k].toNat:=by omega
        have hu2:(s[k].toNat:Int) ≤ 57:=by omega
        clear hd
        go_wp2
        all_goals
          go_round
          case rel=>exact ⟨k + 1,_,_,by omega,by go_num,rfl,HS.out⟩
          case measure=>simp [intOf]; omega
      · have HR:Hid (numberOf s.data.toList=none):=by
          show _=_
          by_cases c:k ≤ 20
          · exact bad_digit _ k s[k] (by rw [HO.out]; exact hk1) (at_list s k hlt) (by omega)
          · exact bad_long _ (by rw [list_len]; omega)
        have HR':Hid _:=numT_none HR.out
        rcases (show (s[k].toNat:Int) < 48 ∨ 48 ≤ (s[k].toNat:Int)∧57 < (s[k].toNat:Int) ∨ 48 ≤ (s[k].toNat:Int)∧(s[k].toNat:Int) ≤ 57∧20 < (k:Int) by omega) with c | c | c
        · have t1:decide ((s[k].toNat:Int) < 48)=true:=by simpa using c
          clear c hd
          go_wp2
          all_goals
            go_ret2
            exact ⟨by rw [HR'.out]; rfl,Below.refl _ _⟩
        · have t1:decide ((s[k].toNat:Int) < 48)=false:=by simp; omega
          have t2:decide ((57:Int) < (s[k].toNat:Int))=true:=by simpa using c.2
          clear c hd
          go_wp2
          all_goals
            go_ret2
            exact ⟨by rw [HR'.out]; rfl,Below.refl _ _⟩
        · have t1:decide ((s[k].toNat:Int) < 48)=false:=by simp; omega
          have t2:decide ((57:Int) < (s[k].toNat:Int))=false:=by simp; omega
          have t3:(20:Int) < k:=c.2.2
          clear c hd
          go_wp2
          all_goals
            go_ret2
            exact ⟨by rw [HR'.out]; rfl,Below.refl _ _⟩
    · have HE:Hid (numberOf s.data.toList=if Lib.itoa x=s.data.toList then some x else none):=by
        have h:=HA.out
        rw [show k=s.data.toList.length by rw [list_len]; omega] at h
        exact h.end
      by_cases he:Lib.itoa x=s.data.toList
      · have hq:=str48 he
        have HR:Hid _:=numT_some (HE.out.trans (if_pos he))
        clear he
        go_wp2_with fail
        refine (refDigits_any x hx0 hx1 _).mono ?_
        rintro e w1 ⟨rfl,hb1⟩
        go_wp2
        go_ret2
        exact ⟨by rw [HR.out]; rfl,hb1⟩
      · have hq:=str48' he
        have HR:Hid _:=numT_none (HE.out.trans (if_neg he))
        clear he
        go_wp2_with fail
        refine (refDigits_any x hx0 hx1 _).mono ?_
        rintro e w1 ⟨rfl,hb1⟩
        go_wp2
        go_ret2
        exact ⟨by rw [HR.out]; rfl,hb1⟩
set_option maxHeartbeats 400000 in
theorem refNumber_empty (w:World) :
    Calls Tryz.prog 176 #[.string ⟨#[]⟩] w fun e w'=>e=.returned (numT [])∧Below w.heap.size w w':=by
  have HR:Hid _:=numT_none (l:=[]) (by decide +kernel)
  have hq:((itoaB 0).toList == (⟨#[]⟩:ByteArray).toList)=false:=str_other (by rw [itoaB_list]; decide +kernel)
  have hq2:((itoaB 0).toList == [])=false:=by
    rw [ByteArray.toList_eq,itoaB_list]; decide +kernel
  have hq3:(itoaB 0).toList.isEmpty=false:=by
    rw [ByteArray.toList_eq,itoaB_list]; decide +kernel
  go_enter Tryz.func176,Tryz.ntmps176
  go_wp2
  go_loop [4,6] (fun n i=>n=.int .i64 0∧i=.int .i64 0) (fun _ _=>0)
  case atStart=>exact ⟨rfl,rfl⟩
  case round =>
    obtain ⟨rfl,rfl⟩:=hrel
    go_wp2_with fail
    refine (refDigits_zero _).mono ?_
    rintro e w1 ⟨rfl,hb1⟩
    go_wp2
    go_ret2
    exact ⟨by rw [HR.out]; rfl,hb1⟩
theorem refNumber_any (s:ByteArray) (hm:s.size ≤ maxLen) (w:World) :
    Calls Tryz.prog 176 #[.string s] w fun e w'=>e=.returned (numT s.data.toList)∧Below w.heap.size w w':=by
  by_cases hs0:s.size=0
  · rw [empty_str s hs0]; exact refNumber_empty w
  · have hs:0 < s.size:=by omega
    cases hn:(s[0] == 45) with
    | false=>exact refNumber_pos s hs hm hn w
    | true=>exact refNumber_neg s hs hm hn w
end Go.Proofs.YtiefeeoellagnaaGreatDoor.S6
