import Derived.Test.YtijambehfobopaaGreatDoorWAI
namespace Go.Proofs.YtijambehfobopaaGreatDoor
open Go.RowKit
set_option linter.unusedVariables false
attribute [local go_sem] Oper.semAt_some
set_option maxHeartbeats 1000000 in
set_option maxRecDepth 100000 in
theorem tail_ok {r0 r1 r2 r3 r4 r5 c:Code} (hc:Tryz.f88.body=some (.seq r0 (.seq r1 (.seq r2 (.seq r3 (.seq r4 (.seq r5 c))))))) (p Bo:ByteArray) (cnt D:Nat) (w W:World) (Q2:ByteArray) (Z M:Int) (hQ2:p.extract 4 6=Q2) (hp6:(6:Int) ≤ (p.size:Int)) (hM:min (cnt:Int) 65535=M) (hlo:∀ W,Calls Tryz.prog 106 #[.string Q2] W fun e w'=>e=.returned (.int .i64 Z)∧w'=W) (hc20:cnt ≤ 1048576) (hzt:(Z == M)=true) (l:List LM.Item) (hpk:LM.Pk p.data.toList l) (hcl:cnt=l.length) (hbd:Bo=strB (LM.bodyOf l)) (hBD:w.heap.size ≤ D)
    (hL:W.heap[w.heap.size]?=some (.cells #[.string Bo,.int .i64 (cnt:Int)] 131)) (hE:W.heap[w.heap.size + 1]?=some (.cells #[.int .i64 0] 24)) (hB:Below w.heap.size w W) (hD:W.heap[D]?=some (.deferred (some []))) {u1 u4 u5 u6 u7 u8 u9 u10 u11 u12 u13 u14 u15 u16 u17 u18 u19 u20 u21 u22 u23 u24 u25 u26 u27 u28 u29 u30 u31 u32 u33 u34 u35 u36 u37 u38 u39 u40 u41 u42 u43 u44 u45 u46 u47 u48 u49 u50 u51 u52 u53 u54 u55 u56 u57 u58 u59 u60:Value} :
    WpB Tryz.prog 88 c (bodyPostM Fence.wide 10 Tryz.prog Tryz.f88 (rdP p w)) { tmps:=#[.string p,u1,.pointer (some ⟨w.heap.size,0,none⟩),.pointer (some ⟨w.heap.size + 1,0,none⟩),u4,u5,u6,u7,u8,u9,u10,u11,u12,u13,u14,u15,u16,u17,u18,u19,u20,u21,u22,u23,u24,u25,u26,u27,u28,u29,u30,u31,u32,u33,u34,u35,u36,u37,u38,u39,u40,u41,u42,u43,u44,u45,u46,u47,u48,u49,u50,u51,u52,u53,u54,u55,u56,u57,u58,u59,u60],defers:=[mrk D,dfr w.heap.size (w.heap.size + 1)] } W:=by
  simp only [Tryz.f88,Option.some.injEq,Code.seq.injEq] at hc
  obtain ⟨-,-,-,-,-,-,rfl⟩:=hc
  have hdc:decide ((cnt:Int) ≤ 1048576)=true:=dec_t (by omega)
  obtain ⟨d0,d1,df⟩:=prow2 hL
  have HL:Hid _:=hL
  have HE:Hid _:=hE
  have HB:Hid (Below w.heap.size w W):=hB
  have HDR:Hid _:=hD
  have HLO2:Hid _:=hlo
  have HPK:Hid _:=hpk
  have HCL:Hid _:=hcl
  have HBD:Hid _:=hbd
  clear hc20 hL hE hB hD hlo hpk hcl hbd
  refine wpB_then (n:=10) (wpIn_wide.2 ?_)
  go_quiet ((first
    | (go_at_call 106; exact Calls.quiet_of_same (show Calls _ _ _ _ _ from HLO2.out _))
    | (go_at_call 105; exact Calls.quiet_of_same (must_ok _))))
  obtain ⟨W5,hW5⟩:∃ W5,W.drewN nq=W5:=⟨_,rfl⟩
  have HL5:Hid (W5.heap[w.heap.size]?=some (.cells #[.string Bo,.int .i64 (cnt:Int)] 131)):=by rw [← hW5]; exact HL.out
  have HE5:Hid (W5.heap[w.heap.size + 1]?=some (.cells #[.int .i64 0] 24)):=by rw [← hW5]; exact HE.out
  have HD5:Hid (W5.heap[D]?=some (.deferred (some []))):=by rw [← hW5]; exact HDR.out
  have HB5:Hid (Below w.heap.size w W5):=by rw [← hW5]; exact below_dn HB.out nq
  rw [hW5]
  clear hW5 d0 d1 df
  obtain ⟨d0,d1,df⟩:=prow2 HL5.out
  obtain ⟨e0,ef⟩:=row1 HE5.out
  show WpB _ _ _ _ _ _
  refine wpB_then (n:=10) ?_
  gi_wp2
  obtain ⟨W6,hW6⟩:∃ W6,(((W5.setCell ⟨w.heap.size,0,none⟩ (.string Bo)).setCell ⟨w.heap.size,1,none⟩ (.int .i64 (cnt:Int))).setCell ⟨w.heap.size + 1,0,none⟩ (.int .i64 0))=W6:=⟨_,rfl⟩
  have hl6:W6.heap[w.heap.size]?=some (.cells #[.string Bo,.int .i64 (cnt:Int)] 131):=by
    rw [← hW6,heap_setCell_other _ _ _ _ (show w.heap.size ≠ w.heap.size + 1 by omega),heap_setCell_same _ _ _ _ _ _ (heap_setCell_same _ _ _ _ _ _ HL5.out)]; rfl
  have he6:W6.heap[w.heap.size + 1]?=some (.cells #[.int .i64 0] 24):=by
    rw [← hW6,heap_setCell_same _ _ _ _ _ _ ((heap_setCell_other _ _ _ _ (show w.heap.size + 1 ≠ w.heap.size by omega)).trans ((heap_setCell_other _ _ _ _ (show w.heap.size + 1 ≠ w.heap.size by omega)).trans HE5.out))]; rfl
  have hDn:D ≠ w.heap.size:=by rintro rfl; have:=HD5.out; rw [HL5.out] at this; cases this
  have hDn':D ≠ w.heap.size + 1:=by rintro rfl; have:=HD5.out; rw [HE5.out] at this; cases this
  have hd6:W6.heap[D]?=some (.deferred (some [])):=by
    rw [← hW6,heap_setCell_other _ _ _ _ hDn',heap_setCell_other _ _ _ _ hDn,heap_setCell_other _ _ _ _ hDn]; exact HD5.out
  have hb6:Below w.heap.size w W6:=by
    rw [← hW6]; exact ((HB5.out.setCell (p:=⟨w.heap.size,0,none⟩) (Nat.le_refl _) _).setCell (p:=⟨w.heap.size,1,none⟩) (Nat.le_refl _) _).setCell (p:=⟨w.heap.size + 1,0,none⟩) (by show w.heap.size ≤ w.heap.size + 1; omega) _
  rw [hW6]
  refine wpB_of (n:=10) ?_
  gi_wp2
  rw [HCL.out,HBD.out] at hl6
  exact leave_ok_m hd6 hBD rfl rfl hl6 he6 hb6 HPK.out
end Go.Proofs.YtijambehfobopaaGreatDoor
