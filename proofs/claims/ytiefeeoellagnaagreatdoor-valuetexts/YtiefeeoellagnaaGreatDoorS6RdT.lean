import Derived.Test.YtiefeeoellagnaaGreatDoorAF
namespace Go.Proofs.YtiefeeoellagnaaGreatDoor.S6
open Go.RowKit
set_option linter.unusedVariables false
attribute [local go_sem] Oper.semAt_some
theorem no_pk {p:ByteArray} (h:¬ LM.Reads p.data.toList):∀ l,¬ LM.Pk p.data.toList l:=fun l hl=>h hl.reads
set_option maxHeartbeats 1000000 in
set_option maxRecDepth 100000 in
theorem tail_bad1 {r0 r1 r2 r3 r4 r5 c:Code} (hc:Tryz.f257.body=some (.seq r0 (.seq r1 (.seq r2 (.seq r3 (.seq r4 (.seq r5 c))))))) (p Bo:ByteArray) (cnt D:Nat) (w W:World) (hc20:¬ cnt ≤ 1048576) (hno:∀ l,¬ LM.Pk p.data.toList l) (hBD:w.heap.size ≤ D)
    (hL:W.heap[w.heap.size]?=some (.cells #[.string Bo,.int .i64 (cnt:Int)] 349)) (hE:W.heap[w.heap.size + 1]?=some (.cells #[.int .i64 0] 28)) (hB:Below w.heap.size w W) (hD:W.heap[D]?=some (.deferred (some []))) {u1 u4 u5 u6 u7 u8 u9 u10 u11 u12 u13 u14 u15 u16 u17 u18 u19 u20 u21 u22 u23 u24 u25 u26 u27 u28 u29 u30 u31 u32 u33 u34 u35 u36 u37 u38 u39 u40 u41 u42 u43 u44 u45 u46 u47 u48 u49 u50 u51 u52 u53 u54 u55 u56 u57 u58 u59 u60:Value} :
    WpB Tryz.prog 257 c (bodyPostM Fence.wide 10 Tryz.prog Tryz.f257 (rdP p w)) { tmps:=#[.string p,u1,.pointer (some ⟨w.heap.size,0,none⟩),.pointer (some ⟨w.heap.size + 1,0,none⟩),u4,u5,u6,u7,u8,u9,u10,u11,u12,u13,u14,u15,u16,u17,u18,u19,u20,u21,u22,u23,u24,u25,u26,u27,u28,u29,u30,u31,u32,u33,u34,u35,u36,u37,u38,u39,u40,u41,u42,u43,u44,u45,u46,u47,u48,u49,u50,u51,u52,u53,u54,u55,u56,u57,u58,u59,u60],defers:=[mrk D,dfr w.heap.size (w.heap.size + 1)] } W:=by
  simp only [Tryz.f257,Option.some.injEq,Code.seq.injEq] at hc
  obtain ⟨-,-,-,-,-,-,rfl⟩:=hc
  have hdc:decide ((cnt:Int) ≤ 1048576)=false:=dec_f (by omega)
  obtain ⟨d0,d1,df⟩:=prow2 hL
  have HL:Hid _:=hL
  have HE:Hid _:=hE
  have HB:Hid (Below w.heap.size w W):=hB
  have HDR:Hid _:=hD
  have HNO:Hid _:=hno
  clear hc20 hL hE hB hD hno
  refine wpB_then (n:=10) (wpIn_wide.2 ?_)
  first
  | go_region_with (first
    | (go_at_call 317; refine (must_bad _).mono ?_; rintro e w6 ⟨rfl,rfl⟩; refine ends w (show bodyPostM Fence.wide 10 _ _ _ (Exit.panic pch) _ _ from leave_bad_m (W:=W.drew) HDR.out hBD rfl rfl HL.out HE.out (Nat.le_refl _) (by omega) (below_dn HB.out 1) HNO.out) ?_))
  | fail
  all_goals trivial
end Go.Proofs.YtiefeeoellagnaaGreatDoor.S6
