import Derived.Test.YtfkcpilkhdbpoaaGreatDoorAD
import Derived.RecoverIn
namespace Go.Proofs.YtfkcpilkhdbpoaaGreatDoor.S6
open Go.RowKit
set_option linter.unusedVariables false
attribute [local go_sem] Oper.semAt_some
theorem row1 {w : World} {g T : Nat} {v0 : Value} (h : w.heap[g]? = some (.cells #[v0] T)) : w.cell? ⟨g, 0, none⟩ = some v0 ∧ ∀ j, w.frozen? ⟨g, j, none⟩ = false := by
  refine ⟨?_, fun j => frozen_of_row _ _ _ _ _ h⟩ <;> rw [cell_of_row _ _ _ _ _ _ h] <;> rfl
def spoilt (W : World) (L E : Nat) : World := ((W.setCell ⟨L, 0, none⟩ (.string ⟨#[]⟩)).setCell ⟨L, 1, none⟩ (.int .i64 0)).setCell ⟨E, 0, none⟩ (.int .i64 60)
theorem catch_p (n L E : Nat) (b : ByteArray) (c x : Int) (w : World) (hL : w.heap[L]? = some (.cells #[.string b, .int .i64 c] 349)) (hE : w.heap[E]? = some (.cells #[.int .i64 x] 24)) :
    CallsDIn Fence.wide n Tryz.prog 316 #[.pointer (some ⟨L, 0, none⟩), .pointer (some ⟨E, 0, none⟩)] (.panicking pch) w fun e u' w' =>
      e = .returned (.tuple #[]) ∧ settle u' = .returning ∧ w' = spoilt w L E := by
  obtain ⟨l0, l1, lf⟩ := prow2 hL
  obtain ⟨e0, ef⟩ := row1 hE
  have hne : L ≠ E := by rintro rfl; rw [hL] at hE; cases hE
  refine callsDIn_of_wpSIn Tryz.func316 rfl trivial fun c₀ cs hu => ?_
  apply wpSIn_seq
  apply wpSIn_region
  simp [wpOpsSIn, go_sem, recoverD, hu, Tryz.ntmps316, Exit.thenS, pch]
  refine wpSIn_cond (t := true) (by simp [Act.eval, Array.replicate]) ?_
  simp only [if_true]
  refine wpSIn_of_wpIn rfl ?_
  have hst : (#[Value.pointer (some ⟨L, 0, none⟩), Value.pointer (some ⟨E, 0, none⟩)] ++ ((Array.replicate 3 undef).setIfInBounds 0 (Value.iface 24 (Value.int IntKind.i64 60))).setIfInBounds 1 (Value.bool true)) = #[Value.pointer (some ⟨L, 0, none⟩), Value.pointer (some ⟨E, 0, none⟩), Value.iface 24 (Value.int IntKind.i64 60), Value.bool true, undef] := by rfl
  rw [hst]
  clear hst
  gi_wp2
  refine ⟨rfl, _, rfl, .tuple #[], ?_, rfl, rfl, rfl⟩
  exact results_none rfl _ _ _
theorem catch_i (n L E : Nat) (w : World) :
    CallsDIn Fence.wide n Tryz.prog 316 #[.pointer (some ⟨L, 0, none⟩), .pointer (some ⟨E, 0, none⟩)] .returning w fun e u' w' =>
      e = .returned (.tuple #[]) ∧ u' = .returning ∧ w' = w := by
  refine callsDIn_of_wpSIn Tryz.func316 rfl trivial fun c₀ cs hu => ?_
  apply wpSIn_seq
  apply wpSIn_region
  simp [wpOpsSIn, go_sem, recoverD, hu, Tryz.ntmps316, Exit.thenS]
  refine wpSIn_cond (t := false) (by simp [Act.eval, Array.replicate]) ?_
  simp only [Bool.false_eq_true, if_false]
  refine wpSIn_of_wpIn rfl (wpIn_skip ?_)
  cases c₀
  simp_all [bodyPostS, results, Tryz.results316]
end Go.Proofs.YtfkcpilkhdbpoaaGreatDoor.S6
namespace Go.Proofs.YtfkcpilkhdbpoaaGreatDoor.S6
open Go.RowKit
set_option linter.unusedVariables false
attribute [local go_sem] Oper.semAt_some
def rdP (p : ByteArray) (w0 : World) (e : Ending) (W : World) : Prop :=
  ((∃ l, LM.Pk p.data.toList l ∧ e = .returned (.tuple #[.agg #[.string (strB (LM.bodyOf l)), .int .i64 (l.length : Int)], .int .i64 0])) ∨
    ((∀ l, ¬ LM.Pk p.data.toList l) ∧ e = .returned (.tuple #[.agg #[.string ⟨#[]⟩, .int .i64 0], .int .i64 60]))) ∧ Below w0.heap.size w0 W
theorem res_read {W : World} {L E : Nat} {b : ByteArray} {c x : Int} {tmps : Array Value} (h2 : tmps[2]? = some (.pointer (some ⟨L, 0, none⟩))) (h3 : tmps[3]? = some (.pointer (some ⟨E, 0, none⟩)))
    (hL : W.heap[L]? = some (.cells #[.string b, .int .i64 c] 349)) (hE : W.heap[E]? = some (.cells #[.int .i64 x] 24)) :
    (results Tryz.f257 tmps).run Tryz.prog W = .ok (.tuple #[.agg #[.string b, .int .i64 c], .int .i64 x]) W := by
  obtain ⟨l0, l1, lf⟩ := prow2 hL
  obtain ⟨e0, ef⟩ := row1 hE
  simp [results, Tryz.results257, go_sem, l0, l1, e0, h2, h3]
def dfr (L E : Nat) : Deferred := { target := .fn (.func 316) #[.pointer (some ⟨L, 0, none⟩), .pointer (some ⟨E, 0, none⟩)], args := #[] }
theorem leave_bad {n : Nat} {p : ByteArray} {w0 W : World} {L E : Nat} {b : ByteArray} {c x : Int} {tmps : Array Value} (h2 : tmps[2]? = some (.pointer (some ⟨L, 0, none⟩))) (h3 : tmps[3]? = some (.pointer (some ⟨E, 0, none⟩)))
    (hL : W.heap[L]? = some (.cells #[.string b, .int .i64 c] 349)) (hE : W.heap[E]? = some (.cells #[.int .i64 x] 24)) (hbl : w0.heap.size ≤ L) (hbe : w0.heap.size ≤ E) (hb : Below w0.heap.size w0 W)
    (hno : ∀ l, ¬ LM.Pk p.data.toList l) : LeavesInM Fence.wide n Tryz.prog Tryz.f257 tmps (rdP p w0) [dfr L E] (.panicking pch) W := by
  have hne : E ≠ L := by rintro rfl; rw [hL] at hE; cases hE
  refine ⟨by simp, Or.inr ⟨(fun h => (by cases h)), _, _, 316, _, rfl, (by simp [dfr, go_sem, invoke]), fun _ _ => trivial, (catch_p _ L E b c x W hL hE).mono ?_⟩⟩
  rintro e u' w' ⟨rfl, hu, rfl⟩
  show LeavesInM _ _ _ _ _ _ [] (settle u') _
  rw [hu]
  have hL2 : (spoilt W L E).heap[L]? = some (.cells #[.string ⟨#[]⟩, .int .i64 0] 349) := by
    unfold spoilt
    rw [heap_setCell_other _ _ _ _ hne.symm, heap_setCell_same _ _ _ _ _ _ (heap_setCell_same _ _ _ _ _ _ hL)]; rfl
  have hE2 : (spoilt W L E).heap[E]? = some (.cells #[.int .i64 60] 24) := by
    unfold spoilt
    rw [heap_setCell_same _ _ _ _ _ _ ((heap_setCell_other _ _ _ _ hne).trans ((heap_setCell_other _ _ _ _ hne).trans hE))]; rfl
  refine ⟨_, res_read h2 h3 hL2 hE2, Or.inr ⟨hno, rfl⟩, ?_⟩
  unfold spoilt
  exact ((hb.setCell (p := ⟨L, 0, none⟩) hbl _).setCell (p := ⟨L, 1, none⟩) hbl _).setCell (p := ⟨E, 0, none⟩) hbe _
def mrk (D : Nat) : Deferred := { target := .collected D, args := #[] }
theorem put_keep {W : World} {k D : Nat} {o o' : Obj} (h : W.heap[k]? = some o) (hne : k ≠ D) : (W.putObj D o').heap[k]? = some o := (World.putObj_heap_other hne).trans h
theorem put_below {w0 W : World} {D : Nat} {o' : Obj} (hb : Below w0.heap.size w0 W) (hD : w0.heap.size ≤ D) : Below w0.heap.size w0 (W.putObj D o') :=
  hb.trans ⟨rfl, rfl, rfl, by simp, fun k hk => World.putObj_heap_other (by omega)⟩
theorem leave_bad_m {n D : Nat} {p : ByteArray} {w0 W : World} {L E : Nat} {b : ByteArray} {c x : Int} {tmps : Array Value} (hD : W.heap[D]? = some (.deferred (some []))) (hD0 : w0.heap.size ≤ D) (h2 : tmps[2]? = some (.pointer (some ⟨L, 0, none⟩))) (h3 : tmps[3]? = some (.pointer (some ⟨E, 0, none⟩)))
    (hL : W.heap[L]? = some (.cells #[.string b, .int .i64 c] 349)) (hE : W.heap[E]? = some (.cells #[.int .i64 x] 24)) (hbl : w0.heap.size ≤ L) (hbe : w0.heap.size ≤ E) (hb : Below w0.heap.size w0 W)
    (hno : ∀ l, ¬ LM.Pk p.data.toList l) : LeavesInM Fence.wide n Tryz.prog Tryz.f257 tmps (rdP p w0) [mrk D, dfr L E] (.panicking pch) W := by
  have h1 : L ≠ D := by rintro rfl; rw [hL] at hD; cases hD
  have h1' : E ≠ D := by rintro rfl; rw [hE] at hD; cases hD
  exact ⟨by simp, .inl ⟨_, _, rfl, run_takeDeferred hD, leave_bad h2 h3 (put_keep hL h1) (put_keep hE h1') hbl hbe (put_below hb hD0) hno⟩⟩
theorem leave_ok_m {n D : Nat} {p : ByteArray} {w0 W : World} {L E : Nat} {l : List LM.Item} {tmps : Array Value} (hD : W.heap[D]? = some (.deferred (some []))) (hD0 : w0.heap.size ≤ D) (h2 : tmps[2]? = some (.pointer (some ⟨L, 0, none⟩))) (h3 : tmps[3]? = some (.pointer (some ⟨E, 0, none⟩)))
    (hL : W.heap[L]? = some (.cells #[.string (strB (LM.bodyOf l)), .int .i64 (l.length : Int)] 349)) (hE : W.heap[E]? = some (.cells #[.int .i64 0] 24)) (hb : Below w0.heap.size w0 W)
    (hpk : LM.Pk p.data.toList l) : LeavesInM Fence.wide n Tryz.prog Tryz.f257 tmps (rdP p w0) [mrk D, dfr L E] .returning W := by
  have h1 : L ≠ D := by rintro rfl; rw [hL] at hD; cases hD
  have h1' : E ≠ D := by rintro rfl; rw [hE] at hD; cases hD
  refine ⟨by simp, .inl ⟨_, _, rfl, run_takeDeferred hD, ?_⟩⟩
  refine ⟨by simp, Or.inr ⟨(fun h => (by cases h)), _, _, 316, _, rfl, (by simp [dfr, go_sem, invoke]), fun _ _ => trivial, (catch_i _ L E _).mono ?_⟩⟩
  rintro e u' w' ⟨rfl, rfl, rfl⟩
  exact ⟨_, res_read h2 h3 (put_keep hL h1) (put_keep hE h1'), Or.inl ⟨l, hpk, rfl⟩, put_below hb hD0⟩
end Go.Proofs.YtfkcpilkhdbpoaaGreatDoor.S6
namespace Go.Proofs.YtfkcpilkhdbpoaaGreatDoor.S6
open Go.RowKit
set_option linter.unusedVariables false
attribute [local go_sem] Oper.semAt_some
set_option maxHeartbeats 1000000 in
set_option maxRecDepth 100000 in
theorem tail_ok {r0 r1 r2 r3 r4 r5 c : Code} (hc : Tryz.f257.body = some (.seq r0 (.seq r1 (.seq r2 (.seq r3 (.seq r4 (.seq r5 c))))))) (p Bo : ByteArray) (cnt D : Nat) (w W : World) (Q2 : ByteArray) (Z M : Int) (hQ2 : p.extract 4 6 = Q2) (hp6 : (6 : Int) ≤ (p.size : Int)) (hM : min (cnt : Int) 65535 = M) (hlo : ∀ W, Calls Tryz.prog 318 #[.string Q2] W fun e w' => e = .returned (.int .i64 Z) ∧ w' = W) (hc20 : cnt ≤ 1048576) (hzt : (Z == M) = true) (l : List LM.Item) (hpk : LM.Pk p.data.toList l) (hcl : cnt = l.length) (hbd : Bo = strB (LM.bodyOf l)) (hBD : w.heap.size ≤ D)
    (hL : W.heap[w.heap.size]? = some (.cells #[.string Bo, .int .i64 (cnt : Int)] 349)) (hE : W.heap[w.heap.size + 1]? = some (.cells #[.int .i64 0] 24)) (hB : Below w.heap.size w W) (hD : W.heap[D]? = some (.deferred (some []))) {u1 u4 u5 u6 u7 u8 u9 u10 u11 u12 u13 u14 u15 u16 u17 u18 u19 u20 u21 u22 u23 u24 u25 u26 u27 u28 u29 u30 u31 u32 u33 u34 u35 u36 u37 u38 u39 u40 u41 u42 u43 u44 u45 u46 u47 u48 u49 u50 u51 u52 u53 u54 u55 u56 u57 u58 u59 u60 : Value} :
    WpB Tryz.prog 257 c (bodyPostM Fence.wide 10 Tryz.prog Tryz.f257 (rdP p w)) { tmps := #[.string p, u1, .pointer (some ⟨w.heap.size, 0, none⟩), .pointer (some ⟨w.heap.size + 1, 0, none⟩), u4, u5, u6, u7, u8, u9, u10, u11, u12, u13, u14, u15, u16, u17, u18, u19, u20, u21, u22, u23, u24, u25, u26, u27, u28, u29, u30, u31, u32, u33, u34, u35, u36, u37, u38, u39, u40, u41, u42, u43, u44, u45, u46, u47, u48, u49, u50, u51, u52, u53, u54, u55, u56, u57, u58, u59, u60], defers := [mrk D, dfr w.heap.size (w.heap.size + 1)] } W := by
  simp only [Tryz.f257, Option.some.injEq, Code.seq.injEq] at hc
  obtain ⟨-, -, -, -, -, -, rfl⟩ := hc
  have hdc : decide ((cnt : Int) ≤ 1048576) = true := dec_t (by omega)
  obtain ⟨d0, d1, df⟩ := prow2 hL
  have HL : Hid _ := hL
  have HE : Hid _ := hE
  have HB : Hid (Below w.heap.size w W) := hB
  have HDR : Hid _ := hD
  have HLO2 : Hid _ := hlo
  have HPK : Hid _ := hpk
  have HCL : Hid _ := hcl
  have HBD : Hid _ := hbd
  clear hc20 hL hE hB hD hlo hpk hcl hbd
  refine wpB_then (n := 10) (wpIn_wide.2 ?_)
  go_quiet ((first
    | (go_at_call 318; exact Calls.quiet_of_same (show Calls _ _ _ _ _ from HLO2.out _))
    | (go_at_call 317; exact Calls.quiet_of_same (must_ok _))))
  obtain ⟨W5, hW5⟩ : ∃ W5, W.drewN nq = W5 := ⟨_, rfl⟩
  have HL5 : Hid (W5.heap[w.heap.size]? = some (.cells #[.string Bo, .int .i64 (cnt : Int)] 349)) := by rw [← hW5]; exact HL.out
  have HE5 : Hid (W5.heap[w.heap.size + 1]? = some (.cells #[.int .i64 0] 24)) := by rw [← hW5]; exact HE.out
  have HD5 : Hid (W5.heap[D]? = some (.deferred (some []))) := by rw [← hW5]; exact HDR.out
  have HB5 : Hid (Below w.heap.size w W5) := by rw [← hW5]; exact below_dn HB.out nq
  rw [hW5]
  clear hW5 d0 d1 df
  obtain ⟨d0, d1, df⟩ := prow2 HL5.out
  obtain ⟨e0, ef⟩ := row1 HE5.out
  show WpB _ _ _ _ _ _
  refine wpB_then (n := 10) ?_
  gi_wp2
  obtain ⟨W6, hW6⟩ : ∃ W6, (((W5.setCell ⟨w.heap.size, 0, none⟩ (.string Bo)).setCell ⟨w.heap.size, 1, none⟩ (.int .i64 (cnt : Int))).setCell ⟨w.heap.size + 1, 0, none⟩ (.int .i64 0)) = W6 := ⟨_, rfl⟩
  have hl6 : W6.heap[w.heap.size]? = some (.cells #[.string Bo, .int .i64 (cnt : Int)] 349) := by
    rw [← hW6, heap_setCell_other _ _ _ _ (show w.heap.size ≠ w.heap.size + 1 by omega), heap_setCell_same _ _ _ _ _ _ (heap_setCell_same _ _ _ _ _ _ HL5.out)]; rfl
  have he6 : W6.heap[w.heap.size + 1]? = some (.cells #[.int .i64 0] 24) := by
    rw [← hW6, heap_setCell_same _ _ _ _ _ _ ((heap_setCell_other _ _ _ _ (show w.heap.size + 1 ≠ w.heap.size by omega)).trans ((heap_setCell_other _ _ _ _ (show w.heap.size + 1 ≠ w.heap.size by omega)).trans HE5.out))]; rfl
  have hDn : D ≠ w.heap.size := by rintro rfl; have := HD5.out; rw [HL5.out] at this; cases this
  have hDn' : D ≠ w.heap.size + 1 := by rintro rfl; have := HD5.out; rw [HE5.out] at this; cases this
  have hd6 : W6.heap[D]? = some (.deferred (some [])) := by
    rw [← hW6, heap_setCell_other _ _ _ _ hDn', heap_setCell_other _ _ _ _ hDn, heap_setCell_other _ _ _ _ hDn]; exact HD5.out
  have hb6 : Below w.heap.size w W6 := by
    rw [← hW6]; exact ((HB5.out.setCell (p := ⟨w.heap.size, 0, none⟩) (Nat.le_refl _) _).setCell (p := ⟨w.heap.size, 1, none⟩) (Nat.le_refl _) _).setCell (p := ⟨w.heap.size + 1, 0, none⟩) (by show w.heap.size ≤ w.heap.size + 1; omega) _
  rw [hW6]
  refine wpB_of (n := 10) ?_
  gi_wp2
  rw [HCL.out, HBD.out] at hl6
  exact leave_ok_m hd6 hBD rfl rfl hl6 he6 hb6 HPK.out
end Go.Proofs.YtfkcpilkhdbpoaaGreatDoor.S6
