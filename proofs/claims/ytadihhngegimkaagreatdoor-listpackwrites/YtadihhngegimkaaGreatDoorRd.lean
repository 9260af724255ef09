import Derived.Test.YtadihhngegimkaaGreatDoorCat
namespace Go.Proofs.YtadihhngegimkaaGreatDoor
open Go.RowKit
set_option linter.unusedVariables false
attribute [local go_sem] Oper.semAt_some
def rdP (p : ByteArray) (w0 : World) (e : Ending) (W : World) : Prop :=
  ((∃ l, LM.Pk p.data.toList l ∧ e = .returned (.tuple #[.agg #[.string (strB (LM.bodyOf l)), .int .i64 (l.length : Int)], .int .i64 0])) ∨
    ((∀ l, ¬ LM.Pk p.data.toList l) ∧ e = .returned (.tuple #[.agg #[.string ⟨#[]⟩, .int .i64 0], .int .i64 60]))) ∧ Below w0.heap.size w0 W
theorem res_read {W : World} {L E : Nat} {b : ByteArray} {c x : Int} {tmps : Array Value} (h2 : tmps[2]? = some (.pointer (some ⟨L, 0, none⟩))) (h3 : tmps[3]? = some (.pointer (some ⟨E, 0, none⟩)))
    (hL : W.heap[L]? = some (.cells #[.string b, .int .i64 c] 54)) (hE : W.heap[E]? = some (.cells #[.int .i64 x] 24)) :
    (results Tryz.f24 tmps).run Tryz.prog W = .ok (.tuple #[.agg #[.string b, .int .i64 c], .int .i64 x]) W := by
  obtain ⟨l0, l1, lf⟩ := prow2 hL
  obtain ⟨e0, ef⟩ := row1 hE
  simp [results, Tryz.results24, go_sem, l0, l1, e0, h2, h3]
def dfr (L E : Nat) : Deferred := { target := .fn (.func 36) #[.pointer (some ⟨L, 0, none⟩), .pointer (some ⟨E, 0, none⟩)], args := #[] }
theorem leave_bad {n : Nat} {p : ByteArray} {w0 W : World} {L E : Nat} {b : ByteArray} {c x : Int} {tmps : Array Value} (h2 : tmps[2]? = some (.pointer (some ⟨L, 0, none⟩))) (h3 : tmps[3]? = some (.pointer (some ⟨E, 0, none⟩)))
    (hL : W.heap[L]? = some (.cells #[.string b, .int .i64 c] 54)) (hE : W.heap[E]? = some (.cells #[.int .i64 x] 24)) (hbl : w0.heap.size ≤ L) (hbe : w0.heap.size ≤ E) (hb : Below w0.heap.size w0 W)
    (hno : ∀ l, ¬ LM.Pk p.data.toList l) : LeavesInM Fence.wide n Tryz.prog Tryz.f24 tmps (rdP p w0) [dfr L E] (.panicking pch) W := by
  have hne : E ≠ L := by rintro rfl; rw [hL] at hE; cases hE
  refine ⟨by simp, Or.inr ⟨(fun h => (by cases h)), _, _, 36, _, rfl, (by simp [dfr, go_sem, invoke]), fun _ _ => trivial, (catch_p _ L E b c x W hL hE).mono ?_⟩⟩
  rintro e u' w' ⟨rfl, hu, rfl⟩
  show LeavesInM _ _ _ _ _ _ [] (settle u') _
  rw [hu]
  have hL2 : (spoilt W L E).heap[L]? = some (.cells #[.string ⟨#[]⟩, .int .i64 0] 54) := by
    unfold spoilt
    rw [heap_setCell_other _ _ _ _ hne.symm, heap_setCell_same _ _ _ _ _ _ (heap_setCell_same _ _ _ _ _ _ hL)]; rfl
  have hE2 : (spoilt W L E).heap[E]? = some (.cells #[.int .i64 60] 24) := by
    unfold spoilt
    rw [heap_setCell_same _ _ _ _ _ _ ((heap_setCell_other _ _ _ _ hne).trans ((heap_setCell_other _ _ _ _ hne).trans hE))]; rfl
  refine ⟨_, res_read h2 h3 hL2 hE2, Or.inr ⟨hno, rfl⟩, ?_⟩
  unfold spoilt
  exact ((hb.setCell (p := ⟨L, 0, none⟩) hbl _).setCell (p := ⟨L, 1, none⟩) hbl _).setCell (p := ⟨E, 0, none⟩) hbe _
def mrk (D : Nat) : Deferred := { target := .collected D, args := #[] }
theorem put_keep {W : World} {k D : Nat} {o o' : Obj} (h : W.heap[k]? = some o) (hne : k ≠ D) : (W.putObj D o').heap[k]? = some o := (World.putObj_heap_other hne).trans h
theorem put_below {w0 W : World} {D : Nat} {o' : Obj} (hb : Below w0.heap.size w0 W) (hD : w0.heap.size ≤ D) : Below w0.heap.size w0 (W.putObj D o') :=
  hb.trans ⟨rfl, rfl, rfl, by simp, fun k hk => World.putObj_heap_other (by omega)⟩
theorem leave_bad_m {n D : Nat} {p : ByteArray} {w0 W : World} {L E : Nat} {b : ByteArray} {c x : Int} {tmps : Array Value} (hD : W.heap[D]? = some (.deferred (some []))) (hD0 : w0.heap.size ≤ D) (h2 : tmps[2]? = some (.pointer (some ⟨L, 0, none⟩))) (h3 : tmps[3]? = some (.pointer (some ⟨E, 0, none⟩)))
    (hL : W.heap[L]? = some (.cells #[.string b, .int .i64 c] 54)) (hE : W.heap[E]? = some (.cells #[.int .i64 x] 24)) (hbl : w0.heap.size ≤ L) (hbe : w0.heap.size ≤ E) (hb : Below w0.heap.size w0 W)
    (hno : ∀ l, ¬ LM.Pk p.data.toList l) : LeavesInM Fence.wide n Tryz.prog Tryz.f24 tmps (rdP p w0) [mrk D, dfr L E] (.panicking pch) W := by
  have h1 : L ≠ D := by rintro rfl; rw [hL] at hD; cases hD
  have h1' : E ≠ D := by rintro rfl; rw [hE] at hD; cases hD
  exact ⟨by simp, .inl ⟨_, _, rfl, run_takeDeferred hD, leave_bad h2 h3 (put_keep hL h1) (put_keep hE h1') hbl hbe (put_below hb hD0) hno⟩⟩
theorem leave_ok_m {n D : Nat} {p : ByteArray} {w0 W : World} {L E : Nat} {l : List LM.Item} {tmps : Array Value} (hD : W.heap[D]? = some (.deferred (some []))) (hD0 : w0.heap.size ≤ D) (h2 : tmps[2]? = some (.pointer (some ⟨L, 0, none⟩))) (h3 : tmps[3]? = some (.pointer (some ⟨E, 0, none⟩)))
    (hL : W.heap[L]? = some (.cells #[.string (strB (LM.bodyOf l)), .int .i64 (l.length : Int)] 54)) (hE : W.heap[E]? = some (.cells #[.int .i64 0] 24)) (hb : Below w0.heap.size w0 W)
    (hpk : LM.Pk p.data.toList l) : LeavesInM Fence.wide n Tryz.prog Tryz.f24 tmps (rdP p w0) [mrk D, dfr L E] .returning W := by
  have h1 : L ≠ D := by rintro rfl; rw [hL] at hD; cases hD
  have h1' : E ≠ D := by rintro rfl; rw [hE] at hD; cases hD
  refine ⟨by simp, .inl ⟨_, _, rfl, run_takeDeferred hD, ?_⟩⟩
  refine ⟨by simp, Or.inr ⟨(fun h => (by cases h)), _, _, 36, _, rfl, (by simp [dfr, go_sem, invoke]), fun _ _ => trivial, (catch_i _ L E _).mono ?_⟩⟩
  rintro e u' w' ⟨rfl, rfl, rfl⟩
  exact ⟨_, res_read h2 h3 (put_keep hL h1) (put_keep hE h1'), Or.inl ⟨l, hpk, rfl⟩, put_below hb hD0⟩
end Go.Proofs.YtadihhngegimkaaGreatDoor
