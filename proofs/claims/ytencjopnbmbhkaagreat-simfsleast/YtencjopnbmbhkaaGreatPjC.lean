import Derived.Test.YtencjopnbmbhkaaGreatPhF
namespace Go.Proofs.YtencjopnbmbhkaaGreat
open Go.RowKit Go.Maps
set_option linter.unusedVariables false
set_option linter.unusedSimpArgs false
/-- Nothing is there yet. -/
theorem newOk : FOk newM [] := ⟨fun k hk => ⟨by simp [dirK, newM], by simp [dirK, newM], by simp [dirK, newM], by simp [dirK, newM], by simp [dirK, newM], by simp [dirK, newM]⟩, rfl, rfl, by simp, by simp [newM]⟩
def newX (a b : Nat) : Gh := ⟨a, b, fun _ => 0, fun _ => .slice none 0 0, fun _ => [], .slice none 0 0, [], .slice none 0 0, []⟩
theorem newP {W : World} {g a b : Nat} (hab : a ≠ b) (ha : MapIs W a 0 fun _ => none) (hb : MapIs W b 0 fun _ => none) (hg : W.heap[g]? = some (.cells #[.bool false, .int .i64 0, .int .i64 0, .map (some a), .map (some b), .slice none 0 0, .slice none 0 0] 60)) : FsP W g (newX a b) newM := by
  have hd : dirF [] (newX a b).fb = fun _ => none := by funext m; simp [dirF, findM]
  have hl : ∀ i, ¬ Live newM (newX a b) i := fun i hi => by simp [Live, newM, newX] at hi
  refine ⟨⟨newOk, hg, ⟨0, by rw [show newM.dir = [] from rfl, hd]; exact ha⟩, ⟨0, by rw [show newM.sure = [] from rfl, hd]; exact hb⟩, hab, ⟨rfl, Or.inl ⟨rfl, rfl⟩⟩, Or.inl ⟨rfl, rfl⟩, fun i _ h => absurd h (hl i), fun i _ h => absurd h (hl i)⟩, ⟨by simp [newX], by simp [newX], fun n p _ h => by simp [newM, failM] at h, fun n hn h => by simp [newM] at h hn; omega⟩, by simp [newX]⟩
theorem sm_new (a b : Nat) : Sm newM (newX a b) := ⟨by simp [newM], by simp [newM], by simp [newM], by simp [newX]⟩
set_option maxHeartbeats 1000000 in
theorem New_any (w : World) : Calls Tryz.prog 6 #[] w fun e w' => ∃ g X, e = .returned (ptr (some g)) ∧ FsP w' g X newM ∧ Sm newM X ∧ Below w.heap.size w w' ∧ ∀ k, Own g newM X k → w.heap.size ≤ k := by
  obtain ⟨R, hR⟩ : ∃ R, w.heap.size = R := ⟨_, rfl⟩
  obtain ⟨W1, hW1⟩ : ∃ W1, w.alloc (.map #[] 0) = W1 := ⟨_, rfl⟩
  obtain ⟨W2, hW2⟩ : ∃ W2, W1.alloc (.map #[] 0) = W2 := ⟨_, rfl⟩
  have s1 : W1.heap.size = R + 1 := by rw [← hW1, ← hR]; simp
  have s2 : W2.heap.size = R + 2 := by rw [← hW2]; simp [s1]
  obtain ⟨W3, hW3⟩ : ∃ W3, W2.alloc (.cells #[.bool false, .int .i64 0, .int .i64 0, .map (some R), .map (some (R + 1)), .slice none 0 0, .slice none 0 0] 60) = W3 := ⟨_, rfl⟩
  have HP : Hid (FsP W3 (R + 2) (newX R (R + 1)) newM) := by
    have m1 : MapIs W1 R 0 fun _ => none := by have := MapIs.made w; rw [hW1, hR] at this; exact this
    have m2 : MapIs W2 (R + 1) 0 fun _ => none := by have := MapIs.made W1; rw [hW2, s1] at this; exact this
    have e3 : ∀ k, k < W2.heap.size → W3.heap[k]? = W2.heap[k]? := fun k hk => by rw [← hW3]; exact heap_alloc_old _ _ hk
    have e2 : ∀ k, k < W1.heap.size → W2.heap[k]? = W1.heap[k]? := fun k hk => by rw [← hW2]; exact heap_alloc_old _ _ hk
    refine newP (by omega) (m1.to ((e3 _ (by omega)).trans (e2 _ (by omega)))) (m2.to (e3 _ (by omega))) ?_
    rw [← hW3, ← s2]; exact one_alloc _ _
  have HB : Hid (Below R w W3) := by
    show Below _ _ _
    rw [← hW3, ← hW2, ← hW1]
    exact (((Below.refl _ _).alloc (by omega) _).alloc (by simp; omega) _).alloc (by simp; omega) _
  have HR : Hid (w.heap.size = R) := hR
  have hmm := @run_makeMap Tryz.prog 56
  go_enter Tryz.func6, Tryz.ntmps6
  go_upto_region 1 with fail
  go_wp2
  go_ret
  refine ⟨R + 2, newX R (R + 1), rfl, HP.out, sm_new _ _, by rw [HR.out]; exact HB.out, ?_⟩
  rw [HR.out]
  rintro k (rfl | rfl | rfl | ⟨i, hl, _⟩ | hc | hc)
  · omega
  · exact Nat.le_refl _
  · show R ≤ R + 1; omega
  · simp [Live, newM, newX] at hl
  · cases hc
  · cases hc
end Go.Proofs.YtencjopnbmbhkaaGreat
