import Derived.Test.YtencjopnbmbhkaaGreatPjF
namespace Go.Proofs.YtencjopnbmbhkaaGreat
open Go.RowKit Go.Maps
set_option linter.unusedVariables false
set_option linter.unusedSimpArgs false
set_option maxHeartbeats 4000000 in
set_option maxRecDepth 100000 in
theorem ins_shift (X i vc : Nat) (p : Pq) (E o c : Nat) (l : List Pq) (hl : l.length ≤ 2199023255552) (w : World) (hB : PX w E o c l) (hi : i < l.length) (hX : w.heap[X]? = some (.cells #[.int .i64 (p.s : Int), .bool p.c, meetV p] 81)) (hXE : X ≠ E) (hroom : l.length + 1 ≤ c) :
    Calls Tryz.prog 85 #[.slice (some ⟨E, o * 3, none⟩) l.length c, .int .i64 (i : Int), .slice (some ⟨X, 0, none⟩) 1 vc] w fun r w' => InsP w (.slice (some ⟨E, o * 3, none⟩) l.length c) (l.take i ++ p :: l.drop i) r w' := by
  have hle := hB.le
  have hcm := hB.max
  obtain ⟨cur, h1, h2, h3⟩ := hB.row
  obtain ⟨q, hq⟩ : ∃ q, i + 1 = q := ⟨_, rfl⟩
  obtain ⟨u, hu⟩ : ∃ u, l.length - i = u := ⟨_, rfl⟩
  obtain ⟨t, ht⟩ : ∃ t, l.length + 1 = t := ⟨_, rfl⟩
  have hce : cur.size ≠ 0 := by omega
  have hov : ∀ la ca lb cb, (callFunc 104 #[.slice (some ⟨X, 0, none⟩) la ca, .slice (some ⟨E, o * 3 + q * 3, none⟩) lb cb]).run Tryz.prog w = .ok (.value (.bool false)) w := fun la ca lb cb => overlapsP w X E la ca lb cb 0 (o * 3 + q * 3) hXE _ cur hX h1 hce
  have h1d : w.drew.heap[E]? = some (.cells cur 81) := h1
  have hfl : (plnE.fl (l.drop i)).length = u * 3 := by rw [flq_len, List.length_drop, hu]
  have hel : (plnE.enc p).length = 3 := rfl
  obtain ⟨k, hk⟩ : ∃ k, t - i = k := ⟨_, rfl⟩
  have r1 := heap_cells E _ (plnE.fl (l.drop i)) (o * 3 + q * 3) w.drew cur h1d (by rw [hfl]; omega)
  have s1 := spl_size cur (o * 3 + q * 3) (plnE.fl (l.drop i)) (by rw [hfl]; omega)
  have HRES : Hid (InsP w (.slice (some ⟨E, o * 3, none⟩) l.length c) (l.take i ++ p :: l.drop i) (.returned (.slice (some ⟨E, o * 3, none⟩) t c)) ((w.drew.setCells E (o * 3 + q * 3) (plnE.fl (l.drop i))).setCells E (o * 3 + i * 3) (plnE.enc p))) := by
    have r2 := heap_cells E _ (plnE.enc p) (o * 3 + i * 3) _ _ r1 (by rw [s1, hel]; omega)
    have hP := PX.ins (p := p) (i := i) (by omega) hroom hcm h2 h3 (E := E) (W := (w.drew.setCells E (o * 3 + q * 3) (plnE.fl (l.drop i))).setCells E (o * 3 + i * 3) (plnE.enc p)) (by rw [hq]; exact r2)
    refine ⟨_, rfl, hP.prow' (by rw [ins_len l p i (by omega)]; omega), ?_, fun k hk => Or.inl hk⟩
    have m1 : ModP (fun k => (Value.slice (some ⟨E, o * 3, none⟩) l.length c).ownBlock = some k) w w.drew := ⟨rfl, rfl, rfl, Nat.le_refl _, fun _ _ _ => rfl⟩
    exact (m1.trans (ModP.only (grown_only E _ _ w.drew) rfl)).trans (ModP.only (grown_only E _ _ _) rfl)
  have hcp1 : ∀ ty dc sc, (Builtin.copy_ #[58, 58] ty #[.slice (some ⟨E, o * 3 + q * 3, none⟩) u dc, .slice (some ⟨E, o * 3 + i * 3, none⟩) k sc]).run Tryz.prog w.drew = .ok (goInt (Nat.min k u)) (w.drew.setCells E (o * 3 + q * 3) (plnE.fl (l.drop i))) := fun ty dc sc =>
    run_copyP w.drew ty E (o * 3 + q * 3) u dc ⟨E, o * 3 + i * 3, none⟩ k sc (plnE.fl (l.drop i)) (by rw [hfl]; simp only [Nat.min_def]; split <;> omega) (fun k v hk => (hB.dropAt i (by omega)) k v hk)
      (fun k hk => by rw [cell_of_row _ _ _ _ _ _ h1d, Array.getElem?_eq_getElem (by omega)]; rfl) (fun k hk => frozen_of_row _ _ _ _ _ h1d) (flq_one _)
  obtain ⟨W1, hW1⟩ : ∃ W1, W1 = w.drew.setCells E (o * 3 + q * 3) (plnE.fl (l.drop i)) := ⟨_, rfl⟩
  rw [← hW1] at r1 hcp1 HRES
  have hXW : W1.heap[X]? = some (.cells #[.int .i64 (p.s : Int), .bool p.c, meetV p] 81) := by rw [hW1, (grown_cells E _ _ w.drew).block X (row_lt hX) (by simpa using hXE)]; exact hX
  have hcp2 : ∀ ty dc, (Builtin.copy_ #[58, 58] ty #[.slice (some ⟨E, o * 3 + i * 3, none⟩) k dc, .slice (some ⟨X, 0, none⟩) 1 vc]).run Tryz.prog W1 = .ok (goInt (Nat.min 1 k)) (W1.setCells E (o * 3 + i * 3) (plnE.enc p)) := fun ty dc =>
    run_copyP W1 ty E (o * 3 + i * 3) k dc ⟨X, 0, none⟩ 1 vc (plnE.enc p) (by rw [hel]; simp only [Nat.min_def]; split <;> omega) (encAt hXW)
      (fun a ha => by rw [hel] at ha; rw [cell_of_row _ _ _ _ _ _ r1, Array.getElem?_eq_getElem (by omega)]; rfl) (fun a ha => frozen_of_row _ _ _ _ _ r1) (enc_one _)
  have hz2 : ¬ ((i : Int) = (l.length : Int)) := by omega
  have hb4 : ¬ (c = i) := by omega
  have hb2 : ¬ (c = q) := by omega
  have hw1 : IntKind.i64.wrap ((i : Int) + 1) = (q : Int) := by rw [IntKind.wrap_i64] <;> omega
  have hw2 : IntKind.i64.wrap ((l.length : Int) + 1) = (t : Int) := by rw [IntKind.wrap_i64] <;> omega
  have hb6 : ¬ ((c : Int) < (t : Int)) := by omega
  have hb7 : (t : Int) ≤ (c : Int) := by omega
  have hb9 : (q : Int) ≤ (t : Int) := by omega
  have hb10 : (i : Int) ≤ (t : Int) := by omega
  have hqt : t - q = u := by omega
  have hic : (i : Int) ≤ (c : Int) := by omega
  have hin : (i : Int) ≤ (l.length : Int) := by omega
  have mixed : Tryz.prog.follows Departure.mixedOrders = true := by kernel_rfl
  clear h1 h1d r1 hXW hB hX h3
  subst hW1
  go_enter Tryz.func85, Tryz.ntmps85
  go_wp2_with (simp only [hov])
  go_region_law_o (refine step_copy_runI rfl _ _ 58 58 rfl _ _ (by simp [Act.eval, Act.put]) (by simp [Act.eval, Act.put]) (hcp1 _ _ _) ?_)
  go_wp2
  go_returns
  exact HRES.out
end Go.Proofs.YtencjopnbmbhkaaGreat
