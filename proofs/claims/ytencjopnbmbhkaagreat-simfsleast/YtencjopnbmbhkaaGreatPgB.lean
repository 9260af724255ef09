import Derived.Test.YtencjopnbmbhkaaGreatPgA
namespace Go.Proofs.YtencjopnbmbhkaaGreat
open Go.RowKit Go.Maps
set_option linter.unusedVariables false
set_option linter.unusedSimpArgs false
set_option maxHeartbeats 4000000 in
set_option maxRecDepth 100000 in
theorem due_yes (g : Nat) (a0 a2 a3 a4 a5 : Value) (s : Nat) (hs : s ≤ 4611686018427387904) (qv : Value) (q : Pq) (l : List Pq) (hq : q.s = s) (hl : l.length ≤ 2199023255552) (w : World) (hp : PRow w qv (q :: l)) (h : w.heap[g]? = some (.cells #[a0, .int .i64 (s : Int), a2, a3, a4, a5, qv] 60)) :
    Calls Tryz.prog 100 #[ptr (some g)] w fun e w' => DueYes w g a0 a2 a3 a4 a5 s qv q l e w' := by
  rcases hp with ⟨_, hp⟩ | ⟨E, o, c, cur, rfl, hE, hcs, hlc, hoc, hcell⟩
  · cases hp
  have hlc' : l.length + 1 ≤ c := hlc
  have hEg : E ≠ g := fun e => by
    subst e
    have := hE.symm.trans h
    injection this with this
    injection this with _ h2
    exact absurd h2 (by decide)
  obtain ⟨R, hR⟩ : ∃ R, w.heap.size = R := ⟨_, rfl⟩
  obtain ⟨W0, hW0⟩ : ∃ W0, w.alloc (.cells #[.int .i64 0, .bool false, .nilFunc] 81) = W0 := ⟨_, rfl⟩
  have hb0 : Below R w W0 := by rw [← hW0]; exact (Below.refl _ _).alloc (by omega) _
  have hr0 : W0.heap[R]? = some (.cells #[.int .i64 0, .bool false, .nilFunc] 81) := by rw [← hW0, ← hR]; exact one_alloc _ _
  have hsz0 : W0.heap.size = R + 1 := by rw [← hW0, ← hR]; simp
  have hgR : g < R := by rw [← hR]; exact row_lt h
  have hER : E < R := by rw [← hR]; exact row_lt hE
  have hg0 := (hb0.block g hgR).trans h
  have hE0 := (hb0.block E hER).trans hE
  obtain ⟨_, c1, _, _, _, _, c6, _⟩ := fsC7 hg0
  have e0 : W0.cell? ⟨E, o * 3, none⟩ = some (.int .i64 (q.s : Int)) := by
    rw [cell_of_row _ _ _ _ _ _ hE0]
    exact hcell 0 _ (by rw [fl_cons]; rfl)
  obtain ⟨n, hn⟩ : ∃ n, (q :: l).length = n := ⟨_, rfl⟩
  have hnl : n = l.length + 1 := by rw [← hn]; rfl
  rw [hn] at c6
  have hn1 : (0 : Int) < (n : Int) := by omega
  have hn2 : ((n : Int) == 0) = false := by simp; omega
  have hn0 : ¬ (n : Int) = 0 := by omega
  have hqs : ((q.s : Int) == (s : Int)) = true := by simp; omega
  have hqs' : (q.s : Int) = (s : Int) := by omega
  have HB : Hid (Below R w W0) := hb0
  have HR : Hid (w.heap.size = R) := hR
  have HSZ : Hid (W0.heap.size = R + 1) := hsz0
  have HR0 : Hid (W0.heap[R]? = some (.cells #[.int .i64 0, .bool false, .nilFunc] 81)) := hr0
  have HG0 : Hid _ := hg0
  have HE0 : Hid (W0.heap[E]? = some (.cells cur 81)) := hE0
  have HCELL : Hid (∀ j u, (plnE.fl (q :: l))[j]? = some u → cur[o * 3 + j]? = some u) := hcell
  have HNE : Hid (E ≠ g ∧ g < R ∧ E < R) := ⟨hEg, hgR, hER⟩
  have HCS : Hid ((o + c) * 3 ≤ cur.size ∧ l.length + 1 ≤ c ∧ o + c ≤ 9223372036854775807) := ⟨hcs, hlc', hoc⟩
  have HNL : Hid (n = l.length + 1) := hnl
  have HQV : Hid ((Value.slice (some ⟨E, o * 3, none⟩) (q :: l).length c).ownBlock = some E) := rfl
  clear h hg0 hb0 hr0 hE hE0 hcell hcs hlc hn hq hlc' hsz0 hEg hgR hER hnl
  unfold ptr
  go_enter Tryz.func100, Tryz.ntmps100
  go_upto_region 1 with fail
  go_quiet (fail)
  obtain ⟨W1, hW1⟩ : ∃ W1, W0.drewN nq = W1 := ⟨_, rfl⟩
  have hr1 : W1.heap[R]? = some (.cells #[.int .i64 0, .bool false, .nilFunc] 81) := by rw [← hW1]; exact HR0.out
  have hb1 : Below R w W1 := by rw [← hW1]; exact below_dn HB.out _
  have hg1 : W1.heap[g]? = some (.cells #[a0, .int .i64 (s : Int), a2, a3, a4, a5, .slice (some ⟨E, o * 3, none⟩) n c] 60) := by
    have := HG0.out
    rw [← hW1]
    have e9 : (q :: l).length = n := by rw [HNL.out]; rfl
    rw [e9] at this
    exact this
  have hE1 : W1.heap[E]? = some (.cells cur 81) := by rw [← hW1]; exact HE0.out
  have hs1 : W1.heap.size = R + 1 := by rw [← hW1]; exact HSZ.out
  rw [hW1]
  clear hW1 c1 c6 hW0 e0 HG0 HE0 HR0 HSZ HB hR
  obtain ⟨_, c1, _, _, _, _, c6, _⟩ := fsC7 hg1
  have e0 : W1.cell? ⟨E, o * 3, none⟩ = some (.int .i64 (q.s : Int)) := by
    rw [cell_of_row _ _ _ _ _ _ hE1]; exact HCELL.out 0 _ (by rw [fl_cons]; rfl)
  have e1 : W1.cell? ⟨E, o * 3 + 1, none⟩ = some (.bool q.c) := by
    rw [cell_of_row _ _ _ _ _ _ hE1]; exact HCELL.out 1 _ (by rw [fl_cons]; rfl)
  have e2 : W1.cell? ⟨E, o * 3 + 2, none⟩ = some (meetV q) := by
    rw [cell_of_row _ _ _ _ _ _ hE1]; exact HCELL.out 2 _ (by rw [fl_cons]; rfl)
  obtain ⟨mv, hmv⟩ : ∃ mv, meetV q = mv := ⟨_, rfl⟩
  have HMV : Hid (meetV q = mv ∧ mv.oneCell' = true) := ⟨hmv, by rw [← hmv]; rfl⟩
  rw [hmv] at e2
  clear hmv
  have HG1 : Hid (W1.heap[g]? = some (.cells #[a0, .int .i64 (s : Int), a2, a3, a4, a5, .slice (some ⟨E, o * 3, none⟩) n c] 60)) := hg1
  have HE1 : Hid (W1.heap[E]? = some (.cells cur 81)) := hE1
  have HR1 : Hid (W1.heap[R]? = some (.cells #[.int .i64 0, .bool false, .nilFunc] 81)) := hr1
  have HB1 : Hid (Below R w W1) := hb1
  have HS1 : Hid (W1.heap.size = R + 1) := hs1
  clear hg1 hE1 hr1 hb1 hqs hqs'
  go_upto_region 4 with (first
    | (refine ldP E (o * 3) (.int .i64 (q.s : Int)) (.bool q.c) mv _ rfl rfl rfl e0 e1 e2 ?_)
    | (refine stP rfl _ _ rfl (R + 1) 0 (.int .i64 (q.s : Int)) (.bool q.c) mv #[.int .i64 0, .bool false, .nilFunc] rfl rfl ⟨rfl, rfl, HMV.out.2⟩ (by rw [← HS1.out]; exact one_alloc _ _) (by simp) ?_; intro W2 hr2 ho2))
  have hr2' : W2.heap[R + 1]? = some (.cells #[.int .i64 (q.s : Int), .bool q.c, mv] 81) := hr2
  have hold : ∀ k, k < R + 1 → W2.heap[k]? = W1.heap[k]? := fun k hk => (ho2.other k (by omega)).trans (heap_alloc_old _ _ (by rw [HS1.out]; exact hk))
  have hR2 := (hold R (by omega)).trans HR1.out
  have hE2 := (hold E (by have := HNE.out; omega)).trans HE1.out
  have hg2 := (hold g (by have := HNE.out; omega)).trans HG1.out
  have hb2 : Below R w W2 := (HB1.out.alloc (by rw [HS1.out]; omega) _).trans (ho2.below (by omega))
  have HB2 : Hid (Below R w W2) := hb2
  have HV2 : Hid (W2.heap[R + 1]? = some (.cells #[.int .i64 (q.s : Int), .bool q.c, mv] 81)) := hr2'
  have HR2 : Hid (W2.heap[R]? = some (.cells #[.int .i64 0, .bool false, .nilFunc] 81)) := hR2
  have HE2 : Hid (W2.heap[E]? = some (.cells cur 81)) := hE2
  have HG2 : Hid (W2.heap[g]? = some (.cells #[a0, .int .i64 (s : Int), a2, a3, a4, a5, .slice (some ⟨E, o * 3, none⟩) n c] 60)) := hg2
  obtain ⟨_, _, _, _, _, _, d6, _⟩ := fsC7 hg2
  clear hold hr2 hr2' ho2 hR2 hE2 hg2 hb2 c1 c6 e0 e1 e2 hs1
  go_upto_region 5 with (refine stP rfl _ _ rfl E (o * 3) (.int .i64 0) (.bool false) .nilFunc cur rfl rfl ⟨rfl, rfl, rfl⟩ HE2.out (by have := HCS.out; omega) ?_; intro W3 hr3 ho3)
  have hne := HNE.out
  have hg3 := (ho3.other g (by omega)).trans HG2.out
  have HV3 : Hid (W3.heap[R + 1]? = some (.cells #[.int .i64 (q.s : Int), .bool q.c, mv] 81)) := (ho3.other _ (by omega)).trans HV2.out
  have HR3 : Hid (W3.heap[R]? = some (.cells #[.int .i64 0, .bool false, .nilFunc] 81)) := (ho3.other _ (by omega)).trans HR2.out
  have HG3 : Hid (W3.heap[g]? = some (.cells #[a0, .int .i64 (s : Int), a2, a3, a4, a5, .slice (some ⟨E, o * 3, none⟩) n c] 60)) := hg3
  have HE3 : Hid (W3.heap[E]? = some (.cells (spl cur (o * 3) [.int .i64 0, .bool false, .nilFunc]) 81)) := hr3
  have HO3 : Hid (Only W2 W3 E) := ho3
  obtain ⟨_, _, _, _, _, _, g6, gf⟩ := fsC7 hg3
  have gf6 := gf 6
  clear hg3 hr3 ho3 d6 gf hne
  obtain ⟨Pn, hPn⟩ : ∃ Pn : Option Addr, (if c = 1 then (some { block := E, off := o * 3 } : Option Addr) else some { block := E, off := o * 3 + 3 }) = Pn := ⟨_, rfl⟩
  go_upto_region 6 with fail
  obtain ⟨W4, hW4⟩ : ∃ W4, W3.setCell ⟨g, 6, none⟩ (.slice Pn (n - 1) (c - 1)) = W4 := ⟨_, rfl⟩
  have ho4 : Only W3 W4 g := by rw [← hW4]; exact (Only.refl _ _).set _ _
  have hg4 : W4.heap[g]? = some (.cells #[a0, .int .i64 (s : Int), a2, a3, a4, a5, .slice Pn (n - 1) (c - 1)] 60) := by rw [← hW4]; exact heap_setCell_same W3 g 6 _ _ _ HG3.out
  rw [hW4]
  have hne := HNE.out
  have hv4 := (ho4.other (R + 1) (by omega)).trans HV3.out
  have hr4 := (ho4.other R (by omega)).trans HR3.out
  obtain ⟨v0, v1, v2, _⟩ := row3 hv4
  have HG4 : Hid _ := hg4
  have HO4 : Hid (Only W3 W4 g) := ho4
  have HPN : Hid ((if c = 1 then (some { block := E, off := o * 3 } : Option Addr) else some { block := E, off := o * 3 + 3 }) = Pn) := hPn
  have HR4 : Hid (W4.heap[R]? = some (.cells #[.int .i64 0, .bool false, .nilFunc] 81)) := hr4
  clear hW4 ho4 hg4 hPn hr4 hv4 g6 gf6 hne
  go_wp2_with (first
    | (refine ldP (R + 1) 0 (.int .i64 (q.s : Int)) (.bool q.c) mv _ rfl rfl rfl v0 v1 v2 ?_)
    | (refine stP rfl _ _ rfl R 0 (.int .i64 (q.s : Int)) (.bool q.c) mv #[.int .i64 0, .bool false, .nilFunc] rfl rfl ⟨rfl, rfl, HMV.out.2⟩ HR4.out (by simp) ?_; intro W5 hr5 ho5))
  have hr5' : W5.heap[R]? = some (.cells #[.int .i64 (q.s : Int), .bool q.c, mv] 81) := hr5
  obtain ⟨u0, u1, u2, _⟩ := row3 hr5'
  refine bodyPost_ret (v := .tuple #[.agg #[.int .i64 (q.s : Int), .bool q.c, mv], .bool true]) (by simp [results, Tryz.results100, go_sem, u0, u1, u2]) rfl ⟨by rw [HMV.out.1], .slice Pn (n - 1) (c - 1), ?_, ?_, ?_, ?_⟩
  · have := HNE.out
    exact (ho5.other g (by omega)).trans HG4.out
  · have hne := HNE.out
    have hcs := HCS.out
    have hnl := HNL.out
    have hE5 : W5.heap[E]? = some (.cells (spl cur (o * 3) [.int .i64 0, .bool false, .nilFunc]) 81) := ((ho5.other E (by omega)).trans (HO4.out.other E hne.1)).trans HE3.out
    have hsz : (spl cur (o * 3) [.int .i64 0, .bool false, .nilFunc]).size = cur.size := spl_size _ _ _ (by simp; omega)
    by_cases h1 : c = 1
    · have e := HPN.out
      rw [if_pos h1] at e
      have hl0 : l = [] := List.eq_nil_of_length_eq_zero (by omega)
      subst hl0
      refine Or.inr ⟨E, o, 0, _, ?_, hE5, by rw [hsz]; omega, Nat.le_refl _, by omega, fun j u hu => by simp [ET.fl] at hu⟩
      rw [← e, h1]
      have : n - 1 = 0 := by rw [hnl]; rfl
      rw [this]; rfl
    · have e := HPN.out
      rw [if_neg h1] at e
      refine Or.inr ⟨E, o + 1, c - 1, _, ?_, hE5, by rw [hsz]; omega, by omega, by omega, fun j u hu => ?_⟩
      · rw [← e, show (o + 1) * 3 = o * 3 + 3 by omega, show n - 1 = l.length by omega]
      · have h7 := HCELL.out (3 + j) u (by rw [fl_cons, List.getElem?_append_right (by simp)]; simpa using hu)
        unfold spl
        rw [List.getElem?_toArray, List.getElem?_append_right (by simp; omega)]
        rw [List.getElem?_append_right (by simp; omega), List.getElem?_drop]
        rw [Array.getElem?_toList]
        rw [← h7]
        congr 1
        simp
        omega
  · intro k hk
    have e := HPN.out
    split at e <;> (rw [← e] at hk; cases hk; rfl)
  · have hne := HNE.out
    have hb : ModP (fun k => k = g ∨ k = E) w W2 := ModP.below (by rw [HR.out]; exact HB2.out)
    refine ((hb.trans (ModP.only HO3.out (Or.inr rfl))).trans (ModP.only HO4.out (Or.inl rfl))).andThen (ModP.only (S := fun k => k = R) ho5 rfl) (fun j hj e => by have := HR.out; omega) |>.weak (fun k _ hk => ?_)
    rcases hk with rfl | rfl
    · exact Or.inl rfl
    · exact Or.inr rfl
end Go.Proofs.YtencjopnbmbhkaaGreat
