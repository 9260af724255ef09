import Derived.Test.YtencjopnbmbhkaaGreatPjB
namespace Go.Proofs.YtencjopnbmbhkaaGreat
open Go.RowKit Go.Maps
set_option linter.unusedVariables false
set_option linter.unusedSimpArgs false
theorem PRow.kr {W : World} {v : Value} {l : List Pq} (h : PRow W v l) : KR plnE W v l := by
  rcases h with ⟨rfl, rfl⟩ | ⟨g, o, c, cur, rfl, hc, hs, _, _, h1⟩
  · exact KR.nil
  · refine Or.inr ⟨g, o * 3, c, rfl, fun j u hj => ?_⟩
    rw [cell_of_row _ _ _ _ _ _ hc]; exact h1 j u hj
theorem ltQ_trans {a b c : Pq} (h1 : ltQ a b) (h2 : ltQ b c) : ltQ a c := by
  unfold ltQ at *
  rcases h1 with h1 | ⟨h1, h3, h4⟩ <;> rcases h2 with h2 | ⟨h2, h5, h6⟩
  · omega
  · omega
  · omega
  · rw [h4] at h5; cases h5
theorem eM_cmp (args : Array Value) (w : World) : (callFunc 84 args).run Tryz.prog w = .ok (.enter 84 args) w := by kernel_rfl
/-- where a plan belongs. -/
structure Plc (qs : List Pq) (p : Pq) (i : Nat) : Prop where
  le : i ≤ qs.length
  lo : ∀ t (h : t < qs.length), t < i → ltQ qs[t] p
  hi : ∀ t (h : t < qs.length), i ≤ t → ¬ ltQ qs[t] p
def BsP (w : World) (qs : List Pq) (p : Pq) (e : Ending) (w' : World) : Prop := Below w.heap.size w w' ∧ ∃ i b, Plc qs p i ∧ (b = true ↔ ∃ h : i < qs.length, qs[i].s = p.s ∧ qs[i].c = p.c) ∧ e = .returned (.tuple #[.int .i64 (i : Nat), .bool b])
set_option maxHeartbeats 2000000 in
set_option maxRecDepth 100000 in
theorem bsP_any (qs : List Pq) (hr : qs.Pairwise ltQ) (hl : qs.length ≤ 2199023255552) (p : Pq) (qv : Value) (w : World) (h : KR plnE w qv qs) :
    Calls Tryz.prog 83 #[qv, agQ p, .func (.func 84) #[] #[]] w fun e w' => BsP w qs p e w' := by
  obtain ⟨W0, hW0⟩ : ∃ W0, w.alloc (.cells #[.int .i64 (p.s : Int), .bool p.c, meetV p] 81) = W0 := ⟨_, rfl⟩
  obtain ⟨R, hR⟩ : ∃ R, w.heap.size = R := ⟨_, rfl⟩
  have hb0 : Below R w W0 := by rw [← hW0]; exact (Below.refl _ _).alloc (by omega) _
  have hr0 : W0.heap[R]? = some (.cells #[.int .i64 (p.s : Int), .bool p.c, meetV p] 81) := by rw [← hW0, ← hR]; exact one_alloc _ _
  have hk0 : KR plnE W0 qv qs := h.on (by rw [hR]; exact hb0)
  obtain ⟨P, c, rfl⟩ := h.form
  have HK : Hid (KR plnE W0 (.slice P qs.length c) qs) := hk0
  have HR0 : Hid (W0.heap[R]? = some (.cells #[.int .i64 (p.s : Int), .bool p.c, meetV p] 81)) := hr0
  have HB0 : Hid (Below R w W0) := hb0
  have HR : Hid (w.heap.size = R) := hR
  have HRI : Hid (∀ t u (ht : t < qs.length) (hu : u < qs.length), t < u → ltQ qs[t] qs[u]) := fun t u ht hu h => List.pairwise_iff_getElem.1 hr t u ht hu h
  have HCM : Hid (∀ m (hm : m < qs.length) W, Calls Tryz.prog 84 #[.agg #[.int .i64 (qs[m].s : Int), .bool qs[m].c, meetV qs[m]], .agg #[.int .i64 (p.s : Int), .bool p.c, meetV p]] W fun e w' => e = .returned (.int .i64 (cmpQ qs[m] p)) ∧ Below W.heap.size W w') := fun m hm W => comparePlans_any qs[m] p W
  have HEC := eM_cmp
  clear h hk0 hr0 hb0 hr
  unfold agQ
  generalize meetV p = vp at *
  go_enter Tryz.func83, Tryz.ntmps83
  go_upto_region 1 with fail
  clear hW0
  go_wp2
  go_loopw [9, 10] (fun ci cj wr => Below W0.heap.size W0 wr ∧ ∃ i j : Nat, i ≤ j ∧ j ≤ qs.length ∧ ci = .int .i64 (i : Int) ∧ cj = .int .i64 (j : Int) ∧ (∀ t (h : t < qs.length), t < i → ltQ qs[t] p) ∧ (∀ t (h : t < qs.length), j ≤ t → ¬ ltQ qs[t] p)) (fun ci cj _ => (intOf cj).toNat - (intOf ci).toNat)
  case atStart => exact ⟨Below.refl _ _, 0, qs.length, by omega, Nat.le_refl _, rfl, rfl, fun t h h0 => by omega, fun t h h0 => by omega⟩
  case round =>
    obtain ⟨hb, i, j, hij, hj, rfl, rfl, hlo, hhi⟩ := hrel
    have HB : Hid (Below W0.heap.size W0 wr) := hb
    have HLO : Hid _ := hlo
    have HHI : Hid _ := hhi
    clear hlo hhi
    have hrw := row3_keep HR0.out hb
    obtain ⟨r0, r1, r2, rf⟩ := row3 hrw
    by_cases hlt : i < j
    · obtain ⟨m, hm⟩ : ∃ m : Nat, (i + j) / 2 = m := ⟨_, rfl⟩
      have hml : m < qs.length := by omega
      have hmi : i ≤ m := by omega
      have hmj : m < j := by omega
      obtain ⟨E, o, c', he, hcell⟩ := (HK.out.on hb).cell plnOk hml
      injection he with he1 _ he2
      subst he1
      have x0 : wr.cell? ⟨E, o + m * 3, none⟩ = some (.int .i64 (qs[m].s : Int)) := hcell 0 _ rfl
      have x1 : wr.cell? ⟨E, o + m * 3 + 1, none⟩ = some (.bool qs[m].c) := hcell 1 _ rfl
      have x2 : wr.cell? ⟨E, o + m * 3 + 2, none⟩ = some (meetV qs[m]) := hcell 2 _ rfl
      have HCMm : Hid _ := HCM.out m hml
      have HCN : Hid _ := cmp_lt qs[m] p
      have hz0 : (0 : Int) ≤ (m : Int) := by omega
      have hz1 : (m : Int) < (qs.length : Int) := by omega
      have HLS : Hid (ltQ qs[m] p → ∀ t (h : t < qs.length), t < m + 1 → ltQ qs[t] p) := fun hl t h ht => by
        rcases Nat.lt_or_eq_of_le (Nat.le_of_lt_succ ht) with h1 | h1
        · exact ltQ_trans (HRI.out t m h hml h1) hl
        · subst h1; exact hl
      have HGE : Hid (¬ ltQ qs[m] p → ∀ t (h : t < qs.length), m ≤ t → ¬ ltQ qs[t] p) := fun hl t h ht hq => by
        rcases Nat.lt_or_eq_of_le ht with h1 | h1
        · exact hl (ltQ_trans (HRI.out m t hml h h1) hq)
        · subst h1; exact hl hq
      generalize qs[m] = Y at *
      generalize cmpQ Y p = z at *
      generalize meetV Y = vy at *
      generalize Y.s = ys at *
      generalize Y.c = yc at *
      clear hb hcell he2 rf hrw
      go_upto_region 5 with fail
      have hm' : ((i : Int) + (j : Int)) / 2 = (m : Int) := by omega
      rw [hm']
      have d0 : wr.drew.cell? ⟨R, 0, none⟩ = some (.int .i64 (p.s : Int)) := r0
      have d1 : wr.drew.cell? ⟨R, 1, none⟩ = some (.bool p.c) := r1
      have d2 : wr.drew.cell? ⟨R, 2, none⟩ = some vp := r2
      have d3 : wr.drew.cell? ⟨E, o + m * 3, none⟩ = some (.int .i64 (ys : Int)) := x0
      have d4 : wr.drew.cell? ⟨E, o + m * 3 + 1, none⟩ = some (.bool yc) := x1
      have d5 : wr.drew.cell? ⟨E, o + m * 3 + 2, none⟩ = some vy := x2
      clear r0 r1 r2 x0 x1 x2
      go_region_held3 (fun W : World => W.cell? ⟨R, 0, none⟩ = some (.int .i64 (p.s : Int)) ∧ W.cell? ⟨R, 1, none⟩ = some (.bool p.c) ∧ W.cell? ⟨R, 2, none⟩ = some vp ∧ W.cell? ⟨E, o + m * 3, none⟩ = some (.int .i64 (ys : Int)) ∧ W.cell? ⟨E, o + m * 3 + 1, none⟩ = some (.bool yc) ∧ W.cell? ⟨E, o + m * 3 + 2, none⟩ = some vy)
        (first | with_reducible exact ⟨d0, d1, d2, d3, d4, d5⟩ | with_reducible exact ⟨q0, q1, q2, q3, q4, q5⟩)
        (first
          | (go_at_call 84; refine (show Calls _ _ _ _ _ from HCMm.out _).mono ?_; rintro e w1 ⟨rfl, hb1⟩; have q0 := cell_on d0 hb1; have q1 := cell_on d1 hb1; have q2 := cell_on d2 hb1; have q3 := cell_on d3 hb1; have q4 := cell_on d4 hb1; have q5 := cell_on d5 hb1))
      have HB1 : Hid (Below W0.heap.size W0 w1) := bel_to HB.out.drew hb1 (Nat.le_refl _)
      clear hb1 q0 q1 q2 q3 q4 q5 d0 d1 d2 d3 d4 d5
      by_cases hz : z < 0
      · have HL : Hid _ := HLS.out (HCN.out.1 hz)
        go_wp2
        go_roundw
        case rel => exact ⟨HB1.out, m + 1, j, by omega, hj, by first | rfl | (congr 1; omega), rfl, HL.out, HHI.out⟩
        case measure => simp [intOf]; omega
      · have HG : Hid _ := HGE.out (fun hq => hz (HCN.out.2 hq))
        go_wp2
        go_roundw
        case rel => exact ⟨HB1.out, i, m, hmi, by omega, rfl, by first | rfl | (congr 1; omega), HLO.out, HG.out⟩
        case measure => simp [intOf]; omega
    · have hje : j = i := by omega
      subst hje
      have HPL : Hid (Plc qs p j) := ⟨hj, HLO.out, HHI.out⟩
      have HBT : Hid (∀ W, Below W0.heap.size W0 W → Below w.heap.size w W) := fun W hx => by
        rw [HR.out]; exact HB0.out.trans (hx.mono (by rw [← HR.out]; exact HB0.out.size))
      by_cases hjn : j < qs.length
      · obtain ⟨E, o, c', he, hcell⟩ := (HK.out.on hb).cell plnOk hjn
        injection he with he1 _ he2
        subst he1
        have x0 : wr.cell? ⟨E, o + j * 3, none⟩ = some (.int .i64 (qs[j].s : Int)) := hcell 0 _ rfl
        have x1 : wr.cell? ⟨E, o + j * 3 + 1, none⟩ = some (.bool qs[j].c) := hcell 1 _ rfl
        have x2 : wr.cell? ⟨E, o + j * 3 + 2, none⟩ = some (meetV qs[j]) := hcell 2 _ rfl
        have HCMm : Hid _ := HCM.out j hjn
        have HCZ : Hid ((cmpQ qs[j] p == 0) = true ↔ ∃ h : j < qs.length, qs[j].s = p.s ∧ qs[j].c = p.c) := by
          rw [beq_iff_eq, cmp_eq]; exact ⟨fun h => ⟨hjn, h⟩, fun ⟨_, h⟩ => h⟩
        have hz0 : (0 : Int) ≤ (j : Int) := by omega
        have hz1 : (j : Int) < (qs.length : Int) := by omega
        have hgm : ∀ Y, qs[j]'hjn = Y → cmpQ qs[j] p = cmpQ Y p := fun Y e => by rw [e]
        clear hgm
        generalize hz : cmpQ qs[j] p = z at *
        clear hz
        generalize hvy : meetV qs[j] = vy at *
        clear hvy
        have HCZ' : Hid ((z == 0) = true ↔ ∃ h : j < qs.length, qs[j].s = p.s ∧ qs[j].c = p.c) := HCZ
        clear HCZ
        obtain ⟨ys, hys⟩ : ∃ ys, qs[j].s = ys := ⟨_, rfl⟩
        obtain ⟨yc, hyc⟩ : ∃ yc, qs[j].c = yc := ⟨_, rfl⟩
        rw [hys] at x0
        rw [hyc] at x1
        rw [hys, hyc] at HCMm
        clear hys hyc
        clear hb hcell he2 rf hrw
        go_upto_region 8 with fail
        have d0 : wr.drew.cell? ⟨R, 0, none⟩ = some (.int .i64 (p.s : Int)) := r0
        have d1 : wr.drew.cell? ⟨R, 1, none⟩ = some (.bool p.c) := r1
        have d2 : wr.drew.cell? ⟨R, 2, none⟩ = some vp := r2
        have d3 : wr.drew.cell? ⟨E, o + j * 3, none⟩ = some (.int .i64 (ys : Int)) := x0
        have d4 : wr.drew.cell? ⟨E, o + j * 3 + 1, none⟩ = some (.bool yc) := x1
        have d5 : wr.drew.cell? ⟨E, o + j * 3 + 2, none⟩ = some vy := x2
        clear r0 r1 r2 x0 x1 x2
        go_region_held3 (fun W : World => W.cell? ⟨R, 0, none⟩ = some (.int .i64 (p.s : Int)) ∧ W.cell? ⟨R, 1, none⟩ = some (.bool p.c) ∧ W.cell? ⟨R, 2, none⟩ = some vp ∧ W.cell? ⟨E, o + j * 3, none⟩ = some (.int .i64 (ys : Int)) ∧ W.cell? ⟨E, o + j * 3 + 1, none⟩ = some (.bool yc) ∧ W.cell? ⟨E, o + j * 3 + 2, none⟩ = some vy)
          (first | with_reducible exact ⟨d0, d1, d2, d3, d4, d5⟩ | with_reducible exact ⟨q0, q1, q2, q3, q4, q5⟩)
          (first
            | (go_at_call 84; refine (show Calls _ _ _ _ _ from HCMm.out _).mono ?_; rintro e w1 ⟨rfl, hb1⟩; have q0 := cell_on d0 hb1; have q1 := cell_on d1 hb1; have q2 := cell_on d2 hb1; have q3 := cell_on d3 hb1; have q4 := cell_on d4 hb1; have q5 := cell_on d5 hb1))
        have HB1 : Hid (Below W0.heap.size W0 w1) := bel_to HB.out.drew hb1 (Nat.le_refl _)
        clear hb1 q0 q1 q2 q3 q4 q5 d0 d1 d2 d3 d4 d5
        go_wp2
        go_returns
        exact ⟨HBT.out _ HB1.out, j, z == 0, HPL.out, HCZ'.out, rfl⟩
      · have HNO : Hid ((false = true) ↔ ∃ h : j < qs.length, qs[j].s = p.s ∧ qs[j].c = p.c) := ⟨fun h => (by cases h), fun ⟨h, _⟩ => absurd h hjn⟩
        have hz1 : ¬ (j : Int) < (qs.length : Int) := by omega
        clear hb rf hrw r0 r1 r2
        go_upto_region 8 with fail
        go_quiet (fail)
        go_wp2
        go_returns
        exact ⟨HBT.out _ (below_drewN HB.out _), j, false, HPL.out, HNO.out, rfl⟩
end Go.Proofs.YtencjopnbmbhkaaGreat
