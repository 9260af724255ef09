import Derived.Test.YtgbplghokciimaaDoorQkJ
import Derived.Test.YtgbplghokciimaaDoorQB
import Derived.BigRegion
namespace Go.Proofs.YtgbplghokciimaaDoor.S
open Go.RowKit
set_option linter.unusedVariables false
/-- the world in which a tower is taken out, at a level. -/
structure Ld (w W : World) (g : Nat) (S : SkS) (C : Nat → Nat) (n : Nat) (pv : Nat → Option Nat) (T : List Tw) (k : Nat) (t : Tw) (Wb : Nat) (d : Nat → Lk) (lv : Nat) : Prop where
  sk : Sk W g S C n (cD S.hb T k t lv) pv
  way : Blk W Wb (flat2 d 24) 132
  mv : Moved w W (sblk g S) (sblk g S)
section
variable {w W W' : World} {g : Nat} {S : SkS} {C : Nat → Nat} {n : Nat} {pv : Nat → Option Nat} {T : List Tw} {k : Nat} {t : Tw} {Wb : Nat} {d : Nat → Lk} {lv : Nat}
theorem place_at (hT : S.T = insT T k t) (hk : k ≤ T.length) : ∃ h : k < S.T.length, S.T[k] = t := by
  have hl : k < S.T.length := by rw [hT, insT_len]; omega
  refine ⟨hl, ?_⟩
  have := insT_at (t := t) hk
  rw [← hT, List.getElem?_eq_getElem hl] at this
  exact Option.some.inj this
theorem Ld.tow (h : Ld w W g S C n pv T k t Wb d lv) (hT : S.T = insT T k t) (hk : k ≤ T.length) : Blk W t.b (towL t (pv k)) 123 ∧ Rw W (.slice (some ⟨t.k, 0, none⟩) t.h t.h) t.h (lnk S.hb (insT T k t) (k + 1)) := by
  obtain ⟨hl, e⟩ := place_at hT hk
  have h1 := h.sk.tow k hl
  have h2 := h.sk.row k hl
  rw [e] at h1 h2
  exact ⟨h1, h2.congr (fun l _ => cD_own _ _ _ _ _ _)⟩
theorem lvA_at (hT : S.T = insT T k t) (hk : k ≤ T.length) : lvA S (k + 1) = .slice (some ⟨t.k, 0, none⟩) t.h t.h := by
  obtain ⟨hl, e⟩ := place_at hT hk
  rw [lvA_s hl, e]
theorem Ld.cells (h : Ld w W g S C n pv T k t Wb d lv) (hT : S.T = insT T k t) (hk : k ≤ T.length) (hw : Wy S k 0 d) (hlt : lv < S.H) (hH : S.H ≤ 24) : ∃ p b K kc, IsPrv (hts T) lv k p ∧ lv < hgA S p ∧ lvA S p = .slice (some ⟨K, 0, none⟩) (hgA S p) kc ∧ t.k ≠ K ∧ p ≤ S.T.length ∧ W.cell? ⟨Wb, lv * 2, none⟩ = some (.pointer (some ⟨b, 0, none⟩)) ∧ W.cell? ⟨b, 3, none⟩ = some (.slice (some ⟨K, 0, none⟩) (hgA S p) kc) ∧ Rw W (.slice (some ⟨K, 0, none⟩) (hgA S p) kc) (hgA S p) (cD S.hb T k t lv p) ∧ t.b ≠ K ∧ Wb ≠ K ∧ p ≤ k := by
  obtain ⟨p, hp, hd⟩ := hw.1 lv (Nat.zero_le _) hlt
  have hp' := hp
  rw [hT] at hp'
  have hp' := (prv_ins hk).1 hp'
  have hlen : S.T.length = T.length + 1 := by rw [hT, insT_len]
  have hpl : p ≤ S.T.length := by have := hp.le; omega
  obtain ⟨b, hpb, t3⟩ := h.sk.towAt hpl
  have hg := hgA_stand hp.at_ hlt
  have hr := h.sk.rowAt hpl
  obtain ⟨K, kc, hv, k0, k1, kf⟩ := hr.at hg
  have hKo : (lvA S p).ownBlock = some K := by rw [hv]; rfl
  have d0 := (flat2_get d 24 lv (by omega)).1
  rw [hd, hpb] at d0
  refine ⟨p, b, K, kc, hp', hg, hv, ?_, hpl, ?_, by rw [t3, hv], by rw [hv] at hr; exact hr, hr.ne hKo (h.tow hT hk).1 (by decide), hr.ne hKo h.way (by decide), hp.le⟩
  · refine h.sk.neK (p := k + 1) (q := p) (by omega) hpl (by have := hp.le; omega) ?_ hKo
    rw [lvA_at hT hk]; rfl
  · rw [h.way.cell]; exact d0
theorem Ld.next (h : Ld w W g S C n pv T k t Wb d lv) (hT : S.T = insT T k t) (hk : k ≤ T.length) {p K kc : Nat} (hp : IsPrv (hts T) lv k p) (hpl : p ≤ S.T.length) (hv : lvA S p = .slice (some ⟨K, 0, none⟩) (hgA S p) kc) (nw : Wb ≠ K) (ho : Only W W' K) {x : Lk} (hr : Rw W' (.slice (some ⟨K, 0, none⟩) (hgA S p) kc) (hgA S p) (updL (cD S.hb T k t lv p) lv x)) (hx : x = lnk S.hb T p lv) : Ld w W' g S C n pv T k t Wb d (lv + 1) := by
  have hKo : (lvA S p).ownBlock = some K := by rw [hv]; rfl
  have h1 := h.sk.setRow hpl hKo ho (by rw [hv]; exact hr)
  subst hx
  refine ⟨h1.cong (fun p' hp' l' hl' => cD_step hk hp ?_), h.way.to (ho.other _ nw), h.mv.trans (Moved.only ho (mem_row hpl hKo))⟩
  have := hgA_lt hl'
  rwa [hT] at this
theorem del_hi {hb : Nat} {l p : Nat} (hk : k ≤ T.length) (hp : IsPrv (hts T) l k p) (hl : ¬ l < t.h) : lnk hb (insT T k t) p l = ((lnk hb T p l).1, (lnk hb T p l).2 + 1) := link_hi hk hp hl
theorem del_lo {hb : Nat} {l p : Nat} (hk : k ≤ T.length) (hp : IsPrv (hts T) l k p) (hl : l < t.h) : (lnk hb (insT T k t) p l).2 = k + 1 - p ∧ (lnk hb (insT T k t) (k + 1) l).1 = (lnk hb T p l).1 ∧ (lnk hb (insT T k t) (k + 1) l).2 + (k - p) = (lnk hb T p l).2 := by
  obtain ⟨h1, h2⟩ := lnk_new (hb := hb) (t := t) hk hp
  refine ⟨?_, h1, h2⟩
  rw [lnk_prv hk hp, if_pos hl]
/-- a tower has been taken out. -/
theorem Ld.done (h : Ld w W g S C n pv T k t Wb d lv) (hT : S.T = insT T k t) (hk : k ≤ T.length) (hlv : lv = S.H) (hst : ∀ x ∈ hts S.T, x ≤ S.H) {pv' : Nat → Option Nat} (hp0 : ∀ i, i < k → pv i = pv' i) (hp1 : ∀ i, k ≤ i → pv (i + 1) = pv' i) : Sk W g (S.setT T) C n (lnk S.hb T) pv' ∧ Lone W g (S.setT T) t (pv k) (lnk S.hb (insT T k t) (k + 1)) := by
  subst hlv
  obtain ⟨q1, q2⟩ := h.tow hT hk
  refine ⟨h.sk.del hT hk (fun p hp l hl => ?_) (fun p hp hpn l hl => cD_end.2 hk p hp hpn l) hp0 hp1, q1, q2, ?_, ?_⟩
  · refine cD_end.1 p hp l ?_
    rcases hgA_lt hl with h0 | ⟨x, hx, hlx⟩
    · subst h0; exact hl
    · have hm : x ∈ hts S.T := by
        rw [hT]
        have := List.mem_iff_getElem?.2 ⟨_, hx⟩
        exact ((insT_perm0 T k t).map Tw.h).mem_iff.2 (by rw [List.map_cons]; exact List.mem_cons_of_mem _ this)
      have := hst x hm; omega
  · show t.b ∉ S.hb :: T.map Tw.b
    have hp := (((insT_perm0 T k t).map Tw.b).cons S.hb)
    have h1 := h.sk.ndB
    rw [hT, hp.nodup_iff, List.map_cons] at h1
    obtain ⟨h2, h3⟩ := List.nodup_cons.1 h1
    simp only [List.mem_cons, not_or] at h2 ⊢
    exact ⟨fun e => h2.1 e.symm, (List.nodup_cons.1 h3).1⟩
  · show t.k ∉ S.hv.ownBlock.toList ++ T.map Tw.k
    have hp := (((insT_perm0 T k t).map Tw.k).append_left S.hv.ownBlock.toList)
    have h1 := h.sk.ndK
    rw [hT, hp.nodup_iff, List.map_cons, List.perm_middle.nodup_iff] at h1
    exact (List.nodup_cons.1 h1).1
theorem sblk_del (hT : S.T = insT T k t) {q : Nat} (h : q ∈ t.b :: t.k :: sblk g (S.setT T)) : q ∈ sblk g S := by
  unfold sblk at h ⊢
  rw [hT]
  simp only [List.mem_cons, List.mem_append] at h ⊢
  have p1 := (insT_perm0 T k t).map Tw.b
  have p2 := (insT_perm0 T k t).map Tw.k
  rcases h with h | h | h | h | h | h | h
  · exact Or.inr (Or.inr (Or.inr (Or.inl (p1.mem_iff.2 (by rw [h]; simp)))))
  · exact Or.inr (Or.inr (Or.inr (Or.inr (p2.mem_iff.2 (by rw [h]; simp)))))
  · exact Or.inl h
  · exact Or.inr (Or.inl h)
  · exact Or.inr (Or.inr (Or.inl h))
  · exact Or.inr (Or.inr (Or.inr (Or.inl (p1.mem_iff.2 (List.mem_cons_of_mem _ h)))))
  · exact Or.inr (Or.inr (Or.inr (Or.inr (p2.mem_iff.2 (List.mem_cons_of_mem _ h)))))
/-- the counts of a tower that has gone. -/
theorem unlink_fin {c : Nat → Nat → Lk} {ct m : Nat} (h : Sk W g S (cntT (insT T k t)) n c pv) (ht1 : 1 ≤ t.h) (ht : t.h ≤ 24) (hct : cntT (insT T k t) (t.h - 1) = ct) (hm : m + 1 = n) (e : W' = ((W.setCell ⟨g, 3 + (t.h - 1), none⟩ (.int .i64 ((ct : Int) - 1))).drew).setCell ⟨g, 27, none⟩ (.int .i64 ((n : Int) - 1))) : Sk W' g S (cntT T) m c pv ∧ Only W W' g := by
  have hc := cntT_ins T k t (t.h - 1)
  rw [hct, if_pos (by omega)] at hc
  have e1 : ((ct : Int) - 1) = ((ct - 1 : Nat) : Int) := by omega
  have e2 : ((n : Int) - 1) = ((m : Nat) : Int) := by omega
  rw [e1, e2] at e
  have h1 := h.setCount (j := t.h - 1) (by omega) (ct - 1)
  have ho : Only (W.setCell ⟨g, 3 + (t.h - 1), none⟩ (.int .i64 ((ct - 1 : Nat) : Int))) ((W.setCell ⟨g, 3 + (t.h - 1), none⟩ (.int .i64 ((ct - 1 : Nat) : Int))).drew) g := ⟨rfl, rfl, rfl, rfl, fun _ _ => rfl⟩
  have h2 : Sk ((W.setCell ⟨g, 3 + (t.h - 1), none⟩ (.int .i64 ((ct - 1 : Nat) : Int))).drew) g S _ n c pv := h1.to (fun q hq => rfl)
  have h3 := h2.setSize m
  subst e
  refine ⟨h3.congC (fun j hj => ?_), ((only_set W g _ _).trans ho).set _ _⟩
  have hj3 := cntT_ins T k t j
  unfold updC
  by_cases hj2 : j = t.h - 1
  · subst hj2; rw [if_pos rfl]; omega
  · rw [if_neg hj2]; rw [if_neg (by omega)] at hj3; exact hj3
theorem top_del {H H' : Nat} (htop : ∀ x ∈ hts T, x ≤ H) (hle : H' ≤ H) (h1 : H' = 0 ∨ cntT T (H' - 1) ≠ 0) (h2 : ∀ j, H' ≤ j → j < H → cntT T j = 0) : IsTop T H' := by
  refine ⟨fun x hx => ?_, ?_⟩
  · rcases Nat.lt_or_ge H' x with q | q
    · have := htop x hx
      obtain ⟨u, hu, rfl⟩ := List.mem_map.1 hx
      have := cntT_zero (h2 (u.h - 1) (by omega) (by omega)) u hu
      omega
    · exact q
  · rcases h1 with q | q
    · exact Or.inl q
    · rcases Nat.eq_zero_or_pos H' with q0 | q0
      · exact Or.inl q0
      · obtain ⟨u, hu, e⟩ := cntT_pos q
        exact Or.inr ⟨u, hu, by omega⟩
end
end Go.Proofs.YtgbplghokciimaaDoor.S
namespace Go.Proofs.YtgbplghokciimaaDoor.S
open Go.RowKit
set_option linter.unusedVariables false
theorem Ld.start {w w2 W3 : World} {g : Nat} {S : SkS} {C : Nat → Nat} {n : Nat} {pv : Nat → Option Nat} {T : List Tw} {k : Nat} {t : Tw} {d : Nat → Lk} (hT : S.T = insT T k t) (h : Sk w g S C n (lnk S.hb S.T) pv) (hb : Below w.heap.size w w2) (e : W3 = w2.alloc (.cells (flat2 d 24).toArray 132)) : Ld w W3 g S C n pv T k t w2.heap.size d 0 := by
  have hb3 : Below w.heap.size w W3 := by rw [e]; exact hb.alloc hb.size _
  refine ⟨?_, ?_, Moved.of_below hb3⟩
  · rw [cD_zero, ← hT]; exact h.below hb3
  · rw [e]; exact one_alloc _ _
theorem Moved.cons2 {w w' : World} {F F' : List Nat} (h : Moved w w' F F') (a b : Nat) : Moved w w' (a :: b :: F) (a :: b :: F') := by
  refine ⟨h.os, h.tape, h.output, h.size, fun q hq hn => h.rest q hq (fun hx => hn (by simp [hx])), fun q hq => ?_⟩
  simp only [List.mem_cons] at hq ⊢
  rcases hq with q1 | q1 | q1
  · exact Or.inl (Or.inl q1)
  · exact Or.inl (Or.inr (Or.inl q1))
  · rcases h.new q q1 with q2 | q2
    · exact Or.inl (Or.inr (Or.inr q2))
    · exact Or.inr q2
set_option maxHeartbeats 6000000 in
set_option maxRecDepth 100000 in
theorem unlink_any (g : Nat) (S : SkS) (T : List Tw) (k : Nat) (t : Tw) (w : World) (hT : S.T = insT T k t) (hk : k ≤ T.length) (h : Sk w g S (cntT S.T) S.T.length (lnk S.hb S.T) (pAt S.hb S.T)) (hbrd : Brd (ens S.T)) (htop : IsTop S.T S.H) (hH : S.H ≤ 24) (hn : S.T.length ≤ 1000000) (hpos : ∀ x ∈ hts S.T, 1 ≤ x) : Calls Tryd.prog 68 #[.pointer (some ⟨g, 0, none⟩), .pointer (some ⟨t.b, 0, none⟩)] w fun e w' => e = .returned (.tuple #[]) ∧ ∃ v H', IsTop T H' ∧ H' ≤ 24 ∧ Sk w' g ((S.setT T).setH v H') (cntT T) T.length (lnk S.hb T) (pAt S.hb T) ∧ (∃ o c0, Lone w' g ((S.setT T).setH v H') t o c0) ∧ Moved w w' (sblk g S) (t.b :: t.k :: sblk g ((S.setT T).setH v H')) := by
  have hlen : S.T.length = T.length + 1 := by rw [hT, insT_len]
  obtain ⟨hkl, hkt⟩ := place_at hT hk
  have hA : ∀ q (hq : q < S.T.length), ahd S.T[q].e t.e = decide (q < k) := fun q hq => by
    have := self_dec hbrd (k := k) (q := q) (by rw [ens_len]; exact hkl) (by rw [ens_len]; exact hq)
    rw [← this]; simp [hkt]
  have hbt := h.tow k hkl
  rw [hkt] at hbt
  obtain ⟨x0, x1⟩ := tow_cells hbt
  have ht1 : 1 ≤ t.h := hpos _ (by rw [hT]; exact ((insT_perm0 T k t).map Tw.h).mem_iff.2 (by simp))
  have ht24 : t.h ≤ S.H := htop.le _ (by rw [hT]; exact ((insT_perm0 T k t).map Tw.h).mem_iff.2 (by simp))
  have HAH : Hid _ := ahead_any g S (cntT S.T) S.T.length (pAt S.hb S.T) k t.b t.e w h (by omega) hH (by omega) x0 x1 hA
  have HSK : Hid (Sk w g S (cntT S.T) S.T.length (lnk S.hb S.T) (pAt S.hb S.T)) := h
  have HPO : Hid (∀ x ∈ hts S.T, 1 ≤ x) := hpos
  have HTT : Hid (S.T = insT T k t) := hT
  have HTP : Hid (IsTop S.T S.H) := htop
  clear h hA hbrd hpos hbt x0 x1 hT hkt htop
  go_enter Tryd.func68, Tryd.ntmps68
  go_wp2_with fail
  refine (show Calls _ _ _ _ _ from HAH.out).mono ?_
  rintro e w2 ⟨d, rfl, hw, hb2⟩
  obtain ⟨W3, hW3⟩ : ∃ W3, W3 = w2.alloc (.cells (flat2 d 24).toArray 132) := ⟨_, rfl⟩
  have HLV : Hid (Ld w W3 g S (cntT S.T) S.T.length (pAt S.hb S.T) T k t w2.heap.size d 0) := Ld.start HTT.out HSK.out hb2 hW3
  have HW3 : Hid (W3 = w2.alloc (.cells (flat2 d 24).toArray 132)) := hW3
  have HWY : Hid (Wy S k 0 d) := hw
  have HZ : Hid (Blk (w2.alloc (.cells (flat2 (fun _ => (none, 0)) 24).toArray 132)) w2.heap.size (flat2 (fun _ => (none, 0)) 24) 132) := one_alloc _ _
  have b2 : W3.cell? ⟨g, 2, none⟩ = some (.pointer (some ⟨S.hb, 0, none⟩)) := by rw [HLV.out.sk.brd.cell]; rfl
  obtain ⟨P3, kk3, hf3⟩ := HLV.out.sk.hrow.form
  have b3 : W3.cell? ⟨S.hb, 3, none⟩ = some (.slice P3 S.H kk3) := by rw [HLV.out.sk.head.cell]; exact congrArg some hf3
  clear hw hb2 hW3 hf3
  rw [zero24] at HZ
  go_wp2_with (first | (refine wpList_store_row rfl 132 _ _ rfl w2.heap.size _ rfl rfl _ _ HZ.out (infoW d) (by rw [← zero24]; exact sizeW _ d) (oneW d) ?_; rw [World.setRow_alloc_new, ← HW3.out]))
  go_loopw [19] (fun cl wr => ∃ lv : Nat, lv ≤ S.H ∧ cl = .int .i64 (lv : Int) ∧ Ld w wr g S (cntT S.T) S.T.length (pAt S.hb S.T) T k t w2.heap.size d lv) (fun cl _ => S.H - (intOf cl).toNat)
  case atStart => exact ⟨0, Nat.zero_le _, rfl, HLV.out⟩
  case round =>
    obtain ⟨lv, hlv, rfl, hLV⟩ := hrel
    have HLV2 : Hid (Ld w wr g S (cntT S.T) S.T.length (pAt S.hb S.T) T k t w2.heap.size d lv) := hLV
    clear b2 b3 hLV HLV
    obtain ⟨tw1, tr1⟩ := HLV2.out.tow HTT.out hk
    have tb3 : wr.cell? ⟨t.b, 3, none⟩ = some (.slice (some ⟨t.k, 0, none⟩) t.h t.h) := by rw [tw1.cell]; rfl
    by_cases hlt : lv < S.H
    · obtain ⟨p, b, K, kc, hp, hg, hv, nk, hpl, q0, t3, hrw, nb, nw, hpk⟩ := HLV2.out.cells HTT.out hk HWY.out hlt hH
      obtain ⟨K2, kc2, hv2, k0, k1, kf⟩ := hrw.at hg
      cases hv2
      rw [cD_now] at k0 k1
      have kf0 := kf (lv * 2)
      have kf1 := kf (lv * 2 + 1)
      have HRW : Hid (Rw wr (.slice (some ⟨K, 0, none⟩) (hgA S p) kc) (hgA S p) (cD S.hb T k t lv p)) := hrw
      obtain ⟨ov, hov⟩ : ∃ ov, (lnk S.hb (insT T k t) p lv).2 = ov := ⟨_, rfl⟩
      rw [hov] at k1
      have k1' : wr.cell? ⟨K, lv * 2 + 1, none⟩ = some (.int .i64 (ov : Int)) := k1
      have hrm : k - p < (lnk S.hb T p lv).2 ∧ (lnk S.hb T p lv).2 ≤ T.length + 1 := lnk_room hk hp
      have HP : Hid (IsPrv (hts T) lv k p) := hp
      have HV : Hid _ := hv
      have hl24 : (lv : Int) < 24 := by omega
      have hlh : (lv : Int) < (S.H : Int) := by omega
      have hlg : (lv : Int) < (hgA S p : Int) := by omega
      have hlw : IntKind.i64.wrap ((lv : Int) + 1) = (lv : Int) + 1 := by rw [IntKind.wrap_i64] <;> omega
      have hl0 : (0 : Int) ≤ (lv : Int) := by omega
      have HPL : Hid _ := hpl
      by_cases hth : lv < t.h
      · have hth2 : (lv : Int) < (t.h : Int) := by omega
        obtain ⟨e1, e2, e3⟩ := del_lo (hb := S.hb) (t := t) hk hp hth
        obtain ⟨K4, kc4, hv4, u0, u1, uf⟩ := tr1.at hth
        cases hv4
        rw [hov] at e1
        obtain ⟨ot, hot⟩ : ∃ ot, (lnk S.hb (insT T k t) (k + 1) lv).2 = ot := ⟨_, rfl⟩
        rw [hot] at u1 e3
        rw [e2] at u0
        obtain ⟨N, hN⟩ : ∃ N, (lnk S.hb T p lv).1 = N := ⟨_, rfl⟩
        rw [hN] at u0
        have HX : Hid (lnk S.hb T p lv = (N, ot + (k - p))) := Prod.ext hN e3.symm
        have HOV : Hid (ov = k + 1 - p) := e1
        obtain ⟨pN, hpN⟩ : ∃ pN, ptr N = .pointer pN := ⟨_, rfl⟩
        rw [hpN] at u0
        have HPN : Hid (ptr N = .pointer pN) := hpN
        obtain ⟨Y0, hY0⟩ : ∃ Y0, wr.cell? ⟨K, lv * 2, none⟩ = some Y0 := ⟨_, k0⟩
        obtain ⟨W1, hW1⟩ : ∃ W1, W1 = wr.setCell ⟨K, lv * 2, none⟩ (.pointer pN) := ⟨_, rfl⟩
        have ho1 : Only wr W1 K := by rw [hW1]; exact only_set _ _ _ _
        have r1 := hrw.set0 (l := lv) N
        rw [hpN, ← hW1] at r1
        obtain ⟨K5, kc5, hv5, y0, y1, yf⟩ := r1.at hg
        cases hv5
        rw [updL_self, cD_now, hov] at y1
        have y1' : W1.cell? ⟨K, lv * 2 + 1, none⟩ = some (.int .i64 (ov : Int)) := y1
        have yf1 := yf (lv * 2 + 1)
        have v3 : W1.cell? ⟨t.b, 3, none⟩ = some (.slice (some ⟨t.k, 0, none⟩) t.h t.h) := (World.cell?_of_block (a := ⟨t.b, 3, none⟩) (ho1.other _ nb)).trans tb3
        have v1 : W1.cell? ⟨t.k, lv * 2 + 1, none⟩ = some (.int .i64 (ot : Int)) := (World.cell?_of_block (a := ⟨t.k, lv * 2 + 1, none⟩) (ho1.other _ nk)).trans u1
        have w1 : IntKind.i64.wrap ((ov : Int) + (ot : Int)) = (ov : Int) + (ot : Int) := by rw [IntKind.wrap_i64] <;> omega
        have w2' : IntKind.i64.wrap ((ov : Int) + (ot : Int) - 1) = (ov : Int) + (ot : Int) - 1 := by rw [IntKind.wrap_i64] <;> omega
        have HW1 : Hid (W1 = wr.setCell ⟨K, lv * 2, none⟩ (.pointer pN)) := hW1
        have HO1 : Hid _ := ho1
        have HR1 : Hid (Rw W1 (.slice (some ⟨K, 0, none⟩) (hgA S p) kc) (hgA S p) (updL (cD S.hb T k t lv p) lv (N, (cD S.hb T k t lv p lv).2))) := r1
        have HG : Hid (lv < hgA S p) := hg
        obtain ⟨hh, hhe⟩ : ∃ hh, hgA S p = hh := ⟨_, rfl⟩
        rw [hhe] at t3 hlg
        clear hhe e1 e2 e3 hot hN hov hp hv hpl hrw k0 k1 k1' kf kf1 hrm y0 y1 yf ho1 r1 tw1 tr1 uf hpN hg
        go_upto_region 7 with fail
        rw [← hW1]
        clear hW1 q0 t3 tb3 u0 u1 hY0 kf0
        go_region
        obtain ⟨W2, hW2⟩ : ∃ W2, W2 = (W1.setCell ⟨K, lv * 2 + 1, none⟩ (.int .i64 ((ov : Int) + (ot : Int)))).drew := ⟨_, rfl⟩
        rw [← hW2]
        have r2 := HR1.out.set1 (l := lv) (ov + ot)
        have r2 := r2.to (W' := W2) (fun K' hK' => by
          cases hK'
          rw [hW2, show (((ov + ot : Nat) : Nat) : Int) = (ov : Int) + (ot : Int) by omega]; rfl)
        obtain ⟨K6, kc6, hv6, z0, z1, zf⟩ := r2.at HG.out
        cases hv6
        rw [updL_self] at z1
        have z1' : W2.cell? ⟨K, lv * 2 + 1, none⟩ = some (.int .i64 ((ov : Int) + (ot : Int))) := z1
        have zf1 := zf (lv * 2 + 1)
        have ho2 : Only W1 W2 K := by
          rw [hW2]
          exact Only.trans (only_set W1 K (lv * 2 + 1) (.int .i64 ((ov : Int) + (ot : Int)))) ⟨rfl, rfl, rfl, rfl, fun _ _ => rfl⟩
        have HO2 : Hid _ := ho2
        have HR2 : Hid (Rw W2 (.slice (some ⟨K, 0, none⟩) (hgA S p) kc) (hgA S p) (updL (updL (cD S.hb T k t lv p) lv (N, (cD S.hb T k t lv p lv).2)) lv ((updL (cD S.hb T k t lv p) lv (N, (cD S.hb T k t lv p lv).2) lv).1, ov + ot))) := r2
        clear hW2 ho2 r2 z0 z1 zf y1' yf1 v3 v1
        go_wp2
        go_roundw
        case rel =>
          have r3 := HR2.out.set1 (l := lv) (ov + ot - 1)
          rw [updL_self, updL_self, updL_twice, updL_twice, show (((ov + ot - 1 : Nat) : Nat) : Int) = (ov : Int) + (ot : Int) - 1 by have := HOV.out; omega] at r3
          refine ⟨lv + 1, by omega, by go_num, HLV2.out.next HTT.out hk HP.out HPL.out HV.out nw ((HO1.out.trans HO2.out).set _ _) r3 ?_⟩
          rw [HX.out]
          refine Prod.ext rfl ?_
          have := HOV.out
          show ov + ot - 1 = ot + (k - p)
          omega
        case measure => simp [intOf]; omega
      · have hth2 : ¬ (lv : Int) < (t.h : Int) := by omega
        have e1 := del_hi (hb := S.hb) (t := t) hk hp hth
        have HE1 : Hid (lnk S.hb (insT T k t) p lv = ((lnk S.hb T p lv).1, (lnk S.hb T p lv).2 + 1)) := e1
        have eo : ov = (lnk S.hb T p lv).2 + 1 := by rw [← hov, e1]
        have HEO : Hid (ov = (lnk S.hb T p lv).2 + 1) := eo
        have ow : IntKind.i64.wrap ((ov : Int) - 1) = (ov : Int) - 1 := by rw [IntKind.wrap_i64] <;> omega
        obtain ⟨hh, hhe⟩ : ∃ hh, hgA S p = hh := ⟨_, rfl⟩
        rw [hhe] at t3 hlg
        have HOV : Hid ((lnk S.hb (insT T k t) p lv).2 = ov) := hov
        clear hhe hov hp hv hpl hrw k0 k1 kf kf0 tw1 tr1 hg e1 eo hrm
        go_wp2
        go_roundw
        case rel =>
          have r3 := HRW.out.set1 (l := lv) (ov - 1)
          rw [show (((ov - 1 : Nat) : Nat) : Int) = (ov : Int) - 1 by have := HEO.out; omega] at r3
          refine ⟨lv + 1, by omega, by go_num, HLV2.out.next HTT.out hk HP.out HPL.out HV.out nw (only_set _ _ _ _) r3 ?_⟩
          rw [cD_now, HE1.out, HEO.out]
          exact Prod.ext rfl (Nat.add_sub_cancel _ _)
        case measure => simp [intOf]; omega
    · have hle : lv = S.H := by omega
      subst hle
      have hlh : ¬ (S.H : Int) < (S.H : Int) := by omega
      obtain ⟨b0, hb0⟩ : ∃ b0, pAt S.hb S.T k = some b0 := by
        obtain ⟨b0, hb0, _⟩ := HLV2.out.sk.towAt (p := k) (by omega)
        exact ⟨b0, hb0⟩
      have hN := next_zero (hb := S.hb) (T := T) (k := k) (t := t) hk (fun x hx => HPO.out x (by rw [HTT.out]; exact ((insT_perm0 T k t).map Tw.h).mem_iff.2 (by rw [List.map_cons]; exact List.mem_cons_of_mem _ hx))) ht1
      obtain ⟨N, hNN⟩ : ∃ N, (T[k]?).map Tw.b = N := ⟨_, rfl⟩
      obtain ⟨K, kc, hv, k0, k1, kf⟩ := tr1.at (l := 0) ht1
      cases hv
      have k0' : wr.cell? ⟨t.k, 0, none⟩ = some (ptr N) := by rw [← hNN, ← hN]; exact k0
      have tb4 : wr.cell? ⟨t.b, 4, none⟩ = some (.pointer (some ⟨b0, 0, none⟩)) := by
        rw [tw1.cell]
        show some (ptr (pAt S.hb S.T k)) = _
        rw [hb0]; rfl
      have ht0 : (0 : Int) < (t.h : Int) := by omega
      have HNN : Hid ((T[k]?).map Tw.b = N) := hNN
      have HB0 : Hid (pAt S.hb S.T k = some b0) := hb0
      clear hNN hN k0 k1 kf hb0 tw1 tr1
      rcases N with _ | b1
      · have k0'' : wr.cell? ⟨t.k, 0, none⟩ = some (.pointer none) := k0'
        clear k0'
        have hkl : k = T.length := by
          have := HNN.out
          rcases Nat.lt_or_ge k T.length with q | q
          · rw [List.getElem?_eq_getElem q] at this; cases this
          · omega
        have hld5 : Ld w wr g S (cntT S.T) S.T.length (fun i => if i ≤ k then pAt S.hb S.T i else pAt S.hb T (i - 1)) T k t w2.heap.size d S.H := ⟨HLV2.out.sk.congPv (fun i hi => by rw [if_pos (by omega)]), HLV2.out.way, HLV2.out.mv⟩
        have hmv5 := HLV2.out.mv
        clear hkl
        go_upto_region 13 with fail
        clear k0'' tb4 tb3
        obtain ⟨W5, hW5⟩ : ∃ W5, W5 = wr := ⟨_, rfl⟩
        subst hW5
        have HMV5 : Hid (Moved w W5 (sblk g S) (sblk g S)) := hmv5
        obtain ⟨hsk5, hln5⟩ := hld5.done HTT.out hk rfl HTP.out.le (pv' := pAt S.hb T) (fun i hi => by rw [if_pos (by omega), HTT.out, pAt_lo hk (by omega)]) (fun i hi => by rw [if_neg (by omega), Nat.add_sub_cancel])
        have c5 : W5.cell? ⟨g, 3 + (t.h - 1), none⟩ = some (.int .i64 (cntT S.T (t.h - 1) : Int)) := by
          rw [hsk5.brd.cell]; exact boardL_at _ _ _ _ _ _ (by omega)
        have f5 : W5.frozen? ⟨g, 3 + (t.h - 1), none⟩ = false := hsk5.brd.frozen _
        have t53 : W5.cell? ⟨t.b, 3, none⟩ = some (.slice (some ⟨t.k, 0, none⟩) t.h t.h) := by rw [hln5.blk.cell]; rfl
        have hct := cntT_le S.T (t.h - 1)
        rw [HTT.out] at hsk5
        have HSK5 : Hid (Sk W5 g (S.setT T) (cntT (insT T k t)) (insT T k t).length (lnk S.hb T) (pAt S.hb T)) := hsk5
        have HLN5 : Hid _ := hln5
        obtain ⟨ct, hct2⟩ : ∃ ct, cntT S.T (t.h - 1) = ct := ⟨_, rfl⟩
        rw [hct2] at c5 hct
        have HCT : Hid (cntT (insT T k t) (t.h - 1) = ct) := by
          show _ = _
          rw [← HTT.out]; exact hct2
        have hct1 : 1 ≤ ct := by
          have := cntT_ins T k t (t.h - 1)
          rw [HCT.out, if_pos (by omega)] at this; omega
        clear hct2 hsk5 hmv5 hld5 hln5
        have cw : IntKind.i64.wrap ((ct : Int) - 1) = (ct : Int) - 1 := by rw [IntKind.wrap_i64] <;> omega
        have tw : IntKind.i64.wrap ((t.h : Int) - 1) = (t.h : Int) - 1 := by rw [IntKind.wrap_i64] <;> omega
        have tn : ((t.h : Int) - 1).toNat = t.h - 1 := by omega
        have ti0 : (0 : Int) ≤ (t.h : Int) - 1 := by omega
        have ti1 : (t.h : Int) - 1 < 24 := by omega
        go_region
        obtain ⟨W6, hW6⟩ : ∃ W6, W6 = (W5.setCell ⟨g, 3 + (t.h - 1), none⟩ (.int .i64 ((ct : Int) - 1))).drew := ⟨_, rfl⟩
        rw [← hW6]
        have b6 := HSK5.out.brd.set (3 + (t.h - 1)) (.int .i64 ((ct : Int) - 1))
        have b6 := b6.to (W' := W6) (by rw [hW6]; rfl)
        have c6 : W6.cell? ⟨g, 27, none⟩ = some (.int .i64 (S.T.length : Int)) := by
          rw [b6.cell, List.getElem?_set_ne (by omega), HTT.out]; rfl
        have f6 : W6.frozen? ⟨g, 27, none⟩ = false := b6.frozen _
        have nw : IntKind.i64.wrap ((S.T.length : Int) - 1) = (S.T.length : Int) - 1 := by rw [IntKind.wrap_i64] <;> omega
        obtain ⟨W7, hW7⟩ : ∃ W7, W7 = W6.setCell ⟨g, 27, none⟩ (.int .i64 (T.length : Int)) := ⟨_, rfl⟩
        obtain ⟨r1, r2⟩ := unlink_fin (W' := W7) (m := T.length) HSK5.out ht1 (by omega) HCT.out (by rw [insT_len]) (by rw [hW7, hW6, show (((insT T k t).length : Nat) : Int) - 1 = (T.length : Int) by rw [insT_len]; omega])
        have HLO : Hid _ := lower_any g (S.setT T) (cntT T) T.length (lnk S.hb T) (pAt S.hb T) W7 r1 hH
        have hl7 := HLN5.out
        have HL7 : Hid (Lone W7 g (S.setT T) t _ _) := hl7.to (r2.other _ (fun e => (r1.brd.ne (hl7.blk.to (r2.other _ (fun e => HSK5.out.brd.ne hl7.blk (by decide) e.symm))) (by decide)) e.symm)) (r2.other _ (fun e => hl7.row.ne rfl HSK5.out.brd (by decide) e.symm))
        have HSK7 : Hid (Sk W7 g (S.setT T) (cntT T) T.length (lnk S.hb T) (pAt S.hb T)) := r1
        have HMV7 : Hid (Moved w W7 (sblk g S) (sblk g S)) := HMV5.out.trans (Moved.only r2 (by simp [sblk]))
        have HW7 : Hid _ := hW7
        clear hW6 b6 c5 f5 t53 r1 r2 hl7
        go_wp2_with fail
        rw [← hW7]
        clear hW7
        refine (show Calls _ _ _ _ _ from HLO.out).mono ?_
        rintro e w8 ⟨rfl, v, H', hle, q1, q2, hsk8, hmv8⟩
        have HSK8 : Hid (Sk w8 g ((S.setT T).setH v H') (cntT T) T.length (lnk S.hb T) (pAt S.hb T)) := hsk8
        have HL8 : Hid _ := HL7.out.raised HSK7.out hmv8
        have HM8 : Hid _ := (HMV7.out.less (G := t.b :: t.k :: sblk g (S.setT T)) (fun q hq => sblk_del HTT.out hq)).trans (hmv8.cons2 t.b t.k)
        have hsub : ∀ x ∈ hts T, x ≤ S.H := fun x hx => HTP.out.le x (by rw [HTT.out]; exact ((insT_perm0 T k t).map Tw.h).mem_iff.2 (by rw [List.map_cons]; exact List.mem_cons_of_mem _ hx))
        have HTOP : Hid (IsTop T H') := top_del hsub hle q1 q2
        have hle2 : H' ≤ S.H := hle
        clear hsk8 hmv8 hsub q1 q2 hle
        go_wp2
        go_returns
        exact ⟨rfl, v, H', HTOP.out, by omega, HSK8.out, ⟨_, _, HL8.out⟩, HM8.out⟩
      · have k0'' : wr.cell? ⟨t.k, 0, none⟩ = some (.pointer (some ⟨b1, 0, none⟩)) := k0'
        clear k0'
        have hkl : k < T.length ∧ ∀ h : k < T.length, T[k].b = b1 := by
          have := HNN.out
          rcases Nat.lt_or_ge k T.length with q | q
          · rw [List.getElem?_eq_getElem q] at this; cases this; exact ⟨q, fun _ => rfl⟩
          · rw [List.getElem?_eq_none q] at this; cases this
        have hi1 : k + 1 < S.T.length := by omega
        have hb1 : S.T[k + 1].b = b1 := by
          have := insT_hi (t := t) hk (Nat.le_refl k)
          rw [← HTT.out, List.getElem?_eq_getElem hi1, List.getElem?_eq_getElem hkl.1] at this
          rw [Option.some.inj this]; exact hkl.2 hkl.1
        have hbk := HLV2.out.sk.tow (k + 1) hi1
        rw [hb1] at hbk
        have b14 : ∃ X, wr.cell? ⟨b1, 4, none⟩ = some X := ⟨_, by rw [hbk.cell]; rfl⟩
        obtain ⟨X4, b14⟩ := b14
        have f14 : wr.frozen? ⟨b1, 4, none⟩ = false := hbk.frozen 4
        obtain ⟨W5, hW5⟩ : ∃ W5, W5 = wr.setCell ⟨b1, 4, none⟩ (.pointer (some ⟨b0, 0, none⟩)) := ⟨_, rfl⟩
        have ho5 : Only wr W5 b1 := by rw [hW5]; exact only_set _ _ _ _
        have nwb : w2.heap.size ≠ b1 := HLV2.out.way.ne hbk (by decide)
        have hsk5 := HLV2.out.sk.setPrev (i := k + 1) hi1 (some b0)
        have hsk5 : Sk (wr.setCell ⟨S.T[k + 1].b, 4, none⟩ (.pointer (some ⟨b0, 0, none⟩))) g _ _ _ _ _ := hsk5
        rw [hb1, ← hW5] at hsk5
        have hmv5 := HLV2.out.mv.trans (Moved.only ho5 (F := sblk g S) (by
          have := mem_tow (g := g) (S := S) hi1
          rwa [hb1] at this))
        have hld5 : Ld w W5 g S (cntT S.T) S.T.length (fun i => if i ≤ k then pAt S.hb S.T i else pAt S.hb T (i - 1)) T k t w2.heap.size d S.H := ⟨hsk5.congPv (fun i hi => by
          unfold updF
          by_cases h1 : i = k + 1
          · rw [if_pos h1, h1, if_neg (by omega), Nat.add_sub_cancel, ← pAt_lo (t := t) hk (Nat.le_refl k), ← HTT.out, HB0.out]
          · rw [if_neg h1]
            by_cases h2 : i ≤ k
            · rw [if_pos h2]
            · rw [if_neg h2]
              have := pAt_hi (hb := S.hb) (t := t) (q := i - 1) hk (by omega)
              rw [show i - 1 + 1 = i by omega, ← HTT.out] at this
              exact this), HLV2.out.way.to (ho5.other _ nwb), hmv5⟩
        clear hsk5 hbk ho5 nwb hb1 hkl
        go_upto_region 13 with fail
        rw [← hW5]
        clear hW5 k0'' b14 f14 tb4 tb3
        have HMV5 : Hid (Moved w W5 (sblk g S) (sblk g S)) := hmv5
        obtain ⟨hsk5, hln5⟩ := hld5.done HTT.out hk rfl HTP.out.le (pv' := pAt S.hb T) (fun i hi => by rw [if_pos (by omega), HTT.out, pAt_lo hk (by omega)]) (fun i hi => by rw [if_neg (by omega), Nat.add_sub_cancel])
        have c5 : W5.cell? ⟨g, 3 + (t.h - 1), none⟩ = some (.int .i64 (cntT S.T (t.h - 1) : Int)) := by
          rw [hsk5.brd.cell]; exact boardL_at _ _ _ _ _ _ (by omega)
        have f5 : W5.frozen? ⟨g, 3 + (t.h - 1), none⟩ = false := hsk5.brd.frozen _
        have t53 : W5.cell? ⟨t.b, 3, none⟩ = some (.slice (some ⟨t.k, 0, none⟩) t.h t.h) := by rw [hln5.blk.cell]; rfl
        have hct := cntT_le S.T (t.h - 1)
        rw [HTT.out] at hsk5
        have HSK5 : Hid (Sk W5 g (S.setT T) (cntT (insT T k t)) (insT T k t).length (lnk S.hb T) (pAt S.hb T)) := hsk5
        have HLN5 : Hid _ := hln5
        obtain ⟨ct, hct2⟩ : ∃ ct, cntT S.T (t.h - 1) = ct := ⟨_, rfl⟩
        rw [hct2] at c5 hct
        have HCT : Hid (cntT (insT T k t) (t.h - 1) = ct) := by
          show _ = _
          rw [← HTT.out]; exact hct2
        have hct1 : 1 ≤ ct := by
          have := cntT_ins T k t (t.h - 1)
          rw [HCT.out, if_pos (by omega)] at this; omega
        clear hct2 hsk5 hmv5 hld5 hln5
        have cw : IntKind.i64.wrap ((ct : Int) - 1) = (ct : Int) - 1 := by rw [IntKind.wrap_i64] <;> omega
        have tw : IntKind.i64.wrap ((t.h : Int) - 1) = (t.h : Int) - 1 := by rw [IntKind.wrap_i64] <;> omega
        have tn : ((t.h : Int) - 1).toNat = t.h - 1 := by omega
        have ti0 : (0 : Int) ≤ (t.h : Int) - 1 := by omega
        have ti1 : (t.h : Int) - 1 < 24 := by omega
        go_region
        obtain ⟨W6, hW6⟩ : ∃ W6, W6 = (W5.setCell ⟨g, 3 + (t.h - 1), none⟩ (.int .i64 ((ct : Int) - 1))).drew := ⟨_, rfl⟩
        rw [← hW6]
        have b6 := HSK5.out.brd.set (3 + (t.h - 1)) (.int .i64 ((ct : Int) - 1))
        have b6 := b6.to (W' := W6) (by rw [hW6]; rfl)
        have c6 : W6.cell? ⟨g, 27, none⟩ = some (.int .i64 (S.T.length : Int)) := by
          rw [b6.cell, List.getElem?_set_ne (by omega), HTT.out]; rfl
        have f6 : W6.frozen? ⟨g, 27, none⟩ = false := b6.frozen _
        have nw : IntKind.i64.wrap ((S.T.length : Int) - 1) = (S.T.length : Int) - 1 := by rw [IntKind.wrap_i64] <;> omega
        obtain ⟨W7, hW7⟩ : ∃ W7, W7 = W6.setCell ⟨g, 27, none⟩ (.int .i64 (T.length : Int)) := ⟨_, rfl⟩
        obtain ⟨r1, r2⟩ := unlink_fin (W' := W7) (m := T.length) HSK5.out ht1 (by omega) HCT.out (by rw [insT_len]) (by rw [hW7, hW6, show (((insT T k t).length : Nat) : Int) - 1 = (T.length : Int) by rw [insT_len]; omega])
        have HLO : Hid _ := lower_any g (S.setT T) (cntT T) T.length (lnk S.hb T) (pAt S.hb T) W7 r1 hH
        have hl7 := HLN5.out
        have HL7 : Hid (Lone W7 g (S.setT T) t _ _) := hl7.to (r2.other _ (fun e => (r1.brd.ne (hl7.blk.to (r2.other _ (fun e => HSK5.out.brd.ne hl7.blk (by decide) e.symm))) (by decide)) e.symm)) (r2.other _ (fun e => hl7.row.ne rfl HSK5.out.brd (by decide) e.symm))
        have HSK7 : Hid (Sk W7 g (S.setT T) (cntT T) T.length (lnk S.hb T) (pAt S.hb T)) := r1
        have HMV7 : Hid (Moved w W7 (sblk g S) (sblk g S)) := HMV5.out.trans (Moved.only r2 (by simp [sblk]))
        have HW7 : Hid _ := hW7
        clear hW6 b6 c5 f5 t53 r1 r2 hl7
        go_wp2_with fail
        rw [← hW7]
        clear hW7
        refine (show Calls _ _ _ _ _ from HLO.out).mono ?_
        rintro e w8 ⟨rfl, v, H', hle, q1, q2, hsk8, hmv8⟩
        have HSK8 : Hid (Sk w8 g ((S.setT T).setH v H') (cntT T) T.length (lnk S.hb T) (pAt S.hb T)) := hsk8
        have HL8 : Hid _ := HL7.out.raised HSK7.out hmv8
        have HM8 : Hid _ := (HMV7.out.less (G := t.b :: t.k :: sblk g (S.setT T)) (fun q hq => sblk_del HTT.out hq)).trans (hmv8.cons2 t.b t.k)
        have hsub : ∀ x ∈ hts T, x ≤ S.H := fun x hx => HTP.out.le x (by rw [HTT.out]; exact ((insT_perm0 T k t).map Tw.h).mem_iff.2 (by rw [List.map_cons]; exact List.mem_cons_of_mem _ hx))
        have HTOP : Hid (IsTop T H') := top_del hsub hle q1 q2
        have hle2 : H' ≤ S.H := hle
        clear hsk8 hmv8 hsub q1 q2 hle
        go_wp2
        go_returns
        exact ⟨rfl, v, H', HTOP.out, by omega, HSK8.out, ⟨_, _, HL8.out⟩, HM8.out⟩
end Go.Proofs.YtgbplghokciimaaDoor.S
