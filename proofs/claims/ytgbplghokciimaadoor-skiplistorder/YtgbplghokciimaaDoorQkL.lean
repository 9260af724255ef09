import Derived.Test.YtgbplghokciimaaDoorQkJ
import Derived.Test.YtgbplghokciimaaDoorQkK
namespace Go.Proofs.YtgbplghokciimaaDoor.S
open Go.RowKit
set_option linter.unusedVariables false
/-- the world in which a tower is taken out, at a level. -/
structure Ld (w W : World) (g : Nat) (S : SkS) (C : Nat → Nat) (n : Nat) (pv : Nat → Option Nat) (T : List Tw) (k : Nat) (t : Tw) (Wb : Nat) (d : Nat → Lk) (lv : Nat) : Prop where
  sk : Sk W g S C n (cD S.hb T k t lv) pv
  way : Blk W Wb (flat2 d 24) 132
  mv : Moved w W (sblk g S) (sblk g S)
section
variable {w W W' : World} {g : Nat} {S : SkS} {C : Nat → Nat} {n : Nat} {pv : Nat → Option Nat} {T : List Tw} {k : Nat} {t : Tw} {Wb : Nat} {d : Nat → Lk} {lv : Nat}
theorem place_at (hT : S.T = insT T k t) (hk : k ≤ T.length) : ∃ h : k < S.T.length, S.T[k] = t := by
  have hl : k < S.T.length := by rw [hT, insT_len]; omega
  refine ⟨hl, ?_⟩
  have := insT_at (t := t) hk
  rw [← hT, List.getElem?_eq_getElem hl] at this
  exact Option.some.inj this
theorem Ld.tow (h : Ld w W g S C n pv T k t Wb d lv) (hT : S.T = insT T k t) (hk : k ≤ T.length) : Blk W t.b (towL t (pv k)) 123 ∧ Rw W (.slice (some ⟨t.k, 0, none⟩) t.h t.h) t.h (lnk S.hb (insT T k t) (k + 1)) := by
  obtain ⟨hl, e⟩ := place_at hT hk
  have h1 := h.sk.tow k hl
  have h2 := h.sk.row k hl
  rw [e] at h1 h2
  exact ⟨h1, h2.congr (fun l _ => cD_own _ _ _ _ _ _)⟩
theorem lvA_at (hT : S.T = insT T k t) (hk : k ≤ T.length) : lvA S (k + 1) = .slice (some ⟨t.k, 0, none⟩) t.h t.h := by
  obtain ⟨hl, e⟩ := place_at hT hk
  rw [lvA_s hl, e]
theorem Ld.cells (h : Ld w W g S C n pv T k t Wb d lv) (hT : S.T = insT T k t) (hk : k ≤ T.length) (hw : Wy S k 0 d) (hlt : lv < S.H) (hH : S.H ≤ 24) : ∃ p b K kc, IsPrv (hts T) lv k p ∧ lv < hgA S p ∧ lvA S p = .slice (some ⟨K, 0, none⟩) (hgA S p) kc ∧ t.k ≠ K ∧ p ≤ S.T.length ∧ W.cell? ⟨Wb, lv * 2, none⟩ = some (.pointer (some ⟨b, 0, none⟩)) ∧ W.cell? ⟨b, 3, none⟩ = some (.slice (some ⟨K, 0, none⟩) (hgA S p) kc) ∧ Rw W (.slice (some ⟨K, 0, none⟩) (hgA S p) kc) (hgA S p) (cD S.hb T k t lv p) ∧ t.b ≠ K ∧ Wb ≠ K ∧ p ≤ k := by
  obtain ⟨p, hp, hd⟩ := hw.1 lv (Nat.zero_le _) hlt
  have hp' := hp
  rw [hT] at hp'
  have hp' := (prv_ins hk).1 hp'
  have hlen : S.T.length = T.length + 1 := by rw [hT, insT_len]
  have hpl : p ≤ S.T.length := by have := hp.le; omega
  obtain ⟨b, hpb, t3⟩ := h.sk.towAt hpl
  have hg := hgA_stand hp.at_ hlt
  have hr := h.sk.rowAt hpl
  obtain ⟨K, kc, hv, k0, k1, kf⟩ := hr.at hg
  have hKo : (lvA S p).ownBlock = some K := by rw [hv]; rfl
  have d0 := (flat2_get d 24 lv (by omega)).1
  rw [hd, hpb] at d0
  refine ⟨p, b, K, kc, hp', hg, hv, ?_, hpl, ?_, by rw [t3, hv], by rw [hv] at hr; exact hr, hr.ne hKo (h.tow hT hk).1 (by decide), hr.ne hKo h.way (by decide), hp.le⟩
  · refine h.sk.neK (p := k + 1) (q := p) (by omega) hpl (by have := hp.le; omega) ?_ hKo
    rw [lvA_at hT hk]; rfl
  · rw [h.way.cell]; exact d0
theorem Ld.next (h : Ld w W g S C n pv T k t Wb d lv) (hT : S.T = insT T k t) (hk : k ≤ T.length) {p K kc : Nat} (hp : IsPrv (hts T) lv k p) (hpl : p ≤ S.T.length) (hv : lvA S p = .slice (some ⟨K, 0, none⟩) (hgA S p) kc) (nw : Wb ≠ K) (ho : Only W W' K) {x : Lk} (hr : Rw W' (.slice (some ⟨K, 0, none⟩) (hgA S p) kc) (hgA S p) (updL (cD S.hb T k t lv p) lv x)) (hx : x = lnk S.hb T p lv) : Ld w W' g S C n pv T k t Wb d (lv + 1) := by
  have hKo : (lvA S p).ownBlock = some K := by rw [hv]; rfl
  have h1 := h.sk.setRow hpl hKo ho (by rw [hv]; exact hr)
  subst hx
  refine ⟨h1.cong (fun p' hp' l' hl' => cD_step hk hp ?_), h.way.to (ho.other _ nw), h.mv.trans (Moved.only ho (mem_row hpl hKo))⟩
  have := hgA_lt hl'
  rwa [hT] at this
theorem del_hi {hb : Nat} {l p : Nat} (hk : k ≤ T.length) (hp : IsPrv (hts T) l k p) (hl : ¬ l < t.h) : lnk hb (insT T k t) p l = ((lnk hb T p l).1, (lnk hb T p l).2 + 1) := link_hi hk hp hl
theorem del_lo {hb : Nat} {l p : Nat} (hk : k ≤ T.length) (hp : IsPrv (hts T) l k p) (hl : l < t.h) : (lnk hb (insT T k t) p l).2 = k + 1 - p ∧ (lnk hb (insT T k t) (k + 1) l).1 = (lnk hb T p l).1 ∧ (lnk hb (insT T k t) (k + 1) l).2 + (k - p) = (lnk hb T p l).2 := by
  obtain ⟨h1, h2⟩ := lnk_new (hb := hb) (t := t) hk hp
  refine ⟨?_, h1, h2⟩
  rw [lnk_prv hk hp, if_pos hl]
/-- a tower has been taken out. -/
theorem Ld.done (h : Ld w W g S C n pv T k t Wb d lv) (hT : S.T = insT T k t) (hk : k ≤ T.length) (hlv : lv = S.H) (hst : ∀ x ∈ hts S.T, x ≤ S.H) {pv' : Nat → Option Nat} (hp0 : ∀ i, i < k → pv i = pv' i) (hp1 : ∀ i, k ≤ i → pv (i + 1) = pv' i) : Sk W g (S.setT T) C n (lnk S.hb T) pv' ∧ Lone W g (S.setT T) t (pv k) (lnk S.hb (insT T k t) (k + 1)) := by
  subst hlv
  obtain ⟨q1, q2⟩ := h.tow hT hk
  refine ⟨h.sk.del hT hk (fun p hp l hl => ?_) (fun p hp hpn l hl => cD_end.2 hk p hp hpn l) hp0 hp1, q1, q2, ?_, ?_⟩
  · refine cD_end.1 p hp l ?_
    rcases hgA_lt hl with h0 | ⟨x, hx, hlx⟩
    · subst h0; exact hl
    · have hm : x ∈ hts S.T := by
        rw [hT]
        have := List.mem_iff_getElem?.2 ⟨_, hx⟩
        exact ((insT_perm0 T k t).map Tw.h).mem_iff.2 (by rw [List.map_cons]; exact List.mem_cons_of_mem _ this)
      have := hst x hm; omega
  · show t.b ∉ S.hb :: T.map Tw.b
    have hp := (((insT_perm0 T k t).map Tw.b).cons S.hb)
    have h1 := h.sk.ndB
    rw [hT, hp.nodup_iff, List.map_cons] at h1
    obtain ⟨h2, h3⟩ := List.nodup_cons.1 h1
    simp only [List.mem_cons, not_or] at h2 ⊢
    exact ⟨fun e => h2.1 e.symm, (List.nodup_cons.1 h3).1⟩
  · show t.k ∉ S.hv.ownBlock.toList ++ T.map Tw.k
    have hp := (((insT_perm0 T k t).map Tw.k).append_left S.hv.ownBlock.toList)
    have h1 := h.sk.ndK
    rw [hT, hp.nodup_iff, List.map_cons, List.perm_middle.nodup_iff] at h1
    exact (List.nodup_cons.1 h1).1
theorem sblk_del (hT : S.T = insT T k t) {q : Nat} (h : q ∈ t.b :: t.k :: sblk g (S.setT T)) : q ∈ sblk g S := by
  unfold sblk at h ⊢
  rw [hT]
  simp only [List.mem_cons, List.mem_append] at h ⊢
  have p1 := (insT_perm0 T k t).map Tw.b
  have p2 := (insT_perm0 T k t).map Tw.k
  rcases h with h | h | h | h | h | h | h
  · exact Or.inr (Or.inr (Or.inr (Or.inl (p1.mem_iff.2 (by rw [h]; simp)))))
  · exact Or.inr (Or.inr (Or.inr (Or.inr (p2.mem_iff.2 (by rw [h]; simp)))))
  · exact Or.inl h
  · exact Or.inr (Or.inl h)
  · exact Or.inr (Or.inr (Or.inl h))
  · exact Or.inr (Or.inr (Or.inr (Or.inl (p1.mem_iff.2 (List.mem_cons_of_mem _ h)))))
  · exact Or.inr (Or.inr (Or.inr (Or.inr (p2.mem_iff.2 (List.mem_cons_of_mem _ h)))))
/-- the counts of a tower that has gone. -/
theorem unlink_fin {c : Nat → Nat → Lk} {ct m : Nat} (h : Sk W g S (cntT (insT T k t)) n c pv) (ht1 : 1 ≤ t.h) (ht : t.h ≤ 24) (hct : cntT (insT T k t) (t.h - 1) = ct) (hm : m + 1 = n) (e : W' = ((W.setCell ⟨g, 3 + (t.h - 1), none⟩ (.int .i64 ((ct : Int) - 1))).drew).setCell ⟨g, 27, none⟩ (.int .i64 ((n : Int) - 1))) : Sk W' g S (cntT T) m c pv ∧ Only W W' g := by
  have hc := cntT_ins T k t (t.h - 1)
  rw [hct, if_pos (by omega)] at hc
  have e1 : ((ct : Int) - 1) = ((ct - 1 : Nat) : Int) := by omega
  have e2 : ((n : Int) - 1) = ((m : Nat) : Int) := by omega
  rw [e1, e2] at e
  have h1 := h.setCount (j := t.h - 1) (by omega) (ct - 1)
  have ho : Only (W.setCell ⟨g, 3 + (t.h - 1), none⟩ (.int .i64 ((ct - 1 : Nat) : Int))) ((W.setCell ⟨g, 3 + (t.h - 1), none⟩ (.int .i64 ((ct - 1 : Nat) : Int))).drew) g := ⟨rfl, rfl, rfl, rfl, fun _ _ => rfl⟩
  have h2 : Sk ((W.setCell ⟨g, 3 + (t.h - 1), none⟩ (.int .i64 ((ct - 1 : Nat) : Int))).drew) g S _ n c pv := h1.to (fun q hq => rfl)
  have h3 := h2.setSize m
  subst e
  refine ⟨h3.congC (fun j hj => ?_), ((only_set W g _ _).trans ho).set _ _⟩
  have hj3 := cntT_ins T k t j
  unfold updC
  by_cases hj2 : j = t.h - 1
  · subst hj2; rw [if_pos rfl]; omega
  · rw [if_neg hj2]; rw [if_neg (by omega)] at hj3; exact hj3
theorem top_del {H H' : Nat} (htop : ∀ x ∈ hts T, x ≤ H) (hle : H' ≤ H) (h1 : H' = 0 ∨ cntT T (H' - 1) ≠ 0) (h2 : ∀ j, H' ≤ j → j < H → cntT T j = 0) : IsTop T H' := by
  refine ⟨fun x hx => ?_, ?_⟩
  · rcases Nat.lt_or_ge H' x with q | q
    · have := htop x hx
      obtain ⟨u, hu, rfl⟩ := List.mem_map.1 hx
      have := cntT_zero (h2 (u.h - 1) (by omega) (by omega)) u hu
      omega
    · exact q
  · rcases h1 with q | q
    · exact Or.inl q
    · rcases Nat.eq_zero_or_pos H' with q0 | q0
      · exact Or.inl q0
      · obtain ⟨u, hu, e⟩ := cntT_pos q
        exact Or.inr ⟨u, hu, by omega⟩
end
end Go.Proofs.YtgbplghokciimaaDoor.S
