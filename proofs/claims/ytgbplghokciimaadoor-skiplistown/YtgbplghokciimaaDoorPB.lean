import Derived.Test.YtgbplghokciimaaDoorPA
import Derived.BigRegion
import Derived.Deep.WholeRow
namespace Go.Proofs.YtgbplghokciimaaDoor.I
open Go.RowKit
set_option linter.unusedVariables false
/-- the links of the tower that comes: the levels below lv are done. -/
def cU (hb : Nat) (T : List Tw) (k : Nat) (t : Tw) (c0 : Nat → Lk) (lv : Nat) : Nat → Lk := fun l => if l < lv then lnk hb (insT T k t) (k + 1) l else c0 l
theorem cU_zero (hb : Nat) (T : List Tw) (k : Nat) (t : Tw) (c0 : Nat → Lk) : cU hb T k t c0 0 = c0 := by
  funext l; unfold cU; rw [if_neg (by omega)]
theorem cU_step (hb : Nat) (T : List Tw) (k : Nat) (t : Tw) (c0 : Nat → Lk) (lv : Nat) : updL (cU hb T k t c0 lv) lv (lnk hb (insT T k t) (k + 1) lv) = cU hb T k t c0 (lv + 1) := by
  funext l; unfold cU updL
  by_cases h : l = lv
  · subst h; rw [if_pos rfl, if_pos (by omega)]
  · rw [if_neg h]
    show (if l < lv then lnk hb (insT T k t) (k + 1) l else c0 l) = _
    by_cases h2 : l < lv
    · rw [if_pos h2, if_pos (by omega)]
    · rw [if_neg h2, if_neg (by omega)]
theorem cU_pass {hb : Nat} {T : List Tw} {k : Nat} {t : Tw} {c0 : Nat → Lk} {lv : Nat} (h : ¬ lv < t.h) : ∀ l, l < t.h → cU hb T k t c0 lv l = cU hb T k t c0 (lv + 1) l := fun l hl => by
  unfold cU; rw [if_pos (by omega), if_pos (by omega)]
theorem Sk.congPv {W : World} {g : Nat} {S : SkS} {C : Nat → Nat} {n : Nat} {c : Nat → Nat → Lk} {pv pv' : Nat → Option Nat} (h : Sk W g S C n c pv) (e : ∀ i, i < S.T.length → pv i = pv' i) : Sk W g S C n c pv' :=
  ⟨h.brd, h.head, h.hrow, fun i hi => by rw [← e i hi]; exact h.tow i hi, h.row, h.ndB, h.ndK⟩
theorem boardL_congr {seed : Int} {mb hb : Nat} {C C' : Nat → Nat} {n : Nat} (e : ∀ j, j < 24 → C j = C' j) : boardL seed mb hb C n = boardL seed mb hb C' n := by
  unfold boardL
  congr 2
  exact List.map_congr_left (fun j hj => by rw [e j (List.mem_range.1 hj)])
theorem Sk.congC {W : World} {g : Nat} {S : SkS} {C C' : Nat → Nat} {n : Nat} {c : Nat → Nat → Lk} {pv : Nat → Option Nat} (h : Sk W g S C n c pv) (e : ∀ j, j < 24 → C j = C' j) : Sk W g S C' n c pv :=
  ⟨by rw [← boardL_congr e]; exact h.brd, h.head, h.hrow, h.tow, h.row, h.ndB, h.ndK⟩
/-- a tower that stands apart from a board. -/
structure Lone (W : World) (g : Nat) (S : SkS) (t : Tw) (o : Option Nat) (c0 : Nat → Lk) : Prop where
  blk : Blk W t.b (towL t o) 63
  row : Rw W (.slice (some ⟨t.k, 0, none⟩) t.h t.h) t.h c0
  nb : t.b ∉ S.hb :: S.T.map Tw.b
  nk : t.k ∉ S.hv.ownBlock.toList ++ S.T.map Tw.k
theorem Lone.to {W W' : World} {g : Nat} {S : SkS} {t : Tw} {o : Option Nat} {c0 : Nat → Lk} (h : Lone W g S t o c0) (e1 : W'.heap[t.b]? = W.heap[t.b]?) (e2 : W'.heap[t.k]? = W.heap[t.k]?) : Lone W' g S t o c0 :=
  ⟨h.blk.to e1, h.row.to (fun K hK => by cases hK; exact e2), h.nb, h.nk⟩
theorem Lone.lts {W : World} {g : Nat} {S : SkS} {t : Tw} {o : Option Nat} {c0 : Nat → Lk} (h : Lone W g S t o c0) : t.b < W.heap.size ∧ t.k < W.heap.size := by
  obtain ⟨cur, hc⟩ := h.row.blk rfl
  exact ⟨h.blk.lt, row_lt hc⟩
theorem Lone.below {W W' : World} {g : Nat} {S : SkS} {t : Tw} {o : Option Nat} {c0 : Nat → Lk} (h : Lone W g S t o c0) (hb : Below W.heap.size W W') : Lone W' g S t o c0 :=
  h.to (hb.block _ h.lts.1) (hb.block _ h.lts.2)
/-- the blocks of a tower that stands apart are not the board's. -/
theorem Sk.lone_out {W : World} {g : Nat} {S : SkS} {C : Nat → Nat} {n : Nat} {c : Nat → Nat → Lk} {pv : Nat → Option Nat} {t : Tw} {o : Option Nat} {c0 : Nat → Lk} (h : Sk W g S C n c pv) (hl : Lone W g S t o c0) : t.b ∉ sblk g S ∧ t.k ∉ sblk g S := by
  obtain ⟨cur, hc⟩ := hl.row.blk rfl
  have hnk : ∀ g' L T', Blk W g' L T' → T' ≠ 112 → t.k ≠ g' := fun g' L T' hb ht e => by
    subst e; exact hl.row.ne rfl hb ht rfl
  unfold sblk
  simp only [List.mem_cons, List.mem_append, not_or]
  have hnb := hl.nb
  have hnkk := hl.nk
  simp only [List.mem_cons, not_or] at hnb
  simp only [List.mem_append, not_or] at hnkk
  refine ⟨⟨fun e => ?_, hnb.1, fun hm => ?_, hnb.2, fun hm => ?_⟩, hnk _ _ _ h.brd (by decide), hnk _ _ _ h.head (by decide), hnkk.1, fun hm => ?_, hnkk.2⟩
  · exact (h.brd.ne hl.blk (by decide)) e.symm
  · exact h.hrow.ne (by simpa using hm) hl.blk (by decide) rfl
  · obtain ⟨u, hu, e⟩ := List.mem_map.1 hm
    obtain ⟨i, hi, rfl⟩ := List.mem_iff_getElem.1 hu
    exact (h.row i hi).ne rfl hl.blk (by decide) e.symm
  · obtain ⟨u, hu, e⟩ := List.mem_map.1 hm
    obtain ⟨i, hi, rfl⟩ := List.mem_iff_getElem.1 hu
    exact hnk _ _ _ (h.tow i hi) (by decide) e.symm
/-- one level of a tower that comes. -/
theorem link_step_hi {W W' : World} {g : Nat} {S : SkS} {C : Nat → Nat} {n : Nat} {pv : Nat → Option Nat} {k lv p K kc : Nat} {t : Tw} (h : Sk W g S C n (cI S.hb S.T k t lv) pv) (hk : k ≤ S.T.length) (hp : IsPrv (hts S.T) lv k p) (hlv : lv < hgA S p) (hv : lvA S p = .slice (some ⟨K, 0, none⟩) (hgA S p) kc) {x : Lk} (hx : x = lnk S.hb (insT S.T k t) p lv) (ho : Only W W' K) (hr : Rw W' (lvA S p) (hgA S p) (updL (cI S.hb S.T k t lv p) lv x)) : Sk W' g S C n (cI S.hb S.T k t (lv + 1)) pv := by
  have hpl : p ≤ S.T.length := Nat.le_trans hp.le hk
  have h1 := h.setRow hpl (by rw [hv]; rfl) ho hr
  subst hx
  exact h1.cong (fun p' hp' l' hl' => cI_step hk hp (hgA_lt hl'))
end Go.Proofs.YtgbplghokciimaaDoor.I
namespace Go.Proofs.YtgbplghokciimaaDoor.I
open Go.RowKit
set_option linter.unusedVariables false
theorem mem_row {g : Nat} {S : SkS} {p K : Nat} (hp : p ≤ S.T.length) (h : (lvA S p).ownBlock = some K) : K ∈ sblk g S := by
  unfold sblk
  simp only [List.mem_cons, List.mem_append]
  cases p with
  | zero => exact Or.inr (Or.inr (Or.inl (by rw [show S.hv.ownBlock = some K from h]; simp)))
  | succ p =>
    rw [lvA_s hp] at h
    cases h
    exact Or.inr (Or.inr (Or.inr (Or.inr (List.mem_map.2 ⟨_, List.getElem_mem hp, rfl⟩))))
theorem mem_tow {g : Nat} {S : SkS} {i : Nat} (hi : i < S.T.length) : S.T[i].b ∈ sblk g S := by
  unfold sblk
  simp only [List.mem_cons, List.mem_append]
  exact Or.inr (Or.inr (Or.inr (Or.inl (List.mem_map.2 ⟨_, List.getElem_mem hi, rfl⟩))))
/-- a board's rows are not a lone tower's. -/
theorem Lone.neK {W : World} {g : Nat} {S : SkS} {t : Tw} {o : Option Nat} {c0 : Nat → Lk} (h : Lone W g S t o c0) {p K : Nat} (hp : p ≤ S.T.length) (hK : (lvA S p).ownBlock = some K) : t.k ≠ K := fun e => by
  subst e
  have hn := h.nk
  simp only [List.mem_append, not_or] at hn
  cases p with
  | zero => exact hn.1 (by rw [show S.hv.ownBlock = some t.k from hK]; simp)
  | succ p =>
    rw [lvA_s hp] at hK
    exact hn.2 (List.mem_map.2 ⟨S.T[p], List.getElem_mem hp, by simpa [Value.ownBlock] using hK⟩)
/-- the world in which a tower comes in, at a level. -/
structure Lv (w W : World) (g : Nat) (S0 S : SkS) (C : Nat → Nat) (n : Nat) (pv : Nat → Option Nat) (k : Nat) (t : Tw) (o : Option Nat) (c0 : Nat → Lk) (Wb : Nat) (d : Nat → Lk) (lv : Nat) : Prop where
  sk : Sk W g S C n (cI S.hb S.T k t lv) pv
  lone : Lone W g S t o (cU S.hb S.T k t c0 lv)
  way : Blk W Wb (flat2 d 24) 77
  mv : Moved w W (t.b :: t.k :: sblk g S0) (t.b :: t.k :: sblk g S)
/-- what is read at a level. -/
theorem Lv.cells {w W : World} {g : Nat} {S0 S : SkS} {C : Nat → Nat} {n : Nat} {pv : Nat → Option Nat} {k : Nat} {t : Tw} {o : Option Nat} {c0 : Nat → Lk} {Wb : Nat} {d : Nat → Lk} {lv : Nat} (h : Lv w W g S0 S C n pv k t o c0 Wb d lv) (hk : k ≤ S.T.length) (hw : Wy S k 0 d) (hlt : lv < S.H) (hH : S.H ≤ 24) : ∃ p b K kc N, IsPrv (hts S.T) lv k p ∧ lv < hgA S p ∧ lvA S p = .slice (some ⟨K, 0, none⟩) (hgA S p) kc ∧ d lv = (some b, p) ∧ W.cell? ⟨Wb, lv * 2, none⟩ = some (.pointer (some ⟨b, 0, none⟩)) ∧ W.cell? ⟨Wb, lv * 2 + 1, none⟩ = some (.int .i64 (p : Int)) ∧ W.cell? ⟨b, 3, none⟩ = some (.slice (some ⟨K, 0, none⟩) (hgA S p) kc) ∧ (lnk S.hb S.T p lv).1 = N ∧ W.cell? ⟨K, lv * 2, none⟩ = some (ptr N) ∧ W.cell? ⟨K, lv * 2 + 1, none⟩ = some (.int .i64 ((lnk S.hb S.T p lv).2 : Nat)) ∧ W.cell? ⟨t.b, 3, none⟩ = some (.slice (some ⟨t.k, 0, none⟩) t.h t.h) := by
  obtain ⟨p, hp, hd⟩ := hw.1 lv (Nat.zero_le _) hlt
  have hpl : p ≤ S.T.length := Nat.le_trans hp.le hk
  obtain ⟨b, hpb, t3⟩ := h.sk.towAt hpl
  have hg := hgA_stand hp.at_ hlt
  obtain ⟨K, kc, hv, k0, k1, kf⟩ := (h.sk.rowAt hpl).at hg
  rw [cI_now] at k0 k1
  obtain ⟨d0, d1⟩ := flat2_get d 24 lv (by omega)
  rw [hd, hpb] at d0
  rw [hd] at d1
  refine ⟨p, b, K, kc, _, hp, hg, hv, by rw [hd, hpb], ?_, ?_, by rw [t3, hv], rfl, k0, k1, ?_⟩
  · rw [h.way.cell]; exact d0
  · rw [h.way.cell]; exact d1
  · rw [h.lone.blk.cell]; rfl
/-- a level of the one ahead, and of the one that comes, is done. -/
theorem Lv.next {w W W' : World} {g : Nat} {S0 S : SkS} {C : Nat → Nat} {n : Nat} {pv : Nat → Option Nat} {k : Nat} {t : Tw} {o : Option Nat} {c0 : Nat → Lk} {Wb : Nat} {d : Nat → Lk} {lv p K kc : Nat} (h : Lv w W g S0 S C n pv k t o c0 Wb d lv) (hk : k ≤ S.T.length) (hp : IsPrv (hts S.T) lv k p) (hg : lv < hgA S p) (hv : lvA S p = .slice (some ⟨K, 0, none⟩) (hgA S p) kc) (hwb : w.heap.size ≤ Wb) {y : Nat} (hnl : ¬ lv < t.h) (hy : y = (lnk S.hb S.T p lv).2 + 1) (e : W' = W.setCell ⟨K, lv * 2 + 1, none⟩ (.int .i64 (y : Nat))) : Lv w W' g S0 S C n pv k t o c0 Wb d (lv + 1) := by
  subst e
  have hpl : p ≤ S.T.length := Nat.le_trans hp.le hk
  have ho := only_set W K (lv * 2 + 1) (.int .i64 (y : Nat))
  have hK : (lvA S p).ownBlock = some K := by rw [hv]; rfl
  have hr := h.sk.rowAt hpl
  have hr2 := hr
  rw [hv] at hr2
  have hr3 := hr2.set1 (l := lv) y
  rw [cI_now, ← hv] at hr3
  have nb : t.b ≠ K := hr.ne hK h.lone.blk (by decide)
  have nk : t.k ≠ K := h.lone.neK hpl hK
  have nw : Wb ≠ K := hr.ne hK h.way (by decide)
  refine ⟨link_step_hi h.sk hk hp hg hv ?_ ho hr3, ?_, h.way.to (ho.other _ nw), h.mv.trans (Moved.only ho (by simp [mem_row hpl hK]))⟩
  · rw [link_hi hk hp hnl, hy]
  · have := h.lone.to (ho.other _ nb) (ho.other _ nk)
    exact ⟨this.blk, this.row.congr (cU_pass hnl), this.nb, this.nk⟩
theorem Lv.next2 {w W W' : World} {g : Nat} {S0 S : SkS} {C : Nat → Nat} {n : Nat} {pv : Nat → Option Nat} {k : Nat} {t : Tw} {o : Option Nat} {c0 : Nat → Lk} {Wb : Nat} {d : Nat → Lk} {lv p K kc : Nat} (h : Lv w W g S0 S C n pv k t o c0 Wb d lv) (hk : k ≤ S.T.length) (hp : IsPrv (hts S.T) lv k p) (hg : lv < hgA S p) (hv : lvA S p = .slice (some ⟨K, 0, none⟩) (hgA S p) kc) {y z z2 : Nat} {N : Option Nat} (hnl : lv < t.h) (hN : (lnk S.hb S.T p lv).1 = N) (hz : z = (lnk S.hb S.T p lv).2 + 1 - (k + 1 - p)) (hz2 : z2 = k + 1 - p) {W1 W2 : World} (e1 : W1 = W.setCell ⟨K, lv * 2 + 1, none⟩ (.int .i64 (y : Nat))) {m : Nat} (e2 : W2 = ((W1.drewN m).setCell ⟨t.k, lv * 2, none⟩ (ptr N)).setCell ⟨t.k, lv * 2 + 1, none⟩ (.int .i64 (z : Nat))) (e3 : W' = (W2.setCell ⟨K, lv * 2, none⟩ (ptr (some t.b))).setCell ⟨K, lv * 2 + 1, none⟩ (.int .i64 (z2 : Nat))) : Lv w W' g S0 S C n pv k t o c0 Wb d (lv + 1) := by
  have hpl : p ≤ S.T.length := Nat.le_trans hp.le hk
  have hK : (lvA S p).ownBlock = some K := by rw [hv]; rfl
  have hr := h.sk.rowAt hpl
  have nb : t.b ≠ K := hr.ne hK h.lone.blk (by decide)
  have nk : t.k ≠ K := h.lone.neK hpl hK
  have nw : Wb ≠ K := hr.ne hK h.way (by decide)
  have nbk : t.b ≠ t.k := h.lone.row.ne rfl h.lone.blk (by decide)
  have nwk : Wb ≠ t.k := h.lone.row.ne rfl h.way (by decide)
  have ho1 : Only W W1 K := by rw [e1]; exact only_set _ _ _ _
  have hod : Only W1 (W1.drewN m) t.k := ⟨rfl, rfl, rfl, rfl, fun _ _ => rfl⟩
  have ho2 : Only W1 W2 t.k := by rw [e2]; exact (hod.set _ _).set _ _
  have ho3 : Only W2 W' K := by rw [e3]; exact ((Only.refl W2 K).set _ _).set _ _
  obtain ⟨l1, l2⟩ := link_lo (hb := S.hb) (t := t) hk hp hnl
  -- the row ahead
  have hr2 := hr
  rw [hv] at hr2
  have q1 := hr2.set1 (l := lv) y
  rw [← e1] at q1
  have q2 : Rw W2 (.slice (some ⟨K, 0, none⟩) (hgA S p) kc) (hgA S p) _ := q1.to (fun K' hK' => by cases hK'; exact ho2.other K (fun e => nk e.symm))
  have q3 := (q2.set0 (l := lv) (some t.b)).set1 (l := lv) z2
  rw [← e3, ← hv, updL_self, updL_self, updL_twice, updL_twice] at q3
  -- the row that comes
  have u1 := h.lone.row.to (W' := W1) (fun K' hK' => by cases hK'; exact ho1.other _ nk)
  have u2 : Rw (W1.drewN m) (.slice (some ⟨t.k, 0, none⟩) t.h t.h) t.h _ := u1.to (fun K' hK' => rfl)
  have u3 := (u2.set0 (l := lv) N).set1 (l := lv) z
  rw [← e2, updL_self, updL_twice] at u3
  have u4 := u3.to (W' := W') (fun K' hK' => by cases hK'; exact ho3.other _ nk)
  have s1 : Sk W2 g S C n (updP (cI S.hb S.T k t lv) p (updL (cI S.hb S.T k t lv p) lv ((cI S.hb S.T k t lv p lv).1, y))) pv := by
    have := h.sk.setRow hpl hK ho1 (by rw [hv]; exact q1)
    exact this.to (fun q hq => ho2.other q (fun e => (h.sk.lone_out h.lone).2 (by rw [← e]; exact hq)))
  have s2 := s1.setRow hpl hK ho3 q3
  refine ⟨?_, ⟨((h.lone.blk.to (ho1.other _ nb)).to (ho2.other _ nbk)).to (ho3.other _ nb), ?_, h.lone.nb, h.lone.nk⟩, ((h.way.to (ho1.other _ nw)).to (ho2.other _ nwk)).to (ho3.other _ nw), ?_⟩
  · refine s2.cong (fun p' hp' l' hl' => ?_)
    have := cI_step (hb := S.hb) (t := t) (lv := lv) hk hp (p' := p') (l' := l') (hgA_lt hl')
    rw [← this, l1, hz2]
    unfold updP
    by_cases h1 : p' = p
    · subst h1; simp
    · simp [h1]
  · rw [← cU_step, l2, hN, ← hz]; exact u4
  · exact ((h.mv.trans (Moved.only ho1 (by simp [mem_row hpl hK]))).trans (Moved.only ho2 (by simp))).trans (Moved.only ho3 (by simp [mem_row hpl hK]))
/-- a tower has come in: its place ahead. -/
theorem Lv.done {w W W' : World} {g : Nat} {S0 S : SkS} {C : Nat → Nat} {n : Nat} {k : Nat} {t : Tw} {o : Option Nat} {c0 : Nat → Lk} {Wb : Nat} {d : Nat → Lk} {lv : Nat} (h : Lv w W g S0 S C n (pAt S.hb S.T) k t o c0 Wb d lv) (hk : k ≤ S.T.length) (hH : lv = S.H) (hth : t.h ≤ S.H) (hst : ∀ x ∈ hts S.T, x ≤ S.H) {s0 : Option Nat} (hs : s0 = pAt S.hb S.T k) (e : W' = W.setCell ⟨t.b, 4, none⟩ (ptr s0)) : Sk W' g (S.setT (insT S.T k t)) C n (lnk S.hb (insT S.T k t)) (fun i => if i ≤ k then pAt S.hb S.T i else pAt S.hb S.T (i - 1)) ∧ Moved w W' (t.b :: t.k :: sblk g S0) (t.b :: t.k :: sblk g S) := by
  subst e
  subst hH
  subst hs
  have ho := only_set W t.b 4 (ptr (pAt S.hb S.T k))
  obtain ⟨nb, nk⟩ := h.sk.lone_out h.lone
  have nbk : t.k ≠ t.b := fun e => h.lone.row.ne rfl h.lone.blk (by decide) e.symm
  have hsk := h.sk.to (W' := W.setCell ⟨t.b, 4, none⟩ (ptr (pAt S.hb S.T k))) (fun q hq => ho.other q (fun e => nb (by rw [← e]; exact hq)))
  have hb := h.lone.blk.set 4 (ptr (pAt S.hb S.T k))
  have hr := h.lone.row.to (W' := W.setCell ⟨t.b, 4, none⟩ (ptr (pAt S.hb S.T k))) (fun K hK => by cases hK; exact ho.other _ nbk)
  refine ⟨hsk.ins (pv' := fun i => if i ≤ k then pAt S.hb S.T i else pAt S.hb S.T (i - 1)) hk ?_ (hr.congr ?_) h.lone.nb h.lone.nk ?_ ?_ ?_ ?_, h.mv.trans (Moved.only ho (by simp))⟩
  · simp only [Nat.le_refl, if_true]; exact hb
  · intro l hl; unfold cU; rw [if_pos (by omega)]
  · intro p hp l hl
    have : l < S.H := by
      rcases hgA_lt hl with h0 | ⟨x, hx, hlx⟩
      · subst h0; exact hl
      · have := hst x (List.mem_iff_getElem?.2 ⟨_, hx⟩); omega
    exact cI_end.1 p hp l this
  · intro p hp hpn l hl; exact cI_end.2 hk p hp hpn l
  · intro i hi; rw [if_pos (by omega)]
  · intro i hi
    by_cases h1 : i + 1 ≤ k
    · omega
    · rw [if_neg h1, Nat.add_sub_cancel]
theorem sblk_ins {g : Nat} {S : SkS} {k : Nat} {t : Tw} {q : Nat} (h : q ∈ sblk g (S.setT (insT S.T k t))) : q ∈ t.b :: t.k :: sblk g S := by
  unfold sblk at h ⊢
  simp only [List.mem_cons, List.mem_append] at h ⊢
  rcases h with h | h | h | h | h
  · exact Or.inr (Or.inr (Or.inl h))
  · exact Or.inr (Or.inr (Or.inr (Or.inl h)))
  · exact Or.inr (Or.inr (Or.inr (Or.inr (Or.inl h))))
  · have := ((insT_perm0 S.T k t).map Tw.b).mem_iff.1 h
    rw [List.map_cons, List.mem_cons] at this
    rcases this with e | e
    · exact Or.inl e
    · exact Or.inr (Or.inr (Or.inr (Or.inr (Or.inr (Or.inl e)))))
  · have := ((insT_perm0 S.T k t).map Tw.k).mem_iff.1 h
    rw [List.map_cons, List.mem_cons] at this
    rcases this with e | e
    · exact Or.inr (Or.inl e)
    · exact Or.inr (Or.inr (Or.inr (Or.inr (Or.inr (Or.inr e)))))
theorem pv_ins {hb : Nat} {T : List Tw} {k : Nat} {t : Tw} (hk : k ≤ T.length) (i : Nat) (hne : i ≠ k + 1) : (if i ≤ k then pAt hb T i else pAt hb T (i - 1)) = pAt hb (insT T k t) i := by
  by_cases h : i ≤ k
  · rw [if_pos h, pAt_lo hk h]
  · rw [if_neg h]
    have := pAt_hi (hb := hb) (t := t) (q := i - 1) hk (by omega)
    rw [show i - 1 + 1 = i by omega] at this
    exact this.symm
/-- the counts of a tower that has come. -/
theorem link_fin {W W' : World} {g : Nat} {S : SkS} {T : List Tw} {n : Nat} {c : Nat → Nat → Lk} {pv : Nat → Option Nat} {k : Nat} {t : Tw} {ct : Nat} (h : Sk W g S (cntT T) n c pv) (ht1 : 1 ≤ t.h) (ht : t.h ≤ 24) (hct : cntT T (t.h - 1) = ct) (e : W' = ((W.setCell ⟨g, 3 + (t.h - 1), none⟩ (.int .i64 ((ct : Int) + 1))).drew).setCell ⟨g, 27, none⟩ (.int .i64 ((n : Int) + 1))) : Sk W' g S (cntT (insT T k t)) (n + 1) c pv ∧ Only W W' g := by
  have h1 := h.setCount (j := t.h - 1) (by omega) (ct + 1)
  have ho : Only (W.setCell ⟨g, 3 + (t.h - 1), none⟩ (.int .i64 ((ct : Int) + 1))) ((W.setCell ⟨g, 3 + (t.h - 1), none⟩ (.int .i64 ((ct : Int) + 1))).drew) g := ⟨rfl, rfl, rfl, rfl, fun _ _ => rfl⟩
  have h2 : Sk ((W.setCell ⟨g, 3 + (t.h - 1), none⟩ (.int .i64 ((ct : Int) + 1))).drew) g S _ n c pv := h1.to (fun q hq => rfl)
  have h3 := h2.setSize (n + 1)
  subst e
  refine ⟨h3.congC (fun j hj => ?_), ((only_set W g _ _).trans ho).set _ _⟩
  unfold updC
  rw [cntT_ins]
  by_cases hj2 : j = t.h - 1
  · subst hj2; rw [if_pos rfl, if_pos (by omega), hct]
  · rw [if_neg hj2, if_neg (by omega)]; rfl
end Go.Proofs.YtgbplghokciimaaDoor.I
namespace Go.Proofs.YtgbplghokciimaaDoor.I
open Go.RowKit
set_option linter.unusedVariables false
theorem flat2_take (c : Nat → Lk) (h h' : Nat) (hh : h' ≤ h) : (flat2 c h).take (h' * 2) = flat2 c h' := by
  refine List.ext_getElem? (fun j => ?_)
  rw [List.getElem?_take, flat2_at, flat2_at]
  by_cases hj : j < h' * 2
  · rw [if_pos hj, if_pos (by omega), if_pos hj]
  · rw [if_neg hj, if_neg hj]
theorem Rw.cut {W : World} {P : Option Addr} {H H' kk : Nat} {c : Nat → Lk} (h : Rw W (.slice P H kk) H c) (hh : H' ≤ H) : Rw W (.slice P H' kk) H' c := by
  refine ⟨by rw [flat2_len], ?_⟩
  rcases h.2 with ⟨e, h0⟩ | ⟨g, cap, cur, e, h1, h2, h3, h4, h5, h6⟩
  · cases e
    have : H' = 0 := by omega
    subst this
    exact Or.inl ⟨rfl, rfl⟩
  · cases e
    refine Or.inr ⟨g, kk, cur, rfl, h1, h2, by omega, h4, h5, ?_⟩
    rw [← flat2_take c H H' hh, ← h6, List.take_take]
    congr 1
    omega
theorem Sk.lowered {W W' : World} {g : Nat} {S : SkS} {C : Nat → Nat} {n : Nat} {c : Nat → Nat → Lk} {pv : Nat → Option Nat} {P : Option Addr} {H' kk : Nat} (h : Sk W g S C n c pv) (hv : S.hv = .slice P S.H kk) (hh : H' ≤ S.H) (e : W' = W.setCell ⟨S.hb, 3, none⟩ (.slice P H' kk)) : Sk W' g (S.setH (.slice P H' kk) H') C n c pv ∧ Moved W W' (sblk g S) (sblk g (S.setH (.slice P H' kk) H')) := by
  have ho : Only W W' S.hb := by rw [e]; exact only_set _ _ _ _
  have hob : (Value.slice P H' kk).ownBlock = S.hv.ownBlock := by rw [hv]; cases P <;> rfl
  have hr := h.hrow
  rw [hv] at hr
  have hr2 := hr.cut hh
  refine ⟨⟨h.brd.to (ho.other _ (h.brd.ne h.head (by decide))), ?_, hr2.to (fun K hK => ho.other _ (fun e => hr2.ne hK h.head (by decide) e.symm)), fun i hi => (h.tow i hi).to (ho.other _ (h.neH hi)), fun i hi => (h.row i hi).to (fun K hK => ho.other _ (fun e => (h.row i hi).ne hK h.head (by decide) e.symm)), h.ndB, ?_⟩, ?_⟩
  · rw [e]; exact h.head.set 3 (.slice P H' kk)
  · show ((Value.slice P H' kk).ownBlock.toList ++ S.T.map Tw.k).Nodup
    rw [hob]; exact h.ndK
  · have : sblk g (S.setH (.slice P H' kk) H') = sblk g S := by
      unfold sblk
      show _ :: _ :: ((Value.slice P H' kk).ownBlock.toList ++ _) = _
      rw [hob]
    rw [this]
    exact Moved.only ho (by simp [sblk])
set_option maxHeartbeats 4000000 in
set_option maxRecDepth 100000 in
theorem lower_any (g : Nat) (S : SkS) (C : Nat → Nat) (n : Nat) (c : Nat → Nat → Lk) (pv : Nat → Option Nat) (w : World) (h : Sk w g S C n c pv) (hH : S.H ≤ 24) : Calls Tryd.prog 60 #[.pointer (some ⟨g, 0, none⟩)] w fun e w' => e = .returned (.tuple #[]) ∧ ∃ v H', H' ≤ S.H ∧ (H' = 0 ∨ C (H' - 1) ≠ 0) ∧ (∀ j, H' ≤ j → j < S.H → C j = 0) ∧ Sk w' g (S.setH v H') C n c pv ∧ Moved w w' (sblk g S) (sblk g (S.setH v H')) := by
  obtain ⟨P, kk, hf⟩ := h.hrow.form
  have HSK : Hid (Sk w g S C n c pv) := h
  have HF : Hid (S.hv = .slice P S.H kk) := hf
  have c2 : w.cell? ⟨g, 2, none⟩ = some (.pointer (some ⟨S.hb, 0, none⟩)) := by rw [h.brd.cell]; rfl
  have c3 : w.cell? ⟨S.hb, 3, none⟩ = some (.slice P S.H kk) := by rw [h.head.cell]; exact congrArg some hf
  have f3 : w.frozen? ⟨S.hb, 3, none⟩ = false := h.head.frozen 3
  have HC : Hid (∀ j, j < 24 → w.cell? ⟨g, 3 + j, none⟩ = some (.int .i64 (C j : Nat))) := fun j hj => by rw [h.brd.cell]; exact boardL_at _ _ _ _ _ _ hj
  have hkk : S.H ≤ kk := by
    have := h.hrow.2
    rw [hf] at this
    rcases this with ⟨e, h0⟩ | ⟨g', cap, cur, e, _, _, h3, _⟩
    · injection e with e1 e2 e3; omega
    · injection e with e1 e2 e3; omega
  clear h hf
  go_enter Tryd.func60, Tryd.ntmps60
  go_wp2
  go_loopw [2] (fun ch wr => wr = w ∧ ∃ hh : Nat, hh ≤ S.H ∧ ch = .int .i64 (hh : Int) ∧ ∀ j, hh ≤ j → j < S.H → C j = 0) (fun ch _ => (intOf ch).toNat)
  case atStart => exact ⟨rfl, S.H, Nat.le_refl _, rfl, fun j h1 h2 => by omega⟩
  case round =>
    obtain ⟨rfl, hh, hle, rfl, hz⟩ := hrel
    have HZ : Hid (∀ j, hh ≤ j → j < S.H → C j = 0) := hz
    clear hz
    have hhk : (hh : Int) ≤ (kk : Int) := by omega
    have hh0 : (0 : Int) ≤ (hh : Int) := by omega
    rcases Nat.eq_zero_or_pos hh with h0 | h0
    · subst h0
      go_upto_region 3 with fail
      go_region
      go_wp2
      go_returns
      obtain ⟨r1, r2⟩ := HSK.out.lowered (H' := 0) HF.out (Nat.zero_le _) rfl
      exact ⟨rfl, _, 0, Nat.zero_le _, Or.inl rfl, HZ.out, r1.to (fun q hq => rfl), r2.trans (Moved.of_below (Below.refl _ _).drew)⟩
    · obtain ⟨j, rfl⟩ : ∃ j, hh = j + 1 := ⟨hh - 1, by omega⟩
      have cj := HC.out j (by omega)
      have jw : IntKind.i64.wrap (((j + 1 : Nat) : Int) - 1) = (j : Int) := by rw [IntKind.wrap_i64] <;> omega
      have jb : (j : Int) < 24 := by omega
      have j0 : (0 : Int) ≤ (j : Int) := by omega
      have hp : (0 : Int) < ((j + 1 : Nat) : Int) := by omega
      by_cases hcz : C j = 0
      · have HCZ : Hid (C j = 0) := hcz
        rw [hcz] at cj
        clear hcz
        go_wp2
        go_roundw
        case rel => exact ⟨by trivial, j, by omega, by go_num, fun i h1 h2 => by
          rcases Nat.lt_or_ge j i with q | q
          · exact HZ.out i q h2
          · have : i = j := by omega
            rw [this]; exact HCZ.out⟩
        case measure => first | (simp [intOf]; done) | (simp [intOf]; omega)
      · have HCZ : Hid (C j ≠ 0) := hcz
        have cne : ¬ ((C j : Nat) : Int) = 0 := by omega
        generalize C j = cj0 at cj cne
        clear hcz
        go_upto_region 3 with fail
        go_region
        go_wp2
        go_returns
        obtain ⟨r1, r2⟩ := HSK.out.lowered (H' := j + 1) HF.out hle rfl
        exact ⟨rfl, _, j + 1, hle, Or.inr HCZ.out, HZ.out, r1.to (fun q hq => rfl), r2.trans (Moved.of_below (Below.refl _ _).drew)⟩
end Go.Proofs.YtgbplghokciimaaDoor.I
