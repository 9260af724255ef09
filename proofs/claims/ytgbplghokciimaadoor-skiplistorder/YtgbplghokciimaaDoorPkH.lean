import Derived.Test.YtgbplghokciimaaDoorPkF
import Derived.BigRegion
namespace Go.Proofs.YtgbplghokciimaaDoor.I
open Go.RowKit
set_option linter.unusedVariables false
/-- the links of the tower that comes: the levels below lv are done. -/
def cU (hb : Nat) (T : List Tw) (k : Nat) (t : Tw) (c0 : Nat → Lk) (lv : Nat) : Nat → Lk := fun l => if l < lv then lnk hb (insT T k t) (k + 1) l else c0 l
theorem cU_zero (hb : Nat) (T : List Tw) (k : Nat) (t : Tw) (c0 : Nat → Lk) : cU hb T k t c0 0 = c0 := by
  funext l; unfold cU; rw [if_neg (by omega)]
theorem cU_step (hb : Nat) (T : List Tw) (k : Nat) (t : Tw) (c0 : Nat → Lk) (lv : Nat) : updL (cU hb T k t c0 lv) lv (lnk hb (insT T k t) (k + 1) lv) = cU hb T k t c0 (lv + 1) := by
  funext l; unfold cU updL
  by_cases h : l = lv
  · subst h; rw [if_pos rfl, if_pos (by omega)]
  · rw [if_neg h]
    show (if l < lv then lnk hb (insT T k t) (k + 1) l else c0 l) = _
    by_cases h2 : l < lv
    · rw [if_pos h2, if_pos (by omega)]
    · rw [if_neg h2, if_neg (by omega)]
theorem cU_pass {hb : Nat} {T : List Tw} {k : Nat} {t : Tw} {c0 : Nat → Lk} {lv : Nat} (h : ¬ lv < t.h) : ∀ l, l < t.h → cU hb T k t c0 lv l = cU hb T k t c0 (lv + 1) l := fun l hl => by
  unfold cU; rw [if_pos (by omega), if_pos (by omega)]
theorem Sk.congPv {W : World} {g : Nat} {S : SkS} {C : Nat → Nat} {n : Nat} {c : Nat → Nat → Lk} {pv pv' : Nat → Option Nat} (h : Sk W g S C n c pv) (e : ∀ i, i < S.T.length → pv i = pv' i) : Sk W g S C n c pv' :=
  ⟨h.brd, h.head, h.hrow, fun i hi => by rw [← e i hi]; exact h.tow i hi, h.row, h.ndB, h.ndK⟩
theorem boardL_congr {seed : Int} {mb hb : Nat} {C C' : Nat → Nat} {n : Nat} (e : ∀ j, j < 24 → C j = C' j) : boardL seed mb hb C n = boardL seed mb hb C' n := by
  unfold boardL
  congr 2
  exact List.map_congr_left (fun j hj => by rw [e j (List.mem_range.1 hj)])
theorem Sk.congC {W : World} {g : Nat} {S : SkS} {C C' : Nat → Nat} {n : Nat} {c : Nat → Nat → Lk} {pv : Nat → Option Nat} (h : Sk W g S C n c pv) (e : ∀ j, j < 24 → C j = C' j) : Sk W g S C' n c pv :=
  ⟨by rw [← boardL_congr e]; exact h.brd, h.head, h.hrow, h.tow, h.row, h.ndB, h.ndK⟩
/-- a tower that stands apart from a board. -/
structure Lone (W : World) (g : Nat) (S : SkS) (t : Tw) (o : Option Nat) (c0 : Nat → Lk) : Prop where
  blk : Blk W t.b (towL t o) 63
  row : Rw W (.slice (some ⟨t.k, 0, none⟩) t.h t.h) t.h c0
  nb : t.b ∉ S.hb :: S.T.map Tw.b
  nk : t.k ∉ S.hv.ownBlock.toList ++ S.T.map Tw.k
theorem Lone.to {W W' : World} {g : Nat} {S : SkS} {t : Tw} {o : Option Nat} {c0 : Nat → Lk} (h : Lone W g S t o c0) (e1 : W'.heap[t.b]? = W.heap[t.b]?) (e2 : W'.heap[t.k]? = W.heap[t.k]?) : Lone W' g S t o c0 :=
  ⟨h.blk.to e1, h.row.to (fun K hK => by cases hK; exact e2), h.nb, h.nk⟩
theorem Lone.lts {W : World} {g : Nat} {S : SkS} {t : Tw} {o : Option Nat} {c0 : Nat → Lk} (h : Lone W g S t o c0) : t.b < W.heap.size ∧ t.k < W.heap.size := by
  obtain ⟨cur, hc⟩ := h.row.blk rfl
  exact ⟨h.blk.lt, row_lt hc⟩
theorem Lone.below {W W' : World} {g : Nat} {S : SkS} {t : Tw} {o : Option Nat} {c0 : Nat → Lk} (h : Lone W g S t o c0) (hb : Below W.heap.size W W') : Lone W' g S t o c0 :=
  h.to (hb.block _ h.lts.1) (hb.block _ h.lts.2)
/-- the blocks of a tower that stands apart are not the board's. -/
theorem Sk.lone_out {W : World} {g : Nat} {S : SkS} {C : Nat → Nat} {n : Nat} {c : Nat → Nat → Lk} {pv : Nat → Option Nat} {t : Tw} {o : Option Nat} {c0 : Nat → Lk} (h : Sk W g S C n c pv) (hl : Lone W g S t o c0) : t.b ∉ sblk g S ∧ t.k ∉ sblk g S := by
  obtain ⟨cur, hc⟩ := hl.row.blk rfl
  have hnk : ∀ g' L T', Blk W g' L T' → T' ≠ 112 → t.k ≠ g' := fun g' L T' hb ht e => by
    subst e; exact hl.row.ne rfl hb ht rfl
  unfold sblk
  simp only [List.mem_cons, List.mem_append, not_or]
  have hnb := hl.nb
  have hnkk := hl.nk
  simp only [List.mem_cons, not_or] at hnb
  simp only [List.mem_append, not_or] at hnkk
  refine ⟨⟨fun e => ?_, hnb.1, fun hm => ?_, hnb.2, fun hm => ?_⟩, hnk _ _ _ h.brd (by decide), hnk _ _ _ h.head (by decide), hnkk.1, fun hm => ?_, hnkk.2⟩
  · exact (h.brd.ne hl.blk (by decide)) e.symm
  · exact h.hrow.ne (by simpa using hm) hl.blk (by decide) rfl
  · obtain ⟨u, hu, e⟩ := List.mem_map.1 hm
    obtain ⟨i, hi, rfl⟩ := List.mem_iff_getElem.1 hu
    exact (h.row i hi).ne rfl hl.blk (by decide) e.symm
  · obtain ⟨u, hu, e⟩ := List.mem_map.1 hm
    obtain ⟨i, hi, rfl⟩ := List.mem_iff_getElem.1 hu
    exact hnk _ _ _ (h.tow i hi) (by decide) e.symm
/-- one level of a tower that comes. -/
theorem link_step_hi {W W' : World} {g : Nat} {S : SkS} {C : Nat → Nat} {n : Nat} {pv : Nat → Option Nat} {k lv p K kc : Nat} {t : Tw} (h : Sk W g S C n (cI S.hb S.T k t lv) pv) (hk : k ≤ S.T.length) (hp : IsPrv (hts S.T) lv k p) (hlv : lv < hgA S p) (hv : lvA S p = .slice (some ⟨K, 0, none⟩) (hgA S p) kc) {x : Lk} (hx : x = lnk S.hb (insT S.T k t) p lv) (ho : Only W W' K) (hr : Rw W' (lvA S p) (hgA S p) (updL (cI S.hb S.T k t lv p) lv x)) : Sk W' g S C n (cI S.hb S.T k t (lv + 1)) pv := by
  have hpl : p ≤ S.T.length := Nat.le_trans hp.le hk
  have h1 := h.setRow hpl (by rw [hv]; rfl) ho hr
  subst hx
  exact h1.cong (fun p' hp' l' hl' => cI_step hk hp (hgA_lt hl'))
end Go.Proofs.YtgbplghokciimaaDoor.I
