import Derived.Test.YtgbplghokciimaaDoorQkA
namespace Go.Proofs.YtgbplghokciimaaDoor.S
open Go.RowKit
set_option linter.unusedVariables false
structure SkS where
  seed : Int
  mb : Nat
  hb : Nat
  hv : Value
  H : Nat
  T : List Tw
def boardL (seed : Int) (mb hb : Nat) (C : Nat → Nat) (n : Nat) : List Value := [.int .i64 seed, .map (some mb), ptr (some hb)] ++ ((List.range 24).map (fun j => Value.int .i64 (C j : Nat)) ++ [.int .i64 (n : Nat)])
theorem boardL_at (seed : Int) (mb hb : Nat) (C : Nat → Nat) (n j : Nat) (hj : j < 24) : (boardL seed mb hb C n)[3 + j]? = some (.int .i64 (C j : Nat)) := by
  unfold boardL
  rw [List.getElem?_append_right (by simp), List.getElem?_append_left (by simp; omega)]
  simp [List.getElem?_range hj]
theorem boardL_n (seed : Int) (mb hb : Nat) (C : Nat → Nat) (n : Nat) : (boardL seed mb hb C n)[27]? = some (.int .i64 (n : Nat)) := rfl
def updC (C : Nat → Nat) (j x : Nat) : Nat → Nat := fun i => if i = j then x else C i
theorem boardL_set (seed : Int) (mb hb : Nat) (C : Nat → Nat) (n j x : Nat) (hj : j < 24) : (boardL seed mb hb C n).set (3 + j) (.int .i64 (x : Nat)) = boardL seed mb hb (updC C j x) n := by
  unfold boardL
  rw [List.set_append_right _ _ (by simp), List.set_append_left _ _ (by simp; omega)]
  have e : 3 + j - [Value.int .i64 seed, .map (some mb), ptr (some hb)].length = j := by simp
  rw [e]
  congr 2
  refine List.ext_getElem? (fun i => ?_)
  rw [List.getElem?_set, List.getElem?_map, List.getElem?_map]
  unfold updC
  by_cases hi : j = i
  · subst hi
    rw [if_pos rfl, List.getElem?_range hj]
    simp [hj]
  · rw [if_neg hi]
    rcases Nat.lt_or_ge i 24 with h | h
    · rw [List.getElem?_range h]
      simp [show ¬ i = j by omega]
    · rw [List.getElem?_eq_none (by simpa using h)]; rfl
theorem boardL_setn (seed : Int) (mb hb : Nat) (C : Nat → Nat) (n x : Nat) : (boardL seed mb hb C n).set 27 (.int .i64 (x : Nat)) = boardL seed mb hb C x := rfl
def towL (t : Tw) (pv : Option Nat) : List Value := [.string t.e.1, .int .i64 t.e.2.1, vl t.e.2.2, .slice (some ⟨t.k, 0, none⟩) t.h t.h, ptr pv]
def headL (hv : Value) : List Value := [.string ⟨#[]⟩, .int .i64 0, vz, hv, .pointer none]
/-- the links of a tower. -/
abbrev Rw (W : World) (v : Value) (h : Nat) (c : Nat → Lk) : Prop := W.ownsRow 0 151 2 v h (flat2 c h)
/-- a board in memory: counts C, size n, links c, the towers ahead pv. -/
structure Sk (W : World) (g : Nat) (S : SkS) (C : Nat → Nat) (n : Nat) (c : Nat → Nat → Lk) (pv : Nat → Option Nat) : Prop where
  brd : Blk W g (boardL S.seed S.mb S.hb C n) 125
  head : Blk W S.hb (headL S.hv) 123
  hrow : Rw W S.hv S.H (c 0)
  tow : ∀ i (hi : i < S.T.length), Blk W S.T[i].b (towL S.T[i] (pv i)) 123
  row : ∀ i (hi : i < S.T.length), Rw W (.slice (some ⟨S.T[i].k, 0, none⟩) S.T[i].h S.T[i].h) S.T[i].h (c (i + 1))
  ndB : (S.hb :: S.T.map Tw.b).Nodup
  ndK : (S.hv.ownBlock.toList ++ S.T.map Tw.k).Nodup
theorem Rw.form {W : World} {v : Value} {h : Nat} {c : Nat → Lk} (H : Rw W v h c) : ∃ P k, v = .slice P h k := own_form H
theorem Rw.blk {W : World} {v : Value} {h K : Nat} {c : Nat → Lk} (H : Rw W v h c) (hk : v.ownBlock = some K) : ∃ cur, W.heap[K]? = some (.cells cur 151 (0, 0)) := by
  rcases H.2 with ⟨rfl, _⟩ | ⟨g, cap, cur, rfl, _, hg, _⟩
  · cases hk
  · cases hk; exact ⟨cur, hg⟩
theorem Rw.to {W W' : World} {v : Value} {h : Nat} {c : Nat → Lk} (H : Rw W v h c) (e : ∀ K, v.ownBlock = some K → W'.heap[K]? = W.heap[K]?) : Rw W' v h c := by
  refine ⟨H.1, ?_⟩
  rcases H.2 with q | ⟨g, cap, cur, rfl, h1, hg, r⟩
  · exact Or.inl q
  · exact Or.inr ⟨g, cap, cur, rfl, h1, (e g rfl).trans hg, r⟩
theorem Rw.congr {W : World} {v : Value} {h : Nat} {c c' : Nat → Lk} (H : Rw W v h c) (e : ∀ l, l < h → c l = c' l) : Rw W v h c' := by
  unfold Rw at *; rw [← flat2_congr e]; exact H
/-- the links at a level. -/
theorem Rw.at {W : World} {v : Value} {h l : Nat} {c : Nat → Lk} (H : Rw W v h c) (hl : l < h) : ∃ K k, v = .slice (some ⟨K, 0, none⟩) h k ∧ W.cell? ⟨K, l * 2, none⟩ = some (ptr (c l).1) ∧ W.cell? ⟨K, l * 2 + 1, none⟩ = some (.int .i64 ((c l).2 : Nat)) ∧ ∀ j, W.frozen? ⟨K, j, none⟩ = false := by
  obtain ⟨P, k, rfl⟩ := H.form
  rcases H.2 with ⟨e, h0⟩ | ⟨g, cap, cur, e, _⟩
  · omega
  · cases e
    obtain ⟨h1, h2⟩ := flat2_get c h l hl
    exact ⟨g, k, rfl, (World.ownsRow.cellAt H _ (by omega)).trans h1, (World.ownsRow.cellAt H _ (by omega)).trans h2, fun j => World.ownsRow.frozenAt H j⟩
theorem Rw.set1 {W : World} {K h k l : Nat} {c : Nat → Lk} (H : Rw W (.slice (some ⟨K, 0, none⟩) h k) h c) (y : Nat) : Rw (W.setCell ⟨K, l * 2 + 1, none⟩ (.int .i64 (y : Nat))) (.slice (some ⟨K, 0, none⟩) h k) h (updL c l ((c l).1, y)) := by
  have := (World.ownsRow.stored H (l * 2 + 1) (.int .i64 (y : Nat))).1
  rw [flat2_set1] at this; exact this
theorem Rw.set0 {W : World} {K h k l : Nat} {c : Nat → Lk} (H : Rw W (.slice (some ⟨K, 0, none⟩) h k) h c) (o : Option Nat) : Rw (W.setCell ⟨K, l * 2, none⟩ (ptr o)) (.slice (some ⟨K, 0, none⟩) h k) h (updL c l (o, (c l).2)) := by
  have := (World.ownsRow.stored H (l * 2) (ptr o)).1
  rw [flat2_set0] at this; exact this
theorem Rw.ne {W : World} {v : Value} {h K g t : Nat} {c : Nat → Lk} {L : List Value} (H : Rw W v h c) (hk : v.ownBlock = some K) (hb : Blk W g L t) (ht : t ≠ 151) : g ≠ K := fun e => by
  subst e
  obtain ⟨cur, h1⟩ := H.blk hk
  have := hb.symm.trans h1
  injection this with this
  injection this with _ h2
  exact ht h2
def lvA (S : SkS) : Nat → Value
  | 0 => S.hv
  | p + 1 => match S.T[p]? with
    | some t => .slice (some ⟨t.k, 0, none⟩) t.h t.h
    | none => .slice none 0 0
def hgA (S : SkS) : Nat → Nat
  | 0 => S.H
  | p + 1 => match S.T[p]? with
    | some t => t.h
    | none => 0
theorem lvA_s {S : SkS} {p : Nat} (hp : p < S.T.length) : lvA S (p + 1) = .slice (some ⟨S.T[p].k, 0, none⟩) S.T[p].h S.T[p].h := by
  show (match S.T[p]? with | some t => Value.slice (some ⟨t.k, 0, none⟩) t.h t.h | none => .slice none 0 0) = _
  rw [List.getElem?_eq_getElem hp]
theorem hgA_s {S : SkS} {p : Nat} (hp : p < S.T.length) : hgA S (p + 1) = S.T[p].h := by
  show (match S.T[p]? with | some t => t.h | none => 0) = _
  rw [List.getElem?_eq_getElem hp]
theorem hgA_stand {S : SkS} {l p : Nat} (h : Stand (hts S.T) l p) (hl : l < S.H) : l < hgA S p := by
  rcases h with rfl | ⟨x, hx, hlx⟩
  · exact hl
  · cases p with
    | zero => exact hl
    | succ p =>
      rw [Nat.add_sub_cancel, List.getElem?_map] at hx
      obtain ⟨t, ht, rfl⟩ := Option.map_eq_some_iff.1 hx
      show l < match S.T[p]? with | some t => t.h | none => 0
      rw [ht]; exact hlx
theorem hgA_lt {S : SkS} {l p : Nat} (h : l < hgA S p) : Stand (hts S.T) l p := by
  cases p with
  | zero => exact Or.inl rfl
  | succ p =>
    refine Or.inr ?_
    rw [Nat.add_sub_cancel, List.getElem?_map]
    have h : l < match S.T[p]? with | some t => t.h | none => 0 := h
    rcases ht : S.T[p]? with _ | t
    · rw [ht] at h; simp at h
    · rw [ht] at h; exact ⟨t.h, rfl, h⟩
section
variable {W : World} {g : Nat} {S : SkS} {C : Nat → Nat} {n : Nat} {c : Nat → Nat → Lk} {pv : Nat → Option Nat}
theorem Sk.rowAt (h : Sk W g S C n c pv) {p : Nat} (hp : p ≤ S.T.length) : Rw W (lvA S p) (hgA S p) (c p) := by
  cases p with
  | zero => exact h.hrow
  | succ p =>
    have := h.row p hp
    rw [lvA_s hp, hgA_s hp]; exact this
theorem Sk.towAt (h : Sk W g S C n c pv) {p : Nat} (hp : p ≤ S.T.length) : ∃ b, pAt S.hb S.T p = some b ∧ W.cell? ⟨b, 3, none⟩ = some (lvA S p) := by
  cases p with
  | zero => exact ⟨_, rfl, by rw [h.head.cell]; rfl⟩
  | succ p =>
    refine ⟨S.T[p].b, ?_, ?_⟩
    · show (S.T[p]?).map Tw.b = _
      rw [List.getElem?_eq_getElem hp]; rfl
    · rw [(h.tow p hp).cell, lvA_s hp]; rfl
theorem nd_ne {L : List Nat} (h : L.Nodup) {i j : Nat} (hi : i < L.length) (hj : j < L.length) (hij : i ≠ j) : L[i] ≠ L[j] := by
  have hp := List.pairwise_iff_getElem.1 h
  rcases Nat.lt_or_gt_of_ne hij with q | q
  · exact hp i j hi hj q
  · exact (hp j i hj hi q).symm
theorem Sk.neK (h : Sk W g S C n c pv) {p q K K' : Nat} (hp : p ≤ S.T.length) (hq : q ≤ S.T.length) (hpq : p ≠ q) (e : (lvA S p).ownBlock = some K) (e' : (lvA S q).ownBlock = some K') : K ≠ K' := by
  obtain ⟨n1, n2, n3⟩ := List.nodup_append.1 h.ndK
  have key : ∀ p, p < S.T.length → ∀ K, (lvA S (p + 1)).ownBlock = some K → ∃ hm : p < (S.T.map Tw.k).length, (S.T.map Tw.k)[p] = K := fun p hp K e => by
    rw [lvA_s hp] at e
    exact ⟨by simpa using hp, by simpa [Value.ownBlock] using e⟩
  cases p with
  | zero =>
    cases q with
    | zero => exact absurd rfl hpq
    | succ q =>
      obtain ⟨m, hm⟩ := key q hq K' e'
      exact n3 K (by rw [show S.hv.ownBlock = some K from e]; simp) K' (by rw [← hm]; exact List.getElem_mem _)
  | succ p =>
    obtain ⟨m1, hm1⟩ := key p hp K e
    cases q with
    | zero => exact (n3 K' (by rw [show S.hv.ownBlock = some K' from e']; simp) K (by rw [← hm1]; exact List.getElem_mem _)).symm
    | succ q =>
      obtain ⟨m2, hm2⟩ := key q hq K' e'
      rw [← hm1, ← hm2]
      exact nd_ne n2 m1 m2 (by omega)
/-- the blocks that a board lies in, its map aside. -/
def sblk (g : Nat) (S : SkS) : List Nat := g :: S.hb :: (S.hv.ownBlock.toList ++ (S.T.map Tw.b ++ S.T.map Tw.k))
theorem Sk.to {W' : World} (h : Sk W g S C n c pv) (e : ∀ q ∈ sblk g S, W'.heap[q]? = W.heap[q]?) : Sk W' g S C n c pv := by
  unfold sblk at e
  refine ⟨h.brd.to (e g (by simp)), h.head.to (e _ (by simp)), h.hrow.to (fun K hK => e K (by rw [hK]; simp)), fun i hi => (h.tow i hi).to (e _ ?_), fun i hi => (h.row i hi).to (fun K hK => ?_), h.ndB, h.ndK⟩
  · simp only [List.mem_cons, List.mem_append]
    exact Or.inr (Or.inr (Or.inr (Or.inl (List.mem_map.2 ⟨_, List.getElem_mem hi, rfl⟩))))
  · cases hK
    refine e _ ?_
    simp only [List.mem_cons, List.mem_append]
    exact Or.inr (Or.inr (Or.inr (Or.inr (List.mem_map.2 ⟨_, List.getElem_mem hi, rfl⟩))))
theorem Sk.mem_lt (h : Sk W g S C n c pv) : ∀ q ∈ sblk g S, q < W.heap.size := by
  intro q hq
  unfold sblk at hq
  simp only [List.mem_cons, List.mem_append] at hq
  rcases hq with rfl | rfl | hq | hq | hq
  · exact h.brd.lt
  · exact h.head.lt
  · obtain ⟨cur, hc⟩ := h.hrow.blk (by simpa using hq)
    exact row_lt hc
  · obtain ⟨t, ht, rfl⟩ := List.mem_map.1 hq
    obtain ⟨i, hi, rfl⟩ := List.mem_iff_getElem.1 ht
    exact (h.tow i hi).lt
  · obtain ⟨t, ht, rfl⟩ := List.mem_map.1 hq
    obtain ⟨i, hi, rfl⟩ := List.mem_iff_getElem.1 ht
    obtain ⟨cur, hc⟩ := (h.row i hi).blk rfl
    exact row_lt hc
theorem Sk.below {W' : World} (h : Sk W g S C n c pv) (hb : Below W.heap.size W W') : Sk W' g S C n c pv := h.to (fun q hq => hb.block q (h.mem_lt q hq))
theorem Sk.cong {c' : Nat → Nat → Lk} (h : Sk W g S C n c pv) (e : ∀ p, p ≤ S.T.length → ∀ l, l < hgA S p → c p l = c' p l) : Sk W g S C n c' pv := by
  refine ⟨h.brd, h.head, h.hrow.congr (fun l hl => e 0 (Nat.zero_le _) l hl), h.tow, fun i hi => (h.row i hi).congr (fun l hl => e (i + 1) hi l ?_), h.ndB, h.ndK⟩
  rw [hgA_s hi]; exact hl
/-- the links of one place have turned. -/
theorem Sk.setRow (h : Sk W g S C n c pv) {p K : Nat} (hp : p ≤ S.T.length) (hK : (lvA S p).ownBlock = some K) {W' : World} (ho : Only W W' K) {f : Nat → Lk} (hr : Rw W' (lvA S p) (hgA S p) f) : Sk W' g S C n (updP c p f) pv := by
  have hrp := h.rowAt hp
  have hne : ∀ g' L t, Blk W g' L t → t ≠ 151 → W'.heap[g']? = W.heap[g']? := fun g' L t hb ht => ho.other g' (hrp.ne hK hb ht)
  refine ⟨h.brd.to (hne _ _ _ h.brd (by decide)), h.head.to (hne _ _ _ h.head (by decide)), ?_, fun i hi => (h.tow i hi).to (hne _ _ _ (h.tow i hi) (by decide)), fun i hi => ?_, h.ndB, h.ndK⟩
  · unfold updP
    by_cases h0 : 0 = p
    · subst h0; rw [if_pos rfl]; exact hr
    · rw [if_neg h0]
      exact h.hrow.to (fun K' hK' => ho.other K' (h.neK (p := 0) (q := p) (Nat.zero_le _) hp h0 hK' hK))
  · unfold updP
    by_cases h0 : i + 1 = p
    · subst h0; rw [if_pos rfl]
      rw [lvA_s hi, hgA_s hi] at hr; exact hr
    · rw [if_neg h0]
      refine (h.row i hi).to (fun K' hK' => ho.other K' (h.neK (p := i + 1) (q := p) hi hp h0 ?_ hK))
      rw [lvA_s hi]; exact hK'
end
theorem only_set (W : World) (K i : Nat) (v : Value) : Only W (W.setCell ⟨K, i, none⟩ v) K := (Only.refl W K).set i v
end Go.Proofs.YtgbplghokciimaaDoor.S
