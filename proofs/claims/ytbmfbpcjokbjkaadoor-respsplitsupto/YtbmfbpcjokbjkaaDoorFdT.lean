import Derived.Test.YtbmfbpcjokbjkaaDoorFdS
namespace Go.Proofs.YtbmfbpcjokbjkaaDoor
open Go.RowKit Vi
set_option linter.unusedVariables false
set_option linter.unusedSimpArgs false
/-- what holds at a label of read, and what is to come of it. -/
def RGo (l f : Nat) (S : PS) (s : SP.Bs) (R : RO) : Prop := match l with
  | 0 => S.part.length ≤ 64 ∧ (S.words = [] ∧ 0 ≤ S.total ∧ S.total ≤ 33554432) ∧ (∀ k, lfAt (s.take (65 - S.part.length)) = some k → eol (S.part ++ s.take k) ≠ []) ∧ rdCount (rdW f) S s = R
  | 1 => WInv S ∧ S.part = [] ∧ rdW f S s = R
  | 2 => WInv S ∧ S.part.length ≤ 64 ∧ (∀ k, lfAt (s.take (65 - S.part.length)) = some k → eol (S.part ++ s.take k) ≠ []) ∧ rdLen (rdW f) S s = R
  | 3 => WInv S ∧ (∃ sz : Nat, S.size = (sz : Int) ∧ sz ≤ 524288 ∧ S.part.length < sz + 2) ∧ rdBody (rdW f) S s = R
  | _ => S.part.length ≤ 65536 ∧ rdLine S s = R
def RJ (B q r : Nat) (pv0 wv0 : Value) (w0 : World) (R : RO) (l : Nat) (a : Act) (w : World) : Prop := l < 5 ∧ ∃ f s pv wv S, IsFr a q s r ∧ PA B w q pv wv S ∧ Mv w0 w q pv0 wv0 pv wv ∧ w.heap[r]? = some (.cells #[.slice none 0 0, .string ⟨#[]⟩] 36) ∧ s.size < f ∧ s.size ≤ 1073741824 ∧ RGo l f S s.data.toList R
def slen (v : Value) : Nat := match v with
  | .string s => s.size
  | _ => 0
def RM (_ : Nat) (a : Act) (_ : World) : Nat := slen (a.tmps.getD 1 undef)
theorem rm_fr {l : Nat} {a : Act} {q : Nat} {s : ByteArray} {r : Nat} {w : World} (h : IsFr a q s r) : RM l a w = s.size := by
  obtain ⟨u, rfl⟩ := h.get
  rfl
theorem rm_fr' {l : Nat} {u : Nat → Value} {q : Nat} {s : ByteArray} {r : Nat} {w : World} : RM l (Fr q s r u) w = s.size := rfl
/-- from a label on. -/
theorem rd_pass (B q r : Nat) (pv0 wv0 : Value) (S0 : PS) (w0 : World) (h0 : PA B w0 q pv0 wv0 S0) (hr0 : w0.heap.size ≤ r) (hL : ∀ W, Below B w0 W → Laid W) (R : RO) (post : Ending → World → Prop) (hpost : ∀ e w', RdIs B w0 w' q pv0 wv0 e R → post e w') (l : Nat) (a : Act) (w : World) (hj : RJ B q r pv0 wv0 w0 R l a w) :
    (scopeTo Tryd.f17 l).wp Tryd.prog (jumps (fun l' a' w' => RJ B q r pv0 wv0 w0 R l' a' w' ∧ RM l' a' w' < RM l a w) (bodyPost Tryd.prog Tryd.f17 post)) a w := by
  obtain ⟨hl, f, s, pv, wv, S, hfr, hp, hm, hrow, hf, hs, hgo⟩ := hj
  obtain ⟨u, rfl⟩ := hfr.get
  have hL2 : ∀ W, Below B w W → Laid W := fun W hW => hL W ((hm.below h0).trans hW)
  have hJ : ∀ g, s.size ≤ g → ∀ a' w' s' pv' wv' S', IsFr a' q s' r → PA B w' q pv' wv' S' → Mv w0 w' q pv0 wv0 pv' wv' → w'.heap[r]? = some (.cells #[.slice none 0 0, .string ⟨#[]⟩] 36) → WInv S' → S'.part = [] → s'.size < s.size → rdW g S' s'.data.toList = R → (RJ B q r pv0 wv0 w0 R 1 a' w' ∧ RM 1 a' w' < RM l (Fr q s r u) w) := by
    intro g hg a' w' s' pv' wv' S' g1 g2 g3 g4 g5 g6 g7 g8
    exact ⟨⟨by omega, g, s', pv', wv', S', g1, g2, g3, g4, by omega, by omega, g5, g6, g8⟩, by rw [rm_fr g1, rm_fr']; exact g7⟩
  apply tl_to hl
  match l, hl, hgo with
  | 0, _, ⟨k1, k2, k3, k4⟩ => exact seg0 B q r pv0 wv0 pv wv S s u w0 w hp hm hr0 hrow k2 k1 hs k3 hL2 (rdW f) post _ R k4 hpost (hJ f (by omega))
  | 1, _, ⟨k1, k2, k3⟩ =>
    cases f with
    | zero => omega
    | succ f => exact seg1 B q r pv0 wv0 pv wv S s u w0 w hp hm hr0 hrow k1 k2 hs hL2 (rdW f) post _ R k3 hpost (hJ f (by omega))
  | 2, _, ⟨k1, k2, k3, k4⟩ => exact seg2 B q r pv0 wv0 pv wv S s u w0 w hp hm hr0 hrow k1 k2 hs k3 hL2 (rdW f) post _ R k4 hpost (hJ f (by omega))
  | 3, _, ⟨k1, ⟨sz, k2, k3, k4⟩, k5⟩ => exact seg3 B q r pv0 wv0 pv wv S s u w0 w hp hm hr0 hrow k1 sz k2 k3 k4 hs (rdW f) R k5 post _ hpost (hJ f (by omega))
  | 4, _, ⟨k1, k2⟩ => exact seg4 B q r pv0 wv0 pv wv S s u w0 w hp hm hr0 hrow k1 hs hL2 post _ (by rw [k2]; exact hpost)
end Go.Proofs.YtbmfbpcjokbjkaaDoor
