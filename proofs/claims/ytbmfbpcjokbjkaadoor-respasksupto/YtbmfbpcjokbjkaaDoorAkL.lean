import Derived.Test.YtbmfbpcjokbjkaaDoorAkM
import Derived.Test.YtbmfbpcjokbjkaaDoorPcL
namespace Go.Proofs.YtbmfbpcjokbjkaaDoor
open Go.RowKit Vi
set_option linter.unusedVariables false
set_option linter.unusedSimpArgs false
/-- rows of rows of texts. -/
def GV (w : World) (v : Value) (xss : List (List ByteArray)) : Prop :=
  (xss = [] ∧ ∃ p c, v = .slice p 0 c) ∨ (∃ g o c, v = .slice (some ⟨g, o, none⟩) xss.length c ∧ ∀ j (h : j < xss.length), ∃ av, w.cell? ⟨g, o + j, none⟩ = some av ∧ SRow w av xss[j])
theorem GV.form {w : World} {v : Value} {xss : List (List ByteArray)} (h : GV w v xss) : ∃ p c, v = .slice p xss.length c := by
  rcases h with ⟨rfl, p, c, h⟩ | ⟨g, o, c, h1, _⟩
  · exact ⟨p, c, h⟩
  · exact ⟨_, _, h1⟩
theorem GV.cell {w : World} {P : Option Addr} {n c : Nat} {xss : List (List ByteArray)} (h : GV w (.slice P n c) xss) (j : Nat) (hj : j < xss.length) : ∃ g o av, P = some ⟨g, o, none⟩ ∧ w.cell? ⟨g, o + j, none⟩ = some av ∧ SRow w av xss[j] := by
  rcases h with ⟨he, _⟩ | ⟨g, o, c', h1, h2⟩
  · rw [he] at hj; simp at hj
  · injection h1 with h1 _ _
    obtain ⟨av, a1, a2⟩ := h2 j hj
    exact ⟨g, o, av, h1, a1, a2⟩
/-- how much rows hold. -/
def bl1 (xs : List ByteArray) : Nat := 1 + (xs.map fun x => 1 + x.size).sum
def bl2 (xss : List (List ByteArray)) : Nat := (xss.map bl1).sum
theorem bl1_cons (x : ByteArray) (xs : List ByteArray) : bl1 (x :: xs) = bl1 xs + 1 + x.size := by unfold bl1; simp; omega
theorem bl1_flat : ∀ (xs : List ByteArray), bl1 xs ≤ 1099511627776 → (xs.flatMap wdL).length + 32 ≤ 32 * bl1 xs
  | [], _ => by simp [bl1]
  | x :: xs, h => by
    rw [bl1_cons] at h ⊢
    have := bl1_flat xs (by omega)
    have := wdL_len x (by omega)
    rw [List.flatMap_cons, List.length_append]; omega
theorem bl1_cmd (xs : List ByteArray) (h : bl1 xs ≤ 1099511627776) (hl : xs.length ≤ 1099511627776) : (cmdL xs).length ≤ 32 * bl1 xs := by
  by_cases h0 : xs = []
  · subst h0; simp [cmdL]
  · rw [cmdL_full h0]
    have := bl1_flat xs h
    have := Lib.itoa_length_le (xs.length : Int) (by omega) (by omega)
    simp only [List.length_append, List.length_cons, List.length_nil]; omega
theorem bl1_len (xs : List ByteArray) : xs.length < bl1 xs ∧ sumL xs < bl1 xs := by
  induction xs with
  | nil => exact ⟨by simp [bl1], by simp [bl1, sumL]⟩
  | cons x xs ih =>
    rw [bl1_cons]
    have e : sumL (x :: xs) = x.size + sumL xs := by unfold sumL; simp
    rw [e, List.length_cons]
    omega
theorem bl1_mem (xs : List ByteArray) (x : ByteArray) (h : x ∈ xs) : x.size < bl1 xs := by
  induction xs with
  | nil => cases h
  | cons y ys ih =>
    rw [bl1_cons]
    rcases List.mem_cons.1 h with rfl | h
    · have : 1 ≤ bl1 ys := by unfold bl1; omega
      omega
    · have := ih h; omega
theorem bl2_snoc (xss : List (List ByteArray)) (i : Nat) (h : i < xss.length) : bl2 (xss.take (i + 1)) = bl2 (xss.take i) + bl1 xss[i] := by
  unfold bl2
  rw [List.take_add_one, List.getElem?_eq_getElem h, List.map_append, List.sum_append]; simp
theorem bl2_take (xss : List (List ByteArray)) (i : Nat) : bl2 (xss.take i) ≤ bl2 xss := by
  have : bl2 xss = bl2 (xss.take i) + bl2 (xss.drop i) := by unfold bl2; rw [← List.sum_append, ← List.map_append, List.take_append_drop]
  omega
theorem bl2_len (xss : List (List ByteArray)) : xss.length ≤ bl2 xss := by
  induction xss with
  | nil => simp [bl2]
  | cons x xs ih =>
    have : bl2 (x :: xs) = bl1 x + bl2 xs := by unfold bl2; simp
    have h1 : 1 ≤ bl1 x := by unfold bl1; omega
    rw [this, List.length_cons]; omega
/-- the requests that are wanted, the text that they are, the last one's size. -/
def AK (E : List (Value × Rq)) (t : SP.Bs) (last : Nat) : Prop :=
  (E = [] ∧ t = [] ∧ last = 0) ∨ ∃ t0 E0 x xs, E = E0 ++ [x] ∧ x.2 = ⟨argL xs, []⟩ ∧ CmOk xs ∧ t = t0 ++ cmdL xs ∧ last = (cmdL xs).length ∧ TX t0 = (E0.map (·.2), some [])
theorem AK.tx {E : List (Value × Rq)} {t : SP.Bs} {last : Nat} (h : AK E t last) : TX t = (E.map (·.2), some []) := by
  rcases h with ⟨rfl, rfl, _⟩ | ⟨t0, E0, x, xs, rfl, hx, hc, rfl, _, h0⟩
  · rfl
  · rw [TX_app _ t0 (cmdL xs) (Nat.le_refl _), h0]
    show (_ ++ (TX ([] ++ cmdL xs)).1, (TX ([] ++ cmdL xs)).2) = _
    rw [List.nil_append, cmd_tx xs hc, List.map_append, List.map_singleton, hx]
theorem AK.step {E : List (Value × Rq)} {t : SP.Bs} {last : Nat} (h : AK E t last) (av : Value) (xs : List ByteArray) (hc : CmOk xs) : AK (E ++ [(av, ⟨argL xs, []⟩)]) (t ++ cmdL xs) (cmdL xs).length :=
  Or.inr ⟨t, E, (av, ⟨argL xs, []⟩), xs, rfl, rfl, hc, rfl, rfl, h.tx⟩
theorem AK.cut {E : List (Value × Rq)} {t : SP.Bs} {last : Nat} (h : AK E t last) (hE : E ≠ []) : TX t.dropLast = (E.dropLast.map (·.2), some (t.drop (t.length - last)).dropLast) ∧ last ≤ t.length ∧ 1 ≤ last := by
  rcases h with ⟨rfl, _, _⟩ | ⟨t0, E0, x, xs, rfl, hx, hc, rfl, rfl, h0⟩
  · exact absurd rfl hE
  · obtain ⟨a, b, r, e2⟩ := cmd_ne xs hc.ne
    have hne : cmdL xs ≠ [] := by rw [e2]; simp
    refine ⟨?_, by rw [List.length_append]; omega, by rw [e2]; simp⟩
    rw [List.dropLast_append_of_ne_nil hne, TX_app _ t0 _ (Nat.le_refl _), h0]
    show (_ ++ (TX ([] ++ (cmdL xs).dropLast)).1, (TX ([] ++ (cmdL xs).dropLast)).2) = _
    rw [List.nil_append, cmd_cut xs hc, List.append_nil, List.dropLast_concat]
    have : (t0 ++ cmdL xs).drop ((t0 ++ cmdL xs).length - (cmdL xs).length) = cmdL xs := by
      rw [List.length_append, Nat.add_sub_cancel]; exact List.drop_left' rfl
    rw [this]
/-- the wanted requests in memory: a row of its own; the words are the caller's. -/
structure WRs (B : Nat) (w0 W : World) (wv : Value) (E : List (Value × Rq)) : Prop where
  row : W.ownsRow B 36 2 wv E.length (rqC E)
  args : ∀ x ∈ E, SRow w0 x.1 (x.2.args.map strB)
  one : ∀ x ∈ E, ∃ p n c, x.1 = .slice p n c
theorem WRs.on {B : Nat} {w0 W W' : World} {wv : Value} {E : List (Value × Rq)} (h : WRs B w0 W wv E) (hb : Below W.heap.size W W') : WRs B w0 W' wv E := ⟨own_on h.row hb, h.args, h.one⟩
theorem WRs.far {B : Nat} {w0 W W' : World} {q' : Nat} {pv' wv' wv : Value} {E : List (Value × Rq)} {c : Array Value} (h : WRs B w0 W wv E) (hm : Mv W W' q' (.slice none 0 0) (.slice none 0 0) pv' wv') (hq' : W.heap[q']? = some (.cells c 45)) : WRs B w0 W' wv E := by
  refine ⟨own_stays' h.row (fun g hg => ?_), h.args, h.one⟩
  obtain ⟨cur, hc⟩ := own_ty' h.row g hg
  exact hm.block g (row_lt hc) (fun e => by rw [e] at hc; exact ty_apart hc hq' (by decide)) (fun e => by cases e) (fun e => by cases e)
theorem WRs.view {B : Nat} {w0 W : World} {wv : Value} {E : List (Value × Rq)} (h : WRs B w0 W wv E) (hb : Below w0.heap.size w0 W) : QV W wv (E.map (·.2)) := by
  have hr := h.row
  rcases hr.2 with ⟨rfl, h0⟩ | ⟨g, cap, cur, rfl, _⟩
  · left
    have : E = [] := List.eq_nil_of_length_eq_zero h0
    subst this
    exact ⟨rfl, none, 0, rfl⟩
  · right
    refine ⟨g, 0, cap, by rw [List.length_map], fun i hi => ?_⟩
    rw [List.length_map] at hi
    obtain ⟨e1, e2⟩ := rqC_get E i hi
    have c1 := hr.cells (g := g) rfl _ _ e1
    have c2 := hr.cells (g := g) rfl _ _ e2
    rw [Lib.add_plain] at c1 c2
    refine ⟨E[i].1, c1, ?_, by rw [List.getElem_map, Nat.add_assoc]; exact c2⟩
    rw [List.getElem_map]
    exact (h.args E[i] (List.getElem_mem hi)).on hb
theorem QV.cut {W : World} {P : Option Addr} {n c : Nat} {L : List Rq} (h : QV W (.slice P n c) L) (k : Nat) (hk : k ≤ L.length) : QV W (.slice P k c) (L.take k) := by
  rcases h with ⟨rfl, p, c', e⟩ | ⟨g, o, c', h1, h2⟩
  · have : k = 0 := by simpa using hk
    subst this
    exact Or.inl ⟨rfl, P, c, rfl⟩
  · have h3 : P = some ⟨g, o, none⟩ := (Value.slice.inj h1).1
    right
    refine ⟨g, o, c, by rw [List.length_take, Nat.min_eq_left hk, h3], fun i hi => ?_⟩
    have hi2 : i < k ∧ i < L.length := by rw [List.length_take] at hi; omega
    obtain ⟨av, a1, a2, a3⟩ := h2 i hi2.2
    exact ⟨av, a1, by rw [List.getElem_take]; exact a2, by rw [List.getElem_take]; exact a3⟩
theorem arg_back (xs : List ByteArray) : (argL xs).map strB = xs := by
  unfold argL
  rw [List.map_map]
  have : (strB ∘ fun x : ByteArray => x.data.toList) = id := by funext x; exact strB_of x
  rw [this, List.map_id]
end Go.Proofs.YtbmfbpcjokbjkaaDoor
