import Derived.Test.YtfkcpilkhdbpoaaGreatDoorProg
import Derived.WalkKit
import Derived.WalkSpells
import Derived.WalkLawsBesides
import Derived.Handy
import Derived.Laws.BytesArg
import Derived.Laws.IdiomStrings
import Derived.Lib.AppendStr
import Derived.Deep.QuietTactic
import Derived.BigQuiet
import Derived.Lib.AppendZerosOnto
import Derived.RangeFuncOwn
import Derived.Lib.ItoaMem
namespace Go.Proofs.YtfkcpilkhdbpoaaGreatDoor.V
open Go.RowKit
set_option linter.unusedVariables false

theorem below_dn {B : Nat} {a w : World} (h : Below B a w) (n : Nat) : Below B a (w.drewN n) := h.trans ⟨rfl, rfl, rfl, Nat.le_refl _, fun _ _ => rfl⟩
theorem at_list (s : ByteArray) (k : Nat) (h : k < s.size) : s.data.toList[k]? = some s[k] := by
  rw [List.getElem?_eq_getElem (by simpa using h)]; rfl
theorem list_len (s : ByteArray) : s.data.toList.length = s.size := by show _ = s.data.size; simp
theorem drop_more (l : List UInt8) (i : Nat) (b : UInt8) (h : l[i]? = some b) : l.drop i = b :: l.drop (i + 1) := by
  obtain ⟨hi, e⟩ := List.getElem?_eq_some_iff.1 h
  rw [List.drop_eq_getElem_cons hi, e]
theorem drop_at (s : ByteArray) (k : Nat) (h : k < s.size) : s.data.toList.drop k = s[k] :: s.data.toList.drop (k + 1) := drop_more _ _ _ (at_list s k h)
theorem ext_any (s : ByteArray) (i j : Nat) : (s.extract i j).data.toList = (s.data.toList.drop i).take (j - i) := by
  rw [ByteArray.data_extract]
  simp [Array.toList_extract, List.extract_eq_take_drop]
theorem ext_size (s : ByteArray) (i j : Nat) (h : j ≤ s.size) : (s.extract i j).size = j - i := by
  rw [ByteArray.size_extract]; omega
theorem str_same {a b : ByteArray} (h : a.data.toList = b.data.toList) : (a.toList == b.toList) = true := by
  rw [ByteArray.toList_eq, ByteArray.toList_eq, h]; simp
theorem str_other {a b : ByteArray} (h : a.data.toList ≠ b.data.toList) : (a.toList == b.toList) = false := by
  rw [ByteArray.toList_eq, ByteArray.toList_eq]; simpa using h
theorem str_empty {s : ByteArray} (h : s.size = 0) : s.toList.isEmpty = true := by
  rw [ByteArray.toList_eq, List.isEmpty_iff]
  exact List.length_eq_zero_iff.1 (by rw [list_len]; exact h)
theorem str_full {s : ByteArray} (h : ¬ s.size = 0) : s.toList.isEmpty = false := by
  rw [ByteArray.toList_eq]
  cases hh : s.data.toList with
  | nil => exact absurd (by rw [← list_len, hh]; rfl) h
  | cons a t => rfl
theorem ret_int {k : IntKind} {a b : Int} (h : a = b) : Ending.returned (.int k a) = .returned (.int k b) := by rw [h]
theorem wrap_b (b : UInt8) : wrap64 (b.toNat : Int) = (b.toNat : Int) := by have := b.toNat_lt; unfold wrap64; omega
def strB (l : List UInt8) : ByteArray := ⟨l.toArray⟩
theorem strB_list (l : List UInt8) : (strB l).data.toList = l := by unfold strB; simp
theorem strB_size (l : List UInt8) : (strB l).size = l.length := by rw [← list_len, strB_list]
theorem strB_of (s : ByteArray) : strB s.data.toList = s := rfl
def bcells (l : List UInt8) : List Value := l.map fun b => Value.int .u8 (b.toNat : Int)
theorem bcells_snoc (l : List UInt8) (b : UInt8) : bcells (l ++ [b]) = bcells l ++ [.int .u8 (b.toNat : Int)] := by unfold bcells; rw [List.map_append]; rfl
theorem bcells_str (l : List UInt8) (s : ByteArray) : bcells (l ++ s.data.toList) = bcells l ++ Lib.strCells s := by unfold bcells Lib.strCells; rw [List.map_append]
theorem info5 : (Tryz.prog.info? 5).map (fun i => (i.zero, i.size, i.bytes)) = some (some (.int .u8 0), 1, 1) := by kernel_rfl
theorem row_lt {w : World} {b : Nat} {o : Obj} (h : w.heap[b]? = some o) : b < w.heap.size := by
  rcases Nat.lt_or_ge b w.heap.size with h' | h'
  · exact h'
  · rw [Array.getElem?_eq_none h'] at h; cases h
theorem own_keep {w w' : World} {base e size : Nat} {v : Value} {n : Nat} {xs : List Value} (h : w.ownsRow base e size v n xs) (hk : ∀ k, base ≤ k → k < w.heap.size → w'.heap[k]? = w.heap[k]?) : w'.ownsRow base e size v n xs := by
  refine ⟨h.1, ?_⟩
  rcases h.2 with h1 | ⟨g, cap, cur, hv, hb, hg, r⟩
  · exact Or.inl h1
  · exact Or.inr ⟨g, cap, cur, hv, hb, by rw [hk g hb (row_lt hg)]; exact hg, r⟩
theorem own_form {w : World} {base e size : Nat} {v : Value} {n : Nat} {xs : List Value} (h : w.ownsRow base e size v n xs) : ∃ p c, v = .slice p n c := by
  rcases h.2 with ⟨e, hn⟩ | ⟨gg, cap', cur, e, _⟩
  · exact ⟨none, 0, by rw [e, hn]⟩
  · exact ⟨_, _, e⟩
/-- a row of bytes: where it lies, and what its cells hold. -/
theorem own_cell {w : World} {base : Nat} {v : Value} {l : List UInt8} (h : w.ownsRow base 5 1 v l.length (bcells l)) (hl : l ≠ []) :
    ∃ g cap, v = .slice (some ⟨g, 0, none⟩) l.length cap ∧ ∀ j, j < l.length → w.cell? ⟨g, j, none⟩ = some (.int .u8 ((l.getD j 0).toNat : Int)) := by
  rcases h.2 with ⟨e, hn⟩ | ⟨g, cap, cur, hv, _, hg, hn, _, hs, ht⟩
  · exact absurd (List.length_eq_zero_iff.1 hn) hl
  · refine ⟨g, cap, hv, fun j hj => ?_⟩
    rw [cell_of_row _ _ _ _ _ _ hg]
    have h2 := congrArg (fun x => x[j]?) ht
    simp only [Nat.mul_one, bcells] at h2
    rw [List.getElem?_take_of_lt hj, List.getElem?_map, List.getElem?_eq_getElem hj] at h2
    simpa [List.getD_eq_getElem?_getD, hj] using h2
theorem conv_nil (w : World) : Sem.run Tryz.prog (convert 218 9 (.slice none 0 0)) w = .ok (.string ⟨#[]⟩) w := by kernel_rfl
theorem own_text {wr : World} {base : Nat} {v : Value} {l : List UInt8} (h : wr.ownsRow base 5 1 v l.length (bcells l)) :
    ∃ p c, v = .slice p l.length c ∧ Sem.run Tryz.prog (convert 218 9 (.slice p l.length c)) wr = .ok (.string (strB l)) wr := by
  rcases h.2 with ⟨e, hn⟩ | ⟨g, cap, cur, hv, _, hg, hn, _, hs, ht⟩
  · have : l = [] := List.length_eq_zero_iff.1 hn
    subst this
    exact ⟨none, 0, e, conv_nil wr⟩
  · refine ⟨some ⟨g, 0, none⟩, cap, hv, ?_⟩
    refine run_convert_bytes_back wr 218 9 5 ⟨g, 0, none⟩ cap l Tryz.underlying218 Tryz.underlying5 Tryz.underlying9 ?_
    intro j hj
    have e : (⟨g, 0, none⟩ : Addr).add j = ⟨g, j, none⟩ := by unfold Addr.add; split <;> simp_all
    rw [e, cell_of_row _ _ _ _ _ _ hg]
    have h2 := congrArg (fun x => x[j]?) ht
    simp only [Nat.mul_one, bcells] at h2
    rw [List.getElem?_take_of_lt hj, List.getElem?_map, List.getElem?_eq_getElem hj] at h2
    simpa using h2
end Go.Proofs.YtfkcpilkhdbpoaaGreatDoor.V
namespace Go.Proofs.YtfkcpilkhdbpoaaGreatDoor.V
open Go.RowKit
set_option linter.unusedVariables false
structure Only (w w' : World) (g : Nat) : Prop where
  os : w'.os = w.os
  tape : w'.tape = w.tape
  output : w'.output = w.output
  size : w'.heap.size = w.heap.size
  other : ∀ k, k ≠ g → w'.heap[k]? = w.heap[k]?
theorem Only.refl (w : World) (g : Nat) : Only w w g := ⟨rfl, rfl, rfl, rfl, fun _ _ => rfl⟩
theorem Only.trans {w w1 w2 : World} {g : Nat} (h : Only w w1 g) (h' : Only w1 w2 g) : Only w w2 g :=
  ⟨h'.os.trans h.os, h'.tape.trans h.tape, h'.output.trans h.output, h'.size.trans h.size, fun k hk => (h'.other k hk).trans (h.other k hk)⟩
theorem Only.below {w w' : World} {g B : Nat} (h : Only w w' g) (hg : B ≤ g) : Below B w w' :=
  ⟨h.os, h.tape, h.output, by rw [h.size]; exact Nat.le_refl _, fun k hk => h.other k (by omega)⟩
theorem Only.set {w w' : World} {g : Nat} (h : Only w w' g) (i : Nat) (v : Value) : Only w (w'.setCell ⟨g, i, none⟩ v) g :=
  h.trans ⟨rfl, rfl, rfl, by simp, fun k hk => heap_setCell_other _ _ _ _ hk⟩
theorem one_alloc (w : World) (A : Obj) : (w.alloc A).heap[w.heap.size]? = some A := by
  show (w.heap.push A)[w.heap.size]? = some A
  rw [Array.getElem?_push, if_pos rfl]
theorem heap_set3 (w : World) (g T : Nat) (a b c v0 v1 v2 : Value) (h : w.heap[g]? = some (.cells #[a, b, c] T)) :
    (((w.setCell ⟨g, 0, none⟩ v0).setCell ⟨g, 1, none⟩ v1).setCell ⟨g, 2, none⟩ v2).heap[g]? = some (.cells #[v0, v1, v2] T) ∧ Only w (((w.setCell ⟨g, 0, none⟩ v0).setCell ⟨g, 1, none⟩ v1).setCell ⟨g, 2, none⟩ v2) g := by
  refine ⟨?_, (((Only.refl w g).set _ _).set _ _).set _ _⟩
  rw [heap_setCell_same _ _ _ _ _ _ (heap_setCell_same _ _ _ _ _ _ (heap_setCell_same _ _ _ _ _ _ h))]; rfl
theorem row3 {w : World} {g T : Nat} {v0 v1 v2 : Value} (h : w.heap[g]? = some (.cells #[v0, v1, v2] T)) :
    w.cell? ⟨g, 0, none⟩ = some v0 ∧ w.cell? ⟨g, 1, none⟩ = some v1 ∧ w.cell? ⟨g, 2, none⟩ = some v2 ∧ ∀ j, w.frozen? ⟨g, j, none⟩ = false := by
  refine ⟨?_, ?_, ?_, fun j => frozen_of_row _ _ _ _ _ h⟩ <;> rw [cell_of_row _ _ _ _ _ _ h] <;> rfl
theorem heap_set5 (w : World) (g T : Nat) (a b c d e v0 v1 v2 v3 v4 : Value) (h : w.heap[g]? = some (.cells #[a, b, c, d, e] T)) :
    (((((w.setCell ⟨g, 0, none⟩ v0).setCell ⟨g, 1, none⟩ v1).setCell ⟨g, 2, none⟩ v2).setCell ⟨g, 3, none⟩ v3).setCell ⟨g, 4, none⟩ v4).heap[g]? = some (.cells #[v0, v1, v2, v3, v4] T) ∧ Only w (((((w.setCell ⟨g, 0, none⟩ v0).setCell ⟨g, 1, none⟩ v1).setCell ⟨g, 2, none⟩ v2).setCell ⟨g, 3, none⟩ v3).setCell ⟨g, 4, none⟩ v4) g := by
  refine ⟨?_, (((((Only.refl w g).set _ _).set _ _).set _ _).set _ _).set _ _⟩
  rw [heap_setCell_same _ _ _ _ _ _ (heap_setCell_same _ _ _ _ _ _ (heap_setCell_same _ _ _ _ _ _ (heap_setCell_same _ _ _ _ _ _ (heap_setCell_same _ _ _ _ _ _ h))))]; rfl
theorem row5 {w : World} {g T : Nat} {v0 v1 v2 v3 v4 : Value} (h : w.heap[g]? = some (.cells #[v0, v1, v2, v3, v4] T)) :
    w.cell? ⟨g, 0, none⟩ = some v0 ∧ w.cell? ⟨g, 1, none⟩ = some v1 ∧ w.cell? ⟨g, 2, none⟩ = some v2 ∧ w.cell? ⟨g, 3, none⟩ = some v3 ∧ w.cell? ⟨g, 4, none⟩ = some v4 ∧ ∀ j, w.frozen? ⟨g, j, none⟩ = false := by
  refine ⟨?_, ?_, ?_, ?_, ?_, fun j => frozen_of_row _ _ _ _ _ h⟩ <;> rw [cell_of_row _ _ _ _ _ _ h] <;> rfl
theorem lt_of_cell {w : World} {a : Addr} {v : Value} (h : w.cell? a = some v) : a.block < w.heap.size := by
  obtain ⟨o, ho, _⟩ := cells_of_cell h; exact row_lt ho
theorem cell_on {w w' : World} {a : Addr} {v : Value} (h : w.cell? a = some v) (hb : Below w.heap.size w w') : w'.cell? a = some v :=
  (hb.cell (p := a) (lt_of_cell h)).trans h
theorem keep_row {w w' : World} {g : Nat} {o : Obj} (h : w.heap[g]? = some o) (hb : Below w.heap.size w w') : w'.heap[g]? = some o := (hb.block g (row_lt h)).trans h
theorem bel_to {B : Nat} {w w1 w2 : World} (h1 : Below B w w1) (h2 : Below w1.heap.size w1 w2) (hB : B ≤ w.heap.size) : Below B w w2 := h1.trans (h2.mono (Nat.le_trans hB h1.size))
theorem row1 {w : World} {g T : Nat} {v0 : Value} (h : w.heap[g]? = some (.cells #[v0] T)) : w.cell? ⟨g, 0, none⟩ = some v0 ∧ ∀ j, w.frozen? ⟨g, j, none⟩ = false := by
  refine ⟨?_, fun j => frozen_of_row _ _ _ _ _ h⟩ <;> rw [cell_of_row _ _ _ _ _ _ h] <;> rfl
set_option linter.unusedVariables false
theorem prow2 {w : World} {g T : Nat} {v0 v1 : Value} (h : w.heap[g]? = some (.cells #[v0, v1] T)) :
    w.cell? ⟨g, 0, none⟩ = some v0 ∧ w.cell? ⟨g, 1, none⟩ = some v1 ∧ ∀ j, w.frozen? ⟨g, j, none⟩ = false := by
  refine ⟨?_, ?_, fun j => frozen_of_row _ _ _ _ _ h⟩ <;> rw [cell_of_row _ _ _ _ _ _ h] <;> rfl
theorem two_rows {w w1 : World} {a b : Obj} (h : Below ((w.alloc a).alloc b).heap.size ((w.alloc a).alloc b) w1) : Below w.heap.size w w1 ∧ w1.heap[w.heap.size]? = some a ∧ w1.heap[w.heap.size + 1]? = some b := by
  refine ⟨bel_to (((Below.refl _ w).alloc (Nat.le_refl _) _).alloc (by simp) _) h (Nat.le_refl _), keep_row (keep_row (one_alloc w a) ((Below.refl _ _).alloc (Nat.le_refl _) _)) h, ?_⟩
  have := one_alloc (w.alloc a) b
  rw [World.size_alloc] at this
  exact keep_row this h
theorem lrow4 {w : World} {g T : Nat} {v0 v1 v2 v3 : Value} (h : w.heap[g]? = some (.cells #[v0, v1, v2, v3] T)) : w.cell? ⟨g, 0, none⟩ = some v0 ∧ w.cell? ⟨g, 1, none⟩ = some v1 ∧ w.cell? ⟨g, 2, none⟩ = some v2 ∧ w.cell? ⟨g, 3, none⟩ = some v3 ∧ ∀ j, w.frozen? ⟨g, j, none⟩ = false := by
  refine ⟨?_, ?_, ?_, ?_, fun j => frozen_of_row _ _ _ _ _ h⟩ <;> rw [cell_of_row _ _ _ _ _ _ h] <;> rfl
theorem cell_a1 {w : World} {a : Addr} {v : Value} (h : w.cell? a = some v) (o : Obj) : (w.alloc o).cell? a = some v := cell_on h ((Below.refl _ _).alloc (Nat.le_refl _) _)
theorem cell_a2 {w : World} {a : Addr} {v : Value} (h : w.cell? a = some v) (o o' : Obj) : ((w.alloc o).alloc o').cell? a = some v := cell_a1 (cell_a1 h o) o'
set_option linter.unusedVariables false
set_option linter.unusedSimpArgs false
theorem own_on {W W' : World} {base T k n : Nat} {v : Value} {xs : List Value} (h : W.ownsRow base T k v n xs) (hb : Below W.heap.size W W') : W'.ownsRow base T k v n xs := by
  obtain ⟨q1, q | ⟨gg, cap, cur, q2, q3, q4, q5⟩⟩ := h
  · exact ⟨q1, Or.inl q⟩
  · exact ⟨q1, Or.inr ⟨gg, cap, cur, q2, q3, keep_row q4 hb, q5⟩⟩
theorem own_block {W : World} {base T k n : Nat} {v : Value} {xs : List Value} (h : W.ownsRow base T k v n xs) : ∀ b, v.ownBlock = some b → base ≤ b := fun b hb => by
  obtain ⟨q1, ⟨q, _⟩ | ⟨gg, cap, cur, q2, q3, q4, q5⟩⟩ := h
  · rw [q] at hb; simp [Value.ownBlock] at hb
  · rw [q2] at hb; simp [Value.ownBlock] at hb; omega
theorem own_lower {w : World} {b b' e size n : Nat} {v : Value} {xs : List Value} (h : w.ownsRow b' e size v n xs) (hb : b ≤ b') : w.ownsRow b e size v n xs := by
  refine ⟨h.1, ?_⟩
  rcases h.2 with q | ⟨a1, a2, a3, a4, a5, a6⟩
  · exact Or.inl q
  · exact Or.inr ⟨a1, a2, a3, a4, by omega, a6⟩
theorem own_addr {w : World} {base n T : Nat} {v : Value} {xs : List Value} (h : w.ownsRow base T 1 v n xs) (hn : 0 < n) : ∃ g cap cur, v = .slice (some ⟨g, 0, none⟩) n cap ∧ base ≤ g ∧ w.heap[g]? = some (.cells cur T) ∧ ∀ j u, xs[j]? = some u → w.cell? ⟨g, j, none⟩ = some u := by
  rcases h.2 with ⟨_, e⟩ | ⟨g, cap, cur, rfl, hb, hg, _⟩
  · omega
  · refine ⟨g, cap, cur, rfl, hb, hg, fun j u hu => ?_⟩
    have := World.ownsRow.cells h (g := g) rfl j u hu
    rw [Lib.add_plain] at this
    simpa using this
set_option linter.unusedVariables false
theorem bytes_ext {a b : ByteArray} (h : a.data.toList = b.data.toList) : a = b := WideShapes.bytes_inj h
theorem dec_t {p : Prop} [Decidable p] (h : p) : decide p = true := by simpa using h
theorem dec_f {p : Prop} [Decidable p] (h : ¬ p) : decide p = false := by simpa using h
/-- a row of texts. -/
def SRow (w : World) (v : Value) (vs : List ByteArray) : Prop :=
  (vs = [] ∧ ∃ p c, v = .slice p 0 c) ∨ (∃ g o c, v = .slice (some ⟨g, o, none⟩) vs.length c ∧ ∀ j (h : j < vs.length), w.cell? ⟨g, o + j, none⟩ = some (.string vs[j]))
theorem SRow.on {w w' : World} {v : Value} {vs : List ByteArray} (h : SRow w v vs) (hb : Below w.heap.size w w') : SRow w' v vs := by
  rcases h with h | ⟨g, o, c, h1, h2⟩
  · exact Or.inl h
  · exact Or.inr ⟨g, o, c, h1, fun j hj => cell_on (h2 j hj) hb⟩
theorem SRow.onB {B : Nat} {w w' w0 : World} {v : Value} {vs : List ByteArray} (h : SRow w0 v vs) (hb0 : Below w0.heap.size w0 w') : SRow w' v vs := h.on hb0
theorem SRow.form {w : World} {v : Value} {vs : List ByteArray} (h : SRow w v vs) : ∃ p c, v = .slice p vs.length c := by
  rcases h with ⟨rfl, p, c, h⟩ | ⟨g, o, c, h1, _⟩
  · exact ⟨p, c, h⟩
  · exact ⟨_, _, h1⟩
theorem SRow.cell {w : World} {P : Option Addr} {n c : Nat} {vs : List ByteArray} (h : SRow w (.slice P n c) vs) (j : Nat) (hj : j < vs.length) : ∃ g o, P = some ⟨g, o, none⟩ ∧ w.cell? ⟨g, o + j, none⟩ = some (.string vs[j]) := by
  rcases h with ⟨he, _⟩ | ⟨g, o, c', h1, h2⟩
  · rw [he] at hj; simp at hj
  · injection h1 with h1 _ _
    exact ⟨g, o, h1, h2 j hj⟩
end Go.Proofs.YtfkcpilkhdbpoaaGreatDoor.V
-- import Derived.Test.YtfkcpilkhdbpoaaGreatDoorS5IApi1
namespace Go.Proofs.YtfkcpilkhdbpoaaGreatDoor.V
open Go.RowKit
set_option linter.unusedVariables false
set_option linter.unusedSimpArgs false
structure TH where
  (a b c d e f g h i : Int)
def thV (t : TH) : Value := .agg #[.int .i64 t.a, .int .i64 t.b, .int .i64 t.c, .int .i64 t.d, .int .i64 t.e, .int .i64 t.f, .int .i64 t.g, .int .i64 t.h, .int .i64 t.i]
def inB (n : Int) : Bool := decide (0 ≤ n) && decide (n ≤ 4096)
def okT (t : TH) : Bool := decide (1 ≤ t.a) && decide (0 ≤ t.c) && decide (t.c ≤ 1048576) && inB t.a && inB t.b && inB t.d && inB t.e && inB t.f && inB t.g && inB t.h && inB t.i
theorem ok_yes {t : TH} (h : okT t = true) : 1 ≤ t.a ∧ 0 ≤ t.c ∧ t.c ≤ 1048576 ∧ t.a ≤ 4096 ∧ (0 ≤ t.b ∧ t.b ≤ 4096) ∧ (0 ≤ t.d ∧ t.d ≤ 4096) ∧ (0 ≤ t.e ∧ t.e ≤ 4096) ∧ (0 ≤ t.f ∧ t.f ≤ 4096) ∧ (0 ≤ t.g ∧ t.g ≤ 4096) ∧ (0 ≤ t.h ∧ t.h ≤ 4096) ∧ (0 ≤ t.i ∧ t.i ≤ 4096) := by
  simp only [okT, inB, Bool.and_eq_true, decide_eq_true_eq] at h
  omega
set_option maxHeartbeats 4000000 in
set_option maxRecDepth 20000 in
theorem Check_any (t : TH) (w : World) : Calls Tryz.prog 4 #[thV t] w fun e w' => e = .returned (.int .i64 (if okT t = true then 0 else 1)) ∧ Below w.heap.size w w' := by
  obtain ⟨a, b, c, d, e, f, g, h, i⟩ := t
  obtain ⟨r, hr⟩ : ∃ r, (if okT ⟨a, b, c, d, e, f, g, h, i⟩ = true then (0 : Int) else 1) = r := ⟨_, rfl⟩
  rw [hr]
  have HR : Hid _ := hr
  clear hr
  unfold thV
  have ix0 : ∀ W : World, (Instr.index 39 (.agg #[.int .i64 a, .int .i64 b, .int .i64 d, .int .i64 e, .int .i64 f, .int .i64 g, .int .i64 h, .int .i64 i]) (.int .i64 0)).run Tryz.prog W = .ok (.int .i64 a) W := fun W => by kernel_rfl
  have ix1 : ∀ W : World, (Instr.index 39 (.agg #[.int .i64 a, .int .i64 b, .int .i64 d, .int .i64 e, .int .i64 f, .int .i64 g, .int .i64 h, .int .i64 i]) (.int .i64 1)).run Tryz.prog W = .ok (.int .i64 b) W := fun W => by kernel_rfl
  have ix2 : ∀ W : World, (Instr.index 39 (.agg #[.int .i64 a, .int .i64 b, .int .i64 d, .int .i64 e, .int .i64 f, .int .i64 g, .int .i64 h, .int .i64 i]) (.int .i64 2)).run Tryz.prog W = .ok (.int .i64 d) W := fun W => by kernel_rfl
  have ix3 : ∀ W : World, (Instr.index 39 (.agg #[.int .i64 a, .int .i64 b, .int .i64 d, .int .i64 e, .int .i64 f, .int .i64 g, .int .i64 h, .int .i64 i]) (.int .i64 3)).run Tryz.prog W = .ok (.int .i64 e) W := fun W => by kernel_rfl
  have ix4 : ∀ W : World, (Instr.index 39 (.agg #[.int .i64 a, .int .i64 b, .int .i64 d, .int .i64 e, .int .i64 f, .int .i64 g, .int .i64 h, .int .i64 i]) (.int .i64 4)).run Tryz.prog W = .ok (.int .i64 f) W := fun W => by kernel_rfl
  have ix5 : ∀ W : World, (Instr.index 39 (.agg #[.int .i64 a, .int .i64 b, .int .i64 d, .int .i64 e, .int .i64 f, .int .i64 g, .int .i64 h, .int .i64 i]) (.int .i64 5)).run Tryz.prog W = .ok (.int .i64 g) W := fun W => by kernel_rfl
  have ix6 : ∀ W : World, (Instr.index 39 (.agg #[.int .i64 a, .int .i64 b, .int .i64 d, .int .i64 e, .int .i64 f, .int .i64 g, .int .i64 h, .int .i64 i]) (.int .i64 6)).run Tryz.prog W = .ok (.int .i64 h) W := fun W => by kernel_rfl
  have ix7 : ∀ W : World, (Instr.index 39 (.agg #[.int .i64 a, .int .i64 b, .int .i64 d, .int .i64 e, .int .i64 f, .int .i64 g, .int .i64 h, .int .i64 i]) (.int .i64 7)).run Tryz.prog W = .ok (.int .i64 i) W := fun W => by kernel_rfl
  go_enter Tryz.func4, Tryz.ntmps4
  go_wp2
  all_goals (try go_rounds 9)
  all_goals (go_returns)
  all_goals (refine ⟨?_, by go_grown⟩)
  all_goals (rw [← HR.out]; clear HR; congr 2; split <;> simp_all [okT, inB] <;> omega)
end Go.Proofs.YtfkcpilkhdbpoaaGreatDoor.V
