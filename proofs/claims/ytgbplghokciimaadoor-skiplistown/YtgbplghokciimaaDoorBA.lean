import Derived.Test.YtgbplghokciimaaDoorProg
import Derived.WalkKit
import Derived.WalkSpells
import Derived.WalkLawsBesides
import Derived.Handy
import Derived.Laws.BytesArg
import Derived.Laws.IdiomStrings
import Derived.Lib.AppendStr
import Derived.Deep.QuietTactic
import Derived.BigQuiet
import Derived.RangeFuncOwn
import Derived.Laws.OwnMore
namespace Go.Proofs.YtgbplghokciimaaDoor
open Go.RowKit
set_option linter.unusedVariables false

theorem below_dn {B : Nat} {a w : World} (h : Below B a w) (n : Nat) : Below B a (w.drewN n) := h.trans ⟨rfl, rfl, rfl, Nat.le_refl _, fun _ _ => rfl⟩
theorem at_list (s : ByteArray) (k : Nat) (h : k < s.size) : s.data.toList[k]? = some s[k] := by
  rw [List.getElem?_eq_getElem (by simpa using h)]; rfl
theorem list_len (s : ByteArray) : s.data.toList.length = s.size := by show _ = s.data.size; simp
theorem drop_more (l : List UInt8) (i : Nat) (b : UInt8) (h : l[i]? = some b) : l.drop i = b :: l.drop (i + 1) := by
  obtain ⟨hi, e⟩ := List.getElem?_eq_some_iff.1 h
  rw [List.drop_eq_getElem_cons hi, e]
theorem drop_at (s : ByteArray) (k : Nat) (h : k < s.size) : s.data.toList.drop k = s[k] :: s.data.toList.drop (k + 1) := drop_more _ _ _ (at_list s k h)
theorem ext_any (s : ByteArray) (i j : Nat) : (s.extract i j).data.toList = (s.data.toList.drop i).take (j - i) := by
  rw [ByteArray.data_extract]
  simp [Array.toList_extract, List.extract_eq_take_drop]
theorem ext_size (s : ByteArray) (i j : Nat) (h : j ≤ s.size) : (s.extract i j).size = j - i := by
  rw [ByteArray.size_extract]; omega
theorem str_same {a b : ByteArray} (h : a.data.toList = b.data.toList) : (a.toList == b.toList) = true := by
  rw [ByteArray.toList_eq, ByteArray.toList_eq, h]; simp
theorem str_other {a b : ByteArray} (h : a.data.toList ≠ b.data.toList) : (a.toList == b.toList) = false := by
  rw [ByteArray.toList_eq, ByteArray.toList_eq]; simpa using h
theorem str_empty {s : ByteArray} (h : s.size = 0) : s.toList.isEmpty = true := by
  rw [ByteArray.toList_eq, List.isEmpty_iff]
  exact List.length_eq_zero_iff.1 (by rw [list_len]; exact h)
theorem str_full {s : ByteArray} (h : ¬ s.size = 0) : s.toList.isEmpty = false := by
  rw [ByteArray.toList_eq]
  cases hh : s.data.toList with
  | nil => exact absurd (by rw [← list_len, hh]; rfl) h
  | cons a t => rfl
theorem ret_int {k : IntKind} {a b : Int} (h : a = b) : Ending.returned (.int k a) = .returned (.int k b) := by rw [h]
theorem wrap_b (b : UInt8) : wrap64 (b.toNat : Int) = (b.toNat : Int) := by have := b.toNat_lt; unfold wrap64; omega
def strB (l : List UInt8) : ByteArray := ⟨l.toArray⟩
theorem strB_list (l : List UInt8) : (strB l).data.toList = l := by unfold strB; simp
theorem strB_size (l : List UInt8) : (strB l).size = l.length := by rw [← list_len, strB_list]
theorem strB_of (s : ByteArray) : strB s.data.toList = s := rfl
theorem row_lt {w : World} {b : Nat} {o : Obj} (h : w.heap[b]? = some o) : b < w.heap.size := by
  rcases Nat.lt_or_ge b w.heap.size with h' | h'
  · exact h'
  · rw [Array.getElem?_eq_none h'] at h; cases h
theorem own_keep {w w' : World} {base e size : Nat} {v : Value} {n : Nat} {xs : List Value} (h : w.ownsRow base e size v n xs) (hk : ∀ k, base ≤ k → k < w.heap.size → w'.heap[k]? = w.heap[k]?) : w'.ownsRow base e size v n xs := by
  refine ⟨h.1, ?_⟩
  rcases h.2 with h1 | ⟨g, cap, cur, hv, hb, hg, r⟩
  · exact Or.inl h1
  · exact Or.inr ⟨g, cap, cur, hv, hb, by rw [hk g hb (row_lt hg)]; exact hg, r⟩
theorem own_form {w : World} {base e size : Nat} {v : Value} {n : Nat} {xs : List Value} (h : w.ownsRow base e size v n xs) : ∃ p c, v = .slice p n c := by
  rcases h.2 with ⟨e, hn⟩ | ⟨gg, cap', cur, e, _⟩
  · exact ⟨none, 0, by rw [e, hn]⟩
  · exact ⟨_, _, e⟩
end Go.Proofs.YtgbplghokciimaaDoor
namespace Go.Proofs.YtgbplghokciimaaDoor
open Go.RowKit
set_option linter.unusedVariables false
structure Only (w w' : World) (g : Nat) : Prop where
  os : w'.os = w.os
  tape : w'.tape = w.tape
  output : w'.output = w.output
  size : w'.heap.size = w.heap.size
  other : ∀ k, k ≠ g → w'.heap[k]? = w.heap[k]?
theorem Only.refl (w : World) (g : Nat) : Only w w g := ⟨rfl, rfl, rfl, rfl, fun _ _ => rfl⟩
theorem Only.trans {w w1 w2 : World} {g : Nat} (h : Only w w1 g) (h' : Only w1 w2 g) : Only w w2 g :=
  ⟨h'.os.trans h.os, h'.tape.trans h.tape, h'.output.trans h.output, h'.size.trans h.size, fun k hk => (h'.other k hk).trans (h.other k hk)⟩
theorem Only.below {w w' : World} {g B : Nat} (h : Only w w' g) (hg : B ≤ g) : Below B w w' :=
  ⟨h.os, h.tape, h.output, by rw [h.size]; exact Nat.le_refl _, fun k hk => h.other k (by omega)⟩
theorem Only.set {w w' : World} {g : Nat} (h : Only w w' g) (i : Nat) (v : Value) : Only w (w'.setCell ⟨g, i, none⟩ v) g :=
  h.trans ⟨rfl, rfl, rfl, by simp, fun k hk => heap_setCell_other _ _ _ _ hk⟩
theorem one_alloc (w : World) (A : Obj) : (w.alloc A).heap[w.heap.size]? = some A := by
  show (w.heap.push A)[w.heap.size]? = some A
  rw [Array.getElem?_push, if_pos rfl]
theorem keep_row {w w' : World} {g : Nat} {o : Obj} (h : w.heap[g]? = some o) (hb : Below w.heap.size w w') : w'.heap[g]? = some o := (hb.block g (row_lt h)).trans h
theorem bel_to {B : Nat} {w w1 w2 : World} (h1 : Below B w w1) (h2 : Below w1.heap.size w1 w2) (hB : B ≤ w.heap.size) : Below B w w2 := h1.trans (h2.mono (Nat.le_trans hB h1.size))
theorem lt_of_cell {w : World} {a : Addr} {v : Value} (h : w.cell? a = some v) : a.block < w.heap.size := by
  obtain ⟨o, ho, _⟩ := cells_of_cell h; exact row_lt ho
theorem cell_on {w w' : World} {a : Addr} {v : Value} (h : w.cell? a = some v) (hb : Below w.heap.size w w') : w'.cell? a = some v :=
  (hb.cell (p := a) (lt_of_cell h)).trans h
theorem dec_t {p : Prop} [Decidable p] (h : p) : decide p = true := by simpa using h
theorem dec_f {p : Prop} [Decidable p] (h : ¬ p) : decide p = false := by simpa using h
end Go.Proofs.YtgbplghokciimaaDoor
namespace Go.Proofs.YtgbplghokciimaaDoor
open Go.RowKit
set_option linter.unusedVariables false
def hstep (h : Int) (c : UInt8) : Int := IntKind.u64.wrap (bits .xor .u64 h (IntKind.u64.wrap (c.toNat : Int)) * 1099511628211)
def hfold (h : Int) (l : List UInt8) : Int := l.foldl hstep h
theorem hfold_snoc (h : Int) (l : List UInt8) (k : Nat) (c : UInt8) (hk : l[k]? = some c) : hfold h (l.take (k + 1)) = hstep (hfold h (l.take k)) c := by
  obtain ⟨hl, e⟩ := List.getElem?_eq_some_iff.1 hk
  unfold hfold; rw [List.take_succ_eq_append_getElem hl, List.foldl_append, e]; rfl
def hseed (seed : Int) : Int := bits .xor .u64 14695981039346656037 (IntKind.u64.wrap seed)
def hmix (h : Int) : Int := IntKind.u64.wrap (bits .xor .u64 h (h / 4294967296) * 11400714819323198485)
def hfin (h : Int) : Int := wrap64 (bits .xor .u64 (hmix h) (hmix h / 536870912) / 2)
def hashT (seed : Int) (s : ByteArray) : Int := hfin (hfold (hseed seed) s.data.toList)
set_option maxHeartbeats 1000000 in
set_option maxRecDepth 100000 in
theorem Hash_any (seed : Int) (s : ByteArray) (hs : s.size ≤ 281474976710656) (w : World) : Calls Tryd.prog 28 #[.int .i64 seed, .string s] w fun e w' => e = .returned (.int .i64 (hashT seed s)) ∧ w' = w := by
  have HH : Hid (hashT seed s = hfin (hfold (hseed seed) s.data.toList)) := rfl
  go_enter Tryd.func28, Tryd.ntmps28
  go_wp2
  go_loopw [5, 12] (fun ch ci wr => wr = w ∧ ∃ k : Nat, k ≤ s.size ∧ ci = .int .i64 (k : Int) ∧ ch = .int .u64 (hfold (hseed seed) (s.data.toList.take k))) (fun _ ci _ => s.size - (intOf ci).toNat)
  case atStart => exact ⟨rfl, 0, by omega, rfl, rfl⟩
  case round =>
    obtain ⟨rfl, k, hk, rfl, rfl⟩ := hrel
    by_cases hlt : k < s.size
    · have HSN : Hid _ := hfold_snoc (hseed seed) s.data.toList k _ (at_list s k hlt)
      generalize hfold (hseed seed) (s.data.toList.take k) = h at *
      go_wp2
      go_roundw
      case rel =>
        refine ⟨trivial, k + 1, hlt, by simp, ?_⟩
        rw [HSN.out]; rfl
      case measure => simp [intOf]; omega
    · have he : k = s.size := by omega
      subst he
      rw [List.take_of_length_le (by rw [list_len]; exact Nat.le_refl _)]
      generalize hfold (hseed seed) s.data.toList = h at *
      go_wp2
      go_ret
      refine ⟨?_, rfl⟩
      rw [HH.out]; rfl
set_option maxHeartbeats 1000000 in
set_option maxRecDepth 100000 in
theorem rHash_any (seed : Int) (s : ByteArray) (hs : s.size ≤ 281474976710656) (w : World) : Calls Tryd.prog 84 #[.int .i64 seed, .string s] w fun e w' => e = .returned (.int .i64 (hashT seed s)) ∧ w' = w := by
  have HH : Hid (hashT seed s = hfin (hfold (hseed seed) s.data.toList)) := rfl
  go_enter Tryd.func84, Tryd.ntmps84
  go_wp2
  go_loopw [5, 6] (fun ch ci wr => wr = w ∧ ∃ k : Nat, k ≤ s.size ∧ ci = .int .i64 (k : Int) ∧ ch = .int .u64 (hfold (hseed seed) (s.data.toList.take k))) (fun _ ci _ => s.size - (intOf ci).toNat)
  case atStart => exact ⟨rfl, 0, by omega, rfl, rfl⟩
  case round =>
    obtain ⟨rfl, k, hk, rfl, rfl⟩ := hrel
    by_cases hlt : k < s.size
    · have HSN : Hid _ := hfold_snoc (hseed seed) s.data.toList k _ (at_list s k hlt)
      generalize hfold (hseed seed) (s.data.toList.take k) = h at *
      go_wp2
      go_roundw
      case rel =>
        refine ⟨trivial, k + 1, hlt, by simp, ?_⟩
        rw [HSN.out]; rfl
      case measure => simp [intOf]; omega
    · have he : k = s.size := by omega
      subst he
      rw [List.take_of_length_le (by rw [list_len]; exact Nat.le_refl _)]
      generalize hfold (hseed seed) s.data.toList = h at *
      go_wp2
      go_ret
      refine ⟨?_, rfl⟩
      rw [HH.out]; rfl
end Go.Proofs.YtgbplghokciimaaDoor
namespace Go.Proofs.YtgbplghokciimaaDoor
open Go.RowKit
set_option linter.unusedVariables false
/-- a row of numbers. -/
def IRow (w : World) (v : Value) (l : List Int) : Prop := ∃ base, w.ownsRow base 3 1 v l.length (l.map (Value.int .i64))
theorem IRow.on {w w' : World} {v : Value} {l : List Int} (h : IRow w v l) (hb : Below w.heap.size w w') : IRow w' v l := by
  obtain ⟨base, h⟩ := h
  exact ⟨base, own_keep h (fun q _ hq => hb.block q hq)⟩
theorem IRow.form {w : World} {v : Value} {l : List Int} (h : IRow w v l) : ∃ P c, v = .slice P l.length c := by
  obtain ⟨base, h⟩ := h; exact own_form h
theorem IRow.at {w : World} {P : Option Addr} {n c : Nat} {l : List Int} (h : IRow w (.slice P n c) l) {i : Nat} (hi : i < l.length) : ∃ g, P = some ⟨g, 0, none⟩ ∧ w.cell? ⟨g, i, none⟩ = some (.int .i64 l[i]) := by
  obtain ⟨base, h⟩ := h
  have h2 := h.2
  rcases h2 with ⟨e, h0⟩ | ⟨g, cap, cur, e, _⟩
  · omega
  · injection e with e1 e2 e3
    subst e1 e2 e3
    refine ⟨g, rfl, (World.ownsRow.cellAt h i (by omega)).trans ?_⟩
    rw [List.getElem?_map, List.getElem?_eq_getElem hi]; rfl
set_option maxHeartbeats 800000 in
set_option maxRecDepth 100000 in
theorem sameInts_any (a b : Value) (l m : List Int) (hl : l.length ≤ 1000000) (w : World) (ha : IRow w a l) (hb : IRow w b m) : Calls Tryd.prog 16 #[a, b] w fun e w' => e = .returned (.bool (decide (l = m))) ∧ Below w.heap.size w w' := by
  obtain ⟨Pa, ca, rfl⟩ := ha.form
  obtain ⟨Pb, cb, rfl⟩ := hb.form
  have HA : Hid (IRow w (.slice Pa l.length ca) l) := ha
  have HB : Hid (IRow w (.slice Pb m.length cb) m) := hb
  clear ha hb
  by_cases hlen : l.length = m.length
  · have hlen2 : ((l.length : Nat) : Int) = (m.length : Int) := by omega
    go_enter Tryd.func16, Tryd.ntmps16
    go_wp2
    go_loopw [5] (fun ci wr => Below w.heap.size w wr ∧ ∃ i : Nat, i ≤ l.length ∧ ci = .int .i64 (i : Int) ∧ ∀ j (h1 : j < l.length) (h2 : j < m.length), j < i → l[j] = m[j]) (fun ci _ => l.length - (intOf ci).toNat)
    case atStart => exact ⟨Below.refl _ _, 0, Nat.zero_le _, rfl, fun j _ _ h => by omega⟩
    case round =>
      obtain ⟨hb, i, hi, rfl, heq⟩ := hrel
      have HEQ : Hid _ := heq
      have HBW : Hid (Below w.heap.size w wr) := hb
      have hA := HA.out.on hb
      have hB := HB.out.on hb
      clear heq hb
      by_cases hlt : i < l.length
      · obtain ⟨ga, rfl, qa⟩ := hA.at hlt
        obtain ⟨gb, rfl, qb⟩ := hB.at (i := i) (by omega)
        have hi0 : (0 : Int) ≤ (i : Int) := by omega
        have hi1 : (i : Int) < (l.length : Int) := by omega
        have hi2 : (i : Int) < (m.length : Int) := by omega
        have hiw : IntKind.i64.wrap ((i : Int) + 1) = (i : Int) + 1 := by rw [IntKind.wrap_i64] <;> omega
        clear hA hB
        by_cases hx : l[i] = m[i]'(by omega)
        · have HN : Hid (∀ j (h1 : j < l.length) (h2 : j < m.length), j < i + 1 → l[j] = m[j]) := fun j h1 h2 h3 => by
            rcases Nat.lt_or_ge j i with q | q
            · exact HEQ.out j h1 h2 q
            · have : j = i := by omega
              subst this; exact hx
          rw [hx] at qa
          generalize m[i]'(by omega) = x at qa qb
          clear hx hlen hlen2
          go_wp2
          go_quiet (fail)
          go_wp2
          go_roundw
          case rel => exact ⟨below_dn HBW.out _, i + 1, hlt, by go_num, HN.out⟩
          case measure => simp [intOf]; omega
        · have HD : Hid (decide (l = m) = false) := decide_eq_false (fun e => hx (by subst e; rfl))
          generalize l[i] = x at qa hx
          generalize m[i]'(by omega) = y at qb hx
          clear hlen hlen2
          go_wp2
          go_quiet (fail)
          go_wp2
          go_returns
          exact ⟨by rw [HD.out]; rfl, below_dn HBW.out _⟩
      · have hi1 : ¬ (i : Int) < (l.length : Int) := by omega
        have HD : Hid (decide (l = m) = true) := decide_eq_true (List.ext_getElem hlen (fun j h1 h2 => HEQ.out j h1 h2 (by omega)))
        clear hA hB hlen hlen2
        go_wp2
        go_returns
        exact ⟨by rw [HD.out]; rfl, HBW.out⟩
  · have hlen2 : ¬ (l.length : Int) = (m.length : Int) := by omega
    have HD : Hid (decide (l = m) = false) := decide_eq_false (fun e => hlen (by rw [e]))
    go_enter Tryd.func16, Tryd.ntmps16
    go_wp2
    go_returns
    exact ⟨by rw [HD.out]; rfl, Below.refl _ _⟩
end Go.Proofs.YtgbplghokciimaaDoor
