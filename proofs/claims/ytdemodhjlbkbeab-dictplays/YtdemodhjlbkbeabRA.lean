import Derived.Test.YtdemodhjlbkbeabProg
import Derived.WalkKit
import Derived.WalkSpells
import Derived.WalkLawsBesides
import Derived.Handy
import Derived.Laws.BytesArg
import Derived.Laws.IdiomStrings
import Derived.Lib.AppendStr
import Derived.Deep.QuietTactic
import Derived.BigQuiet
import Derived.RangeFuncOwn
import Derived.OwnWalk
import Derived.Deep.OwnRows
import Derived.Laws.AppendOwn
namespace Go.Proofs.Ytdemodhjlbkbeab
open Go.RowKit
set_option linter.unusedVariables false

theorem below_dn {B : Nat} {a w : World} (h : Below B a w) (n : Nat) : Below B a (w.drewN n) := h.trans ⟨rfl, rfl, rfl, Nat.le_refl _, fun _ _ => rfl⟩
theorem at_list (s : ByteArray) (k : Nat) (h : k < s.size) : s.data.toList[k]? = some s[k] := by
  rw [List.getElem?_eq_getElem (by simpa using h)]; rfl
theorem list_len (s : ByteArray) : s.data.toList.length = s.size := by show _ = s.data.size; simp
theorem drop_more (l : List UInt8) (i : Nat) (b : UInt8) (h : l[i]? = some b) : l.drop i = b :: l.drop (i + 1) := by
  obtain ⟨hi, e⟩ := List.getElem?_eq_some_iff.1 h
  rw [List.drop_eq_getElem_cons hi, e]
theorem drop_at (s : ByteArray) (k : Nat) (h : k < s.size) : s.data.toList.drop k = s[k] :: s.data.toList.drop (k + 1) := drop_more _ _ _ (at_list s k h)
theorem ext_any (s : ByteArray) (i j : Nat) : (s.extract i j).data.toList = (s.data.toList.drop i).take (j - i) := by
  rw [ByteArray.data_extract]
  simp [Array.toList_extract, List.extract_eq_take_drop]
theorem ext_size (s : ByteArray) (i j : Nat) (h : j ≤ s.size) : (s.extract i j).size = j - i := by
  rw [ByteArray.size_extract]; omega
theorem str_same {a b : ByteArray} (h : a.data.toList = b.data.toList) : (a.toList == b.toList) = true := by
  rw [ByteArray.toList_eq, ByteArray.toList_eq, h]; simp
theorem str_other {a b : ByteArray} (h : a.data.toList ≠ b.data.toList) : (a.toList == b.toList) = false := by
  rw [ByteArray.toList_eq, ByteArray.toList_eq]; simpa using h
theorem str_empty {s : ByteArray} (h : s.size = 0) : s.toList.isEmpty = true := by
  rw [ByteArray.toList_eq, List.isEmpty_iff]
  exact List.length_eq_zero_iff.1 (by rw [list_len]; exact h)
theorem str_full {s : ByteArray} (h : ¬ s.size = 0) : s.toList.isEmpty = false := by
  rw [ByteArray.toList_eq]
  cases hh : s.data.toList with
  | nil => exact absurd (by rw [← list_len, hh]; rfl) h
  | cons a t => rfl
theorem ret_int {k : IntKind} {a b : Int} (h : a = b) : Ending.returned (.int k a) = .returned (.int k b) := by rw [h]
theorem wrap_b (b : UInt8) : wrap64 (b.toNat : Int) = (b.toNat : Int) := by have := b.toNat_lt; unfold wrap64; omega
def strB (l : List UInt8) : ByteArray := ⟨l.toArray⟩
theorem strB_list (l : List UInt8) : (strB l).data.toList = l := by unfold strB; simp
theorem strB_size (l : List UInt8) : (strB l).size = l.length := by rw [← list_len, strB_list]
theorem strB_of (s : ByteArray) : strB s.data.toList = s := rfl
theorem row_lt {w : World} {b : Nat} {o : Obj} (h : w.heap[b]? = some o) : b < w.heap.size := by
  rcases Nat.lt_or_ge b w.heap.size with h' | h'
  · exact h'
  · rw [Array.getElem?_eq_none h'] at h; cases h
theorem own_keep {w w' : World} {base e size : Nat} {v : Value} {n : Nat} {xs : List Value} (h : w.ownsRow base e size v n xs) (hk : ∀ k, base ≤ k → k < w.heap.size → w'.heap[k]? = w.heap[k]?) : w'.ownsRow base e size v n xs := by
  refine ⟨h.1, ?_⟩
  rcases h.2 with h1 | ⟨g, cap, cur, hv, hb, hg, r⟩
  · exact Or.inl h1
  · exact Or.inr ⟨g, cap, cur, hv, hb, by rw [hk g hb (row_lt hg)]; exact hg, r⟩
theorem own_form {w : World} {base e size : Nat} {v : Value} {n : Nat} {xs : List Value} (h : w.ownsRow base e size v n xs) : ∃ p c, v = .slice p n c := by
  rcases h.2 with ⟨e, hn⟩ | ⟨gg, cap', cur, e, _⟩
  · exact ⟨none, 0, by rw [e, hn]⟩
  · exact ⟨_, _, e⟩
end Go.Proofs.Ytdemodhjlbkbeab
namespace Go.Proofs.Ytdemodhjlbkbeab
open Go.RowKit
set_option linter.unusedVariables false
structure Only (w w' : World) (g : Nat) : Prop where
  os : w'.os = w.os
  tape : w'.tape = w.tape
  output : w'.output = w.output
  size : w'.heap.size = w.heap.size
  other : ∀ k, k ≠ g → w'.heap[k]? = w.heap[k]?
theorem Only.refl (w : World) (g : Nat) : Only w w g := ⟨rfl, rfl, rfl, rfl, fun _ _ => rfl⟩
theorem Only.trans {w w1 w2 : World} {g : Nat} (h : Only w w1 g) (h' : Only w1 w2 g) : Only w w2 g :=
  ⟨h'.os.trans h.os, h'.tape.trans h.tape, h'.output.trans h.output, h'.size.trans h.size, fun k hk => (h'.other k hk).trans (h.other k hk)⟩
theorem Only.below {w w' : World} {g B : Nat} (h : Only w w' g) (hg : B ≤ g) : Below B w w' :=
  ⟨h.os, h.tape, h.output, by rw [h.size]; exact Nat.le_refl _, fun k hk => h.other k (by omega)⟩
theorem Only.set {w w' : World} {g : Nat} (h : Only w w' g) (i : Nat) (v : Value) : Only w (w'.setCell ⟨g, i, none⟩ v) g :=
  h.trans ⟨rfl, rfl, rfl, by simp, fun k hk => heap_setCell_other _ _ _ _ hk⟩
theorem one_alloc (w : World) (A : Obj) : (w.alloc A).heap[w.heap.size]? = some A := by
  show (w.heap.push A)[w.heap.size]? = some A
  rw [Array.getElem?_push, if_pos rfl]
theorem keep_row {w w' : World} {g : Nat} {o : Obj} (h : w.heap[g]? = some o) (hb : Below w.heap.size w w') : w'.heap[g]? = some o := (hb.block g (row_lt h)).trans h
theorem bel_to {B : Nat} {w w1 w2 : World} (h1 : Below B w w1) (h2 : Below w1.heap.size w1 w2) (hB : B ≤ w.heap.size) : Below B w w2 := h1.trans (h2.mono (Nat.le_trans hB h1.size))
theorem lt_of_cell {w : World} {a : Addr} {v : Value} (h : w.cell? a = some v) : a.block < w.heap.size := by
  obtain ⟨o, ho, _⟩ := cells_of_cell h; exact row_lt ho
theorem cell_on {w w' : World} {a : Addr} {v : Value} (h : w.cell? a = some v) (hb : Below w.heap.size w w') : w'.cell? a = some v :=
  (hb.cell (p := a) (lt_of_cell h)).trans h
theorem dec_t {p : Prop} [Decidable p] (h : p) : decide p = true := by simpa using h
theorem dec_f {p : Prop} [Decidable p] (h : ¬ p) : decide p = false := by simpa using h
end Go.Proofs.Ytdemodhjlbkbeab
namespace Go.Proofs.Ytdemodhjlbkbeab
open Go.RowKit
set_option linter.unusedVariables false
def hstep (h : Int) (c : UInt8) : Int := IntKind.u64.wrap (bits .xor .u64 h (IntKind.u64.wrap (c.toNat : Int)) * 1099511628211)
def hfold (h : Int) (l : List UInt8) : Int := l.foldl hstep h
theorem hfold_snoc (h : Int) (l : List UInt8) (k : Nat) (c : UInt8) (hk : l[k]? = some c) : hfold h (l.take (k + 1)) = hstep (hfold h (l.take k)) c := by
  obtain ⟨hl, e⟩ := List.getElem?_eq_some_iff.1 hk
  unfold hfold; rw [List.take_succ_eq_append_getElem hl, List.foldl_append, e]; rfl
def hseed (seed : Int) : Int := bits .xor .u64 14695981039346656037 (IntKind.u64.wrap seed)
def hmix (h : Int) : Int := IntKind.u64.wrap (bits .xor .u64 h (h / 4294967296) * 11400714819323198485)
def hfin (h : Int) : Int := wrap64 (bits .xor .u64 (hmix h) (hmix h / 536870912) / 2)
def hashT (seed : Int) (s : ByteArray) : Int := hfin (hfold (hseed seed) s.data.toList)
set_option maxHeartbeats 1000000 in
set_option maxRecDepth 100000 in
theorem Hash_any (seed : Int) (s : ByteArray) (hs : s.size ≤ 281474976710656) (w : World) : Calls Try.prog 28 #[.int .i64 seed, .string s] w fun e w' => e = .returned (.int .i64 (hashT seed s)) ∧ w' = w := by
  have HH : Hid (hashT seed s = hfin (hfold (hseed seed) s.data.toList)) := rfl
  go_enter Try.func28, Try.ntmps28
  go_wp2
  go_loopw [5, 12] (fun ch ci wr => wr = w ∧ ∃ k : Nat, k ≤ s.size ∧ ci = .int .i64 (k : Int) ∧ ch = .int .u64 (hfold (hseed seed) (s.data.toList.take k))) (fun _ ci _ => s.size - (intOf ci).toNat)
  case atStart => exact ⟨rfl, 0, by omega, rfl, rfl⟩
  case round =>
    obtain ⟨rfl, k, hk, rfl, rfl⟩ := hrel
    by_cases hlt : k < s.size
    · have HSN : Hid _ := hfold_snoc (hseed seed) s.data.toList k _ (at_list s k hlt)
      generalize hfold (hseed seed) (s.data.toList.take k) = h at *
      go_wp2
      go_roundw
      case rel =>
        refine ⟨trivial, k + 1, hlt, by simp, ?_⟩
        rw [HSN.out]; rfl
      case measure => simp [intOf]; omega
    · have he : k = s.size := by omega
      subst he
      rw [List.take_of_length_le (by rw [list_len]; exact Nat.le_refl _)]
      generalize hfold (hseed seed) s.data.toList = h at *
      go_wp2
      go_ret
      refine ⟨?_, rfl⟩
      rw [HH.out]; rfl
set_option maxHeartbeats 1000000 in
set_option maxRecDepth 100000 in
theorem rHash_any (seed : Int) (s : ByteArray) (hs : s.size ≤ 281474976710656) (w : World) : Calls Try.prog 64 #[.int .i64 seed, .string s] w fun e w' => e = .returned (.int .i64 (hashT seed s)) ∧ w' = w := by
  have HH : Hid (hashT seed s = hfin (hfold (hseed seed) s.data.toList)) := rfl
  go_enter Try.func64, Try.ntmps64
  go_wp2
  go_loopw [5, 6] (fun ch ci wr => wr = w ∧ ∃ k : Nat, k ≤ s.size ∧ ci = .int .i64 (k : Int) ∧ ch = .int .u64 (hfold (hseed seed) (s.data.toList.take k))) (fun _ ci _ => s.size - (intOf ci).toNat)
  case atStart => exact ⟨rfl, 0, by omega, rfl, rfl⟩
  case round =>
    obtain ⟨rfl, k, hk, rfl, rfl⟩ := hrel
    by_cases hlt : k < s.size
    · have HSN : Hid _ := hfold_snoc (hseed seed) s.data.toList k _ (at_list s k hlt)
      generalize hfold (hseed seed) (s.data.toList.take k) = h at *
      go_wp2
      go_roundw
      case rel =>
        refine ⟨trivial, k + 1, hlt, by simp, ?_⟩
        rw [HSN.out]; rfl
      case measure => simp [intOf]; omega
    · have he : k = s.size := by omega
      subst he
      rw [List.take_of_length_le (by rw [list_len]; exact Nat.le_refl _)]
      generalize hfold (hseed seed) s.data.toList = h at *
      go_wp2
      go_ret
      refine ⟨?_, rfl⟩
      rw [HH.out]; rfl
end Go.Proofs.Ytdemodhjlbkbeab
namespace Go.Proofs.Ytdemodhjlbkbeab
open Go.RowKit
set_option linter.unusedVariables false
theorem size_any (g o : Nat) (P : Option Addr) (n c : Nat) (w : World) (h : w.cell? ⟨g, o, none⟩ = some (.slice P n c)) : Calls Try.prog 39 #[.pointer (some ⟨g, o, none⟩)] w fun e w' => e = .returned (.int .i64 (n : Int)) ∧ w' = w := by
  go_enter Try.func39, Try.ntmps39
  go_wp2
  go_ret
  exact ⟨rfl, rfl⟩
theorem moves_no (g : Nat) (P : Option Addr) (c : Nat) (w : World) (h : w.cell? ⟨g, 3, none⟩ = some (.slice P 0 c)) : Calls Try.prog 32 #[.pointer (some ⟨g, 0, none⟩)] w fun e w' => e = .returned (.bool false) ∧ w' = w := by
  have HS : Hid _ := size_any g 3 P 0 c w h
  clear h
  go_enter Try.func32, Try.ntmps32
  go_wp2_with fail
  refine (show Calls _ _ _ _ _ from HS.out).mono ?_
  rintro e w1 ⟨rfl, rfl⟩
  go_wp2
  go_ret
  exact ⟨rfl, rfl⟩
theorem step_no (g : Nat) (P : Option Addr) (c : Nat) (w : World) (h : w.cell? ⟨g, 3, none⟩ = some (.slice P 0 c)) : Calls Try.prog 27 #[.pointer (some ⟨g, 0, none⟩)] w fun e w' => e = .returned (.tuple #[]) ∧ w' = w := by
  have HS : Hid _ := moves_no g P c w h
  clear h
  go_enter Try.func27, Try.ntmps27
  go_wp2_with fail
  refine (show Calls _ _ _ _ _ from HS.out).mono ?_
  rintro e w1 ⟨rfl, rfl⟩
  go_wp2
  go_returns
  exact ⟨rfl, rfl⟩
theorem place_nil (g o : Nat) (P : Option Addr) (c : Nat) (h : Int) (s : ByteArray) (w : World) (hc : w.cell? ⟨g, o, none⟩ = some (.slice P 0 c)) : Calls Try.prog 54 #[.pointer (some ⟨g, o, none⟩), .int .i64 h, .string s] w fun e w' => e = .returned (.tuple #[.int .i64 0, .int .i64 0, .bool false]) ∧ w' = w := by
  have HS : Hid _ := size_any g o P 0 c w hc
  clear hc
  go_enter Try.func54, Try.ntmps54
  go_wp2_with fail
  refine (show Calls _ _ _ _ _ from HS.out).mono ?_
  rintro e w1 ⟨rfl, rfl⟩
  go_wp2
  go_returns
  exact ⟨rfl, rfl⟩
theorem tfind_nil (g o : Nat) (P : Option Addr) (c : Nat) (h : Int) (s : ByteArray) (w : World) (hc : w.cell? ⟨g, o, none⟩ = some (.slice P 0 c)) : Calls Try.prog 50 #[.pointer (some ⟨g, o, none⟩), .int .i64 h, .string s] w fun e w' => e = .returned (.pointer none) ∧ w' = w := by
  have HS : Hid _ := place_nil g o P c h s w hc
  clear hc
  go_enter Try.func50, Try.ntmps50
  go_wp2_with fail
  refine (show Calls _ _ _ _ _ from HS.out).mono ?_
  rintro e w1 ⟨rfl, rfl⟩
  go_wp2
  go_ret
  exact ⟨rfl, rfl⟩
theorem find_nil (g : Nat) (P Q : Option Addr) (c d : Nat) (h : Int) (s : ByteArray) (w : World) (h1 : w.cell? ⟨g, 1, none⟩ = some (.slice P 0 c)) (h2 : w.cell? ⟨g, 3, none⟩ = some (.slice Q 0 d)) : Calls Try.prog 29 #[.pointer (some ⟨g, 0, none⟩), .int .i64 h, .string s] w fun e w' => e = .returned (.pointer none) ∧ w' = w := by
  have HS1 : Hid _ := tfind_nil g 1 P c h s w h1
  have HS2 : Hid _ := tfind_nil g 3 Q d h s w h2
  clear h1 h2
  go_enter Try.func29, Try.ntmps29
  go_wp2_with fail
  refine (show Calls _ _ _ _ _ from HS1.out).mono ?_
  rintro e w1 ⟨rfl, rfl⟩
  go_wp2_with fail
  refine (show Calls _ _ _ _ _ from HS2.out).mono ?_
  rintro e w1 ⟨rfl, rfl⟩
  go_wp2
  go_ret
  exact ⟨rfl, rfl⟩
theorem infoB : (Try.prog.info? 83).map (fun i => (i.zero, i.size, i.bytes)) = some (some (.slice none 0 0), 1, 24) := by kernel_rfl
set_option maxHeartbeats 1000000 in
set_option maxRecDepth 100000 in
theorem newTable_any (n : Nat) (hn : n ≤ 4398046511104) (w : World) : Calls Try.prog 51 #[.int .i64 (n : Int)] w fun e w' => e = .returned (.agg #[.slice (some ⟨w.heap.size + 1, 0, none⟩) n n, .int .i64 0]) ∧ w'.heap[w.heap.size + 1]? = some (.cells (madeCells #[.slice none 0 0] n) 83) ∧ Below w.heap.size w w' := by
  have hmk := run_make_row' (P := Try.prog) 52 83 (.slice none 0 0) 24 Try.underlying52 infoB rfl .i64 .i64 n (by omega) (by omega)
  go_enter Try.func51, Try.ntmps51
  go_wp2
  have hr1 := keep_row (one_alloc w (.cells #[.slice (some ⟨w.heap.size + 1, 0, none⟩) n n, .int .i64 0] 54)) ((Below.refl _ _).alloc (Nat.le_refl _) (.cells (madeCells #[.slice none 0 0] n) 83))
  have hr2 := one_alloc (w.alloc (.cells #[.slice (some ⟨w.heap.size + 1, 0, none⟩) n n, .int .i64 0] 54)) (.cells (madeCells #[.slice none 0 0] n) 83)
  rw [World.size_alloc] at hr2
  have c0 : ((w.alloc (.cells #[.slice (some ⟨w.heap.size + 1, 0, none⟩) n n, .int .i64 0] 54)).alloc (.cells (madeCells #[.slice none 0 0] n) 83)).cell? ⟨w.heap.size, 0, none⟩ = some (.slice (some ⟨w.heap.size + 1, 0, none⟩) n n) := by rw [cell_of_row _ _ _ _ _ _ hr1]; rfl
  have c1 : ((w.alloc (.cells #[.slice (some ⟨w.heap.size + 1, 0, none⟩) n n, .int .i64 0] 54)).alloc (.cells (madeCells #[.slice none 0 0] n) 83)).cell? ⟨w.heap.size, 1, none⟩ = some (.int .i64 0) := by rw [cell_of_row _ _ _ _ _ _ hr1]; rfl
  refine bodyPost_ret (v := .agg #[.slice (some ⟨w.heap.size + 1, 0, none⟩) n n, .int .i64 0]) (by simp [results, Try.results51, go_sem, c0, c1]) rfl ⟨rfl, hr2, ?_⟩
  exact ((Below.refl _ w).alloc (Nat.le_refl _) _).alloc (by simp) _
theorem newTable_4 (w : World) : Calls Try.prog 51 #[.int .i64 4] w fun e w' => e = .returned (.agg #[.slice (some ⟨w.heap.size + 1, 0, none⟩) 4 4, .int .i64 0]) ∧ w'.heap[w.heap.size + 1]? = some (.cells #[.slice none 0 0, .slice none 0 0, .slice none 0 0, .slice none 0 0] 83) ∧ Below w.heap.size w w' := by
  have h := newTable_any 4 (by decide) w
  rw [show madeCells #[.slice none 0 0] 4 = #[.slice none 0 0, .slice none 0 0, .slice none 0 0, .slice none 0 0] by kernel_rfl, show ((4 : Nat) : Int) = 4 from rfl] at h
  exact h
theorem row6 {w : World} {g T : Nat} {v0 v1 v2 v3 v4 v5 : Value} (h : w.heap[g]? = some (.cells #[v0, v1, v2, v3, v4, v5] T)) :
    w.cell? ⟨g, 0, none⟩ = some v0 ∧ w.cell? ⟨g, 1, none⟩ = some v1 ∧ w.cell? ⟨g, 2, none⟩ = some v2 ∧ w.cell? ⟨g, 3, none⟩ = some v3 ∧ w.cell? ⟨g, 4, none⟩ = some v4 ∧ w.cell? ⟨g, 5, none⟩ = some v5 ∧ ∀ j, w.frozen? ⟨g, j, none⟩ = false := by
  refine ⟨?_, ?_, ?_, ?_, ?_, ?_, fun j => frozen_of_row _ _ _ _ _ h⟩ <;> rw [cell_of_row _ _ _ _ _ _ h] <;> rfl
/-- a dict as it lies. -/
def dcells (P : Option Addr) (n c : Nat) (k : Int) : Array Value := #[.int .i64 0, .slice P n c, .int .i64 k, .slice none 0 0, .int .i64 0, .int .i64 0]
set_option maxHeartbeats 1000000 in
set_option maxRecDepth 100000 in
theorem makeRoom_0 (g : Nat) (w : World) (h : w.heap[g]? = some (.cells (dcells none 0 0 0) 56)) : Calls Try.prog 30 #[.pointer (some ⟨g, 0, none⟩)] w fun e w' => e = .returned (.tuple #[]) ∧ ∃ B, w.heap.size ≤ B ∧ w'.heap[g]? = some (.cells (dcells (some ⟨B, 0, none⟩) 4 4 0) 56) ∧ w'.heap[B]? = some (.cells #[.slice none 0 0, .slice none 0 0, .slice none 0 0, .slice none 0 0] 83) ∧ w.heap.size ≤ w'.heap.size ∧ Below g w w' := by
  have HR : Hid _ := h
  obtain ⟨c0, c1, c2, c3, c4, c5, cf⟩ := row6 h
  have HS : Hid _ := size_any g 1 none 0 0 w c1
  have HN : Hid _ := newTable_4 w
  clear h
  go_enter Try.func30, Try.ntmps30
  go_wp2_with fail
  refine (show Calls _ _ _ _ _ from HS.out).mono ?_
  rintro e w1 ⟨rfl, rfl⟩
  go_wp2_with fail
  refine (show Calls _ _ _ _ _ from HN.out).mono ?_
  rintro e w2 ⟨rfl, hB, hb⟩
  have HR2 : Hid _ := keep_row HR.out hb
  have HB : Hid _ := hB
  have HBL : Hid (Below _ _ w2) := hb
  clear c0 c1 c2 c3 c4 c5 cf hb hB
  obtain ⟨c0, c1, c2, c3, c4, c5, cf⟩ := row6 HR2.out
  go_wp2
  go_returns
  have hgl := row_lt HR.out
  refine ⟨rfl, w1.heap.size + 1, by omega, ?_, ?_, ?_, ?_⟩
  · rw [heap_setCell_same _ _ _ _ _ _ (heap_setCell_same _ _ _ _ _ _ HR2.out)]; rfl
  · rw [heap_setCell_other _ _ _ _ (show w1.heap.size + 1 ≠ g by omega), heap_setCell_other _ _ _ _ (show w1.heap.size + 1 ≠ g by omega)]; exact HB.out
  · rw [World.size_setCell, World.size_setCell]; exact HBL.out.size
  · exact ((HBL.out.mono (show g ≤ w1.heap.size by omega)).setCell (p := ⟨g, 1, none⟩) (Nat.le_refl _) _).setCell (p := ⟨g, 2, none⟩) (Nat.le_refl _) _
end Go.Proofs.Ytdemodhjlbkbeab
namespace Go.Proofs.Ytdemodhjlbkbeab
open Go.RowKit
set_option linter.unusedVariables false
/-- the key of works. -/
def kA : ByteArray := ⟨#[97]⟩
theorem nan_no (s : ByteArray) (w : World) : Calls Try.prog 75 #[.string s] w fun e w' => e = .returned (.bool false) ∧ w' = w := by
  have h : (s.toList == s.toList) = true := str_same rfl
  go_enter Try.func75, Try.ntmps75
  go_wp2
  go_returns
  exact ⟨rfl, rfl⟩
theorem cmp_a (w : World) : Calls Try.prog 67 #[.string ⟨#[97]⟩, .string ⟨#[97]⟩] w fun e w' => e = .returned (.int .i64 0) ∧ w' = w := by
  have HN : Hid (∀ w, Calls Try.prog 75 #[.string ⟨#[97]⟩] w fun e w' => e = .returned (.bool false) ∧ w' = w) := nan_no _
  go_enter Try.func67, Try.ntmps67
  go_wp2_with fail
  refine (show Calls _ _ _ _ _ from HN.out _).mono ?_
  rintro e w1 ⟨rfl, rfl⟩
  go_wp2_with fail
  refine (show Calls _ _ _ _ _ from HN.out _).mono ?_
  rintro e w1 ⟨rfl, rfl⟩
  go_wp2
  trace_state
  go_returns
  exact ⟨rfl, rfl⟩
theorem place1_a (v : Int) (w : World) : Calls Try.prog 66 #[.agg #[.string ⟨#[97]⟩, .int .i64 v], .string ⟨#[97]⟩] w fun e w' => e = .returned (.int .i64 0) ∧ Below w.heap.size w w' := by
  have HC : Hid _ := cmp_a
  have hr := one_alloc w (.cells #[.string ⟨#[97]⟩, .int .i64 v] 70)
  go_enter Try.func66, Try.ntmps66
  go_wp2_with fail
  refine (show Calls _ _ _ _ _ from HC.out _).mono ?_
  rintro e w1 ⟨rfl, rfl⟩
  go_wp2
  go_returns
  exact ⟨rfl, (Below.refl _ w).alloc (Nat.le_refl _) _⟩
end Go.Proofs.Ytdemodhjlbkbeab
namespace Go.Proofs.Ytdemodhjlbkbeab
open Go.RowKit
set_option linter.unusedVariables false
/-- the buckets, all but number 1 empty. -/
def bcells (b : Value) : Array Value := #[.slice none 0 0, b, .slice none 0 0, .slice none 0 0]
theorem row4 {w : World} {g T : Nat} {v0 v1 v2 v3 : Value} (h : w.heap[g]? = some (.cells #[v0, v1, v2, v3] T)) :
    w.cell? ⟨g, 0, none⟩ = some v0 ∧ w.cell? ⟨g, 1, none⟩ = some v1 ∧ w.cell? ⟨g, 2, none⟩ = some v2 ∧ w.cell? ⟨g, 3, none⟩ = some v3 ∧ ∀ j, w.frozen? ⟨g, j, none⟩ = false := by
  refine ⟨?_, ?_, ?_, ?_, fun j => frozen_of_row _ _ _ _ _ h⟩ <;> rw [cell_of_row _ _ _ _ _ _ h] <;> rfl
set_option maxHeartbeats 1000000 in
set_option maxRecDepth 100000 in
theorem bs_nil (s : ByteArray) (w : World) : Calls Try.prog 65 #[.slice none 0 0, .string s, .func (.func 66) #[] #[]] w fun e w' => e = .returned (.tuple #[.int .i64 0, .bool false]) ∧ w' = w := by
  go_enter Try.func65, Try.ntmps65
  go_wp2
  go_loopw [9, 10] (fun ci cj wr => wr = w ∧ ci = .int .i64 0 ∧ cj = .int .i64 0) (fun _ _ _ => 0)
  case atStart => exact ⟨rfl, rfl, rfl⟩
  case round =>
    obtain ⟨rfl, rfl, rfl⟩ := hrel
    go_wp2
    go_returns
    exact ⟨rfl, rfl⟩
set_option maxHeartbeats 1000000 in
set_option maxRecDepth 100000 in
theorem bs_one (v : Int) (E c : Nat) (w : World) (h0 : w.cell? ⟨E, 0, none⟩ = some (.string ⟨#[97]⟩)) (h1 : w.cell? ⟨E, 1, none⟩ = some (.int .i64 v)) : Calls Try.prog 65 #[.slice (some ⟨E, 0, none⟩) 1 c, .string ⟨#[97]⟩, .func (.func 66) #[] #[]] w fun e w' => e = .returned (.tuple #[.int .i64 0, .bool true]) ∧ Below w.heap.size w w' := by
  have HP : Hid _ := place1_a v
  have H0 : Hid _ := h0
  have H1 : Hid _ := h1
  clear h0 h1
  go_enter Try.func65, Try.ntmps65
  go_wp2
  go_loopw [9, 10] (fun ci cj wr => Below w.heap.size w wr ∧ ci = .int .i64 0 ∧ (cj = .int .i64 1 ∨ cj = .int .i64 0)) (fun _ cj _ => (intOf cj).toNat)
  case atStart => exact ⟨Below.refl _ _, rfl, Or.inl rfl⟩
  case round =>
    obtain ⟨hb, rfl, rfl | rfl⟩ := hrel
    · have HB : Hid (Below w.heap.size w wr) := hb
      have e0 := cell_on H0.out hb
      have e1 := cell_on H1.out hb
      clear hb
      go_wp2_with fail
      refine (show Calls _ _ _ _ _ from HP.out _).mono ?_
      rintro e w1 ⟨rfl, hb1⟩
      have HB1 : Hid (Below w.heap.size w w1) := bel_to HB.out hb1 (Nat.le_refl _)
      clear hb1 e0 e1
      go_wp2
      go_roundw
      case rel => exact ⟨HB1.out, rfl, Or.inr rfl⟩
      case measure => simp [intOf]
    · have HB : Hid (Below w.heap.size w wr) := hb
      have e0 := cell_on H0.out hb
      have e1 := cell_on H1.out hb
      clear hb
      go_wp2_with fail
      refine (show Calls _ _ _ _ _ from HP.out _).mono ?_
      rintro e w1 ⟨rfl, hb1⟩
      have HB1 : Hid (Below w.heap.size w w1) := bel_to HB.out hb1 (Nat.le_refl _)
      clear hb1 e0 e1
      go_wp2
      go_returns
      exact ⟨rfl, HB1.out⟩
set_option maxHeartbeats 1000000 in
set_option maxRecDepth 100000 in
theorem place_new (h : Int) (hh : bits .and .i64 h 3 = 1) (g B : Nat) (w : World) (hc : w.cell? ⟨g, 1, none⟩ = some (.slice (some ⟨B, 0, none⟩) 4 4)) (hB : w.heap[B]? = some (.cells (bcells (.slice none 0 0)) 83)) : Calls Try.prog 54 #[.pointer (some ⟨g, 1, none⟩), .int .i64 h, .string ⟨#[97]⟩] w fun e w' => e = .returned (.tuple #[.int .i64 1, .int .i64 0, .bool false]) ∧ w' = w := by
  have HS : Hid _ := size_any g 1 _ 4 4 w hc
  obtain ⟨b0, b1, b2, b3, bf⟩ := row4 hB
  go_enter Try.func54, Try.ntmps54
  go_wp2_with fail
  refine (show Calls _ _ _ _ _ from HS.out).mono ?_
  rintro e w1 ⟨rfl, rfl⟩
  go_wp2_with fail
  refine (show Calls _ _ _ _ _ from HS.out).mono ?_
  rintro e w1 ⟨rfl, rfl⟩
  go_wp2_with fail
  refine (show Calls _ _ _ _ _ from (bs_nil _ _)).mono ?_
  rintro e w1 ⟨rfl, rfl⟩
  go_wp2
  go_returns
  exact ⟨rfl, rfl⟩
set_option maxHeartbeats 1000000 in
set_option maxRecDepth 100000 in
theorem place_one (h : Int) (hh : bits .and .i64 h 3 = 1) (g B E c : Nat) (v : Int) (w : World) (hc : w.cell? ⟨g, 1, none⟩ = some (.slice (some ⟨B, 0, none⟩) 4 4)) (hB : w.heap[B]? = some (.cells (bcells (.slice (some ⟨E, 0, none⟩) 1 c)) 83)) (h0 : w.cell? ⟨E, 0, none⟩ = some (.string ⟨#[97]⟩)) (h1 : w.cell? ⟨E, 1, none⟩ = some (.int .i64 v)) : Calls Try.prog 54 #[.pointer (some ⟨g, 1, none⟩), .int .i64 h, .string ⟨#[97]⟩] w fun e w' => e = .returned (.tuple #[.int .i64 1, .int .i64 0, .bool true]) ∧ Below w.heap.size w w' := by
  have HS : Hid _ := size_any g 1 _ 4 4 w hc
  have HBS : Hid _ := bs_one v E c w h0 h1
  obtain ⟨b0, b1, b2, b3, bf⟩ := row4 hB
  clear h0 h1
  go_enter Try.func54, Try.ntmps54
  go_wp2_with fail
  refine (show Calls _ _ _ _ _ from HS.out).mono ?_
  rintro e w1 ⟨rfl, rfl⟩
  go_wp2_with fail
  refine (show Calls _ _ _ _ _ from HS.out).mono ?_
  rintro e w1 ⟨rfl, rfl⟩
  go_wp2_with fail
  refine (show Calls _ _ _ _ _ from HBS.out).mono ?_
  rintro e w2 ⟨rfl, hb2⟩
  have HB2 : Hid (Below _ _ w2) := hb2
  clear hb2 b0 b1 b2 b3 bf
  go_wp2
  go_returns
  exact ⟨rfl, HB2.out⟩
set_option maxHeartbeats 1000000 in
set_option maxRecDepth 100000 in
theorem tfind_one (h : Int) (hh : bits .and .i64 h 3 = 1) (g B E c : Nat) (v : Int) (w : World) (hc : w.cell? ⟨g, 1, none⟩ = some (.slice (some ⟨B, 0, none⟩) 4 4)) (hB : w.heap[B]? = some (.cells (bcells (.slice (some ⟨E, 0, none⟩) 1 c)) 83)) (h0 : w.cell? ⟨E, 0, none⟩ = some (.string ⟨#[97]⟩)) (h1 : w.cell? ⟨E, 1, none⟩ = some (.int .i64 v)) : Calls Try.prog 50 #[.pointer (some ⟨g, 1, none⟩), .int .i64 h, .string ⟨#[97]⟩] w fun e w' => e = .returned (.pointer (some ⟨E, 0, none⟩)) ∧ Below w.heap.size w w' := by
  have HP : Hid _ := place_one h hh g B E c v w hc hB h0 h1
  have HC : Hid _ := hc
  have HBB : Hid _ := hB
  clear hc hB h0 h1
  go_enter Try.func50, Try.ntmps50
  go_wp2_with fail
  refine (show Calls _ _ _ _ _ from HP.out).mono ?_
  rintro e w1 ⟨rfl, hb1⟩
  have HB1 : Hid (Below w.heap.size w w1) := hb1
  have hc := cell_on HC.out hb1
  obtain ⟨b0, b1, b2, b3, bf⟩ := row4 (keep_row HBB.out hb1)
  clear hb1
  go_wp2
  go_returns
  exact ⟨rfl, HB1.out⟩
set_option maxHeartbeats 1000000 in
set_option maxRecDepth 100000 in
theorem find_one (h : Int) (hh : bits .and .i64 h 3 = 1) (g B E c : Nat) (v : Int) (w : World) (hc : w.cell? ⟨g, 1, none⟩ = some (.slice (some ⟨B, 0, none⟩) 4 4)) (hB : w.heap[B]? = some (.cells (bcells (.slice (some ⟨E, 0, none⟩) 1 c)) 83)) (h0 : w.cell? ⟨E, 0, none⟩ = some (.string ⟨#[97]⟩)) (h1 : w.cell? ⟨E, 1, none⟩ = some (.int .i64 v)) : Calls Try.prog 29 #[.pointer (some ⟨g, 0, none⟩), .int .i64 h, .string ⟨#[97]⟩] w fun e w' => e = .returned (.pointer (some ⟨E, 0, none⟩)) ∧ Below w.heap.size w w' := by
  have HP : Hid _ := tfind_one h hh g B E c v w hc hB h0 h1
  clear hc hB h0 h1
  go_enter Try.func29, Try.ntmps29
  go_wp2_with fail
  refine (show Calls _ _ _ _ _ from HP.out).mono ?_
  rintro e w1 ⟨rfl, hb1⟩
  have HB1 : Hid (Below w.heap.size w w1) := hb1
  clear hb1
  go_wp2
  go_returns
  exact ⟨rfl, HB1.out⟩
set_option maxHeartbeats 1000000 in
set_option maxRecDepth 100000 in
theorem tfind_new (h : Int) (hh : bits .and .i64 h 3 = 1) (g B : Nat) (w : World) (hc : w.cell? ⟨g, 1, none⟩ = some (.slice (some ⟨B, 0, none⟩) 4 4)) (hB : w.heap[B]? = some (.cells (bcells (.slice none 0 0)) 83)) : Calls Try.prog 50 #[.pointer (some ⟨g, 1, none⟩), .int .i64 h, .string ⟨#[97]⟩] w fun e w' => e = .returned (.pointer none) ∧ w' = w := by
  have HP : Hid _ := place_new h hh g B w hc hB
  clear hc hB
  go_enter Try.func50, Try.ntmps50
  go_wp2_with fail
  refine (show Calls _ _ _ _ _ from HP.out).mono ?_
  rintro e w1 ⟨rfl, rfl⟩
  go_wp2
  go_returns
  exact ⟨rfl, rfl⟩
end Go.Proofs.Ytdemodhjlbkbeab
namespace Go.Proofs.Ytdemodhjlbkbeab
open Go.RowKit
set_option linter.unusedVariables false
/-- the order of texts as the model has it. -/
def lessB (a b : ByteArray) : Bool := Op.bytesLess a.toList b.toList
def cmpT (a b : ByteArray) : Int := if lessB a b then -1 else if a.toList == b.toList then 0 else 1
set_option maxHeartbeats 1000000 in
theorem cmp_any (a b : ByteArray) (w : World) : Calls Try.prog 67 #[.string a, .string b] w fun e w' => e = .returned (.int .i64 (cmpT a b)) ∧ w' = w := by
  have HN : Hid (∀ (s : ByteArray) w, Calls Try.prog 75 #[.string s] w fun e w' => e = .returned (.bool false) ∧ w' = w) := nan_no
  have HT : Hid (cmpT a b = if lessB a b then -1 else if a.toList == b.toList then 0 else 1) := rfl
  obtain ⟨p, hp⟩ : ∃ p, Op.bytesLess a.toList b.toList = p := ⟨_, rfl⟩
  obtain ⟨q, hq⟩ : ∃ q, (a.toList == b.toList) = q := ⟨_, rfl⟩
  have HP : Hid (lessB a b = p) := hp
  have HQ : Hid ((a.toList == b.toList) = q) := hq
  cases p <;> cases q
  all_goals
    go_enter Try.func67, Try.ntmps67
    go_wp2_with fail
    refine (show Calls _ _ _ _ _ from HN.out _ _).mono ?_
    rintro e w1 ⟨rfl, rfl⟩
    go_wp2_with fail
    refine (show Calls _ _ _ _ _ from HN.out _ _).mono ?_
    rintro e w1 ⟨rfl, rfl⟩
    go_wp2
    go_returns
    exact ⟨by rw [HT.out, HP.out, HQ.out]; rfl, rfl⟩
theorem place1_any (a b : ByteArray) (v : Int) (w : World) : Calls Try.prog 66 #[.agg #[.string a, .int .i64 v], .string b] w fun e w' => e = .returned (.int .i64 (cmpT a b)) ∧ Below w.heap.size w w' := by
  have HC : Hid _ := cmp_any a b
  have hr := one_alloc w (.cells #[.string a, .int .i64 v] 70)
  generalize cmpT a b = z at *
  go_enter Try.func66, Try.ntmps66
  go_wp2_with fail
  refine (show Calls _ _ _ _ _ from HC.out _).mono ?_
  rintro e w1 ⟨rfl, rfl⟩
  go_wp2
  go_returns
  exact ⟨rfl, (Below.refl _ w).alloc (Nat.le_refl _) _⟩
end Go.Proofs.Ytdemodhjlbkbeab
namespace Go.Proofs.Ytdemodhjlbkbeab
open Go.RowKit
set_option linter.unusedVariables false
theorem bl_irrefl : ∀ x : List UInt8, Op.bytesLess x x = false
  | [] => rfl
  | a :: x => by simp [Op.bytesLess, bl_irrefl x]
theorem bl_trans : ∀ x y z : List UInt8, Op.bytesLess x y = true → Op.bytesLess y z = true → Op.bytesLess x z = true
  | _, [], _, h, _ => by simp [Op.bytesLess] at h
  | _, _ :: _, [], _, h => by simp [Op.bytesLess] at h
  | [], _ :: _, _ :: _, _, _ => by simp [Op.bytesLess]
  | a :: x, b :: y, c :: z, h1, h2 => by
    simp only [Op.bytesLess, Bool.or_eq_true, decide_eq_true_eq, Bool.and_eq_true, beq_iff_eq] at h1 h2 ⊢
    rcases h1 with h1 | ⟨rfl, h1⟩ <;> rcases h2 with h2 | ⟨rfl, h2⟩
    · exact Or.inl (UInt8.lt_trans h1 h2)
    · exact Or.inl h1
    · exact Or.inl h2
    · exact Or.inr ⟨rfl, bl_trans x y z h1 h2⟩
theorem bl_tri : ∀ x y : List UInt8, Op.bytesLess x y = false → Op.bytesLess y x = false → x = y
  | [], [], _, _ => rfl
  | [], _ :: _, h, _ => by simp [Op.bytesLess] at h
  | _ :: _, [], _, h => by simp [Op.bytesLess] at h
  | a :: x, b :: y, h1, h2 => by
    simp only [Op.bytesLess, Bool.or_eq_false_iff, decide_eq_false_iff_not, Bool.and_eq_false_iff, beq_eq_false_iff_ne] at h1 h2
    have hab : a = b := UInt8.toNat_inj.1 (by have := h1.1; have := h2.1; rw [UInt8.lt_iff_toNat_lt] at *; omega)
    subst hab
    rw [bl_tri x y (by rcases h1.2 with h | h; exact absurd rfl h; exact h) (by rcases h2.2 with h | h; exact absurd rfl h; exact h)]
/-- an entry. -/
abbrev Ent := ByteArray × Int
def flat (es : List Ent) : List Value := es.flatMap fun e => [.string e.1, .int .i64 e.2]
theorem flat_len (es : List Ent) : (flat es).length = es.length * 2 := by
  induction es with
  | nil => rfl
  | cons e es ih => simp only [flat, List.flatMap_cons, List.length_append, List.length_cons, List.length_nil] at ih ⊢; omega
theorem flat_cons (e : Ent) (es : List Ent) : flat (e :: es) = .string e.1 :: .int .i64 e.2 :: flat es := rfl
theorem flat_app (a b : List Ent) : flat (a ++ b) = flat a ++ flat b := by unfold flat; rw [List.flatMap_append]
theorem flat_get (es : List Ent) (t : Nat) (h : t < es.length) : (flat es)[t * 2]? = some (.string es[t].1) ∧ (flat es)[t * 2 + 1]? = some (.int .i64 es[t].2) := by
  induction es generalizing t with
  | nil => simp at h
  | cons e es ih =>
    cases t with
    | zero => exact ⟨rfl, rfl⟩
    | succ t =>
      have := ih t (by simpa using h)
      rw [flat_cons, show (t + 1) * 2 = t * 2 + 1 + 1 by omega]
      simpa using this
/-- rising keys. -/
def Rising (es : List Ent) : Prop := es.Pairwise fun a b => lessB a.1 b.1 = true
theorem Rising.get {es : List Ent} (h : Rising es) {i j : Nat} (hi : i < es.length) (hj : j < es.length) (hij : i < j) : lessB es[i].1 es[j].1 = true := List.pairwise_iff_getElem.1 h i j hi hj hij
theorem less_trans {a b c : ByteArray} (h1 : lessB a b = true) (h2 : lessB b c = true) : lessB a c = true := bl_trans _ _ _ h1 h2
/-- how many keys are below. -/
def lb (es : List Ent) (k : ByteArray) : Nat := (es.takeWhile fun e => lessB e.1 k).length
theorem lb_eq : ∀ (es : List Ent) (k : ByteArray) (i : Nat), i ≤ es.length → (∀ t (h : t < es.length), t < i → lessB es[t].1 k = true) → (∀ t (h : t < es.length), i ≤ t → lessB es[t].1 k = false) → i = lb es k
  | [], k, i, hi, _, _ => by simp at hi; subst hi; rfl
  | e :: es, k, i, hi, h1, h2 => by
    cases i with
    | zero =>
      have := h2 0 (by simp) (Nat.le_refl _)
      simp only [List.getElem_cons_zero] at this
      unfold lb; rw [List.takeWhile_cons, this]; rfl
    | succ i =>
      have h0 := h1 0 (by simp) (by omega)
      simp only [List.getElem_cons_zero] at h0
      have ih := lb_eq es k i (by simpa using hi) (fun t h ht => by have := h1 (t + 1) (by simpa using h) (by omega); simpa using this) (fun t h ht => by have := h2 (t + 1) (by simpa using h) (by omega); simpa using this)
      unfold lb at ih ⊢
      rw [List.takeWhile_cons, h0]; simp [← ih]
end Go.Proofs.Ytdemodhjlbkbeab
namespace Go.Proofs.Ytdemodhjlbkbeab
open Go.RowKit
set_option linter.unusedVariables false
def hit (es : List Ent) (k : ByteArray) : Bool := match es[lb es k]? with
  | some e => e.1.toList == k.toList
  | none => false
theorem cmp_neg (a b : ByteArray) : (cmpT a b < 0) = (lessB a b = true) := by
  unfold cmpT; split
  · simp_all
  · split <;> simp_all
theorem cmp_zero (a b : ByteArray) (h : lessB a b = false) : (cmpT a b == 0) = (a.toList == b.toList) := by
  unfold cmpT; rw [h]; simp only [Bool.false_eq_true, if_false]
  split
  · simp_all
  · simp_all
/-- a row of entries. -/
def Ents (W : World) (E : Nat) (es : List Ent) : Prop := ∀ t (h : t < es.length), W.cell? ⟨E, t * 2, none⟩ = some (.string es[t].1) ∧ W.cell? ⟨E, t * 2 + 1, none⟩ = some (.int .i64 es[t].2)
theorem Ents.on {W W' : World} {E : Nat} {es : List Ent} (h : Ents W E es) (hb : Below W.heap.size W W') : Ents W' E es := fun t ht => ⟨cell_on (h t ht).1 hb, cell_on (h t ht).2 hb⟩
set_option maxHeartbeats 2000000 in
set_option maxRecDepth 100000 in
theorem bs_any (es : List Ent) (hr : Rising es) (hl : es.length ≤ 4398046511104) (k : ByteArray) (E c : Nat) (w : World) (hE : Ents w E es) : Calls Try.prog 65 #[.slice (some ⟨E, 0, none⟩) es.length c, .string k, .func (.func 66) #[] #[]] w fun e w' => e = .returned (.tuple #[.int .i64 (lb es k : Nat), .bool (hit es k)]) ∧ Below w.heap.size w w' := by
  have HE : Hid (Ents w E es) := hE
  have HR : Hid (Rising es) := hr
  have HP : Hid _ := place1_any
  have HLB : Hid _ := lb_eq es k
  clear hE hr
  go_enter Try.func65, Try.ntmps65
  go_wp2
  go_loopw [9, 10] (fun ci cj wr => Below w.heap.size w wr ∧ ∃ i j : Nat, i ≤ j ∧ j ≤ es.length ∧ ci = .int .i64 (i : Int) ∧ cj = .int .i64 (j : Int) ∧ (∀ t (h : t < es.length), t < i → lessB es[t].1 k = true) ∧ (∀ t (h : t < es.length), j ≤ t → lessB es[t].1 k = false)) (fun ci cj _ => (intOf cj).toNat - (intOf ci).toNat)
  case atStart => exact ⟨Below.refl _ _, 0, es.length, by omega, Nat.le_refl _, rfl, rfl, fun t h h0 => by omega, fun t h h0 => by omega⟩
  case round =>
    obtain ⟨hb, i, j, hij, hj, rfl, rfl, hlo, hhi⟩ := hrel
    have HB : Hid (Below w.heap.size w wr) := hb
    have HLO : Hid _ := hlo
    have HHI : Hid _ := hhi
    clear hlo hhi
    by_cases hlt : i < j
    · obtain ⟨m, hm⟩ : ∃ m : Nat, (i + j) / 2 = m := ⟨_, rfl⟩
      have hml : m < es.length := by omega
      have hmi : i ≤ m := by omega
      have hmj : m < j := by omega
      obtain ⟨x0, x1⟩ := (HE.out.on hb) m hml
      have HPM : Hid _ := HP.out es[m].1 k es[m].2
      have HCN : Hid _ := cmp_neg es[m].1 k
      have hz0 : (0 : Int) ≤ (m : Int) := by omega
      have hz1 : (m : Int) < (es.length : Int) := by omega
      have HLS : Hid (lessB es[m].1 k = true → ∀ t (h : t < es.length), t < m + 1 → lessB es[t].1 k = true) := fun hl t h ht => by
        rcases Nat.lt_or_eq_of_le (Nat.le_of_lt_succ ht) with h1 | h1
        · exact less_trans (HR.out.get h hml h1) hl
        · subst h1; exact hl
      have HGE : Hid (lessB es[m].1 k = false → ∀ t (h : t < es.length), m ≤ t → lessB es[t].1 k = false) := fun hl t h ht => by
        rcases Nat.lt_or_eq_of_le ht with h1 | h1
        · rcases hb' : lessB es[t].1 k with _ | _
          · rfl
          · rw [less_trans (HR.out.get hml h h1) hb'] at hl; cases hl
        · subst h1; exact hl
      generalize es[m].1 = X at *
      generalize es[m].2 = V at *
      generalize cmpT X k = z at *
      clear hb
      go_wp2_with fail
      refine (show Calls _ _ _ _ _ from HPM.out _).mono ?_
      rintro e w1 ⟨rfl, hb1⟩
      have HB1 : Hid (Below w.heap.size w w1) := bel_to HB.out hb1 (Nat.le_refl _)
      clear hb1 x0 x1
      by_cases hz : z < 0
      · have HL : Hid _ := HLS.out (by rw [← HCN.out]; exact hz)
        go_wp2
        go_roundw
        case rel => exact ⟨HB1.out, m + 1, j, by omega, hj, by congr 1; omega, rfl, HL.out, HHI.out⟩
        case measure => simp [intOf]; omega
      · have HG : Hid _ := HGE.out (by
          rcases hq : lessB X k with _ | _
          · rfl
          · exact absurd (by rw [HCN.out]; exact hq) hz)
        go_wp2
        go_roundw
        case rel => exact ⟨HB1.out, i, m, hmi, by omega, rfl, by congr 1; omega, HLO.out, HG.out⟩
        case measure => simp [intOf]; omega
    · have hje : j = i := by omega
      subst hje
      have HLE : Hid (j = lb es k) := HLB.out j hj HLO.out HHI.out
      by_cases hjn : j < es.length
      · obtain ⟨x0, x1⟩ := (HE.out.on hb) j hjn
        have HPM : Hid _ := HP.out es[j].1 k es[j].2
        have HCZ : Hid _ := cmp_zero es[j].1 k (HHI.out j hjn (Nat.le_refl _))
        have HHT : Hid (hit es k = (es[j].1.toList == k.toList)) := by
          show _ = _; unfold hit; rw [← HLE.out, List.getElem?_eq_getElem hjn]
        have hz0 : (0 : Int) ≤ (j : Int) := by omega
        have hz1 : (j : Int) < (es.length : Int) := by omega
        generalize es[j].1 = X at *
        generalize es[j].2 = V at *
        generalize cmpT X k = z at *
        clear hb
        go_wp2_with fail
        refine (show Calls _ _ _ _ _ from HPM.out _).mono ?_
        rintro e w1 ⟨rfl, hb1⟩
        have HB1 : Hid (Below w.heap.size w w1) := bel_to HB.out hb1 (Nat.le_refl _)
        clear hb1 x0 x1
        go_wp2
        go_returns
        refine ⟨?_, HB1.out⟩
        rw [HHT.out, ← HLE.out, ← HCZ.out]; rfl
      · have HHT : Hid (hit es k = false) := by
          show _ = _; unfold hit; rw [← HLE.out, List.getElem?_eq_none (by omega)]
        clear hb
        go_wp2
        go_returns
        refine ⟨?_, HB.out⟩
        rw [HHT.out, ← HLE.out]; rfl
end Go.Proofs.Ytdemodhjlbkbeab
namespace Go.Proofs.Ytdemodhjlbkbeab
open Go.RowKit
set_option linter.unusedVariables false
/-- a bucket as it is read. -/
def Bkt (W : World) (bv : Value) (es : List Ent) : Prop := (bv = .slice none 0 0 ∧ es = []) ∨ ∃ E c, bv = .slice (some ⟨E, 0, none⟩) es.length c ∧ es.length ≤ c ∧ Ents W E es
theorem Bkt.on {W W' : World} {bv : Value} {es : List Ent} (h : Bkt W bv es) (hb : Below W.heap.size W W') : Bkt W' bv es := by
  rcases h with h | ⟨E, c, h1, h2, h3⟩
  · exact Or.inl h
  · exact Or.inr ⟨E, c, h1, h2, h3.on hb⟩
theorem bs_bkt (es : List Ent) (hr : Rising es) (hl : es.length ≤ 4398046511104) (k : ByteArray) (bv : Value) (w : World) (hB : Bkt w bv es) : Calls Try.prog 65 #[bv, .string k, .func (.func 66) #[] #[]] w fun e w' => e = .returned (.tuple #[.int .i64 (lb es k : Nat), .bool (hit es k)]) ∧ Below w.heap.size w w' := by
  rcases hB with ⟨rfl, rfl⟩ | ⟨E, c, rfl, _, h⟩
  · refine (bs_nil k w).mono ?_
    rintro e w' ⟨rfl, rfl⟩
    exact ⟨rfl, Below.refl _ _⟩
  · exact bs_any es hr hl k E c w h
set_option maxHeartbeats 1000000 in
set_option maxRecDepth 100000 in
theorem place_any (g o B n i : Nat) (hn : 0 < n) (hn4 : n ≤ 4398046511104) (hi : i < n) (h : Int) (hh : bits .and .i64 h ((n : Int) - 1) = (i : Int)) (k : ByteArray) (bv : Value) (es : List Ent) (hr : Rising es) (hl : es.length ≤ 4398046511104) (w : World) (hc : w.cell? ⟨g, o, none⟩ = some (.slice (some ⟨B, 0, none⟩) n n)) (hB : w.cell? ⟨B, i, none⟩ = some bv) (hk : Bkt w bv es) :
    Calls Try.prog 54 #[.pointer (some ⟨g, o, none⟩), .int .i64 h, .string k] w fun e w' => e = .returned (.tuple #[.int .i64 (i : Int), .int .i64 (lb es k : Nat), .bool (hit es k)]) ∧ Below w.heap.size w w' := by
  have HS : Hid _ := size_any g o _ n n w hc
  have HBS : Hid _ := bs_bkt es hr hl k bv w hk
  have hne : ((n : Int) == 0) = false := by simp; omega
  have hz0 : (0 : Int) ≤ (i : Int) := by omega
  have hz1 : (i : Int) < (n : Int) := by omega
  clear hk hr
  generalize lb es k = L at *
  generalize hit es k = T at *
  go_enter Try.func54, Try.ntmps54
  go_wp2_with fail
  refine (show Calls _ _ _ _ _ from HS.out).mono ?_
  rintro e w1 ⟨rfl, rfl⟩
  go_wp2_with fail
  refine (show Calls _ _ _ _ _ from HS.out).mono ?_
  rintro e w1 ⟨rfl, rfl⟩
  go_wp2_with fail
  refine (show Calls _ _ _ _ _ from HBS.out).mono ?_
  rintro e w2 ⟨rfl, hb2⟩
  have HB2 : Hid (Below _ _ w2) := hb2
  clear hb2 hc hB
  go_wp2
  go_returns
  exact ⟨rfl, HB2.out⟩
set_option maxHeartbeats 1000000 in
set_option maxRecDepth 100000 in
theorem tfind_hit (g o B n i E c : Nat) (hn : 0 < n) (hn4 : n ≤ 4398046511104) (hi : i < n) (h : Int) (hh : bits .and .i64 h ((n : Int) - 1) = (i : Int)) (k : ByteArray) (es : List Ent) (hr : Rising es) (hl : es.length ≤ 4398046511104) (w : World) (hc : w.cell? ⟨g, o, none⟩ = some (.slice (some ⟨B, 0, none⟩) n n)) (hB : w.cell? ⟨B, i, none⟩ = some (.slice (some ⟨E, 0, none⟩) es.length c)) (hlc : es.length ≤ c) (hk : Ents w E es) (hht : hit es k = true) (hlb : lb es k < es.length) :
    Calls Try.prog 50 #[.pointer (some ⟨g, o, none⟩), .int .i64 h, .string k] w fun e w' => e = .returned (.pointer (some ⟨E, lb es k * 2, none⟩)) ∧ Below w.heap.size w w' := by
  have HP := place_any g o B n i hn hn4 hi h hh k _ es hr hl w hc hB (Or.inr ⟨E, c, rfl, hlc, hk⟩)
  rw [hht] at HP
  have HPH : Hid _ := HP
  have HC : Hid _ := hc
  have HBB : Hid _ := hB
  have hz0 : (0 : Int) ≤ (i : Int) := by omega
  have hz1 : (i : Int) < (n : Int) := by omega
  have hz2 : (0 : Int) ≤ (lb es k : Int) := by omega
  have hz3 : (lb es k : Int) < (es.length : Int) := by omega
  clear HP hc hB hk hr hht
  generalize lb es k = L at *
  go_enter Try.func50, Try.ntmps50
  go_wp2_with fail
  refine (show Calls _ _ _ _ _ from HPH.out).mono ?_
  rintro e w1 ⟨rfl, hb1⟩
  have HB1 : Hid (Below w.heap.size w w1) := hb1
  have hc := cell_on HC.out hb1
  have hB := cell_on HBB.out hb1
  clear hb1
  go_wp2
  go_returns
  exact ⟨rfl, HB1.out⟩
set_option maxHeartbeats 1000000 in
set_option maxRecDepth 100000 in
theorem tfind_miss (g o B n i : Nat) (hn : 0 < n) (hn4 : n ≤ 4398046511104) (hi : i < n) (h : Int) (hh : bits .and .i64 h ((n : Int) - 1) = (i : Int)) (k : ByteArray) (bv : Value) (es : List Ent) (hr : Rising es) (hl : es.length ≤ 4398046511104) (w : World) (hc : w.cell? ⟨g, o, none⟩ = some (.slice (some ⟨B, 0, none⟩) n n)) (hB : w.cell? ⟨B, i, none⟩ = some bv) (hk : Bkt w bv es) (hht : hit es k = false) :
    Calls Try.prog 50 #[.pointer (some ⟨g, o, none⟩), .int .i64 h, .string k] w fun e w' => e = .returned (.pointer none) ∧ Below w.heap.size w w' := by
  have HP := place_any g o B n i hn hn4 hi h hh k _ es hr hl w hc hB hk
  rw [hht] at HP
  have HPH : Hid _ := HP
  clear HP hc hB hk hr hht
  generalize lb es k = L at *
  go_enter Try.func50, Try.ntmps50
  go_wp2_with fail
  refine (show Calls _ _ _ _ _ from HPH.out).mono ?_
  rintro e w1 ⟨rfl, hb1⟩
  have HB1 : Hid (Below w.heap.size w w1) := hb1
  clear hb1
  go_wp2
  go_returns
  exact ⟨rfl, HB1.out⟩
end Go.Proofs.Ytdemodhjlbkbeab
