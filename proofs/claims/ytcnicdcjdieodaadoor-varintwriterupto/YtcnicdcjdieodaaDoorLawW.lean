import Derived.Test.YtcnicdcjdieodaaDoorWrt2
import Derived.Deep.RegionHeld3
namespace Go.Proofs.YtcnicdcjdieodaaDoor
open Go.RowKit Vi
set_option linter.unusedVariables false

set_option maxHeartbeats 400000 in
theorem newWriter_bad (lim : Int) (hl : lim < 0 ∨ 1073741824 < lim) (w : World) :
    Calls Tryd.prog 19 #[.int .i64 lim] w fun e w' => e = .returned (.tuple #[.pointer none, .int .i64 1]) ∧ w' = w := by
  rcases hl with hl | hl
  · go_enter Tryd.func19, Tryd.ntmps19
    go_wp2
    go_ret2
    exact ⟨rfl, rfl⟩
  · have h0 : ¬ lim < 0 := by omega
    go_enter Tryd.func19, Tryd.ntmps19
    go_wp2
    go_ret2
    exact ⟨rfl, rfl⟩
theorem put_one_long (b lim : Nat) (l : List UInt8) (s : ByteArray) (hs : s.size ≤ 140737488351232) (w : World) (hW : Wr w b lim l) (hlim : lim ≤ 1073741824) (hl : l.length ≤ lim) (hfit : lim < l.length + s.size) :
    Calls Tryd.prog 21 #[.pointer (some ⟨b, 0, none⟩), .slice (some ⟨w.heap.size, 0, none⟩) 1 1] (w.alloc (.cells #[.string s] 9)) fun e w' => e = .returned (.int .i64 2) ∧ Wr w' b lim l ∧ PutF w w' b := by
  have hb := hW.lt
  refine (put_long b lim l (some ⟨w.heap.size, 0, none⟩) w.heap.size 0 1 1 (fun _ => s) _ (hW.on ((Below.refl _ _).alloc (Nat.le_refl _) _)) hlim (by omega) hl (fun _ => rfl) (fun w' hp => one_piece hb hp) (fun _ _ => hs) (by rw [cat_one, list_len]; exact hfit)).mono ?_
  rintro e w' ⟨rfl, h1, h2⟩
  exact ⟨rfl, h1, (PutF.alloc hb _).trans h2⟩
set_option maxHeartbeats 400000 in
set_option maxRecDepth 20000 in
theorem wlen_long (b lim : Nat) (l : List UInt8) (n : Int) (h0 : 0 ≤ n) (h1 : n ≤ 4611686018427387904) (w : World) (hW : Wr w b lim l) (hlim : lim ≤ 1073741824) (hl : l.length ≤ lim) (hfit : lim < l.length + (lenL n).length) :
    Calls Tryd.prog 20 #[.pointer (some ⟨b, 0, none⟩), .int .i64 n] w fun e w' => e = .returned (.int .i64 2) ∧ Wr w' b lim l ∧ PutF w w' b := by
  have HW : Hid (Wr w b lim l) := hW
  have HF : Hid (lim < l.length + (lenB n).size) := by show _ < _; rw [← list_len, lenB_list]; exact hfit
  have HZ : Hid ((lenB n).size ≤ 140737488351232) := by show _ ≤ _; rw [← list_len, lenB_list]; have := lenL_le n; omega
  have HB : Hid (b < w.heap.size) := hW.lt
  clear hW hfit
  go_enter Tryd.func20, Tryd.ntmps20
  go_wp2_with fail
  refine (putLen_ok n h0 h1 _).mono ?_
  rintro e w1 ⟨rfl, hb1⟩
  go_wp2_with fail
  refine (put_one_long b lim l (lenB n) HZ.out w1 (HW.out.on hb1) hlim hl HF.out).mono ?_
  rintro e w2 ⟨rfl, hw2, hp2⟩
  go_wp2
  go_ret
  exact ⟨rfl, hw2, (PutF.ofBelow hb1 HB.out).trans hp2⟩
set_option maxHeartbeats 400000 in
set_option maxRecDepth 20000 in
theorem wlen_bad (b lim : Nat) (l : List UInt8) (n : Int) (h : n < 0 ∨ 4611686018427387904 < n) (w : World) (hW : Wr w b lim l) :
    Calls Tryd.prog 20 #[.pointer (some ⟨b, 0, none⟩), .int .i64 n] w fun e w' => e = .returned (.int .i64 1) ∧ Wr w' b lim l ∧ PutF w w' b := by
  have HW : Hid (Wr w b lim l) := hW
  have HN : Hid _ := h
  clear hW h
  go_enter Tryd.func20, Tryd.ntmps20
  go_wp2_with fail
  refine (putLen_bad n HN.out _).mono ?_
  rintro e w1 ⟨rfl, rfl⟩
  go_wp2
  go_ret
  exact ⟨rfl, HW.out, PutF.refl _ _⟩

def strB (l : List UInt8) : ByteArray := ⟨l.toArray⟩
theorem strB_size (l : List UInt8) : (strB l).size = l.length := by rw [← list_len]; unfold strB; simp
theorem strB_list (l : List UInt8) : (strB l).data.toList = l := by unfold strB; simp
theorem strB_app (l : List UInt8) (s : ByteArray) : strB l ++ s = strB (l ++ s.data.toList) := by
  apply WideShapes.bytes_inj; rw [strB_list]; unfold strB; simp
theorem strB_self (l : List UInt8) : ((strB l).toList == (strB l).toList) = true := by simp
theorem strB_lenB (l : List UInt8) (n : Int) : strB l ++ lenB n = strB (l ++ lenL n) := by rw [strB_app, lenB_list]
theorem wtext_s (b lim : Nat) (l : List UInt8) (w : World) (hW : Wr w b lim l) :
    Calls Tryd.prog 23 #[.pointer (some ⟨b, 0, none⟩)] w fun e w' => e = .returned (.string (strB l)) ∧ w' = w := wtext_any b lim l w hW
/-- the pieces as they lie in memory. -/
structure Lies (w : World) (g off len : Nat) (B : Nat → Bool) (N : Nat → Int) (A : Nat → Option Addr) (M C : Nat → Nat) (G O : Nat → Nat) (S : Nat → Nat → ByteArray) : Prop where
  low : len ≠ 0 → g < w.heap.size
  b : ∀ i, i < len → w.cell? ⟨g, off + i * 3, none⟩ = some (.bool (B i))
  n : ∀ i, i < len → w.cell? ⟨g, off + i * 3 + 1, none⟩ = some (.int .i64 (N i))
  t : ∀ i, i < len → w.cell? ⟨g, off + i * 3 + 2, none⟩ = some (.slice (A i) (M i) (C i))
  a : ∀ i, i < len → M i ≠ 0 → A i = some ⟨G i, O i, none⟩ ∧ G i < w.heap.size
  s : ∀ i, i < len → ∀ j, j < M i → w.cell? ⟨G i, O i + j, none⟩ = some (.string (S i j))
  m : ∀ i, i < len → M i ≤ 1048576 ∧ (cat (S i) (M i)).length ≤ 1048576
theorem bcellW {W w1 : World} (hb : Below W.heap.size W w1) (b o : Nat) (h : b < W.heap.size) : w1.cell? ⟨b, o, none⟩ = W.cell? ⟨b, o, none⟩ := hb.cell (p := ⟨b, o, none⟩) h
/-- how it stands in a round. -/
structure Writing (w wr : World) (lim : Nat) (l : List UInt8) : Prop where
  wt : Wr wr w.heap.size lim l
  le : l.length ≤ lim
  bel : Below w.heap.size w wr
end Go.Proofs.YtcnicdcjdieodaaDoor
