import Derived.Test.YthjcbolbbdclnaaBase
import Derived.Test.YthjcbolbbdclnaaPackMath
namespace Go.Proofs.Ythjcbolbbdclnaa
open Go.RowKit Lz
set_option linter.unusedVariables false
/-- the three bytes as a number. -/
def num3 (s : ByteArray) (i : Nat) : Nat := (s.data.toList.getD i 0).toNat * 65536 + (s.data.toList.getD (i + 1) 0).toNat * 256 + (s.data.toList.getD (i + 2) 0).toNat
/-- a place's bucket. -/
def bk (s : ByteArray) (sh : Nat) (i : Nat) : Nat := num3 s i * 2654435769 % 4294967296 / 2 ^ sh
def lastB (s : ByteArray) (sh x m : Nat) : Nat := lastP (fun j => bk s sh j == x) m
/-- a table's blocks, the places below m being noted. -/
structure Tab (w : World) (b gh ga sh W : Nat) (s : ByteArray) (m : Nat) : Prop where
  row : w.heap[b]? = some (.cells #[.string s, .int .i64 (sh : Int), .slice (some ⟨gh, 0, none⟩) W W, .slice (some ⟨ga, 0, none⟩) s.size s.size] 50)
  heads : ∃ hs : Array Value, w.heap[gh]? = some (.cells hs 21) ∧ hs.size = W ∧ ∀ j, j < W → hs[j]? = some (.int .i32 (lastB s sh j m : Int))
  aheads : ∃ bs : Array Value, w.heap[ga]? = some (.cells bs 21) ∧ bs.size = s.size ∧ ∀ j, j < m → bs[j]? = some (.int .i32 (lastB s sh (bk s sh j) j : Int))
  h1 : b ≠ gh
  h2 : b ≠ ga
  h3 : gh ≠ ga
  small : ∀ j, bk s sh j < W
  hW : W ≤ 65536
  hsh : sh ≤ 32
theorem Tab.on {w w' : World} {b gh ga sh W m : Nat} {s : ByteArray} (h : Tab w b gh ga sh W s m) (hb : Below w.heap.size w w') : Tab w' b gh ga sh W s m := by
  obtain ⟨hs, e1, e2, e3⟩ := h.heads
  obtain ⟨bs, f1, f2, f3⟩ := h.aheads
  exact ⟨by rw [hb.block _ (row_lt h.row)]; exact h.row, ⟨hs, by rw [hb.block _ (row_lt e1)]; exact e1, e2, e3⟩, ⟨bs, by rw [hb.block _ (row_lt f1)]; exact f1, f2, f3⟩, h.h1, h.h2, h.h3, h.small, h.hW, h.hsh⟩
theorem or_u32 (a b : Nat) (ha : a < 4294967296) (hb : b < 4294967296) : bits .or .u32 (a : Int) (b : Int) = ((a ||| b : Nat) : Int) :=
  (bits_nat .u32 32 (by decide) (fun n h0 h1 => by rw [IntKind.wrap_u32]; omega) a b ha hb).2
set_option maxRecDepth 100000 in
theorem or_16 (x y : Nat) (hx : x < 256) (hy : y < 256) : bits .or .u32 ((x : Int) * 65536) ((y : Int) * 256) = ((x * 65536 + y * 256 : Nat) : Int) := by
  rw [show (x : Int) * 65536 = ((x * 65536 : Nat) : Int) by omega, show (y : Int) * 256 = ((y * 256 : Nat) : Int) by omega, or_u32 _ _ (by omega) (by omega)]
  have := Nat.shiftLeft_add_eq_or_of_lt (i := 16) (b := y * 256) (by omega) x
  rw [Nat.shiftLeft_eq] at this
  rw [← this]
set_option maxRecDepth 100000 in
theorem or_8 (x y z : Nat) (hx : x < 256) (hy : y < 256) (hz : z < 256) : bits .or .u32 ((x * 65536 + y * 256 : Nat) : Int) (z : Int) = ((x * 65536 + y * 256 + z : Nat) : Int) := by
  rw [or_u32 _ _ (by omega) (by omega)]
  have := Nat.shiftLeft_add_eq_or_of_lt (i := 8) (b := z) (by omega) (x * 256 + y)
  rw [Nat.shiftLeft_eq, show (x * 256 + y) * 2 ^ 8 = x * 65536 + y * 256 by omega] at this
  rw [← this]
set_option maxHeartbeats 1000000 in
set_option maxRecDepth 20000 in
theorem bucket_any (w : World) (b gh ga sh W : Nat) (s : ByteArray) (m i : Nat) (hT : Tab w b gh ga sh W s m) (hi : i + 3 ≤ s.size) (hm : s.size ≤ 524288) :
    Calls Try.prog 22 #[.pointer (some ⟨b, 0, none⟩), .int .i64 i] w fun e w' => e = .returned (.int .u32 (bk s sh i : Int)) ∧ ∃ n, w' = w.drewN n := by
  have HT : Hid (Tab w b gh ga sh W s m) := hT
  have hc0 : w.cell? ⟨b, 0, none⟩ = some (.string s) := by rw [cell_of_row _ _ _ _ _ _ hT.row]; rfl
  have hc1 : w.cell? ⟨b, 1, none⟩ = some (.int .i64 (sh : Int)) := by rw [cell_of_row _ _ _ _ _ _ hT.row]; rfl
  have hshl := hT.hsh
  have hi0 : i < s.size := by omega
  obtain ⟨j1, hj1⟩ : ∃ j, i + 1 = j := ⟨_, rfl⟩
  obtain ⟨j2, hj2⟩ : ∃ j, i + 2 = j := ⟨_, rfl⟩
  have hi1 : j1 < s.size := by omega
  have hi2 : j2 < s.size := by omega
  have hx := s[i].toNat_lt
  have hy := s[j1].toNat_lt
  have hz := s[j2].toNat_lt
  obtain ⟨x, e0⟩ : ∃ x, s[i].toNat = x := ⟨_, rfl⟩
  obtain ⟨y, e1⟩ : ∃ x, s[j1].toNat = x := ⟨_, rfl⟩
  obtain ⟨z, e2⟩ : ∃ x, s[j2].toNat = x := ⟨_, rfl⟩
  rw [e0] at hx
  rw [e1] at hy
  rw [e2] at hz
  have hn : num3 s i = x * 65536 + y * 256 + z := by
    unfold num3
    rw [List.getD_eq_getElem?_getD, at_list s i hi0, List.getD_eq_getElem?_getD, hj1, at_list s j1 hi1, List.getD_eq_getElem?_getD, hj2, at_list s j2 hi2]
    simp only [Option.getD_some]
    rw [e0, e1, e2]
  have o1 := or_16 x y hx hy
  have o2 := or_8 x y z hx hy hz
  rw [← hn] at o2
  generalize hu : x * 65536 + y * 256 = u at o1 o2
  have HK : Hid (bk s sh i = num3 s i * 2654435769 % 4294967296 / 2 ^ sh) := rfl
  have hn3 : num3 s i < 16777216 := by omega
  generalize num3 s i = n3 at o2 HK hn3
  have wx1 : IntKind.u32.wrap (x : Int) = (x : Int) := by rw [IntKind.wrap_u32]; omega
  have wx2 : IntKind.u32.wrap ((x : Int) * 65536) = (x : Int) * 65536 := by rw [IntKind.wrap_u32]; omega
  have wy1 : IntKind.u32.wrap (y : Int) = (y : Int) := by rw [IntKind.wrap_u32]; omega
  have wy2 : IntKind.u32.wrap ((y : Int) * 256) = (y : Int) * 256 := by rw [IntKind.wrap_u32]; omega
  have wz1 : IntKind.u32.wrap (z : Int) = (z : Int) := by rw [IntKind.wrap_u32]; omega
  have wi1 : IntKind.i64.wrap ((i : Int) + 1) = (j1 : Int) := by rw [IntKind.wrap_i64]; omega
  have wi2 : IntKind.i64.wrap ((i : Int) + 2) = (j2 : Int) := by rw [IntKind.wrap_i64]; omega
  clear hT hn hu hx hy hz hi hm hj1 hj2
  go_enter Try.func22, Try.ntmps22
  go_wp2
  go_quiet (fail)
  go_wp2
  go_ret
  exact ⟨ret_int (by rw [HK.out]; simp), _, rfl⟩
end Go.Proofs.Ythjcbolbbdclnaa
