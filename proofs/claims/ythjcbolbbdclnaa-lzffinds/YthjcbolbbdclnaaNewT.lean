import Derived.Test.YthjcbolbbdclnaaFind
import Derived.Test.YthjcbolbbdclnaaShelf
import Derived.Deep.OwnRows
namespace Go.Proofs.Ythjcbolbbdclnaa
open Go.RowKit Lz
set_option linter.unusedVariables false
theorem made_at (z : Value) (n j : Nat) (h : j < n) : (madeCells #[z] n)[j]? = some z := by
  have e := toList_madeCells_one z n
  rw [← Array.getElem?_toList, e, List.getElem?_replicate, if_pos h]
theorem bk_small (s : ByteArray) (k j : Nat) (hk : k ≤ 16) : bk s (32 - k) j < 2 ^ k := by
  unfold bk
  rw [Nat.div_lt_iff_lt_mul (Nat.pow_pos (by omega)), ← Nat.pow_add, show k + (32 - k) = 32 by omega]
  exact Nat.mod_lt _ (by omega)
theorem Tab.make {w : World} {b gh ga k W sh : Nat} {s : ByteArray} (hrow : w.heap[b]? = some (.cells #[.string s, .int .i64 (sh : Int), .slice (some ⟨gh, 0, none⟩) W W, .slice (some ⟨ga, 0, none⟩) s.size s.size] 50))
    (hg : w.heap[gh]? = some (.cells (madeCells #[.int .i32 0] W) 21)) (ha : w.heap[ga]? = some (.cells (madeCells #[.int .i32 0] s.size) 21)) (h1 : b ≠ gh) (h2 : b ≠ ga) (h3 : gh ≠ ga) (hk : k ≤ 16) (hW : 2 ^ k = W) (hsh : 32 - k = sh) : Tab w b gh ga sh W s 0 := by
  subst hW hsh
  refine ⟨hrow, ⟨_, hg, size_madeCells _ _, fun j hj => ?_⟩, ⟨_, ha, size_madeCells _ _, fun j hj => absurd hj (by omega)⟩, h1, h2, h3, fun j => bk_small s k j hk, ?_, by omega⟩
  · rw [made_at _ _ _ hj]; rfl
  · have := Nat.pow_le_pow_right (n := 2) (by omega) hk
    omega
theorem three_allocs (w : World) (A B C : Obj) : (((w.alloc A).alloc B).alloc C).drew.heap[w.heap.size]? = some A ∧ (((w.alloc A).alloc B).alloc C).drew.heap[w.heap.size + 1]? = some B ∧ (((w.alloc A).alloc B).alloc C).drew.heap[w.heap.size + 1 + 1]? = some C ∧
    Below w.heap.size w (((w.alloc A).alloc B).alloc C).drew ∧ (((w.alloc A).alloc B).alloc C).drew.heap.size = w.heap.size + 1 + 1 + 1 := by
  refine ⟨?_, ?_, ?_, Below.drew ((((Below.refl _ w).alloc (Nat.le_refl _) A).alloc (by simp) B).alloc (by simp; omega) C), ?_⟩
  · show (((w.heap.push A).push B).push C)[w.heap.size]? = some A
    simp [Array.getElem?_push]
    omega
  · show (((w.heap.push A).push B).push C)[w.heap.size + 1]? = some B
    rw [Array.getElem?_push, if_neg (by simp), Array.getElem?_push, if_pos (by simp)]
  · show (((w.heap.push A).push B).push C)[w.heap.size + 1 + 1]? = some C
    rw [Array.getElem?_push, if_pos (by simp)]
  · show (((w.heap.push A).push B).push C).size = _
    simp
theorem newTab1 (w : World) (s : ByteArray) (k W sh : Nat) (hk : k ≤ 16) (hW : 2 ^ k = W) (hsh : 32 - k = sh) :
    ∃ b gh ga sh' W', Ending.returned (.pointer (some ⟨w.heap.size + 1 + 1, 0, none⟩)) = .returned (.pointer (some ⟨b, 0, none⟩)) ∧ Tab (((w.alloc (.cells (madeCells #[.int .i32 0] W) 21)).alloc (.cells (madeCells #[.int .i32 0] s.size) 21)).alloc (.cells #[.string s, .int .i64 (sh : Int), .slice (some ⟨w.heap.size, 0, none⟩) W W, .slice (some ⟨w.heap.size + 1, 0, none⟩) s.size s.size] 50)).drew b gh ga sh' W' s 0 ∧
      Below w.heap.size w (((w.alloc (.cells (madeCells #[.int .i32 0] W) 21)).alloc (.cells (madeCells #[.int .i32 0] s.size) 21)).alloc (.cells #[.string s, .int .i64 (sh : Int), .slice (some ⟨w.heap.size, 0, none⟩) W W, .slice (some ⟨w.heap.size + 1, 0, none⟩) s.size s.size] 50)).drew ∧ b < (((w.alloc (.cells (madeCells #[.int .i32 0] W) 21)).alloc (.cells (madeCells #[.int .i32 0] s.size) 21)).alloc (.cells #[.string s, .int .i64 (sh : Int), .slice (some ⟨w.heap.size, 0, none⟩) W W, .slice (some ⟨w.heap.size + 1, 0, none⟩) s.size s.size] 50)).drew.heap.size ∧
      gh < (((w.alloc (.cells (madeCells #[.int .i32 0] W) 21)).alloc (.cells (madeCells #[.int .i32 0] s.size) 21)).alloc (.cells #[.string s, .int .i64 (sh : Int), .slice (some ⟨w.heap.size, 0, none⟩) W W, .slice (some ⟨w.heap.size + 1, 0, none⟩) s.size s.size] 50)).drew.heap.size ∧ ga < (((w.alloc (.cells (madeCells #[.int .i32 0] W) 21)).alloc (.cells (madeCells #[.int .i32 0] s.size) 21)).alloc (.cells #[.string s, .int .i64 (sh : Int), .slice (some ⟨w.heap.size, 0, none⟩) W W, .slice (some ⟨w.heap.size + 1, 0, none⟩) s.size s.size] 50)).drew.heap.size ∧ w.heap.size ≤ gh ∧ w.heap.size ≤ ga := by
  obtain ⟨x1, x2, x3, x4, x5⟩ := three_allocs w (.cells (madeCells #[.int .i32 0] W) 21) (.cells (madeCells #[.int .i32 0] s.size) 21) (.cells #[.string s, .int .i64 (sh : Int), .slice (some ⟨w.heap.size, 0, none⟩) W W, .slice (some ⟨w.heap.size + 1, 0, none⟩) s.size s.size] 50)
  exact ⟨w.heap.size + 1 + 1, w.heap.size, (w.heap.size + 1), sh, W, rfl, Tab.make (k := k) x3 x1 x2 (by omega) (by omega) (by omega) hk hW hsh, x4, by omega, by omega, by omega, by omega, by omega⟩
theorem newTab2 (w : World) (s : ByteArray) (k W sh : Nat) (hk : k ≤ 16) (hW : 2 ^ k = W) (hsh : 32 - k = sh) :
    ∃ b gh ga sh' W', Ending.returned (.pointer (some ⟨w.heap.size + 1 + 1, 0, none⟩)) = .returned (.pointer (some ⟨b, 0, none⟩)) ∧ Tab (((w.alloc (.cells (madeCells #[.int .i32 0] s.size) 21)).alloc (.cells (madeCells #[.int .i32 0] W) 21)).alloc (.cells #[.string s, .int .i64 (sh : Int), .slice (some ⟨w.heap.size + 1, 0, none⟩) W W, .slice (some ⟨w.heap.size, 0, none⟩) s.size s.size] 50)).drew b gh ga sh' W' s 0 ∧
      Below w.heap.size w (((w.alloc (.cells (madeCells #[.int .i32 0] s.size) 21)).alloc (.cells (madeCells #[.int .i32 0] W) 21)).alloc (.cells #[.string s, .int .i64 (sh : Int), .slice (some ⟨w.heap.size + 1, 0, none⟩) W W, .slice (some ⟨w.heap.size, 0, none⟩) s.size s.size] 50)).drew ∧ b < (((w.alloc (.cells (madeCells #[.int .i32 0] s.size) 21)).alloc (.cells (madeCells #[.int .i32 0] W) 21)).alloc (.cells #[.string s, .int .i64 (sh : Int), .slice (some ⟨w.heap.size + 1, 0, none⟩) W W, .slice (some ⟨w.heap.size, 0, none⟩) s.size s.size] 50)).drew.heap.size ∧
      gh < (((w.alloc (.cells (madeCells #[.int .i32 0] s.size) 21)).alloc (.cells (madeCells #[.int .i32 0] W) 21)).alloc (.cells #[.string s, .int .i64 (sh : Int), .slice (some ⟨w.heap.size + 1, 0, none⟩) W W, .slice (some ⟨w.heap.size, 0, none⟩) s.size s.size] 50)).drew.heap.size ∧ ga < (((w.alloc (.cells (madeCells #[.int .i32 0] s.size) 21)).alloc (.cells (madeCells #[.int .i32 0] W) 21)).alloc (.cells #[.string s, .int .i64 (sh : Int), .slice (some ⟨w.heap.size + 1, 0, none⟩) W W, .slice (some ⟨w.heap.size, 0, none⟩) s.size s.size] 50)).drew.heap.size ∧ w.heap.size ≤ gh ∧ w.heap.size ≤ ga := by
  obtain ⟨x1, x2, x3, x4, x5⟩ := three_allocs w (.cells (madeCells #[.int .i32 0] s.size) 21) (.cells (madeCells #[.int .i32 0] W) 21) (.cells #[.string s, .int .i64 (sh : Int), .slice (some ⟨w.heap.size + 1, 0, none⟩) W W, .slice (some ⟨w.heap.size, 0, none⟩) s.size s.size] 50)
  exact ⟨w.heap.size + 1 + 1, (w.heap.size + 1), w.heap.size, sh, W, rfl, Tab.make (k := k) x3 x2 x1 (by omega) (by omega) (by omega) hk hW hsh, x4, by omega, by omega, by omega, by omega, by omega⟩
theorem info21 : (Try.prog.info? 21).map (fun i => (i.zero, i.size, i.bytes)) = some (some (.int .i32 0), 1, 4) := by kernel_rfl
set_option maxHeartbeats 2000000 in
set_option maxRecDepth 20000 in
theorem newTable_any (w : World) (s : ByteArray) (hm : s.size ≤ 524288) :
    Calls Try.prog 15 #[.string s] w fun e w' => ∃ b gh ga sh W, e = .returned (.pointer (some ⟨b, 0, none⟩)) ∧ Tab w' b gh ga sh W s 0 ∧ Below w.heap.size w w' ∧ b < w'.heap.size ∧ gh < w'.heap.size ∧ ga < w'.heap.size ∧ w.heap.size ≤ gh ∧ w.heap.size ≤ ga := by
  have hbl := Try.bits_Len (s.size : Int)
  go_enter Try.func15, Try.ntmps15
  go_wp2_with fail
  refine (hbl _ (by omega) (by omega)).mono ?_
  rintro e w1 ⟨rfl, rfl⟩
  obtain ⟨n, hn⟩ : ∃ n : Nat, Lib.bitLen (s.size : Int).toNat = n := ⟨_, rfl⟩
  rw [hn]
  clear hbl hn
  obtain ⟨k, hk, hk16⟩ : ∃ k : Nat, k = min n 16 ∧ k ≤ 16 := ⟨_, rfl, by omega⟩
  have hmin : min (n : Int) 16 = (k : Int) := by omega
  obtain ⟨W, hWk⟩ : ∃ W, 2 ^ k = W := ⟨_, rfl⟩
  have hW : W ≤ 65536 := by
    have := Nat.pow_le_pow_right (n := 2) (by omega) hk16
    omega
  have hmk := run_make_row' (P := Try.prog) 48 21 (.int .i32 0) 4 Try.underlying48 info21 rfl .i64 .i64 s.size (by omega) (by omega)
  have hmk2 := run_make_row' (P := Try.prog) 48 21 (.int .i32 0) 4 Try.underlying48 info21 rfl .i64 .i64 W (by omega) (by omega)
  have p2 : (2 : Int) ^ k = (W : Int) := by rw [← hWk]; simp
  have p1 : IntKind.i64.wrap (W : Int) = (W : Int) := by rw [IntKind.wrap_i64]; omega
  obtain ⟨sh, hsh⟩ : ∃ sh, 32 - k = sh := ⟨_, rfl⟩
  have p3 : IntKind.i64.wrap (32 - (k : Int)) = (sh : Int) := by rw [IntKind.wrap_i64]; omega
  have p4 : (32 - (k : Int)) = (sh : Int) := by omega
  have HWk : Hid (2 ^ k = W) := hWk
  have HSh : Hid (32 - k = sh) := hsh
  clear hk hWk hsh
  go_wp2
  go_region
  all_goals
    go_wp2
    go_ret
    first
      | exact newTab1 w1 s k W sh hk16 HWk.out HSh.out
      | exact newTab2 w1 s k W sh hk16 HWk.out HSh.out
end Go.Proofs.Ythjcbolbbdclnaa
