import Derived.Test.YtgbplghokciimaaDoorMA
import Derived.Test.YtgbplghokciimaaDoorBA
import Derived.Test.YtgbplghokciimaaDoorShelf
namespace Go.Proofs.YtgbplghokciimaaDoor
open Go.RowKit
set_option linter.unusedVariables false
theorem clone_any (s : ByteArray) (hs : s.size ≤ 281474976710656) (w : World) : Calls Tryd.prog 25 #[.string s] w fun e w' => e = .returned (.string s) ∧ Below w.heap.size w w' := by
  have HC : Hid _ := Tryd.stringslite_Clone s w hs
  go_enter Tryd.func25, Tryd.ntmps25
  go_wp2_with fail
  refine (show Calls _ _ _ _ _ from HC.out).mono ?_
  rintro e w1 ⟨rfl, hb⟩
  have HB : Hid (Below w.heap.size w w1) := hb
  clear hb
  go_wp2
  go_returns
  exact ⟨rfl, HB.out⟩
/-- the library's table. -/
def Tab (w : World) : Prop := 0 < w.heap.size ∧ ∀ j, j < Lib.deBruijn64tab.length → w.cell? ⟨0, j, none⟩ = some (.int .u8 (Lib.deBruijn64tab.getD j 0))
theorem Tab.on {w w' : World} (h : Tab w) (hb : Below w.heap.size w w') : Tab w' := ⟨Nat.lt_of_lt_of_le h.1 hb.size, fun j hj => cell_on (h.2 j hj) hb⟩
theorem Tab.to {w w' : World} (h : Tab w) (hs : w.heap.size ≤ w'.heap.size) (e : w'.heap[0]? = w.heap[0]?) : Tab w' := ⟨Nat.lt_of_lt_of_le h.1 hs, fun j hj => (World.cell?_of_block (a := ⟨0, j, none⟩) e).trans (h.2 j hj)⟩
theorem tz_key (x a : Nat) (hx : x < 18446744073709551616) (hx0 : x ≠ 0) (hlow : x &&& (18446744073709551616 - x) = a) :
    IntKind.u64.wrap (bits BinOp.and IntKind.u64 (x : Int) (IntKind.u64.wrap (-(x : Int))) * 285870213051353865) / 288230376151711744 = ((a * 285870213051353865 % 18446744073709551616 / 288230376151711744 : Nat) : Int) := by
  have e1 : IntKind.u64.wrap (-(x : Int)) = ((18446744073709551616 - x : Nat) : Int) := by rw [IntKind.wrap_u64]; omega
  rw [e1, bits_and_u64_nat x _ hx (by omega), hlow, IntKind.wrap_u64]
  omega
set_option maxHeartbeats 1000000 in
theorem tz_core (x k idx : Nat) (w : World) (hx0 : ((x : Int) == 0) = false)
    (key : IntKind.u64.wrap (bits BinOp.and IntKind.u64 (x : Int) (IntKind.u64.wrap (-(x : Int))) * 285870213051353865) / 288230376151711744 = (idx : Int))
    (hi : idx < 64) (hk : k < 64) (hcell : w.cell? ⟨0, idx, none⟩ = some (.int .u8 k)) :
    Calls Tryd.prog 58 #[.int .u64 x] w fun e w' => e = .returned (.int .i64 k) ∧ w' = w := by
  go_enter Tryd.func58, Tryd.ntmps58
  go_wp2_with (simp only [key])
  go_ret
  exact ⟨rfl, rfl⟩
theorem tz_zero (w : World) : Calls Tryd.prog 58 #[.int .u64 0] w fun e w' => e = .returned (.int .i64 64) ∧ w' = w := by
  go_enter Tryd.func58, Tryd.ntmps58
  go_wp2
  go_ret
  exact ⟨rfl, rfl⟩
theorem tz_any (x : Nat) (hx : x < 18446744073709551616) (w : World) (hT : Tab w) : Calls Tryd.prog 58 #[.int .u64 x] w fun e w' => e = .returned (.int .i64 (Lib.ctz 64 x)) ∧ w' = w := by
  by_cases hx0 : x = 0
  · subst hx0
    exact tz_zero w
  · obtain ⟨hlow, hk⟩ := Lib.lowest_bit 64 x hx0 hx
    obtain ⟨hi, htab⟩ := Lib.deBruijn64_at _ hk
    have hcell := hT.2 _ hi
    rw [htab] at hcell
    exact tz_core x _ _ w (by simp; omega) (tz_key x _ hx hx0 hlow) hi hk hcell
theorem ctz_le (x : Nat) (hx : x < 18446744073709551616) : Lib.ctz 64 x ≤ 64 := by
  unfold Lib.ctz
  by_cases h : x = 0
  · rw [if_pos h]; exact Nat.le_refl _
  · rw [if_neg h]
    obtain ⟨m, _, hk⟩ := Lib.ctzFrom_spec 64 x (by omega) hx
    omega
theorem xor_bd (a b : Int) : 0 ≤ bits .xor .u64 a b ∧ bits .xor .u64 a b < 18446744073709551616 := by
  show 0 ≤ IntKind.u64.wrap _ ∧ IntKind.u64.wrap _ < _
  rw [IntKind.wrap_u64]
  omega
theorem hash_bd (seed : Int) (s : ByteArray) : 0 ≤ hashT seed s ∧ hashT seed s < 9223372036854775808 := by
  unfold hashT hfin
  have := xor_bd (hmix (hfold (hseed seed) s.data.toList)) (hmix (hfold (hseed seed) s.data.toList) / 536870912)
  unfold wrap64
  omega
def hsN (seed : Int) (s : ByteArray) : Nat := (hashT seed s).toNat
theorem hsN_is (seed : Int) (s : ByteArray) : hashT seed s = (hsN seed s : Int) := by
  have := hash_bd seed s
  unfold hsN; omega
theorem hsN_lt (seed : Int) (s : ByteArray) : hsN seed s < 9223372036854775808 := by
  have := hash_bd seed s
  unfold hsN; omega
/-- the height of a member's tower. -/
def hgM (seed : Int) (s : ByteArray) : Nat := hgt (hsN seed s)
theorem hgM_bd (seed : Int) (s : ByteArray) : 1 ≤ hgM seed s ∧ hgM seed s ≤ 24 := hgt_bd _
set_option maxHeartbeats 1000000 in
set_option maxRecDepth 100000 in
theorem height_any (h : Nat) (hh : h < 9223372036854775808) (w : World) (hT : Tab w) : Calls Tryd.prog 27 #[.int .i64 (h : Int)] w fun e w' => e = .returned (.int .i64 (hgt h : Int)) ∧ w' = w := by
  have HC : Hid _ := tz_any h (by omega) w hT
  have hl := ctz_le h (by omega)
  have HE : Hid (min (1 + Lib.ctz 64 h / 2) 24 = hgt h) := ctz64_hgt h
  have hcv : IntKind.u64.wrap (h : Int) = (h : Int) := by rw [IntKind.wrap_u64]; omega
  generalize Lib.ctz 64 h = z at *
  generalize hgt h = H at *
  have h0 : (0 : Int) ≤ (z : Int) := by omega
  go_enter Tryd.func27, Tryd.ntmps27
  by_cases hm : 1 + z / 2 < 24
  · have hmn : min ((1 : Int) + (z : Int) / 2) 24 = 1 + (z : Int) / 2 := by omega
    go_wp2_with fail
    refine (show Calls _ _ _ _ _ from HC.out).mono ?_
    rintro e w1 ⟨rfl, rfl⟩
    go_wp2
    all_goals
      go_returns
      refine ⟨ret_int ?_, rfl⟩
      have := HE.out
      omega
  · have hmn : min ((1 : Int) + (z : Int) / 2) 24 = 24 := by omega
    go_wp2_with fail
    refine (show Calls _ _ _ _ _ from HC.out).mono ?_
    rintro e w1 ⟨rfl, rfl⟩
    go_wp2
    all_goals
      go_returns
      refine ⟨ret_int ?_, rfl⟩
      have := HE.out
      omega
end Go.Proofs.YtgbplghokciimaaDoor
