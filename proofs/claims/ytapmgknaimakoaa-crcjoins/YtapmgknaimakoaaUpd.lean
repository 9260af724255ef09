import Derived.Test.YtapmgknaimakoaaTab
namespace Go.Proofs.Ytapmgknaimakoaa
open Go.RowKit CrcM

/-- the place in the table. -/
def ixOf (C : BitVec 64) (b : UInt8) : Nat := (C.toNat % 256) ^^^ b.toNat
theorem ixOf_lt (C : BitVec 64) (b : UInt8) : ixOf C b < 256 :=
  Nat.xor_lt_two_pow (n := 8) (Nat.mod_lt _ (by omega)) b.toNat_lt
theorem ixOf_eq (C : BitVec 64) (b : UInt8) : bits .xor .u8 (uv C % 256) (b.toNat : Int) = (ixOf C b : Int) := by
  have e : uv C % 256 = ((C.toNat % 256 : Nat) : Int) := by
    unfold uv; simp
  rw [e, u8_xor_nat _ _ (Nat.mod_lt _ (by omega)) b.toNat_lt]
  rfl
theorem uv_shr8 (C : BitVec 64) : uv C / (256 : Int) = uv (C >>> (8 : Nat)) := by
  have := uv_shr C 8
  simpa using this
theorem ixOf_step (C : BitVec 64) (b : UInt8) : (C >>> 8) ^^^ tb (ixOf C b) = Hn 8 (C ^^^ wide b) := by
  rw [Hn8 (C ^^^ wide b)]
  congr 1
  · rw [BitVec.ushiftRight_xor_distrib]
    have : wide b >>> 8 = 0#64 := by
      apply BitVec.eq_of_getLsbD_eq
      intro i hi
      rw [BitVec.getLsbD_ushiftRight, bit_wide, Nat.testBit_lt_two_pow (Nat.lt_of_lt_of_le b.toNat_lt (Nat.pow_le_pow_right (by omega) (by omega : 8 ≤ 8 + i)))]
      simp
    rw [this]; simp
  · unfold tb
    congr 1
    apply BitVec.eq_of_getLsbD_eq
    intro i hi
    have e : (255#64).getLsbD i = decide (i < 8) := by
      revert i; decide
    rw [BitVec.getLsbD_and, BitVec.getLsbD_xor, bit_wide, e, BitVec.getLsbD_ofNat]
    unfold ixOf
    rw [Nat.testBit_xor, show 256 = 2 ^ 8 from rfl, Nat.testBit_mod_two_pow]
    by_cases h8 : i < 8
    · simp [h8, hi, BitVec.getLsbD]
    · rw [Nat.testBit_lt_two_pow (Nat.lt_of_lt_of_le b.toNat_lt (Nat.pow_le_pow_right (by omega) (by omega : 8 ≤ i)))]
      simp [h8]

set_option maxHeartbeats 400000 in
set_option maxRecDepth 20000 in
theorem update_any (c : BitVec 64) (s : ByteArray) (hs : s.size ≤ maxLen) (w : World) :
    Calls Try.prog 11 #[.int .u64 (uv c), .string s] w fun e w' => e = .returned (.int .u64 (uv (upd c s.data.toList))) ∧ Below w.heap.size w w' := by
  unfold maxLen at hs
  have hz := zero37
  go_enter Try.func11, Try.ntmps11
  go_wp2_with (first
    | (go_at_call 20; refine (byteSums_any _).mono ?_; rintro e w1 ⟨rfl, hb1⟩)
    | (refine wpList_store_row rfl 37 _ _ rfl _ (arr full) rfl rfl 37 _ (heap_alloc_new _ _) (info37' _ full_length) (by rw [arr_size, arr_size, full_length, zero_length]) (arr_one _) ?_))
  have hrow : ((w1.alloc (.cells (arr zero256) 37)).setRow w1.heap.size (arr full)).heap[w1.heap.size]? = some (.cells (arr full) 37) :=
    setRow_heap _ _ _ _ _ _ (heap_alloc_new _ _)
  have hbel : Below w.heap.size w ((w1.alloc (.cells (arr zero256) 37)).setRow w1.heap.size (arr full)) :=
    (hb1.alloc hb1.size _).trans ⟨rfl, rfl, rfl, by simp, fun k hk => setRow_other _ _ _ _ (by have := hb1.size; omega)⟩
  generalize (w1.alloc (.cells (arr zero256) 37)).setRow w1.heap.size (arr full) = W at *
  have HR : Hid (W.heap[w1.heap.size]? = some (.cells (arr full) 37)) := hrow
  have HB : Hid (Below w.heap.size w W) := hbel
  clear hrow hbel hb1 hz
  go_loop [0, 10] (fun x i => ∃ k : Nat, k ≤ s.size ∧ i = .int .i64 k ∧ x = .int .u64 (uv (upd c (s.data.toList.take k)))) (fun _ i => s.size - (intOf i).toNat)
  case atStart => exact ⟨0, by omega, rfl, rfl⟩
  case round =>
    obtain ⟨k, hk, rfl, rfl⟩ := hrel
    by_cases hlt : k < s.size
    · have HU : Hid (upd c (s.data.toList.take (k + 1)) = Hn 8 (upd c (s.data.toList.take k) ^^^ wide s[k])) := upd_take c s k hlt
      generalize upd c (s.data.toList.take k) = C at *
      have hi := ixOf_eq C s[k]
      have hil := ixOf_lt C s[k]
      have hc : W.cell? ⟨w1.heap.size, ixOf C s[k], none⟩ = some (.int .u64 (uv (tb (ixOf C s[k])))) := by
        rw [cell_of_row _ _ _ _ _ _ HR.out, arr_get _ _ (by rw [full_length]; exact hil), full_get _ hil]
      have HS : Hid ((C >>> 8) ^^^ tb (ixOf C s[k]) = Hn 8 (C ^^^ wide s[k])) := ixOf_step C s[k]
      go_wp2
      go_round
      case rel => exact ⟨k + 1, by omega, by go_num, by rw [HU.out, ← HS.out, ← uv_xor, ← uv_shr8]⟩
      case measure => simp [intOf]; omega
    · go_wp2
      go_ret
      exact ⟨ret_int (by rw [take_all _ _ (by omega)]), HB.out⟩

set_option maxHeartbeats 400000 in
theorem sum_any (s : ByteArray) (hs : s.size ≤ maxLen) (w : World) :
    Calls Try.prog 10 #[.string s] w fun e w' => e = .returned (.int .u64 (uv (upd 0#64 s.data.toList))) ∧ Below w.heap.size w w' := by
  have h := update_any 0#64 s hs w
  rw [uv_zero] at h
  go_enter Try.func10, Try.ntmps10
  go_wp2_with (go_at_call 11; refine h.mono ?_; rintro e w' ⟨rfl, hb⟩)
  go_ret
  exact ⟨rfl, hb⟩
end Go.Proofs.Ytapmgknaimakoaa
