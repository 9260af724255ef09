import Derived.Test.YtghgdekdbbogkaaILit
import Derived.Lib.LazyBuf
namespace Go.Proofs.Ytghgdekdbbogkaa
open Go.RowKit IM
set_option linter.unusedVariables false
theorem byte_cell (y : Int) : ((UInt8.ofNat (y % 256).toNat).toNat : Int) = y % 256 := by rw [ofNat_toNat _ (by omega)]; omega
theorem word_cells (x : Int) : bcells (leB 8 x) = [.int .u8 (x % 256), .int .u8 (x / 256 % 256), .int .u8 (x / 65536 % 256), .int .u8 (x / 16777216 % 256), .int .u8 (x / 4294967296 % 256), .int .u8 (x / 1099511627776 % 256), .int .u8 (x / 281474976710656 % 256), .int .u8 (x / 72057594037927936 % 256)] := by
  simp only [leB, bcells, List.map_cons, List.map_nil, byte_cell]
  rw [show x / 256 / 256 = x / 65536 by omega, show x / 65536 / 256 = x / 16777216 by omega, show x / 16777216 / 256 = x / 4294967296 by omega, show x / 4294967296 / 256 = x / 1099511627776 by omega, show x / 1099511627776 / 256 = x / 281474976710656 by omega, show x / 281474976710656 / 256 = x / 72057594037927936 by omega]
set_option maxHeartbeats 1000000 in
set_option maxRecDepth 100000 in
theorem wordOf_any (x : Int) (h0 : 0 ≤ x) (h1 : x < 18446744073709551616) (w : World) :
    Calls Try.prog 44 #[.int .u64 x] w fun e w' => e = .returned (.agg (bcells (leB 8 x)).toArray) ∧ Below w.heap.size w w' := by
  have HC : Hid _ := word_cells x
  go_enter Try.func44, Try.ntmps44
  go_wp2
  go_rounds 9
  go_wp2
  refine bodyPost_ret (v := .agg #[.int .u8 (x % 256), .int .u8 (x / 256 % 256), .int .u8 (x / 65536 % 256), .int .u8 (x / 16777216 % 256), .int .u8 (x / 4294967296 % 256), .int .u8 (x / 1099511627776 % 256), .int .u8 (x / 281474976710656 % 256), .int .u8 (x / 72057594037927936)]) (by simp [results, Try.results44, go_sem]) rfl ⟨?_, ((Below.refl _ w).alloc (Nat.le_refl _) _).alloc (by simp) _⟩
  rw [HC.out, show x / 72057594037927936 % 256 = x / 72057594037927936 by omega]
theorem or_step (x : Nat) (b : UInt8) (k : Nat) (KI : Int) (hK : KI = ((2 ^ k : Nat) : Int)) (hx : x < 2 ^ k) (hk : k ≤ 56) : bits .or .u64 (x : Int) (IntKind.u64.wrap (IntKind.u64.wrap (b.toNat : Int) * KI)) = ((x + b.toNat * 2 ^ k : Nat) : Int) := by
  have hb := b.toNat_lt
  have h56 : (2 : Nat) ^ k ≤ 2 ^ 56 := Nat.pow_le_pow_right (by omega) hk
  have e56 : (2 : Nat) ^ 56 = 72057594037927936 := by decide
  have hm : b.toNat * 2 ^ k ≤ 255 * 2 ^ k := Nat.mul_le_mul_right _ (by omega)
  have e1 : IntKind.u64.wrap (IntKind.u64.wrap (b.toNat : Int) * KI) = ((b.toNat * 2 ^ k : Nat) : Int) := by
    rw [IntKind.wrap_u64, IntKind.wrap_u64, hK]
    rw [show ((b.toNat : Int) % 18446744073709551616) = (b.toNat : Int) by omega, ← Int.natCast_mul]
    omega
  rw [e1, bits_or_u64_nat _ _ (by omega) (by omega)]
  have h2 := Nat.two_pow_add_eq_or_of_lt hx b.toNat
  rw [Nat.or_comm, Nat.mul_comm b.toNat, ← h2]
  omega
set_option maxHeartbeats 1000000 in
set_option maxRecDepth 100000 in
theorem number_of (b0 b1 b2 b3 b4 b5 b6 b7 : UInt8) (w : World) :
    Calls Try.prog 58 #[.agg #[.int .u8 (b0.toNat : Int), .int .u8 (b1.toNat : Int), .int .u8 (b2.toNat : Int), .int .u8 (b3.toNat : Int), .int .u8 (b4.toNat : Int), .int .u8 (b5.toNat : Int), .int .u8 (b6.toNat : Int), .int .u8 (b7.toNat : Int)]] w fun e w' => e = .returned (.int .u64 (leN [b0, b1, b2, b3, b4, b5, b6, b7] : Nat)) ∧ Below w.heap.size w w' := by
  have c0 := b0.toNat_lt; have c1 := b1.toNat_lt; have c2 := b2.toNat_lt; have c3 := b3.toNat_lt; have c4 := b4.toNat_lt; have c5 := b5.toNat_lt; have c6 := b6.toNat_lt; have c7 := b7.toNat_lt
  have hs : (bits .or .u64 (bits .or .u64 (bits .or .u64 (bits .or .u64 (bits .or .u64 (bits .or .u64 (bits .or .u64 (IntKind.u64.wrap (b0.toNat : Int)) (IntKind.u64.wrap (IntKind.u64.wrap (b1.toNat : Int) * 256))) (IntKind.u64.wrap (IntKind.u64.wrap (b2.toNat : Int) * 65536))) (IntKind.u64.wrap (IntKind.u64.wrap (b3.toNat : Int) * 16777216))) (IntKind.u64.wrap (IntKind.u64.wrap (b4.toNat : Int) * 4294967296))) (IntKind.u64.wrap (IntKind.u64.wrap (b5.toNat : Int) * 1099511627776))) (IntKind.u64.wrap (IntKind.u64.wrap (b6.toNat : Int) * 281474976710656))) (IntKind.u64.wrap (IntKind.u64.wrap (b7.toNat : Int) * 72057594037927936)) = (leN [b0, b1, b2, b3, b4, b5, b6, b7] : Nat)) := by
    have e0 : IntKind.u64.wrap (b0.toNat : Int) = (b0.toNat : Int) := by rw [IntKind.wrap_u64]; omega
    rw [e0, or_step _ b1 8 256 (by decide) (by omega) (by omega), or_step _ b2 16 65536 (by decide) (by omega) (by omega), or_step _ b3 24 16777216 (by decide) (by omega) (by omega), or_step _ b4 32 4294967296 (by decide) (by omega) (by omega), or_step _ b5 40 1099511627776 (by decide) (by omega) (by omega), or_step _ b6 48 281474976710656 (by decide) (by omega) (by omega), or_step _ b7 56 72057594037927936 (by decide) (by omega) (by omega)]
    have : b0.toNat + b1.toNat * 2 ^ 8 + b2.toNat * 2 ^ 16 + b3.toNat * 2 ^ 24 + b4.toNat * 2 ^ 32 + b5.toNat * 2 ^ 40 + b6.toNat * 2 ^ 48 + b7.toNat * 2 ^ 56 = leN [b0, b1, b2, b3, b4, b5, b6, b7] := by
      simp only [leN]; omega
    rw [this]
  have HS : Hid _ := hs
  clear hs
  clear c0 c1 c2 c3 c4 c5 c6 c7
  go_enter Try.func58, Try.ntmps58
  go_wp2
  go_ret
  exact ⟨congrArg (fun x => Ending.returned (.int .u64 x)) HS.out, (Below.refl _ w).alloc (Nat.le_refl _) _⟩
theorem eight (s : ByteArray) (a : Nat) (h : a + 8 ≤ s.size) : ∃ c0 c1 c2 c3 c4 c5 c6 c7 : UInt8, (s.data.toList.drop a).take 8 = [c0, c1, c2, c3, c4, c5, c6, c7] := by
  refine ⟨s[a], s[a + 1], s[a + 2], s[a + 3], s[a + 4], s[a + 5], s[a + 6], s[a + 7], ?_⟩
  rw [drop_at s a (by omega), drop_at s (a + 1) (by omega), drop_at s (a + 1 + 1) (by omega), drop_at s (a + 1 + 1 + 1) (by omega), drop_at s (a + 1 + 1 + 1 + 1) (by omega), drop_at s (a + 1 + 1 + 1 + 1 + 1) (by omega), drop_at s (a + 1 + 1 + 1 + 1 + 1 + 1) (by omega), drop_at s (a + 1 + 1 + 1 + 1 + 1 + 1 + 1) (by omega)]
  rfl
theorem ext_ext (p : ByteArray) (a : Nat) (h : a + 8 ≤ p.size) : ((p.extract a p.size).extract 0 8) = strB ((p.data.toList.drop a).take 8) := by
  rw [← strB_of ((p.extract a p.size).extract 0 8), ext_any, ext_any]
  congr 1
  rw [List.drop_zero, List.take_take]
  congr 1
  omega
theorem copy_word (w : World) (c0 c1 c2 c3 c4 c5 c6 c7 : UInt8) : (Builtin.copy_ #[50, 9] 3 #[.slice (some ⟨w.heap.size, 0, none⟩) 8 8, .string (strB [c0, c1, c2, c3, c4, c5, c6, c7])]).run Try.prog ((w.alloc (.cells #[.int .u8 0, .int .u8 0, .int .u8 0, .int .u8 0, .int .u8 0, .int .u8 0, .int .u8 0, .int .u8 0] 72)).drew) = .ok (goInt 8) ((w.alloc (.cells #[.int .u8 (c0.toNat : Int), .int .u8 (c1.toNat : Int), .int .u8 (c2.toNat : Int), .int .u8 (c3.toNat : Int), .int .u8 (c4.toNat : Int), .int .u8 (c5.toNat : Int), .int .u8 (c6.toNat : Int), .int .u8 (c7.toNat : Int)] 72)).drew) := by
  have h := Go.run_copy_string (P := Try.prog) ((w.alloc (.cells #[.int .u8 0, .int .u8 0, .int .u8 0, .int .u8 0, .int .u8 0, .int .u8 0, .int .u8 0, .int .u8 0] 72)).drew) 50 9 3 5 w.heap.size 0 8 8 (strB [c0, c1, c2, c3, c4, c5, c6, c7]) Try.underlying50 (by intro w; kernel_rfl) (by rw [strB_size]; simp) ?_ ?_
  · rw [strB_list, strB_size] at h
    rw [h]
    have e : ∀ (W : World) (q : Addr) (v : Value), W.drew.setCell q v = (W.setCell q v).drew := fun _ _ _ => rfl
    simp only [World.setCells, List.map_cons, List.map_nil, e]
    simp [go_sem]
  · intro j hj
    rw [strB_size] at hj
    simp at hj
    rw [World.cell?_drew, World.cell?_alloc_at _ _ _ _ (by simp)]
    simp
    omega
  · intro j hj
    rw [strB_size] at hj
    simp at hj
    simp
set_option maxHeartbeats 1000000 in
set_option maxRecDepth 100000 in
theorem readWord_any (p : ByteArray) (a : Nat) (h : a + 8 ≤ p.size) (w : World) (hp : p.size ≤ 9223372036854775807) :
    Calls Try.prog 46 #[.string p, .int .i64 a] w fun e w' => e = .returned (.int .u64 (leN ((p.data.toList.drop a).take 8) : Nat)) ∧ Below w.heap.size w w' := by
  have hx := ext_ext p a h
  have hs1 : (p.extract a p.size).size = p.size - a := ext_size p a p.size (Nat.le_refl _)
  obtain ⟨c0, c1, c2, c3, c4, c5, c6, c7, he⟩ := eight p a h
  rw [he] at hx ⊢
  have hcp := copy_word w c0 c1 c2 c3 c4 c5 c6 c7
  rw [← hx] at hcp
  clear he hx
  go_enter Try.func46, Try.ntmps46
  go_wp2
  go_region
  all_goals go_wp2_with fail
  all_goals refine (number_of c0 c1 c2 c3 c4 c5 c6 c7 _).mono ?_
  all_goals rintro e w1 ⟨rfl, hb1⟩
  all_goals go_wp2
  all_goals go_ret
  all_goals exact ⟨rfl, (((Below.refl _ w).alloc (Nat.le_refl _) _).drew).trans (hb1.mono (by simp))⟩
end Go.Proofs.Ytghgdekdbbogkaa
