import Derived.Test.YtapmgknaimakoaaUpd
import Derived.Handy
import Derived.Laws.BytesArg
namespace Go.Proofs.Ytapmgknaimakoaa
open Go.RowKit CrcM

theorem conv8 (w : World) (x0 x1 x2 x3 x4 x5 x6 x7 : Int) :
    Sem.run Try.prog (convert 24 9 (.slice (some ⟨w.heap.size, 0, none⟩) 8 8)) (w.alloc (.cells #[.int .u8 x0, .int .u8 x1, .int .u8 x2, .int .u8 x3, .int .u8 x4, .int .u8 x5, .int .u8 x6, .int .u8 x7] 40)) =
      .ok (.string (strOfNums [x0, x1, x2, x3, x4, x5, x6, x7])) (w.alloc (.cells #[.int .u8 x0, .int .u8 x1, .int .u8 x2, .int .u8 x3, .int .u8 x4, .int .u8 x5, .int .u8 x6, .int .u8 x7] 40)) := by
  refine run_convert_bytes_arg _ 24 5 Try.underlying24 Try.underlying5 w.heap.size 0 8 8 _ rfl ?_ 9 Try.underlying9
  intro i hi
  rw [World.cell?_alloc_at _ _ _ _ rfl]
  match i, hi with
  | 0, _ => rfl
  | 1, _ => rfl
  | 2, _ => rfl
  | 3, _ => rfl
  | 4, _ => rfl
  | 5, _ => rfl
  | 6, _ => rfl
  | 7, _ => rfl

def textB (c : BitVec 64) : ByteArray := ⟨(bytesOf c 8).toArray⟩
theorem textB_size (c : BitVec 64) : (textB c).size = 8 := by simp [textB, ByteArray.size, bytesOf_length]
theorem textB_list (c : BitVec 64) : (textB c).data.toList = bytesOf c 8 := by simp [textB]
theorem byte_num (c : BitVec 64) (k : Nat) : UInt8.ofNat (uv c / 2 ^ (8 * k) % 256).toNat = CrcM.byteOf c k := by
  unfold CrcM.byteOf uv
  apply UInt8.toNat_inj.1
  rw [UInt8.toNat_ofNat', UInt8.toNat_ofNat']
  rw [show ((c.toNat : Int) / 2 ^ (8 * k) % 256) = ((c.toNat / 2 ^ (8 * k) % 256 : Nat) : Int) by simp]
  rw [Int.toNat_natCast]
  simp
theorem text_nums (c : BitVec 64) : strOfNums [uv c % 256, uv c / 256 % 256, uv c / 65536 % 256, uv c / 16777216 % 256, uv c / 4294967296 % 256, uv c / 1099511627776 % 256, uv c / 281474976710656 % 256, uv c / 72057594037927936 % 256] = textB c := by
  have h0 := byte_num c 0
  have h1 := byte_num c 1
  have h2 := byte_num c 2
  have h3 := byte_num c 3
  have h4 := byte_num c 4
  have h5 := byte_num c 5
  have h6 := byte_num c 6
  have h7 := byte_num c 7
  simp at h0 h1 h2 h3 h4 h5 h6 h7
  unfold strOfNums textB bytesOf
  simp [h0, h1, h2, h3, h4, h5, h6, h7, List.range_succ]

set_option maxHeartbeats 1000000 in
theorem text_any (c : BitVec 64) (w : World) :
    Calls Try.prog 13 #[.int .u64 (uv c)] w fun e w' => e = .returned (.string (textB c)) ∧ Below w.heap.size w w' := by
  have h0 := uv_lo c
  have hcv := conv8 w
  go_enter Try.func13, Try.ntmps13
  go_wp2
  go_rounds 9
  go_ret
  exact ⟨by rw [text_nums]; rfl, (Below.refl _ _).alloc (Nat.le_refl _) _⟩
end Go.Proofs.Ytapmgknaimakoaa
