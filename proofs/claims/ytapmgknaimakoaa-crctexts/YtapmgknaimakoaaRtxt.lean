import Derived.Test.YtapmgknaimakoaaRead
import Derived.Laws.IdiomStrings
namespace Go.Proofs.Ytapmgknaimakoaa
open Go.RowKit CrcM

theorem shr_byte (c : BitVec 64) (k : Nat) : uv (c >>> (8 * k)) % 256 = ((CrcM.byteOf c k).toNat : Int) := by
  unfold CrcM.byteOf uv
  rw [BitVec.toNat_ushiftRight, Nat.shiftRight_eq_div_pow, UInt8.toNat_ofNat']
  simp
theorem shr_next (c : BitVec 64) (k : Nat) : uv (c >>> (8 * k)) / (256 : Int) = uv (c >>> (8 * (k + 1))) := by
  rw [uv_shr8, ← BitVec.shiftRight_add, Nat.mul_succ]

theorem info5 : (Try.prog.info? 5).map (fun i => (i.zero, i.size, i.bytes)) = some (some (.int .u8 0), 1, 1) := by kernel_rfl
theorem bytes_cells (c : BitVec 64) (k : Nat) : ((bytesOf c k).map fun b => Value.int .u8 (b.toNat : Int)) ++ [Value.int .u8 ((CrcM.byteOf c k).toNat : Int)] = (bytesOf c (k + 1)).map fun b => Value.int .u8 (b.toNat : Int) := by
  rw [bytesOf_succ]; simp
theorem own_back {wr : World} {base : Nat} {v : Value} {l : List UInt8} (h : wr.ownsRow base 5 1 v l.length (l.map fun b => Value.int .u8 (b.toNat : Int))) (hl : l ≠ []) :
    ∃ g cap, v = .slice (some ⟨g, 0, none⟩) l.length cap ∧ Sem.run Try.prog (convert 24 9 (.slice (some ⟨g, 0, none⟩) l.length cap)) wr = .ok (.string ⟨l.toArray⟩) wr := by
  obtain ⟨_, h1 | ⟨g, cap, cur, hv, _, hg, hn, _, hs, ht⟩⟩ := h
  · exact absurd (List.length_eq_zero_iff.1 h1.2) hl
  · refine ⟨g, cap, hv, ?_⟩
    refine run_convert_bytes_back wr 24 9 5 ⟨g, 0, none⟩ cap l Try.underlying24 Try.underlying5 Try.underlying9 ?_
    intro j hj
    have e : (⟨g, 0, none⟩ : Addr).add j = ⟨g, j, none⟩ := by unfold Addr.add; split <;> simp_all
    rw [e, cell_of_row _ _ _ _ _ _ hg]
    have h2 := congrArg (fun x => x[j]?) ht
    simp only [Nat.mul_one] at h2
    rw [List.getElem?_take_of_lt hj, List.getElem?_map, List.getElem?_eq_getElem hj] at h2
    simpa using h2

set_option maxHeartbeats 1000000 in
set_option maxRecDepth 100000 in
theorem refText_any (c : BitVec 64) (w : World) :
    Calls Try.prog 18 #[.int .u64 (uv c)] w fun e w' => e = .returned (.string (textB c)) ∧ Below w.heap.size w w' := by
  obtain ⟨i0, hi, hz0, hz1, hz2⟩ := info_parts info5
  go_enter Try.func18, Try.ntmps18
  go_wp2
  go_loopw [0, 3, 4] (fun x v i wr => ∃ k : Nat, k ≤ 8 ∧ i = .int .i64 k ∧ x = .int .u64 (uv (c >>> (8 * k))) ∧ wr.ownsRow w.heap.size 5 1 v k ((bytesOf c k).map fun b => Value.int .u8 (b.toNat : Int)) ∧ Below w.heap.size w wr) (fun _ _ i _ => 8 - (intOf i).toNat)
  case atStart => exact ⟨0, by omega, rfl, by simp, World.ownsRow_nil _ _ _ _, Below.refl _ _⟩
  case round =>
    obtain ⟨k, hk, rfl, rfl, hown, hbel⟩ := hrel
    by_cases hlt : k < 8
    · have hlo := uv_lo (c >>> (8 * k))
      have hb := shr_byte c k
      have HO : Hid _ := hown
      have HN : Hid _ := shr_next c k
      have HD : Hid _ := uv_tdiv (c >>> (8 * k)) 256 (by decide)
      clear hown
      go_wp2_with (at_builtin; go_must (refine wpList_append_own _ rfl _ _ 24 rfl w.heap.size 5 i0 (.int .u8 0) 1 1 Try.underlying24 hi hz0 hz1 hz2 rfl (by decide) _ _ _ rfl (World.ownsRow.alloc HO.out _) ⟨wr.heap.size, 0, none⟩ 1 1 [.int .u8 ((CrcM.byteOf c k).toNat : Int)] rfl rfl ?c1 ?c2 ?c3 ?c4 ?c5 ?_))
      case c1 =>
        intro j u hj
        match j, hj with
        | 0, hj => simp at hj; subst hj; simp [Addr.add]
      case c2 => intro u hu; simp at hu; subst hu; rfl
      case c3 => unfold maxLen; omega
      case c4 => omega
      case c5 => have := hbel.size; simp; omega
      · intro v' w1 hown' hgrow _
        go_wp2
        go_roundw
        case rel =>
          refine ⟨k + 1, by omega, by go_num, ?_, ?_, ?_⟩
          · rw [← HN.out, ← HD.out]
          · rw [← bytes_cells]; exact hown'
          · exact (hbel.alloc hbel.size _).grown hgrow (by have := hbel.size; simp; omega) (fun k hk => (World.ownsRow.lt HO.out k hk).1)
        case measure => simp [intOf]; omega
    · have e8 : k = 8 := by omega
      subst e8
      have hl8 := bytesOf_length c 8
      have hown' : wr.ownsRow w.heap.size 5 1 u3 (bytesOf c 8).length ((bytesOf c 8).map fun b => Value.int .u8 (b.toNat : Int)) := by rw [hl8]; exact hown
      obtain ⟨g, cap, rfl, hcv⟩ := own_back hown' (by intro h; rw [h] at hl8; simp at hl8)
      rw [hl8] at hcv
      rw [hl8]
      clear hown hown' hl8
      go_wp2
      go_ret
      exact ⟨rfl, hbel⟩
end Go.Proofs.Ytapmgknaimakoaa
