import Derived.Test.YthjcbolbbdclnaaFindMath
namespace Go.Proofs.Ythjcbolbbdclnaa
open Go.RowKit Lz
set_option linter.unusedVariables false
def findT (n : Nat) : Value := if n = 0 then .tuple #[.int .i64 0, .bool false] else .tuple #[.int .i64 (n : Int), .bool true]
theorem findT_no {n : Nat} (h : n = 0) : findT n = .tuple #[.int .i64 0, .bool false] := by unfold findT; rw [if_pos h]
theorem findT_yes {n m : Nat} (h : n = m) (hm : m ≠ 0) : findT n = .tuple #[.int .i64 (m : Int), .bool true] := by unfold findT; rw [h, if_neg hm]
set_option maxHeartbeats 2000000 in
set_option maxRecDepth 20000 in
theorem find_any (w : World) (b gh ga sh W : Nat) (s : ByteArray) (i : Nat) (hT : Tab w b gh ga sh W s i) (hi : i + 3 ≤ s.size) (hm : s.size ≤ 524288) :
    Calls Try.prog 16 #[.pointer (some ⟨b, 0, none⟩), .int .i64 i] w fun e w' => e = .returned (findT (findF s.data.toList i)) ∧ ∃ n, w' = w.drewN n := by
  obtain ⟨q, hq⟩ : ∃ q, bk s sh i = q := ⟨_, rfl⟩
  have HBK : Hid (∀ n, Calls Try.prog 22 #[.pointer (some ⟨b, 0, none⟩), .int .i64 i] (w.drewN n) fun e w' => e = .returned (.int .u32 (q : Int)) ∧ ∃ m, w' = (w.drewN n).drewN m) := fun n => by
    have := bucket_any (w.drewN n) b gh ga sh W s i i ⟨hT.row, hT.heads, hT.aheads, hT.h1, hT.h2, hT.h3, hT.small, hT.hW, hT.hsh⟩ hi hm
    rw [hq] at this
    exact this
  have hsm := hT.small i
  obtain ⟨hs, e1, e2, e3⟩ := hT.heads
  obtain ⟨bs, f1, f2, f3⟩ := hT.aheads
  have c0 : w.cell? ⟨b, 0, none⟩ = some (.string s) := by rw [cell_of_row _ _ _ _ _ _ hT.row]; rfl
  have c2 : w.cell? ⟨b, 2, none⟩ = some (.slice (some ⟨gh, 0, none⟩) W W) := by rw [cell_of_row _ _ _ _ _ _ hT.row]; rfl
  have c3 : w.cell? ⟨b, 3, none⟩ = some (.slice (some ⟨ga, 0, none⟩) s.size s.size) := by rw [cell_of_row _ _ _ _ _ _ hT.row]; rfl
  have d1 : w.cell? ⟨gh, bk s sh i, none⟩ = some (.int .i32 (lastB s sh (bk s sh i) i : Int)) := by rw [cell_of_row _ _ _ _ _ _ e1]; exact e3 _ hsm
  have HA : Hid (∀ j, j < i → w.cell? ⟨ga, j, none⟩ = some (.int .i32 (lastB s sh (bk s sh j) j : Int))) := fun j hj => by rw [cell_of_row _ _ _ _ _ _ f1]; exact f3 j hj
  have hW := hT.hW
  have hss := Srch.start s sh i
  have hlb := lastB_le s sh (bk s sh i) i
  clear hT e1 e2 e3 f1 f2 f3
  obtain ⟨L, hL⟩ : ∃ L, lastB s sh (bk s sh i) i = L := ⟨_, rfl⟩
  rw [hL] at hss hlb d1
  rw [hq] at d1 hsm
  have HSS : Hid (Srch s sh i i L) := hss
  have hw1 : IntKind.i64.wrap (L : Int) = (L : Int) := by rw [IntKind.wrap_i64]; omega
  have hw2 : IntKind.i64.wrap ((L : Int) - 1) = (L : Int) - 1 := by rw [IntKind.wrap_i64]; omega
  clear hL hq hss
  go_enter Try.func16, Try.ntmps16
  go_wp2_with fail
  go_quiet ((go_at_call 22; exact Calls.quiet_of (HBK.out _)))
  clear hw1 hw2
  go_wp2
  go_loopw [7] (fun f wr => ∃ m c : Nat, f = .int .i64 ((c : Int) - 1) ∧ Srch s sh i m c ∧ ∃ n, wr = w.drewN n) (fun f _ => (intOf f + 1).toNat)
  case atStart => exact ⟨i, L, rfl, HSS.out, _, rfl⟩
  case round =>
    obtain ⟨m, c, rfl, hs, n, rfl⟩ := hrel
    cases c with
    | zero =>
      have HZ : Hid _ := findT_no hs.zero
      clear hs
      rw [show ((0 : Nat) : Int) - 1 = -1 by omega]
      go_wp2
      go_ret2
      exact ⟨by rw [HZ.out]; rfl, _, rfl⟩
    | succ j =>
      have hb := hs.bound
      rw [show ((j + 1 : Nat) : Int) - 1 = (j : Int) by omega]
      by_cases hf : 8192 < i - j
      · have HZ : Hid _ := findT_no (hs.far hf)
        clear hs
        go_wp2
        go_ret2
        exact ⟨by rw [HZ.out]; rfl, _, rfl⟩
      · by_cases h3 : three s.data.toList j = three s.data.toList i
        · have HZ : Hid _ := findT_yes (hs.hit hf h3) (by omega)
          have hst : ((s.extract j (j + 3)).toList == (s.extract i (i + 3)).toList) = true := str_same (by rw [three_ext, three_ext, h3])
          have HIJ : Hid (((i - j : Nat) : Int) = (i : Int) - (j : Int)) := by show _ = _; omega
          clear hs h3
          go_wp2
          go_ret2
          exact ⟨by rw [HZ.out, HIJ.out]; rfl, _, rfl⟩
        · have HS2 : Hid _ := hs.next h3
          have hst : ((s.extract j (j + 3)).toList == (s.extract i (i + 3)).toList) = false := str_other (by rw [three_ext, three_ext]; exact h3)
          have hcj := HA.out j (by omega)
          have hlj := lastB_le s sh (bk s sh j) j
          clear hs h3
          go_wp2
          go_roundw
          case rel => exact ⟨_, _, rfl, HS2.out, _, rfl⟩
          case measure => simp [intOf]; omega
end Go.Proofs.Ythjcbolbbdclnaa
