import Derived.Test.YtghgdekdbbogkaaIGrow
import Derived.Test.YtghgdekdbbogkaaIMak
namespace Go.Proofs.Ytghgdekdbbogkaa
open Go.RowKit IM
set_option linter.unusedVariables false
theorem head_bytes (V C : Nat) (hV : V < 4294967296) (hC : C < 4294967296) : leB 8 ((V + 4294967296 * C : Nat) : Int) = leB 4 (V : Nat) ++ leB 4 (C : Nat) := by
  refine leN_inj _ _ (by rw [List.length_append, leB_len, leB_len, leB_len]) ?_
  rw [leN_app, leB_len]
  have e4 : (256 : Nat) ^ 4 = 4294967296 := by decide
  have e8 : (256 : Nat) ^ 8 = 18446744073709551616 := by decide
  rw [leB_nat 8 _ (by rw [e8]; omega), leB_nat 4 V (by rw [e4]; exact hV), leB_nat 4 C (by rw [e4]; exact hC), e4]
theorem or_head (V C : Nat) (hV : V < 4294967296) (hC : C < 4294967296) : bits .or .u64 (V : Int) ((C : Int) * 4294967296) = ((V + 4294967296 * C : Nat) : Int) := by
  have e1 : (C : Int) * 4294967296 = ((C * 2 ^ 32 : Nat) : Int) := by
    rw [show (2 : Nat) ^ 32 = 4294967296 from rfl]; omega
  rw [e1, bits_or_u64_nat _ _ (by omega) (by rw [show (2 : Nat) ^ 32 = 4294967296 from rfl]; omega)]
  have h2 := Nat.two_pow_add_eq_or_of_lt (i := 32) (b := V) (by rw [show (2 : Nat) ^ 32 = 4294967296 from rfl]; exact hV) C
  rw [Nat.or_comm, Nat.mul_comm C, ← h2, show (2 : Nat) ^ 32 = 4294967296 from rfl]
  omega
set_option maxHeartbeats 400000 in
set_option maxRecDepth 100000 in
theorem newMaker_any (V C : Nat) (h3 : W3 V) (hC : C ≤ 1048576) (w : World) :
    Calls Try.prog 29 #[.int .i64 V, .int .i64 C] w fun e w' => e = .returned (.pointer (some ⟨w.heap.size, 0, none⟩)) ∧ MakerAt w.heap.size w.heap.size V (leB 4 (V : Nat) ++ leB 4 (C : Nat)) w' ∧ Below w.heap.size w w' := by
  have hV8 : V ≤ 8 := by rcases h3 with rfl | rfl | rfl <;> omega
  have hCV : C * V ≤ 1048576 * 8 := Nat.mul_le_mul hC hV8
  have ho := or_head V C (by omega) (by omega)
  have hwz := fun W' => wordOf_any ((V + 4294967296 * C : Nat) : Int) (by omega) (by omega) W'
  rw [head_bytes V C (by omega) (by omega)] at hwz
  generalize hL : leB 4 (V : Nat) ++ leB 4 (C : Nat) = L at *
  have hl8 : L.length = 8 := by rw [← hL, List.length_append, leB_len, leB_len]
  obtain ⟨a0, a1, a2, a3, a4, a5, a6, a7, rfl⟩ : ∃ a0 a1 a2 a3 a4 a5 a6 a7, L = [a0, a1, a2, a3, a4, a5, a6, a7] := by
    match L, hl8 with
    | [a0, a1, a2, a3, a4, a5, a6, a7], _ => exact ⟨_, _, _, _, _, _, _, _, rfl⟩
  generalize hX : V + 4294967296 * C = X at *
  have HWZ : Hid (∀ W', Calls Try.prog 44 #[.int .u64 (X : Int)] W' fun e w' => e = .returned (.agg (bcells [a0, a1, a2, a3, a4, a5, a6, a7]).toArray) ∧ Below W'.heap.size W' w') := hwz
  simp only [bcells, List.map_cons, List.map_nil] at HWZ
  have hGr := Grow_fresh w.heap.size w.heap.size (8 + C * V) V (w.alloc (.cells #[.pointer none, .slice none 0 0, .int .i64 (V : Int)] 54)) (Nat.le_refl _) (heap_last _ _) (by simp) (by omega) (by omega)
  have hcast : ((8 + C * V : Nat) : Int) = 8 + (C : Int) * (V : Int) := by rw [← Int.natCast_mul]; omega
  rw [hcast] at hGr
  have HGR : Hid (Calls Try.prog 43 #[.pointer (some ⟨w.heap.size, 0, none⟩), .int .i64 (8 + (C : Int) * (V : Int))] (w.alloc (.cells #[.pointer none, .slice none 0 0, .int .i64 (V : Int)] 54)) fun e w' => e = .returned (.tuple #[]) ∧ (MakerAt w.heap.size w.heap.size V [] w' ∧ Below w.heap.size (w.alloc (.cells #[.pointer none, .slice none 0 0, .int .i64 (V : Int)] 54)) w')) := hGr
  have hm1 : (C : Int) * (V : Int) = ((C * V : Nat) : Int) := by simp
  have HO : Hid (bits .or .u64 (V : Int) ((C : Int) * 4294967296) = (X : Int)) := ho
  clear hwz hGr hcast hL hl8 hX ho
  rcases h3 with rfl | rfl | rfl
  · have ho2 : bits .or .u64 2 ((C : Int) * 4294967296) = (X : Int) := HO.out
    go_enter Try.func29, Try.ntmps29
    go_wp2_with fail
    refine HGR.out.mono ?_
    rintro e w1 ⟨rfl, hmk, hb1⟩
    have HM1 : Hid (MakerAt w.heap.size w.heap.size (2 : Nat) [] w1) := hmk
    have HB1 : Hid (Below w.heap.size w w1) := ((Below.refl _ w).alloc (Nat.le_refl _) _).trans hb1
    clear hmk hb1
    go_wp2_with fail
    refine (HWZ.out _).mono ?_
    rintro e w2 ⟨rfl, hb2⟩
    have HM2 : Hid (MakerAt w.heap.size w.heap.size (2 : Nat) [] w2) := maker_keep HM1.out hb2
    have HB2 : Hid (Below w.heap.size w w2) := HB1.out.trans (hb2.mono HB1.out.size)
    clear hb2
    obtain ⟨W1, hW1⟩ : ∃ W1, W1 = w2.alloc (.cells #[.int .u8 (a0.toNat : Int), .int .u8 (a1.toNat : Int), .int .u8 (a2.toNat : Int), .int .u8 (a3.toNat : Int), .int .u8 (a4.toNat : Int), .int .u8 (a5.toNat : Int), .int .u8 (a6.toNat : Int), .int .u8 (a7.toNat : Int)] 72) := ⟨_, rfl⟩
    have hbW : Below w2.heap.size w2 W1 := by rw [hW1]; exact (Below.refl _ w2).alloc (Nat.le_refl _) _
    have hrow : W1.heap[w2.heap.size]? = some (.cells #[.int .u8 (a0.toNat : Int), .int .u8 (a1.toNat : Int), .int .u8 (a2.toNat : Int), .int .u8 (a3.toNat : Int), .int .u8 (a4.toNat : Int), .int .u8 (a5.toNat : Int), .int .u8 (a6.toNat : Int), .int .u8 (a7.toNat : Int)] 72 (0, 0)) := by rw [hW1]; exact heap_last _ _
    have hBW : Below w.heap.size w W1 := HB2.out.trans (hbW.mono HB2.out.size)
    have HBW : Hid (Below w.heap.size w W1) := hBW
    have HMW : Hid (MakerAt w.heap.size w.heap.size (2 : Nat) [] W1) := maker_keep HM2.out hbW
    have HCW : Hid (∀ j, (hj : j < [a0, a1, a2, a3, a4, a5, a6, a7].length) → W1.cell? ⟨w2.heap.size, j, none⟩ = some (.int .u8 ([a0, a1, a2, a3, a4, a5, a6, a7][j].toNat : Int))) := by
      have hx : ∀ j, (hj : j < [a0, a1, a2, a3, a4, a5, a6, a7].length) → W1.cell? ⟨w2.heap.size, j, none⟩ = some (.int .u8 ([a0, a1, a2, a3, a4, a5, a6, a7][j].toNat : Int)) := by
        intro j hj
        rw [cell_heap hrow]
        match j, hj with
        | 0, _ => rfl
        | 1, _ => rfl
        | 2, _ => rfl
        | 3, _ => rfl
        | 4, _ => rfl
        | 5, _ => rfl
        | 6, _ => rfl
        | 7, _ => rfl
      exact hx
    have hWs : W1.shape? w2.heap.size = some (72, 8) := by simp [World.shape?, hrow]
    clear hbW hrow hBW
    have HWR : Hid (Calls Try.prog 45 #[.pointer (some ⟨w.heap.size, 0, none⟩), .slice (some ⟨w2.heap.size, 0, none⟩) 8 8] W1.drew fun e w' => e = .returned (.tuple #[.int .i64 8, .nilIface]) ∧ (MakerAt w.heap.size w.heap.size (2 : Nat) [a0, a1, a2, a3, a4, a5, a6, a7] w' ∧ Below w.heap.size W1.drew w' ∧ Kept w.heap.size W1.drew w')) := write_any w.heap.size w.heap.size (2 : Nat) [] w2.heap.size 8 [a0, a1, a2, a3, a4, a5, a6, a7] W1.drew HMW.out (by simp) HBW.out.size HCW.out
    go_wp2_with fail
    rw [← hW1]
    clear hW1
    go_region_with (go_at_call 45; refine HWR.out.mono ?_; rintro e w' ⟨rfl, hm, hb, hk⟩)
    all_goals have HMZ : Hid (MakerAt w.heap.size w.heap.size (2 : Nat) [a0, a1, a2, a3, a4, a5, a6, a7] w') := hm
    all_goals have HBZ : Hid (Below w.heap.size w w') := (Below.drew HBW.out).trans hb
    all_goals clear hm hb hk
    all_goals go_wp2
    all_goals go_ret
    all_goals exact ⟨rfl, HMZ.out, HBZ.out⟩
  · have ho2 : bits .or .u64 4 ((C : Int) * 4294967296) = (X : Int) := HO.out
    go_enter Try.func29, Try.ntmps29
    go_wp2_with fail
    refine HGR.out.mono ?_
    rintro e w1 ⟨rfl, hmk, hb1⟩
    have HM1 : Hid (MakerAt w.heap.size w.heap.size (4 : Nat) [] w1) := hmk
    have HB1 : Hid (Below w.heap.size w w1) := ((Below.refl _ w).alloc (Nat.le_refl _) _).trans hb1
    clear hmk hb1
    go_wp2_with fail
    refine (HWZ.out _).mono ?_
    rintro e w2 ⟨rfl, hb2⟩
    have HM2 : Hid (MakerAt w.heap.size w.heap.size (4 : Nat) [] w2) := maker_keep HM1.out hb2
    have HB2 : Hid (Below w.heap.size w w2) := HB1.out.trans (hb2.mono HB1.out.size)
    clear hb2
    obtain ⟨W1, hW1⟩ : ∃ W1, W1 = w2.alloc (.cells #[.int .u8 (a0.toNat : Int), .int .u8 (a1.toNat : Int), .int .u8 (a2.toNat : Int), .int .u8 (a3.toNat : Int), .int .u8 (a4.toNat : Int), .int .u8 (a5.toNat : Int), .int .u8 (a6.toNat : Int), .int .u8 (a7.toNat : Int)] 72) := ⟨_, rfl⟩
    have hbW : Below w2.heap.size w2 W1 := by rw [hW1]; exact (Below.refl _ w2).alloc (Nat.le_refl _) _
    have hrow : W1.heap[w2.heap.size]? = some (.cells #[.int .u8 (a0.toNat : Int), .int .u8 (a1.toNat : Int), .int .u8 (a2.toNat : Int), .int .u8 (a3.toNat : Int), .int .u8 (a4.toNat : Int), .int .u8 (a5.toNat : Int), .int .u8 (a6.toNat : Int), .int .u8 (a7.toNat : Int)] 72 (0, 0)) := by rw [hW1]; exact heap_last _ _
    have hBW : Below w.heap.size w W1 := HB2.out.trans (hbW.mono HB2.out.size)
    have HBW : Hid (Below w.heap.size w W1) := hBW
    have HMW : Hid (MakerAt w.heap.size w.heap.size (4 : Nat) [] W1) := maker_keep HM2.out hbW
    have HCW : Hid (∀ j, (hj : j < [a0, a1, a2, a3, a4, a5, a6, a7].length) → W1.cell? ⟨w2.heap.size, j, none⟩ = some (.int .u8 ([a0, a1, a2, a3, a4, a5, a6, a7][j].toNat : Int))) := by
      have hx : ∀ j, (hj : j < [a0, a1, a2, a3, a4, a5, a6, a7].length) → W1.cell? ⟨w2.heap.size, j, none⟩ = some (.int .u8 ([a0, a1, a2, a3, a4, a5, a6, a7][j].toNat : Int)) := by
        intro j hj
        rw [cell_heap hrow]
        match j, hj with
        | 0, _ => rfl
        | 1, _ => rfl
        | 2, _ => rfl
        | 3, _ => rfl
        | 4, _ => rfl
        | 5, _ => rfl
        | 6, _ => rfl
        | 7, _ => rfl
      exact hx
    have hWs : W1.shape? w2.heap.size = some (72, 8) := by simp [World.shape?, hrow]
    clear hbW hrow hBW
    have HWR : Hid (Calls Try.prog 45 #[.pointer (some ⟨w.heap.size, 0, none⟩), .slice (some ⟨w2.heap.size, 0, none⟩) 8 8] W1.drew fun e w' => e = .returned (.tuple #[.int .i64 8, .nilIface]) ∧ (MakerAt w.heap.size w.heap.size (4 : Nat) [a0, a1, a2, a3, a4, a5, a6, a7] w' ∧ Below w.heap.size W1.drew w' ∧ Kept w.heap.size W1.drew w')) := write_any w.heap.size w.heap.size (4 : Nat) [] w2.heap.size 8 [a0, a1, a2, a3, a4, a5, a6, a7] W1.drew HMW.out (by simp) HBW.out.size HCW.out
    go_wp2_with fail
    rw [← hW1]
    clear hW1
    go_region_with (go_at_call 45; refine HWR.out.mono ?_; rintro e w' ⟨rfl, hm, hb, hk⟩)
    all_goals have HMZ : Hid (MakerAt w.heap.size w.heap.size (4 : Nat) [a0, a1, a2, a3, a4, a5, a6, a7] w') := hm
    all_goals have HBZ : Hid (Below w.heap.size w w') := (Below.drew HBW.out).trans hb
    all_goals clear hm hb hk
    all_goals go_wp2
    all_goals go_ret
    all_goals exact ⟨rfl, HMZ.out, HBZ.out⟩
  · have ho2 : bits .or .u64 8 ((C : Int) * 4294967296) = (X : Int) := HO.out
    go_enter Try.func29, Try.ntmps29
    go_wp2_with fail
    refine HGR.out.mono ?_
    rintro e w1 ⟨rfl, hmk, hb1⟩
    have HM1 : Hid (MakerAt w.heap.size w.heap.size (8 : Nat) [] w1) := hmk
    have HB1 : Hid (Below w.heap.size w w1) := ((Below.refl _ w).alloc (Nat.le_refl _) _).trans hb1
    clear hmk hb1
    go_wp2_with fail
    refine (HWZ.out _).mono ?_
    rintro e w2 ⟨rfl, hb2⟩
    have HM2 : Hid (MakerAt w.heap.size w.heap.size (8 : Nat) [] w2) := maker_keep HM1.out hb2
    have HB2 : Hid (Below w.heap.size w w2) := HB1.out.trans (hb2.mono HB1.out.size)
    clear hb2
    obtain ⟨W1, hW1⟩ : ∃ W1, W1 = w2.alloc (.cells #[.int .u8 (a0.toNat : Int), .int .u8 (a1.toNat : Int), .int .u8 (a2.toNat : Int), .int .u8 (a3.toNat : Int), .int .u8 (a4.toNat : Int), .int .u8 (a5.toNat : Int), .int .u8 (a6.toNat : Int), .int .u8 (a7.toNat : Int)] 72) := ⟨_, rfl⟩
    have hbW : Below w2.heap.size w2 W1 := by rw [hW1]; exact (Below.refl _ w2).alloc (Nat.le_refl _) _
    have hrow : W1.heap[w2.heap.size]? = some (.cells #[.int .u8 (a0.toNat : Int), .int .u8 (a1.toNat : Int), .int .u8 (a2.toNat : Int), .int .u8 (a3.toNat : Int), .int .u8 (a4.toNat : Int), .int .u8 (a5.toNat : Int), .int .u8 (a6.toNat : Int), .int .u8 (a7.toNat : Int)] 72 (0, 0)) := by rw [hW1]; exact heap_last _ _
    have hBW : Below w.heap.size w W1 := HB2.out.trans (hbW.mono HB2.out.size)
    have HBW : Hid (Below w.heap.size w W1) := hBW
    have HMW : Hid (MakerAt w.heap.size w.heap.size (8 : Nat) [] W1) := maker_keep HM2.out hbW
    have HCW : Hid (∀ j, (hj : j < [a0, a1, a2, a3, a4, a5, a6, a7].length) → W1.cell? ⟨w2.heap.size, j, none⟩ = some (.int .u8 ([a0, a1, a2, a3, a4, a5, a6, a7][j].toNat : Int))) := by
      have hx : ∀ j, (hj : j < [a0, a1, a2, a3, a4, a5, a6, a7].length) → W1.cell? ⟨w2.heap.size, j, none⟩ = some (.int .u8 ([a0, a1, a2, a3, a4, a5, a6, a7][j].toNat : Int)) := by
        intro j hj
        rw [cell_heap hrow]
        match j, hj with
        | 0, _ => rfl
        | 1, _ => rfl
        | 2, _ => rfl
        | 3, _ => rfl
        | 4, _ => rfl
        | 5, _ => rfl
        | 6, _ => rfl
        | 7, _ => rfl
      exact hx
    have hWs : W1.shape? w2.heap.size = some (72, 8) := by simp [World.shape?, hrow]
    clear hbW hrow hBW
    have HWR : Hid (Calls Try.prog 45 #[.pointer (some ⟨w.heap.size, 0, none⟩), .slice (some ⟨w2.heap.size, 0, none⟩) 8 8] W1.drew fun e w' => e = .returned (.tuple #[.int .i64 8, .nilIface]) ∧ (MakerAt w.heap.size w.heap.size (8 : Nat) [a0, a1, a2, a3, a4, a5, a6, a7] w' ∧ Below w.heap.size W1.drew w' ∧ Kept w.heap.size W1.drew w')) := write_any w.heap.size w.heap.size (8 : Nat) [] w2.heap.size 8 [a0, a1, a2, a3, a4, a5, a6, a7] W1.drew HMW.out (by simp) HBW.out.size HCW.out
    go_wp2_with fail
    rw [← hW1]
    clear hW1
    go_region_with (go_at_call 45; refine HWR.out.mono ?_; rintro e w' ⟨rfl, hm, hb, hk⟩)
    all_goals have HMZ : Hid (MakerAt w.heap.size w.heap.size (8 : Nat) [a0, a1, a2, a3, a4, a5, a6, a7] w') := hm
    all_goals have HBZ : Hid (Below w.heap.size w w') := (Below.drew HBW.out).trans hb
    all_goals clear hm hb hk
    all_goals go_wp2
    all_goals go_ret
    all_goals exact ⟨rfl, HMZ.out, HBZ.out⟩
end Go.Proofs.Ytghgdekdbbogkaa
