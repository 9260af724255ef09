import Derived.Test.YtghgdekdbbogkaaIFind
namespace Go.Proofs.Ytghgdekdbbogkaa
open Go.RowKit IM
set_option linter.unusedVariables false
theorem maker_keep {B b : Nat} {W : Int} {l : List UInt8} {w w' : World} (h : MakerAt B b W l w) (hb : Below w.heap.size w w') : MakerAt B b W l w' := by
  obtain ⟨h0, v, h1, h2, h3⟩ := h
  exact ⟨h0, v, by rw [hb.block _ (row_lt h1)]; exact h1, own_keep h2 (fun k _ hk => hb.block k hk), h3⟩
theorem maker_width {B b : Nat} {W : Int} {l : List UInt8} {w : World} (h : MakerAt B b W l w) : w.cell? ⟨b, 2, none⟩ = some (.int .i64 W) := by
  obtain ⟨h0, v, h1, h2, h3⟩ := h
  rw [cell_heap h1]; rfl
theorem maker_lt {B b : Nat} {W : Int} {l : List UInt8} {w : World} (h : MakerAt B b W l w) : b < w.heap.size := by
  obtain ⟨h0, v, h1, h2, h3⟩ := h
  exact row_lt h1
theorem take_leB (W : Nat) (x : Int) (h3 : W3 W) : (leB 8 x).take W = leB W x := by
  rcases h3 with rfl | rfl | rfl <;> rfl
set_option maxHeartbeats 400000 in
set_option maxRecDepth 100000 in
theorem add_any (B b : Nat) (W : Nat) (l : List UInt8) (n : Int) (h3 : W3 W) (hn : I64 n) (w : World) (h : MakerAt B b W l w) (hlen : l.length ≤ 100000000) (hBw : B ≤ w.heap.size) :
    Calls Try.prog 52 #[.pointer (some ⟨b, 0, none⟩), .int .i64 n] w fun e w' => e = .returned (.tuple #[]) ∧ (MakerAt B b W (l ++ leB W n) w' ∧ Below B w w' ∧ Kept b w w') := by
  have hx0 : 0 ≤ n % 18446744073709551616 := by omega
  have hx1 : n % 18446744073709551616 < 18446744073709551616 := by omega
  have hwz := fun W' => wordOf_any (n % 18446744073709551616) hx0 hx1 W'
  rw [leB_emod 8 n (by omega)] at hwz
  have HWZ : Hid (∀ W', Calls Try.prog 44 #[.int .u64 (n % 18446744073709551616)] W' fun e w' => e = .returned (.agg (bcells (leB 8 n)).toArray) ∧ Below W'.heap.size W' w') := hwz
  have HM : Hid (MakerAt B b W l w) := h
  have hblt := maker_lt h
  have H3 : Hid (W3 W) := h3
  have HT : Hid ((leB 8 n).take W = leB W n) := take_leB W n h3
  have hL : (leB 8 n).length = 8 := leB_len 8 n
  generalize hl8 : leB 8 n = L at *
  obtain ⟨a0, a1, a2, a3, a4, a5, a6, a7, rfl⟩ : ∃ a0 a1 a2 a3 a4 a5 a6 a7, L = [a0, a1, a2, a3, a4, a5, a6, a7] := by
    match L, hL with
    | [a0, a1, a2, a3, a4, a5, a6, a7], _ => exact ⟨_, _, _, _, _, _, _, _, rfl⟩
  clear hwz h h3 hl8 hL
  simp only [bcells, List.map_cons, List.map_nil] at HWZ
  have hW8 : (W : Int) ≤ 8 := by rcases H3.out with h | h | h <;> omega
  have hu : IntKind.u64.wrap n = n % 18446744073709551616 := IntKind.wrap_u64 n
  go_enter Try.func52, Try.ntmps52
  go_wp2_with fail
  refine (HWZ.out _).mono ?_
  rintro e w1 ⟨rfl, hb1⟩
  have hm1 := maker_keep HM.out hb1
  have k2 := maker_width hm1
  have hsz := hb1.size
  have HM1 : Hid (MakerAt B b W l w1) := hm1
  have HB1 : Hid (Below B w w1) := hb1.mono hBw
  have HK1 : Hid (Kept b w w1) := Kept.below hb1
  clear hb1 hm1
  obtain ⟨W1, hW1⟩ : ∃ W1, W1 = w1.alloc (.cells #[.int .u8 (a0.toNat : Int), .int .u8 (a1.toNat : Int), .int .u8 (a2.toNat : Int), .int .u8 (a3.toNat : Int), .int .u8 (a4.toNat : Int), .int .u8 (a5.toNat : Int), .int .u8 (a6.toNat : Int), .int .u8 (a7.toNat : Int)] 72) := ⟨_, rfl⟩
  have hbW : Below w1.heap.size w1 W1 := by rw [hW1]; exact (Below.refl _ w1).alloc (Nat.le_refl _) _
  have hmW := maker_keep HM1.out hbW
  have kW := maker_width hmW
  have hrow : W1.heap[w1.heap.size]? = some (.cells #[.int .u8 (a0.toNat : Int), .int .u8 (a1.toNat : Int), .int .u8 (a2.toNat : Int), .int .u8 (a3.toNat : Int), .int .u8 (a4.toNat : Int), .int .u8 (a5.toNat : Int), .int .u8 (a6.toNat : Int), .int .u8 (a7.toNat : Int)] 72 (0, 0)) := by rw [hW1]; exact heap_last _ _
  have hWs : W1.shape? w1.heap.size = some (72, 8) := by simp [World.shape?, hrow]
  have hlW : ([a0, a1, a2, a3, a4, a5, a6, a7].take W).length = W := by rw [List.length_take]; simp; omega
  have hwr := write_any B b W l w1.heap.size 8 ([a0, a1, a2, a3, a4, a5, a6, a7].take W) W1.drew hmW (by omega) (by show B ≤ W1.heap.size; have := hbW.size; have := HB1.out.size; omega) (by
    intro j hj
    rw [hlW] at hj
    rw [List.getElem_take]
    have hj8 : j < 8 := by omega
    show W1.cell? _ = _
    rw [cell_heap hrow]
    match j, hj8 with
    | 0, _ => rfl
    | 1, _ => rfl
    | 2, _ => rfl
    | 3, _ => rfl
    | 4, _ => rfl
    | 5, _ => rfl
    | 6, _ => rfl
    | 7, _ => rfl)
  rw [hlW, HT.out] at hwr
  have HWR : Hid (Calls Try.prog 45 #[.pointer (some ⟨b, 0, none⟩), .slice (some ⟨w1.heap.size, 0, none⟩) W 8] W1.drew fun e w' => e = .returned (.tuple #[.int .i64 W, .nilIface]) ∧ (MakerAt B b W (l ++ leB W n) w' ∧ Below B W1.drew w' ∧ Kept b W1.drew w')) := hwr
  have HBW : Hid (Below B w W1.drew) := (HB1.out.trans (hbW.mono (by have := HB1.out.size; omega))).drew
  have HKW : Hid (Kept b w W1.drew) := HK1.out.trans (Kept.below (Below.drew hbW))
  clear hwr hmW hbW hlW
  go_wp2
  rw [← hW1]
  clear hW1
  go_region_with (go_at_call 45; refine HWR.out.mono ?_; rintro e w' ⟨rfl, hm, hb, hk⟩)
  all_goals go_wp2
  all_goals go_end0
  all_goals exact ⟨rfl, hm, HBW.out.trans hb, HKW.out.trans hk⟩
end Go.Proofs.Ytghgdekdbbogkaa
