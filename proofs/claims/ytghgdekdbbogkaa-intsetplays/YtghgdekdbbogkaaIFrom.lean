import Derived.Test.YtghgdekdbbogkaaIMak
namespace Go.Proofs.Ytghgdekdbbogkaa
open Go.RowKit IM
set_option linter.unusedVariables false
theorem maker_alloc {B b : Nat} {W : Int} {l : List UInt8} {w : World} (h : MakerAt B b W l w) (o : Obj) : MakerAt B b W l (w.alloc o) := maker_keep h ((Below.refl _ w).alloc (Nat.le_refl _) _)
theorem maker_drew {B b : Nat} {W : Int} {l : List UInt8} {w : World} (h : MakerAt B b W l w) : MakerAt B b W l w.drew := h
theorem maker_drewN {B b : Nat} {W : Int} {l : List UInt8} {w : World} (h : MakerAt B b W l w) (n : Nat) : MakerAt B b W l (w.drewN n) := h
theorem bel_go {B : Nat} {w w1 w' : World} (h : Below B w w1) (hb : Below w1.heap.size w1 w') (hs : B ≤ w.heap.size) : Below B w w' := h.trans (hb.mono (Nat.le_trans hs h.size))
theorem bel_goN {B k : Nat} {w w1 w' : World} (h : Below B w w1) (hb : Below (w1.drewN k).heap.size (w1.drewN k) w') (hs : B ≤ w.heap.size) : Below B w w' := (below_dn h k).trans (hb.mono (Nat.le_trans hs h.size))
theorem part_text {p : ByteArray} {W : Nat} {ls : List Int} (h : IsSet p.data.toList W ls) (i j : Nat) (hij : i ≤ j) (hj : j ≤ ls.length) : (p.extract (8 + i * W) (8 + j * W)).data.toList = body W ((ls.drop i).take (j - i)) := by
  rw [ext_any, ← txt_part W ls i j hij hj, ← h.txt]
  congr 1
  have : i * W ≤ j * W := Nat.mul_le_mul_right _ hij
  omega
set_option maxHeartbeats 6000000 in
set_option maxRecDepth 100000 in
theorem addFrom_same (B b : Nat) (p : ByteArray) (W : Nat) (ls : List Int) (hset : IsSet p.data.toList W ls) (l : List UInt8) (i j : Nat) (hij : i ≤ j) (hj : j ≤ ls.length) (w : World) (h : MakerAt B b W l w) (hlen : l.length ≤ 10000000) (hBw : B ≤ w.heap.size) :
    Calls Try.prog 51 #[.pointer (some ⟨b, 0, none⟩), setV p W ls.length, .int .i64 i, .int .i64 j] w fun e w' => e = .returned (.tuple #[]) ∧ (MakerAt B b W (l ++ body W ((ls.drop i).take (j - i))) w' ∧ Below B w w') := by
  have hs := set_size hset
  have hlen2 := hset.len
  have hp : p.size ≤ 8388616 := by
    have : ls.length * W ≤ 1048576 * 8 := Nat.mul_le_mul hlen2 (by rcases hset.w3 with rfl | rfl | rfl <;> omega)
    omega
  have hi : i ≤ ls.length := by omega
  have HPT : Hid ((p.extract (8 + i * W) (8 + j * W)).data.toList = body W ((ls.drop i).take (j - i))) := part_text hset i j hij hj
  have hbg : ∀ k, k ≤ ls.length → ∀ W', Calls Try.prog 47 #[setV p W ls.length, .int .i64 k] W' fun e w' => e = .returned (.int .i64 ((8 + k * W : Nat) : Int)) ∧ Below W'.heap.size W' w' := fun k hk W' => begin_bel p W ls.length k hset.w3 (by omega) W'
  have q1 : 8 + i * W ≤ 8 + j * W := by have : i * W ≤ j * W := Nat.mul_le_mul_right _ hij; omega
  have q2 : 8 + j * W ≤ p.size := by have : j * W ≤ ls.length * W := Nat.mul_le_mul_right _ hj; omega
  have hst : ∃ st : Nat → Nat, ∀ k, st k = 8 + k * W := ⟨fun k => 8 + k * W, fun _ => rfl⟩
  obtain ⟨st, hst⟩ := hst
  simp only [← hst] at hbg q1 q2 HPT
  have q1z : (st i : Int) ≤ (st j : Int) := by omega
  have q2z : (st j : Int) ≤ (p.size : Int) := by omega
  have HBG : Hid _ := hbg
  have HM : Hid (MakerAt B b W l w) := h
  have k2 := maker_width h
  have hblt := maker_lt h
  unfold setV at *
  clear hset hs hst hbg h
  go_enter Try.func51, Try.ntmps51
  obtain ⟨W1, hW1⟩ : ∃ W1, W1 = w.alloc (.cells #[.string p, .int .i64 (W : Int), .int .i64 (ls.length : Int)] 58) := ⟨_, rfl⟩
  have hbW : Below w.heap.size w W1 := by rw [hW1]; exact (Below.refl _ w).alloc (Nat.le_refl _) _
  have hmW := maker_keep HM.out hbW
  have kW := maker_width hmW
  have hrow : W1.heap[w.heap.size]? = some (.cells #[.string p, .int .i64 (W : Int), .int .i64 (ls.length : Int)] 58 (0, 0)) := by rw [hW1]; exact heap_last _ _
  have t0 : W1.cell? ⟨w.heap.size, 0, none⟩ = some (.string p) := by rw [cell_heap hrow]; rfl
  have t1 : W1.cell? ⟨w.heap.size, 1, none⟩ = some (.int .i64 (W : Int)) := by rw [cell_heap hrow]; rfl
  have t2 : W1.cell? ⟨w.heap.size, 2, none⟩ = some (.int .i64 (ls.length : Int)) := by rw [cell_heap hrow]; rfl
  have hz1 : w.heap.size < W1.heap.size := row_lt hrow
  have HMW : Hid (MakerAt B b W l W1) := hmW
  have HBW : Hid (Below B w W1) := hbW.mono hBw
  clear hbW hmW hrow k2 HM
  go_wp2
  rw [← hW1]
  clear hW1
  go_quiet (fail)
  go_wp2
  go_region_with (first
    | (go_at_call 47; refine (HBG.out _ (by assumption) _).mono ?_; rintro e w' ⟨rfl, hb⟩; have t0 : w'.cell? ⟨w.heap.size, 0, none⟩ = some (.string p) := (cell_below hb (World.block_lt_of_cell? _ _ t0)).trans t0; have t1 : w'.cell? ⟨w.heap.size, 1, none⟩ = some (.int .i64 (W : Int)) := (cell_below hb (World.block_lt_of_cell? _ _ t1)).trans t1; have t2 : w'.cell? ⟨w.heap.size, 2, none⟩ = some (.int .i64 (ls.length : Int)) := (cell_below hb (World.block_lt_of_cell? _ _ t2)).trans t2; have HMW : Hid (MakerAt B b W l w') := (by first | exact maker_keep HMW.out hb | exact maker_keep (maker_drewN HMW.out _) hb); have HBW : Hid (Below B w w') := (by first | exact bel_go HBW.out hb hBw | exact bel_goN HBW.out hb hBw); clear hb)
    | (go_at_call 59; refine (writeString_any B b W l _ _ HMW.out (by rw [ext_size _ _ _ q2]; omega) (Nat.le_trans hBw HBW.out.size)).mono ?_; rintro e w' ⟨rfl, hmz, hbz⟩))
  all_goals rw [HPT.out] at hmz
  all_goals have HMZ : Hid (MakerAt B b W (l ++ body W ((ls.drop i).take (j - i))) w') := hmz
  all_goals have HBZ : Hid (Below B w w') := HBW.out.trans hbz
  all_goals clear hmz hbz
  all_goals go_wp2
  all_goals first
    | (refine bodyPost_ret (v := .tuple #[]) (by simp [results, Try.results51, go_sem]) rfl ⟨rfl, HMZ.out, HBZ.out⟩)
    | (refine bodyPost_ret (v := .tuple #[]) (results_none _ _ _ _) rfl ⟨rfl, HMZ.out, HBZ.out⟩)
    | (refine bodyPost_ret (v := .tuple #[]) (results_none _ _ _) rfl ⟨rfl, HMZ.out, HBZ.out⟩)
    | (trace_state; sorry)
end Go.Proofs.Ytghgdekdbbogkaa
