import Derived.Test.YtghgdekdbbogkaaIMak
namespace Go.Proofs.Ytghgdekdbbogkaa
open Go.RowKit IM
set_option linter.unusedVariables false
theorem body_snoc (W : Nat) (l : List Int) (n : Int) : body W (l ++ [n]) = body W l ++ leB W n := by rw [body_app]; simp [body]
theorem bel_go2 {B : Nat} {w w1 w' : World} (h : Below B w w1) (hb : Below w1.heap.size w1 w') (hs : B ≤ w.heap.size) : Below B w w' := h.trans (hb.mono (Nat.le_trans hs h.size))
set_option maxHeartbeats 1000000 in
set_option maxRecDepth 100000 in
theorem addFrom_other (B b : Nat) (p : ByteArray) (V W : Nat) (h3V : W3 V) (hne : V ≠ W) (ls : List Int) (hset : IsSet p.data.toList W ls) (l : List UInt8) (i j : Nat) (hij : i ≤ j) (hj : j ≤ ls.length) (w : World) (h : MakerAt B b V l w) (hlen : l.length ≤ 10000000) (hBw : B ≤ w.heap.size) :
    Calls Try.prog 51 #[.pointer (some ⟨b, 0, none⟩), setV p W ls.length, .int .i64 i, .int .i64 j] w fun e w' => e = .returned (.tuple #[]) ∧ (MakerAt B b V (l ++ body V ((ls.drop i).take (j - i))) w' ∧ Below B w w') := by
  have hs := set_size hset
  have hlen2 := hset.len
  have hp : p.size ≤ 8388616 := by
    have : ls.length * W ≤ 1048576 * 8 := Nat.mul_le_mul hlen2 (by rcases hset.w3 with rfl | rfl | rfl <;> omega)
    omega
  have HA : Hid (∀ k, (hk : k < ls.length) → ∀ W', Calls Try.prog 34 #[setV p W ls.length, .int .i64 k] W' fun e w' => e = .returned (.int .i64 ls[k]) ∧ Below W'.heap.size W' w') := fun k hk W' => by
    rw [← hset.at k hk]; exact at_any p W _ k hset.w3 (place_le hk hs) (by omega) W'
  have HI : Hid (∀ k, (hk : k < ls.length) → I64 ls[k]) := fun k hk => fits_i64 hset.w3 (hset.fit _ (List.getElem_mem hk))
  have hnz : ((V : Int) == (W : Int)) = false := by simp; omega
  have HM : Hid (MakerAt B b V l w) := h
  have k2 := maker_width h
  have hblt := maker_lt h
  have HLB : Hid (∀ k, k ≤ ls.length → (body V ((ls.drop i).take (k - i))).length ≤ 8388608) := fun k hk => by
    rw [body_len, List.length_take, List.length_drop]
    have : min (k - i) (ls.length - i) * V ≤ 1048576 * 8 := Nat.mul_le_mul (by omega) (by rcases h3V with rfl | rfl | rfl <;> omega)
    omega
  unfold setV at *
  clear hset hs h
  obtain ⟨W1, hW1⟩ : ∃ W1, W1 = w.alloc (.cells #[.string p, .int .i64 (W : Int), .int .i64 (ls.length : Int)] 58) := ⟨_, rfl⟩
  have hbW : Below w.heap.size w W1 := by rw [hW1]; exact (Below.refl _ w).alloc (Nat.le_refl _) _
  have hmW := maker_keep HM.out hbW
  have kW := maker_width hmW
  have hrow : W1.heap[w.heap.size]? = some (.cells #[.string p, .int .i64 (W : Int), .int .i64 (ls.length : Int)] 58 (0, 0)) := by rw [hW1]; exact heap_last _ _
  have t0 : W1.cell? ⟨w.heap.size, 0, none⟩ = some (.string p) := by rw [cell_heap hrow]; rfl
  have t1 : W1.cell? ⟨w.heap.size, 1, none⟩ = some (.int .i64 (W : Int)) := by rw [cell_heap hrow]; rfl
  have t2 : W1.cell? ⟨w.heap.size, 2, none⟩ = some (.int .i64 (ls.length : Int)) := by rw [cell_heap hrow]; rfl
  have hz1 : w.heap.size < W1.heap.size := row_lt hrow
  have HROW : Hid _ := hrow
  have HMW : Hid (MakerAt B b V l W1) := hmW
  have HBW : Hid (Below B w W1) := hbW.mono hBw
  clear hbW hmW hrow k2 HM
  go_enter Try.func51, Try.ntmps51
  go_wp2
  rw [← hW1]
  clear hW1
  go_quiet (fail)
  go_wp2
  go_loopw [8] (fun ii wr => ∃ k : Nat, i ≤ k ∧ k ≤ j ∧ ii = .int .i64 k ∧ MakerAt B b V (l ++ body V ((ls.drop i).take (k - i))) wr ∧ Below B w wr ∧ wr.heap[w.heap.size]? = some (.cells #[.string p, .int .i64 (W : Int), .int .i64 (ls.length : Int)] 58 (0, 0))) (fun ii _ => j - (intOf ii).toNat)
  case atStart => exact ⟨i, by omega, hij, rfl, by rw [Nat.sub_self, List.take_zero, show body V [] = [] from rfl, List.append_nil]; exact HMW.out, below_dn HBW.out _, HROW.out⟩
  case round =>
    obtain ⟨k, hik, hkj, rfl, hmk, hbk, hrk⟩ := hrel
    have t0 : wr.cell? ⟨w.heap.size, 0, none⟩ = some (.string p) := by rw [cell_heap hrk]; rfl
    have t1 : wr.cell? ⟨w.heap.size, 1, none⟩ = some (.int .i64 (W : Int)) := by rw [cell_heap hrk]; rfl
    have t2 : wr.cell? ⟨w.heap.size, 2, none⟩ = some (.int .i64 (ls.length : Int)) := by rw [cell_heap hrk]; rfl
    have HMK : Hid (MakerAt B b V (l ++ body V ((ls.drop i).take (k - i))) wr) := hmk
    have HBK : Hid (Below B w wr) := hbk
    have HRK : Hid (wr.heap[w.heap.size]? = some (.cells #[.string p, .int .i64 (W : Int), .int .i64 (ls.length : Int)] 58 (0, 0))) := hrk
    clear hmk hbk hrk
    by_cases hlt : k < j
    · have HTK : Hid (body V ((ls.drop i).take (k + 1 - i)) = body V ((ls.drop i).take (k - i)) ++ leB V (ls[k]'(by omega))) := by
        have e : (ls.drop i).take (k + 1 - i) = (ls.drop i).take (k - i) ++ [ls[k]'(by omega)] := by
          rw [show k + 1 - i = (k - i) + 1 by omega, List.take_add_one, List.getElem?_drop, show i + (k - i) = k by omega, List.getElem?_eq_getElem (by omega)]
          rfl
        rw [e]; exact body_snoc V _ _
      have hat := HA.out k (by omega)
      have hi64 := HI.out k (by omega)
      generalize ls[k]'(by omega) = n at hat hi64 HTK
      have HAT : Hid (∀ W', Calls Try.prog 34 #[.agg #[.string p, .int .i64 (W : Int), .int .i64 (ls.length : Int)], .int .i64 k] W' fun e w' => e = .returned (.int .i64 n) ∧ Below W'.heap.size W' w') := hat
      clear hat
      have hlq : (l ++ body V ((ls.drop i).take (k - i))).length ≤ 100000000 := by rw [List.length_append]; have := HLB.out k (by omega); omega
      go_wp2_with fail
      refine (HAT.out _).mono ?_
      rintro e w1 ⟨rfl, hb1⟩
      have HM1 : Hid (MakerAt B b V (l ++ body V ((ls.drop i).take (k - i))) w1) := maker_keep HMK.out hb1
      have HB1 : Hid (Below B w w1) := bel_go2 HBK.out hb1 hBw
      have HR1 : Hid (w1.heap[w.heap.size]? = some (.cells #[.string p, .int .i64 (W : Int), .int .i64 (ls.length : Int)] 58 (0, 0))) := by rw [hb1.block _ (row_lt HRK.out)]; exact HRK.out
      clear hb1 t0 t1 t2
      go_wp2_with fail
      refine (add_any B b V _ n h3V hi64 w1 HM1.out hlq (Nat.le_trans hBw HB1.out.size)).mono ?_
      rintro e w2 ⟨rfl, hm2, hb2, hk2⟩
      have HM2 : Hid (MakerAt B b V (l ++ body V ((ls.drop i).take (k + 1 - i))) w2) := by rw [HTK.out, ← List.append_assoc]; exact hm2
      have HB2 : Hid (Below B w w2) := HB1.out.trans hb2
      have HR2 : Hid (w2.heap[w.heap.size]? = some (.cells #[.string p, .int .i64 (W : Int), .int .i64 (ls.length : Int)] 58 (0, 0))) := hk2 _ _ _ _ HR1.out (by omega) (by decide)
      clear hm2 hb2 hk2
      go_wp2
      go_roundw
      case rel => exact ⟨k + 1, by omega, by omega, by go_num, HM2.out, HB2.out, HR2.out⟩
      case measure => simp [intOf]; omega
    · have hke : k = j := by omega
      subst hke
      go_wp2
      go_end0
      exact ⟨rfl, HMK.out, HBK.out⟩
end Go.Proofs.Ytghgdekdbbogkaa
