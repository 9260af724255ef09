import Derived.Test.YtghgdekdbbogkaaIWid
import Derived.Deep.CutRange
namespace Go.Proofs.Ytghgdekdbbogkaa
open Go.RowKit IM
set_option linter.unusedVariables false
set_option maxHeartbeats 20000000 in
set_option maxRecDepth 100000 in
theorem with_any (p : ByteArray) (W : Nat) (ls : List Int) (hset : IsSet p.data.toList W ls) (n : Int) (hn : I64 n) (hc : ls.length < 1048576) (r : Nat) (hr : r ≤ ls.length) (w : World) :
    Calls Try.prog 33 #[setV p W ls.length, .int .i64 r, .int .i64 n] w fun e w' => e = .returned (.string (strB (txt (max W (needs n)) (ls.take r ++ n :: ls.drop r)))) ∧ Below w.heap.size w w' := by
  have h3V : W3 (max W (needs n)) := w3_max hset.w3 (needs3 n)
  have HT := with_text (max W (needs n)) ls n r hr
  have hlen := hset.len
  have hmx : ((W : Int) < ((needs n : Nat) : Int) ∧ needs n = max W (needs n)) ∨ (¬ (W : Int) < ((needs n : Nat) : Int) ∧ W = max W (needs n)) := by omega
  have HN : Hid (∀ w, Calls Try.prog 50 #[.int .i64 n] w fun e w' => e = .returned (.int .i64 (needs n : Nat)) ∧ w' = w) := fun w => widthOf_any n w
  generalize hV : max W (needs n) = V at *
  generalize hX : needs n = X at *
  have HS : Hid (IsSet p.data.toList W ls) := hset
  clear hset
  have HNM : Hid (∀ W', Calls Try.prog 29 #[.int .i64 V, .int .i64 ((ls.length : Int) + 1)] W' fun e w' => e = .returned (.pointer (some ⟨W'.heap.size, 0, none⟩)) ∧ MakerAt W'.heap.size W'.heap.size V (leB 4 (V : Nat) ++ leB 4 ((ls.length + 1 : Nat) : Int)) w' ∧ Below W'.heap.size W' w') := fun W' => newMaker_any V (ls.length + 1) h3V (by omega) W'
  have hw1 : IntKind.i64.wrap ((ls.length : Int) + 1) = (ls.length : Int) + 1 := by rw [IntKind.wrap_i64]; omega
  have HW1 : Hid _ := hw1
  have HTT : Hid _ := HT
  clear hw1 HT
  obtain ⟨W1, hW1⟩ : ∃ W1, W1 = w.alloc (.cells #[.string p, .int .i64 (W : Int), .int .i64 (ls.length : Int)] 58) := ⟨_, rfl⟩
  have hrow : W1.heap[w.heap.size]? = some (.cells #[.string p, .int .i64 (W : Int), .int .i64 (ls.length : Int)] 58 (0, 0)) := by rw [hW1]; exact heap_last _ _
  have t0 : W1.cell? ⟨w.heap.size, 0, none⟩ = some (.string p) := by rw [cell_heap hrow]; rfl
  have t1 : W1.cell? ⟨w.heap.size, 1, none⟩ = some (.int .i64 (W : Int)) := by rw [cell_heap hrow]; rfl
  have t2 : W1.cell? ⟨w.heap.size, 2, none⟩ = some (.int .i64 (ls.length : Int)) := by rw [cell_heap hrow]; rfl
  have hz1 : w.heap.size < W1.heap.size := row_lt hrow
  have HBW : Hid (Below w.heap.size w W1) := by rw [hW1]; exact (Below.refl _ w).alloc (Nat.le_refl _) _
  have HROW : Hid (W1.heap[w.heap.size]? = some (.cells #[.string p, .int .i64 (W : Int), .int .i64 (ls.length : Int)] 58 (0, 0))) := hrow
  clear hrow
  have HH3 : Hid (W3 V) := h3V
  clear hV hX h3V
  unfold setV at *
  go_enter Try.func33, Try.ntmps33
  go_wp2_with fail
  rw [← hW1]
  clear hW1
  go_cut [7] from 8 to 16 (fun m wx => m = .pointer (some ⟨W1.heap.size, 0, none⟩) ∧ MakerAt W1.heap.size W1.heap.size V (leB 4 (V : Nat) ++ leB 4 ((ls.length + 1 : Nat) : Int)) wx ∧ Below W1.heap.size W1 wx)
  case first =>
    rcases hmx with ⟨hmx, rfl⟩ | ⟨hmx, rfl⟩
    · go_region_with (first
        | (go_at_call 50; refine (HN.out _).mono ?_; rintro e w' ⟨rfl, rfl⟩)
        | (go_at_call 29; rw [HW1.out]; refine (HNM.out _).mono ?_; rintro e w2 ⟨rfl, hm2, hb2⟩))
      all_goals (go_wp2_with fail; go_meet; exact ⟨rfl, hm2, (Below.drew (Below.refl _ W1)).trans hb2⟩)
    · have hmn : ¬ W < X := by omega
      have HMN : Hid (¬ W < X) := hmn
      go_region_with (first
        | (go_at_call 50; refine (HN.out _).mono ?_; rintro e w' ⟨rfl, rfl⟩)
        | (go_at_call 29; (first | rw [if_neg HMN.out, HW1.out] | rw [HW1.out]); refine (HNM.out _).mono ?_; rintro e w2 ⟨rfl, hm2, hb2⟩))
      all_goals (go_wp2_with fail; go_meet; exact ⟨rfl, hm2, (Below.drew (Below.refl _ W1)).trans hb2⟩)
  case rest =>
  obtain ⟨rfl, hm2, hb2⟩ := hcut
  have t0 : wc.cell? ⟨w.heap.size, 0, none⟩ = some (.string p) := (cell_below hb2 (show w.heap.size < W1.heap.size from hz1)).trans t0
  have t1 : wc.cell? ⟨w.heap.size, 1, none⟩ = some (.int .i64 (W : Int)) := (cell_below hb2 (show w.heap.size < W1.heap.size from hz1)).trans t1
  have t2 : wc.cell? ⟨w.heap.size, 2, none⟩ = some (.int .i64 (ls.length : Int)) := (cell_below hb2 (show w.heap.size < W1.heap.size from hz1)).trans t2
  have HM2 : Hid (MakerAt W1.heap.size W1.heap.size V (leB 4 (V : Nat) ++ leB 4 ((ls.length + 1 : Nat) : Int)) wc) := hm2
  have HB2 : Hid (Below W1.heap.size W1 wc) := hb2
  clear hm2 hb2
  generalize hL0 : leB 4 (V : Nat) ++ leB 4 ((ls.length + 1 : Nat) : Int) = L0 at *
  have hl0 : L0.length = 8 := by rw [← hL0]; simp [leB_len]
  have hbd := fun i k => body_le V HH3.out ls hlen i k
  have ha := addFrom_any W1.heap.size W1.heap.size p V W HH3.out ls HS.out L0 0 r (by omega) hr wc HM2.out (by omega) HB2.out.size
  rw [show ((0 : Nat) : Int) = 0 from rfl] at ha
  unfold setV at ha
  go_wp2_with fail
  refine ha.mono ?_
  rintro e w3 ⟨rfl, hm3, hb3⟩
  clear ha
  have t0 : w3.cell? ⟨w.heap.size, 0, none⟩ = some (.string p) := (cell_below hb3 hz1).trans t0
  have t1 : w3.cell? ⟨w.heap.size, 1, none⟩ = some (.int .i64 (W : Int)) := (cell_below hb3 hz1).trans t1
  have t2 : w3.cell? ⟨w.heap.size, 2, none⟩ = some (.int .i64 (ls.length : Int)) := (cell_below hb3 hz1).trans t2
  have HM3 : Hid (MakerAt W1.heap.size W1.heap.size V (L0 ++ body V ((ls.drop 0).take (r - 0))) w3) := hm3
  have HB3 : Hid (Below W1.heap.size W1 w3) := HB2.out.trans hb3
  clear hm3 hb3
  have ha2 := add_any W1.heap.size W1.heap.size V (L0 ++ body V ((ls.drop 0).take (r - 0))) n HH3.out hn w3 HM3.out (by rw [List.length_append]; have := hbd 0 (r - 0); omega) HB3.out.size
  go_wp2_with fail
  refine ha2.mono ?_
  rintro e w4 ⟨rfl, hm4, hb4, hk4⟩
  clear ha2 hk4
  have t0 : w4.cell? ⟨w.heap.size, 0, none⟩ = some (.string p) := (cell_below hb4 hz1).trans t0
  have t1 : w4.cell? ⟨w.heap.size, 1, none⟩ = some (.int .i64 (W : Int)) := (cell_below hb4 hz1).trans t1
  have t2 : w4.cell? ⟨w.heap.size, 2, none⟩ = some (.int .i64 (ls.length : Int)) := (cell_below hb4 hz1).trans t2
  have HM4 : Hid (MakerAt W1.heap.size W1.heap.size V (L0 ++ body V ((ls.drop 0).take (r - 0)) ++ leB V n) w4) := hm4
  have HB4 : Hid (Below W1.heap.size W1 w4) := HB3.out.trans hb4
  clear hm4 hb4
  have ha3 := addFrom_any W1.heap.size W1.heap.size p V W HH3.out ls HS.out (L0 ++ body V ((ls.drop 0).take (r - 0)) ++ leB V n) r ls.length hr (Nat.le_refl _) w4 HM4.out (by rw [List.length_append, List.length_append, leB_len]; have := hbd 0 (r - 0); have : V ≤ 8 := (by rcases HH3.out with h | h | h <;> omega); omega) HB4.out.size
  unfold setV at ha3
  go_wp2_with fail
  refine ha3.mono ?_
  rintro e w5 ⟨rfl, hm5, hb5⟩
  clear ha3
  rw [HTT.out] at hm5
  have HM5 : Hid (MakerAt W1.heap.size W1.heap.size V (txt V (ls.take r ++ n :: ls.drop r)) w5) := hm5
  have HB5 : Hid (Below W1.heap.size W1 w5) := HB4.out.trans hb5
  clear hm5 hb5 t0 t1 t2
  have hst := string_any W1.heap.size W1.heap.size V (txt V (ls.take r ++ n :: ls.drop r)) w5 HM5.out (by intro h; have := congrArg List.length h; rw [txt_len] at this; simp at this)
  go_wp2_with fail
  refine hst.mono ?_
  rintro e w6 ⟨rfl, hb6⟩
  have HB6 : Hid (Below w.heap.size w w6) := HBW.out.trans ((HB5.out.trans hb6).mono (by omega))
  clear hst hb6
  go_wp2
  go_ret
  exact ⟨rfl, HB6.out⟩
end Go.Proofs.Ytghgdekdbbogkaa
