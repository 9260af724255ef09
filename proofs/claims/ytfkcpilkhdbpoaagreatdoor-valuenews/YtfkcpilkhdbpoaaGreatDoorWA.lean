import Derived.Test.YtfkcpilkhdbpoaaGreatDoorHA
namespace Go.Proofs.YtfkcpilkhdbpoaaGreatDoor.V
open Go.RowKit
open S6 (Laid Lay)
set_option linter.unusedVariables false
set_option linter.unusedSimpArgs false
set_option maxHeartbeats 1000000 in
set_option maxRecDepth 20000 in
theorem tooMany_pk (b : Nat) (n s wd we z x : Int) (p : ByteArray) (v : Value) (vs : List ByteArray) (w : World) (hv : SRow w v vs) (hz : 0 ≤ z) (hl : z + (vs.length : Int) ≤ 1048576) (hb : w.heap[b]? = some (pkC 142 n s wd we p z x)) : Calls Tryz.prog 69 #[phB b, v] w fun e w' => e = .returned (.bool false) ∧ w' = w := by
  obtain ⟨q, c, rfl⟩ := hv.form
  unfold pkC at hb
  obtain ⟨c0, c1, c2, c3, c4, c5, c6, cf⟩ := row7 hb
  clear hv hb
  unfold phB
  go_enter Tryz.func69, Tryz.ntmps69
  go_wp2
  go_returns
  exact ⟨rfl, rfl⟩
set_option maxHeartbeats 1000000 in
set_option maxRecDepth 20000 in
theorem IndexField_nil (q : Option Addr) (c : Nat) (f : Value) (w : World) : Calls Tryz.prog 581 #[.slice q 0 c, f] w fun e w' => e = .returned (.int .i64 (-1)) ∧ w' = w := by
  go_enter Tryz.func581, Tryz.ntmps581
  go_wp2
  go_rounds 1
  go_wp2
  go_returns
  exact ⟨rfl, rfl⟩
theorem srow_two (W : World) (a v : ByteArray) : SRow (W.alloc (.cells #[.string a, .string v] 9)) (.slice (some ⟨W.heap.size, 0, none⟩) 2 2) [a, v] := by
  have h := one_alloc W (.cells #[.string a, .string v] 9)
  refine Or.inr ⟨W.heap.size, 0, 2, rfl, fun j hj => ?_⟩
  rw [cell_of_row _ _ _ _ _ _ h]
  match j, hj with
  | 0, _ => rfl
  | 1, _ => rfl
set_option maxHeartbeats 4000000 in
set_option maxRecDepth 100000 in
theorem put_refused (b X cx : Nat) (n s : Int) (a v : ByteArray) (hbig : s < (v.size : Int)) (w : World) (hw : Lay w) (hb : w.heap[b]? = some (pkC 142 n s 2 2 EP 0 0)) (hX : w.heap[X]? = some (fC a v)) :
    Calls Tryz.prog 580 #[.pointer (some ⟨b, 0, none⟩), .slice (some ⟨X, 0, none⟩) 1 cx] w fun e w' => e = .returned (.tuple #[.int .i64 0, .int .i64 0]) ∧ w'.heap[b]? = some (pkC 142 n s 2 2 EP 0 0) ∧ Mod b w w' := by
  have HFN : Hid _ := fields_nil b n s 2 2 0 0 w hw hb
  have HB : Hid _ := hb
  have HX : Hid _ := hX
  have HW : Hid (Lay w) := hw
  have HHO : Hid (∀ k v' W, SRow W v' [a, v] → Calls Tryz.prog 237 #[.agg #[.int .i64 n, .int .i64 s], .int .i64 k, v'] W fun e w' => e = .returned (.bool false) ∧ Below W.heap.size W w') := fun k v' W h => by
    have := holds_any n s k v' [a, v] (by simp) W h
    have he : (decide (k ≤ n) && !([a, v].any (bigS s))) = false := by
      have : bigS s v = true := by unfold bigS; simpa using hbig
      simp [this]
    rw [he] at this
    exact this
  obtain ⟨E, hE⟩ : ∃ E, E = EP := ⟨_, rfl⟩
  clear hb hX hw
  go_enter Tryz.func580, Tryz.ntmps580
  go_wp2_with fail
  refine (show Calls _ _ _ _ _ from HFN.out).mono ?_
  rintro e w1 ⟨g, rfl, hb1⟩
  have HB1 : Hid (Below w.heap.size w w1) := hb1
  have hx1 := keep_row HX.out hb1
  unfold fC at hx1
  obtain ⟨x0, x1, xf⟩ := prow2 hx1
  clear hb1 hx1
  go_wp2
  go_loopw [6, 7, 16] (fun ca cd cc wr => ca = .slice (some ⟨g, 0, none⟩) 0 0 ∧ cd = .int .i64 0 ∧ cc = .int .i64 0 ∧ wr = w1) (fun _ _ _ _ => 0)
  case atStart => exact ⟨rfl, rfl, rfl, rfl⟩
  case round =>
    obtain ⟨rfl, rfl, rfl, rfl⟩ := hrel
    obtain ⟨W2, hW2⟩ : ∃ W2, W2 = wr.alloc (.cells #[.string a, .string v] 84) := ⟨_, rfl⟩
    obtain ⟨F, hF⟩ : ∃ F, wr.heap.size = F := ⟨_, rfl⟩
    have HF2 : Hid (W2.heap[F]? = some (.cells #[.string a, .string v] 84)) := by show _ = _; rw [hW2, ← hF]; exact one_alloc _ _
    have HB2 : Hid (Below w.heap.size w W2) := by show Below _ _ _; rw [hW2]; exact HB1.out.alloc HB1.out.size _
    have HIX : Hid (∀ f, Calls Tryz.prog 581 #[.slice (some ⟨g, 0, none⟩) 0 0, f] W2 fun e w' => e = .returned (.int .i64 (-1)) ∧ w' = W2) := fun f => IndexField_nil _ _ f W2
    have HFF : Hid (wr.heap.size = F) := hF
    clear hF
    go_wp2_with fail
    rw [← hW2, HFF.out]
    refine (show Calls _ _ _ _ _ from HIX.out _).mono ?_
    rintro e w3 ⟨rfl, rfl⟩
    clear x0 x1 xf hW2
    have HKS : Hid (∀ W, Below w3.heap.size w3 W → W.cell? ⟨b, 0, none⟩ = some (.int .i64 n) ∧ W.cell? ⟨b, 1, none⟩ = some (.int .i64 s) ∧ W.cell? ⟨F, 0, none⟩ = some (.string a) ∧ W.cell? ⟨F, 1, none⟩ = some (.string v)) := fun W hW => by
      have h1 := keep_row (keep_row HB.out HB2.out) hW
      unfold pkC at h1
      have h2 := keep_row HF2.out hW
      exact ⟨(row7 h1).1, (row7 h1).2.1, (prow2 h2).1, (prow2 h2).2.1⟩
    have hS0 := HKS.out w3 (Below.refl _ _)
    have hSd := HKS.out w3.drew (Below.refl _ _).drew
    go_upto_region 8 with fail
    go_region_held3 (fun W : World => W.cell? ⟨b, 0, none⟩ = some (.int .i64 n) ∧ W.cell? ⟨b, 1, none⟩ = some (.int .i64 s) ∧ W.cell? ⟨F, 0, none⟩ = some (.string a) ∧ W.cell? ⟨F, 1, none⟩ = some (.string v))
      (first | with_reducible exact hS0 | with_reducible exact hSd | with_reducible exact hS4 | exact ⟨cell_a1 hSd.1 _, cell_a1 hSd.2.1 _, cell_a1 hSd.2.2.1 _, cell_a1 hSd.2.2.2 _⟩ | exact ⟨cell_a1 hS0.1 _, cell_a1 hS0.2.1 _, cell_a1 hS0.2.2.1 _, cell_a1 hS0.2.2.2 _⟩)
      (first | (go_at_call 237; refine (show Calls _ _ _ _ _ from HHO.out _ _ _ ((srow_two w3 a v).on (Below.refl _ _).drew)).mono ?_; rintro e w5 ⟨rfl, hb5⟩; have hx5 : Below w3.heap.size w3 w5 := (((Below.refl _ w3).alloc (Nat.le_refl _) _).drew.trans (hb5.mono (by simp))); have hS4 := HKS.out _ hx5))
    all_goals (
      have HB5 : Hid (Below w.heap.size w w5) := HB2.out.trans (hx5.mono HB2.out.size)
      have h5 := keep_row HB.out HB5.out
      have HR5 : Hid (w5.heap[b]? = some (pkC 142 n s 2 2 EP 0 0)) := h5
      clear hS0 hSd hS4 hx5 hb5
      unfold pkC at h5
      obtain ⟨c0, c1, c2, c3, c4, c5, c6, cf⟩ := row7 h5
      clear h5
      have HHN : Hid (∀ q c W, Below w5.heap.size w5 W → Calls Tryz.prog 136 #[.pointer (some ⟨b, 0, none⟩), .slice q 0 c] W fun e w' => e = .returned (.tuple #[]) ∧ w'.heap[b]? = some (pkC 142 n s 2 2 EP 0 0) ∧ Mod b W w') := fun q c W hW => hold_nil 142 b n s 2 2 0 0 (Or.inr rfl) EP q c W (HW.out.on (HB5.out.trans (hW.mono HB5.out.size))) (keep_row HR5.out hW)
      go_upto_region 15 with fail
      clear c0 c1 c2 c3 c4 c5 c6 cf
      go_region_with (first | (go_at_call 72; refine (show Calls _ _ _ _ _ from inTurns_nil _ _ _).mono ?_; rintro e w6 ⟨g6, rfl, hb6⟩; have HX6 : Hid (Below w5.heap.size w5 w6) := ((Below.refl _ _).drew.trans hb6); clear hb6) | (go_at_call 136; refine (show Calls _ _ _ _ _ from HHN.out _ _ _ HX6.out).mono ?_; rintro e w7 ⟨rfl, hb7, hm7⟩)))
    all_goals (
      have H7 : Hid (w7.heap[b]? = some (pkC 142 n s 2 2 EP 0 0) ∧ Mod b w w7) := ⟨hb7, (Mod.of HB5.out).trans ((Mod.of HX6.out).trans hm7)⟩
      clear hb7 hm7
      go_wp2
      go_ret2
      exact ⟨rfl, H7.out⟩)
end Go.Proofs.YtfkcpilkhdbpoaaGreatDoor.V
