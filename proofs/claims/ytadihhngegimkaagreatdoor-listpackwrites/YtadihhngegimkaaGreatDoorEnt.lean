import Derived.Test.YtadihhngegimkaaGreatDoorRdI
namespace Go.Proofs.YtadihhngegimkaaGreatDoor
open Go.RowKit
set_option linter.unusedVariables false
def encE (it : LM.Item) (a n : Nat) : Value := .agg #[.string (strB it.txt), .int .i64 it.num, .bool it.isN, .int .i64 (a : Int), .int .i64 (n : Int)]
def outE (a : Nat) (o : Option (LM.Item × Nat)) : Option Value := o.map fun x => encE x.1 a x.2
set_option maxHeartbeats 1000000 in
theorem entAt_any (b : ByteArray) (c : Int) (a : Nat) (ha : a < b.size) (hs : b.size ≤ 4294967296) (w : World) (hw : Wid w) :
    Calls Tryz.prog 49 #[.agg #[.string b, .int .i64 c], .int .i64 (a : Int)] w fun e w' => e = out (outE a (LM.rdItem (b.data.toList.drop a))) ∧ Below w.heap.size w w' := by
  obtain ⟨S, hS⟩ : ∃ S, b.extract a b.size = S := ⟨_, rfl⟩
  have hSl : S.data.toList = b.data.toList.drop a := by rw [← hS, ext_any, List.take_of_length_le (by rw [List.length_drop, list_len]; omega)]
  have hSz : S.size = b.size - a := by rw [← hS, ext_size _ _ _ (Nat.le_refl _)]
  have HW : Hid (Wid w) := hw
  have hR := fun W hW => rdI_any S (by omega) (by omega) W hW
  rw [hSl] at hR
  clear hw hSl
  cases hx : LM.rdItem (b.data.toList.drop a) with
  | none =>
    rw [hx] at hR
    have HR : Hid (∀ W, Wid W → Calls Tryz.prog 41 #[.string S] W fun e w' => e = .panicked pch ∧ Below W.heap.size W w') := hR
    clear hR hx
    go_enter Tryz.func49, Tryz.ntmps49
    go_wp2_with fail
    have HB1 : Hid (Below w.heap.size w ((w.alloc (.cells #[.string b, .int .i64 c] 54)).alloc (.cells #[.string ⟨#[]⟩, .int .i64 0, .bool false, .int .i64 0, .int .i64 0] 63))) := ((Below.refl _ w).alloc (Nat.le_refl _) _).alloc (by simp) _
    refine (show Calls _ _ _ _ _ from HR.out _ (HW.out.on HB1.out)).mono ?_
    rintro e w2 ⟨rfl, hb2⟩
    exact ⟨rfl, rfl, bel_to HB1.out hb2 (Nat.le_refl _)⟩
  | some x =>
    obtain ⟨⟨t, m, q⟩, n⟩ := x
    obtain ⟨T, hTT⟩ : ∃ T, strB t = T := ⟨_, rfl⟩
    have HO : Hid (out (outE a (some ((⟨t, m, q⟩ : LM.Item), n))) = .returned (.agg #[.string T, .int .i64 m, .bool q, .int .i64 (a : Int), .int .i64 (n : Int)])) := by show _ = _; rw [← hTT]; rfl
    rw [hx] at hR
    have HR : Hid (∀ W, Wid W → Calls Tryz.prog 41 #[.string S] W fun e w' => e = .returned (.tuple #[.agg #[.string T, .int .i64 m, .bool q], .int .i64 (n : Int)]) ∧ Below W.heap.size W w') := fun W hW => by
      rw [← hTT]; exact hR W hW
    clear hR hx hTT
    go_enter Tryz.func49, Tryz.ntmps49
    go_wp2_with fail
    have HB1 : Hid (Below w.heap.size w ((w.alloc (.cells #[.string b, .int .i64 c] 54)).alloc (.cells #[.string ⟨#[]⟩, .int .i64 0, .bool false, .int .i64 0, .int .i64 0] 63))) := ((Below.refl _ w).alloc (Nat.le_refl _) _).alloc (by simp) _
    have HG1 : Hid (((w.alloc (.cells #[.string b, .int .i64 c] 54)).alloc (.cells #[.string ⟨#[]⟩, .int .i64 0, .bool false, .int .i64 0, .int .i64 0] 63)).heap[w.heap.size + 1]? = some (.cells #[.string ⟨#[]⟩, .int .i64 0, .bool false, .int .i64 0, .int .i64 0] 63)) := by
      have := one_alloc (w.alloc (.cells #[.string b, .int .i64 c] 54)) (.cells #[.string ⟨#[]⟩, .int .i64 0, .bool false, .int .i64 0, .int .i64 0] 63)
      rwa [World.size_alloc] at this
    refine (show Calls _ _ _ _ _ from HR.out _ (HW.out.on HB1.out)).mono ?_
    rintro e w2 ⟨rfl, hb2⟩
    have HG2 : Hid (w2.heap[w.heap.size + 1]? = some (.cells #[.string ⟨#[]⟩, .int .i64 0, .bool false, .int .i64 0, .int .i64 0] 63)) := keep_row HG1.out hb2
    have HB2 : Hid (Below w.heap.size w w2) := bel_to HB1.out hb2 (Nat.le_refl _)
    obtain ⟨d0, d1, d2, d3, d4, df⟩ := row5 HG2.out
    have hz : w.heap.size + 1 < w2.heap.size := row_lt HG2.out
    clear hb2
    go_wp2
    obtain ⟨hF5, hO5⟩ := heap_set5 w2 (w.heap.size + 1) 63 _ _ _ _ _ (.string T) (.int .i64 m) (.bool q) (.int .i64 (a : Int)) (.int .i64 (n : Int)) HG2.out
    generalize ((((w2.setCell ⟨w.heap.size + 1, 0, none⟩ (.string T)).setCell ⟨w.heap.size + 1, 1, none⟩ (.int .i64 m)).setCell ⟨w.heap.size + 1, 2, none⟩ (.bool q)).setCell ⟨w.heap.size + 1, 3, none⟩ (.int .i64 (a : Int))).setCell ⟨w.heap.size + 1, 4, none⟩ (.int .i64 (n : Int)) = W3 at hF5 hO5 ⊢
    have hF6 := keep_row hF5 ((Below.refl _ W3).alloc (Nat.le_refl _) (.cells #[.string T, .int .i64 m, .bool q] 61))
    have hB6 : Below w.heap.size w (W3.alloc (.cells #[.string T, .int .i64 m, .bool q] 61)) := (HB2.out.trans (hO5.below (by omega))).alloc (by have := row_lt hF5; omega) _
    generalize W3.alloc (.cells #[.string T, .int .i64 m, .bool q] 61) = W4 at hF6 hB6 ⊢
    obtain ⟨k0, k1, k2, k3, k4, kf⟩ := row5 hF6
    refine bodyPost_ret (v := .agg #[.string T, .int .i64 m, .bool q, .int .i64 (a : Int), .int .i64 (n : Int)]) (by simp [results, Tryz.results49, go_sem, k0, k1, k2, k3, k4]) rfl ⟨?_, hB6⟩
    rw [HO.out]
end Go.Proofs.YtadihhngegimkaaGreatDoor
