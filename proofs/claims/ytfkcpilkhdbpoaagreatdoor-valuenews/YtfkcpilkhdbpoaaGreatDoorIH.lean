import Derived.Test.YtfkcpilkhdbpoaaGreatDoorIB
import Derived.Test.YtfkcpilkhdbpoaaGreatDoorAI
namespace Go.Proofs.YtfkcpilkhdbpoaaGreatDoor.V
open Go.RowKit S5.IM
open S6 (Laid Lay)
set_option linter.unusedVariables false
set_option linter.unusedSimpArgs false
set_option maxRecDepth 20000 in
theorem rat_nil (s : ByteArray) (w : World) : Calls Tryz.prog 116 #[.slice none 0 0, .string s] w fun e w' => e = .returned (.int .i64 (-1)) ∧ w' = w := by
  go_enter Tryz.func116, Tryz.ntmps116
  go_wp2
  go_rounds 1
  go_wp2
  go_returns
  exact ⟨rfl, rfl⟩
set_option maxRecDepth 20000 in
theorem rrising_nil  (w : World) : Calls Tryz.prog 112 #[.slice none 0 0] w fun e w' => e = .returned (.slice none 0 0) ∧ w' = w := by
  go_enter Tryz.func112, Tryz.ntmps112
  go_wp2
  go_rounds 1
  go_wp2
  go_returns
  exact ⟨rfl, rfl⟩
set_option maxRecDepth 20000 in
theorem rpart_nil (i n : Int) (w : World) : Calls Tryz.prog 187 #[.slice none 0 0, .int .i64 i, .int .i64 n] w fun e w' => e = .returned (.slice none 0 0) ∧ w' = w := by
  go_enter Tryz.func187, Tryz.ntmps187
  go_wp2
  go_rounds 1
  go_wp2
  go_returns
  exact ⟨rfl, rfl⟩
set_option maxRecDepth 20000 in
theorem rElem_nil (a b : Int) (w : World) : Calls Tryz.prog 108 #[.agg #[.int .i64 a, .int .i64 b, .slice none 0 0]] w fun e w' => e = .returned (.slice none 0 0) ∧ Below w.heap.size w w' := by
  go_enter Tryz.func108, Tryz.ntmps108
  go_wp2
  go_rounds 1
  go_wp2
  go_returns
  exact ⟨rfl, by go_grown⟩
set_option maxRecDepth 20000 in
theorem rNodes_nil (a b : Int) (w : World) : Calls Tryz.prog 109 #[.agg #[.int .i64 a, .int .i64 b, .slice none 0 0]] w fun e w' => e = .returned (.slice none 0 0) ∧ Below w.heap.size w w' := by
  go_enter Tryz.func109, Tryz.ntmps109
  go_wp2
  go_rounds 1
  go_wp2
  go_returns
  exact ⟨rfl, by go_grown⟩
set_option maxRecDepth 20000 in
theorem rLen7_nil (a b : Int) (w : World) : Calls Tryz.prog 83 #[.agg #[.int .i64 a, .int .i64 b, .slice none 0 0]] w fun e w' => e = .returned (.int .i64 0) ∧ Below w.heap.size w w' := by
  obtain ⟨W1, hW1⟩ : ∃ W1, W1 = w.alloc (.cells #[.int .i64 a, .int .i64 b, .slice none 0 0] 46) := ⟨_, rfl⟩
  have HB : Hid (Below w.heap.size w W1) := by rw [hW1]; exact (Below.refl _ _).alloc (Nat.le_refl _) _
  go_enter Tryz.func83, Tryz.ntmps83
  go_wp2_with fail
  rw [← hW1]
  refine (show Calls _ _ _ _ _ from rElem_nil _ _ _).mono ?_
  rintro e w2 ⟨rfl, hb2⟩
  have HB2 : Hid (Below w.heap.size w w2) := HB.out.trans (hb2.mono HB.out.size)
  clear hb2 hW1
  go_wp2
  go_returns
  exact ⟨rfl, HB2.out⟩
set_option maxRecDepth 20000 in
theorem rAt7_nil (a b : Int) (w : World) : Calls Tryz.prog 114 #[.agg #[.int .i64 a, .int .i64 b, .slice none 0 0], .int .i64 0] w fun e w' => e = .returned (.tuple #[.string ⟨#[]⟩, .bool false]) ∧ Below w.heap.size w w' := by
  obtain ⟨W1, hW1⟩ : ∃ W1, W1 = w.alloc (.cells #[.int .i64 a, .int .i64 b, .slice none 0 0] 46) := ⟨_, rfl⟩
  have HB : Hid (Below w.heap.size w W1) := by rw [hW1]; exact (Below.refl _ _).alloc (Nat.le_refl _) _
  go_enter Tryz.func114, Tryz.ntmps114
  go_wp2_with fail
  rw [← hW1]
  refine (show Calls _ _ _ _ _ from rElem_nil _ _ _).mono ?_
  rintro e w2 ⟨rfl, hb2⟩
  have HB2 : Hid (Below w.heap.size w w2) := HB.out.trans (hb2.mono HB.out.size)
  clear hb2 hW1
  go_wp2
  go_returns
  exact ⟨rfl, HB2.out⟩
end Go.Proofs.YtfkcpilkhdbpoaaGreatDoor.V
namespace Go.Proofs.YtfkcpilkhdbpoaaGreatDoor.V
open Go.RowKit S5.IM
open S6 (Laid Lay)
set_option linter.unusedVariables false
set_option linter.unusedSimpArgs false
set_option maxRecDepth 20000 in
theorem rpairs_nil (C : Array Value) (k a b : Int) (en it : ByteArray) (hC : RV C (k) a b (en) it)   (w : World)  : Calls Tryz.prog 111 #[.agg C, .slice none 0 0] w fun e w' => e = .returned (.slice none 0 0) ∧ Below w.heap.size w w' := by
  skip
  obtain ⟨W1, hW1⟩ : ∃ W1, W1 = w.alloc (.cells C 53) := ⟨_, rfl⟩
  obtain ⟨r, hr⟩ : ∃ r, w.heap.size = r := ⟨_, rfl⟩
  have HB : Hid (Below w.heap.size w W1) := by rw [hW1]; exact (Below.refl _ _).alloc (Nat.le_refl _) _
  have HR : Hid (W1.heap[r]? = some (.cells C 53)) := by rw [hW1, ← hr]; exact one_alloc _ _
  have HC : Hid (RV C (k) a b (en) it) := hC
  have HRR : Hid (w.heap.size = r) := hr
  clear hr hC
  go_enter Tryz.func111, Tryz.ntmps111
  go_upto_region 1 with fail
  rw [← hW1, HRR.out]
  clear hW1
  obtain ⟨c0, c10, c11, c14, c15, c16, c17, c18, l1, l2, l3, l4, FF⟩ := facts HC.out HR.out
  go_wp2
  go_rounds 1
  go_wp2
  go_returns
  exact ⟨rfl, HB.out⟩
set_option maxRecDepth 20000 in
theorem rall_nil (C : Array Value) (k a b : Int) (en it : ByteArray) (hC : RV C (k) a b (en) it)  (bk : Bool) (w : World)  : Calls Tryz.prog 188 #[.agg C, .bool bk] w fun e w' => e = .returned (.slice none 0 0) ∧ Below w.heap.size w w' := by
  skip
  obtain ⟨W1, hW1⟩ : ∃ W1, W1 = w.alloc (.cells C 53) := ⟨_, rfl⟩
  obtain ⟨r, hr⟩ : ∃ r, w.heap.size = r := ⟨_, rfl⟩
  have HB : Hid (Below w.heap.size w W1) := by rw [hW1]; exact (Below.refl _ _).alloc (Nat.le_refl _) _
  have HR : Hid (W1.heap[r]? = some (.cells C 53)) := by rw [hW1, ← hr]; exact one_alloc _ _
  have HC : Hid (RV C (k) a b (en) it) := hC
  have HRR : Hid (w.heap.size = r) := hr
  clear hr hC
  go_enter Tryz.func188, Tryz.ntmps188
  go_upto_region 1 with fail
  rw [← hW1, HRR.out]
  clear hW1
  obtain ⟨c0, c10, c11, c14, c15, c16, c17, c18, l1, l2, l3, l4, FF⟩ := facts HC.out HR.out
  go_wp2
  go_rounds 1
  go_wp2
  go_returns
  exact ⟨rfl, HB.out⟩
set_option maxRecDepth 20000 in
theorem rexp_lp (C : Array Value) (k a b : Int) (en it : ByteArray) (hC : RV C (k) a b (⟨#[108, 105, 115, 116, 112, 97, 99, 107]⟩) it)   (w : World)  : Calls Tryz.prog 192 #[.agg C] w fun e w' => e = .returned (.bool false) ∧ Below w.heap.size w w' := by
  skip
  obtain ⟨W1, hW1⟩ : ∃ W1, W1 = w.alloc (.cells C 53) := ⟨_, rfl⟩
  obtain ⟨r, hr⟩ : ∃ r, w.heap.size = r := ⟨_, rfl⟩
  have HB : Hid (Below w.heap.size w W1) := by rw [hW1]; exact (Below.refl _ _).alloc (Nat.le_refl _) _
  have HR : Hid (W1.heap[r]? = some (.cells C 53)) := by rw [hW1, ← hr]; exact one_alloc _ _
  have HC : Hid (RV C (k) a b (⟨#[108, 105, 115, 116, 112, 97, 99, 107]⟩) it) := hC
  have HRR : Hid (w.heap.size = r) := hr
  clear hr hC
  go_enter Tryz.func192, Tryz.ntmps192
  go_upto_region 1 with fail
  rw [← hW1, HRR.out]
  clear hW1
  obtain ⟨c0, c10, c11, c14, c15, c16, c17, c18, l1, l2, l3, l4, FF⟩ := facts HC.out HR.out
  go_wp2
  go_returns
  exact ⟨rfl, HB.out⟩
set_option maxRecDepth 20000 in
theorem rexp_is (C : Array Value) (k a b : Int) (en it : ByteArray) (hC : RV C (k) a b (⟨#[105, 110, 116, 115, 101, 116]⟩) it)   (w : World)  : Calls Tryz.prog 192 #[.agg C] w fun e w' => e = .returned (.bool false) ∧ Below w.heap.size w w' := by
  skip
  obtain ⟨W1, hW1⟩ : ∃ W1, W1 = w.alloc (.cells C 53) := ⟨_, rfl⟩
  obtain ⟨r, hr⟩ : ∃ r, w.heap.size = r := ⟨_, rfl⟩
  have HB : Hid (Below w.heap.size w W1) := by rw [hW1]; exact (Below.refl _ _).alloc (Nat.le_refl _) _
  have HR : Hid (W1.heap[r]? = some (.cells C 53)) := by rw [hW1, ← hr]; exact one_alloc _ _
  have HC : Hid (RV C (k) a b (⟨#[105, 110, 116, 115, 101, 116]⟩) it) := hC
  have HRR : Hid (w.heap.size = r) := hr
  clear hr hC
  go_enter Tryz.func192, Tryz.ntmps192
  go_upto_region 1 with fail
  rw [← hW1, HRR.out]
  clear hW1
  obtain ⟨c0, c10, c11, c14, c15, c16, c17, c18, l1, l2, l3, l4, FF⟩ := facts HC.out HR.out
  go_wp2
  go_returns
  exact ⟨rfl, HB.out⟩
set_option maxRecDepth 20000 in
theorem rHas_nil (C : Array Value) (k a b : Int) (en it : ByteArray) (hC : RV C (3) a b (en) it)  (s : ByteArray) (w : World) (hn : ∀ W, Below w.heap.size w W → Calls Tryz.prog 106 #[.agg C] W fun e w' => e = .returned (.slice none 0 0) ∧ Below W.heap.size W w') : Calls Tryz.prog 55 #[.agg C, .string s] w fun e w' => e = .returned (.tuple #[.bool false, .int .i64 0]) ∧ Below w.heap.size w w' := by
  have HN : Hid (∀ W, Below w.heap.size w W → Calls Tryz.prog 106 #[.agg C] W fun e w' => e = .returned (.slice none 0 0) ∧ Below W.heap.size W w') := hn
  clear hn
  obtain ⟨W1, hW1⟩ : ∃ W1, W1 = w.alloc (.cells C 53) := ⟨_, rfl⟩
  obtain ⟨r, hr⟩ : ∃ r, w.heap.size = r := ⟨_, rfl⟩
  have HB : Hid (Below w.heap.size w W1) := by rw [hW1]; exact (Below.refl _ _).alloc (Nat.le_refl _) _
  have HR : Hid (W1.heap[r]? = some (.cells C 53)) := by rw [hW1, ← hr]; exact one_alloc _ _
  have HC : Hid (RV C (3) a b (en) it) := hC
  have HRR : Hid (w.heap.size = r) := hr
  clear hr hC
  go_enter Tryz.func55, Tryz.ntmps55
  go_upto_region 1 with fail
  rw [← hW1, HRR.out]
  clear hW1
  obtain ⟨c0, c10, c11, c14, c15, c16, c17, c18, l1, l2, l3, l4, FF⟩ := facts HC.out HR.out
  go_upto_region 3 with fail
  refine wp_region_list ?_
  refine wpList_load_mid rfl 53 _ rfl r 0 rfl C.toList _ FF.1 Tryz.underlying53 rfl FF.2.2 ?_
  rw [Array.toArray_toList]
  have HFF2 : Hid _ := FF
  clear l1 l2 l3 l4 FF
  go_wp2_with fail
  refine (show Calls _ _ _ _ _ from HN.out _ HB.out).mono ?_
  rintro e w2 ⟨rfl, hb2⟩
  have HB2 : Hid (Below w.heap.size w w2) := HB.out.trans (hb2.mono HB.out.size)
  have HR2 : Hid _ := keep_row HR.out hb2
  clear c0 c10 c11 c14 c15 c16 c17 c18 hb2
  obtain ⟨c0, c10, c11, c14, c15, c16, c17, c18, l1, l2, l3, l4, FF⟩ := facts HC.out HR2.out
  have HFF3 : Hid _ := FF
  clear l1 l2 l3 l4 FF
  go_wp2_with fail
  refine (show Calls _ _ _ _ _ from rat_nil _ _).mono ?_
  rintro e w3 ⟨rfl, rfl⟩
  have HB3 : Hid _ := HB2.out
  have HR3 : Hid _ := HR2.out
  clear c0 c10 c11 c14 c15 c16 c17 c18
  obtain ⟨c0, c10, c11, c14, c15, c16, c17, c18, l1, l2, l3, l4, FF⟩ := facts HC.out HR3.out
  go_wp2
  go_returns
  exact ⟨rfl, HB3.out⟩
set_option maxRecDepth 20000 in
theorem rMem_nil (C : Array Value) (k a b : Int) (en it : ByteArray) (hC : RV C (3) a b (en) it)   (w : World) (hn : ∀ W, Below w.heap.size w W → Calls Tryz.prog 106 #[.agg C] W fun e w' => e = .returned (.slice none 0 0) ∧ Below W.heap.size W w') : Calls Tryz.prog 57 #[.agg C] w fun e w' => e = .returned (.tuple #[.slice none 0 0, .int .i64 0]) ∧ Below w.heap.size w w' := by
  have HN : Hid (∀ W, Below w.heap.size w W → Calls Tryz.prog 106 #[.agg C] W fun e w' => e = .returned (.slice none 0 0) ∧ Below W.heap.size W w') := hn
  clear hn
  obtain ⟨W1, hW1⟩ : ∃ W1, W1 = w.alloc (.cells C 53) := ⟨_, rfl⟩
  obtain ⟨r, hr⟩ : ∃ r, w.heap.size = r := ⟨_, rfl⟩
  have HB : Hid (Below w.heap.size w W1) := by rw [hW1]; exact (Below.refl _ _).alloc (Nat.le_refl _) _
  have HR : Hid (W1.heap[r]? = some (.cells C 53)) := by rw [hW1, ← hr]; exact one_alloc _ _
  have HC : Hid (RV C (3) a b (en) it) := hC
  have HRR : Hid (w.heap.size = r) := hr
  clear hr hC
  go_enter Tryz.func57, Tryz.ntmps57
  go_upto_region 1 with fail
  rw [← hW1, HRR.out]
  clear hW1
  obtain ⟨c0, c10, c11, c14, c15, c16, c17, c18, l1, l2, l3, l4, FF⟩ := facts HC.out HR.out
  go_upto_region 3 with fail
  refine wp_region_list ?_
  refine wpList_load_mid rfl 53 _ rfl r 0 rfl C.toList _ FF.1 Tryz.underlying53 rfl FF.2.2 ?_
  rw [Array.toArray_toList]
  have HFF2 : Hid _ := FF
  clear l1 l2 l3 l4 FF
  go_wp2_with fail
  refine (show Calls _ _ _ _ _ from HN.out _ HB.out).mono ?_
  rintro e w2 ⟨rfl, hb2⟩
  have HB2 : Hid (Below w.heap.size w w2) := HB.out.trans (hb2.mono HB.out.size)
  have HR2 : Hid _ := keep_row HR.out hb2
  clear c0 c10 c11 c14 c15 c16 c17 c18 hb2
  obtain ⟨c0, c10, c11, c14, c15, c16, c17, c18, l1, l2, l3, l4, FF⟩ := facts HC.out HR2.out
  have HFF3 : Hid _ := FF
  clear l1 l2 l3 l4 FF
  go_wp2_with fail
  refine (show Calls _ _ _ _ _ from rrising_nil _).mono ?_
  rintro e w3 ⟨rfl, rfl⟩
  have HB3 : Hid _ := HB2.out
  have HR3 : Hid _ := HR2.out
  clear c0 c10 c11 c14 c15 c16 c17 c18
  obtain ⟨c0, c10, c11, c14, c15, c16, c17, c18, l1, l2, l3, l4, FF⟩ := facts HC.out HR3.out
  go_wp2
  go_returns
  exact ⟨rfl, HB3.out⟩
set_option maxRecDepth 20000 in
theorem rField_nil (C : Array Value) (k a b : Int) (en it : ByteArray) (hC : RV C (5) a b (en) it)  (s : ByteArray) (w : World)  : Calls Tryz.prog 58 #[.agg C, .string s] w fun e w' => e = .returned (.tuple #[.string ⟨#[]⟩, .bool false, .int .i64 0]) ∧ Below w.heap.size w w' := by
  skip
  obtain ⟨W1, hW1⟩ : ∃ W1, W1 = w.alloc (.cells C 53) := ⟨_, rfl⟩
  obtain ⟨r, hr⟩ : ∃ r, w.heap.size = r := ⟨_, rfl⟩
  have HB : Hid (Below w.heap.size w W1) := by rw [hW1]; exact (Below.refl _ _).alloc (Nat.le_refl _) _
  have HR : Hid (W1.heap[r]? = some (.cells C 53)) := by rw [hW1, ← hr]; exact one_alloc _ _
  have HC : Hid (RV C (5) a b (en) it) := hC
  have HRR : Hid (w.heap.size = r) := hr
  clear hr hC
  go_enter Tryz.func58, Tryz.ntmps58
  go_upto_region 1 with fail
  rw [← hW1, HRR.out]
  clear hW1
  obtain ⟨c0, c10, c11, c14, c15, c16, c17, c18, l1, l2, l3, l4, FF⟩ := facts HC.out HR.out
  have HFF2 : Hid _ := FF
  clear l1 l2 l3 l4 FF
  go_wp2_with fail
  refine (show Calls _ _ _ _ _ from rat_nil _ _).mono ?_
  rintro e w2 ⟨rfl, rfl⟩
  have HB2 : Hid _ := HB.out
  have HR2 : Hid _ := HR.out
  clear c0 c10 c11 c14 c15 c16 c17 c18
  obtain ⟨c0, c10, c11, c14, c15, c16, c17, c18, l1, l2, l3, l4, FF⟩ := facts HC.out HR2.out
  go_wp2
  go_returns
  exact ⟨rfl, HB2.out⟩
set_option maxRecDepth 20000 in
theorem rFields_nil (C : Array Value) (k a b : Int) (en it : ByteArray) (hC : RV C (5) a b (en) it)   (w : World)  : Calls Tryz.prog 60 #[.agg C] w fun e w' => e = .returned (.tuple #[.slice none 0 0, .int .i64 0]) ∧ Below w.heap.size w w' := by
  skip
  obtain ⟨W1, hW1⟩ : ∃ W1, W1 = w.alloc (.cells C 53) := ⟨_, rfl⟩
  obtain ⟨r, hr⟩ : ∃ r, w.heap.size = r := ⟨_, rfl⟩
  have HB : Hid (Below w.heap.size w W1) := by rw [hW1]; exact (Below.refl _ _).alloc (Nat.le_refl _) _
  have HR : Hid (W1.heap[r]? = some (.cells C 53)) := by rw [hW1, ← hr]; exact one_alloc _ _
  have HC : Hid (RV C (5) a b (en) it) := hC
  have HRR : Hid (w.heap.size = r) := hr
  clear hr hC
  go_enter Tryz.func60, Tryz.ntmps60
  go_upto_region 1 with fail
  rw [← hW1, HRR.out]
  clear hW1
  obtain ⟨c0, c10, c11, c14, c15, c16, c17, c18, l1, l2, l3, l4, FF⟩ := facts HC.out HR.out
  have HFF2 : Hid _ := FF
  clear l1 l2 l3 l4 FF
  go_wp2_with fail
  refine (show Calls _ _ _ _ _ from rrising_nil _).mono ?_
  rintro e w2 ⟨rfl, rfl⟩
  have HB2 : Hid _ := HB.out
  have HR2 : Hid _ := HR.out
  clear c0 c10 c11 c14 c15 c16 c17 c18
  obtain ⟨c0, c10, c11, c14, c15, c16, c17, c18, l1, l2, l3, l4, FF⟩ := facts HC.out HR2.out
  go_wp2
  go_rounds 1
  go_wp2
  go_returns
  exact ⟨rfl, HB2.out⟩
set_option maxRecDepth 20000 in
theorem rScore_nil (C : Array Value) (k a b : Int) (en it : ByteArray) (hC : RV C (4) a b (en) it)  (s : ByteArray) (w : World)  : Calls Tryz.prog 120 #[.agg C, .string s] w fun e w' => e = .returned (.tuple #[.int .i64 0, .bool false, .int .i64 0]) ∧ Below w.heap.size w w' := by
  skip
  obtain ⟨W1, hW1⟩ : ∃ W1, W1 = w.alloc (.cells C 53) := ⟨_, rfl⟩
  obtain ⟨r, hr⟩ : ∃ r, w.heap.size = r := ⟨_, rfl⟩
  have HB : Hid (Below w.heap.size w W1) := by rw [hW1]; exact (Below.refl _ _).alloc (Nat.le_refl _) _
  have HR : Hid (W1.heap[r]? = some (.cells C 53)) := by rw [hW1, ← hr]; exact one_alloc _ _
  have HC : Hid (RV C (4) a b (en) it) := hC
  have HRR : Hid (w.heap.size = r) := hr
  clear hr hC
  go_enter Tryz.func120, Tryz.ntmps120
  go_upto_region 1 with fail
  rw [← hW1, HRR.out]
  clear hW1
  obtain ⟨c0, c10, c11, c14, c15, c16, c17, c18, l1, l2, l3, l4, FF⟩ := facts HC.out HR.out
  have HFF2 : Hid _ := FF
  clear l1 l2 l3 l4 FF
  go_wp2_with fail
  refine (show Calls _ _ _ _ _ from rat_nil _ _).mono ?_
  rintro e w2 ⟨rfl, rfl⟩
  have HB2 : Hid _ := HB.out
  have HR2 : Hid _ := HR.out
  clear c0 c10 c11 c14 c15 c16 c17 c18
  obtain ⟨c0, c10, c11, c14, c15, c16, c17, c18, l1, l2, l3, l4, FF⟩ := facts HC.out HR2.out
  go_wp2
  go_returns
  exact ⟨rfl, HB2.out⟩
set_option maxRecDepth 20000 in
theorem rRank_nil (C : Array Value) (k a b : Int) (en it : ByteArray) (hC : RV C (4) a b (en) it)  (s : ByteArray) (bk : Bool) (w : World)  : Calls Tryz.prog 122 #[.agg C, .string s, .bool bk] w fun e w' => e = .returned (.tuple #[.int .i64 0, .bool false, .int .i64 0]) ∧ Below w.heap.size w w' := by
  skip
  obtain ⟨W1, hW1⟩ : ∃ W1, W1 = w.alloc (.cells C 53) := ⟨_, rfl⟩
  obtain ⟨r, hr⟩ : ∃ r, w.heap.size = r := ⟨_, rfl⟩
  have HB : Hid (Below w.heap.size w W1) := by rw [hW1]; exact (Below.refl _ _).alloc (Nat.le_refl _) _
  have HR : Hid (W1.heap[r]? = some (.cells C 53)) := by rw [hW1, ← hr]; exact one_alloc _ _
  have HC : Hid (RV C (4) a b (en) it) := hC
  have HRR : Hid (w.heap.size = r) := hr
  clear hr hC
  go_enter Tryz.func122, Tryz.ntmps122
  go_upto_region 1 with fail
  rw [← hW1, HRR.out]
  clear hW1
  obtain ⟨c0, c10, c11, c14, c15, c16, c17, c18, l1, l2, l3, l4, FF⟩ := facts HC.out HR.out
  have HFF2 : Hid _ := FF
  clear l1 l2 l3 l4 FF
  go_wp2_with fail
  refine (show Calls _ _ _ _ _ from rat_nil _ _).mono ?_
  rintro e w2 ⟨rfl, rfl⟩
  have HB2 : Hid _ := HB.out
  have HR2 : Hid _ := HR.out
  clear c0 c10 c11 c14 c15 c16 c17 c18
  obtain ⟨c0, c10, c11, c14, c15, c16, c17, c18, l1, l2, l3, l4, FF⟩ := facts HC.out HR2.out
  go_wp2
  go_returns
  exact ⟨rfl, HB2.out⟩
set_option maxRecDepth 20000 in
theorem rByRank_nil (C : Array Value) (k a b : Int) (en it : ByteArray) (hC : RV C (4) a b (en) it)  (bk : Bool) (w : World)  : Calls Tryz.prog 124 #[.agg C, .int .i64 0, .int .i64 5, .bool bk] w fun e w' => e = .returned (.tuple #[.slice none 0 0, .int .i64 0]) ∧ Below w.heap.size w w' := by
  skip
  obtain ⟨W1, hW1⟩ : ∃ W1, W1 = w.alloc (.cells C 53) := ⟨_, rfl⟩
  obtain ⟨r, hr⟩ : ∃ r, w.heap.size = r := ⟨_, rfl⟩
  have HB : Hid (Below w.heap.size w W1) := by rw [hW1]; exact (Below.refl _ _).alloc (Nat.le_refl _) _
  have HR : Hid (W1.heap[r]? = some (.cells C 53)) := by rw [hW1, ← hr]; exact one_alloc _ _
  have HC : Hid (RV C (4) a b (en) it) := hC
  have HRR : Hid (w.heap.size = r) := hr
  clear hr hC
  go_enter Tryz.func124, Tryz.ntmps124
  go_upto_region 1 with fail
  rw [← hW1, HRR.out]
  clear hW1
  obtain ⟨c0, c10, c11, c14, c15, c16, c17, c18, l1, l2, l3, l4, FF⟩ := facts HC.out HR.out
  go_upto_region 5 with fail
  refine wp_region_list ?_
  refine wpList_load_mid rfl 53 _ rfl r 0 rfl C.toList _ FF.1 Tryz.underlying53 rfl FF.2.2 ?_
  rw [Array.toArray_toList]
  have HFF2 : Hid _ := FF
  clear l1 l2 l3 l4 FF
  go_wp2_with fail
  refine (show Calls _ _ _ _ _ from rall_nil C _ _ _ _ _ HC.out _ _).mono ?_
  rintro e w2 ⟨rfl, hb2⟩
  have HB2 : Hid (Below w.heap.size w w2) := HB.out.trans (hb2.mono HB.out.size)
  have HR2 : Hid _ := keep_row HR.out hb2
  clear c0 c10 c11 c14 c15 c16 c17 c18 hb2
  obtain ⟨c0, c10, c11, c14, c15, c16, c17, c18, l1, l2, l3, l4, FF⟩ := facts HC.out HR2.out
  have HFF3 : Hid _ := FF
  clear l1 l2 l3 l4 FF
  go_wp2_with fail
  refine (show Calls _ _ _ _ _ from rpart_nil _ _ _).mono ?_
  rintro e w3 ⟨rfl, rfl⟩
  have HB3 : Hid _ := HB2.out
  have HR3 : Hid _ := HR2.out
  clear c0 c10 c11 c14 c15 c16 c17 c18
  obtain ⟨c0, c10, c11, c14, c15, c16, c17, c18, l1, l2, l3, l4, FF⟩ := facts HC.out HR3.out
  go_wp2
  go_returns
  exact ⟨rfl, HB3.out⟩
set_option maxRecDepth 20000 in
theorem rLen7_list (C : Array Value) (k a b : Int) (en it : ByteArray) (hC : RV C (2) a b (en) it)   (w : World)  : Calls Tryz.prog 44 #[.agg C] w fun e w' => e = .returned (.int .i64 0) ∧ Below w.heap.size w w' := by
  skip
  obtain ⟨W1, hW1⟩ : ∃ W1, W1 = w.alloc (.cells C 53) := ⟨_, rfl⟩
  obtain ⟨r, hr⟩ : ∃ r, w.heap.size = r := ⟨_, rfl⟩
  have HB : Hid (Below w.heap.size w W1) := by rw [hW1]; exact (Below.refl _ _).alloc (Nat.le_refl _) _
  have HR : Hid (W1.heap[r]? = some (.cells C 53)) := by rw [hW1, ← hr]; exact one_alloc _ _
  have HC : Hid (RV C (2) a b (en) it) := hC
  have HRR : Hid (w.heap.size = r) := hr
  clear hr hC
  go_enter Tryz.func44, Tryz.ntmps44
  go_upto_region 1 with fail
  rw [← hW1, HRR.out]
  clear hW1
  obtain ⟨c0, c10, c11, c14, c15, c16, c17, c18, l1, l2, l3, l4, FF⟩ := facts HC.out HR.out
  go_upto_region 5 with fail
  refine wp_region_list ?_
  refine wpList_val rfl (v := .pointer (some ⟨r, 12, none⟩)) rfl ?_
  refine wpList_load_mid rfl 46 _ rfl r 12 rfl _ _ FF.2.1 Tryz.underlying46 rfl i46 ?_
  have HFF2 : Hid _ := FF
  clear l1 l2 l3 l4 FF
  go_wp2_with fail
  refine (show Calls _ _ _ _ _ from rLen7_nil _ _ _).mono ?_
  rintro e w2 ⟨rfl, hb2⟩
  have HB2 : Hid (Below w.heap.size w w2) := HB.out.trans (hb2.mono HB.out.size)
  have HR2 : Hid _ := keep_row HR.out hb2
  clear c0 c10 c11 c14 c15 c16 c17 c18 hb2
  obtain ⟨c0, c10, c11, c14, c15, c16, c17, c18, l1, l2, l3, l4, FF⟩ := facts HC.out HR2.out
  go_wp2
  go_returns
  exact ⟨rfl, HB2.out⟩
end Go.Proofs.YtfkcpilkhdbpoaaGreatDoor.V
namespace Go.Proofs.YtfkcpilkhdbpoaaGreatDoor.V
open Go.RowKit S5.IM
open S6 (Laid Lay)
set_option linter.unusedVariables false
set_option linter.unusedSimpArgs false
set_option maxRecDepth 20000 in
theorem rScan_3 (C : Array Value) (k a b : Int) (en it : ByteArray) (hC : RV C (3) a b (⟨#[105, 110, 116, 115, 101, 116]⟩) it)  (i n : Int) (w : World) (hn : ∀ W, Below w.heap.size w W → Calls Tryz.prog 106 #[.agg C] W fun e w' => e = .returned (.slice none 0 0) ∧ Below W.heap.size W w') : Calls Tryz.prog 131 #[.agg C, .int .i64 i, .int .i64 n] w fun e w' => e = .returned (.tuple #[.slice none 0 0, .int .i64 0, .int .i64 0]) ∧ Below w.heap.size w w' := by
  have HN : Hid (∀ W, Below w.heap.size w W → Calls Tryz.prog 106 #[.agg C] W fun e w' => e = .returned (.slice none 0 0) ∧ Below W.heap.size W w') := hn
  clear hn
  obtain ⟨W1, hW1⟩ : ∃ W1, W1 = w.alloc (.cells C 53) := ⟨_, rfl⟩
  obtain ⟨r, hr⟩ : ∃ r, w.heap.size = r := ⟨_, rfl⟩
  have HB : Hid (Below w.heap.size w W1) := by rw [hW1]; exact (Below.refl _ _).alloc (Nat.le_refl _) _
  have HR : Hid (W1.heap[r]? = some (.cells C 53)) := by rw [hW1, ← hr]; exact one_alloc _ _
  have HC : Hid (RV C (3) a b (⟨#[105, 110, 116, 115, 101, 116]⟩) it) := hC
  have HRR : Hid (w.heap.size = r) := hr
  clear hr hC
  go_enter Tryz.func131, Tryz.ntmps131
  go_upto_region 1 with fail
  rw [← hW1, HRR.out]
  clear hW1
  obtain ⟨c0, c10, c11, c14, c15, c16, c17, c18, l1, l2, l3, l4, FF⟩ := facts HC.out HR.out
  go_upto_region 3 with fail
  refine wp_region_list ?_
  refine wpList_load_mid rfl 53 _ rfl r 0 rfl C.toList _ FF.1 Tryz.underlying53 rfl FF.2.2 ?_
  rw [Array.toArray_toList]
  have HFF2 : Hid _ := FF
  clear l1 l2 l3 l4 FF
  go_wp2_with fail
  refine (show Calls _ _ _ _ _ from rexp_is C _ _ _ en _ HC.out _).mono ?_
  rintro e w2 ⟨rfl, hb2⟩
  have HB2 : Hid (Below w.heap.size w w2) := HB.out.trans (hb2.mono HB.out.size)
  have HR2 : Hid _ := keep_row HR.out hb2
  clear c0 c10 c11 c14 c15 c16 c17 c18 hb2
  obtain ⟨c0, c10, c11, c14, c15, c16, c17, c18, l1, l2, l3, l4, FF⟩ := facts HC.out HR2.out
  go_upto_region 7 with fail
  refine wp_region_list ?_
  refine wpList_val rfl (v := .slice none 0 0) rfl ?_
  refine wpList_load_mid rfl 53 _ rfl r 0 rfl C.toList _ FF.1 Tryz.underlying53 rfl FF.2.2 ?_
  rw [Array.toArray_toList]
  have HFF3 : Hid _ := FF
  clear l1 l2 l3 l4 FF
  go_wp2_with fail
  refine (show Calls _ _ _ _ _ from HN.out _ HB2.out).mono ?_
  rintro e w3 ⟨rfl, hb2⟩
  have HB3 : Hid (Below w.heap.size w w3) := HB2.out.trans (hb2.mono HB2.out.size)
  have HR3 : Hid _ := keep_row HR2.out hb2
  clear c0 c10 c11 c14 c15 c16 c17 c18 hb2
  obtain ⟨c0, c10, c11, c14, c15, c16, c17, c18, l1, l2, l3, l4, FF⟩ := facts HC.out HR3.out
  go_wp2
  go_returns
  exact ⟨rfl, HB3.out⟩
set_option maxRecDepth 20000 in
theorem rScan_4 (C : Array Value) (k a b : Int) (en it : ByteArray) (hC : RV C (4) a b (⟨#[108, 105, 115, 116, 112, 97, 99, 107]⟩) it)  (i n : Int) (w : World) (hn : ∀ W, Below w.heap.size w W → Calls Tryz.prog 106 #[.agg C] W fun e w' => e = .returned (.slice none 0 0) ∧ Below W.heap.size W w') : Calls Tryz.prog 131 #[.agg C, .int .i64 i, .int .i64 n] w fun e w' => e = .returned (.tuple #[.slice none 0 0, .int .i64 0, .int .i64 0]) ∧ Below w.heap.size w w' := by
  have HN : Hid (∀ W, Below w.heap.size w W → Calls Tryz.prog 106 #[.agg C] W fun e w' => e = .returned (.slice none 0 0) ∧ Below W.heap.size W w') := hn
  clear hn
  obtain ⟨W1, hW1⟩ : ∃ W1, W1 = w.alloc (.cells C 53) := ⟨_, rfl⟩
  obtain ⟨r, hr⟩ : ∃ r, w.heap.size = r := ⟨_, rfl⟩
  have HB : Hid (Below w.heap.size w W1) := by rw [hW1]; exact (Below.refl _ _).alloc (Nat.le_refl _) _
  have HR : Hid (W1.heap[r]? = some (.cells C 53)) := by rw [hW1, ← hr]; exact one_alloc _ _
  have HC : Hid (RV C (4) a b (⟨#[108, 105, 115, 116, 112, 97, 99, 107]⟩) it) := hC
  have HRR : Hid (w.heap.size = r) := hr
  clear hr hC
  go_enter Tryz.func131, Tryz.ntmps131
  go_upto_region 1 with fail
  rw [← hW1, HRR.out]
  clear hW1
  obtain ⟨c0, c10, c11, c14, c15, c16, c17, c18, l1, l2, l3, l4, FF⟩ := facts HC.out HR.out
  go_upto_region 3 with fail
  refine wp_region_list ?_
  refine wpList_load_mid rfl 53 _ rfl r 0 rfl C.toList _ FF.1 Tryz.underlying53 rfl FF.2.2 ?_
  rw [Array.toArray_toList]
  have HFF2 : Hid _ := FF
  clear l1 l2 l3 l4 FF
  go_wp2_with fail
  refine (show Calls _ _ _ _ _ from rexp_lp C _ _ _ en _ HC.out _).mono ?_
  rintro e w2 ⟨rfl, hb2⟩
  have HB2 : Hid (Below w.heap.size w w2) := HB.out.trans (hb2.mono HB.out.size)
  have HR2 : Hid _ := keep_row HR.out hb2
  clear c0 c10 c11 c14 c15 c16 c17 c18 hb2
  obtain ⟨c0, c10, c11, c14, c15, c16, c17, c18, l1, l2, l3, l4, FF⟩ := facts HC.out HR2.out
  go_upto_region 7 with fail
  refine wp_region_list ?_
  refine wpList_val rfl (v := .slice none 0 0) rfl ?_
  refine wpList_load_mid rfl 53 _ rfl r 0 rfl C.toList _ FF.1 Tryz.underlying53 rfl FF.2.2 ?_
  rw [Array.toArray_toList]
  have HFF3 : Hid _ := FF
  clear l1 l2 l3 l4 FF
  go_wp2_with fail
  refine (show Calls _ _ _ _ _ from HN.out _ HB2.out).mono ?_
  rintro e w3 ⟨rfl, hb2⟩
  have HB3 : Hid (Below w.heap.size w w3) := HB2.out.trans (hb2.mono HB2.out.size)
  have HR3 : Hid _ := keep_row HR2.out hb2
  clear c0 c10 c11 c14 c15 c16 c17 c18 hb2
  obtain ⟨c0, c10, c11, c14, c15, c16, c17, c18, l1, l2, l3, l4, FF⟩ := facts HC.out HR3.out
  go_wp2
  go_returns
  exact ⟨rfl, HB3.out⟩
set_option maxRecDepth 20000 in
theorem rScan_5 (C : Array Value) (k a b : Int) (en it : ByteArray) (hC : RV C (5) a b (⟨#[108, 105, 115, 116, 112, 97, 99, 107]⟩) it)  (i n : Int) (w : World) (hn : ∀ W, Below w.heap.size w W → Calls Tryz.prog 106 #[.agg C] W fun e w' => e = .returned (.slice none 0 0) ∧ Below W.heap.size W w') : Calls Tryz.prog 131 #[.agg C, .int .i64 i, .int .i64 n] w fun e w' => e = .returned (.tuple #[.slice none 0 0, .int .i64 0, .int .i64 0]) ∧ Below w.heap.size w w' := by
  have HN : Hid (∀ W, Below w.heap.size w W → Calls Tryz.prog 106 #[.agg C] W fun e w' => e = .returned (.slice none 0 0) ∧ Below W.heap.size W w') := hn
  clear hn
  obtain ⟨W1, hW1⟩ : ∃ W1, W1 = w.alloc (.cells C 53) := ⟨_, rfl⟩
  obtain ⟨r, hr⟩ : ∃ r, w.heap.size = r := ⟨_, rfl⟩
  have HB : Hid (Below w.heap.size w W1) := by rw [hW1]; exact (Below.refl _ _).alloc (Nat.le_refl _) _
  have HR : Hid (W1.heap[r]? = some (.cells C 53)) := by rw [hW1, ← hr]; exact one_alloc _ _
  have HC : Hid (RV C (5) a b (⟨#[108, 105, 115, 116, 112, 97, 99, 107]⟩) it) := hC
  have HRR : Hid (w.heap.size = r) := hr
  clear hr hC
  go_enter Tryz.func131, Tryz.ntmps131
  go_upto_region 1 with fail
  rw [← hW1, HRR.out]
  clear hW1
  obtain ⟨c0, c10, c11, c14, c15, c16, c17, c18, l1, l2, l3, l4, FF⟩ := facts HC.out HR.out
  go_upto_region 3 with fail
  refine wp_region_list ?_
  refine wpList_load_mid rfl 53 _ rfl r 0 rfl C.toList _ FF.1 Tryz.underlying53 rfl FF.2.2 ?_
  rw [Array.toArray_toList]
  have HFF2 : Hid _ := FF
  clear l1 l2 l3 l4 FF
  go_wp2_with fail
  refine (show Calls _ _ _ _ _ from rexp_lp C _ _ _ en _ HC.out _).mono ?_
  rintro e w2 ⟨rfl, hb2⟩
  have HB2 : Hid (Below w.heap.size w w2) := HB.out.trans (hb2.mono HB.out.size)
  have HR2 : Hid _ := keep_row HR.out hb2
  clear c0 c10 c11 c14 c15 c16 c17 c18 hb2
  obtain ⟨c0, c10, c11, c14, c15, c16, c17, c18, l1, l2, l3, l4, FF⟩ := facts HC.out HR2.out
  go_upto_region 7 with fail
  refine wp_region_list ?_
  refine wpList_val rfl (v := .slice none 0 0) rfl ?_
  refine wpList_load_mid rfl 53 _ rfl r 0 rfl C.toList _ FF.1 Tryz.underlying53 rfl FF.2.2 ?_
  rw [Array.toArray_toList]
  have HFF3 : Hid _ := FF
  clear l1 l2 l3 l4 FF
  go_wp2_with fail
  refine (show Calls _ _ _ _ _ from HN.out _ HB2.out).mono ?_
  rintro e w3 ⟨rfl, hb2⟩
  have HB3 : Hid (Below w.heap.size w w3) := HB2.out.trans (hb2.mono HB2.out.size)
  have HR3 : Hid _ := keep_row HR2.out hb2
  clear c0 c10 c11 c14 c15 c16 c17 c18 hb2
  obtain ⟨c0, c10, c11, c14, c15, c16, c17, c18, l1, l2, l3, l4, FF⟩ := facts HC.out HR3.out
  go_wp2
  go_returns
  exact ⟨rfl, HB3.out⟩
set_option maxRecDepth 20000 in
theorem rSize_1 (C : Array Value) (k a b : Int) (en it : ByteArray) (hC : RV C (1) a b (en) it)   (w : World) (hn : ∀ W, Below w.heap.size w W → Calls Tryz.prog 106 #[.agg C] W fun e w' => e = .returned (.slice none 0 0) ∧ Below W.heap.size W w') : Calls Tryz.prog 46 #[.agg C] w fun e w' => e = .returned (.int .i64 48) ∧ Below w.heap.size w w' := by
  have HN : Hid (∀ W, Below w.heap.size w W → Calls Tryz.prog 106 #[.agg C] W fun e w' => e = .returned (.slice none 0 0) ∧ Below W.heap.size W w') := hn
  clear hn
  obtain ⟨W1, hW1⟩ : ∃ W1, W1 = w.alloc (.cells C 53) := ⟨_, rfl⟩
  obtain ⟨r, hr⟩ : ∃ r, w.heap.size = r := ⟨_, rfl⟩
  have HB : Hid (Below w.heap.size w W1) := by rw [hW1]; exact (Below.refl _ _).alloc (Nat.le_refl _) _
  have HR : Hid (W1.heap[r]? = some (.cells C 53)) := by rw [hW1, ← hr]; exact one_alloc _ _
  have HC : Hid (RV C (1) a b (en) it) := hC
  have HRR : Hid (w.heap.size = r) := hr
  clear hr hC
  go_enter Tryz.func46, Tryz.ntmps46
  go_upto_region 1 with fail
  rw [← hW1, HRR.out]
  clear hW1
  obtain ⟨c0, c10, c11, c14, c15, c16, c17, c18, l1, l2, l3, l4, FF⟩ := facts HC.out HR.out
  go_upto_region 2 with fail
  refine wp_region_list ?_
  refine wpList_load_mid rfl 53 _ rfl r 0 rfl C.toList _ FF.1 Tryz.underlying53 rfl FF.2.2 ?_
  rw [Array.toArray_toList]
  have HFF2 : Hid _ := FF
  clear l1 l2 l3 l4 FF
  go_wp2_with fail
  refine (show Calls _ _ _ _ _ from HN.out _ HB.out).mono ?_
  rintro e w2 ⟨rfl, hb2⟩
  have HB2 : Hid (Below w.heap.size w w2) := HB.out.trans (hb2.mono HB.out.size)
  have HR2 : Hid _ := keep_row HR.out hb2
  clear c0 c10 c11 c14 c15 c16 c17 c18 hb2
  obtain ⟨c0, c10, c11, c14, c15, c16, c17, c18, l1, l2, l3, l4, FF⟩ := facts HC.out HR2.out
  go_wp2
  go_rounds 1
  go_wp2
  go_returns
  exact ⟨rfl, HB2.out⟩
set_option maxRecDepth 20000 in
theorem rSize_3 (C : Array Value) (k a b : Int) (en it : ByteArray) (hC : RV C (3) a b (en) it)   (w : World) (hn : ∀ W, Below w.heap.size w W → Calls Tryz.prog 106 #[.agg C] W fun e w' => e = .returned (.slice none 0 0) ∧ Below W.heap.size W w') : Calls Tryz.prog 46 #[.agg C] w fun e w' => e = .returned (.int .i64 48) ∧ Below w.heap.size w w' := by
  have HN : Hid (∀ W, Below w.heap.size w W → Calls Tryz.prog 106 #[.agg C] W fun e w' => e = .returned (.slice none 0 0) ∧ Below W.heap.size W w') := hn
  clear hn
  obtain ⟨W1, hW1⟩ : ∃ W1, W1 = w.alloc (.cells C 53) := ⟨_, rfl⟩
  obtain ⟨r, hr⟩ : ∃ r, w.heap.size = r := ⟨_, rfl⟩
  have HB : Hid (Below w.heap.size w W1) := by rw [hW1]; exact (Below.refl _ _).alloc (Nat.le_refl _) _
  have HR : Hid (W1.heap[r]? = some (.cells C 53)) := by rw [hW1, ← hr]; exact one_alloc _ _
  have HC : Hid (RV C (3) a b (en) it) := hC
  have HRR : Hid (w.heap.size = r) := hr
  clear hr hC
  go_enter Tryz.func46, Tryz.ntmps46
  go_upto_region 1 with fail
  rw [← hW1, HRR.out]
  clear hW1
  obtain ⟨c0, c10, c11, c14, c15, c16, c17, c18, l1, l2, l3, l4, FF⟩ := facts HC.out HR.out
  go_upto_region 2 with fail
  refine wp_region_list ?_
  refine wpList_load_mid rfl 53 _ rfl r 0 rfl C.toList _ FF.1 Tryz.underlying53 rfl FF.2.2 ?_
  rw [Array.toArray_toList]
  have HFF2 : Hid _ := FF
  clear l1 l2 l3 l4 FF
  go_wp2_with fail
  refine (show Calls _ _ _ _ _ from HN.out _ HB.out).mono ?_
  rintro e w2 ⟨rfl, hb2⟩
  have HB2 : Hid (Below w.heap.size w w2) := HB.out.trans (hb2.mono HB.out.size)
  have HR2 : Hid _ := keep_row HR.out hb2
  clear c0 c10 c11 c14 c15 c16 c17 c18 hb2
  obtain ⟨c0, c10, c11, c14, c15, c16, c17, c18, l1, l2, l3, l4, FF⟩ := facts HC.out HR2.out
  go_wp2
  go_rounds 1
  go_wp2
  go_returns
  exact ⟨rfl, HB2.out⟩
set_option maxRecDepth 20000 in
theorem rSize_4 (C : Array Value) (k a b : Int) (en it : ByteArray) (hC : RV C (4) a b (en) it)   (w : World) (hn : ∀ W, Below w.heap.size w W → Calls Tryz.prog 106 #[.agg C] W fun e w' => e = .returned (.slice none 0 0) ∧ Below W.heap.size W w') : Calls Tryz.prog 46 #[.agg C] w fun e w' => e = .returned (.int .i64 48) ∧ Below w.heap.size w w' := by
  have HN : Hid (∀ W, Below w.heap.size w W → Calls Tryz.prog 106 #[.agg C] W fun e w' => e = .returned (.slice none 0 0) ∧ Below W.heap.size W w') := hn
  clear hn
  obtain ⟨W1, hW1⟩ : ∃ W1, W1 = w.alloc (.cells C 53) := ⟨_, rfl⟩
  obtain ⟨r, hr⟩ : ∃ r, w.heap.size = r := ⟨_, rfl⟩
  have HB : Hid (Below w.heap.size w W1) := by rw [hW1]; exact (Below.refl _ _).alloc (Nat.le_refl _) _
  have HR : Hid (W1.heap[r]? = some (.cells C 53)) := by rw [hW1, ← hr]; exact one_alloc _ _
  have HC : Hid (RV C (4) a b (en) it) := hC
  have HRR : Hid (w.heap.size = r) := hr
  clear hr hC
  go_enter Tryz.func46, Tryz.ntmps46
  go_upto_region 1 with fail
  rw [← hW1, HRR.out]
  clear hW1
  obtain ⟨c0, c10, c11, c14, c15, c16, c17, c18, l1, l2, l3, l4, FF⟩ := facts HC.out HR.out
  go_upto_region 2 with fail
  refine wp_region_list ?_
  refine wpList_load_mid rfl 53 _ rfl r 0 rfl C.toList _ FF.1 Tryz.underlying53 rfl FF.2.2 ?_
  rw [Array.toArray_toList]
  have HFF2 : Hid _ := FF
  clear l1 l2 l3 l4 FF
  go_wp2_with fail
  refine (show Calls _ _ _ _ _ from HN.out _ HB.out).mono ?_
  rintro e w2 ⟨rfl, hb2⟩
  have HB2 : Hid (Below w.heap.size w w2) := HB.out.trans (hb2.mono HB.out.size)
  have HR2 : Hid _ := keep_row HR.out hb2
  clear c0 c10 c11 c14 c15 c16 c17 c18 hb2
  obtain ⟨c0, c10, c11, c14, c15, c16, c17, c18, l1, l2, l3, l4, FF⟩ := facts HC.out HR2.out
  go_wp2
  go_rounds 1
  go_wp2
  go_returns
  exact ⟨rfl, HB2.out⟩
set_option maxRecDepth 20000 in
theorem rSize_5 (C : Array Value) (k a b : Int) (en it : ByteArray) (hC : RV C (5) a b (en) it)   (w : World) (hn : ∀ W, Below w.heap.size w W → Calls Tryz.prog 106 #[.agg C] W fun e w' => e = .returned (.slice none 0 0) ∧ Below W.heap.size W w') : Calls Tryz.prog 46 #[.agg C] w fun e w' => e = .returned (.int .i64 48) ∧ Below w.heap.size w w' := by
  have HN : Hid (∀ W, Below w.heap.size w W → Calls Tryz.prog 106 #[.agg C] W fun e w' => e = .returned (.slice none 0 0) ∧ Below W.heap.size W w') := hn
  clear hn
  obtain ⟨W1, hW1⟩ : ∃ W1, W1 = w.alloc (.cells C 53) := ⟨_, rfl⟩
  obtain ⟨r, hr⟩ : ∃ r, w.heap.size = r := ⟨_, rfl⟩
  have HB : Hid (Below w.heap.size w W1) := by rw [hW1]; exact (Below.refl _ _).alloc (Nat.le_refl _) _
  have HR : Hid (W1.heap[r]? = some (.cells C 53)) := by rw [hW1, ← hr]; exact one_alloc _ _
  have HC : Hid (RV C (5) a b (en) it) := hC
  have HRR : Hid (w.heap.size = r) := hr
  clear hr hC
  go_enter Tryz.func46, Tryz.ntmps46
  go_upto_region 1 with fail
  rw [← hW1, HRR.out]
  clear hW1
  obtain ⟨c0, c10, c11, c14, c15, c16, c17, c18, l1, l2, l3, l4, FF⟩ := facts HC.out HR.out
  go_upto_region 2 with fail
  refine wp_region_list ?_
  refine wpList_load_mid rfl 53 _ rfl r 0 rfl C.toList _ FF.1 Tryz.underlying53 rfl FF.2.2 ?_
  rw [Array.toArray_toList]
  have HFF2 : Hid _ := FF
  clear l1 l2 l3 l4 FF
  go_wp2_with fail
  refine (show Calls _ _ _ _ _ from HN.out _ HB.out).mono ?_
  rintro e w2 ⟨rfl, hb2⟩
  have HB2 : Hid (Below w.heap.size w w2) := HB.out.trans (hb2.mono HB.out.size)
  have HR2 : Hid _ := keep_row HR.out hb2
  clear c0 c10 c11 c14 c15 c16 c17 c18 hb2
  obtain ⟨c0, c10, c11, c14, c15, c16, c17, c18, l1, l2, l3, l4, FF⟩ := facts HC.out HR2.out
  go_wp2
  go_rounds 1
  go_wp2
  go_returns
  exact ⟨rfl, HB2.out⟩
set_option maxRecDepth 20000 in
theorem rSize_2 (C : Array Value) (k a b : Int) (en it : ByteArray) (hC : RV C (2) a b (en) it)   (w : World) (hn : ∀ W, Below w.heap.size w W → Calls Tryz.prog 106 #[.agg C] W fun e w' => e = .returned (.slice none 0 0) ∧ Below W.heap.size W w') : Calls Tryz.prog 46 #[.agg C] w fun e w' => e = .returned (.int .i64 48) ∧ Below w.heap.size w w' := by
  have HN : Hid (∀ W, Below w.heap.size w W → Calls Tryz.prog 106 #[.agg C] W fun e w' => e = .returned (.slice none 0 0) ∧ Below W.heap.size W w') := hn
  clear hn
  obtain ⟨W1, hW1⟩ : ∃ W1, W1 = w.alloc (.cells C 53) := ⟨_, rfl⟩
  obtain ⟨r, hr⟩ : ∃ r, w.heap.size = r := ⟨_, rfl⟩
  have HB : Hid (Below w.heap.size w W1) := by rw [hW1]; exact (Below.refl _ _).alloc (Nat.le_refl _) _
  have HR : Hid (W1.heap[r]? = some (.cells C 53)) := by rw [hW1, ← hr]; exact one_alloc _ _
  have HC : Hid (RV C (2) a b (en) it) := hC
  have HRR : Hid (w.heap.size = r) := hr
  clear hr hC
  go_enter Tryz.func46, Tryz.ntmps46
  go_upto_region 1 with fail
  rw [← hW1, HRR.out]
  clear hW1
  obtain ⟨c0, c10, c11, c14, c15, c16, c17, c18, l1, l2, l3, l4, FF⟩ := facts HC.out HR.out
  go_upto_region 2 with fail
  refine wp_region_list ?_
  refine wpList_load_mid rfl 53 _ rfl r 0 rfl C.toList _ FF.1 Tryz.underlying53 rfl FF.2.2 ?_
  rw [Array.toArray_toList]
  have HFF2 : Hid _ := FF
  clear l1 l2 l3 l4 FF
  go_wp2_with fail
  refine (show Calls _ _ _ _ _ from HN.out _ HB.out).mono ?_
  rintro e w2 ⟨rfl, hb2⟩
  have HB2 : Hid (Below w.heap.size w w2) := HB.out.trans (hb2.mono HB.out.size)
  have HR2 : Hid _ := keep_row HR.out hb2
  clear c0 c10 c11 c14 c15 c16 c17 c18 hb2
  obtain ⟨c0, c10, c11, c14, c15, c16, c17, c18, l1, l2, l3, l4, FF⟩ := facts HC.out HR2.out
  go_upto_region 6 with fail
  refine wp_region_list ?_
  refine wpList_val rfl (v := .pointer (some ⟨r, 12, none⟩)) rfl ?_
  refine wpList_load_mid rfl 46 _ rfl r 12 rfl _ _ FF.2.1 Tryz.underlying46 rfl i46 ?_
  have HFF3 : Hid _ := FF
  clear l1 l2 l3 l4 FF
  go_wp2_with fail
  refine (show Calls _ _ _ _ _ from rElem_nil _ _ _).mono ?_
  rintro e w3 ⟨rfl, hb2⟩
  have HB3 : Hid (Below w.heap.size w w3) := HB2.out.trans (hb2.mono HB2.out.size)
  have HR3 : Hid _ := keep_row HR2.out hb2
  clear c0 c10 c11 c14 c15 c16 c17 c18 hb2
  obtain ⟨c0, c10, c11, c14, c15, c16, c17, c18, l1, l2, l3, l4, FF⟩ := facts HC.out HR3.out
  go_wp2
  go_rounds 1
  go_wp2
  go_returns
  exact ⟨rfl, HB3.out⟩
set_option maxRecDepth 20000 in
theorem rAt_nil (C : Array Value) (k a b : Int) (en it : ByteArray) (hC : RV C (2) a b (en) it)   (w : World)  : Calls Tryz.prog 52 #[.agg C, .int .i64 0] w fun e w' => e = .returned (.tuple #[.string ⟨#[]⟩, .int .i64 6]) ∧ Below w.heap.size w w' := by
  skip
  obtain ⟨W1, hW1⟩ : ∃ W1, W1 = w.alloc (.cells C 53) := ⟨_, rfl⟩
  obtain ⟨r, hr⟩ : ∃ r, w.heap.size = r := ⟨_, rfl⟩
  have HB : Hid (Below w.heap.size w W1) := by rw [hW1]; exact (Below.refl _ _).alloc (Nat.le_refl _) _
  have HR : Hid (W1.heap[r]? = some (.cells C 53)) := by rw [hW1, ← hr]; exact one_alloc _ _
  have HC : Hid (RV C (2) a b (en) it) := hC
  have HRR : Hid (w.heap.size = r) := hr
  clear hr hC
  go_enter Tryz.func52, Tryz.ntmps52
  go_upto_region 1 with fail
  rw [← hW1, HRR.out]
  clear hW1
  obtain ⟨c0, c10, c11, c14, c15, c16, c17, c18, l1, l2, l3, l4, FF⟩ := facts HC.out HR.out
  go_upto_region 3 with fail
  refine wp_region_list ?_
  refine wpList_val rfl (v := .pointer (some ⟨r, 12, none⟩)) rfl ?_
  refine wpList_load_mid rfl 46 _ rfl r 12 rfl _ _ FF.2.1 Tryz.underlying46 rfl i46 ?_
  have HFF2 : Hid _ := FF
  clear l1 l2 l3 l4 FF
  go_wp2_with fail
  refine (show Calls _ _ _ _ _ from rAt7_nil _ _ _).mono ?_
  rintro e w2 ⟨rfl, hb2⟩
  have HB2 : Hid (Below w.heap.size w w2) := HB.out.trans (hb2.mono HB.out.size)
  have HR2 : Hid _ := keep_row HR.out hb2
  clear c0 c10 c11 c14 c15 c16 c17 c18 hb2
  obtain ⟨c0, c10, c11, c14, c15, c16, c17, c18, l1, l2, l3, l4, FF⟩ := facts HC.out HR2.out
  go_wp2
  go_returns
  exact ⟨rfl, HB2.out⟩
set_option maxRecDepth 20000 in
theorem rRange_nil (C : Array Value) (k a b : Int) (en it : ByteArray) (hC : RV C (2) a b (en) it)   (w : World)  : Calls Tryz.prog 54 #[.agg C, .int .i64 0, .int .i64 5] w fun e w' => e = .returned (.tuple #[.slice none 0 0, .int .i64 0]) ∧ Below w.heap.size w w' := by
  skip
  obtain ⟨W1, hW1⟩ : ∃ W1, W1 = w.alloc (.cells C 53) := ⟨_, rfl⟩
  obtain ⟨r, hr⟩ : ∃ r, w.heap.size = r := ⟨_, rfl⟩
  have HB : Hid (Below w.heap.size w W1) := by rw [hW1]; exact (Below.refl _ _).alloc (Nat.le_refl _) _
  have HR : Hid (W1.heap[r]? = some (.cells C 53)) := by rw [hW1, ← hr]; exact one_alloc _ _
  have HC : Hid (RV C (2) a b (en) it) := hC
  have HRR : Hid (w.heap.size = r) := hr
  clear hr hC
  go_enter Tryz.func54, Tryz.ntmps54
  go_upto_region 1 with fail
  rw [← hW1, HRR.out]
  clear hW1
  obtain ⟨c0, c10, c11, c14, c15, c16, c17, c18, l1, l2, l3, l4, FF⟩ := facts HC.out HR.out
  go_upto_region 5 with fail
  refine wp_region_list ?_
  refine wpList_val rfl (v := .pointer (some ⟨r, 12, none⟩)) rfl ?_
  refine wpList_load_mid rfl 46 _ rfl r 12 rfl _ _ FF.2.1 Tryz.underlying46 rfl i46 ?_
  have HFF2 : Hid _ := FF
  clear l1 l2 l3 l4 FF
  go_wp2_with fail
  refine (show Calls _ _ _ _ _ from rElem_nil _ _ _).mono ?_
  rintro e w2 ⟨rfl, hb2⟩
  have HB2 : Hid (Below w.heap.size w w2) := HB.out.trans (hb2.mono HB.out.size)
  have HR2 : Hid _ := keep_row HR.out hb2
  clear c0 c10 c11 c14 c15 c16 c17 c18 hb2
  obtain ⟨c0, c10, c11, c14, c15, c16, c17, c18, l1, l2, l3, l4, FF⟩ := facts HC.out HR2.out
  go_wp2
  go_returns
  exact ⟨rfl, HB2.out⟩
end Go.Proofs.YtfkcpilkhdbpoaaGreatDoor.V
namespace Go.Proofs.YtfkcpilkhdbpoaaGreatDoor.V
open Go.RowKit S5.IM
open S6 (Laid Lay)
set_option linter.unusedVariables false
set_option linter.unusedSimpArgs false
set_option maxRecDepth 20000 in
theorem rByScore_nil (C : Array Value) (k a b : Int) (en it : ByteArray) (hC : RV C (4) a b (en) it)  (bk : Bool) (w : World)  : Calls Tryz.prog 127 #[.agg C, .agg #[.int .i64 0, .int .i64 0, .bool false], .agg #[.int .i64 0, .int .i64 0, .bool false], .bool bk, .int .i64 0, .int .i64 5] w fun e w' => e = .returned (.tuple #[.slice none 0 0, .int .i64 0]) ∧ Below w.heap.size w w' := by
  skip
  obtain ⟨W1, hW1⟩ : ∃ W1, W1 = ((w.alloc (.cells C 53)).alloc (.cells #[.int .i64 0, .int .i64 0, .bool false] 32)).alloc (.cells #[.int .i64 0, .int .i64 0, .bool false] 32) := ⟨_, rfl⟩
  obtain ⟨r, hr⟩ : ∃ r, w.heap.size = r := ⟨_, rfl⟩
  have HB : Hid (Below w.heap.size w W1) := by rw [hW1]; exact (((Below.refl _ _).alloc (Nat.le_refl _) _).alloc (by simp) _).alloc (by simp; omega) _
  have HR : Hid (W1.heap[r]? = some (.cells C 53)) := by rw [hW1, ← hr]; exact keep_row (keep_row (one_alloc _ _) ((Below.refl _ _).alloc (Nat.le_refl _) _)) ((Below.refl _ _).alloc (Nat.le_refl _) _)
  have HC : Hid (RV C (4) a b (en) it) := hC
  have HRR : Hid (w.heap.size = r) := hr
  clear hr hC
  go_enter Tryz.func127, Tryz.ntmps127
  go_upto_region 1 with fail
  rw [← hW1, HRR.out]
  clear hW1
  obtain ⟨c0, c10, c11, c14, c15, c16, c17, c18, l1, l2, l3, l4, FF⟩ := facts HC.out HR.out
  go_upto_region 4 with fail
  refine wp_region_list ?_
  refine wpList_load_mid rfl 53 _ rfl r 0 rfl C.toList _ FF.1 Tryz.underlying53 rfl FF.2.2 ?_
  rw [Array.toArray_toList]
  have HFF2 : Hid _ := FF
  clear l1 l2 l3 l4 FF
  go_wp2_with fail
  refine (show Calls _ _ _ _ _ from rall_nil C _ _ _ _ _ HC.out _ _).mono ?_
  rintro e w2 ⟨rfl, hb2⟩
  have HB2 : Hid (Below w.heap.size w w2) := HB.out.trans (hb2.mono HB.out.size)
  have HR2 : Hid _ := keep_row HR.out hb2
  clear c0 c10 c11 c14 c15 c16 c17 c18 hb2
  obtain ⟨c0, c10, c11, c14, c15, c16, c17, c18, l1, l2, l3, l4, FF⟩ := facts HC.out HR2.out
  go_wp2
  go_rounds 1
  go_wp2
  go_rounds 1
  go_wp2
  go_returns
  exact ⟨rfl, HB2.out⟩
set_option maxRecDepth 20000 in
theorem rByLex_nil (C : Array Value) (k a b : Int) (en it : ByteArray) (hC : RV C (4) a b (en) it)  (bk : Bool) (w : World)  : Calls Tryz.prog 129 #[.agg C, .agg #[.string ⟨#[]⟩, .int .i64 0, .bool false], .agg #[.string ⟨#[]⟩, .int .i64 0, .bool false], .bool bk, .int .i64 0, .int .i64 5] w fun e w' => e = .returned (.tuple #[.slice none 0 0, .int .i64 0]) ∧ Below w.heap.size w w' := by
  skip
  obtain ⟨W1, hW1⟩ : ∃ W1, W1 = ((w.alloc (.cells C 53)).alloc (.cells #[.string ⟨#[]⟩, .int .i64 0, .bool false] 34)).alloc (.cells #[.string ⟨#[]⟩, .int .i64 0, .bool false] 34) := ⟨_, rfl⟩
  obtain ⟨r, hr⟩ : ∃ r, w.heap.size = r := ⟨_, rfl⟩
  have HB : Hid (Below w.heap.size w W1) := by rw [hW1]; exact (((Below.refl _ _).alloc (Nat.le_refl _) _).alloc (by simp) _).alloc (by simp; omega) _
  have HR : Hid (W1.heap[r]? = some (.cells C 53)) := by rw [hW1, ← hr]; exact keep_row (keep_row (one_alloc _ _) ((Below.refl _ _).alloc (Nat.le_refl _) _)) ((Below.refl _ _).alloc (Nat.le_refl _) _)
  have HC : Hid (RV C (4) a b (en) it) := hC
  have HRR : Hid (w.heap.size = r) := hr
  clear hr hC
  go_enter Tryz.func129, Tryz.ntmps129
  go_upto_region 1 with fail
  rw [← hW1, HRR.out]
  clear hW1
  obtain ⟨c0, c10, c11, c14, c15, c16, c17, c18, l1, l2, l3, l4, FF⟩ := facts HC.out HR.out
  go_upto_region 4 with fail
  refine wp_region_list ?_
  refine wpList_load_mid rfl 53 _ rfl r 0 rfl C.toList _ FF.1 Tryz.underlying53 rfl FF.2.2 ?_
  rw [Array.toArray_toList]
  have HFF2 : Hid _ := FF
  clear l1 l2 l3 l4 FF
  go_wp2_with fail
  refine (show Calls _ _ _ _ _ from rall_nil C _ _ _ _ _ HC.out _ _).mono ?_
  rintro e w2 ⟨rfl, hb2⟩
  have HB2 : Hid (Below w.heap.size w w2) := HB.out.trans (hb2.mono HB.out.size)
  have HR2 : Hid _ := keep_row HR.out hb2
  clear c0 c10 c11 c14 c15 c16 c17 c18 hb2
  obtain ⟨c0, c10, c11, c14, c15, c16, c17, c18, l1, l2, l3, l4, FF⟩ := facts HC.out HR2.out
  go_wp2
  go_rounds 1
  go_wp2
  go_rounds 1
  go_wp2
  go_returns
  exact ⟨rfl, HB2.out⟩
end Go.Proofs.YtfkcpilkhdbpoaaGreatDoor.V
namespace Go.Proofs.YtfkcpilkhdbpoaaGreatDoor.V
open Go.RowKit S5.IM
open S6 (Laid Lay)
set_option linter.unusedVariables false
set_option linter.unusedSimpArgs false
theorem low4 : S6.strB (S6.LM.leB 4 7) = ⟨#[7, 0, 0, 0]⟩ := by kernel_rfl
theorem low2 : S6.strB (S6.LM.leB 2 0) = ⟨#[0, 0]⟩ := by kernel_rfl
set_option maxHeartbeats 1000000 in
set_option maxRecDepth 20000 in
theorem rBuild_nil (w : World) : Calls Tryz.prog 110 #[.slice none 0 0] w fun e w' => e = .returned (.string EP) ∧ Below w.heap.size w w' := by
  obtain ⟨fK, hfK⟩ : ∃ fK : Int → ByteArray, fK = fun k => if k = 4 then S6.strB (S6.LM.leB 4 7) else S6.strB (S6.LM.leB 2 0) := ⟨_, rfl⟩
  have HLO : Hid (∀ z k : Int, (k = 4 ∧ z = 7) ∨ (k = 2 ∧ z = 0) → ∀ W, Calls Tryz.prog 181 #[.int .i64 z, .int .i64 k] W fun e w' => e = .returned (.string (fK k)) ∧ Below W.heap.size W w') := fun z k hk W => by
    rw [hfK]
    rcases hk with ⟨rfl, rfl⟩ | ⟨rfl, rfl⟩
    · exact S6.rlow_any 7 ⟨by omega, by omega⟩ 4 (by omega) W
    · exact S6.rlow_any 0 ⟨by omega, by omega⟩ 2 (by omega) W
  have HE : Hid (fK 4 ++ fK 2 ++ ⟨#[]⟩ ++ ⟨#[255]⟩ = EP) := by show _ = _; rw [hfK]; show S6.strB (S6.LM.leB 4 7) ++ S6.strB (S6.LM.leB 2 0) ++ ⟨#[]⟩ ++ ⟨#[255]⟩ = EP; rw [low4, low2]; kernel_rfl
  have hs4 : (fK 4).size = 4 := by rw [hfK]; show (S6.strB (S6.LM.leB 4 7)).size = 4; rw [low4]; rfl
  have hs2 : (fK 2).size = 2 := by rw [hfK]; show (S6.strB (S6.LM.leB 2 0)).size = 2; rw [low2]; rfl
  clear hfK
  have hcv : ∀ W, Sem.run Tryz.prog (convert 218 9 (.slice none 0 0)) W = .ok (.string ⟨#[]⟩) W := fun W => by kernel_rfl
  generalize EP = E at *
  go_enter Tryz.func110, Tryz.ntmps110
  go_wp2_with fail
  go_rounds 1
  go_wp2_with fail
  have hcur : Below w.heap.size w w.drew := S6.below_dn (Below.refl _ _) 1
  go_region_with (go_at_call 181; refine (show Calls _ _ _ _ _ from HLO.out _ _ (by first | exact Or.inl ⟨rfl, rfl⟩ | exact Or.inr ⟨rfl, rfl⟩) _).mono ?_; rintro e w2 ⟨rfl, hbx⟩; have hcur := S6.bel_to hcur hbx (Nat.le_refl _); clear hbx)
  all_goals
    have HCUR : Hid (Below w.heap.size w _) := hcur
    clear hcur
    go_wp2
    go_ret
    exact ⟨by rw [← HE.out]; rfl, HCUR.out⟩
set_option maxRecDepth 20000 in
theorem rRaw_1 (C : Array Value) (k a b : Int) (en it : ByteArray) (hC : RV C (1) a b (en) it)   (w : World)  : Calls Tryz.prog 48 #[.agg C] w fun e w' => ∃ g, e = .returned (.slice (some ⟨g, 0, none⟩) 1 1) ∧ w'.cell? ⟨g, 0, none⟩ = some (.string ⟨#[]⟩) ∧ Below w.heap.size w w' := by
  skip
  obtain ⟨W1, hW1⟩ : ∃ W1, W1 = w.alloc (.cells C 53) := ⟨_, rfl⟩
  obtain ⟨r, hr⟩ : ∃ r, w.heap.size = r := ⟨_, rfl⟩
  have HB : Hid (Below w.heap.size w W1) := by rw [hW1]; exact (Below.refl _ _).alloc (Nat.le_refl _) _
  have HR : Hid (W1.heap[r]? = some (.cells C 53)) := by rw [hW1, ← hr]; exact one_alloc _ _
  have HC : Hid (RV C (1) a b (en) it) := hC
  have HRR : Hid (w.heap.size = r) := hr
  clear hr hC
  go_enter Tryz.func48, Tryz.ntmps48
  go_upto_region 1 with fail
  rw [← hW1, HRR.out]
  clear hW1
  obtain ⟨c0, c10, c11, c14, c15, c16, c17, c18, l1, l2, l3, l4, FF⟩ := facts HC.out HR.out
  go_wp2
  go_returns
  exact ⟨_, rfl, cell_of_row _ _ _ _ _ _ (one_alloc _ _), HB.out.alloc HB.out.size _⟩
set_option maxRecDepth 20000 in
theorem rRaw_3 (C : Array Value) (k a b : Int) (en it : ByteArray) (hC : RV C (3) a b (⟨#[105, 110, 116, 115, 101, 116]⟩) it)   (w : World)  : Calls Tryz.prog 48 #[.agg C] w fun e w' => ∃ g, e = .returned (.slice (some ⟨g, 0, none⟩) 1 1) ∧ w'.cell? ⟨g, 0, none⟩ = some (.string it) ∧ Below w.heap.size w w' := by
  skip
  obtain ⟨W1, hW1⟩ : ∃ W1, W1 = w.alloc (.cells C 53) := ⟨_, rfl⟩
  obtain ⟨r, hr⟩ : ∃ r, w.heap.size = r := ⟨_, rfl⟩
  have HB : Hid (Below w.heap.size w W1) := by rw [hW1]; exact (Below.refl _ _).alloc (Nat.le_refl _) _
  have HR : Hid (W1.heap[r]? = some (.cells C 53)) := by rw [hW1, ← hr]; exact one_alloc _ _
  have HC : Hid (RV C (3) a b (⟨#[105, 110, 116, 115, 101, 116]⟩) it) := hC
  have HRR : Hid (w.heap.size = r) := hr
  clear hr hC
  go_enter Tryz.func48, Tryz.ntmps48
  go_upto_region 1 with fail
  rw [← hW1, HRR.out]
  clear hW1
  obtain ⟨c0, c10, c11, c14, c15, c16, c17, c18, l1, l2, l3, l4, FF⟩ := facts HC.out HR.out
  go_wp2
  go_returns
  exact ⟨_, rfl, cell_of_row _ _ _ _ _ _ (one_alloc _ _), HB.out.alloc HB.out.size _⟩
set_option maxRecDepth 20000 in
theorem rRaw_2 (C : Array Value) (k a b : Int) (en it : ByteArray) (hC : RV C (2) a b (en) it)   (w : World)  : Calls Tryz.prog 48 #[.agg C] w fun e w' => e = .returned (.slice none 0 0) ∧ Below w.heap.size w w' := by
  skip
  obtain ⟨W1, hW1⟩ : ∃ W1, W1 = w.alloc (.cells C 53) := ⟨_, rfl⟩
  obtain ⟨r, hr⟩ : ∃ r, w.heap.size = r := ⟨_, rfl⟩
  have HB : Hid (Below w.heap.size w W1) := by rw [hW1]; exact (Below.refl _ _).alloc (Nat.le_refl _) _
  have HR : Hid (W1.heap[r]? = some (.cells C 53)) := by rw [hW1, ← hr]; exact one_alloc _ _
  have HC : Hid (RV C (2) a b (en) it) := hC
  have HRR : Hid (w.heap.size = r) := hr
  clear hr hC
  go_enter Tryz.func48, Tryz.ntmps48
  go_upto_region 1 with fail
  rw [← hW1, HRR.out]
  clear hW1
  obtain ⟨c0, c10, c11, c14, c15, c16, c17, c18, l1, l2, l3, l4, FF⟩ := facts HC.out HR.out
  go_upto_region 4 with fail
  refine wp_region_list ?_
  refine wpList_val rfl (v := .pointer (some ⟨r, 12, none⟩)) rfl ?_
  refine wpList_load_mid rfl 46 _ rfl r 12 rfl _ _ FF.2.1 Tryz.underlying46 rfl i46 ?_
  have HFF2 : Hid _ := FF
  clear l1 l2 l3 l4 FF
  go_wp2_with fail
  refine (show Calls _ _ _ _ _ from rNodes_nil _ _ _).mono ?_
  rintro e w2 ⟨rfl, hb2⟩
  have HB2 : Hid (Below w.heap.size w w2) := HB.out.trans (hb2.mono HB.out.size)
  have HR2 : Hid _ := keep_row HR.out hb2
  clear c0 c10 c11 c14 c15 c16 c17 c18 hb2
  obtain ⟨c0, c10, c11, c14, c15, c16, c17, c18, l1, l2, l3, l4, FF⟩ := facts HC.out HR2.out
  go_wp2
  go_returns
  exact ⟨rfl, HB2.out⟩
set_option maxRecDepth 20000 in
theorem rRaw_4 (C : Array Value) (k a b : Int) (en it : ByteArray) (hC : RV C (4) a b (⟨#[108, 105, 115, 116, 112, 97, 99, 107]⟩) it)   (w : World)  : Calls Tryz.prog 48 #[.agg C] w fun e w' => ∃ g, e = .returned (.slice (some ⟨g, 0, none⟩) 1 1) ∧ w'.cell? ⟨g, 0, none⟩ = some (.string EP) ∧ Below w.heap.size w w' := by
  have HBL : Hid (∀ W, Calls Tryz.prog 110 #[.slice none 0 0] W fun e w' => e = .returned (.string EP) ∧ Below W.heap.size W w') := rBuild_nil
  generalize EP = E at *
  obtain ⟨W1, hW1⟩ : ∃ W1, W1 = w.alloc (.cells C 53) := ⟨_, rfl⟩
  obtain ⟨r, hr⟩ : ∃ r, w.heap.size = r := ⟨_, rfl⟩
  have HB : Hid (Below w.heap.size w W1) := by rw [hW1]; exact (Below.refl _ _).alloc (Nat.le_refl _) _
  have HR : Hid (W1.heap[r]? = some (.cells C 53)) := by rw [hW1, ← hr]; exact one_alloc _ _
  have HC : Hid (RV C (4) a b (⟨#[108, 105, 115, 116, 112, 97, 99, 107]⟩) it) := hC
  have HRR : Hid (w.heap.size = r) := hr
  clear hr hC
  go_enter Tryz.func48, Tryz.ntmps48
  go_upto_region 1 with fail
  rw [← hW1, HRR.out]
  clear hW1
  obtain ⟨c0, c10, c11, c14, c15, c16, c17, c18, l1, l2, l3, l4, FF⟩ := facts HC.out HR.out
  go_upto_region 8 with fail
  refine wp_region_list ?_
  refine wpList_load_mid rfl 53 _ rfl r 0 rfl C.toList _ FF.1 Tryz.underlying53 rfl FF.2.2 ?_
  rw [Array.toArray_toList]
  have HFF2 : Hid _ := FF
  clear l1 l2 l3 l4 FF
  go_wp2_with fail
  refine (show Calls _ _ _ _ _ from rpairs_nil C _ _ _ _ _ HC.out _).mono ?_
  rintro e w2 ⟨rfl, hb2⟩
  have HB2 : Hid (Below w.heap.size w w2) := HB.out.trans (hb2.mono HB.out.size)
  have HR2 : Hid _ := keep_row HR.out hb2
  clear c0 c10 c11 c14 c15 c16 c17 c18 hb2
  obtain ⟨c0, c10, c11, c14, c15, c16, c17, c18, l1, l2, l3, l4, FF⟩ := facts HC.out HR2.out
  have HFF3 : Hid _ := FF
  clear l1 l2 l3 l4 FF
  go_wp2_with fail
  refine (show Calls _ _ _ _ _ from HBL.out _).mono ?_
  rintro e w3 ⟨rfl, hb2⟩
  have HB3 : Hid (Below w.heap.size w w3) := HB2.out.trans (hb2.mono HB2.out.size)
  have HR3 : Hid _ := keep_row HR2.out hb2
  clear c0 c10 c11 c14 c15 c16 c17 c18 hb2
  obtain ⟨c0, c10, c11, c14, c15, c16, c17, c18, l1, l2, l3, l4, FF⟩ := facts HC.out HR3.out
  go_wp2
  go_returns
  exact ⟨_, rfl, cell_of_row _ _ _ _ _ _ (one_alloc _ _), HB3.out.alloc HB3.out.size _⟩
set_option maxRecDepth 20000 in
theorem rRaw_5 (C : Array Value) (k a b : Int) (en it : ByteArray) (hC : RV C (5) a b (⟨#[108, 105, 115, 116, 112, 97, 99, 107]⟩) it)   (w : World)  : Calls Tryz.prog 48 #[.agg C] w fun e w' => ∃ g, e = .returned (.slice (some ⟨g, 0, none⟩) 1 1) ∧ w'.cell? ⟨g, 0, none⟩ = some (.string EP) ∧ Below w.heap.size w w' := by
  have HBL : Hid (∀ W, Calls Tryz.prog 110 #[.slice none 0 0] W fun e w' => e = .returned (.string EP) ∧ Below W.heap.size W w') := rBuild_nil
  generalize EP = E at *
  obtain ⟨W1, hW1⟩ : ∃ W1, W1 = w.alloc (.cells C 53) := ⟨_, rfl⟩
  obtain ⟨r, hr⟩ : ∃ r, w.heap.size = r := ⟨_, rfl⟩
  have HB : Hid (Below w.heap.size w W1) := by rw [hW1]; exact (Below.refl _ _).alloc (Nat.le_refl _) _
  have HR : Hid (W1.heap[r]? = some (.cells C 53)) := by rw [hW1, ← hr]; exact one_alloc _ _
  have HC : Hid (RV C (5) a b (⟨#[108, 105, 115, 116, 112, 97, 99, 107]⟩) it) := hC
  have HRR : Hid (w.heap.size = r) := hr
  clear hr hC
  go_enter Tryz.func48, Tryz.ntmps48
  go_upto_region 1 with fail
  rw [← hW1, HRR.out]
  clear hW1
  obtain ⟨c0, c10, c11, c14, c15, c16, c17, c18, l1, l2, l3, l4, FF⟩ := facts HC.out HR.out
  go_upto_region 8 with fail
  refine wp_region_list ?_
  refine wpList_load_mid rfl 53 _ rfl r 0 rfl C.toList _ FF.1 Tryz.underlying53 rfl FF.2.2 ?_
  rw [Array.toArray_toList]
  have HFF2 : Hid _ := FF
  clear l1 l2 l3 l4 FF
  go_wp2_with fail
  refine (show Calls _ _ _ _ _ from rpairs_nil C _ _ _ _ _ HC.out _).mono ?_
  rintro e w2 ⟨rfl, hb2⟩
  have HB2 : Hid (Below w.heap.size w w2) := HB.out.trans (hb2.mono HB.out.size)
  have HR2 : Hid _ := keep_row HR.out hb2
  clear c0 c10 c11 c14 c15 c16 c17 c18 hb2
  obtain ⟨c0, c10, c11, c14, c15, c16, c17, c18, l1, l2, l3, l4, FF⟩ := facts HC.out HR2.out
  have HFF3 : Hid _ := FF
  clear l1 l2 l3 l4 FF
  go_wp2_with fail
  refine (show Calls _ _ _ _ _ from HBL.out _).mono ?_
  rintro e w3 ⟨rfl, hb2⟩
  have HB3 : Hid (Below w.heap.size w w3) := HB2.out.trans (hb2.mono HB2.out.size)
  have HR3 : Hid _ := keep_row HR2.out hb2
  clear c0 c10 c11 c14 c15 c16 c17 c18 hb2
  obtain ⟨c0, c10, c11, c14, c15, c16, c17, c18, l1, l2, l3, l4, FF⟩ := facts HC.out HR3.out
  go_wp2
  go_returns
  exact ⟨_, rfl, cell_of_row _ _ _ _ _ _ (one_alloc _ _), HB3.out.alloc HB3.out.size _⟩
end Go.Proofs.YtfkcpilkhdbpoaaGreatDoor.V
namespace Go.Proofs.YtfkcpilkhdbpoaaGreatDoor.V
open Go.RowKit S5.IM
open S6 (Laid Lay)
set_option linter.unusedVariables false
set_option linter.unusedSimpArgs false
set_option maxHeartbeats 1000000 in
set_option maxRecDepth 20000 in
theorem rnumber_two (w : World) : Calls Tryz.prog 225 #[.string ⟨#[2, 0, 0, 0]⟩] w fun e w' => e = .returned (.int .i64 2) ∧ w' = w := by
  go_enter Tryz.func225, Tryz.ntmps225
  go_wp2
  go_rounds 5
  go_wp2
  go_returns
  exact ⟨by kernel_rfl, rfl⟩
set_option maxHeartbeats 1000000 in
set_option maxRecDepth 20000 in
theorem rnumber_zero (w : World) : Calls Tryz.prog 225 #[.string ⟨#[0, 0, 0, 0]⟩] w fun e w' => e = .returned (.int .i64 0) ∧ w' = w := by
  go_enter Tryz.func225, Tryz.ntmps225
  go_wp2
  go_rounds 5
  go_wp2
  go_returns
  exact ⟨by kernel_rfl, rfl⟩
set_option maxHeartbeats 1000000 in
set_option maxRecDepth 20000 in
theorem rRead_nil (w : World) : Calls Tryz.prog 177 #[.string ⟨#[2, 0, 0, 0, 0, 0, 0, 0]⟩] w fun e w' => e = .returned (.tuple #[.int .i64 2, .slice none 0 0, .bool true]) ∧ w' = w := by
  go_enter Tryz.func177, Tryz.ntmps177
  go_wp2_with fail
  refine (show Calls _ _ _ _ _ from rnumber_two _).mono ?_
  rintro e w1 ⟨rfl, rfl⟩
  go_wp2_with fail
  refine (show Calls _ _ _ _ _ from rnumber_zero _).mono ?_
  rintro e w2 ⟨rfl, rfl⟩
  go_wp2
  go_rounds 1
  go_wp2
  go_returns
  exact ⟨rfl, rfl⟩
set_option maxRecDepth 20000 in
theorem rnames_int (C : Array Value) (k a b : Int) (en : ByteArray) (hC : RV C (k) a b (⟨#[105, 110, 116, 115, 101, 116]⟩) ⟨#[2, 0, 0, 0, 0, 0, 0, 0]⟩)   (w : World)  : Calls Tryz.prog 106 #[.agg C] w fun e w' => e = .returned (.slice none 0 0) ∧ Below w.heap.size w w' := by
  skip
  obtain ⟨W1, hW1⟩ : ∃ W1, W1 = w.alloc (.cells C 53) := ⟨_, rfl⟩
  obtain ⟨r, hr⟩ : ∃ r, w.heap.size = r := ⟨_, rfl⟩
  have HB : Hid (Below w.heap.size w W1) := by rw [hW1]; exact (Below.refl _ _).alloc (Nat.le_refl _) _
  have HR : Hid (W1.heap[r]? = some (.cells C 53)) := by rw [hW1, ← hr]; exact one_alloc _ _
  have HC : Hid (RV C (k) a b (⟨#[105, 110, 116, 115, 101, 116]⟩) ⟨#[2, 0, 0, 0, 0, 0, 0, 0]⟩) := hC
  have HRR : Hid (w.heap.size = r) := hr
  clear hr hC
  go_enter Tryz.func106, Tryz.ntmps106
  go_upto_region 1 with fail
  rw [← hW1, HRR.out]
  clear hW1
  obtain ⟨c0, c10, c11, c14, c15, c16, c17, c18, l1, l2, l3, l4, FF⟩ := facts HC.out HR.out
  have HFF2 : Hid _ := FF
  clear l1 l2 l3 l4 FF
  go_wp2_with fail
  refine (show Calls _ _ _ _ _ from rRead_nil _).mono ?_
  rintro e w2 ⟨rfl, rfl⟩
  have HB2 : Hid _ := HB.out
  have HR2 : Hid _ := HR.out
  clear c0 c10 c11 c14 c15 c16 c17 c18
  obtain ⟨c0, c10, c11, c14, c15, c16, c17, c18, l1, l2, l3, l4, FF⟩ := facts HC.out HR2.out
  go_wp2
  go_rounds 1
  go_wp2
  go_returns
  exact ⟨rfl, HB2.out⟩

end Go.Proofs.YtfkcpilkhdbpoaaGreatDoor.V
