import Derived.Test.YtfkcpilkhdbpoaaGreatDoorIB
import Derived.Test.YtfkcpilkhdbpoaaGreatDoorFC
namespace Go.Proofs.YtfkcpilkhdbpoaaGreatDoor.V
open Go.RowKit S5.IM
open S6 (Laid Lay itoaB)
set_option linter.unusedVariables false
set_option linter.unusedSimpArgs false
theorem rdig0 (w : World) : Calls Tryz.prog 178 #[.int .i64 0] w fun e w' => e = .returned (.string ⟨#[48]⟩) ∧ Below w.heap.size w w' := by
  go_enter Tryz.func178, Tryz.ntmps178
  go_wp2
  go_ret
  exact ⟨rfl, Below.refl _ _⟩
set_option maxHeartbeats 1000000 in
theorem rnum0 (w : World) : Calls Tryz.prog 176 #[.string ⟨#[]⟩] w fun e w' => e = .returned (.tuple #[.int .i64 0, .bool false]) ∧ Below w.heap.size w w' := by
  go_enter Tryz.func176, Tryz.ntmps176
  go_wp2
  go_loop [4, 6] (fun n i => n = .int .i64 0 ∧ i = .int .i64 0) (fun _ _ => 0)
  case atStart => exact ⟨rfl, rfl⟩
  case round =>
    obtain ⟨rfl, rfl⟩ := hrel
    go_wp2_with fail
    refine (rdig0 _).mono ?_
    rintro e w1 ⟨rfl, hb1⟩
    go_wp2
    go_ret2
    exact ⟨rfl, hb1⟩
set_option maxHeartbeats 1000000 in
theorem rtenc (w : World) : Calls Tryz.prog 105 #[.string ⟨#[]⟩] w fun e w' => e = .returned (.string ⟨#[101, 109, 98, 115, 116, 114]⟩) ∧ Below w.heap.size w w' := by
  have HN : Hid _ := rnum0 w
  go_enter Tryz.func105, Tryz.ntmps105
  go_wp2_with fail
  refine (show Calls _ _ _ _ _ from HN.out).mono ?_
  rintro e w2 ⟨rfl, hb2⟩
  have HB2 : Hid _ := hb2
  clear hb2
  go_wp2
  go_returns
  exact ⟨rfl, HB2.out⟩
set_option maxHeartbeats 1000000 in
set_option maxRecDepth 20000 in
theorem rEnc_str (C : Array Value) (a b : Int) (en it : ByteArray) (hC : RV C 1 a b en it) (w : World) : Calls Tryz.prog 43 #[.agg C] w fun e w' => e = .returned (.string ⟨#[101, 109, 98, 115, 116, 114]⟩) ∧ Below w.heap.size w w' := by
  obtain ⟨W1, hW1⟩ : ∃ W1, W1 = w.alloc (.cells C 53) := ⟨_, rfl⟩
  obtain ⟨r, hr⟩ : ∃ r, w.heap.size = r := ⟨_, rfl⟩
  have HB : Hid (Below w.heap.size w W1) := by rw [hW1]; exact (Below.refl _ _).alloc (Nat.le_refl _) _
  have HR : Hid (W1.heap[r]? = some (.cells C 53)) := by rw [hW1, ← hr]; exact one_alloc _ _
  have HC : Hid (RV C 1 a b en it) := hC
  have HRR : Hid (w.heap.size = r) := hr
  clear hr hC
  go_enter Tryz.func43, Tryz.ntmps43
  go_upto_region 1 with fail
  rw [← hW1, HRR.out]
  clear hW1
  obtain ⟨c0, c10, c11, c14, c15, c16, c17, c18, l1, l2, l3, l4, FF⟩ := facts HC.out HR.out
  clear l1 l2 l3 l4 FF
  go_wp2_with fail
  refine (show Calls _ _ _ _ _ from rtenc _).mono ?_
  rintro e w2 ⟨rfl, hb2⟩
  have HB2 : Hid (Below w.heap.size w w2) := HB.out.trans (hb2.mono HB.out.size)
  clear hb2
  go_wp2
  go_returns
  exact ⟨rfl, HB2.out⟩
set_option maxHeartbeats 1000000 in
set_option maxRecDepth 20000 in
theorem rnew05 (w : World) : Calls Tryz.prog 19 #[] w fun e w' => e = .returned (.string ⟨#[2, 0, 0, 0, 0, 0, 0, 0]⟩) ∧ Below w.heap.size w w' := by
  have ht := S5.text_any 2 (.slice none 0 0) [] (Or.inl rfl) (by simp) (by simp) w (S5.HoldsI.nil w)
  rw [show ((2 : Nat) : Int) = 2 from rfl, show S5.strB (txt 2 []) = ⟨#[2, 0, 0, 0, 0, 0, 0, 0]⟩ by kernel_rfl] at ht
  have HT : Hid _ := ht
  clear ht
  go_enter Tryz.func19, Tryz.ntmps19
  go_wp2_with fail
  refine (show Calls _ _ _ _ _ from HT.out).mono ?_
  rintro e w1 ⟨rfl, hb⟩
  go_wp2
  go_ret
  exact ⟨rfl, hb⟩
set_option maxHeartbeats 1000000 in
set_option maxRecDepth 20000 in
theorem rnew07 (E B : Int) (h1 : 1 ≤ E) (h2 : E ≤ 4096) (h3 : 0 ≤ B) (h4 : B ≤ 4096) (w : World) : Calls Tryz.prog 18 #[.int .i64 E, .int .i64 B] w fun e w' => e = .returned (.tuple #[.agg #[.int .i64 E, .int .i64 B, .slice none 0 0], .int .i64 0]) ∧ Below w.heap.size w w' := by
  go_enter Tryz.func18, Tryz.ntmps18
  go_wp2
  go_returns
  exact ⟨rfl, by go_grown⟩
end Go.Proofs.YtfkcpilkhdbpoaaGreatDoor.V
namespace Go.Proofs.YtfkcpilkhdbpoaaGreatDoor.V
open Go.RowKit S5.IM
open S6 (Laid Lay)
set_option linter.unusedVariables false
set_option linter.unusedSimpArgs false
def isE : ByteArray := ⟨#[105, 110, 116, 115, 101, 116]⟩
def rZ : Array Value := #[.int .i64 0, .int .i64 0, .int .i64 0, .int .i64 0, .int .i64 0, .int .i64 0, .int .i64 0, .int .i64 0, .int .i64 0, .int .i64 0, .string ⟨#[]⟩, .string ⟨#[]⟩, .int .i64 0, .int .i64 0, .slice none 0 0, .string ⟨#[]⟩, .slice none 0 0, .slice none 0 0, .slice none 0 0, .int .i64 0, .int .i64 0, .slice none 0 0, .int .i64 0, .slice none 0 0, .int .i64 0]
set_option maxHeartbeats 4000000 in
set_option maxRecDepth 20000 in
theorem rNew_badT (k : Int) (hk : 1 ≤ k ∧ k ≤ 5) (t : TH) (ht : okT t = false) (w : World) : Calls Tryz.prog 8 #[.int .i64 k, thV t] w fun e w' => e = .returned (.tuple #[.agg rZ, .int .i64 1]) ∧ Below w.heap.size w w' := by
  have HCK : Hid (∀ W, Calls Tryz.prog 5 #[thV t] W fun e w' => e = .returned (.int .i64 1) ∧ Below W.heap.size W w') := fun W => by have := rCheck_any t W; rw [ht] at this; exact this
  obtain ⟨a, b, c, d, e, f, g, h, i⟩ := t
  unfold thV rZ at *
  simp only [] at *
  clear ht
  have hk1 : ¬ k < 1 := by omega
  have hk5 : ¬ 5 < k := by omega
  obtain ⟨ZZ, hZ⟩ : ∃ C : Array Value, C = #[.int .i64 0, .int .i64 0, .int .i64 0, .int .i64 0, .int .i64 0, .int .i64 0, .int .i64 0, .int .i64 0, .int .i64 0, .int .i64 0, .string ⟨#[]⟩, .string ⟨#[]⟩, .int .i64 0, .int .i64 0, .slice none 0 0, .string ⟨#[]⟩, .slice none 0 0, .slice none 0 0, .slice none 0 0, .int .i64 0, .int .i64 0, .slice none 0 0, .int .i64 0, .slice none 0 0, .int .i64 0] := ⟨_, rfl⟩
  have HZS : Hid (ZZ.size = 25) := by show _ = _; rw [hZ]; rfl
  have HZ1 : Hid (ZZ.all (·.oneCell') = true) := by show _ = _; rw [hZ]; kernel_rfl
  rw [← hZ]
  obtain ⟨W1, hW1⟩ : ∃ W1, W1 = (w.alloc (.cells #[.int .i64 a, .int .i64 b, .int .i64 c, .int .i64 d, .int .i64 e, .int .i64 f, .int .i64 g, .int .i64 h, .int .i64 i] 23)).alloc (.cells #[.int .i64 0, .int .i64 0, .int .i64 0, .int .i64 0, .int .i64 0, .int .i64 0, .int .i64 0, .int .i64 0, .int .i64 0, .int .i64 0, .string ⟨#[]⟩, .string ⟨#[]⟩, .int .i64 0, .int .i64 0, .slice none 0 0, .string ⟨#[]⟩, .slice none 0 0, .slice none 0 0, .slice none 0 0, .int .i64 0, .int .i64 0, .slice none 0 0, .int .i64 0, .slice none 0 0, .int .i64 0] 53) := ⟨_, rfl⟩
  obtain ⟨r, hr⟩ : ∃ r, w.heap.size = r := ⟨_, rfl⟩
  have HRR : Hid (w.heap.size = r) := hr
  have HA : Hid (Below w.heap.size w W1 ∧ W1.heap[r]? = some (.cells #[.int .i64 a, .int .i64 b, .int .i64 c, .int .i64 d, .int .i64 e, .int .i64 f, .int .i64 g, .int .i64 h, .int .i64 i] 23) ∧ W1.heap[r + 1]? = some (.cells #[.int .i64 0, .int .i64 0, .int .i64 0, .int .i64 0, .int .i64 0, .int .i64 0, .int .i64 0, .int .i64 0, .int .i64 0, .int .i64 0, .string ⟨#[]⟩, .string ⟨#[]⟩, .int .i64 0, .int .i64 0, .slice none 0 0, .string ⟨#[]⟩, .slice none 0 0, .slice none 0 0, .slice none 0 0, .int .i64 0, .int .i64 0, .slice none 0 0, .int .i64 0, .slice none 0 0, .int .i64 0] 53)) := by
    rw [hW1, ← hr]
    exact two_rows (Below.refl _ _)
  clear hr
  go_enter Tryz.func8, Tryz.ntmps8
  go_wp2_with fail
  rw [← hW1, HRR.out]
  refine (show Calls _ _ _ _ _ from HCK.out _).mono ?_
  rintro e w2 ⟨rfl, hb2⟩
  have HB2 : Hid (Below w.heap.size w w2) := HA.out.1.trans (hb2.mono HA.out.1.size)
  have HT2 : Hid _ := keep_row HA.out.2.1 hb2
  have HR2 : Hid (w2.heap[r + 1]? = some (.cells ZZ 53)) := by show _ = _; rw [hZ]; exact keep_row HA.out.2.2 hb2
  clear hb2 hW1
  have hi53 : Hid ((Tryz.prog.info? 53).map (·.size) = some 25) := by show _ = _; kernel_rfl
  go_upto_region 2 with fail
  refine wp_region_list ?_
  refine wpList_val rfl (v := .agg ZZ) (w' := w2) (by rw [hZ]; kernel_rfl) ?_
  refine wpList_store_mid rfl 53 _ _ rfl (r + 1) 0 ZZ rfl rfl ?s4 (by rw [HZS.out]; exact hi53.out) HZ1.out ?_
  case s4 =>
    intro j hj
    rw [HZS.out] at hj
    have := HZS.out
    refine ⟨?_, frozen_of_row _ _ _ _ _ HR2.out⟩
    rw [cell_of_row _ _ _ _ _ _ HR2.out]
    simp; omega
  have h4 := setCells_pre (r + 1) 53 ZZ.toList [] ZZ.toList w2 (by simp) (by simpa using HR2.out)
  rw [List.length_nil] at h4
  simp only [List.nil_append, Array.toArray_toList] at h4
  revert h4
  generalize w2.setCells (r + 1) 0 ZZ.toList = W4
  intro h4
  have HC4 : Hid (W4.heap[r + 1]? = some (.cells ZZ 53)) := h4.1
  have HB4 : Hid (Below w.heap.size w W4) := HB2.out.trans (h4.2.below (by rw [HRR.out]; omega))
  clear h4 hZ
  go_wp2
  have hlv := run_loadVar_mid (P := Tryz.prog) W4 (r + 1) 0 53 ZZ.toList _ (fun j v hv => by rw [cell_of_row _ _ _ _ _ _ HC4.out]; simpa using hv) Tryz.underlying53 rfl (by rw [Array.length_toList, HZS.out]; exact hi53.out)
  rw [Array.toArray_toList] at hlv
  refine bodyPost_ret (v := .tuple #[.agg ZZ, .int .i64 1]) (by simp [results, Tryz.results8, asAddr, hlv, Result.andThen]) rfl ⟨rfl, HB4.out⟩
set_option maxHeartbeats 4000000 in
set_option maxRecDepth 20000 in
theorem rNew_low (k : Int) (hk : k < 1) (t : TH) (w : World) : Calls Tryz.prog 8 #[.int .i64 k, thV t] w fun e w' => e = .returned (.tuple #[.agg rZ, .int .i64 1]) ∧ Below w.heap.size w w' := by
  obtain ⟨a, b, c, d, e, f, g, h, i⟩ := t
  unfold thV rZ at *
  simp only [] at *
  obtain ⟨ZZ, hZ⟩ : ∃ C : Array Value, C = #[.int .i64 0, .int .i64 0, .int .i64 0, .int .i64 0, .int .i64 0, .int .i64 0, .int .i64 0, .int .i64 0, .int .i64 0, .int .i64 0, .string ⟨#[]⟩, .string ⟨#[]⟩, .int .i64 0, .int .i64 0, .slice none 0 0, .string ⟨#[]⟩, .slice none 0 0, .slice none 0 0, .slice none 0 0, .int .i64 0, .int .i64 0, .slice none 0 0, .int .i64 0, .slice none 0 0, .int .i64 0] := ⟨_, rfl⟩
  have HZS : Hid (ZZ.size = 25) := by show _ = _; rw [hZ]; rfl
  have HZ1 : Hid (ZZ.all (·.oneCell') = true) := by show _ = _; rw [hZ]; kernel_rfl
  rw [← hZ]
  obtain ⟨W1, hW1⟩ : ∃ W1, W1 = (w.alloc (.cells #[.int .i64 a, .int .i64 b, .int .i64 c, .int .i64 d, .int .i64 e, .int .i64 f, .int .i64 g, .int .i64 h, .int .i64 i] 23)).alloc (.cells #[.int .i64 0, .int .i64 0, .int .i64 0, .int .i64 0, .int .i64 0, .int .i64 0, .int .i64 0, .int .i64 0, .int .i64 0, .int .i64 0, .string ⟨#[]⟩, .string ⟨#[]⟩, .int .i64 0, .int .i64 0, .slice none 0 0, .string ⟨#[]⟩, .slice none 0 0, .slice none 0 0, .slice none 0 0, .int .i64 0, .int .i64 0, .slice none 0 0, .int .i64 0, .slice none 0 0, .int .i64 0] 53) := ⟨_, rfl⟩
  obtain ⟨r, hr⟩ : ∃ r, w.heap.size = r := ⟨_, rfl⟩
  have HRR : Hid (w.heap.size = r) := hr
  have HA : Hid (Below w.heap.size w W1 ∧ W1.heap[r]? = some (.cells #[.int .i64 a, .int .i64 b, .int .i64 c, .int .i64 d, .int .i64 e, .int .i64 f, .int .i64 g, .int .i64 h, .int .i64 i] 23) ∧ W1.heap[r + 1]? = some (.cells #[.int .i64 0, .int .i64 0, .int .i64 0, .int .i64 0, .int .i64 0, .int .i64 0, .int .i64 0, .int .i64 0, .int .i64 0, .int .i64 0, .string ⟨#[]⟩, .string ⟨#[]⟩, .int .i64 0, .int .i64 0, .slice none 0 0, .string ⟨#[]⟩, .slice none 0 0, .slice none 0 0, .slice none 0 0, .int .i64 0, .int .i64 0, .slice none 0 0, .int .i64 0, .slice none 0 0, .int .i64 0] 53)) := by
    rw [hW1, ← hr]
    exact two_rows (Below.refl _ _)
  clear hr
  go_enter Tryz.func8, Tryz.ntmps8
  obtain ⟨w2, hw2⟩ : ∃ w2, w2 = W1 := ⟨_, rfl⟩
  have hb2 : Below W1.heap.size W1 w2 := by rw [hw2]; exact Below.refl _ _
  have HB2 : Hid (Below w.heap.size w w2) := HA.out.1.trans (hb2.mono HA.out.1.size)
  have HT2 : Hid _ := keep_row HA.out.2.1 hb2
  have HR2 : Hid (w2.heap[r + 1]? = some (.cells ZZ 53)) := by show _ = _; rw [hZ]; exact keep_row HA.out.2.2 hb2
  clear hb2
  have hi53 : Hid ((Tryz.prog.info? 53).map (·.size) = some 25) := by show _ = _; kernel_rfl
  go_upto_region 2 with fail
  rw [← hW1, HRR.out, ← hw2]
  clear hW1 hw2
  refine wp_region_list ?_
  refine wpList_val rfl (v := .agg ZZ) (w' := w2) (by rw [hZ]; kernel_rfl) ?_
  refine wpList_store_mid rfl 53 _ _ rfl (r + 1) 0 ZZ rfl rfl ?s4 (by rw [HZS.out]; exact hi53.out) HZ1.out ?_
  case s4 =>
    intro j hj
    rw [HZS.out] at hj
    have := HZS.out
    refine ⟨?_, frozen_of_row _ _ _ _ _ HR2.out⟩
    rw [cell_of_row _ _ _ _ _ _ HR2.out]
    simp; omega
  have h4 := setCells_pre (r + 1) 53 ZZ.toList [] ZZ.toList w2 (by simp) (by simpa using HR2.out)
  rw [List.length_nil] at h4
  simp only [List.nil_append, Array.toArray_toList] at h4
  revert h4
  generalize w2.setCells (r + 1) 0 ZZ.toList = W4
  intro h4
  have HC4 : Hid (W4.heap[r + 1]? = some (.cells ZZ 53)) := h4.1
  have HB4 : Hid (Below w.heap.size w W4) := HB2.out.trans (h4.2.below (by rw [HRR.out]; omega))
  clear h4 hZ
  go_wp2
  have hlv := run_loadVar_mid (P := Tryz.prog) W4 (r + 1) 0 53 ZZ.toList _ (fun j v hv => by rw [cell_of_row _ _ _ _ _ _ HC4.out]; simpa using hv) Tryz.underlying53 rfl (by rw [Array.length_toList, HZS.out]; exact hi53.out)
  rw [Array.toArray_toList] at hlv
  refine bodyPost_ret (v := .tuple #[.agg ZZ, .int .i64 1]) (by simp [results, Tryz.results8, asAddr, hlv, Result.andThen]) rfl ⟨rfl, HB4.out⟩
set_option maxHeartbeats 4000000 in
set_option maxRecDepth 20000 in
theorem rNew_high (k : Int) (hk : 5 < k) (t : TH) (w : World) : Calls Tryz.prog 8 #[.int .i64 k, thV t] w fun e w' => e = .returned (.tuple #[.agg rZ, .int .i64 1]) ∧ Below w.heap.size w w' := by
  have hk1 : ¬ k < 1 := by omega
  obtain ⟨a, b, c, d, e, f, g, h, i⟩ := t
  unfold thV rZ at *
  simp only [] at *
  obtain ⟨ZZ, hZ⟩ : ∃ C : Array Value, C = #[.int .i64 0, .int .i64 0, .int .i64 0, .int .i64 0, .int .i64 0, .int .i64 0, .int .i64 0, .int .i64 0, .int .i64 0, .int .i64 0, .string ⟨#[]⟩, .string ⟨#[]⟩, .int .i64 0, .int .i64 0, .slice none 0 0, .string ⟨#[]⟩, .slice none 0 0, .slice none 0 0, .slice none 0 0, .int .i64 0, .int .i64 0, .slice none 0 0, .int .i64 0, .slice none 0 0, .int .i64 0] := ⟨_, rfl⟩
  have HZS : Hid (ZZ.size = 25) := by show _ = _; rw [hZ]; rfl
  have HZ1 : Hid (ZZ.all (·.oneCell') = true) := by show _ = _; rw [hZ]; kernel_rfl
  rw [← hZ]
  obtain ⟨W1, hW1⟩ : ∃ W1, W1 = (w.alloc (.cells #[.int .i64 a, .int .i64 b, .int .i64 c, .int .i64 d, .int .i64 e, .int .i64 f, .int .i64 g, .int .i64 h, .int .i64 i] 23)).alloc (.cells #[.int .i64 0, .int .i64 0, .int .i64 0, .int .i64 0, .int .i64 0, .int .i64 0, .int .i64 0, .int .i64 0, .int .i64 0, .int .i64 0, .string ⟨#[]⟩, .string ⟨#[]⟩, .int .i64 0, .int .i64 0, .slice none 0 0, .string ⟨#[]⟩, .slice none 0 0, .slice none 0 0, .slice none 0 0, .int .i64 0, .int .i64 0, .slice none 0 0, .int .i64 0, .slice none 0 0, .int .i64 0] 53) := ⟨_, rfl⟩
  obtain ⟨r, hr⟩ : ∃ r, w.heap.size = r := ⟨_, rfl⟩
  have HRR : Hid (w.heap.size = r) := hr
  have HA : Hid (Below w.heap.size w W1 ∧ W1.heap[r]? = some (.cells #[.int .i64 a, .int .i64 b, .int .i64 c, .int .i64 d, .int .i64 e, .int .i64 f, .int .i64 g, .int .i64 h, .int .i64 i] 23) ∧ W1.heap[r + 1]? = some (.cells #[.int .i64 0, .int .i64 0, .int .i64 0, .int .i64 0, .int .i64 0, .int .i64 0, .int .i64 0, .int .i64 0, .int .i64 0, .int .i64 0, .string ⟨#[]⟩, .string ⟨#[]⟩, .int .i64 0, .int .i64 0, .slice none 0 0, .string ⟨#[]⟩, .slice none 0 0, .slice none 0 0, .slice none 0 0, .int .i64 0, .int .i64 0, .slice none 0 0, .int .i64 0, .slice none 0 0, .int .i64 0] 53)) := by
    rw [hW1, ← hr]
    exact two_rows (Below.refl _ _)
  clear hr
  go_enter Tryz.func8, Tryz.ntmps8
  obtain ⟨w2, hw2⟩ : ∃ w2, w2 = W1 := ⟨_, rfl⟩
  have hb2 : Below W1.heap.size W1 w2 := by rw [hw2]; exact Below.refl _ _
  have HB2 : Hid (Below w.heap.size w w2) := HA.out.1.trans (hb2.mono HA.out.1.size)
  have HT2 : Hid _ := keep_row HA.out.2.1 hb2
  have HR2 : Hid (w2.heap[r + 1]? = some (.cells ZZ 53)) := by show _ = _; rw [hZ]; exact keep_row HA.out.2.2 hb2
  clear hb2
  have hi53 : Hid ((Tryz.prog.info? 53).map (·.size) = some 25) := by show _ = _; kernel_rfl
  go_upto_region 2 with fail
  rw [← hW1, HRR.out, ← hw2]
  clear hW1 hw2
  refine wp_region_list ?_
  refine wpList_val rfl (v := .agg ZZ) (w' := w2) (by rw [hZ]; kernel_rfl) ?_
  refine wpList_store_mid rfl 53 _ _ rfl (r + 1) 0 ZZ rfl rfl ?s4 (by rw [HZS.out]; exact hi53.out) HZ1.out ?_
  case s4 =>
    intro j hj
    rw [HZS.out] at hj
    have := HZS.out
    refine ⟨?_, frozen_of_row _ _ _ _ _ HR2.out⟩
    rw [cell_of_row _ _ _ _ _ _ HR2.out]
    simp; omega
  have h4 := setCells_pre (r + 1) 53 ZZ.toList [] ZZ.toList w2 (by simp) (by simpa using HR2.out)
  rw [List.length_nil] at h4
  simp only [List.nil_append, Array.toArray_toList] at h4
  revert h4
  generalize w2.setCells (r + 1) 0 ZZ.toList = W4
  intro h4
  have HC4 : Hid (W4.heap[r + 1]? = some (.cells ZZ 53)) := h4.1
  have HB4 : Hid (Below w.heap.size w W4) := HB2.out.trans (h4.2.below (by rw [HRR.out]; omega))
  clear h4 hZ
  go_wp2
  have hlv := run_loadVar_mid (P := Tryz.prog) W4 (r + 1) 0 53 ZZ.toList _ (fun j v hv => by rw [cell_of_row _ _ _ _ _ _ HC4.out]; simpa using hv) Tryz.underlying53 rfl (by rw [Array.length_toList, HZS.out]; exact hi53.out)
  rw [Array.toArray_toList] at hlv
  refine bodyPost_ret (v := .tuple #[.agg ZZ, .int .i64 1]) (by simp [results, Tryz.results8, asAddr, hlv, Result.andThen]) rfl ⟨rfl, HB4.out⟩
set_option maxHeartbeats 4000000 in
set_option maxRecDepth 20000 in
theorem rNew_set (t : TH) (ht : okT t = true) (w : World) : Calls Tryz.prog 8 #[.int .i64 3, thV t] w fun e w' => e = .returned (.tuple #[rV 3 t isE 0 0 ⟨#[2, 0, 0, 0, 0, 0, 0, 0]⟩, .int .i64 0]) ∧ Below w.heap.size w w' := by
  have HCK : Hid (∀ W, Calls Tryz.prog 5 #[thV t] W fun e w' => e = .returned (.int .i64 0) ∧ Below W.heap.size W w') := fun W => by have := rCheck_any t W; rw [if_pos ht] at this; exact this
  obtain ⟨a, b, c, d, e, f, g, h, i⟩ := t
  unfold thV rV isE at *
  simp only [] at *
  clear ht
  obtain ⟨C, hC⟩ : ∃ C : Array Value, C = #[.int .i64 3, .int .i64 a, .int .i64 b, .int .i64 c, .int .i64 d, .int .i64 e, .int .i64 f, .int .i64 g, .int .i64 h, .int .i64 i, .string ⟨#[108, 105, 115, 116, 112, 97, 99, 107]⟩, .string ⟨#[]⟩, .int .i64 0, .int .i64 0, .slice none 0 0, .string ⟨#[]⟩, .slice none 0 0, .slice none 0 0, .slice none 0 0, .int .i64 0, .int .i64 0, .slice none 0 0, .int .i64 0, .slice none 0 0, .int .i64 0] := ⟨_, rfl⟩
  obtain ⟨ZZ, hZ⟩ : ∃ C : Array Value, C = #[.int .i64 0, .int .i64 0, .int .i64 0, .int .i64 0, .int .i64 0, .int .i64 0, .int .i64 0, .int .i64 0, .int .i64 0, .int .i64 0, .string ⟨#[]⟩, .string ⟨#[]⟩, .int .i64 0, .int .i64 0, .slice none 0 0, .string ⟨#[]⟩, .slice none 0 0, .slice none 0 0, .slice none 0 0, .int .i64 0, .int .i64 0, .slice none 0 0, .int .i64 0, .slice none 0 0, .int .i64 0] := ⟨_, rfl⟩
  have HCS : Hid (C.size = 25) := by show _ = _; rw [hC]; rfl
  have HZS : Hid (ZZ.size = 25) := by show _ = _; rw [hZ]; rfl
  have HC1 : Hid (C.all (·.oneCell') = true) := by show _ = _; rw [hC]; kernel_rfl
  obtain ⟨C2, hC2⟩ : ∃ C2 : Array Value, C2 = (C.set! 10 (.string ⟨#[105, 110, 116, 115, 101, 116]⟩)).set! 15 (.string ⟨#[2, 0, 0, 0, 0, 0, 0, 0]⟩) := ⟨_, rfl⟩
  have HCXS : Hid (C2.size = 25) := by show _ = _; rw [hC2, hC]; rfl
  have HCX1 : Hid (C2.all (·.oneCell') = true) := by show _ = _; rw [hC2, hC]; kernel_rfl
  rw [show #[Value.int .i64 3, .int .i64 a, .int .i64 b, .int .i64 c, .int .i64 d, .int .i64 e, .int .i64 f, .int .i64 g, .int .i64 h, .int .i64 i, .string ⟨#[105, 110, 116, 115, 101, 116]⟩, .string ⟨#[]⟩, .int .i64 0, .int .i64 0, .slice none 0 0, .string ⟨#[2, 0, 0, 0, 0, 0, 0, 0]⟩, .slice none 0 0, .slice none 0 0, .slice none 0 0, .int .i64 0, .int .i64 0, .slice none 0 0, .int .i64 0, .slice none 0 0, .int .i64 0] = C2 by rw [hC2, hC]; kernel_rfl]
  obtain ⟨W1, hW1⟩ : ∃ W1, W1 = (w.alloc (.cells #[.int .i64 a, .int .i64 b, .int .i64 c, .int .i64 d, .int .i64 e, .int .i64 f, .int .i64 g, .int .i64 h, .int .i64 i] 23)).alloc (.cells #[.int .i64 0, .int .i64 0, .int .i64 0, .int .i64 0, .int .i64 0, .int .i64 0, .int .i64 0, .int .i64 0, .int .i64 0, .int .i64 0, .string ⟨#[]⟩, .string ⟨#[]⟩, .int .i64 0, .int .i64 0, .slice none 0 0, .string ⟨#[]⟩, .slice none 0 0, .slice none 0 0, .slice none 0 0, .int .i64 0, .int .i64 0, .slice none 0 0, .int .i64 0, .slice none 0 0, .int .i64 0] 53) := ⟨_, rfl⟩
  obtain ⟨r, hr⟩ : ∃ r, w.heap.size = r := ⟨_, rfl⟩
  have HRR : Hid (w.heap.size = r) := hr
  have HA : Hid (Below w.heap.size w W1 ∧ W1.heap[r]? = some (.cells #[.int .i64 a, .int .i64 b, .int .i64 c, .int .i64 d, .int .i64 e, .int .i64 f, .int .i64 g, .int .i64 h, .int .i64 i] 23) ∧ W1.heap[r + 1]? = some (.cells #[.int .i64 0, .int .i64 0, .int .i64 0, .int .i64 0, .int .i64 0, .int .i64 0, .int .i64 0, .int .i64 0, .int .i64 0, .int .i64 0, .string ⟨#[]⟩, .string ⟨#[]⟩, .int .i64 0, .int .i64 0, .slice none 0 0, .string ⟨#[]⟩, .slice none 0 0, .slice none 0 0, .slice none 0 0, .int .i64 0, .int .i64 0, .slice none 0 0, .int .i64 0, .slice none 0 0, .int .i64 0] 53)) := by
    rw [hW1, ← hr]
    exact two_rows (Below.refl _ _)
  clear hr
  go_enter Tryz.func8, Tryz.ntmps8
  go_wp2_with fail
  rw [← hW1, HRR.out]
  refine (show Calls _ _ _ _ _ from HCK.out _).mono ?_
  rintro e w2 ⟨rfl, hb2⟩
  have HB2 : Hid (Below w.heap.size w w2) := HA.out.1.trans (hb2.mono HA.out.1.size)
  have HT2 : Hid _ := keep_row HA.out.2.1 hb2
  have HR2 : Hid (w2.heap[r + 1]? = some (.cells ZZ 53)) := by show _ = _; rw [hZ]; exact keep_row HA.out.2.2 hb2
  clear hb2 hW1
  obtain ⟨y0, y1, y2, y3, y4, y5, y6, y7, y8, yf⟩ := row9 HT2.out
  have hi53 : Hid ((Tryz.prog.info? 53).map (·.size) = some 25) := by show _ = _; kernel_rfl
  go_upto_region 3 with fail
  obtain ⟨y0, y1, y2, y3, y4, y5, y6, y7, y8, yf⟩ := row9 HT2.out
  refine wp_region_list ?_
  refine wpList_val rfl (v := .int .i64 3) rfl ?_
  refine wpList_load_mid rfl 23 _ rfl r 0 rfl [.int .i64 a, .int .i64 b, .int .i64 c, .int .i64 d, .int .i64 e, .int .i64 f, .int .i64 g, .int .i64 h, .int .i64 i] _ ?l1 Tryz.underlying23 rfl (by kernel_rfl) ?_
  case l1 =>
    intro j v hv
    rw [cell_of_row _ _ _ _ _ _ HT2.out]
    simpa using hv
  have HZR : Hid ((w2.alloc (.cells ZZ 53)).heap[w2.heap.size]? = some (.cells ZZ 53)) := one_alloc _ _
  refine wpList_val rfl (v := .agg C) (w' := w2) (by rw [hC]; kernel_rfl) ?_
  refine wpList_val rfl (v := .pointer (some ⟨w2.heap.size, 0, none⟩)) (w' := w2.alloc (.cells ZZ 53)) (by rw [hZ]; kernel_rfl) ?_
  refine wpList_store_mid rfl 53 _ _ rfl w2.heap.size 0 C rfl rfl ?s1 (by rw [HCS.out]; exact hi53.out) HC1.out ?_
  case s1 =>
    intro j hj
    rw [HCS.out] at hj
    have := HZS.out
    refine ⟨?_, frozen_of_row _ _ _ _ _ HZR.out⟩
    rw [cell_of_row _ _ _ _ _ _ HZR.out]
    simp; omega
  have h3 := setCells_pre w2.heap.size 53 C.toList [] ZZ.toList (w2.alloc (.cells ZZ 53)) (by simp [HCS.out, HZS.out]) (by simpa using HZR.out)
  rw [List.length_nil] at h3
  simp only [List.nil_append, Array.toArray_toList] at h3
  revert h3
  generalize (w2.alloc (.cells ZZ 53)).setCells w2.heap.size 0 C.toList = W3
  intro h3
  have HC3 : Hid (W3.heap[w2.heap.size]? = some (.cells C 53)) := h3.1
  have HO3 : Hid (Mod w2.heap.size (w2.alloc (.cells ZZ 53)) W3) := Mod.only h3.2
  have HLT : Hid (r + 1 < w2.heap.size) := row_lt HR2.out
  have HR3 : Hid (W3.heap[r + 1]? = some (.cells ZZ 53)) := HO3.out.row (keep_row HR2.out ((Below.refl _ _).alloc (Nat.le_refl _) _)) (by have := HLT.out; omega)
  have HB3 : Hid (Below w.heap.size w W3) := (HB2.out.alloc HB2.out.size _).trans (HO3.out.below (by have h1 := HLT.out; rw [HRR.out]; omega) (by simp; have := HB2.out.size; omega))
  clear h3 y0 y1 y2 y3 y4 y5 y6 y7 y8 yf hZ
  have HCC : Hid _ := hC
  clear hC
  have hgc : W3.cell? ⟨w2.heap.size, 10, none⟩ = some (.string ⟨#[108, 105, 115, 116, 112, 97, 99, 107]⟩) := by rw [cell_of_row _ _ _ _ _ _ HC3.out, HCC.out]; rfl
  have hgf : ∀ j, W3.frozen? ⟨w2.heap.size, j, none⟩ = false := fun j => frozen_of_row _ _ _ _ _ HC3.out
  obtain ⟨V1, hV1⟩ : ∃ V1, V1 = W3.setCell ⟨w2.heap.size, 10, none⟩ (.string ⟨#[105, 110, 116, 115, 101, 116]⟩) := ⟨_, rfl⟩
  have HV1 : Hid (V1.heap[w2.heap.size]? = some (.cells (C.set! 10 (.string ⟨#[105, 110, 116, 115, 101, 116]⟩)) 53)) := by rw [hV1, heap_setCell_same _ _ _ _ _ _ HC3.out]; rfl
  have HM1 : Hid (Mod w2.heap.size W3 V1) := Mod.only (by rw [hV1]; exact (Only.refl _ _).set _ _)
  go_upto_region 10 with fail
  rw [← hV1]
  clear hV1 hgc hgf
  go_wp2_with fail
  refine (show Calls _ _ _ _ _ from rnew05 _).mono ?_
  rintro e w5 ⟨rfl, hb5⟩
  have HV5 : Hid _ := keep_row HV1.out hb5
  have hgc : w5.cell? ⟨w2.heap.size, 15, none⟩ = some (.string ⟨#[]⟩) := by rw [cell_of_row _ _ _ _ _ _ HV5.out, HCC.out]; rfl
  have hgf : ∀ j, w5.frozen? ⟨w2.heap.size, j, none⟩ = false := fun j => frozen_of_row _ _ _ _ _ HV5.out
  obtain ⟨WX, hWX⟩ : ∃ WX, WX = w5.setCell ⟨w2.heap.size, 15, none⟩ (.string ⟨#[2, 0, 0, 0, 0, 0, 0, 0]⟩) := ⟨_, rfl⟩
  have HCX : Hid (WX.heap[w2.heap.size]? = some (.cells C2 53)) := by rw [hWX, heap_setCell_same _ _ _ _ _ _ HV5.out, hC2]; rfl
  have HMX : Hid (Mod w2.heap.size W3 WX) := HM1.out.trans ((Mod.of hb5).trans (Mod.only (by rw [hWX]; exact (Only.refl _ _).set _ _)))
  have HRX : Hid (WX.heap[r + 1]? = some (.cells ZZ 53)) := HMX.out.row HR3.out (by have := HLT.out; omega)
  have HBX : Hid (Below w.heap.size w WX) := HB3.out.trans (HMX.out.below (by have h1 := HLT.out; rw [HRR.out]; omega) HB3.out.size)
  clear hb5
  go_upto_region 11 with fail
  rw [← hWX]
  clear hWX hgc hgf hC2
  refine wp_region_list ?_
  refine wpList_load_mid rfl 53 _ rfl w2.heap.size 0 rfl C2.toList _ ?m1 Tryz.underlying53 rfl (by rw [Array.length_toList, HCXS.out]; exact hi53.out) ?_
  case m1 =>
    intro j v hv
    rw [cell_of_row _ _ _ _ _ _ HCX.out]
    simpa using hv
  rw [Array.toArray_toList]
  refine wpList_store_mid rfl 53 _ _ rfl (r + 1) 0 C2 rfl rfl ?s4 (by rw [HCXS.out]; exact hi53.out) HCX1.out ?_
  case s4 =>
    intro j hj
    rw [HCXS.out] at hj
    have := HZS.out
    refine ⟨?_, frozen_of_row _ _ _ _ _ HRX.out⟩
    rw [cell_of_row _ _ _ _ _ _ HRX.out]
    simp; omega
  have h4 := setCells_pre (r + 1) 53 C2.toList [] ZZ.toList WX (by simp [HCXS.out, HZS.out]) (by simpa using HRX.out)
  rw [List.length_nil] at h4
  simp only [List.nil_append, Array.toArray_toList] at h4
  revert h4
  generalize WX.setCells (r + 1) 0 C2.toList = W4
  intro h4
  have HC4 : Hid (W4.heap[r + 1]? = some (.cells C2 53)) := h4.1
  have HB4 : Hid (Below w.heap.size w W4) := HBX.out.trans (h4.2.below (by rw [HRR.out]; omega))
  clear h4
  go_wp2
  have hlv := run_loadVar_mid (P := Tryz.prog) W4 (r + 1) 0 53 C2.toList _ (fun j v hv => by rw [cell_of_row _ _ _ _ _ _ HC4.out]; simpa using hv) Tryz.underlying53 rfl (by rw [Array.length_toList, HCXS.out]; exact hi53.out)
  rw [Array.toArray_toList] at hlv
  refine bodyPost_ret (v := .tuple #[.agg C2, .int .i64 0]) (by simp [results, Tryz.results8, asAddr, hlv, Result.andThen]) rfl ⟨rfl, HB4.out⟩
end Go.Proofs.YtfkcpilkhdbpoaaGreatDoor.V
namespace Go.Proofs.YtfkcpilkhdbpoaaGreatDoor.V
open Go.RowKit S5.IM
open S6 (Laid Lay)
set_option linter.unusedVariables false
set_option linter.unusedSimpArgs false
set_option maxHeartbeats 4000000 in
set_option maxRecDepth 20000 in
theorem rNew_list (t : TH) (ht : okT t = true) (w : World) : Calls Tryz.prog 8 #[.int .i64 2, thV t] w fun e w' => e = .returned (.tuple #[rV 2 t lpE t.a t.b ⟨#[]⟩, .int .i64 0]) ∧ Below w.heap.size w w' := by
  have HCK : Hid (∀ W, Calls Tryz.prog 5 #[thV t] W fun e w' => e = .returned (.int .i64 0) ∧ Below W.heap.size W w') := fun W => by have := rCheck_any t W; rw [if_pos ht] at this; exact this
  obtain ⟨hy1, _, _, hy2, ⟨hy3, hy4⟩, _⟩ := ok_yes ht
  have HNL : Hid (∀ W, _) := fun W => rnew07 t.a t.b hy1 hy2 hy3 hy4 W
  clear hy1 hy2 hy3 hy4
  obtain ⟨a, b, c, d, e, f, g, h, i⟩ := t
  unfold thV rV lpE at *
  simp only [] at *
  clear ht
  obtain ⟨C, hC⟩ : ∃ C : Array Value, C = #[.int .i64 2, .int .i64 a, .int .i64 b, .int .i64 c, .int .i64 d, .int .i64 e, .int .i64 f, .int .i64 g, .int .i64 h, .int .i64 i, .string ⟨#[108, 105, 115, 116, 112, 97, 99, 107]⟩, .string ⟨#[]⟩, .int .i64 0, .int .i64 0, .slice none 0 0, .string ⟨#[]⟩, .slice none 0 0, .slice none 0 0, .slice none 0 0, .int .i64 0, .int .i64 0, .slice none 0 0, .int .i64 0, .slice none 0 0, .int .i64 0] := ⟨_, rfl⟩
  obtain ⟨ZZ, hZ⟩ : ∃ C : Array Value, C = #[.int .i64 0, .int .i64 0, .int .i64 0, .int .i64 0, .int .i64 0, .int .i64 0, .int .i64 0, .int .i64 0, .int .i64 0, .int .i64 0, .string ⟨#[]⟩, .string ⟨#[]⟩, .int .i64 0, .int .i64 0, .slice none 0 0, .string ⟨#[]⟩, .slice none 0 0, .slice none 0 0, .slice none 0 0, .int .i64 0, .int .i64 0, .slice none 0 0, .int .i64 0, .slice none 0 0, .int .i64 0] := ⟨_, rfl⟩
  have HCS : Hid (C.size = 25) := by show _ = _; rw [hC]; rfl
  have HZS : Hid (ZZ.size = 25) := by show _ = _; rw [hZ]; rfl
  have HC1 : Hid (C.all (·.oneCell') = true) := by show _ = _; rw [hC]; kernel_rfl
  obtain ⟨C2, hC2⟩ : ∃ C2 : Array Value, C2 = ((C.set! 12 (.int .i64 a)).set! 13 (.int .i64 b)).set! 14 (.slice none 0 0) := ⟨_, rfl⟩
  have HCXS : Hid (C2.size = 25) := by show _ = _; rw [hC2, hC]; rfl
  have HCX1 : Hid (C2.all (·.oneCell') = true) := by show _ = _; rw [hC2, hC]; kernel_rfl
  rw [show #[Value.int .i64 2, .int .i64 a, .int .i64 b, .int .i64 c, .int .i64 d, .int .i64 e, .int .i64 f, .int .i64 g, .int .i64 h, .int .i64 i, .string ⟨#[108, 105, 115, 116, 112, 97, 99, 107]⟩, .string ⟨#[]⟩, .int .i64 a, .int .i64 b, .slice none 0 0, .string ⟨#[]⟩, .slice none 0 0, .slice none 0 0, .slice none 0 0, .int .i64 0, .int .i64 0, .slice none 0 0, .int .i64 0, .slice none 0 0, .int .i64 0] = C2 by rw [hC2, hC]; kernel_rfl]
  obtain ⟨W1, hW1⟩ : ∃ W1, W1 = (w.alloc (.cells #[.int .i64 a, .int .i64 b, .int .i64 c, .int .i64 d, .int .i64 e, .int .i64 f, .int .i64 g, .int .i64 h, .int .i64 i] 23)).alloc (.cells #[.int .i64 0, .int .i64 0, .int .i64 0, .int .i64 0, .int .i64 0, .int .i64 0, .int .i64 0, .int .i64 0, .int .i64 0, .int .i64 0, .string ⟨#[]⟩, .string ⟨#[]⟩, .int .i64 0, .int .i64 0, .slice none 0 0, .string ⟨#[]⟩, .slice none 0 0, .slice none 0 0, .slice none 0 0, .int .i64 0, .int .i64 0, .slice none 0 0, .int .i64 0, .slice none 0 0, .int .i64 0] 53) := ⟨_, rfl⟩
  obtain ⟨r, hr⟩ : ∃ r, w.heap.size = r := ⟨_, rfl⟩
  have HRR : Hid (w.heap.size = r) := hr
  have HA : Hid (Below w.heap.size w W1 ∧ W1.heap[r]? = some (.cells #[.int .i64 a, .int .i64 b, .int .i64 c, .int .i64 d, .int .i64 e, .int .i64 f, .int .i64 g, .int .i64 h, .int .i64 i] 23) ∧ W1.heap[r + 1]? = some (.cells #[.int .i64 0, .int .i64 0, .int .i64 0, .int .i64 0, .int .i64 0, .int .i64 0, .int .i64 0, .int .i64 0, .int .i64 0, .int .i64 0, .string ⟨#[]⟩, .string ⟨#[]⟩, .int .i64 0, .int .i64 0, .slice none 0 0, .string ⟨#[]⟩, .slice none 0 0, .slice none 0 0, .slice none 0 0, .int .i64 0, .int .i64 0, .slice none 0 0, .int .i64 0, .slice none 0 0, .int .i64 0] 53)) := by
    rw [hW1, ← hr]
    exact two_rows (Below.refl _ _)
  clear hr
  go_enter Tryz.func8, Tryz.ntmps8
  go_wp2_with fail
  rw [← hW1, HRR.out]
  refine (show Calls _ _ _ _ _ from HCK.out _).mono ?_
  rintro e w2 ⟨rfl, hb2⟩
  have HB2 : Hid (Below w.heap.size w w2) := HA.out.1.trans (hb2.mono HA.out.1.size)
  have HT2 : Hid _ := keep_row HA.out.2.1 hb2
  have HR2 : Hid (w2.heap[r + 1]? = some (.cells ZZ 53)) := by show _ = _; rw [hZ]; exact keep_row HA.out.2.2 hb2
  clear hb2 hW1
  obtain ⟨y0, y1, y2, y3, y4, y5, y6, y7, y8, yf⟩ := row9 HT2.out
  have hi53 : Hid ((Tryz.prog.info? 53).map (·.size) = some 25) := by show _ = _; kernel_rfl
  go_upto_region 3 with fail
  obtain ⟨y0, y1, y2, y3, y4, y5, y6, y7, y8, yf⟩ := row9 HT2.out
  refine wp_region_list ?_
  refine wpList_val rfl (v := .int .i64 2) rfl ?_
  refine wpList_load_mid rfl 23 _ rfl r 0 rfl [.int .i64 a, .int .i64 b, .int .i64 c, .int .i64 d, .int .i64 e, .int .i64 f, .int .i64 g, .int .i64 h, .int .i64 i] _ ?l1 Tryz.underlying23 rfl (by kernel_rfl) ?_
  case l1 =>
    intro j v hv
    rw [cell_of_row _ _ _ _ _ _ HT2.out]
    simpa using hv
  have HZR : Hid ((w2.alloc (.cells ZZ 53)).heap[w2.heap.size]? = some (.cells ZZ 53)) := one_alloc _ _
  refine wpList_val rfl (v := .agg C) (w' := w2) (by rw [hC]; kernel_rfl) ?_
  refine wpList_val rfl (v := .pointer (some ⟨w2.heap.size, 0, none⟩)) (w' := w2.alloc (.cells ZZ 53)) (by rw [hZ]; kernel_rfl) ?_
  refine wpList_store_mid rfl 53 _ _ rfl w2.heap.size 0 C rfl rfl ?s1 (by rw [HCS.out]; exact hi53.out) HC1.out ?_
  case s1 =>
    intro j hj
    rw [HCS.out] at hj
    have := HZS.out
    refine ⟨?_, frozen_of_row _ _ _ _ _ HZR.out⟩
    rw [cell_of_row _ _ _ _ _ _ HZR.out]
    simp; omega
  have h3 := setCells_pre w2.heap.size 53 C.toList [] ZZ.toList (w2.alloc (.cells ZZ 53)) (by simp [HCS.out, HZS.out]) (by simpa using HZR.out)
  rw [List.length_nil] at h3
  simp only [List.nil_append, Array.toArray_toList] at h3
  revert h3
  generalize (w2.alloc (.cells ZZ 53)).setCells w2.heap.size 0 C.toList = W3
  intro h3
  have HC3 : Hid (W3.heap[w2.heap.size]? = some (.cells C 53)) := h3.1
  have HO3 : Hid (Mod w2.heap.size (w2.alloc (.cells ZZ 53)) W3) := Mod.only h3.2
  have HLT : Hid (r + 1 < w2.heap.size) := row_lt HR2.out
  have HR3 : Hid (W3.heap[r + 1]? = some (.cells ZZ 53)) := HO3.out.row (keep_row HR2.out ((Below.refl _ _).alloc (Nat.le_refl _) _)) (by have := HLT.out; omega)
  have HB3 : Hid (Below w.heap.size w W3) := (HB2.out.alloc HB2.out.size _).trans (HO3.out.below (by have h1 := HLT.out; rw [HRR.out]; omega) (by simp; have := HB2.out.size; omega))
  clear h3 y0 y1 y2 y3 y4 y5 y6 y7 y8 yf hZ
  have HCC : Hid _ := hC
  clear hC
  have HT3 : Hid _ := HO3.out.row (keep_row HT2.out ((Below.refl _ _).alloc (Nat.le_refl _) _)) (by have := HLT.out; omega)
  obtain ⟨y0, y1, y2, y3, y4, y5, y6, y7, y8, yf⟩ := row9 HT3.out
  go_wp2_with fail
  refine (show Calls _ _ _ _ _ from HNL.out _).mono ?_
  rintro e w5 ⟨rfl, hb5⟩
  clear y0 y1 y2 y3 y4 y5 y6 y7 y8 yf
  obtain ⟨W6, hW6⟩ : ∃ W6, W6 = w5.alloc (.cells #[.int .i64 a, .int .i64 b, .slice none 0 0] 46) := ⟨_, rfl⟩
  obtain ⟨gl, hgl⟩ : ∃ gl, gl = w5.heap.size := ⟨_, rfl⟩
  have HL6 : Hid (W6.heap[gl]? = some (.cells #[.int .i64 a, .int .i64 b, .slice none 0 0] 46)) := by rw [hW6, hgl]; exact one_alloc _ _
  have HB56 : Hid (Below W3.heap.size W3 W6) := hb5.trans (by rw [hW6]; exact ((Below.refl _ _).alloc (Nat.le_refl _) _).mono hb5.size)
  have HV6 : Hid (W6.heap[w2.heap.size]? = some (.cells C 53)) := keep_row HC3.out HB56.out
  have HNE : Hid (w2.heap.size ≠ gl) := by rw [hgl]; have h1 := hb5.size; have h2 := row_lt HC3.out; show _ ≠ _; omega
  go_upto_region 7 with fail
  rw [← hW6, ← hgl]
  clear hW6 hgl hb5
  have hc12 : W6.cell? ⟨w2.heap.size, 12, none⟩ = some (.int .i64 0) := by rw [cell_of_row _ _ _ _ _ _ HV6.out, HCC.out]; rfl
  have hc13 : W6.cell? ⟨w2.heap.size, 13, none⟩ = some (.int .i64 0) := by rw [cell_of_row _ _ _ _ _ _ HV6.out, HCC.out]; rfl
  have hc14 : W6.cell? ⟨w2.heap.size, 14, none⟩ = some (.slice none 0 0) := by rw [cell_of_row _ _ _ _ _ _ HV6.out, HCC.out]; rfl
  have hgf : ∀ j, W6.frozen? ⟨w2.heap.size, j, none⟩ = false := fun j => frozen_of_row _ _ _ _ _ HV6.out
  obtain ⟨z0, z1, z2, zf⟩ := row3 HL6.out
  obtain ⟨WX, hWX⟩ : ∃ WX, WX = ((W6.setCell ⟨w2.heap.size, 12, none⟩ (.int .i64 a)).setCell ⟨w2.heap.size, 13, none⟩ (.int .i64 b)).setCell ⟨w2.heap.size, 14, none⟩ (.slice none 0 0) := ⟨_, rfl⟩
  have HCX : Hid (WX.heap[w2.heap.size]? = some (.cells C2 53)) := by rw [hWX, heap_setCell_same _ _ _ _ _ _ (heap_setCell_same _ _ _ _ _ _ (heap_setCell_same _ _ _ _ _ _ HV6.out)), hC2]; rfl
  have HMX : Hid (Mod w2.heap.size W3 WX) := (Mod.of HB56.out).trans (Mod.only (by rw [hWX]; exact (((Only.refl _ _).set _ _).set _ _).set _ _))
  have HRX : Hid (WX.heap[r + 1]? = some (.cells ZZ 53)) := HMX.out.row HR3.out (by have := HLT.out; omega)
  have HBX : Hid (Below w.heap.size w WX) := HB3.out.trans (HMX.out.below (by have h1 := HLT.out; rw [HRR.out]; omega) HB3.out.size)
  go_upto_region 11 with fail
  rw [← hWX]
  clear hWX hc12 hc13 hc14 hgf z0 z1 z2 zf hC2
  refine wp_region_list ?_
  refine wpList_load_mid rfl 53 _ rfl w2.heap.size 0 rfl C2.toList _ ?m1 Tryz.underlying53 rfl (by rw [Array.length_toList, HCXS.out]; exact hi53.out) ?_
  case m1 =>
    intro j v hv
    rw [cell_of_row _ _ _ _ _ _ HCX.out]
    simpa using hv
  rw [Array.toArray_toList]
  refine wpList_store_mid rfl 53 _ _ rfl (r + 1) 0 C2 rfl rfl ?s4 (by rw [HCXS.out]; exact hi53.out) HCX1.out ?_
  case s4 =>
    intro j hj
    rw [HCXS.out] at hj
    have := HZS.out
    refine ⟨?_, frozen_of_row _ _ _ _ _ HRX.out⟩
    rw [cell_of_row _ _ _ _ _ _ HRX.out]
    simp; omega
  have h4 := setCells_pre (r + 1) 53 C2.toList [] ZZ.toList WX (by simp [HCXS.out, HZS.out]) (by simpa using HRX.out)
  rw [List.length_nil] at h4
  simp only [List.nil_append, Array.toArray_toList] at h4
  revert h4
  generalize WX.setCells (r + 1) 0 C2.toList = W4
  intro h4
  have HC4 : Hid (W4.heap[r + 1]? = some (.cells C2 53)) := h4.1
  have HB4 : Hid (Below w.heap.size w W4) := HBX.out.trans (h4.2.below (by rw [HRR.out]; omega))
  clear h4
  go_wp2
  have hlv := run_loadVar_mid (P := Tryz.prog) W4 (r + 1) 0 53 C2.toList _ (fun j v hv => by rw [cell_of_row _ _ _ _ _ _ HC4.out]; simpa using hv) Tryz.underlying53 rfl (by rw [Array.length_toList, HCXS.out]; exact hi53.out)
  rw [Array.toArray_toList] at hlv
  refine bodyPost_ret (v := .tuple #[.agg C2, .int .i64 0]) (by simp [results, Tryz.results8, asAddr, hlv, Result.andThen]) rfl ⟨rfl, HB4.out⟩
end Go.Proofs.YtfkcpilkhdbpoaaGreatDoor.V
