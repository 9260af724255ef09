import Derived.Test.YthjcbolbbdclnaaPack
import Derived.ProofKit
import Derived.OpenShut
import Derived.ShutString
import Derived.SizedLaws
namespace Go.Proofs.Ythjcbolbbdclnaa.lzfFinds
open Go.ChangeShapes Go.WideShapes Go.ChangeAt Go.RowKit Lz
open Go.ChangeMaps (open_string shut_string)
set_option linter.unusedVariables false
theorem fill_set {cs : Array Value} {N k : Nat} {v : Value} (hz : cs.size = N) (hk : k < N) (h : ∀ j, j < k → cs[j]? = some v) :
    (cs.setIfInBounds k v).size = N ∧ ∀ j, j < k + 1 → (cs.setIfInBounds k v)[j]? = some v := by
  refine ⟨by simpa using hz, fun j hj => ?_⟩
  rw [Array.getElem?_setIfInBounds]
  by_cases e : k = j
  · rw [if_pos e, if_pos (by omega)]
  · rw [if_neg e]; exact h j (by omega)
theorem conv_rep {w : World} {g N : Nat} {x : UInt8} {cs : Array Value} (hg : w.heap[g]? = some (.cells cs 5)) (h : ∀ j, j < N → cs[j]? = some (.int .u8 (x.toNat : Int))) :
    Sem.run Try.prog (convert 22 9 (.slice (some ⟨g, 0, none⟩) N N)) w = .ok (.string (strB (List.replicate N x))) w := by
  have := run_convert_bytes_back (P := Try.prog) w 22 9 5 ⟨g, 0, none⟩ N (List.replicate N x) Try.underlying22 Try.underlying5 Try.underlying9 (by
    intro j hj
    rw [List.length_replicate] at hj
    have e : (⟨g, 0, none⟩ : Addr).add j = ⟨g, j, none⟩ := by unfold Addr.add; split <;> simp_all
    rw [e, cell_of_row _ _ _ _ _ _ hg, h j hj]
    simp)
  rw [List.length_replicate] at this
  exact this
theorem app_list (s : ByteArray) : (s ++ s).data.toList = s.data.toList ++ s.data.toList := by simp
/-- what the law fills, so far. -/
def Filled (w wr : World) (N k : Nat) (v : Value) : Prop := (∃ cs : Array Value, wr.heap[w.heap.size]? = some (.cells cs 5) ∧ cs.size = N ∧ ∀ j, j < k → cs[j]? = some v) ∧ Below w.heap.size w wr
theorem Filled.start (w : World) (N : Nat) (v : Value) : Filled w (w.alloc (.cells (madeCells #[.int .u8 0] N) 5)) N 0 v :=
  ⟨⟨_, heap_alloc_new _ _, size_madeCells _ _, fun j hj => absurd hj (by omega)⟩, (Below.refl _ _).alloc (Nat.le_refl _) _⟩
theorem Filled.next {w wr : World} {N k : Nat} {v : Value} (h : Filled w wr N k v) (hk : k < N) : Filled w (wr.setCell ⟨w.heap.size, k, none⟩ v) N (k + 1) v := by
  obtain ⟨⟨cs, h1, h2, h3⟩, hb⟩ := h
  exact ⟨⟨_, heap_setCell_same _ _ _ _ _ _ h1, fill_set h2 hk h3⟩, hb.setCell (Nat.le_refl _) _⟩
theorem Filled.cell {w wr : World} {N k : Nat} {v : Value} (h : Filled w wr N k v) (hk : k < N) : (∃ u, wr.cell? ⟨w.heap.size, k, none⟩ = some u) ∧ wr.frozen? ⟨w.heap.size, k, none⟩ = false := by
  obtain ⟨⟨cs, h1, h2, h3⟩, hb⟩ := h
  exact ⟨⟨cs[k]'(by omega), by rw [cell_of_row _ _ _ _ _ _ h1]; exact Array.getElem?_eq_getElem (by omega)⟩, frozen_of_row _ _ _ _ _ h1⟩
theorem Filled.conv {w wr : World} {N : Nat} {x : UInt8} (h : Filled w wr N N (.int .u8 (x.toNat : Int))) :
    Sem.run Try.prog (convert 22 9 (.slice (some ⟨w.heap.size, 0, none⟩) N N)) wr = .ok (.string (strB (List.replicate N x))) wr := by
  obtain ⟨⟨cs, h1, h2, h3⟩, hb⟩ := h
  exact conv_rep h1 h3
theorem pack_same (N : Nat) (x : UInt8) (h1 : 20 ≤ N) (h2 : N ≤ 524288) (w : World) :
    Calls Try.prog 8 #[.string (strB (List.replicate N x))] w fun e w' => e = .returned (.tuple #[.string (strB (piecesF (List.replicate N x))), .bool true]) ∧ Below w.heap.size w w' := by
  have := pack_any (strB (List.replicate N x)) (by rw [strB_size, List.length_replicate]; omega) w
  rw [strB_list, packF_same N x h1 h2] at this
  exact this
theorem pack_twice (s : ByteArray) (h1 : 32 ≤ s.size) (h2 : s.size ≤ 4000) (w : World) :
    Calls Try.prog 8 #[.string (s ++ s)] w fun e w' => e = .returned (.tuple #[.string (strB (piecesF (s.data.toList ++ s.data.toList))), .bool true]) ∧ Below w.heap.size w w' := by
  have := pack_any (s ++ s) (by rw [ByteArray.size_append]; omega) w
  rw [app_list, packF_twice _ (by rw [list_len]; exact h1) (by rw [list_len]; exact h2)] at this
  exact this
theorem pack_none (N : Nat) (h1 : 524288 < N) (h2 : N ≤ 140737488355328) (w : World) :
    Calls Try.prog 8 #[.string (strB (List.replicate N 0))] w fun e w' => e = .returned (.tuple #[.string ⟨#[]⟩, .bool false]) ∧ Below w.heap.size w w' := by
  have := pack_any (strB (List.replicate N 0)) (by rw [strB_size, List.length_replicate]; exact h2) w
  rw [strB_list, packF_long _ (by rw [List.length_replicate]; exact h1)] at this
  exact this
set_option maxHeartbeats 8000000 in
set_option maxRecDepth 20000 in
theorem LzfFinds_walk (a0 : ByteArray) (a1 : Int) (z0 : a0.size ≤ 140737488351232) (w1 : (Lit.int .i64 a1).wf = true) (w : World) :
    Calls Try.prog 3 #[.string a0, .int .i64 a1] w fun e w' => e = .returned (.bool true) ∧ Below w.heap.size w w' := by
  have hw : -9223372036854775808 ≤ a1 ∧ a1 ≤ 9223372036854775807 := by simp [Lit.wf, IntKind.min, IntKind.max, IntKind.signed, IntKind.bits] at w1; omega
  clear w1
  obtain ⟨BIG, hBIG⟩ : ∃ B : Nat, B = 524289 := ⟨_, rfl⟩
  have hmkB : ∀ w : World, (Instr.makeSlice 22 (.int .i64 524289) (.int .i64 524289)).run Try.prog w = .ok (.slice (some ⟨w.heap.size, 0, none⟩) BIG BIG) (w.alloc (.cells (madeCells #[.int .u8 0] BIG) 5)) := by
    have := run_make_row' (P := Try.prog) 22 5 (.int .u8 0) 1 Try.underlying22 info5 rfl .i64 .i64 BIG (by omega) (by omega)
    rw [show ((BIG : Nat) : Int) = 524289 by omega] at this
    exact this
  have hcvB : ∀ w : World, Sem.run Try.prog (convert 22 9 (.slice (some ⟨w.heap.size, 0, none⟩) BIG BIG)) (w.alloc (.cells (madeCells #[.int .u8 0] BIG) 5)) = .ok (.string (strB (List.replicate BIG 0))) (w.alloc (.cells (madeCells #[.int .u8 0] BIG) 5)) := fun w => conv_rep (x := 0) (heap_alloc_new _ _) (fun j hj => made_at _ _ _ hj)
  have HPB : Hid (∀ w : World, _) := fun w => pack_none BIG (by omega) (by omega) w
  generalize strB (List.replicate BIG 0) = TB at *
  clear hBIG
  obtain ⟨N, hN1, hN2, hNa⟩ : ∃ N : Nat, 20 ≤ N ∧ N ≤ 524288 ∧ (((a1 < 20 ∨ 524288 < a1) ∧ (N : Int) = 20) ∨ (20 ≤ a1 ∧ a1 ≤ 524288 ∧ a1 = (N : Int))) := by
    by_cases h : a1 < 20 ∨ 524288 < a1
    · exact ⟨20, by omega, by omega, Or.inl ⟨h, rfl⟩⟩
    · exact ⟨a1.toNat, by omega, by omega, Or.inr ⟨by omega, by omega, by omega⟩⟩
  have hmk := run_make_row' (P := Try.prog) 22 5 (.int .u8 0) 1 Try.underlying22 info5 rfl .i64 .i64 N (by omega) (by omega)
  have hps := fun (x : UInt8) (w : World) => pack_same N x hN1 hN2 w
  have hcv0 := fun (x : UInt8) (wr : World) (h : Filled w wr N N (.int .u8 (x.toNat : Int))) => h.conv
  obtain ⟨TX, hTX⟩ : ∃ T : UInt8 → ByteArray, ∀ x, strB (List.replicate N x) = T x := ⟨_, fun _ => rfl⟩
  obtain ⟨PX, hPX⟩ : ∃ T : UInt8 → ByteArray, ∀ x, strB (piecesF (List.replicate N x)) = T x := ⟨_, fun _ => rfl⟩
  simp only [hTX, hPX] at hps hcv0
  clear hTX hPX
  rcases hNa with ⟨hN0, hN20⟩ | ⟨hN3, hN4, rfl⟩
  · have hNle : N ≤ 20 := by omega
    rcases hN0 with hN0 | hN0
    · by_cases h0 : a0.size = 0
      · rw [hN20] at hmk
        have HPS : Hid (∀ w : World, _) := fun w => hps 0 w
        have HCV : Hid (∀ wr : World, Filled w wr N N (.int .u8 0) → Sem.run Try.prog (convert 22 9 (.slice (some ⟨w.heap.size, 0, none⟩) N N)) wr = .ok (.string (TX 0)) wr) := fun wr h => hcv0 0 wr h
        generalize TX 0 = T0 at *
        generalize PX 0 = P0 at *
        clear hps hcv0
        go_enter Try.func3, Try.ntmps3
        go_wp2
        go_loopw [7] (fun i wr => ∃ k : Nat, k ≤ N ∧ i = .int .i64 k ∧ Filled w wr N k (.int .u8 0)) (fun i _ => N - (intOf i).toNat)
        case atStart => exact ⟨0, by omega, rfl, Filled.start _ _ _⟩
        case round =>
          obtain ⟨k, hk, rfl, hF⟩ := hrel
          have HF : Hid (Filled w wr N k (.int .u8 0)) := hF
          by_cases hlt : k < N
          · obtain ⟨⟨uu, hcell⟩, hfr⟩ := hF.cell hlt
            have HN : Hid _ := hF.next hlt
            clear hF
            go_wp2
            go_roundw
            case rel => exact ⟨k + 1, by omega, by go_num, HN.out⟩
            case measure => simp [intOf]; omega
          · have hke : k = N := by omega
            subst hke
            have hcv := HCV.out wr hF
            have HB0 : Hid (Below w.heap.size w wr) := hF.2
            clear hF
            go_wp2_with fail
            refine (HPS.out wr).mono ?_
            rintro e v1 ⟨rfl, hb⟩
            have HB1 : Hid (Below w.heap.size w v1) := HB0.out.trans (hb.mono HB0.out.size)
            clear hb
            go_wp2_with fail
            refine (HPB.out (v1.alloc (.cells (madeCells #[.int .u8 0] BIG) 5))).mono ?_
            rintro e v3 ⟨rfl, hb⟩
            have HB3 : Hid (Below w.heap.size w v3) := (HB1.out.alloc HB1.out.size _).trans (hb.mono (by have := HB1.out.size; simp; omega))
            clear hb
            go_wp2_with fail
            refine (sure_any v3).mono ?_
            rintro e v4 ⟨rfl, hb⟩
            have HB4 : Hid (Below w.heap.size w v4) := HB3.out.trans (hb.mono HB3.out.size)
            clear hb
            go_wp2
            go_ret
            exact ⟨rfl, HB4.out⟩
      · have h0' : 0 < a0.size := by omega
        by_cases ht : 32 ≤ a0.size ∧ a0.size ≤ 4000
        · have HPT : Hid (∀ w : World, _) := fun w => pack_twice a0 ht.1 ht.2 w
          generalize strB (piecesF (a0.data.toList ++ a0.data.toList)) = P2 at *
          obtain ⟨ht1, ht2⟩ := ht
          rw [hN20] at hmk
          obtain ⟨x0, hx0⟩ : ∃ n : Nat, a0[0].toNat = n := ⟨_, rfl⟩
          have HPS : Hid (∀ w : World, _) := fun w => hps a0[0] w
          have HCV : Hid (∀ wr : World, Filled w wr N N (.int .u8 (x0 : Int)) → Sem.run Try.prog (convert 22 9 (.slice (some ⟨w.heap.size, 0, none⟩) N N)) wr = .ok (.string (TX a0[0])) wr) := fun wr h => hcv0 a0[0] wr (by rw [hx0]; exact h)
          generalize TX a0[0] = T0 at *
          generalize PX a0[0] = P0 at *
          clear hps hcv0
          go_enter Try.func3, Try.ntmps3
          go_wp2
          go_loopw [7] (fun i wr => ∃ k : Nat, k ≤ N ∧ i = .int .i64 k ∧ Filled w wr N k (.int .u8 (x0 : Int))) (fun i _ => N - (intOf i).toNat)
          case atStart => exact ⟨0, by omega, rfl, Filled.start _ _ _⟩
          case round =>
            obtain ⟨k, hk, rfl, hF⟩ := hrel
            have HF : Hid (Filled w wr N k (.int .u8 (x0 : Int))) := hF
            by_cases hlt : k < N
            · obtain ⟨⟨uu, hcell⟩, hfr⟩ := hF.cell hlt
              have HN : Hid _ := hF.next hlt
              clear hF
              go_wp2
              go_roundw
              case rel => exact ⟨k + 1, by omega, by go_num, HN.out⟩
              case measure => simp [intOf]; omega
            · have hke : k = N := by omega
              subst hke
              have hcv := HCV.out wr hF
              have HB0 : Hid (Below w.heap.size w wr) := hF.2
              clear hF
              go_wp2_with fail
              refine (HPS.out wr).mono ?_
              rintro e v1 ⟨rfl, hb⟩
              have HB1 : Hid (Below w.heap.size w v1) := HB0.out.trans (hb.mono HB0.out.size)
              clear hb
              go_wp2_with fail
              refine (HPT.out v1).mono ?_
              rintro e v2 ⟨rfl, hb⟩
              have HB2 : Hid (Below w.heap.size w v2) := HB1.out.trans (hb.mono HB1.out.size)
              clear hb
              go_wp2_with fail
              refine (HPB.out (v2.alloc (.cells (madeCells #[.int .u8 0] BIG) 5))).mono ?_
              rintro e v3 ⟨rfl, hb⟩
              have HB3 : Hid (Below w.heap.size w v3) := (HB2.out.alloc HB2.out.size _).trans (hb.mono (by have := HB2.out.size; simp; omega))
              clear hb
              go_wp2_with fail
              refine (sure_any v3).mono ?_
              rintro e v4 ⟨rfl, hb⟩
              have HB4 : Hid (Below w.heap.size w v4) := HB3.out.trans (hb.mono HB3.out.size)
              clear hb
              go_wp2
              go_ret
              exact ⟨rfl, HB4.out⟩
        · rcases (by omega : a0.size < 32 ∨ 4000 < a0.size) with ht1 | ht1
          · rw [hN20] at hmk
            obtain ⟨x0, hx0⟩ : ∃ n : Nat, a0[0].toNat = n := ⟨_, rfl⟩
            have HPS : Hid (∀ w : World, _) := fun w => hps a0[0] w
            have HCV : Hid (∀ wr : World, Filled w wr N N (.int .u8 (x0 : Int)) → Sem.run Try.prog (convert 22 9 (.slice (some ⟨w.heap.size, 0, none⟩) N N)) wr = .ok (.string (TX a0[0])) wr) := fun wr h => hcv0 a0[0] wr (by rw [hx0]; exact h)
            generalize TX a0[0] = T0 at *
            generalize PX a0[0] = P0 at *
            clear hps hcv0
            go_enter Try.func3, Try.ntmps3
            go_wp2
            go_loopw [7] (fun i wr => ∃ k : Nat, k ≤ N ∧ i = .int .i64 k ∧ Filled w wr N k (.int .u8 (x0 : Int))) (fun i _ => N - (intOf i).toNat)
            case atStart => exact ⟨0, by omega, rfl, Filled.start _ _ _⟩
            case round =>
              obtain ⟨k, hk, rfl, hF⟩ := hrel
              have HF : Hid (Filled w wr N k (.int .u8 (x0 : Int))) := hF
              by_cases hlt : k < N
              · obtain ⟨⟨uu, hcell⟩, hfr⟩ := hF.cell hlt
                have HN : Hid _ := hF.next hlt
                clear hF
                go_wp2
                go_roundw
                case rel => exact ⟨k + 1, by omega, by go_num, HN.out⟩
                case measure => simp [intOf]; omega
              · have hke : k = N := by omega
                subst hke
                have hcv := HCV.out wr hF
                have HB0 : Hid (Below w.heap.size w wr) := hF.2
                clear hF
                go_wp2_with fail
                refine (HPS.out wr).mono ?_
                rintro e v1 ⟨rfl, hb⟩
                have HB1 : Hid (Below w.heap.size w v1) := HB0.out.trans (hb.mono HB0.out.size)
                clear hb
                go_wp2_with fail
                refine (HPB.out (v1.alloc (.cells (madeCells #[.int .u8 0] BIG) 5))).mono ?_
                rintro e v3 ⟨rfl, hb⟩
                have HB3 : Hid (Below w.heap.size w v3) := (HB1.out.alloc HB1.out.size _).trans (hb.mono (by have := HB1.out.size; simp; omega))
                clear hb
                go_wp2_with fail
                refine (sure_any v3).mono ?_
                rintro e v4 ⟨rfl, hb⟩
                have HB4 : Hid (Below w.heap.size w v4) := HB3.out.trans (hb.mono HB3.out.size)
                clear hb
                go_wp2
                go_ret
                exact ⟨rfl, HB4.out⟩
          · rw [hN20] at hmk
            obtain ⟨x0, hx0⟩ : ∃ n : Nat, a0[0].toNat = n := ⟨_, rfl⟩
            have HPS : Hid (∀ w : World, _) := fun w => hps a0[0] w
            have HCV : Hid (∀ wr : World, Filled w wr N N (.int .u8 (x0 : Int)) → Sem.run Try.prog (convert 22 9 (.slice (some ⟨w.heap.size, 0, none⟩) N N)) wr = .ok (.string (TX a0[0])) wr) := fun wr h => hcv0 a0[0] wr (by rw [hx0]; exact h)
            generalize TX a0[0] = T0 at *
            generalize PX a0[0] = P0 at *
            clear hps hcv0
            go_enter Try.func3, Try.ntmps3
            go_wp2
            go_loopw [7] (fun i wr => ∃ k : Nat, k ≤ N ∧ i = .int .i64 k ∧ Filled w wr N k (.int .u8 (x0 : Int))) (fun i _ => N - (intOf i).toNat)
            case atStart => exact ⟨0, by omega, rfl, Filled.start _ _ _⟩
            case round =>
              obtain ⟨k, hk, rfl, hF⟩ := hrel
              have HF : Hid (Filled w wr N k (.int .u8 (x0 : Int))) := hF
              by_cases hlt : k < N
              · obtain ⟨⟨uu, hcell⟩, hfr⟩ := hF.cell hlt
                have HN : Hid _ := hF.next hlt
                clear hF
                go_wp2
                go_roundw
                case rel => exact ⟨k + 1, by omega, by go_num, HN.out⟩
                case measure => simp [intOf]; omega
              · have hke : k = N := by omega
                subst hke
                have hcv := HCV.out wr hF
                have HB0 : Hid (Below w.heap.size w wr) := hF.2
                clear hF
                go_wp2_with fail
                refine (HPS.out wr).mono ?_
                rintro e v1 ⟨rfl, hb⟩
                have HB1 : Hid (Below w.heap.size w v1) := HB0.out.trans (hb.mono HB0.out.size)
                clear hb
                go_wp2_with fail
                refine (HPB.out (v1.alloc (.cells (madeCells #[.int .u8 0] BIG) 5))).mono ?_
                rintro e v3 ⟨rfl, hb⟩
                have HB3 : Hid (Below w.heap.size w v3) := (HB1.out.alloc HB1.out.size _).trans (hb.mono (by have := HB1.out.size; simp; omega))
                clear hb
                go_wp2_with fail
                refine (sure_any v3).mono ?_
                rintro e v4 ⟨rfl, hb⟩
                have HB4 : Hid (Below w.heap.size w v4) := HB3.out.trans (hb.mono HB3.out.size)
                clear hb
                go_wp2
                go_ret
                exact ⟨rfl, HB4.out⟩
    · by_cases h0 : a0.size = 0
      · rw [hN20] at hmk
        have HPS : Hid (∀ w : World, _) := fun w => hps 0 w
        have HCV : Hid (∀ wr : World, Filled w wr N N (.int .u8 0) → Sem.run Try.prog (convert 22 9 (.slice (some ⟨w.heap.size, 0, none⟩) N N)) wr = .ok (.string (TX 0)) wr) := fun wr h => hcv0 0 wr h
        generalize TX 0 = T0 at *
        generalize PX 0 = P0 at *
        clear hps hcv0
        go_enter Try.func3, Try.ntmps3
        go_wp2
        go_loopw [7] (fun i wr => ∃ k : Nat, k ≤ N ∧ i = .int .i64 k ∧ Filled w wr N k (.int .u8 0)) (fun i _ => N - (intOf i).toNat)
        case atStart => exact ⟨0, by omega, rfl, Filled.start _ _ _⟩
        case round =>
          obtain ⟨k, hk, rfl, hF⟩ := hrel
          have HF : Hid (Filled w wr N k (.int .u8 0)) := hF
          by_cases hlt : k < N
          · obtain ⟨⟨uu, hcell⟩, hfr⟩ := hF.cell hlt
            have HN : Hid _ := hF.next hlt
            clear hF
            go_wp2
            go_roundw
            case rel => exact ⟨k + 1, by omega, by go_num, HN.out⟩
            case measure => simp [intOf]; omega
          · have hke : k = N := by omega
            subst hke
            have hcv := HCV.out wr hF
            have HB0 : Hid (Below w.heap.size w wr) := hF.2
            clear hF
            go_wp2_with fail
            refine (HPS.out wr).mono ?_
            rintro e v1 ⟨rfl, hb⟩
            have HB1 : Hid (Below w.heap.size w v1) := HB0.out.trans (hb.mono HB0.out.size)
            clear hb
            go_wp2_with fail
            refine (HPB.out (v1.alloc (.cells (madeCells #[.int .u8 0] BIG) 5))).mono ?_
            rintro e v3 ⟨rfl, hb⟩
            have HB3 : Hid (Below w.heap.size w v3) := (HB1.out.alloc HB1.out.size _).trans (hb.mono (by have := HB1.out.size; simp; omega))
            clear hb
            go_wp2_with fail
            refine (sure_any v3).mono ?_
            rintro e v4 ⟨rfl, hb⟩
            have HB4 : Hid (Below w.heap.size w v4) := HB3.out.trans (hb.mono HB3.out.size)
            clear hb
            go_wp2
            go_ret
            exact ⟨rfl, HB4.out⟩
      · have h0' : 0 < a0.size := by omega
        by_cases ht : 32 ≤ a0.size ∧ a0.size ≤ 4000
        · have HPT : Hid (∀ w : World, _) := fun w => pack_twice a0 ht.1 ht.2 w
          generalize strB (piecesF (a0.data.toList ++ a0.data.toList)) = P2 at *
          obtain ⟨ht1, ht2⟩ := ht
          rw [hN20] at hmk
          obtain ⟨x0, hx0⟩ : ∃ n : Nat, a0[0].toNat = n := ⟨_, rfl⟩
          have HPS : Hid (∀ w : World, _) := fun w => hps a0[0] w
          have HCV : Hid (∀ wr : World, Filled w wr N N (.int .u8 (x0 : Int)) → Sem.run Try.prog (convert 22 9 (.slice (some ⟨w.heap.size, 0, none⟩) N N)) wr = .ok (.string (TX a0[0])) wr) := fun wr h => hcv0 a0[0] wr (by rw [hx0]; exact h)
          generalize TX a0[0] = T0 at *
          generalize PX a0[0] = P0 at *
          clear hps hcv0
          go_enter Try.func3, Try.ntmps3
          go_wp2
          go_loopw [7] (fun i wr => ∃ k : Nat, k ≤ N ∧ i = .int .i64 k ∧ Filled w wr N k (.int .u8 (x0 : Int))) (fun i _ => N - (intOf i).toNat)
          case atStart => exact ⟨0, by omega, rfl, Filled.start _ _ _⟩
          case round =>
            obtain ⟨k, hk, rfl, hF⟩ := hrel
            have HF : Hid (Filled w wr N k (.int .u8 (x0 : Int))) := hF
            by_cases hlt : k < N
            · obtain ⟨⟨uu, hcell⟩, hfr⟩ := hF.cell hlt
              have HN : Hid _ := hF.next hlt
              clear hF
              go_wp2
              go_roundw
              case rel => exact ⟨k + 1, by omega, by go_num, HN.out⟩
              case measure => simp [intOf]; omega
            · have hke : k = N := by omega
              subst hke
              have hcv := HCV.out wr hF
              have HB0 : Hid (Below w.heap.size w wr) := hF.2
              clear hF
              go_wp2_with fail
              refine (HPS.out wr).mono ?_
              rintro e v1 ⟨rfl, hb⟩
              have HB1 : Hid (Below w.heap.size w v1) := HB0.out.trans (hb.mono HB0.out.size)
              clear hb
              go_wp2_with fail
              refine (HPT.out v1).mono ?_
              rintro e v2 ⟨rfl, hb⟩
              have HB2 : Hid (Below w.heap.size w v2) := HB1.out.trans (hb.mono HB1.out.size)
              clear hb
              go_wp2_with fail
              refine (HPB.out (v2.alloc (.cells (madeCells #[.int .u8 0] BIG) 5))).mono ?_
              rintro e v3 ⟨rfl, hb⟩
              have HB3 : Hid (Below w.heap.size w v3) := (HB2.out.alloc HB2.out.size _).trans (hb.mono (by have := HB2.out.size; simp; omega))
              clear hb
              go_wp2_with fail
              refine (sure_any v3).mono ?_
              rintro e v4 ⟨rfl, hb⟩
              have HB4 : Hid (Below w.heap.size w v4) := HB3.out.trans (hb.mono HB3.out.size)
              clear hb
              go_wp2
              go_ret
              exact ⟨rfl, HB4.out⟩
        · rcases (by omega : a0.size < 32 ∨ 4000 < a0.size) with ht1 | ht1
          · rw [hN20] at hmk
            obtain ⟨x0, hx0⟩ : ∃ n : Nat, a0[0].toNat = n := ⟨_, rfl⟩
            have HPS : Hid (∀ w : World, _) := fun w => hps a0[0] w
            have HCV : Hid (∀ wr : World, Filled w wr N N (.int .u8 (x0 : Int)) → Sem.run Try.prog (convert 22 9 (.slice (some ⟨w.heap.size, 0, none⟩) N N)) wr = .ok (.string (TX a0[0])) wr) := fun wr h => hcv0 a0[0] wr (by rw [hx0]; exact h)
            generalize TX a0[0] = T0 at *
            generalize PX a0[0] = P0 at *
            clear hps hcv0
            go_enter Try.func3, Try.ntmps3
            go_wp2
            go_loopw [7] (fun i wr => ∃ k : Nat, k ≤ N ∧ i = .int .i64 k ∧ Filled w wr N k (.int .u8 (x0 : Int))) (fun i _ => N - (intOf i).toNat)
            case atStart => exact ⟨0, by omega, rfl, Filled.start _ _ _⟩
            case round =>
              obtain ⟨k, hk, rfl, hF⟩ := hrel
              have HF : Hid (Filled w wr N k (.int .u8 (x0 : Int))) := hF
              by_cases hlt : k < N
              · obtain ⟨⟨uu, hcell⟩, hfr⟩ := hF.cell hlt
                have HN : Hid _ := hF.next hlt
                clear hF
                go_wp2
                go_roundw
                case rel => exact ⟨k + 1, by omega, by go_num, HN.out⟩
                case measure => simp [intOf]; omega
              · have hke : k = N := by omega
                subst hke
                have hcv := HCV.out wr hF
                have HB0 : Hid (Below w.heap.size w wr) := hF.2
                clear hF
                go_wp2_with fail
                refine (HPS.out wr).mono ?_
                rintro e v1 ⟨rfl, hb⟩
                have HB1 : Hid (Below w.heap.size w v1) := HB0.out.trans (hb.mono HB0.out.size)
                clear hb
                go_wp2_with fail
                refine (HPB.out (v1.alloc (.cells (madeCells #[.int .u8 0] BIG) 5))).mono ?_
                rintro e v3 ⟨rfl, hb⟩
                have HB3 : Hid (Below w.heap.size w v3) := (HB1.out.alloc HB1.out.size _).trans (hb.mono (by have := HB1.out.size; simp; omega))
                clear hb
                go_wp2_with fail
                refine (sure_any v3).mono ?_
                rintro e v4 ⟨rfl, hb⟩
                have HB4 : Hid (Below w.heap.size w v4) := HB3.out.trans (hb.mono HB3.out.size)
                clear hb
                go_wp2
                go_ret
                exact ⟨rfl, HB4.out⟩
          · rw [hN20] at hmk
            obtain ⟨x0, hx0⟩ : ∃ n : Nat, a0[0].toNat = n := ⟨_, rfl⟩
            have HPS : Hid (∀ w : World, _) := fun w => hps a0[0] w
            have HCV : Hid (∀ wr : World, Filled w wr N N (.int .u8 (x0 : Int)) → Sem.run Try.prog (convert 22 9 (.slice (some ⟨w.heap.size, 0, none⟩) N N)) wr = .ok (.string (TX a0[0])) wr) := fun wr h => hcv0 a0[0] wr (by rw [hx0]; exact h)
            generalize TX a0[0] = T0 at *
            generalize PX a0[0] = P0 at *
            clear hps hcv0
            go_enter Try.func3, Try.ntmps3
            go_wp2
            go_loopw [7] (fun i wr => ∃ k : Nat, k ≤ N ∧ i = .int .i64 k ∧ Filled w wr N k (.int .u8 (x0 : Int))) (fun i _ => N - (intOf i).toNat)
            case atStart => exact ⟨0, by omega, rfl, Filled.start _ _ _⟩
            case round =>
              obtain ⟨k, hk, rfl, hF⟩ := hrel
              have HF : Hid (Filled w wr N k (.int .u8 (x0 : Int))) := hF
              by_cases hlt : k < N
              · obtain ⟨⟨uu, hcell⟩, hfr⟩ := hF.cell hlt
                have HN : Hid _ := hF.next hlt
                clear hF
                go_wp2
                go_roundw
                case rel => exact ⟨k + 1, by omega, by go_num, HN.out⟩
                case measure => simp [intOf]; omega
              · have hke : k = N := by omega
                subst hke
                have hcv := HCV.out wr hF
                have HB0 : Hid (Below w.heap.size w wr) := hF.2
                clear hF
                go_wp2_with fail
                refine (HPS.out wr).mono ?_
                rintro e v1 ⟨rfl, hb⟩
                have HB1 : Hid (Below w.heap.size w v1) := HB0.out.trans (hb.mono HB0.out.size)
                clear hb
                go_wp2_with fail
                refine (HPB.out (v1.alloc (.cells (madeCells #[.int .u8 0] BIG) 5))).mono ?_
                rintro e v3 ⟨rfl, hb⟩
                have HB3 : Hid (Below w.heap.size w v3) := (HB1.out.alloc HB1.out.size _).trans (hb.mono (by have := HB1.out.size; simp; omega))
                clear hb
                go_wp2_with fail
                refine (sure_any v3).mono ?_
                rintro e v4 ⟨rfl, hb⟩
                have HB4 : Hid (Below w.heap.size w v4) := HB3.out.trans (hb.mono HB3.out.size)
                clear hb
                go_wp2
                go_ret
                exact ⟨rfl, HB4.out⟩
  · by_cases h0 : a0.size = 0
    · have HPS : Hid (∀ w : World, _) := fun w => hps 0 w
      have HCV : Hid (∀ wr : World, Filled w wr N N (.int .u8 0) → Sem.run Try.prog (convert 22 9 (.slice (some ⟨w.heap.size, 0, none⟩) N N)) wr = .ok (.string (TX 0)) wr) := fun wr h => hcv0 0 wr h
      generalize TX 0 = T0 at *
      generalize PX 0 = P0 at *
      clear hps hcv0
      go_enter Try.func3, Try.ntmps3
      go_wp2
      go_loopw [7] (fun i wr => ∃ k : Nat, k ≤ N ∧ i = .int .i64 k ∧ Filled w wr N k (.int .u8 0)) (fun i _ => N - (intOf i).toNat)
      case atStart => exact ⟨0, by omega, rfl, Filled.start _ _ _⟩
      case round =>
        obtain ⟨k, hk, rfl, hF⟩ := hrel
        have HF : Hid (Filled w wr N k (.int .u8 0)) := hF
        by_cases hlt : k < N
        · obtain ⟨⟨uu, hcell⟩, hfr⟩ := hF.cell hlt
          have HN : Hid _ := hF.next hlt
          clear hF
          go_wp2
          go_roundw
          case rel => exact ⟨k + 1, by omega, by go_num, HN.out⟩
          case measure => simp [intOf]; omega
        · have hke : k = N := by omega
          subst hke
          have hcv := HCV.out wr hF
          have HB0 : Hid (Below w.heap.size w wr) := hF.2
          clear hF
          go_wp2_with fail
          refine (HPS.out wr).mono ?_
          rintro e v1 ⟨rfl, hb⟩
          have HB1 : Hid (Below w.heap.size w v1) := HB0.out.trans (hb.mono HB0.out.size)
          clear hb
          go_wp2_with fail
          refine (HPB.out (v1.alloc (.cells (madeCells #[.int .u8 0] BIG) 5))).mono ?_
          rintro e v3 ⟨rfl, hb⟩
          have HB3 : Hid (Below w.heap.size w v3) := (HB1.out.alloc HB1.out.size _).trans (hb.mono (by have := HB1.out.size; simp; omega))
          clear hb
          go_wp2_with fail
          refine (sure_any v3).mono ?_
          rintro e v4 ⟨rfl, hb⟩
          have HB4 : Hid (Below w.heap.size w v4) := HB3.out.trans (hb.mono HB3.out.size)
          clear hb
          go_wp2
          go_ret
          exact ⟨rfl, HB4.out⟩
    · have h0' : 0 < a0.size := by omega
      by_cases ht : 32 ≤ a0.size ∧ a0.size ≤ 4000
      · have HPT : Hid (∀ w : World, _) := fun w => pack_twice a0 ht.1 ht.2 w
        generalize strB (piecesF (a0.data.toList ++ a0.data.toList)) = P2 at *
        obtain ⟨ht1, ht2⟩ := ht
        obtain ⟨x0, hx0⟩ : ∃ n : Nat, a0[0].toNat = n := ⟨_, rfl⟩
        have HPS : Hid (∀ w : World, _) := fun w => hps a0[0] w
        have HCV : Hid (∀ wr : World, Filled w wr N N (.int .u8 (x0 : Int)) → Sem.run Try.prog (convert 22 9 (.slice (some ⟨w.heap.size, 0, none⟩) N N)) wr = .ok (.string (TX a0[0])) wr) := fun wr h => hcv0 a0[0] wr (by rw [hx0]; exact h)
        generalize TX a0[0] = T0 at *
        generalize PX a0[0] = P0 at *
        clear hps hcv0
        go_enter Try.func3, Try.ntmps3
        go_wp2
        go_loopw [7] (fun i wr => ∃ k : Nat, k ≤ N ∧ i = .int .i64 k ∧ Filled w wr N k (.int .u8 (x0 : Int))) (fun i _ => N - (intOf i).toNat)
        case atStart => exact ⟨0, by omega, rfl, Filled.start _ _ _⟩
        case round =>
          obtain ⟨k, hk, rfl, hF⟩ := hrel
          have HF : Hid (Filled w wr N k (.int .u8 (x0 : Int))) := hF
          by_cases hlt : k < N
          · obtain ⟨⟨uu, hcell⟩, hfr⟩ := hF.cell hlt
            have HN : Hid _ := hF.next hlt
            clear hF
            go_wp2
            go_roundw
            case rel => exact ⟨k + 1, by omega, by go_num, HN.out⟩
            case measure => simp [intOf]; omega
          · have hke : k = N := by omega
            subst hke
            have hcv := HCV.out wr hF
            have HB0 : Hid (Below w.heap.size w wr) := hF.2
            clear hF
            go_wp2_with fail
            refine (HPS.out wr).mono ?_
            rintro e v1 ⟨rfl, hb⟩
            have HB1 : Hid (Below w.heap.size w v1) := HB0.out.trans (hb.mono HB0.out.size)
            clear hb
            go_wp2_with fail
            refine (HPT.out v1).mono ?_
            rintro e v2 ⟨rfl, hb⟩
            have HB2 : Hid (Below w.heap.size w v2) := HB1.out.trans (hb.mono HB1.out.size)
            clear hb
            go_wp2_with fail
            refine (HPB.out (v2.alloc (.cells (madeCells #[.int .u8 0] BIG) 5))).mono ?_
            rintro e v3 ⟨rfl, hb⟩
            have HB3 : Hid (Below w.heap.size w v3) := (HB2.out.alloc HB2.out.size _).trans (hb.mono (by have := HB2.out.size; simp; omega))
            clear hb
            go_wp2_with fail
            refine (sure_any v3).mono ?_
            rintro e v4 ⟨rfl, hb⟩
            have HB4 : Hid (Below w.heap.size w v4) := HB3.out.trans (hb.mono HB3.out.size)
            clear hb
            go_wp2
            go_ret
            exact ⟨rfl, HB4.out⟩
      · rcases (by omega : a0.size < 32 ∨ 4000 < a0.size) with ht1 | ht1
        · obtain ⟨x0, hx0⟩ : ∃ n : Nat, a0[0].toNat = n := ⟨_, rfl⟩
          have HPS : Hid (∀ w : World, _) := fun w => hps a0[0] w
          have HCV : Hid (∀ wr : World, Filled w wr N N (.int .u8 (x0 : Int)) → Sem.run Try.prog (convert 22 9 (.slice (some ⟨w.heap.size, 0, none⟩) N N)) wr = .ok (.string (TX a0[0])) wr) := fun wr h => hcv0 a0[0] wr (by rw [hx0]; exact h)
          generalize TX a0[0] = T0 at *
          generalize PX a0[0] = P0 at *
          clear hps hcv0
          go_enter Try.func3, Try.ntmps3
          go_wp2
          go_loopw [7] (fun i wr => ∃ k : Nat, k ≤ N ∧ i = .int .i64 k ∧ Filled w wr N k (.int .u8 (x0 : Int))) (fun i _ => N - (intOf i).toNat)
          case atStart => exact ⟨0, by omega, rfl, Filled.start _ _ _⟩
          case round =>
            obtain ⟨k, hk, rfl, hF⟩ := hrel
            have HF : Hid (Filled w wr N k (.int .u8 (x0 : Int))) := hF
            by_cases hlt : k < N
            · obtain ⟨⟨uu, hcell⟩, hfr⟩ := hF.cell hlt
              have HN : Hid _ := hF.next hlt
              clear hF
              go_wp2
              go_roundw
              case rel => exact ⟨k + 1, by omega, by go_num, HN.out⟩
              case measure => simp [intOf]; omega
            · have hke : k = N := by omega
              subst hke
              have hcv := HCV.out wr hF
              have HB0 : Hid (Below w.heap.size w wr) := hF.2
              clear hF
              go_wp2_with fail
              refine (HPS.out wr).mono ?_
              rintro e v1 ⟨rfl, hb⟩
              have HB1 : Hid (Below w.heap.size w v1) := HB0.out.trans (hb.mono HB0.out.size)
              clear hb
              go_wp2_with fail
              refine (HPB.out (v1.alloc (.cells (madeCells #[.int .u8 0] BIG) 5))).mono ?_
              rintro e v3 ⟨rfl, hb⟩
              have HB3 : Hid (Below w.heap.size w v3) := (HB1.out.alloc HB1.out.size _).trans (hb.mono (by have := HB1.out.size; simp; omega))
              clear hb
              go_wp2_with fail
              refine (sure_any v3).mono ?_
              rintro e v4 ⟨rfl, hb⟩
              have HB4 : Hid (Below w.heap.size w v4) := HB3.out.trans (hb.mono HB3.out.size)
              clear hb
              go_wp2
              go_ret
              exact ⟨rfl, HB4.out⟩
        · obtain ⟨x0, hx0⟩ : ∃ n : Nat, a0[0].toNat = n := ⟨_, rfl⟩
          have HPS : Hid (∀ w : World, _) := fun w => hps a0[0] w
          have HCV : Hid (∀ wr : World, Filled w wr N N (.int .u8 (x0 : Int)) → Sem.run Try.prog (convert 22 9 (.slice (some ⟨w.heap.size, 0, none⟩) N N)) wr = .ok (.string (TX a0[0])) wr) := fun wr h => hcv0 a0[0] wr (by rw [hx0]; exact h)
          generalize TX a0[0] = T0 at *
          generalize PX a0[0] = P0 at *
          clear hps hcv0
          go_enter Try.func3, Try.ntmps3
          go_wp2
          go_loopw [7] (fun i wr => ∃ k : Nat, k ≤ N ∧ i = .int .i64 k ∧ Filled w wr N k (.int .u8 (x0 : Int))) (fun i _ => N - (intOf i).toNat)
          case atStart => exact ⟨0, by omega, rfl, Filled.start _ _ _⟩
          case round =>
            obtain ⟨k, hk, rfl, hF⟩ := hrel
            have HF : Hid (Filled w wr N k (.int .u8 (x0 : Int))) := hF
            by_cases hlt : k < N
            · obtain ⟨⟨uu, hcell⟩, hfr⟩ := hF.cell hlt
              have HN : Hid _ := hF.next hlt
              clear hF
              go_wp2
              go_roundw
              case rel => exact ⟨k + 1, by omega, by go_num, HN.out⟩
              case measure => simp [intOf]; omega
            · have hke : k = N := by omega
              subst hke
              have hcv := HCV.out wr hF
              have HB0 : Hid (Below w.heap.size w wr) := hF.2
              clear hF
              go_wp2_with fail
              refine (HPS.out wr).mono ?_
              rintro e v1 ⟨rfl, hb⟩
              have HB1 : Hid (Below w.heap.size w v1) := HB0.out.trans (hb.mono HB0.out.size)
              clear hb
              go_wp2_with fail
              refine (HPB.out (v1.alloc (.cells (madeCells #[.int .u8 0] BIG) 5))).mono ?_
              rintro e v3 ⟨rfl, hb⟩
              have HB3 : Hid (Below w.heap.size w v3) := (HB1.out.alloc HB1.out.size _).trans (hb.mono (by have := HB1.out.size; simp; omega))
              clear hb
              go_wp2_with fail
              refine (sure_any v3).mono ?_
              rintro e v4 ⟨rfl, hb⟩
              have HB4 : Hid (Below w.heap.size w v4) := HB3.out.trans (hb.mono HB3.out.size)
              clear hb
              go_wp2
              go_ret
              exact ⟨rfl, HB4.out⟩
set_option linter.unusedVariables false
theorem own : ownKnob Try.prog.godebug = none := by kernel_rfl
set_option maxRecDepth 100000 in
theorem lifted (os : Os) (started : os.Started) (H : Type) (enc : TypeId × Value → H) :
    ReturnsInHanded {} Try.checked os 3 .any (Rows.lzfFindsSpec.pre6 enc Try.prog Try.f3 Rows.lzfFindsRow.domain false) (Rows.lzfFindsSpec.post enc Try.prog Try.f3 false true false false) := by
  refine returnsInHanded_of_change_sized (C := Try.checked) own started (by kernel_rfl) Try.func3
    (ChangeSpec.witness6 (enc := enc) (C := Try.checked) false ⟨#[], #[.string ByteArray.empty, .int .i64 0], []⟩ 8 (by kernel_rfl) (by kernel_rfl) (by kernel_rfl) (by kernel_rfl)) ?_
  intro W base args ds gs before hval0 hW hcnd hsz0 _
  have hval : ∀ (j : Nat) t v, Try.f3.params[j]? = some t → args[j]? = some v → Value.okWide Try.prog W .any base t v := hval0
  have hsz : (DataW.weightsEach Try.prog (Try.f3.params.toList ++ Rows.lzfFindsSpec.plain.varTypes Try.prog) (ds ++ gs)).all (· ≤ reachBytes) = true := hsz0
  have hW' := hW
  obtain ⟨p, q, hA0, hV, rfl, hfz, hnd⟩ := hW
  have hA : DataW.TrodAll enc Try.prog W 0 (fun _ => true) true Try.f3.params.toList args.toList ds p := hA0
  rw [Try.params3] at hA hval hsz
  obtain ⟨v0, vs0, d0, ds0, p0, q0, hargs, rfl, rfl, h0, r0⟩ := trodAll_cons hA
  obtain ⟨v1, vs1, d1, ds1, p1, q1, rfl, rfl, rfl, h1, r1⟩ := trodAll_cons r0
  obtain ⟨rfl, rfl, rfl⟩ := trodAll_nil r1
  obtain rfl : args = #[v0, v1] := by cases args; simp_all
  obtain ⟨rfl, rfl⟩ := trodVars_none hV
  obtain ⟨a0, rfl, rfl, rfl, w0⟩ := open_string Try.underlying9 (hval 0 9 v0 rfl rfl) h0
  obtain ⟨a1, rfl, rfl, rfl, w1⟩ := open_int Try.underlying3 (hval 1 3 v1 rfl rfl) h1
  have z0 : a0.size ≤ 140737488351232 := by
    have := sized_string hsz (j := 0) (t := 9) rfl rfl
    simpa [reachBytes] using this
  clear hA0 hval0 hsz0
  refine (LzfFinds_walk a0 a1 z0 w1 W).mono fun e W' ⟨he, bel⟩ => ?_
  subst he
  exact ⟨_, rfl, _, _, _, [], _, [], hW', trodAll_mk1 (shut_bool Try.underlying4 _), (trodAll_cons_mk (shut_string Try.underlying9 w0) (trodAll_cons_mk (shut_int Try.underlying3 w1) trodAll_mk0)), rfl, bel.frame _, fun h => by cases h⟩

theorem over : Rows.lzfFindsRow.holds Try.pinned (OpenSpec.ofChange Rows.lzfFindsSpec) :=
  OpenClaim.holds_of_wide 3 Try.f3 rfl rfl rfl rfl rfl rfl rfl ⟨rfl, rfl, rfl, rfl, rfl⟩ rfl rfl rfl rfl rfl (by kernel_rfl) Try.func3 (by kernel_rfl)
    (of_decide_eq_true (by kernel_rfl)) (by unfold Func.isWrapper; first | (rw [if_pos (by decide +kernel)]; kernel_rfl) | (rw [if_neg (by decide +kernel)]; exact ⟨rfl, rfl⟩))
    (fun os started H enc _ => lifted os started H enc)
end Go.Proofs.Ythjcbolbbdclnaa.lzfFinds
namespace Go.Proofs.Ythjcbolbbdclnaa
theorem lzfFinds_holds : Rows.LzfFindsSaid := lzfFinds.over
#print axioms lzfFinds_holds
end Go.Proofs.Ythjcbolbbdclnaa
