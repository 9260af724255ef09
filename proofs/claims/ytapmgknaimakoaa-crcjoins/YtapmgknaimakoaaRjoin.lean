import Derived.Test.YtapmgknaimakoaaTimes
import Derived.Deep.RegionHeld3
namespace Go.Proofs.Ytapmgknaimakoaa
open Go.RowKit CrcM

def fill (M k : Nat) : List (BitVec 64) := (List.range 64).map fun i => if i < k then Hn M (1#64 <<< i) else 0#64
def zero64 : List (BitVec 64) := List.replicate 64 0#64
theorem fill_length (M k : Nat) : (fill M k).length = 64 := by simp [fill]
theorem fill_zero (M : Nat) : fill M 0 = zero64 := by
  apply List.ext_getElem
  · rw [fill_length]; unfold zero64; exact List.length_replicate.symm
  · intro i h1 h2
    have e : zero64[i] = 0#64 := by unfold zero64; exact List.getElem_replicate ..
    rw [e]
    simp [fill]
theorem fill_full (M : Nat) : fill M 64 = mat M := by
  apply List.map_congr_left
  intro i hi
  have : i < 64 := by simpa using hi
  simp [this]
theorem fill_set (M k : Nat) : (fill M k).set k (Hn M (1#64 <<< k)) = fill M (k + 1) := by
  apply List.ext_getElem
  · simp [fill_length]
  · intro i h1 h2
    rw [List.getElem_set]
    simp only [fill, List.getElem_map, List.getElem_range]
    by_cases e : k = i
    · subst e; simp
    · by_cases h : i < k
      · have : i < k + 1 := by omega
        simp [e, h, this]
      · have : ¬ i < k + 1 := by omega
        simp [e, h, this]
theorem zero42 (w : World) : Sem.run Try.prog (zeroValue 42) w = .ok (.agg (arr zero64)) w := by kernel_rfl
theorem info42 : (Try.prog.info? 42).map (·.size) = some 64 := by kernel_rfl
theorem info42' (l : List (BitVec 64)) (h : l.length = 64) : (Try.prog.info? 42).map (·.size) = some (arr l).size := by
  rw [arr_size, h]; exact info42
theorem row_cell {wr : World} {g : Nat} {l : List (BitVec 64)} (h : wr.heap[g]? = some (.cells (arr l) 42)) (i : Nat) (hi : i < l.length) : wr.cell? ⟨g, i, none⟩ = some (.int .u64 (uv l[i])) := by
  rw [cell_of_row _ _ _ _ _ _ h, arr_get l i hi]
theorem row_frozen {wr : World} {g : Nat} {l : List (BitVec 64)} (h : wr.heap[g]? = some (.cells (arr l) 42)) (i : Nat) : wr.frozen? ⟨g, i, none⟩ = false := frozen_of_row _ _ _ _ _ h
theorem row_set {wr : World} {g : Nat} {l : List (BitVec 64)} (h : wr.heap[g]? = some (.cells (arr l) 42)) (i : Nat) (v : BitVec 64) : (wr.setCell ⟨g, i, none⟩ (.int .u64 (uv v))).heap[g]? = some (.cells (arr (l.set i v)) 42) := by
  rw [heap_setCell_same _ _ _ _ _ _ h, arr_set]
theorem upd_zero (c : BitVec 64) : upd c (ByteArray.mk #[0]).data.toList = Hn 8 c := by
  show Hn 8 (c ^^^ BitVec.ofNat 64 0) = _
  simp

theorem block_lt {w : World} {g : Nat} {o : Obj} (h : w.heap[g]? = some o) : g < w.heap.size := by
  by_cases hl : g < w.heap.size
  · exact hl
  · have : w.heap[g]? = none := by simp; omega
    rw [this] at h
    exact absurd h (by simp)
theorem two_pow_uv (k : Nat) : IntKind.u64.wrap (2 ^ k) = uv (1#64 <<< k) := by
  have := uv_shl 1#64 k
  rw [← uv_one, Int.one_mul] at this
  exact this
theorem zero_byte (k : Nat) (w : World) : Calls Try.prog 15 #[.int .u64 (IntKind.u64.wrap (2 ^ k)), .string ⟨#[0]⟩] w fun e w' => e = .returned (.int .u64 (uv (Hn 8 (1#64 <<< k)))) ∧ w' = w := by
  have h := refUpdate_any (1#64 <<< k) ⟨#[0]⟩ (by unfold maxLen; decide) w
  rw [upd_zero, ← two_pow_uv] at h
  exact h

def cellsL (l : List (BitVec 64)) : List Value := l.map fun v => Value.int .u64 (uv v)
theorem cellsL_length (l : List (BitVec 64)) : (cellsL l).length = l.length := by simp [cellsL]
theorem S_row {w' : World} {B j M : Nat} (h : w'.heap[B]? = some (.cells (arr (mat M)) 42)) (hj : j < 64) :
    w'.rangeAt B 0 (cellsL (mat M)) ∧ w'.cell? ⟨B, j, none⟩ = some (.int .u64 (uv (Hn M (1#64 <<< j)))) := by
  refine ⟨?_, ?_⟩
  · intro i v hv
    rw [Nat.zero_add, cell_of_row _ _ _ _ _ _ h]
    simpa [arr, cellsL] using hv
  · rw [row_cell h j (by rw [mat_length]; exact hj), mat_get _ _ hj]
theorem times_cells (M : Nat) (c : BitVec 64) (w : World) :
    Calls Try.prog 23 #[.agg (cellsL (mat M)).toArray, .int .u64 (uv c)] w fun e w' => e = .returned (.int .u64 (uv (Hn M c))) ∧ Below w.heap.size w w' := times_any M c w
theorem info42c (M : Nat) : (Try.prog.info? 42).map (·.size) = some (cellsL (mat M)).length := by
  rw [cellsL_length, mat_length]; exact info42
theorem len42c (M : Nat) : (cellsL (mat M)).length = 64 := by rw [cellsL_length, mat_length]
theorem one42c (M : Nat) : ∀ v ∈ cellsL (mat M), v.oneCell' = true := by
  intro v hv
  obtain ⟨x, _, rfl⟩ := List.mem_map.1 hv
  rfl
theorem square_row (k j : Nat) : Hn (8 * 2 ^ k) (Hn (8 * 2 ^ k) (1#64 <<< j)) = Hn (8 * 2 ^ (k + 1)) (1#64 <<< j) := by
  rw [← Hn_add, Nat.pow_succ]
  congr 1
  omega

set_option maxHeartbeats 1000000 in
set_option maxRecDepth 20000 in
theorem refJoin_any (a b : BitVec 64) (n : Int) (hn : n ≤ 9223372036854775807) (w : World) :
    Calls Try.prog 19 #[.int .u64 (uv a), .int .u64 (uv b), .int .i64 n] w fun e w' => e = .returned (.int .u64 (uv (Hn (8 * n.toNat) a ^^^ b))) ∧ Below w.heap.size w w' := by
  have hz := zero42
  go_enter Try.func19, Try.ntmps19
  go_wp2
  go_loopw [8] (fun i wr => ∃ k : Nat, k ≤ 64 ∧ i = .int .i64 k ∧ wr.heap[w.heap.size]? = some (.cells (arr (fill 8 k)) 42) ∧ Below w.heap.size w wr) (fun i _ => 64 - (intOf i).toNat)
  case atStart => exact ⟨0, by omega, rfl, by rw [fill_zero]; exact heap_alloc_new _ _, (Below.refl _ _).alloc (Nat.le_refl _) _⟩
  case round =>
    obtain ⟨k, hk, rfl, hrow, hbel⟩ := hrel
    by_cases hlt : k < 64
    · have hc := row_cell hrow k (by rw [fill_length]; exact hlt)
      have hf := row_frozen hrow k
      have HR : Hid (wr.heap[w.heap.size]? = some (.cells (arr (fill 8 k)) 42)) := hrow
      clear hrow hz
      generalize (fill 8 k)[k]'(by rw [fill_length]; exact hlt) = x at hc
      go_wp2_with fail
      refine (zero_byte k _).mono ?_
      rintro e w1 ⟨rfl, rfl⟩
      go_wp2
      go_roundw
      case rel => exact ⟨k + 1, by omega, by go_num, by rw [row_set HR.out, fill_set], hbel.setCell (Nat.le_refl _) _⟩
      case measure => simp [intOf]; omega
    · have e64 : k = 64 := by omega
      subst e64
      rw [fill_full] at hrow
      go_wp2_with fail
      have H0 : Hid (Hn (8 * 2 ^ 0 * n.toNat) a = Hn (8 * n.toNat) a) := by show _ = _; simp
      have HW0 : Hid (wr.heap[w.heap.size]? = some (.cells (arr (mat (8 * 2 ^ 0))) 42)) := hrow
      have HB0 : Hid (Below w.heap.size w wr) := hbel
      clear hrow hbel
      go_loopw [0, 2] (fun x n' wr => ∃ (A : BitVec 64) (k : Nat) (m : Int), m ≤ 9223372036854775807 ∧ x = .int .u64 (uv A) ∧ n' = .int .i64 m ∧ Hn (8 * 2 ^ k * m.toNat) A = Hn (8 * n.toNat) a ∧ wr.heap[w.heap.size]? = some (.cells (arr (mat (8 * 2 ^ k))) 42) ∧ Below w.heap.size w wr) (fun _ n _ => (intOf n).toNat)
      case atStart => exact ⟨a, 0, n, hn, rfl, rfl, H0.out, HW0.out, HB0.out⟩
      clear H0 HW0 HB0
      case round =>
        obtain ⟨A, k, m, hm, rfl, rfl, hA, hrow, hbel⟩ := hrel
        have HA : Hid (Hn (8 * 2 ^ k * m.toNat) A = Hn (8 * n.toNat) a) := hA
        clear hA
        by_cases hpos : 0 < m
        · obtain ⟨m, rfl⟩ : ∃ m' : Nat, m = m' := ⟨m.toNat, by omega⟩
          by_cases hod : m % 2 = 1
          · have HJ : Hid _ := join_odd k m hod A
            have ho : ((m : Int) % 2 == 1) = true := by rw [beq_iff_eq]; omega
            rw [Int.toNat_natCast] at HA
            clear hod
            go_wp2_with (first
              | (go_at_call 23; refine (times_any _ _ _).mono ?_; rintro e W1 ⟨rfl, hb1⟩)
              | (refine wpList_load_row rfl 42 _ rfl w.heap.size rfl 42 _ _ _ hrow Try.underlying42 rfl (info42' _ (mat_length _)) ?_))
            clear hz
            have hrowB : (W1.alloc (.cells (arr zero64) 42)).heap[w.heap.size]? = some (.cells (arr (mat (8 * 2 ^ k))) 42) := by
              rw [heap_alloc_old _ _ (by have := hb1.size; have := block_lt hrow; omega), hb1.block _ (block_lt hrow)]; exact hrow
            have hbelB : Below w.heap.size w (W1.alloc (.cells (arr zero64) 42)) := (hbel.trans (hb1.mono hbel.size)).alloc (by have := hbel.size; have := hb1.size; omega) _
            have hgt : w.heap.size < W1.heap.size := by have := hb1.size; have := block_lt hrow; omega
            clear hrow hbel hb1
            go_loopw [10] (fun i wx => ∃ j : Nat, j ≤ 64 ∧ i = .int .i64 j ∧ wx.heap[w.heap.size]? = some (.cells (arr (mat (8 * 2 ^ k))) 42) ∧ wx.heap[W1.heap.size]? = some (.cells (arr (fill (8 * 2 ^ (k + 1)) j)) 42) ∧ Below w.heap.size w wx) (fun i _ => 64 - (intOf i).toNat)
            case atStart => exact ⟨0, by omega, rfl, hrowB, by rw [fill_zero]; exact heap_alloc_new _ _, hbelB⟩
            clear hrowB hbelB
            case round =>
              obtain ⟨j, hj, rfl, hrm, hrq, hbx⟩ := hrel
              by_cases hjl : j < 64
              · go_wp2_with fail
                have hi42 := info42c (8 * 2 ^ k)
                have hl42 := len42c (8 * 2 ^ k)
                have ho42 := one42c (8 * 2 ^ k)
                have hu42 := Try.underlying42
                have hne : w.heap.size ≠ W1.heap.size := by omega
                have hlm := block_lt hrm
                have hlq := block_lt hrq
                go_region_held3 (fun w' => w'.rangeAt w.heap.size 0 (cellsL (mat (8 * 2 ^ k))) ∧ w'.cell? ⟨w.heap.size, j, none⟩ = some (.int .u64 (uv (Hn (8 * 2 ^ k) (1#64 <<< j)))))
                  (first | exact S_row hrm hjl | exact S_row hrm2 hjl | exact S_row ((heap_setCell_other _ _ _ _ hne).trans hrm2) hjl)
                  (first
                    | (go_at_call 23; refine (times_cells _ _ _).mono ?_; rintro e w2 ⟨rfl, hb2⟩; have hrm2 : w2.heap[w.heap.size]? = some (.cells (arr (mat (8 * 2 ^ k))) 42) := (hb2.block _ hlm).trans hrm; have hrq2 : w2.heap[W1.heap.size]? = some (.cells (arr (fill (8 * 2 ^ (k + 1)) j)) 42) := (hb2.block _ hlq).trans hrq; have hcq2 := row_cell hrq2 j (by rw [fill_length]; exact hjl); have hfq2 := row_frozen hrq2 j))
                have hbz := hbx.drew.trans (hb2.mono hbx.size)
                have hend : ((w2.setCell ⟨W1.heap.size, j, none⟩ (.int .u64 (uv (Hn (8 * 2 ^ k) (Hn (8 * 2 ^ k) (1#64 <<< j)))))).heap[w.heap.size]? = some (.cells (arr (mat (8 * 2 ^ k))) 42)) ∧ ((w2.setCell ⟨W1.heap.size, j, none⟩ (.int .u64 (uv (Hn (8 * 2 ^ k) (Hn (8 * 2 ^ k) (1#64 <<< j)))))).heap[W1.heap.size]? = some (.cells (arr (fill (8 * 2 ^ (k + 1)) (j + 1))) 42)) ∧ Below w.heap.size w (w2.setCell ⟨W1.heap.size, j, none⟩ (.int .u64 (uv (Hn (8 * 2 ^ k) (Hn (8 * 2 ^ k) (1#64 <<< j)))))) :=
                  ⟨(heap_setCell_other _ _ _ _ hne).trans hrm2, by rw [row_set hrq2, square_row, fill_set], hbz.setCell (Nat.le_of_lt hgt) _⟩
                have HE : Hid _ := hend
                clear hend hbz hrm2 hrq2 hcq2 hfq2 hb2 hrm hrq hbx hi42 hl42 ho42 hu42
                go_wp2
                go_roundw
                case rel => first | exact ⟨j + 1, by omega, by go_num, HE.out.1, HE.out.2.1, HE.out.2.2⟩ | ((repeat apply Exists.intro); exact ⟨⟨j + 1, by omega, by go_num, HE.out.1, HE.out.2.1, HE.out.2.2⟩, rfl⟩)
                case measure => simp [intOf]; omega
              · have e64 : j = 64 := by omega
                subst e64
                rw [fill_full] at hrq
                go_wp2_with (first
                  | (refine wpList_load_row rfl 42 _ rfl W1.heap.size rfl 42 _ _ _ hrq Try.underlying42 rfl (info42' _ (mat_length _)) ?_)
                  | (refine wpList_store_row rfl 42 _ _ rfl w.heap.size _ rfl rfl 42 _ hrm (info42' _ (mat_length _)) (by rw [arr_size, arr_size, mat_length, mat_length]) (arr_one _) ?_))
                go_roundw
                case rel => first | exact ⟨Hn (8 * 2 ^ k) A, k + 1, ((m / 2 : Nat) : Int), by omega, rfl, by go_num, by rw [Int.toNat_natCast, HJ.out]; exact HA.out, setRow_heap _ _ _ _ _ _ hrm, hbx.trans ⟨rfl, rfl, rfl, by simp, fun q hq => setRow_other _ _ _ _ (by omega)⟩⟩ | ((repeat apply Exists.intro); exact ⟨⟨Hn (8 * 2 ^ k) A, k + 1, ((m / 2 : Nat) : Int), by omega, rfl, by go_num, by rw [Int.toNat_natCast, HJ.out]; exact HA.out, setRow_heap _ _ _ _ _ _ hrm, hbx.trans ⟨rfl, rfl, rfl, by simp, fun q hq => setRow_other _ _ _ _ (by omega)⟩⟩, rfl⟩)
                case measure => simp [intOf]; omega
          · have HJ : Hid _ := join_even k m hod A
            have ho : ((m : Int) % 2 == 1) = false := by rw [beq_eq_false_iff_ne]; omega
            rw [Int.toNat_natCast] at HA
            obtain ⟨W1, hW1⟩ : ∃ W1 : World, W1 = wr := ⟨_, rfl⟩
            subst hW1
            have hb1 : Below W1.heap.size W1 W1 := Below.refl _ _
            have hpd : decide (0 < m) = true := by rw [decide_eq_true_eq]; omega
            clear hod
            go_wp2
            clear hz
            have hrowB : (W1.alloc (.cells (arr zero64) 42)).heap[w.heap.size]? = some (.cells (arr (mat (8 * 2 ^ k))) 42) := by
              rw [heap_alloc_old _ _ (by have := hb1.size; have := block_lt hrow; omega), hb1.block _ (block_lt hrow)]; exact hrow
            have hbelB : Below w.heap.size w (W1.alloc (.cells (arr zero64) 42)) := (hbel.trans (hb1.mono hbel.size)).alloc (by have := hbel.size; have := hb1.size; omega) _
            have hgt : w.heap.size < W1.heap.size := by have := hb1.size; have := block_lt hrow; omega
            clear hrow hbel hb1
            go_loopw [10] (fun i wx => ∃ j : Nat, j ≤ 64 ∧ i = .int .i64 j ∧ wx.heap[w.heap.size]? = some (.cells (arr (mat (8 * 2 ^ k))) 42) ∧ wx.heap[W1.heap.size]? = some (.cells (arr (fill (8 * 2 ^ (k + 1)) j)) 42) ∧ Below w.heap.size w wx) (fun i _ => 64 - (intOf i).toNat)
            case atStart => exact ⟨0, by omega, rfl, hrowB, by rw [fill_zero]; exact heap_alloc_new _ _, hbelB⟩
            clear hrowB hbelB
            case round =>
              obtain ⟨j, hj, rfl, hrm, hrq, hbx⟩ := hrel
              by_cases hjl : j < 64
              · go_wp2_with fail
                have hi42 := info42c (8 * 2 ^ k)
                have hl42 := len42c (8 * 2 ^ k)
                have ho42 := one42c (8 * 2 ^ k)
                have hu42 := Try.underlying42
                have hne : w.heap.size ≠ W1.heap.size := by omega
                have hlm := block_lt hrm
                have hlq := block_lt hrq
                go_region_held3 (fun w' => w'.rangeAt w.heap.size 0 (cellsL (mat (8 * 2 ^ k))) ∧ w'.cell? ⟨w.heap.size, j, none⟩ = some (.int .u64 (uv (Hn (8 * 2 ^ k) (1#64 <<< j)))))
                  (first | exact S_row hrm hjl | exact S_row hrm2 hjl | exact S_row ((heap_setCell_other _ _ _ _ hne).trans hrm2) hjl)
                  (first
                    | (go_at_call 23; refine (times_cells _ _ _).mono ?_; rintro e w2 ⟨rfl, hb2⟩; have hrm2 : w2.heap[w.heap.size]? = some (.cells (arr (mat (8 * 2 ^ k))) 42) := (hb2.block _ hlm).trans hrm; have hrq2 : w2.heap[W1.heap.size]? = some (.cells (arr (fill (8 * 2 ^ (k + 1)) j)) 42) := (hb2.block _ hlq).trans hrq; have hcq2 := row_cell hrq2 j (by rw [fill_length]; exact hjl); have hfq2 := row_frozen hrq2 j))
                have hbz := hbx.drew.trans (hb2.mono hbx.size)
                have hend : ((w2.setCell ⟨W1.heap.size, j, none⟩ (.int .u64 (uv (Hn (8 * 2 ^ k) (Hn (8 * 2 ^ k) (1#64 <<< j)))))).heap[w.heap.size]? = some (.cells (arr (mat (8 * 2 ^ k))) 42)) ∧ ((w2.setCell ⟨W1.heap.size, j, none⟩ (.int .u64 (uv (Hn (8 * 2 ^ k) (Hn (8 * 2 ^ k) (1#64 <<< j)))))).heap[W1.heap.size]? = some (.cells (arr (fill (8 * 2 ^ (k + 1)) (j + 1))) 42)) ∧ Below w.heap.size w (w2.setCell ⟨W1.heap.size, j, none⟩ (.int .u64 (uv (Hn (8 * 2 ^ k) (Hn (8 * 2 ^ k) (1#64 <<< j)))))) :=
                  ⟨(heap_setCell_other _ _ _ _ hne).trans hrm2, by rw [row_set hrq2, square_row, fill_set], hbz.setCell (Nat.le_of_lt hgt) _⟩
                have HE : Hid _ := hend
                clear hend hbz hrm2 hrq2 hcq2 hfq2 hb2 hrm hrq hbx hi42 hl42 ho42 hu42
                go_wp2
                go_roundw
                case rel => first | exact ⟨j + 1, by omega, by go_num, HE.out.1, HE.out.2.1, HE.out.2.2⟩ | ((repeat apply Exists.intro); exact ⟨⟨j + 1, by omega, by go_num, HE.out.1, HE.out.2.1, HE.out.2.2⟩, rfl⟩)
                case measure => simp [intOf]; omega
              · have e64 : j = 64 := by omega
                subst e64
                rw [fill_full] at hrq
                go_wp2_with (first
                  | (refine wpList_load_row rfl 42 _ rfl W1.heap.size rfl 42 _ _ _ hrq Try.underlying42 rfl (info42' _ (mat_length _)) ?_)
                  | (refine wpList_store_row rfl 42 _ _ rfl w.heap.size _ rfl rfl 42 _ hrm (info42' _ (mat_length _)) (by rw [arr_size, arr_size, mat_length, mat_length]) (arr_one _) ?_))
                go_roundw
                case rel => first | exact ⟨A, k + 1, ((m / 2 : Nat) : Int), by omega, rfl, by go_num, by rw [Int.toNat_natCast, HJ.out]; exact HA.out, setRow_heap _ _ _ _ _ _ hrm, hbx.trans ⟨rfl, rfl, rfl, by simp, fun q hq => setRow_other _ _ _ _ (by omega)⟩⟩ | ((repeat apply Exists.intro); exact ⟨⟨A, k + 1, ((m / 2 : Nat) : Int), by omega, rfl, by go_num, by rw [Int.toNat_natCast, HJ.out]; exact HA.out, setRow_heap _ _ _ _ _ _ hrm, hbx.trans ⟨rfl, rfl, rfl, by simp, fun q hq => setRow_other _ _ _ _ (by omega)⟩⟩, rfl⟩)
                case measure => simp [intOf]; omega
        · have HZ : Hid (m.toNat = 0) := by show _ = _; omega
          go_wp2
          go_ret
          exact ⟨ret_int (by rw [uv_xor, ← HA.out, HZ.out]; rfl), hbel⟩
end Go.Proofs.Ytapmgknaimakoaa
