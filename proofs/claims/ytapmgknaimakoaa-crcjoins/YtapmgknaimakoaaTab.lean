import Derived.Test.YtapmgknaimakoaaLeaf
import Derived.Test.YtapmgknaimakoaaTable
namespace Go.Proofs.Ytapmgknaimakoaa
open Go.RowKit CrcM

theorem zero37 (w : World) : Sem.run Try.prog (zeroValue 37) w = .ok (.agg (arr zero256)) w := by kernel_rfl

/-- two blocks of 256 numbers, the second holds l. -/
structure St (w wr : World) (l : List (BitVec 64)) : Prop where
  size : wr.heap.size = w.heap.size + 2
  first : wr.heap[w.heap.size]? = some (.cells (arr zero256) 37)
  second : wr.heap[w.heap.size + 1]? = some (.cells (arr l) 37)
  below : Below w.heap.size w wr
theorem St.start (w : World) : St w ((w.alloc (.cells (arr zero256) 37)).alloc (.cells (arr zero256) 37)) zero256 :=
  ⟨by simp, heap_alloc2_old _ _ _, heap_alloc2_new _ _ _, ((Below.refl _ _).alloc (Nat.le_refl _) _).alloc (by simp) _⟩
theorem St.cell {w wr : World} {l : List (BitVec 64)} (h : St w wr l) (i : Nat) (hi : i < l.length) :
    wr.cell? ⟨w.heap.size + 1, i, none⟩ = some (.int .u64 (uv l[i])) := by
  rw [cell_of_row _ _ _ _ _ _ h.second, arr_get l i hi]
theorem St.frozen {w wr : World} {l : List (BitVec 64)} (h : St w wr l) (i : Nat) : wr.frozen? ⟨w.heap.size + 1, i, none⟩ = false :=
  frozen_of_row _ _ _ _ _ h.second
theorem St.set {w wr : World} {l : List (BitVec 64)} (h : St w wr l) (i : Nat) (v : BitVec 64) :
    St w (wr.setCell ⟨w.heap.size + 1, i, none⟩ (.int .u64 (uv v))) (l.set i v) :=
  ⟨by rw [World.size_setCell]; exact h.size, by rw [heap_setCell_other _ _ _ _ (by simp)]; exact h.first,
   by rw [heap_setCell_same _ _ _ _ _ _ h.second, arr_set], h.below.setCell (by simp) _⟩


theorem St.load {w wr : World} {l : List (BitVec 64)} (h : St w wr l) : wr.heap[w.heap.size + 1]? = some (.cells (arr l) 37) := h.second
theorem info37 : (Try.prog.info? 37).map (·.size) = some 256 := by kernel_rfl
theorem info37' (l : List (BitVec 64)) (h : l.length = 256) : (Try.prog.info? 37).map (·.size) = some (arr l).size := by
  rw [arr_size, h]; exact info37
theorem below_setRow {w wr : World} (h : Below w.heap.size w wr) (cs : Array Value) : Below w.heap.size w (wr.setRow w.heap.size cs) :=
  h.trans ⟨rfl, rfl, rfl, by simp, fun k hk => setRow_other _ _ _ _ (by omega)⟩
theorem bit_next (k : Nat) : 256 / 2 ^ (k + 1) / 2 = 256 / 2 ^ (k + 1 + 1) := by
  rw [Nat.div_div_eq_div_mul, ← Nat.pow_succ]
theorem bit_pow2 : ∀ k, k < 8 → 256 / 2 ^ (k + 1) = 2 ^ (7 - k) := by decide
theorem bit_full : ∀ k, k < 8 → 2 ^ k * (2 * 2 ^ (7 - k)) = 256 := by decide
theorem lt_full (k m : Nat) (hk : k < 8) (hm : m < 2 ^ k) : (m + 1) * (2 * 2 ^ (7 - k)) ≤ 256 := by
  rw [← bit_full k hk]
  exact Nat.mul_le_mul_right _ hm
theorem lt_back (k m : Nat) (hk : k < 8) (h : m * (2 * 2 ^ (7 - k)) < 256) : m < 2 ^ k := by
  rw [← bit_full k hk] at h
  exact Nat.lt_of_mul_lt_mul_right h

set_option maxHeartbeats 400000 in
set_option maxRecDepth 20000 in
theorem byteSums_any (w : World) :
    Calls Try.prog 20 #[] w fun e w' => e = .returned (.agg (arr full)) ∧ Below w.heap.size w w' := by
  have hz := zero37
  go_enter Try.func20, Try.ntmps20
  go_wp2
  clear hz
  go_loopw [2, 3] (fun c b wr => ∃ k : Nat, k ≤ 8 ∧ c = .int .u64 (uv (Hn k 1#64)) ∧ b = .int .i64 ((256 / 2 ^ (k + 1) : Nat) : Int) ∧ St w wr (tab k 0)) (fun _ b _ => (intOf b).toNat)
  case atStart => exact ⟨0, by omega, rfl, rfl, by rw [tab_start]; exact St.start w⟩
  case round =>
    obtain ⟨k, hk, rfl, rfl, hst⟩ := hrel
    by_cases hk8 : k = 8
    · subst hk8
      rw [tab_last] at hst
      have h2 := hst.second
      rw [show ((256 / 2 ^ (8 + 1) : Nat) : Int) = 0 from rfl]
      go_wp2_with (first
        | (refine wpList_load_row rfl 37 _ rfl (w.heap.size + 1) rfl 37 _ _ _ h2 Try.underlying37 rfl (info37' _ full_length) ?_)
        | (refine wpList_store_row rfl 37 _ _ rfl w.heap.size (arr full) rfl rfl 37 _ hst.first (info37' _ full_length) (by rw [arr_size, arr_size, full_length, zero_length]) (arr_one _) ?_))
      exact bodyPost_ret (results_cell_row rfl _ _ w.heap.size 37 (arr full) _ _ rfl (setRow_heap _ _ _ _ _ _ hst.first) Try.underlying37 rfl (info37' _ full_length)) rfl ⟨rfl, below_setRow hst.below _⟩
    · have hkl : k < 8 := by omega
      have HB : Hid (256 / 2 ^ (k + 1) = 2 ^ (7 - k)) := bit_pow2 k hkl
      have hb1 : 256 / 2 ^ (k + 1) ≤ 128 := by rw [HB.out]; exact Nat.pow_le_pow_right (by omega) (by omega : 7 - k ≤ 7)
      have hb0 : 0 < 256 / 2 ^ (k + 1) := by rw [HB.out]; exact Nat.pow_pos (by omega)
      generalize hbe : 256 / 2 ^ (k + 1) = b at *
      have HE : Hid (256 / 2 ^ (k + 1) = b) := hbe
      clear hbe hk8
      go_wp2_with (go_at_call 24; refine (halve_any _ _).mono ?_; rintro e w' ⟨rfl, rfl⟩)
      go_loopw [4] (fun a wr => ∃ m : Nat, m * (2 * b) ≤ 256 ∧ a = .int .i64 ((m * (2 * b) : Nat) : Int) ∧ St w wr (tab k (m * (2 * b)))) (fun a _ => 256 - (intOf a).toNat)
      case atStart => exact ⟨0, by omega, by simp, by rw [Nat.zero_mul]; exact hst⟩
      case round =>
        obtain ⟨m, hm, rfl, hst'⟩ := hrel
        clear hst
        by_cases hlt : m * (2 * b) < 256
        · have HM : Hid ((m + 1) * (2 * b) = m * (2 * b) + 2 * b) := Nat.succ_mul m (2 * b)
          have hm2 : m < 2 ^ k := lt_back k m hkl (by rw [← HB.out]; exact hlt)
          have HF : Hid ((m + 1) * (2 * b) ≤ 256) := by have := lt_full k m hkl hm2; rw [← HB.out] at this; exact this
          have hf2 : m * (2 * b) + 2 * b ≤ 256 := by have := HF.out; rw [HM.out] at this; exact this
          have hc := hst'.cell (m * (2 * b)) (by rw [tab_length]; exact hlt)
          have HT : Hid ((tab k (m * (2 * b)))[m * (2 * b)]'(by rw [tab_length]; exact hlt) = tb (m * (2 * b))) := by
            have := tab_at k m (by rw [← HB.out]; exact hlt) hkl
            simp only [← HB.out] at this
            exact this
          rw [HT.out] at hc
          clear HT
          obtain ⟨x, hc2⟩ : ∃ x, wr.cell? ⟨w.heap.size + 1, m * (2 * b) + b, none⟩ = some x := ⟨_, hst'.cell (m * (2 * b) + b) (by rw [tab_length]; omega)⟩
          have hfr := hst'.frozen (m * (2 * b) + b)
          have HS : Hid (St w (wr.setCell ⟨w.heap.size + 1, m * (2 * b) + b, none⟩ (.int .u64 (uv (tb (m * (2 * b)) ^^^ tb b)))) (tab k ((m + 1) * (2 * b)))) := by
            have := hst'.set (m * (2 * b) + b) (tb (m * (2 * b)) ^^^ tb b)
            have h2 := tab_step k m hkl hm2
            simp only [← HB.out] at h2
            rw [h2] at this
            exact this
          have HT2 : Hid (tb b = Hn (k + 1) 1#64) := by rw [HB.out]; exact tb_pow k hkl
          generalize hae : m * (2 * b) = a at *
          have HA : Hid (m * (2 * b) = a) := hae
          clear hae hst' hk hkl hm2
          go_wp2
          go_roundw
          case rel =>
            refine ⟨m + 1, HF.out, by rw [HM.out]; go_num, ?_⟩
            rw [← Hn_succ, ← HT2.out, uv_xor]
            exact HS.out
          case measure => simp [intOf]; omega
        · have HM : Hid (m * (2 * b) = 256) := by show _ = _; omega
          have HS : Hid (St w wr (tab (k + 1) 0)) := by
            show St w wr _
            rw [← tab_next k hkl, ← HM.out]; exact hst'
          have hge : ¬ ((m * (2 * b) : Nat) : Int) < 256 := by omega
          have HV : Hid (b / 2 = 256 / 2 ^ (k + 1 + 1)) := by show _ = _; rw [← HE.out]; exact bit_next k
          clear hst' hlt hm
          generalize hae : m * (2 * b) = a at *
          have HA : Hid (m * (2 * b) = a) := hae
          clear hae
          go_wp2
          go_roundw
          case rel => exact ⟨k + 1, by omega, by rw [Hn_succ], by rw [← HV.out]; go_num, HS.out⟩
          case measure => simp [intOf]; omega
end Go.Proofs.Ytapmgknaimakoaa
