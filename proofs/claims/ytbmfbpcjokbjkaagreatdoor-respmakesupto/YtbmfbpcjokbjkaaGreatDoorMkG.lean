import Derived.Test.YtbmfbpcjokbjkaaGreatDoorMkF
namespace Go.Proofs.YtbmfbpcjokbjkaaGreatDoor
open Go.RowKit Vi
set_option linter.unusedVariables false
set_option linter.unusedSimpArgs false
theorem str_self (s : ByteArray) : (s.toList == s.toList) = true := by simp
set_option maxRecDepth 20000 in
set_option maxHeartbeats 4000000 in
/-- two replies that are one, of no list. -/
theorem sR_leaf (k : Int) (s : ByteArray) (n : Int) (P1 P2 : Option Addr) (c1 c2 : Nat) (w : World) :
    Calls Tryz.prog 15 #[.agg #[.int .i64 k, .string s, .int .i64 n, .slice P1 0 c1], .agg #[.int .i64 k, .string s, .int .i64 n, .slice P2 0 c2]] w fun e w' => e = .returned (.bool true) ∧ Below w.heap.size w w' := by
  obtain ⟨W0, hW0⟩ : ∃ W, W = (w.alloc (.cells #[.int .i64 k, .string s, .int .i64 n, .slice P1 0 c1] 24)).alloc (.cells #[.int .i64 k, .string s, .int .i64 n, .slice P2 0 c2] 24) := ⟨_, rfl⟩
  obtain ⟨b, hb⟩ : ∃ b, w.heap.size = b := ⟨_, rfl⟩
  have hb0 : Below b w W0 := by rw [hW0, ← hb]; exact ((Below.refl _ _).alloc (Nat.le_refl _) _).alloc (by simp) _
  have hr1 : W0.heap[b]? = some (.cells #[.int .i64 k, .string s, .int .i64 n, .slice P1 0 c1] 24) := by
    rw [hW0, ← hb]; exact keep_row (one_alloc _ _) ((Below.refl _ _).alloc (Nat.le_refl _) _)
  have hr2 : W0.heap[b + 1]? = some (.cells #[.int .i64 k, .string s, .int .i64 n, .slice P2 0 c2] 24) := by
    have h9 := one_alloc (w.alloc (.cells #[.int .i64 k, .string s, .int .i64 n, .slice P1 0 c1] 24)) (.cells #[.int .i64 k, .string s, .int .i64 n, .slice P2 0 c2] 24)
    rw [hW0, ← hb]; simpa using h9
  have HB0 : Hid (Below b w W0) := hb0
  obtain ⟨z0, z1, z2, z3, zf⟩ := prow4 hr1
  obtain ⟨y0, y1, y2, y3, yf⟩ := prow4 hr2
  have hs := str_self s
  rw [hb]
  clear hb0 hr1 hr2
  go_enter Tryz.func15, Tryz.ntmps15
  go_upto_region 1 with fail
  rw [← hW0]
  clear hW0 hb
  go_wp2
  go_loopw [5] (fun ci wr => ci = .int .i64 0 ∧ wr = W0) (fun _ _ => 0)
  case atStart => exact ⟨rfl, rfl⟩
  case round =>
    obtain ⟨rfl, hw⟩ := hrel
    subst hw
    go_wp2
    go_returns
    exact ⟨rfl, HB0.out⟩
set_option maxRecDepth 20000 in
set_option maxHeartbeats 8000000 in
/-- two replies that are one, with lists of bulk replies. -/
theorem sR_list (k : Int) (s : ByteArray) (n : Int) (va vb : Value) (xs : List ByteArray) (hx : xs.length ≤ 1073741824) (w : World) (hA : BV w va xs) (hB : BV w vb xs) :
    Calls Tryz.prog 15 #[.agg #[.int .i64 k, .string s, .int .i64 n, va], .agg #[.int .i64 k, .string s, .int .i64 n, vb]] w fun e w' => e = .returned (.bool true) ∧ Below w.heap.size w w' := by
  obtain ⟨P1, c1, rfl⟩ := hA.form
  obtain ⟨P2, c2, rfl⟩ := hB.form
  obtain ⟨m, hm⟩ : ∃ m, xs.length = m := ⟨_, rfl⟩
  have HM : Hid (xs.length = m) := hm
  rw [hm] at hx hA hB ⊢
  have HA : Hid (BV w (.slice P1 m c1) xs) := hA
  have HBV : Hid (BV w (.slice P2 m c2) xs) := hB
  obtain ⟨W0, hW0⟩ : ∃ W, W = (w.alloc (.cells #[.int .i64 k, .string s, .int .i64 n, .slice P1 m c1] 24)).alloc (.cells #[.int .i64 k, .string s, .int .i64 n, .slice P2 m c2] 24) := ⟨_, rfl⟩
  obtain ⟨b, hb⟩ : ∃ b, w.heap.size = b := ⟨_, rfl⟩
  have HBB : Hid (w.heap.size = b) := hb
  have hb0 : Below b w W0 := by rw [hW0, ← hb]; exact ((Below.refl _ _).alloc (Nat.le_refl _) _).alloc (by simp) _
  have hr1 : W0.heap[b]? = some (.cells #[.int .i64 k, .string s, .int .i64 n, .slice P1 m c1] 24) := by
    rw [hW0, ← hb]; exact keep_row (one_alloc _ _) ((Below.refl _ _).alloc (Nat.le_refl _) _)
  have hr2 : W0.heap[b + 1]? = some (.cells #[.int .i64 k, .string s, .int .i64 n, .slice P2 m c2] 24) := by
    have h9 := one_alloc (w.alloc (.cells #[.int .i64 k, .string s, .int .i64 n, .slice P1 m c1] 24)) (.cells #[.int .i64 k, .string s, .int .i64 n, .slice P2 m c2] 24)
    rw [hW0, ← hb]; simpa using h9
  have HB0 : Hid (Below b w W0) := hb0
  have HR1 : Hid _ := hr1
  have HR2 : Hid _ := hr2
  obtain ⟨z0, z1, z2, z3, zf⟩ := prow4 hr1
  obtain ⟨y0, y1, y2, y3, yf⟩ := prow4 hr2
  have hs := str_self s
  rw [hb]
  clear hb0 hr1 hr2 hA hB hm
  go_enter Tryz.func15, Tryz.ntmps15
  go_upto_region 1 with fail
  rw [← hW0]
  clear hW0 hb
  go_wp2
  clear z0 z1 z2 z3 zf y0 y1 y2 y3 yf hs
  go_loopw [5] (fun ci wr => ∃ i : Nat, (i ≤ m ∧ Below W0.heap.size W0 wr) ∧ ci = .int .i64 (i : Int)) (fun ci _ => m - (intOf ci).toNat)
  case atStart => exact ⟨0, ⟨Nat.zero_le _, Below.refl _ _⟩, rfl⟩
  case round =>
    obtain ⟨i, ⟨hi, hbw⟩, rfl⟩ := hrel
    have HBW : Hid (Below W0.heap.size W0 wr) := hbw
    obtain ⟨z0, z1, z2, z3, zf⟩ := prow4 (keep_row HR1.out hbw)
    obtain ⟨y0, y1, y2, y3, yf⟩ := prow4 (keep_row HR2.out hbw)
    have HBX : Hid (Below b w wr) := HB0.out.trans (hbw.mono (Nat.le_of_lt (row_lt HR1.out)))
    clear hbw
    by_cases hlt : i < m
    · have hix : i < xs.length := by rw [HM.out]; exact hlt
      obtain ⟨g1, o1, hP1, d0, d1, d2, d3⟩ := (HA.out.on (HBB.out ▸ HBX.out)).cell i hix
      obtain ⟨g2, o2, hP2, e0, e1, e2, e3⟩ := (HBV.out.on (HBB.out ▸ HBX.out)).cell i hix
      obtain ⟨X, hX⟩ : ∃ X, xs[i] = X := ⟨_, rfl⟩
      rw [hX] at d1 e1
      subst hP1
      subst hP2
      have hz0 : (0 : Int) ≤ (i : Int) := by omega
      have hz1 : (i : Int) < (m : Int) := by omega
      clear hX hix
      have HBD : Hid (Below W0.heap.size W0 wr.drew) := below_dn HBW.out 1
      go_upto_region 6 with fail
      go_region_with (go_at_call 15; refine (sR_leaf 4 X 0 none none 0 0 _).mono ?_; rintro e w2 ⟨rfl, hbx⟩; have HB2 : Hid (Below W0.heap.size W0 w2) := HBD.out.trans (hbx.mono HBD.out.size); clear hbx)
      all_goals
        clear z0 z1 z2 z3 zf y0 y1 y2 y3 yf d0 d1 d2 d3 e0 e1 e2 e3
        go_wp2
        go_roundw
        case rel => exact ⟨i + 1, ⟨hlt, HB2.out⟩, rfl⟩
        case measure => simp [intOf]; omega
    · have hin : i = m := by omega
      subst hin
      go_wp2
      go_returns
      exact ⟨rfl, HBX.out⟩
end Go.Proofs.YtbmfbpcjokbjkaaGreatDoor
