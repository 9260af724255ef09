import Derived.Test.YtgiicfgekicfcaaGreatDoorEJ
import Derived.Deep.RegionWith
namespace Go.Proofs.YtgiicfgekicfcaaGreatDoor
open Go.RowKit Vi
set_option linter.unusedVariables false
set_option linter.unusedSimpArgs false
set_option maxRecDepth 20000 in
set_option maxHeartbeats 2000000 in
theorem redoc_null_2 (m c : Nat) (P : Option Addr) (n D : Int) (s : ByteArray) (w : World) :
    Calls Tryz.prog 20 #[.agg #[.int .i64 0, .string s, .int .i64 n, .slice P m c], .int .i64 2, .int .i64 D] w fun e w' => EncIs (some [36, 45, 49, 13, 10]) w w' e := by
  obtain ⟨W0, hW0⟩ : ∃ W, W = w.alloc (.cells #[.int .i64 0, .string s, .int .i64 n, .slice P m c] 24) := ⟨_, rfl⟩
  have hb0 : Below w.heap.size w W0 := by rw [hW0]; exact (Below.refl _ _).alloc (Nat.le_refl _) _
  obtain ⟨b, hbb⟩ : ∃ b, w.heap.size = b := ⟨_, rfl⟩
  have hr1 : W0.heap[b]? = some (.cells #[.int .i64 0, .string s, .int .i64 n, .slice P m c] 24) := by rw [hW0, ← hbb]; exact one_alloc _ _
  obtain ⟨z0, z1, z2, z3, zf⟩ := prow4 hr1
  have HB0 : Hid (Below w.heap.size w W0) := hb0
  have HBB : Hid (w.heap.size = b) := hbb
  clear hb0 hbb hr1
  go_enter Tryz.func20, Tryz.ntmps20
  go_upto_region 1 with fail
  rw [← hW0, HBB.out]
  clear hW0
  go_wp2
  go_returns
  exact ⟨rfl, HB0.out⟩
set_option maxRecDepth 20000 in
set_option maxHeartbeats 2000000 in
theorem redoc_null_3 (m c : Nat) (P : Option Addr) (n D : Int) (s : ByteArray) (w : World) :
    Calls Tryz.prog 20 #[.agg #[.int .i64 0, .string s, .int .i64 n, .slice P m c], .int .i64 3, .int .i64 D] w fun e w' => EncIs (some [95, 13, 10]) w w' e := by
  obtain ⟨W0, hW0⟩ : ∃ W, W = w.alloc (.cells #[.int .i64 0, .string s, .int .i64 n, .slice P m c] 24) := ⟨_, rfl⟩
  have hb0 : Below w.heap.size w W0 := by rw [hW0]; exact (Below.refl _ _).alloc (Nat.le_refl _) _
  obtain ⟨b, hbb⟩ : ∃ b, w.heap.size = b := ⟨_, rfl⟩
  have hr1 : W0.heap[b]? = some (.cells #[.int .i64 0, .string s, .int .i64 n, .slice P m c] 24) := by rw [hW0, ← hbb]; exact one_alloc _ _
  obtain ⟨z0, z1, z2, z3, zf⟩ := prow4 hr1
  have HB0 : Hid (Below w.heap.size w W0) := hb0
  have HBB : Hid (w.heap.size = b) := hbb
  clear hb0 hbb hr1
  go_enter Tryz.func20, Tryz.ntmps20
  go_upto_region 1 with fail
  rw [← hW0, HBB.out]
  clear hW0
  go_wp2
  go_returns
  exact ⟨rfl, HB0.out⟩
set_option maxRecDepth 20000 in
set_option maxHeartbeats 2000000 in
theorem redoc_nulls_2 (m c : Nat) (P : Option Addr) (n D : Int) (s : ByteArray) (w : World) :
    Calls Tryz.prog 20 #[.agg #[.int .i64 9, .string s, .int .i64 n, .slice P m c], .int .i64 2, .int .i64 D] w fun e w' => EncIs (some [42, 45, 49, 13, 10]) w w' e := by
  obtain ⟨W0, hW0⟩ : ∃ W, W = w.alloc (.cells #[.int .i64 9, .string s, .int .i64 n, .slice P m c] 24) := ⟨_, rfl⟩
  have hb0 : Below w.heap.size w W0 := by rw [hW0]; exact (Below.refl _ _).alloc (Nat.le_refl _) _
  obtain ⟨b, hbb⟩ : ∃ b, w.heap.size = b := ⟨_, rfl⟩
  have hr1 : W0.heap[b]? = some (.cells #[.int .i64 9, .string s, .int .i64 n, .slice P m c] 24) := by rw [hW0, ← hbb]; exact one_alloc _ _
  obtain ⟨z0, z1, z2, z3, zf⟩ := prow4 hr1
  have HB0 : Hid (Below w.heap.size w W0) := hb0
  have HBB : Hid (w.heap.size = b) := hbb
  clear hb0 hbb hr1
  go_enter Tryz.func20, Tryz.ntmps20
  go_upto_region 1 with fail
  rw [← hW0, HBB.out]
  clear hW0
  go_wp2
  go_returns
  exact ⟨rfl, HB0.out⟩
set_option maxRecDepth 20000 in
set_option maxHeartbeats 2000000 in
theorem redoc_nulls_3 (m c : Nat) (P : Option Addr) (n D : Int) (s : ByteArray) (w : World) :
    Calls Tryz.prog 20 #[.agg #[.int .i64 9, .string s, .int .i64 n, .slice P m c], .int .i64 3, .int .i64 D] w fun e w' => EncIs (some [95, 13, 10]) w w' e := by
  obtain ⟨W0, hW0⟩ : ∃ W, W = w.alloc (.cells #[.int .i64 9, .string s, .int .i64 n, .slice P m c] 24) := ⟨_, rfl⟩
  have hb0 : Below w.heap.size w W0 := by rw [hW0]; exact (Below.refl _ _).alloc (Nat.le_refl _) _
  obtain ⟨b, hbb⟩ : ∃ b, w.heap.size = b := ⟨_, rfl⟩
  have hr1 : W0.heap[b]? = some (.cells #[.int .i64 9, .string s, .int .i64 n, .slice P m c] 24) := by rw [hW0, ← hbb]; exact one_alloc _ _
  obtain ⟨z0, z1, z2, z3, zf⟩ := prow4 hr1
  have HB0 : Hid (Below w.heap.size w W0) := hb0
  have HBB : Hid (w.heap.size = b) := hbb
  clear hb0 hbb hr1
  go_enter Tryz.func20, Tryz.ntmps20
  go_upto_region 1 with fail
  rw [← hW0, HBB.out]
  clear hW0
  go_wp2
  go_returns
  exact ⟨rfl, HB0.out⟩
set_option maxRecDepth 20000 in
set_option maxHeartbeats 2000000 in
theorem redoc_no_2 (m c : Nat) (P : Option Addr) (D : Int) (s : ByteArray) (w : World) :
    Calls Tryz.prog 20 #[.agg #[.int .i64 11, .string s, .int .i64 0, .slice P m c], .int .i64 2, .int .i64 D] w fun e w' => EncIs (some [58, 48, 13, 10]) w w' e := by
  obtain ⟨W0, hW0⟩ : ∃ W, W = w.alloc (.cells #[.int .i64 11, .string s, .int .i64 0, .slice P m c] 24) := ⟨_, rfl⟩
  have hb0 : Below w.heap.size w W0 := by rw [hW0]; exact (Below.refl _ _).alloc (Nat.le_refl _) _
  obtain ⟨b, hbb⟩ : ∃ b, w.heap.size = b := ⟨_, rfl⟩
  have hr1 : W0.heap[b]? = some (.cells #[.int .i64 11, .string s, .int .i64 0, .slice P m c] 24) := by rw [hW0, ← hbb]; exact one_alloc _ _
  obtain ⟨z0, z1, z2, z3, zf⟩ := prow4 hr1
  have HB0 : Hid (Below w.heap.size w W0) := hb0
  have HBB : Hid (w.heap.size = b) := hbb
  clear hb0 hbb hr1
  go_enter Tryz.func20, Tryz.ntmps20
  go_upto_region 1 with fail
  rw [← hW0, HBB.out]
  clear hW0
  go_wp2
  go_returns
  exact ⟨rfl, HB0.out⟩
set_option maxRecDepth 20000 in
set_option maxHeartbeats 2000000 in
theorem redoc_no_3 (m c : Nat) (P : Option Addr) (D : Int) (s : ByteArray) (w : World) :
    Calls Tryz.prog 20 #[.agg #[.int .i64 11, .string s, .int .i64 0, .slice P m c], .int .i64 3, .int .i64 D] w fun e w' => EncIs (some [35, 102, 13, 10]) w w' e := by
  obtain ⟨W0, hW0⟩ : ∃ W, W = w.alloc (.cells #[.int .i64 11, .string s, .int .i64 0, .slice P m c] 24) := ⟨_, rfl⟩
  have hb0 : Below w.heap.size w W0 := by rw [hW0]; exact (Below.refl _ _).alloc (Nat.le_refl _) _
  obtain ⟨b, hbb⟩ : ∃ b, w.heap.size = b := ⟨_, rfl⟩
  have hr1 : W0.heap[b]? = some (.cells #[.int .i64 11, .string s, .int .i64 0, .slice P m c] 24) := by rw [hW0, ← hbb]; exact one_alloc _ _
  obtain ⟨z0, z1, z2, z3, zf⟩ := prow4 hr1
  have HB0 : Hid (Below w.heap.size w W0) := hb0
  have HBB : Hid (w.heap.size = b) := hbb
  clear hb0 hbb hr1
  go_enter Tryz.func20, Tryz.ntmps20
  go_upto_region 1 with fail
  rw [← hW0, HBB.out]
  clear hW0
  go_wp2
  go_returns
  exact ⟨rfl, HB0.out⟩
set_option maxRecDepth 20000 in
set_option maxHeartbeats 2000000 in
theorem redoc_yes_2 (m c : Nat) (P : Option Addr) (n D : Int) (s : ByteArray) (w : World) (hn : (n != 0) = true) :
    Calls Tryz.prog 20 #[.agg #[.int .i64 11, .string s, .int .i64 n, .slice P m c], .int .i64 2, .int .i64 D] w fun e w' => EncIs (some [58, 49, 13, 10]) w w' e := by
  obtain ⟨W0, hW0⟩ : ∃ W, W = w.alloc (.cells #[.int .i64 11, .string s, .int .i64 n, .slice P m c] 24) := ⟨_, rfl⟩
  have hb0 : Below w.heap.size w W0 := by rw [hW0]; exact (Below.refl _ _).alloc (Nat.le_refl _) _
  obtain ⟨b, hbb⟩ : ∃ b, w.heap.size = b := ⟨_, rfl⟩
  have hr1 : W0.heap[b]? = some (.cells #[.int .i64 11, .string s, .int .i64 n, .slice P m c] 24) := by rw [hW0, ← hbb]; exact one_alloc _ _
  obtain ⟨z0, z1, z2, z3, zf⟩ := prow4 hr1
  have HB0 : Hid (Below w.heap.size w W0) := hb0
  have HBB : Hid (w.heap.size = b) := hbb
  clear hb0 hbb hr1
  go_enter Tryz.func20, Tryz.ntmps20
  go_upto_region 1 with fail
  rw [← hW0, HBB.out]
  clear hW0
  go_wp2
  go_returns
  exact ⟨rfl, HB0.out⟩
set_option maxRecDepth 20000 in
set_option maxHeartbeats 2000000 in
theorem redoc_yes_3 (m c : Nat) (P : Option Addr) (n D : Int) (s : ByteArray) (w : World) (hn : (n != 0) = true) :
    Calls Tryz.prog 20 #[.agg #[.int .i64 11, .string s, .int .i64 n, .slice P m c], .int .i64 3, .int .i64 D] w fun e w' => EncIs (some [35, 116, 13, 10]) w w' e := by
  obtain ⟨W0, hW0⟩ : ∃ W, W = w.alloc (.cells #[.int .i64 11, .string s, .int .i64 n, .slice P m c] 24) := ⟨_, rfl⟩
  have hb0 : Below w.heap.size w W0 := by rw [hW0]; exact (Below.refl _ _).alloc (Nat.le_refl _) _
  obtain ⟨b, hbb⟩ : ∃ b, w.heap.size = b := ⟨_, rfl⟩
  have hr1 : W0.heap[b]? = some (.cells #[.int .i64 11, .string s, .int .i64 n, .slice P m c] 24) := by rw [hW0, ← hbb]; exact one_alloc _ _
  obtain ⟨z0, z1, z2, z3, zf⟩ := prow4 hr1
  have HB0 : Hid (Below w.heap.size w W0) := hb0
  have HBB : Hid (w.heap.size = b) := hbb
  clear hb0 hbb hr1
  go_enter Tryz.func20, Tryz.ntmps20
  go_upto_region 1 with fail
  rw [← hW0, HBB.out]
  clear hW0
  go_wp2
  go_returns
  exact ⟨rfl, HB0.out⟩
end Go.Proofs.YtgiicfgekicfcaaGreatDoor
namespace Go.Proofs.YtgiicfgekicfcaaGreatDoor
open Go.RowKit Vi
set_option linter.unusedVariables false
set_option linter.unusedSimpArgs false
theorem cat2 (a b : ByteArray) : (a ++ b).data.toList = a.data.toList ++ b.data.toList := by simp
theorem itoaB_len (n : Int) (h0 : -9223372036854775808 ≤ n) (h1 : n ≤ 9223372036854775807) : (itoaB n).size ≤ 32 := by
  rw [← list_len, itoaB_list]
  have := itoa_len20 n h0 h1
  omega
theorem as_strB {x : ByteArray} {l : By} (h : x.data.toList = l) : x = strB l := by subst h; rfl
set_option maxRecDepth 20000 in
set_option maxHeartbeats 2000000 in
theorem redoc_int (m c : Nat) (P : Option Addr) (n D p : Int) (s : ByteArray) (w : World) (h0 : -9223372036854775808 ≤ n) (h1 : n ≤ 9223372036854775807) :
    Calls Tryz.prog 20 #[.agg #[.int .i64 3, .string s, .int .i64 n, .slice P m c], .int .i64 p, .int .i64 D] w fun e w' => EncIs (some (58 :: (Lib.itoa n ++ [13, 10]))) w w' e := by
  obtain ⟨W0, hW0⟩ : ∃ W, W = w.alloc (.cells #[.int .i64 3, .string s, .int .i64 n, .slice P m c] 24) := ⟨_, rfl⟩
  have hb0 : Below w.heap.size w W0 := by rw [hW0]; exact (Below.refl _ _).alloc (Nat.le_refl _) _
  obtain ⟨b, hbb⟩ : ∃ b, w.heap.size = b := ⟨_, rfl⟩
  have hr1 : W0.heap[b]? = some (.cells #[.int .i64 3, .string s, .int .i64 n, .slice P m c] 24) := by rw [hW0, ← hbb]; exact one_alloc _ _
  obtain ⟨z0, z1, z2, z3, zf⟩ := prow4 hr1
  have HB0 : Hid (Below w.heap.size w W0) := hb0
  have HBB : Hid (w.heap.size = b) := hbb
  have hIs := itoaB_len n h0 h1
  obtain ⟨I, hI⟩ : ∃ I, itoaB n = I := ⟨_, rfl⟩
  have HDG : Hid (Calls Tryz.prog 31 #[.int .i64 n] W0 fun e w' => e = .returned (.string I) ∧ Below W0.heap.size W0 w') := hI ▸ refDigits_any n h0 h1 W0
  have HV : Hid ((⟨#[58]⟩ : ByteArray) ++ I ++ ⟨#[13, 10]⟩ = strB (58 :: (Lib.itoa n ++ [13, 10]))) := as_strB (by rw [cat2, cat2, ← hI, itoaB_list]; simp)
  rw [hI] at hIs
  clear hI
  clear hb0 hbb hr1 h0 h1
  go_enter Tryz.func20, Tryz.ntmps20
  go_upto_region 1 with fail
  rw [← hW0, HBB.out]
  clear hW0
  go_wp2_with fail
  refine (show Calls _ _ _ _ _ from HDG.out).mono ?_
  rintro e w1 ⟨rfl, hb1⟩
  have HB1 : Hid (Below w.heap.size w w1) := HB0.out.trans (hb1.mono HB0.out.size)
  clear hb1 z0 z1 z2 z3 zf
  go_wp2
  rw [HV.out]
  go_returns
  exact ⟨rfl, HB1.out⟩
set_option maxRecDepth 20000 in
set_option maxHeartbeats 4000000 in
theorem redoc_bulk (m c : Nat) (P : Option Addr) (n D p : Int) (s : ByteArray) (w : World) (hs : s.size ≤ 1073741824) :
    Calls Tryz.prog 20 #[.agg #[.int .i64 4, .string s, .int .i64 n, .slice P m c], .int .i64 p, .int .i64 D] w fun e w' => EncIs (some (36 :: (Lib.itoa (s.size : Int) ++ [13, 10] ++ (s.data.toList ++ [13, 10])))) w w' e := by
  obtain ⟨W0, hW0⟩ : ∃ W, W = w.alloc (.cells #[.int .i64 4, .string s, .int .i64 n, .slice P m c] 24) := ⟨_, rfl⟩
  have hb0 : Below w.heap.size w W0 := by rw [hW0]; exact (Below.refl _ _).alloc (Nat.le_refl _) _
  obtain ⟨b, hbb⟩ : ∃ b, w.heap.size = b := ⟨_, rfl⟩
  have hr1 : W0.heap[b]? = some (.cells #[.int .i64 4, .string s, .int .i64 n, .slice P m c] 24) := by rw [hW0, ← hbb]; exact one_alloc _ _
  obtain ⟨z0, z1, z2, z3, zf⟩ := prow4 hr1
  have HB0 : Hid (Below w.heap.size w W0) := hb0
  have HBB : Hid (w.heap.size = b) := hbb
  have HR1 : Hid (W0.heap[b]? = some (.cells #[.int .i64 4, .string s, .int .i64 n, .slice P m c] 24)) := hr1
  have hIs := itoaB_len (s.size : Int) (by omega) (by omega)
  obtain ⟨I, hI⟩ : ∃ I, itoaB (s.size : Int) = I := ⟨_, rfl⟩
  have HDG : Hid (∀ W, Calls Tryz.prog 31 #[.int .i64 (s.size : Int)] W fun e w' => e = .returned (.string I) ∧ Below W.heap.size W w') := fun W => hI ▸ refDigits_any (s.size : Int) (by omega) (by omega) W
  have HV : Hid ((⟨#[36]⟩ : ByteArray) ++ I ++ ⟨#[13, 10]⟩ ++ s ++ ⟨#[13, 10]⟩ = strB (36 :: (Lib.itoa (s.size : Int) ++ [13, 10] ++ (s.data.toList ++ [13, 10])))) := as_strB (by rw [cat2, cat2, cat2, cat2, ← hI, itoaB_list]; simp)
  rw [hI] at hIs
  clear hI
  have HBD : Hid (Below W0.heap.size W0 W0.drew) := below_dn (Below.refl _ _) 1
  have HCD : Hid _ := HDG.out W0.drew
  clear hb0 hbb hr1
  go_enter Tryz.func20, Tryz.ntmps20
  go_upto_region 1 with fail
  rw [← hW0, HBB.out]
  clear hW0
  go_upto_region 10 with fail
  go_region_with (go_at_call 31; refine (show Calls _ _ _ _ _ from HCD.out).mono ?_; rintro e w1 ⟨rfl, hb1⟩; have HB1 : Hid (Below W0.heap.size W0 w1) := HBD.out.trans (hb1.mono HBD.out.size); obtain ⟨y0, y1, y2, y3, yf⟩ := prow4 (keep_row HR1.out HB1.out); clear hb1)
  all_goals
    go_wp2
    rw [HV.out]
    go_returns
    exact ⟨rfl, HB0.out.trans (HB1.out.mono HB0.out.size)⟩
end Go.Proofs.YtgiicfgekicfcaaGreatDoor
namespace Go.Proofs.YtgiicfgekicfcaaGreatDoor
open Go.RowKit Vi
set_option linter.unusedVariables false
set_option linter.unusedSimpArgs false
theorem onel_step (s : ByteArray) (i : Nat) (h : i < s.size) : onel (s.data.toList.take (i + 1)) = onel (s.data.toList.take i) ++ [if s[i] = 13 ∨ s[i] = 10 then 32 else s[i]] := by
  have hl : i < s.data.toList.length := by rw [list_len]; exact h
  unfold onel
  rw [List.take_add_one, List.getElem?_eq_getElem hl, List.map_append]
  rfl
set_option maxRecDepth 20000 in
set_option maxHeartbeats 4000000 in
/-- the document's plain. -/
theorem rplain_any (s : ByteArray) (hs : s.size ≤ 1073741824) (w : World) :
    Calls Tryz.prog 30 #[.string s] w fun e w' => e = .returned (.string (strB (onel s.data.toList))) ∧ Below w.heap.size w w' := by
  obtain ⟨i5, hi5, hz5, hz6, hz7⟩ := info_parts info5
  go_enter Tryz.func30, Tryz.ntmps30
  go_wp2
  go_loopw [3, 4] (fun cv ci wr => ∃ (i : Nat) (P : Option Addr) (c : Nat), (i ≤ s.size ∧ wr.ownsRow w.heap.size 5 1 (.slice P i c) i (bcells (onel (s.data.toList.take i))) ∧ Below w.heap.size w wr) ∧ cv = .slice P i c ∧ ci = .int .i64 (i : Int)) (fun _ ci _ => s.size - (intOf ci).toNat)
  case atStart => exact ⟨0, none, 0, ⟨Nat.zero_le _, ⟨rfl, Or.inl ⟨rfl, rfl⟩⟩, Below.refl _ _⟩, rfl, rfl⟩
  case round =>
    obtain ⟨i, P, c, ⟨hi, hown, hbw⟩, rfl, rfl⟩ := hrel
    have HOW : Hid (wr.ownsRow w.heap.size 5 1 (.slice P i c) i (bcells (onel (s.data.toList.take i)))) := hown
    have HBW : Hid (Below w.heap.size w wr) := hbw
    clear hown hbw
    by_cases hlt : i < s.size
    · have hz0 : (0 : Int) ≤ (i : Int) := by omega
      have hz1 : (i : Int) < (s.size : Int) := by omega
      have HST : Hid _ := onel_step s i hlt
      by_cases h13 : s[i] = 13
      case pos =>
        have hq : ((s[i].toNat : Int) == 13) = true := by rw [h13]; rfl
        have HST2 : Hid (onel (s.data.toList.take (i + 1)) = onel (s.data.toList.take i) ++ [32]) := by show _ = _; rw [HST.out, if_pos (Or.inl h13)]
        have hb1 : Below wr.heap.size wr (wr.alloc (.cells #[.int .u8 32] 5)) := (Below.refl _ _).alloc (Nat.le_refl _) _
        have HO1 : Hid ((wr.alloc (.cells #[.int .u8 32] 5)).ownsRow w.heap.size 5 1 (.slice P i c) i (bcells (onel (s.data.toList.take i)))) := own_on HOW.out hb1
        have HB1 : Hid (Below w.heap.size w (wr.alloc (.cells #[.int .u8 32] 5))) := HBW.out.trans (hb1.mono HBW.out.size)
        have HNC : Hid (∀ a u, [Value.int .u8 32][a]? = some u → (wr.alloc (.cells #[.int .u8 32] 5)).cell? ((⟨wr.heap.size, 0, none⟩ : Addr).add a) = some u) := fun a u ha => by
          match a, ha with
          | 0, ha => simp at ha; subst ha; rw [Addr.add_lit]; exact (row1 (one_alloc wr (.cells #[.int .u8 32] 5))).1
        clear hb1
        go_upto_region 8 with fail
        go_wp2_with (at_builtin; go_must (refine wpList_append_own _ rfl _ _ 49 rfl w.heap.size 5 i5 (.int .u8 0) 1 1 Tryz.underlying49 hi5 hz5 hz6 hz7 rfl (by decide) (.slice P i c) i (bcells (onel (s.data.toList.take i))) rfl HO1.out ⟨wr.heap.size, 0, none⟩ 1 1 [.int .u8 32] rfl rfl HNC.out ?t1 ?t2 ?t3 ?t4 ?_))
        case t1 => intro u hu; simp at hu; subst hu; rfl
        case t2 => unfold maxLen; omega
        case t3 => omega
        case t4 => exact HB1.out.size
        intro v9 w9 ho9 hg9 hn9
        obtain ⟨P9, k9, hf9⟩ := own_form ho9
        subst hf9
        have HO9 : Hid (w9.ownsRow w.heap.size 5 1 (.slice P9 (i + 1) k9) (i + 1) (bcells (onel (s.data.toList.take (i + 1))))) := by show World.ownsRow _ _ _ _ _ _ _; rw [HST2.out, bcells_snoc]; exact ho9
        have HB9 : Hid (Below w.heap.size w w9) := HB1.out.grown hg9 HB1.out.size (fun b hb => own_block HO1.out b hb)
        clear ho9 hg9 hn9
        go_wp2
        go_roundw
        case rel => exact ⟨i + 1, P9, k9, ⟨hlt, HO9.out, HB9.out⟩, rfl, rfl⟩
        case measure => simp [intOf]; omega
      by_cases h10 : s[i] = 10
      case pos =>
        have hq : ((s[i].toNat : Int) == 13) = false := by rw [h10]; rfl
        have hq2 : ((s[i].toNat : Int) == 10) = true := by rw [h10]; rfl
        have HST2 : Hid (onel (s.data.toList.take (i + 1)) = onel (s.data.toList.take i) ++ [32]) := by show _ = _; rw [HST.out, if_pos (Or.inr h10)]
        have hb1 : Below wr.heap.size wr (wr.alloc (.cells #[.int .u8 32] 5)) := (Below.refl _ _).alloc (Nat.le_refl _) _
        have HO1 : Hid ((wr.alloc (.cells #[.int .u8 32] 5)).ownsRow w.heap.size 5 1 (.slice P i c) i (bcells (onel (s.data.toList.take i)))) := own_on HOW.out hb1
        have HB1 : Hid (Below w.heap.size w (wr.alloc (.cells #[.int .u8 32] 5))) := HBW.out.trans (hb1.mono HBW.out.size)
        have HNC : Hid (∀ a u, [Value.int .u8 32][a]? = some u → (wr.alloc (.cells #[.int .u8 32] 5)).cell? ((⟨wr.heap.size, 0, none⟩ : Addr).add a) = some u) := fun a u ha => by
          match a, ha with
          | 0, ha => simp at ha; subst ha; rw [Addr.add_lit]; exact (row1 (one_alloc wr (.cells #[.int .u8 32] 5))).1
        clear hb1
        go_upto_region 8 with fail
        go_wp2_with (at_builtin; go_must (refine wpList_append_own _ rfl _ _ 49 rfl w.heap.size 5 i5 (.int .u8 0) 1 1 Tryz.underlying49 hi5 hz5 hz6 hz7 rfl (by decide) (.slice P i c) i (bcells (onel (s.data.toList.take i))) rfl HO1.out ⟨wr.heap.size, 0, none⟩ 1 1 [.int .u8 32] rfl rfl HNC.out ?t1 ?t2 ?t3 ?t4 ?_))
        case t1 => intro u hu; simp at hu; subst hu; rfl
        case t2 => unfold maxLen; omega
        case t3 => omega
        case t4 => exact HB1.out.size
        intro v9 w9 ho9 hg9 hn9
        obtain ⟨P9, k9, hf9⟩ := own_form ho9
        subst hf9
        have HO9 : Hid (w9.ownsRow w.heap.size 5 1 (.slice P9 (i + 1) k9) (i + 1) (bcells (onel (s.data.toList.take (i + 1))))) := by show World.ownsRow _ _ _ _ _ _ _; rw [HST2.out, bcells_snoc]; exact ho9
        have HB9 : Hid (Below w.heap.size w w9) := HB1.out.grown hg9 HB1.out.size (fun b hb => own_block HO1.out b hb)
        clear ho9 hg9 hn9
        go_wp2
        go_roundw
        case rel => exact ⟨i + 1, P9, k9, ⟨hlt, HO9.out, HB9.out⟩, rfl, rfl⟩
        case measure => simp [intOf]; omega
      have hn13 : s[i].toNat ≠ 13 := fun e => h13 (UInt8.toNat_inj.1 (by rw [e]; rfl))
      have hn10 : s[i].toNat ≠ 10 := fun e => h10 (UInt8.toNat_inj.1 (by rw [e]; rfl))
      have hq : ((s[i].toNat : Int) == 13) = false := by simp; omega
      have hq2 : ((s[i].toNat : Int) == 10) = false := by simp; omega
      have HST2 : Hid (onel (s.data.toList.take (i + 1)) = onel (s.data.toList.take i) ++ [s[i]]) := by show _ = _; rw [HST.out, if_neg (by rintro (e | e); exact h13 e; exact h10 e)]
      have hb1 : Below wr.heap.size wr (wr.alloc (.cells #[.int .u8 (s[i].toNat : Int)] 5)) := (Below.refl _ _).alloc (Nat.le_refl _) _
      have HO1 : Hid ((wr.alloc (.cells #[.int .u8 (s[i].toNat : Int)] 5)).ownsRow w.heap.size 5 1 (.slice P i c) i (bcells (onel (s.data.toList.take i)))) := own_on HOW.out hb1
      have HB1 : Hid (Below w.heap.size w (wr.alloc (.cells #[.int .u8 (s[i].toNat : Int)] 5))) := HBW.out.trans (hb1.mono HBW.out.size)
      have HNC : Hid (∀ a u, [Value.int .u8 (s[i].toNat : Int)][a]? = some u → (wr.alloc (.cells #[.int .u8 (s[i].toNat : Int)] 5)).cell? ((⟨wr.heap.size, 0, none⟩ : Addr).add a) = some u) := fun a u ha => by
        match a, ha with
        | 0, ha => simp at ha; subst ha; rw [Addr.add_lit]; exact (row1 (one_alloc wr (.cells #[.int .u8 (s[i].toNat : Int)] 5))).1
      clear hb1
      go_upto_region 8 with fail
      go_wp2_with (at_builtin; go_must (refine wpList_append_own _ rfl _ _ 49 rfl w.heap.size 5 i5 (.int .u8 0) 1 1 Tryz.underlying49 hi5 hz5 hz6 hz7 rfl (by decide) (.slice P i c) i (bcells (onel (s.data.toList.take i))) rfl HO1.out ⟨wr.heap.size, 0, none⟩ 1 1 [.int .u8 (s[i].toNat : Int)] rfl rfl HNC.out ?t1 ?t2 ?t3 ?t4 ?_))
      case t1 => intro u hu; simp at hu; subst hu; rfl
      case t2 => unfold maxLen; omega
      case t3 => omega
      case t4 => exact HB1.out.size
      intro v9 w9 ho9 hg9 hn9
      obtain ⟨P9, k9, hf9⟩ := own_form ho9
      subst hf9
      have HO9 : Hid (w9.ownsRow w.heap.size 5 1 (.slice P9 (i + 1) k9) (i + 1) (bcells (onel (s.data.toList.take (i + 1))))) := by show World.ownsRow _ _ _ _ _ _ _; rw [HST2.out, bcells_snoc]; exact ho9
      have HB9 : Hid (Below w.heap.size w w9) := HB1.out.grown hg9 HB1.out.size (fun b hb => own_block HO1.out b hb)
      clear ho9 hg9 hn9
      go_wp2
      go_roundw
      case rel => exact ⟨i + 1, P9, k9, ⟨hlt, HO9.out, HB9.out⟩, rfl, rfl⟩
      case measure => simp [intOf]; omega
    · have hin : i = s.size := by omega
      subst hin
      have hcv : Sem.run Tryz.prog (convert 49 9 (.slice P s.size c)) wr = .ok (.string (strB (onel s.data.toList))) wr := by
        have h9 := conv_pre HOW.out (Nat.le_refl _)
        have e1 : s.data.toList.take s.size = s.data.toList := List.take_of_length_le (by rw [list_len]; exact Nat.le_refl _)
        rw [e1, List.take_of_length_le (by rw [onel_len, list_len]; exact Nat.le_refl _)] at h9
        exact h9
      go_wp2
      go_returns
      exact ⟨rfl, HBW.out⟩
end Go.Proofs.YtgiicfgekicfcaaGreatDoor
namespace Go.Proofs.YtgiicfgekicfcaaGreatDoor
open Go.RowKit Vi
set_option linter.unusedVariables false
set_option linter.unusedSimpArgs false
set_option maxRecDepth 20000 in
set_option maxHeartbeats 2000000 in
theorem redoc_stat (m c : Nat) (P : Option Addr) (n D p : Int) (s : ByteArray) (w : World) (hs : s.size ≤ 1073741824) :
    Calls Tryz.prog 20 #[.agg #[.int .i64 1, .string s, .int .i64 n, .slice P m c], .int .i64 p, .int .i64 D] w fun e w' => EncIs (some (43 :: (onel s.data.toList ++ [13, 10]))) w w' e := by
  obtain ⟨W0, hW0⟩ : ∃ W, W = w.alloc (.cells #[.int .i64 1, .string s, .int .i64 n, .slice P m c] 24) := ⟨_, rfl⟩
  have hb0 : Below w.heap.size w W0 := by rw [hW0]; exact (Below.refl _ _).alloc (Nat.le_refl _) _
  obtain ⟨b, hbb⟩ : ∃ b, w.heap.size = b := ⟨_, rfl⟩
  have hr1 : W0.heap[b]? = some (.cells #[.int .i64 1, .string s, .int .i64 n, .slice P m c] 24) := by rw [hW0, ← hbb]; exact one_alloc _ _
  obtain ⟨z0, z1, z2, z3, zf⟩ := prow4 hr1
  have HB0 : Hid (Below w.heap.size w W0) := hb0
  have HBB : Hid (w.heap.size = b) := hbb
  obtain ⟨I, hI⟩ : ∃ I, strB (onel s.data.toList) = I := ⟨_, rfl⟩
  have hIs : I.size ≤ 1073741824 := by rw [← hI, strB_size, onel_len, list_len]; exact hs
  have HDG : Hid (Calls Tryz.prog 30 #[.string s] W0 fun e w' => e = .returned (.string I) ∧ Below W0.heap.size W0 w') := hI ▸ rplain_any s hs W0
  have HV : Hid ((⟨#[43]⟩ : ByteArray) ++ I ++ ⟨#[13, 10]⟩ = strB (43 :: (onel s.data.toList ++ [13, 10]))) := as_strB (by rw [cat2, cat2, ← hI, strB_list]; simp)
  clear hb0 hbb hr1 hI
  go_enter Tryz.func20, Tryz.ntmps20
  go_upto_region 1 with fail
  rw [← hW0, HBB.out]
  clear hW0
  go_wp2_with fail
  refine (show Calls _ _ _ _ _ from HDG.out).mono ?_
  rintro e w1 ⟨rfl, hb1⟩
  have HB1 : Hid (Below w.heap.size w w1) := HB0.out.trans (hb1.mono HB0.out.size)
  clear hb1 z0 z1 z2 z3 zf
  go_wp2
  rw [HV.out]
  go_returns
  exact ⟨rfl, HB1.out⟩
set_option maxRecDepth 20000 in
set_option maxHeartbeats 2000000 in
theorem redoc_erro (m c : Nat) (P : Option Addr) (n D p : Int) (s : ByteArray) (w : World) (hs : s.size ≤ 1073741824) :
    Calls Tryz.prog 20 #[.agg #[.int .i64 2, .string s, .int .i64 n, .slice P m c], .int .i64 p, .int .i64 D] w fun e w' => EncIs (some (45 :: (onel s.data.toList ++ [13, 10]))) w w' e := by
  obtain ⟨W0, hW0⟩ : ∃ W, W = w.alloc (.cells #[.int .i64 2, .string s, .int .i64 n, .slice P m c] 24) := ⟨_, rfl⟩
  have hb0 : Below w.heap.size w W0 := by rw [hW0]; exact (Below.refl _ _).alloc (Nat.le_refl _) _
  obtain ⟨b, hbb⟩ : ∃ b, w.heap.size = b := ⟨_, rfl⟩
  have hr1 : W0.heap[b]? = some (.cells #[.int .i64 2, .string s, .int .i64 n, .slice P m c] 24) := by rw [hW0, ← hbb]; exact one_alloc _ _
  obtain ⟨z0, z1, z2, z3, zf⟩ := prow4 hr1
  have HB0 : Hid (Below w.heap.size w W0) := hb0
  have HBB : Hid (w.heap.size = b) := hbb
  obtain ⟨I, hI⟩ : ∃ I, strB (onel s.data.toList) = I := ⟨_, rfl⟩
  have hIs : I.size ≤ 1073741824 := by rw [← hI, strB_size, onel_len, list_len]; exact hs
  have HDG : Hid (Calls Tryz.prog 30 #[.string s] W0 fun e w' => e = .returned (.string I) ∧ Below W0.heap.size W0 w') := hI ▸ rplain_any s hs W0
  have HV : Hid ((⟨#[45]⟩ : ByteArray) ++ I ++ ⟨#[13, 10]⟩ = strB (45 :: (onel s.data.toList ++ [13, 10]))) := as_strB (by rw [cat2, cat2, ← hI, strB_list]; simp)
  clear hb0 hbb hr1 hI
  go_enter Tryz.func20, Tryz.ntmps20
  go_upto_region 1 with fail
  rw [← hW0, HBB.out]
  clear hW0
  go_wp2_with fail
  refine (show Calls _ _ _ _ _ from HDG.out).mono ?_
  rintro e w1 ⟨rfl, hb1⟩
  have HB1 : Hid (Below w.heap.size w w1) := HB0.out.trans (hb1.mono HB0.out.size)
  clear hb1 z0 z1 z2 z3 zf
  go_wp2
  rw [HV.out]
  go_returns
  exact ⟨rfl, HB1.out⟩
end Go.Proofs.YtgiicfgekicfcaaGreatDoor
