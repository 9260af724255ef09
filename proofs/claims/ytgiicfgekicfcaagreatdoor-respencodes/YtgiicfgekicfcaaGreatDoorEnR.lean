import Derived.Test.YtgiicfgekicfcaaGreatDoorEnY
namespace Go.Proofs.YtgiicfgekicfcaaGreatDoor
open Go.RowKit Vi
set_option linter.unusedVariables false
set_option linter.unusedSimpArgs false
/-- kinds that are no list's, as the encoder asks them. -/
def NoLeaf (kd : Int) : Prop := (kd == 1) = false ∧ (kd == 2) = false ∧ (kd == 3) = false ∧ (kd == 4) = false ∧ (kd == 0) = false ∧ (kd == 9) = false ∧ (kd == 11) = false ∧ (kd == 10) = false
set_option maxRecDepth 20000 in
set_option maxHeartbeats 4000000 in
theorem xrep_list (B b m c : Nat) (P : Option Addr) (kd n D p : Int) (s : ByteArray) (l : By) (o : Option By) (w : World) (hk : NoLeaf kd) (hBw : B ≤ w.heap.size)
    (hc : ∀ W, Below w.heap.size w W → Calls Tryz.prog 29 #[.pointer (some ⟨b, 0, none⟩), .agg #[.int .i64 kd, .string s, .int .i64 n, .slice P m c], .int .i64 D] W fun e w' => EnO B b p l o W w' e) :
    Calls Tryz.prog 18 #[.pointer (some ⟨b, 0, none⟩), .agg #[.int .i64 kd, .string s, .int .i64 n, .slice P m c], .int .i64 D] w fun e w' => EnO B b p l o w w' e := by
  obtain ⟨k1, k2, k3, k4, k0, k9, k11, k10⟩ := hk
  obtain ⟨W0, hW0⟩ : ∃ W, W = w.alloc (.cells #[.int .i64 kd, .string s, .int .i64 n, .slice P m c] 24) := ⟨_, rfl⟩
  have hb0 : Below w.heap.size w W0 := by rw [hW0]; exact (Below.refl _ _).alloc (Nat.le_refl _) _
  have HCC : Hid (Calls Tryz.prog 29 #[.pointer (some ⟨b, 0, none⟩), .agg #[.int .i64 kd, .string s, .int .i64 n, .slice P m c], .int .i64 D] W0 fun e w' => EnO B b p l o W0 w' e) := hc W0 hb0
  have HB0 : Hid (BK B b w W0) := BK.of hb0 hBw
  clear hc hb0
  cases o with
  | none =>
    go_enter Tryz.func18, Tryz.ntmps18
    go_wp2_with fail
    rw [← hW0]
    clear hW0
    refine (show Calls _ _ _ _ _ from HCC.out).mono ?_
    rintro e w1 ⟨rfl, hbk1⟩
    have HB1 : Hid (BK B b w w1) := HB0.out.trans hbk1
    clear hbk1
    go_wp2
    go_returns
    exact ⟨rfl, HB1.out⟩
  | some a =>
    go_enter Tryz.func18, Tryz.ntmps18
    go_wp2_with fail
    rw [← hW0]
    clear hW0
    refine (show Calls _ _ _ _ _ from HCC.out).mono ?_
    rintro e w1 ⟨rfl, he1, hbk1⟩
    have HE1 : Hid (EnAt B b p (l ++ a) w1) := he1
    have HB1 : Hid (BK B b w w1) := HB0.out.trans hbk1
    clear he1 hbk1
    go_wp2
    go_returns
    exact ⟨rfl, HE1.out, HB1.out⟩
set_option maxRecDepth 20000 in
set_option maxHeartbeats 4000000 in
/-- a kind that is none. -/
theorem xlist_kind (B b m c : Nat) (P : Option Addr) (kd n D p : Int) (s : ByteArray) (l : By) (w : World) (h5 : (kd == 5) = false) (h6 : (kd == 6) = false) (h7 : (kd == 7) = false) (h8 : (kd == 8) = false) (hBw : B ≤ w.heap.size) :
    Calls Tryz.prog 29 #[.pointer (some ⟨b, 0, none⟩), .agg #[.int .i64 kd, .string s, .int .i64 n, .slice P m c], .int .i64 D] w fun e w' => EnO B b p l none w w' e := by
  obtain ⟨W0, hW0⟩ : ∃ W, W = w.alloc (.cells #[.int .i64 kd, .string s, .int .i64 n, .slice P m c] 24) := ⟨_, rfl⟩
  have hb0 : Below w.heap.size w W0 := by rw [hW0]; exact (Below.refl _ _).alloc (Nat.le_refl _) _
  have HB0 : Hid (BK B b w W0) := BK.of hb0 hBw
  clear hb0
  go_enter Tryz.func29, Tryz.ntmps29
  go_wp2
  rw [← hW0]
  clear hW0
  go_returns
  exact ⟨rfl, HB0.out⟩
set_option maxRecDepth 20000 in
set_option maxHeartbeats 4000000 in
/-- a map with a key too many. -/
theorem xlist_odd (B b m c : Nat) (P : Option Addr) (n D p : Int) (s : ByteArray) (l : By) (w : World) (hm : m % 2 ≠ 0) (hmx : m ≤ 1073741824) (hBw : B ≤ w.heap.size) :
    Calls Tryz.prog 29 #[.pointer (some ⟨b, 0, none⟩), .agg #[.int .i64 6, .string s, .int .i64 n, .slice P m c], .int .i64 D] w fun e w' => EnO B b p l none w w' e := by
  obtain ⟨W0, hW0⟩ : ∃ W, W = w.alloc (.cells #[.int .i64 6, .string s, .int .i64 n, .slice P m c] 24) := ⟨_, rfl⟩
  have hb0 : Below w.heap.size w W0 := by rw [hW0]; exact (Below.refl _ _).alloc (Nat.le_refl _) _
  have HB0 : Hid (BK B b w W0) := BK.of hb0 hBw
  have hem : ((m : Int) % 2 != 0) = true := by
    have : (m : Int) % 2 = 1 := by omega
    rw [this]; rfl
  have hem2 : ((m : Int).tmod 2 != 0) = true := by rw [Int.tmod_eq_emod_of_nonneg (by omega)]; exact hem
  clear hb0 hm
  go_enter Tryz.func29, Tryz.ntmps29
  go_wp2
  rw [← hW0]
  clear hW0
  go_returns
  exact ⟨rfl, HB0.out⟩
set_option maxRecDepth 20000 in
set_option maxHeartbeats 4000000 in
theorem xlist_deep5_2 (B b m c : Nat) (P : Option Addr) (n : Int) (s : ByteArray) (l : By) (w : World) (h : EnAt B b 2 l w) (hmx : m ≤ 1073741824) (hBw : B ≤ w.heap.size) :
    Calls Tryz.prog 29 #[.pointer (some ⟨b, 0, none⟩), .agg #[.int .i64 5, .string s, .int .i64 n, .slice P m c], .int .i64 32] w fun e w' => EnO B b 2 l none w w' e := by
  obtain ⟨W0, hW0⟩ : ∃ W, W = w.alloc (.cells #[.int .i64 5, .string s, .int .i64 n, .slice P m c] 24) := ⟨_, rfl⟩
  have hb0 : Below w.heap.size w W0 := by rw [hW0]; exact (Below.refl _ _).alloc (Nat.le_refl _) _
  have HB0 : Hid (BK B b w W0) := BK.of hb0 hBw
  have hrb : w.heap.size ≠ b := by have := h.lt; omega
  have hpw : ∀ o, (w.alloc o).cell? ⟨b, 2, none⟩ = some (.int .i64 2) := fun o => cell_a1 h.proto o
  clear hb0 h
  go_enter Tryz.func29, Tryz.ntmps29
  go_wp2
  rw [← hW0]
  clear hW0
  go_returns
  exact ⟨rfl, HB0.out⟩
set_option maxRecDepth 20000 in
set_option maxHeartbeats 4000000 in
theorem xlist_deep5_3 (B b m c : Nat) (P : Option Addr) (n : Int) (s : ByteArray) (l : By) (w : World) (h : EnAt B b 3 l w) (hmx : m ≤ 1073741824) (hBw : B ≤ w.heap.size) :
    Calls Tryz.prog 29 #[.pointer (some ⟨b, 0, none⟩), .agg #[.int .i64 5, .string s, .int .i64 n, .slice P m c], .int .i64 32] w fun e w' => EnO B b 3 l none w w' e := by
  obtain ⟨W0, hW0⟩ : ∃ W, W = w.alloc (.cells #[.int .i64 5, .string s, .int .i64 n, .slice P m c] 24) := ⟨_, rfl⟩
  have hb0 : Below w.heap.size w W0 := by rw [hW0]; exact (Below.refl _ _).alloc (Nat.le_refl _) _
  have HB0 : Hid (BK B b w W0) := BK.of hb0 hBw
  have hrb : w.heap.size ≠ b := by have := h.lt; omega
  have hpw : ∀ o, (w.alloc o).cell? ⟨b, 2, none⟩ = some (.int .i64 3) := fun o => cell_a1 h.proto o
  clear hb0 h
  go_enter Tryz.func29, Tryz.ntmps29
  go_wp2
  rw [← hW0]
  clear hW0
  go_returns
  exact ⟨rfl, HB0.out⟩
set_option maxRecDepth 20000 in
set_option maxHeartbeats 4000000 in
theorem xlist_deep6_2 (B b m c : Nat) (P : Option Addr) (n : Int) (s : ByteArray) (l : By) (w : World) (h : EnAt B b 2 l w) (hm : m % 2 = 0) (hmx : m ≤ 1073741824) (hBw : B ≤ w.heap.size) :
    Calls Tryz.prog 29 #[.pointer (some ⟨b, 0, none⟩), .agg #[.int .i64 6, .string s, .int .i64 n, .slice P m c], .int .i64 32] w fun e w' => EnO B b 2 l none w w' e := by
  obtain ⟨W0, hW0⟩ : ∃ W, W = w.alloc (.cells #[.int .i64 6, .string s, .int .i64 n, .slice P m c] 24) := ⟨_, rfl⟩
  have hb0 : Below w.heap.size w W0 := by rw [hW0]; exact (Below.refl _ _).alloc (Nat.le_refl _) _
  have HB0 : Hid (BK B b w W0) := BK.of hb0 hBw
  have hrb : w.heap.size ≠ b := by have := h.lt; omega
  have hpw : ∀ o, (w.alloc o).cell? ⟨b, 2, none⟩ = some (.int .i64 2) := fun o => cell_a1 h.proto o
  have hem : ((m : Int) % 2 != 0) = false := by
    have : (m : Int) % 2 = 0 := by omega
    rw [this]; rfl
  have hem2 : ((m : Int).tmod 2 != 0) = false := by rw [Int.tmod_eq_emod_of_nonneg (by omega)]; exact hem
  obtain ⟨cnt, hcnt⟩ : ∃ cnt : Nat, cnt = m / 2 := ⟨_, rfl⟩
  have hdm : (m : Int) / 2 = (cnt : Int) := by omega
  have hdm2 : (m : Int).tdiv 2 = (cnt : Int) := by rw [Int.tdiv_eq_ediv_of_nonneg (by omega)]; exact hdm
  clear hm hcnt
  clear hb0 h
  go_enter Tryz.func29, Tryz.ntmps29
  go_wp2
  rw [← hW0]
  clear hW0
  go_returns
  exact ⟨rfl, HB0.out⟩
set_option maxRecDepth 20000 in
set_option maxHeartbeats 4000000 in
theorem xlist_deep6_3 (B b m c : Nat) (P : Option Addr) (n : Int) (s : ByteArray) (l : By) (w : World) (h : EnAt B b 3 l w) (hm : m % 2 = 0) (hmx : m ≤ 1073741824) (hBw : B ≤ w.heap.size) :
    Calls Tryz.prog 29 #[.pointer (some ⟨b, 0, none⟩), .agg #[.int .i64 6, .string s, .int .i64 n, .slice P m c], .int .i64 32] w fun e w' => EnO B b 3 l none w w' e := by
  obtain ⟨W0, hW0⟩ : ∃ W, W = w.alloc (.cells #[.int .i64 6, .string s, .int .i64 n, .slice P m c] 24) := ⟨_, rfl⟩
  have hb0 : Below w.heap.size w W0 := by rw [hW0]; exact (Below.refl _ _).alloc (Nat.le_refl _) _
  have HB0 : Hid (BK B b w W0) := BK.of hb0 hBw
  have hrb : w.heap.size ≠ b := by have := h.lt; omega
  have hpw : ∀ o, (w.alloc o).cell? ⟨b, 2, none⟩ = some (.int .i64 3) := fun o => cell_a1 h.proto o
  have hem : ((m : Int) % 2 != 0) = false := by
    have : (m : Int) % 2 = 0 := by omega
    rw [this]; rfl
  have hem2 : ((m : Int).tmod 2 != 0) = false := by rw [Int.tmod_eq_emod_of_nonneg (by omega)]; exact hem
  obtain ⟨cnt, hcnt⟩ : ∃ cnt : Nat, cnt = m / 2 := ⟨_, rfl⟩
  have hdm : (m : Int) / 2 = (cnt : Int) := by omega
  have hdm2 : (m : Int).tdiv 2 = (cnt : Int) := by rw [Int.tdiv_eq_ediv_of_nonneg (by omega)]; exact hdm
  clear hm hcnt
  clear hb0 h
  go_enter Tryz.func29, Tryz.ntmps29
  go_wp2
  rw [← hW0]
  clear hW0
  go_returns
  exact ⟨rfl, HB0.out⟩
set_option maxRecDepth 20000 in
set_option maxHeartbeats 4000000 in
theorem xlist_deep7_2 (B b m c : Nat) (P : Option Addr) (n : Int) (s : ByteArray) (l : By) (w : World) (h : EnAt B b 2 l w) (hmx : m ≤ 1073741824) (hBw : B ≤ w.heap.size) :
    Calls Tryz.prog 29 #[.pointer (some ⟨b, 0, none⟩), .agg #[.int .i64 7, .string s, .int .i64 n, .slice P m c], .int .i64 32] w fun e w' => EnO B b 2 l none w w' e := by
  obtain ⟨W0, hW0⟩ : ∃ W, W = w.alloc (.cells #[.int .i64 7, .string s, .int .i64 n, .slice P m c] 24) := ⟨_, rfl⟩
  have hb0 : Below w.heap.size w W0 := by rw [hW0]; exact (Below.refl _ _).alloc (Nat.le_refl _) _
  have HB0 : Hid (BK B b w W0) := BK.of hb0 hBw
  have hrb : w.heap.size ≠ b := by have := h.lt; omega
  have hpw : ∀ o, (w.alloc o).cell? ⟨b, 2, none⟩ = some (.int .i64 2) := fun o => cell_a1 h.proto o
  clear hb0 h
  go_enter Tryz.func29, Tryz.ntmps29
  go_wp2
  rw [← hW0]
  clear hW0
  go_returns
  exact ⟨rfl, HB0.out⟩
set_option maxRecDepth 20000 in
set_option maxHeartbeats 4000000 in
theorem xlist_deep7_3 (B b m c : Nat) (P : Option Addr) (n : Int) (s : ByteArray) (l : By) (w : World) (h : EnAt B b 3 l w) (hmx : m ≤ 1073741824) (hBw : B ≤ w.heap.size) :
    Calls Tryz.prog 29 #[.pointer (some ⟨b, 0, none⟩), .agg #[.int .i64 7, .string s, .int .i64 n, .slice P m c], .int .i64 32] w fun e w' => EnO B b 3 l none w w' e := by
  obtain ⟨W0, hW0⟩ : ∃ W, W = w.alloc (.cells #[.int .i64 7, .string s, .int .i64 n, .slice P m c] 24) := ⟨_, rfl⟩
  have hb0 : Below w.heap.size w W0 := by rw [hW0]; exact (Below.refl _ _).alloc (Nat.le_refl _) _
  have HB0 : Hid (BK B b w W0) := BK.of hb0 hBw
  have hrb : w.heap.size ≠ b := by have := h.lt; omega
  have hpw : ∀ o, (w.alloc o).cell? ⟨b, 2, none⟩ = some (.int .i64 3) := fun o => cell_a1 h.proto o
  clear hb0 h
  go_enter Tryz.func29, Tryz.ntmps29
  go_wp2
  rw [← hW0]
  clear hW0
  go_returns
  exact ⟨rfl, HB0.out⟩
set_option maxRecDepth 20000 in
set_option maxHeartbeats 4000000 in
theorem xlist_deep8_2 (B b m c : Nat) (P : Option Addr) (n : Int) (s : ByteArray) (l : By) (w : World) (h : EnAt B b 2 l w) (hmx : m ≤ 1073741824) (hBw : B ≤ w.heap.size) :
    Calls Tryz.prog 29 #[.pointer (some ⟨b, 0, none⟩), .agg #[.int .i64 8, .string s, .int .i64 n, .slice P m c], .int .i64 32] w fun e w' => EnO B b 2 l none w w' e := by
  obtain ⟨W0, hW0⟩ : ∃ W, W = w.alloc (.cells #[.int .i64 8, .string s, .int .i64 n, .slice P m c] 24) := ⟨_, rfl⟩
  have hb0 : Below w.heap.size w W0 := by rw [hW0]; exact (Below.refl _ _).alloc (Nat.le_refl _) _
  have HB0 : Hid (BK B b w W0) := BK.of hb0 hBw
  have hrb : w.heap.size ≠ b := by have := h.lt; omega
  have hpw : ∀ o, (w.alloc o).cell? ⟨b, 2, none⟩ = some (.int .i64 2) := fun o => cell_a1 h.proto o
  clear hb0 h
  go_enter Tryz.func29, Tryz.ntmps29
  go_wp2
  rw [← hW0]
  clear hW0
  go_returns
  exact ⟨rfl, HB0.out⟩
set_option maxRecDepth 20000 in
set_option maxHeartbeats 4000000 in
theorem xlist_deep8_3 (B b m c : Nat) (P : Option Addr) (n : Int) (s : ByteArray) (l : By) (w : World) (h : EnAt B b 3 l w) (hmx : m ≤ 1073741824) (hBw : B ≤ w.heap.size) :
    Calls Tryz.prog 29 #[.pointer (some ⟨b, 0, none⟩), .agg #[.int .i64 8, .string s, .int .i64 n, .slice P m c], .int .i64 32] w fun e w' => EnO B b 3 l none w w' e := by
  obtain ⟨W0, hW0⟩ : ∃ W, W = w.alloc (.cells #[.int .i64 8, .string s, .int .i64 n, .slice P m c] 24) := ⟨_, rfl⟩
  have hb0 : Below w.heap.size w W0 := by rw [hW0]; exact (Below.refl _ _).alloc (Nat.le_refl _) _
  have HB0 : Hid (BK B b w W0) := BK.of hb0 hBw
  have hrb : w.heap.size ≠ b := by have := h.lt; omega
  have hpw : ∀ o, (w.alloc o).cell? ⟨b, 2, none⟩ = some (.int .i64 3) := fun o => cell_a1 h.proto o
  clear hb0 h
  go_enter Tryz.func29, Tryz.ntmps29
  go_wp2
  rw [← hW0]
  clear hW0
  go_returns
  exact ⟨rfl, HB0.out⟩
set_option maxRecDepth 20000 in
set_option maxHeartbeats 4000000 in
/-- what is none: at the top it has no bytes, in a list it can't be written. -/
theorem xrep_none (B b m c : Nat) (P : Option Addr) (n D p : Int) (s : ByteArray) (l : By) (w : World) (hE : EnAt B b p l w) (hBw : B ≤ w.heap.size) :
    Calls Tryz.prog 18 #[.pointer (some ⟨b, 0, none⟩), .agg #[.int .i64 10, .string s, .int .i64 n, .slice P m c], .int .i64 D] w fun e w' => EnO B b p l (if D = 0 then some [] else none) w w' e := by
  obtain ⟨W0, hW0⟩ : ∃ W, W = w.alloc (.cells #[.int .i64 10, .string s, .int .i64 n, .slice P m c] 24) := ⟨_, rfl⟩
  have hb0 : Below w.heap.size w W0 := by rw [hW0]; exact (Below.refl _ _).alloc (Nat.le_refl _) _
  have HE0 : Hid (EnAt B b p (l ++ []) W0) := by show EnAt _ _ _ _ _; rw [List.append_nil]; exact hE.on hb0
  have HB0 : Hid (BK B b w W0) := BK.of hb0 hBw
  clear hb0 hE
  by_cases hD : D = 0
  · subst hD
    rw [if_pos rfl]
    go_enter Tryz.func18, Tryz.ntmps18
    go_wp2
    rw [← hW0]
    clear hW0
    go_returns
    exact ⟨rfl, HE0.out, HB0.out⟩
  · rw [if_neg hD]
    have hD2 : (D == 0) = false := by simpa using hD
    clear hD
    go_enter Tryz.func18, Tryz.ntmps18
    go_wp2
    rw [← hW0]
    clear hW0
    go_returns
    exact ⟨rfl, HB0.out⟩
end Go.Proofs.YtgiicfgekicfcaaGreatDoor
