import Derived.Test.YtkhimjdipggmjaaGreatDoorHT
import Derived.Test.YtkhimjdipggmjaaGreatDoorShelf5
import Derived.Test.YtkhimjdipggmjaaGreatDoorHM
namespace Go.Proofs.YtkhimjdipggmjaaGreatDoor
open Go.RowKit Vi
set_option linter.unusedVariables false
set_option linter.unusedSimpArgs false
theorem rep_absent (s : ByteArray) (c : UInt8) (hc : c ≠ 32) (hn : Lib.countByte s.data.toList c = 0) (w : World) :
    Calls Tryz.prog 44 #[.string s, .string ⟨#[c]⟩, .string ⟨#[32]⟩] w fun e w' => e = .returned (.string s) ∧ w' = w := by
  have HC : Hid (∀ W, Calls Tryz.prog 72 #[.string s, .string ⟨#[c]⟩] W fun e w' => e = .returned (.int .i64 0) ∧ w' = W) := fun W => by
    have := Tryz.strings_Count_one s c W
    rw [hn] at this
    exact this
  have hne : ((⟨#[c]⟩ : ByteArray).toList == (⟨#[32]⟩ : ByteArray).toList) = false := str_other (by
    show [c] ≠ [32]
    simpa using hc)
  have hne2 : (c == 32) = false := by simpa using hc
  have HR : Hid (∀ W, Calls Tryz.prog 58 #[.string s, .string ⟨#[c]⟩, .string ⟨#[32]⟩, .int .i64 (-1)] W fun e w' => e = .returned (.string s) ∧ w' = W) := fun W => by
    go_enter Tryz.func58, Tryz.ntmps58
    go_wp2_with fail
    refine (HC.out _).mono ?_
    rintro e w1 ⟨rfl, rfl⟩
    go_wp2
    go_returns
    exact ⟨rfl, rfl⟩
  clear hne hne2 hn
  go_enter Tryz.func44, Tryz.ntmps44
  go_wp2_with fail
  refine (HR.out _).mono ?_
  rintro e w1 ⟨rfl, rfl⟩
  go_wp2
  go_returns
  exact ⟨rfl, rfl⟩
theorem cnt_plain {t : By} (h : ∀ c ∈ t, c ≠ 13 ∧ c ≠ 10) : Lib.countByte t 13 = 0 ∧ Lib.countByte t 10 = 0 :=
  ⟨List.count_eq_zero.2 (fun hm => (h 13 hm).1 rfl), List.count_eq_zero.2 (fun hm => (h 10 hm).2 rfl)⟩
theorem one_plain (s : ByteArray) (h : ∀ c ∈ s.data.toList, c ≠ 13 ∧ c ≠ 10) (w : World) :
    Calls Tryz.prog 25 #[.string s] w fun e w' => e = .returned (.string s) ∧ w' = w := by
  have h1 : Hid (∀ W, Calls Tryz.prog 44 #[.string s, .string ⟨#[13]⟩, .string ⟨#[32]⟩] W fun e w' => e = .returned (.string s) ∧ w' = W) := fun W => rep_absent s 13 (by decide) (cnt_plain h).1 W
  have h2 : Hid (∀ W, Calls Tryz.prog 44 #[.string s, .string ⟨#[10]⟩, .string ⟨#[32]⟩] W fun e w' => e = .returned (.string s) ∧ w' = W) := fun W => rep_absent s 10 (by decide) (cnt_plain h).2 W
  clear h
  go_enter Tryz.func25, Tryz.ntmps25
  go_wp2_with fail
  refine (h1.out _).mono ?_
  rintro e w1 ⟨rfl, rfl⟩
  go_wp2_with fail
  refine (h2.out _).mono ?_
  rintro e w1 ⟨rfl, rfl⟩
  go_wp2
  go_returns
  exact ⟨rfl, rfl⟩
set_option maxRecDepth 20000 in
set_option maxHeartbeats 2000000 in
theorem reply_stat (B b m c : Nat) (P : Option Addr) (p n d : Int) (l : List UInt8) (t : ByteArray) (hpl : ∀ c ∈ t.data.toList, c ≠ 13 ∧ c ≠ 10) (w : World) (h : EnAt B b p l w) (hlen : l.length + t.size ≤ 140737488355100) (hBw : B ≤ w.heap.size) :
    Calls Tryz.prog 14 #[.pointer (some ⟨b, 0, none⟩), .agg #[.int .i64 1, .string t, .int .i64 n, .slice P m c], .int .i64 d] w fun e w' => e = .returned (.bool true) ∧ EnAt B b p (l ++ 43 :: (t.data.toList ++ [13, 10])) w' ∧ BK B b w w' := by
  have HE : Hid (EnAt B b p l w) := h
  obtain ⟨W0, hW0⟩ : ∃ W, W = w.alloc (.cells #[.int .i64 1, .string t, .int .i64 n, .slice P m c] 24) := ⟨_, rfl⟩
  have hb0 : Below w.heap.size w W0 := by rw [hW0]; exact (Below.refl _ _).alloc (Nat.le_refl _) _
  have HB0 : Hid (Below w.heap.size w W0) := hb0
  obtain ⟨r4, hr4⟩ : ∃ r, w.heap.size = r := ⟨_, rfl⟩
  have hrow0 : W0.heap[r4]? = some (.cells #[.int .i64 1, .string t, .int .i64 n, .slice P m c] 24) := by rw [hW0, ← hr4]; exact one_alloc _ _
  have HROW : Hid _ := hrow0
  have HR4 : Hid (w.heap.size = r4) := hr4
  have hrb : r4 ≠ b := by have := h.lt; omega
  obtain ⟨z0, z1, z2, z3, zf⟩ := prow4 hrow0
  have HOL : Hid (∀ W, Calls Tryz.prog 25 #[.string t] W fun e w' => e = .returned (.string t) ∧ w' = W) := fun W => one_plain t hpl W
  obtain ⟨W1, hW1⟩ : ∃ W, W = W0.alloc (.cells #[.string ⟨#[43]⟩, .string t] 9) := ⟨_, rfl⟩
  have hb2 : Below w.heap.size w W1 := by rw [hW1]; exact hb0.alloc hb0.size _
  have hr1 : W1.heap[W0.heap.size]? = some (.cells (strA [⟨#[43]⟩, t]) 9) := by rw [hW1]; exact one_alloc _ _
  have HLN : Hid _ := line_out B b W0.heap.size 2 p l [⟨#[43]⟩, t] (by simp) W1 (HE.out.on hb2) (by simp only [catL, List.flatMap_cons, List.flatMap_nil, List.length_append, list_len]; simp; omega) (Nat.le_trans hBw hb2.size) hr1
  have HB2 : Hid (BK B b w W1) := BK.of hb2 hBw
  clear h hb0 hb2 hr1 hpl hr4 hrow0
  go_enter Tryz.func14, Tryz.ntmps14
  go_wp2_with fail
  rw [← hW0, HR4.out]
  clear hW0
  refine (HOL.out _).mono ?_
  rintro e w1 ⟨rfl, hw1⟩
  have hw1 := hw1.symm
  subst hw1
  go_wp2_with fail
  rw [← hW1]
  clear hW1
  refine (show Calls _ _ _ _ _ from HLN.out).mono ?_
  rintro e w2 ⟨rfl, he2, hbk2⟩
  have HE2 : Hid _ := he2
  have HBK2 : Hid _ := HB2.out.trans hbk2
  clear he2 hbk2 z0 z1 z2 z3 zf
  go_wp2
  go_returns
  refine ⟨rfl, ?_, HBK2.out⟩
  have e1 : l ++ catL [⟨#[43]⟩, t] ++ [13, 10] = l ++ 43 :: (t.data.toList ++ [13, 10]) := by simp [catL]
  rw [← e1]; exact HE2.out
set_option maxRecDepth 20000 in
set_option maxHeartbeats 2000000 in
theorem reply_erro (B b m c : Nat) (P : Option Addr) (p n d : Int) (l : List UInt8) (t : ByteArray) (hpl : ∀ c ∈ t.data.toList, c ≠ 13 ∧ c ≠ 10) (w : World) (h : EnAt B b p l w) (hlen : l.length + t.size ≤ 140737488355100) (hBw : B ≤ w.heap.size) :
    Calls Tryz.prog 14 #[.pointer (some ⟨b, 0, none⟩), .agg #[.int .i64 2, .string t, .int .i64 n, .slice P m c], .int .i64 d] w fun e w' => e = .returned (.bool true) ∧ EnAt B b p (l ++ 45 :: (t.data.toList ++ [13, 10])) w' ∧ BK B b w w' := by
  have HE : Hid (EnAt B b p l w) := h
  obtain ⟨W0, hW0⟩ : ∃ W, W = w.alloc (.cells #[.int .i64 2, .string t, .int .i64 n, .slice P m c] 24) := ⟨_, rfl⟩
  have hb0 : Below w.heap.size w W0 := by rw [hW0]; exact (Below.refl _ _).alloc (Nat.le_refl _) _
  have HB0 : Hid (Below w.heap.size w W0) := hb0
  obtain ⟨r4, hr4⟩ : ∃ r, w.heap.size = r := ⟨_, rfl⟩
  have hrow0 : W0.heap[r4]? = some (.cells #[.int .i64 2, .string t, .int .i64 n, .slice P m c] 24) := by rw [hW0, ← hr4]; exact one_alloc _ _
  have HROW : Hid _ := hrow0
  have HR4 : Hid (w.heap.size = r4) := hr4
  have hrb : r4 ≠ b := by have := h.lt; omega
  obtain ⟨z0, z1, z2, z3, zf⟩ := prow4 hrow0
  have HOL : Hid (∀ W, Calls Tryz.prog 25 #[.string t] W fun e w' => e = .returned (.string t) ∧ w' = W) := fun W => one_plain t hpl W
  obtain ⟨W1, hW1⟩ : ∃ W, W = W0.alloc (.cells #[.string ⟨#[45]⟩, .string t] 9) := ⟨_, rfl⟩
  have hb2 : Below w.heap.size w W1 := by rw [hW1]; exact hb0.alloc hb0.size _
  have hr1 : W1.heap[W0.heap.size]? = some (.cells (strA [⟨#[45]⟩, t]) 9) := by rw [hW1]; exact one_alloc _ _
  have HLN : Hid _ := line_out B b W0.heap.size 2 p l [⟨#[45]⟩, t] (by simp) W1 (HE.out.on hb2) (by simp only [catL, List.flatMap_cons, List.flatMap_nil, List.length_append, list_len]; simp; omega) (Nat.le_trans hBw hb2.size) hr1
  have HB2 : Hid (BK B b w W1) := BK.of hb2 hBw
  clear h hb0 hb2 hr1 hpl hr4 hrow0
  go_enter Tryz.func14, Tryz.ntmps14
  go_wp2_with fail
  rw [← hW0, HR4.out]
  clear hW0
  refine (HOL.out _).mono ?_
  rintro e w1 ⟨rfl, hw1⟩
  have hw1 := hw1.symm
  subst hw1
  go_wp2_with fail
  rw [← hW1]
  clear hW1
  refine (show Calls _ _ _ _ _ from HLN.out).mono ?_
  rintro e w2 ⟨rfl, he2, hbk2⟩
  have HE2 : Hid _ := he2
  have HBK2 : Hid _ := HB2.out.trans hbk2
  clear he2 hbk2 z0 z1 z2 z3 zf
  go_wp2
  go_returns
  refine ⟨rfl, ?_, HBK2.out⟩
  have e1 : l ++ catL [⟨#[45]⟩, t] ++ [13, 10] = l ++ 45 :: (t.data.toList ++ [13, 10]) := by simp [catL]
  rw [← e1]; exact HE2.out
def nulsB (p : Int) : List UInt8 := if p = 2 then [42, 45, 49] else [95]
set_option maxRecDepth 20000 in
set_option maxHeartbeats 2000000 in
theorem reply_nulls (B b m c : Nat) (P : Option Addr) (p n d : Int) (l : List UInt8) (t : ByteArray) (w : World) (h : EnAt B b p l w) (hlen : l.length ≤ 140737488355100) (hBw : B ≤ w.heap.size) :
    Calls Tryz.prog 14 #[.pointer (some ⟨b, 0, none⟩), .agg #[.int .i64 9, .string t, .int .i64 n, .slice P m c], .int .i64 d] w fun e w' => e = .returned (.bool true) ∧ EnAt B b p (l ++ (nulsB p ++ [13, 10])) w' ∧ BK B b w w' := by
  have HE : Hid (EnAt B b p l w) := h
  obtain ⟨W0, hW0⟩ : ∃ W, W = w.alloc (.cells #[.int .i64 9, .string t, .int .i64 n, .slice P m c] 24) := ⟨_, rfl⟩
  have hb0 : Below w.heap.size w W0 := by rw [hW0]; exact (Below.refl _ _).alloc (Nat.le_refl _) _
  have HDG : Hid _ := either_any B b p l ⟨#[42, 45, 49]⟩ ⟨#[95]⟩ W0 (h.on hb0)
  obtain ⟨x, hx⟩ : ∃ x : ByteArray, (if p = 2 then ⟨#[42, 45, 49]⟩ else ⟨#[95]⟩) = x := ⟨_, rfl⟩
  have hxs : x.size ≤ 3 := by rw [← hx]; split <;> decide
  have HX : Hid (x.data.toList = nulsB p) := by show _ = _; unfold nulsB; rw [← hx]; split <;> rfl
  rw [hx] at HDG
  obtain ⟨W1, hW1⟩ : ∃ W, W = W0.alloc (.cells #[.string x] 9) := ⟨_, rfl⟩
  have hb2 : Below w.heap.size w W1 := by rw [hW1]; exact hb0.alloc hb0.size _
  have hr1 : W1.heap[W0.heap.size]? = some (.cells (strA [x]) 9) := by rw [hW1]; exact one_alloc _ _
  have HLN : Hid _ := line_out B b W0.heap.size 1 p l [x] (by simp) W1 (HE.out.on hb2) (by simp only [catL, List.flatMap_cons, List.flatMap_nil, List.length_append, list_len]; simp; omega) (Nat.le_trans hBw hb2.size) hr1
  have HB2 : Hid (BK B b w W1) := BK.of hb2 hBw
  clear h hb0 hb2 hr1 hx
  go_enter Tryz.func14, Tryz.ntmps14
  go_wp2_with fail
  rw [← hW0]
  clear hW0
  refine (show Calls _ _ _ _ _ from HDG.out).mono ?_
  rintro e w1 ⟨rfl, he1⟩
  subst he1
  go_wp2_with fail
  rw [← hW1]
  refine (show Calls _ _ _ _ _ from HLN.out).mono ?_
  rintro e w2 ⟨rfl, he2, hbk2⟩
  have HE2 : Hid _ := he2
  have HBK2 : Hid _ := HB2.out.trans hbk2
  clear he2 hbk2 hW1
  go_wp2
  go_returns
  refine ⟨rfl, ?_, HBK2.out⟩
  have := HE2.out
  have e1 : l ++ catL [x] ++ [13, 10] = l ++ (nulsB p ++ [13, 10]) := by rw [← HX.out]; simp [catL]
  rw [← e1]; exact this
/-- a truth's bytes. -/
def boolB (p : Int) (y : Bool) : List UInt8 := if y then (if p = 2 then [58, 49] else [35, 116]) else (if p = 2 then [58, 48] else [35, 102])
set_option maxRecDepth 20000 in
set_option maxHeartbeats 2000000 in
theorem ebool_true (B b : Nat) (p : Int) (l : List UInt8) (w : World) (h : EnAt B b p l w) (hlen : l.length ≤ 140737488355100) (hBw : B ≤ w.heap.size) :
    Calls Tryz.prog 28 #[.pointer (some ⟨b, 0, none⟩), .bool true] w fun e w' => e = .returned (.tuple #[]) ∧ EnAt B b p (l ++ (boolB p true ++ [13, 10])) w' ∧ BK B b w w' := by
  have HE : Hid (EnAt B b p l w) := h
  have HDG : Hid _ := either_any B b p l ⟨#[58, 49]⟩ ⟨#[35, 116]⟩ w h
  obtain ⟨x, hx⟩ : ∃ x : ByteArray, (if p = 2 then ⟨#[58, 49]⟩ else ⟨#[35, 116]⟩) = x := ⟨_, rfl⟩
  have hxs : x.size ≤ 3 := by rw [← hx]; split <;> decide
  have HX : Hid (x.data.toList = boolB p true) := by show _ = if p = 2 then _ else _; rw [← hx]; split <;> rfl
  rw [hx] at HDG
  obtain ⟨W1, hW1⟩ : ∃ W, W = w.alloc (.cells #[.string x] 9) := ⟨_, rfl⟩
  have hb2 : Below w.heap.size w W1 := by rw [hW1]; exact (Below.refl _ _).alloc (Nat.le_refl _) _
  have hr1 : W1.heap[w.heap.size]? = some (.cells (strA [x]) 9) := by rw [hW1]; exact one_alloc _ _
  have HLN : Hid _ := line_out B b w.heap.size 1 p l [x] (by simp) W1 (HE.out.on hb2) (by simp only [catL, List.flatMap_cons, List.flatMap_nil, List.length_append, list_len]; simp; omega) (Nat.le_trans hBw hb2.size) hr1
  have HB2 : Hid (BK B b w W1) := BK.of hb2 hBw
  clear h hb2 hr1 hx
  go_enter Tryz.func28, Tryz.ntmps28
  go_wp2_with fail
  refine (show Calls _ _ _ _ _ from HDG.out).mono ?_
  rintro e w1 ⟨rfl, he1⟩
  have he1 := he1.symm
  subst he1
  go_wp2_with fail
  rw [← hW1]
  refine (show Calls _ _ _ _ _ from HLN.out).mono ?_
  rintro e w2 ⟨rfl, he2, hbk2⟩
  have HE2 : Hid _ := he2
  have HBK2 : Hid _ := HB2.out.trans hbk2
  clear he2 hbk2 hW1
  go_wp2
  go_end0
  refine ⟨rfl, ?_, HBK2.out⟩
  have := HE2.out
  have e1 : l ++ catL [x] ++ [13, 10] = l ++ (boolB p true ++ [13, 10]) := by rw [← HX.out]; simp [catL]
  rw [← e1]; exact this
set_option maxRecDepth 20000 in
set_option maxHeartbeats 2000000 in
theorem ebool_false (B b : Nat) (p : Int) (l : List UInt8) (w : World) (h : EnAt B b p l w) (hlen : l.length ≤ 140737488355100) (hBw : B ≤ w.heap.size) :
    Calls Tryz.prog 28 #[.pointer (some ⟨b, 0, none⟩), .bool false] w fun e w' => e = .returned (.tuple #[]) ∧ EnAt B b p (l ++ (boolB p false ++ [13, 10])) w' ∧ BK B b w w' := by
  have HE : Hid (EnAt B b p l w) := h
  have HDG : Hid _ := either_any B b p l ⟨#[58, 48]⟩ ⟨#[35, 102]⟩ w h
  obtain ⟨x, hx⟩ : ∃ x : ByteArray, (if p = 2 then ⟨#[58, 48]⟩ else ⟨#[35, 102]⟩) = x := ⟨_, rfl⟩
  have hxs : x.size ≤ 3 := by rw [← hx]; split <;> decide
  have HX : Hid (x.data.toList = boolB p false) := by show _ = if p = 2 then _ else _; rw [← hx]; split <;> rfl
  rw [hx] at HDG
  obtain ⟨W1, hW1⟩ : ∃ W, W = w.alloc (.cells #[.string x] 9) := ⟨_, rfl⟩
  have hb2 : Below w.heap.size w W1 := by rw [hW1]; exact (Below.refl _ _).alloc (Nat.le_refl _) _
  have hr1 : W1.heap[w.heap.size]? = some (.cells (strA [x]) 9) := by rw [hW1]; exact one_alloc _ _
  have HLN : Hid _ := line_out B b w.heap.size 1 p l [x] (by simp) W1 (HE.out.on hb2) (by simp only [catL, List.flatMap_cons, List.flatMap_nil, List.length_append, list_len]; simp; omega) (Nat.le_trans hBw hb2.size) hr1
  have HB2 : Hid (BK B b w W1) := BK.of hb2 hBw
  clear h hb2 hr1 hx
  go_enter Tryz.func28, Tryz.ntmps28
  go_wp2_with fail
  refine (show Calls _ _ _ _ _ from HDG.out).mono ?_
  rintro e w1 ⟨rfl, he1⟩
  have he1 := he1.symm
  subst he1
  go_wp2_with fail
  rw [← hW1]
  refine (show Calls _ _ _ _ _ from HLN.out).mono ?_
  rintro e w2 ⟨rfl, he2, hbk2⟩
  have HE2 : Hid _ := he2
  have HBK2 : Hid _ := HB2.out.trans hbk2
  clear he2 hbk2 hW1
  go_wp2
  go_end0
  refine ⟨rfl, ?_, HBK2.out⟩
  have := HE2.out
  have e1 : l ++ catL [x] ++ [13, 10] = l ++ (boolB p false ++ [13, 10]) := by rw [← HX.out]; simp [catL]
  rw [← e1]; exact this
set_option maxRecDepth 20000 in
set_option maxHeartbeats 2000000 in
theorem reply_bool (B b m c : Nat) (P : Option Addr) (p n d : Int) (l : List UInt8) (t : ByteArray) (w : World) (h : EnAt B b p l w) (hlen : l.length ≤ 140737488355100) (hBw : B ≤ w.heap.size) :
    Calls Tryz.prog 14 #[.pointer (some ⟨b, 0, none⟩), .agg #[.int .i64 11, .string t, .int .i64 n, .slice P m c], .int .i64 d] w fun e w' => e = .returned (.bool true) ∧ EnAt B b p (l ++ (boolB p (n != 0) ++ [13, 10])) w' ∧ BK B b w w' := by
  have HE : Hid (EnAt B b p l w) := h
  obtain ⟨W0, hW0⟩ : ∃ W, W = w.alloc (.cells #[.int .i64 11, .string t, .int .i64 n, .slice P m c] 24) := ⟨_, rfl⟩
  have hb0 : Below w.heap.size w W0 := by rw [hW0]; exact (Below.refl _ _).alloc (Nat.le_refl _) _
  have HB0 : Hid (Below w.heap.size w W0) := hb0
  obtain ⟨r4, hr4⟩ : ∃ r, w.heap.size = r := ⟨_, rfl⟩
  have hrow0 : W0.heap[r4]? = some (.cells #[.int .i64 11, .string t, .int .i64 n, .slice P m c] 24) := by rw [hW0, ← hr4]; exact one_alloc _ _
  have HROW : Hid _ := hrow0
  have HR4 : Hid (w.heap.size = r4) := hr4
  have hrb : r4 ≠ b := by have := h.lt; omega
  obtain ⟨z0, z1, z2, z3, zf⟩ := prow4 hrow0
  obtain ⟨y, hy⟩ : ∃ y, (n != 0) = y := ⟨_, rfl⟩
  rw [hy]
  have HBO : Hid (Calls Tryz.prog 28 #[.pointer (some ⟨b, 0, none⟩), .bool y] W0 fun e w' => e = .returned (.tuple #[]) ∧ EnAt B b p (l ++ (boolB p y ++ [13, 10])) w' ∧ BK B b W0 w') := by
    cases y
    · exact ebool_false B b p l W0 (h.on hb0) hlen (Nat.le_trans hBw hb0.size)
    · exact ebool_true B b p l W0 (h.on hb0) hlen (Nat.le_trans hBw hb0.size)
  have HB2 : Hid (BK B b w W0) := BK.of hb0 hBw
  clear h hb0 hr4 hrow0
  go_enter Tryz.func14, Tryz.ntmps14
  go_wp2_with fail
  rw [← hW0, HR4.out]
  clear hW0
  refine (show Calls _ _ _ _ _ from HBO.out).mono ?_
  rintro e w2 ⟨rfl, he2, hbk2⟩
  have HE2 : Hid _ := he2
  have HBK2 : Hid _ := HB2.out.trans hbk2
  clear he2 hbk2 z0 z1 z2 z3 zf
  go_wp2
  go_returns
  exact ⟨rfl, HE2.out, HBK2.out⟩
set_option maxRecDepth 20000 in
set_option maxHeartbeats 4000000 in
theorem reply_bulk (B b m c : Nat) (P : Option Addr) (p n d : Int) (l : List UInt8) (t : ByteArray) (w : World) (h : EnAt B b p l w) (hlen : l.length + t.size ≤ 140737488355100) (hBw : B ≤ w.heap.size) (hL : ∀ W, Below B w W → Laid W) :
    Calls Tryz.prog 14 #[.pointer (some ⟨b, 0, none⟩), .agg #[.int .i64 4, .string t, .int .i64 n, .slice P m c], .int .i64 d] w fun e w' => e = .returned (.bool true) ∧ EnAt B b p (l ++ 36 :: (Lib.itoa (t.size : Int) ++ [13, 10] ++ (t.data.toList ++ [13, 10]))) w' ∧ BK B b w w' := by
  have HE : Hid (EnAt B b p l w) := h
  obtain ⟨W0, hW0⟩ : ∃ W, W = w.alloc (.cells #[.int .i64 4, .string t, .int .i64 n, .slice P m c] 24) := ⟨_, rfl⟩
  have hb0 : Below w.heap.size w W0 := by rw [hW0]; exact (Below.refl _ _).alloc (Nat.le_refl _) _
  have HB0 : Hid (Below w.heap.size w W0) := hb0
  obtain ⟨r4, hr4⟩ : ∃ r, w.heap.size = r := ⟨_, rfl⟩
  have hrow0 : W0.heap[r4]? = some (.cells #[.int .i64 4, .string t, .int .i64 n, .slice P m c] 24) := by rw [hW0, ← hr4]; exact one_alloc _ _
  have HROW : Hid _ := hrow0
  have HR4 : Hid (w.heap.size = r4) := hr4
  have hrb : r4 ≠ b := by have := h.lt; omega
  obtain ⟨z0, z1, z2, z3, zf⟩ := prow4 hrow0
  have HDG : Hid _ := digits_any (t.size : Int) (by omega) (by omega) W0 (hL W0 (hb0.mono hBw))
  have hil := Lib.itoa_length_le (t.size : Int) (by omega) (by omega)
  clear h hL hb0 hr4 hrow0
  go_enter Tryz.func14, Tryz.ntmps14
  go_wp2_with fail
  rw [← hW0, HR4.out]
  clear hW0
  refine (show Calls _ _ _ _ _ from HDG.out).mono ?_
  rintro e w1 ⟨rfl, hb1⟩
  obtain ⟨W1, hW1⟩ : ∃ W, W = w1.alloc (.cells #[.string ⟨#[36]⟩, .string (itoaB (t.size : Int))] 9) := ⟨_, rfl⟩
  have hb2 : Below w.heap.size w W1 := by rw [hW1]; exact ((HB0.out.trans (hb1.mono HB0.out.size)).alloc (Nat.le_trans HB0.out.size hb1.size) _)
  have hr1 : W1.heap[w1.heap.size]? = some (.cells (strA [⟨#[36]⟩, itoaB (t.size : Int)]) 9) := by rw [hW1]; exact one_alloc _ _
  have HLN : Hid _ := line_out B b w1.heap.size 2 p l [⟨#[36]⟩, itoaB (t.size : Int)] (by simp) W1 (HE.out.on hb2) (by simp only [catL, List.flatMap_cons, List.flatMap_nil, List.length_append, itoaB_list]; simp; omega) (Nat.le_trans hBw hb2.size) hr1
  have HB2 : Hid (BK B b w W1) := BK.of hb2 hBw
  have HRW : Hid (W1.heap[r4]? = some (.cells #[.int .i64 4, .string t, .int .i64 n, .slice P m c] 24)) := by rw [hW1]; exact keep_row (keep_row HROW.out hb1) ((Below.refl _ _).alloc (Nat.le_refl _) _)
  clear hb1 hb2 hr1 z0 z1 z2 z3 zf
  go_wp2_with fail
  rw [← hW1]
  clear hW1
  refine (show Calls _ _ _ _ _ from HLN.out).mono ?_
  rintro e w2 ⟨rfl, he2, hbk2⟩
  have HE2 : Hid (EnAt B b p (l ++ catL [⟨#[36]⟩, itoaB (t.size : Int)] ++ [13, 10]) w2) := he2
  have HBK2 : Hid (BK B b w w2) := HB2.out.trans hbk2
  have hrw2 := hbk2.kept _ _ _ _ HRW.out hrb (by decide)
  obtain ⟨z0, z1, z2, z3, zf⟩ := prow4 hrw2
  obtain ⟨W3, hW3⟩ : ∃ W, W = w2.alloc (.cells #[.string t] 9) := ⟨_, rfl⟩
  have hb3 : Below w2.heap.size w2 W3 := by rw [hW3]; exact (Below.refl _ _).alloc (Nat.le_refl _) _
  have hr3 : W3.heap[w2.heap.size]? = some (.cells (strA [t]) 9) := by rw [hW3]; exact one_alloc _ _
  have HS3 : Hid (B ≤ W3.heap.size) := Nat.le_trans hBw (Nat.le_trans HBK2.out.size hb3.size)
  have HLN3 : Hid _ := line_out B b w2.heap.size 1 p _ [t] (by simp) W3 (HE2.out.on hb3) (by simp only [catL, List.flatMap_cons, List.flatMap_nil, List.length_append, itoaB_list, list_len]; simp; omega) HS3.out hr3
  have HB3 : Hid (BK B b w W3) := HBK2.out.trans (BK.of hb3 (Nat.le_trans hBw HBK2.out.size))
  clear he2 hbk2 hb3 hr3 hrw2
  go_wp2_with fail
  rw [← hW3]
  clear hW3
  refine (show Calls _ _ _ _ _ from HLN3.out).mono ?_
  rintro e w4 ⟨rfl, he4, hbk4⟩
  have HE4 : Hid _ := he4
  have HBK4 : Hid _ := HB3.out.trans hbk4
  clear he4 hbk4 z0 z1 z2 z3 zf
  go_wp2
  go_returns
  refine ⟨rfl, ?_, HBK4.out⟩
  have e1 : l ++ catL [⟨#[36]⟩, itoaB (t.size : Int)] ++ [13, 10] ++ catL [t] ++ [13, 10] = l ++ 36 :: (Lib.itoa (t.size : Int) ++ [13, 10] ++ (t.data.toList ++ [13, 10])) := by simp [catL, itoaB_list]
  rw [← e1]; exact HE4.out
end Go.Proofs.YtkhimjdipggmjaaGreatDoor
