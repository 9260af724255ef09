import Derived.Test.YtnfbaeajalnmmaaGreatDoorEnA
import Derived.Test.YtnfbaeajalnmmaaGreatDoorShelf3
import Derived.Lib.ItoaLen
namespace Go.Proofs.YtnfbaeajalnmmaaGreatDoor
open Go.RowKit
set_option linter.unusedVariables false
set_option linter.unusedSimpArgs false
def itoaB (n : Int) : ByteArray := ⟨(Lib.itoa n).toArray⟩
theorem itoaB_list (n : Int) : (itoaB n).data.toList = Lib.itoa n := by unfold itoaB; simp
theorem itoa_any (n : Int) (h0 : -9223372036854775808 ≤ n) (h1 : n ≤ 9223372036854775807) (w : World) (hL : Laid w) :
    Calls Tryz.prog 53 #[.int .i64 n] w fun e w' => e = .returned (.string (itoaB n)) ∧ Below w.heap.size w w' := by
  refine (Tryz.strconv_Itoa n h0 h1 w hL.tab).mono ?_
  rintro e w' ⟨rfl, k, os, rfl⟩
  exact ⟨rfl, below_grow w k os⟩
set_option maxHeartbeats 400000 in
theorem digits_any (n : Int) (h0 : -9223372036854775808 ≤ n) (h1 : n ≤ 9223372036854775807) (w : World) (hL : Laid w) :
    Calls Tryz.prog 29 #[.int .i64 n] w fun e w' => e = .returned (.string (itoaB n)) ∧ Below w.heap.size w w' := by
  have HL : Hid (Laid w) := hL
  clear hL
  go_enter Tryz.func29, Tryz.ntmps29
  go_wp2_with fail
  refine (itoa_any n h0 h1 _ HL.out).mono ?_
  rintro e w1 ⟨rfl, hb1⟩
  go_wp2
  go_ret
  exact ⟨rfl, hb1⟩
/-- texts one behind the other. -/
def catL (xs : List ByteArray) : List UInt8 := xs.flatMap fun x => x.data.toList
theorem catL_snoc (xs : List ByteArray) (i : Nat) (h : i < xs.length) : catL (xs.take (i + 1)) = catL (xs.take i) ++ xs[i].data.toList := by
  unfold catL
  rw [List.take_add_one, List.getElem?_eq_getElem h, List.flatMap_append]; simp
theorem catL_len (xs : List ByteArray) (i : Nat) : (catL (xs.take i)).length ≤ (catL xs).length := by
  have : catL xs = catL (xs.take i) ++ catL (xs.drop i) := by unfold catL; rw [← List.flatMap_append, List.take_append_drop]
  rw [this, List.length_append]; omega
def strA (xs : List ByteArray) : Array Value := (xs.map Value.string).toArray
theorem strA_cell {w : World} {g : Nat} {xs : List ByteArray} (h : w.heap[g]? = some (.cells (strA xs) 9)) (i : Nat) (hi : i < xs.length) : w.cell? ⟨g, i, none⟩ = some (.string xs[i]) := by
  rw [cell_of_row _ _ _ _ _ _ h]
  unfold strA
  simp [hi]
set_option maxRecDepth 20000 in
set_option maxHeartbeats 2000000 in
/-- a line of pieces. -/
theorem line_out (B b g c : Nat) (p : Int) (l : List UInt8) (xs : List ByteArray) (hx : xs.length ≤ 1073741824) (w : World) (h : EnAt B b p l w) (hlen : l.length + (catL xs).length + 2 ≤ 140737488355328) (hBw : B ≤ w.heap.size) (hg : w.heap[g]? = some (.cells (strA xs) 9)) :
    Calls Tryz.prog 27 #[.pointer (some ⟨b, 0, none⟩), .slice (some ⟨g, 0, none⟩) xs.length c] w fun e w' => e = .returned (.tuple #[]) ∧ EnAt B b p (l ++ catL xs ++ [13, 10]) w' ∧ BK B b w w' := by
  have HE : Hid (EnAt B b p l w) := h
  have hgb : g ≠ b := by
    rintro rfl
    obtain ⟨_, f, v, _, hb, _⟩ := h
    rw [hg] at hb
    injection hb with hb
    injection hb with _ h2 _
    exact absurd h2 (by decide)
  have HG : Hid (w.heap[g]? = some (.cells (strA xs) 9)) := hg
  have HGB : Hid (g ≠ b) := hgb
  clear h hg hgb
  obtain ⟨n, hn⟩ : ∃ n, xs.length = n := ⟨_, rfl⟩
  rw [hn] at hx ⊢
  have HN : Hid (xs.length = n) := hn
  clear hn
  go_enter Tryz.func27, Tryz.ntmps27
  go_wp2
  go_loopw [8] (fun ci wr => ∃ i : Nat, (i ≤ n ∧ EnAt B b p (l ++ catL (xs.take i)) wr ∧ BK B b w wr) ∧ ci = .int .i64 (i : Int)) (fun ci _ => n - (intOf ci).toNat)
  case atStart => exact ⟨0, ⟨Nat.zero_le _, by simpa [catL] using HE.out, BK.refl _ _ _⟩, rfl⟩
  case round =>
    obtain ⟨i, ⟨hi, hen, hbk⟩, rfl⟩ := hrel
    have HEN : Hid _ := hen
    have HBK : Hid (BK B b w wr) := hbk
    have hwrs := hbk.size
    have hgr := hbk.kept g _ _ _ HG.out HGB.out (by decide)
    clear hen hbk
    by_cases hlt : i < n
    · have hix : i < xs.length := by rw [HN.out]; exact hlt
      have hcl := strA_cell hgr i hix
      have hz0 : (0 : Int) ≤ (i : Int) := by omega
      have hz1 : (i : Int) < (n : Int) := by omega
      have HSN : Hid _ := catL_snoc xs i hix
      have hll := catL_len xs (i + 1)
      rw [HSN.out, List.length_append, list_len] at hll
      obtain ⟨X, hX⟩ : ∃ X, xs[i] = X := ⟨_, rfl⟩
      rw [hX] at hcl hll HSN
      have HWS : Hid _ := ws_any B b p _ X wr HEN.out (by rw [List.length_append]; omega) (by omega)
      clear hX hll hgr hix
      go_wp2_with fail
      refine (show Calls _ _ _ _ _ from HWS.out).mono ?_
      rintro e w1 ⟨rfl, hen1, hbk1⟩
      have HE1 : Hid _ := hen1
      have HB1 : Hid _ := HBK.out.trans hbk1
      clear hen1 hbk1 hcl
      go_wp2
      go_roundw
      case rel => exact ⟨i + 1, ⟨hlt, by rw [HSN.out, ← List.append_assoc]; exact HE1.out, HB1.out⟩, rfl⟩
      case measure => simp [intOf]; omega
    · have he : i = n := by omega
      subst he
      have e1 : xs.take i = xs := List.take_of_length_le (by rw [HN.out]; exact Nat.le_refl _)
      rw [e1] at HEN
      have HWS : Hid _ := ws_any B b p _ ⟨#[13, 10]⟩ wr HEN.out (by rw [List.length_append]; show _ + 2 ≤ _; omega) (by omega)
      clear e1 hgr
      go_wp2_with fail
      refine (show Calls _ _ _ _ _ from HWS.out).mono ?_
      rintro e w1 ⟨rfl, hen1, hbk1⟩
      have HE1 : Hid _ := hen1
      have HB1 : Hid _ := HBK.out.trans hbk1
      clear hen1 hbk1
      go_wp2
      go_end0
      exact ⟨rfl, HE1.out, HB1.out⟩
/-- the one or the other by the form. -/
theorem either_any (B b : Nat) (p : Int) (l : List UInt8) (x y : ByteArray) (w : World) (h : EnAt B b p l w) :
    Calls Tryz.prog 30 #[.pointer (some ⟨b, 0, none⟩), .string x, .string y] w fun e w' => e = .returned (.string (if p = 2 then x else y)) ∧ w' = w := by
  have c2 := h.proto
  clear h
  by_cases hp : p = 2
  · rw [if_pos hp]
    subst hp
    go_enter Tryz.func30, Tryz.ntmps30
    go_wp2
    go_returns
    exact ⟨rfl, rfl⟩
  · rw [if_neg hp]
    have hpf : (p == 2) = false := by simpa using hp
    go_enter Tryz.func30, Tryz.ntmps30
    go_wp2
    go_returns
    exact ⟨rfl, rfl⟩
end Go.Proofs.YtnfbaeajalnmmaaGreatDoor
namespace Go.Proofs.YtnfbaeajalnmmaaGreatDoor
open Go.RowKit
set_option linter.unusedVariables false
set_option linter.unusedSimpArgs false
theorem bk_alloc {B b : Nat} {w : World} (o : Obj) (hB : B ≤ w.heap.size) : BK B b w (w.alloc o) := BK.of ((Below.refl _ _).alloc (Nat.le_refl _) _) hB
set_option maxRecDepth 20000 in
set_option maxHeartbeats 2000000 in
/-- a number is written. -/
theorem reply_int (B b m c : Nat) (P : Option Addr) (p n d : Int) (l : List UInt8) (t : ByteArray) (h0 : -9223372036854775808 ≤ n) (h1 : n ≤ 9223372036854775807) (w : World) (h : EnAt B b p l w) (hlen : l.length ≤ 140737488355100) (hBw : B ≤ w.heap.size) (hL : ∀ W, Below B w W → Laid W) :
    Calls Tryz.prog 16 #[.pointer (some ⟨b, 0, none⟩), .agg #[.int .i64 3, .string t, .int .i64 n, .slice P m c], .int .i64 d] w fun e w' => e = .returned (.bool true) ∧ EnAt B b p (l ++ ([58] ++ Lib.itoa n ++ [13, 10])) w' ∧ BK B b w w' := by
  have HE : Hid (EnAt B b p l w) := h
  have HL : Hid _ := hL
  obtain ⟨W0, hW0⟩ : ∃ W, W = w.alloc (.cells #[.int .i64 3, .string t, .int .i64 n, .slice P m c] 24) := ⟨_, rfl⟩
  have hb0 : Below w.heap.size w W0 := by rw [hW0]; exact (Below.refl _ _).alloc (Nat.le_refl _) _
  have HB0 : Hid (Below w.heap.size w W0) := hb0
  have HDG : Hid _ := digits_any n h0 h1 W0 (hL W0 (hb0.mono hBw))
  have hil := Lib.itoa_length_le n h0 h1
  clear h hL hb0
  go_enter Tryz.func16, Tryz.ntmps16
  go_wp2_with fail
  rw [← hW0]
  clear hW0
  refine (show Calls _ _ _ _ _ from HDG.out).mono ?_
  rintro e w1 ⟨rfl, hb1⟩
  obtain ⟨W1, hW1⟩ : ∃ W, W = w1.alloc (.cells #[.string ⟨#[58]⟩, .string (itoaB n)] 9) := ⟨_, rfl⟩
  have hb2 : Below w.heap.size w W1 := by rw [hW1]; exact ((HB0.out.trans (hb1.mono HB0.out.size)).alloc (Nat.le_trans HB0.out.size hb1.size) _)
  have hr1 : W1.heap[w1.heap.size]? = some (.cells (strA [⟨#[58]⟩, itoaB n]) 9) := by rw [hW1]; exact one_alloc _ _
  have HLN : Hid _ := line_out B b w1.heap.size 2 p l [⟨#[58]⟩, itoaB n] (by simp) W1 (HE.out.on hb2) (by simp only [catL, List.flatMap_cons, List.flatMap_nil, List.length_append, itoaB_list]; simp; omega) (Nat.le_trans hBw hb2.size) hr1
  have HB2 : Hid (BK B b w W1) := BK.of hb2 hBw
  clear hb1 hb2 hr1
  go_wp2_with fail
  rw [← hW1]
  refine (show Calls _ _ _ _ _ from HLN.out).mono ?_
  rintro e w2 ⟨rfl, he2, hbk2⟩
  have HE2 : Hid _ := he2
  have HBK2 : Hid _ := HB2.out.trans hbk2
  clear he2 hbk2 hW1
  go_wp2
  go_returns
  refine ⟨rfl, ?_, HBK2.out⟩
  have e1 : l ++ catL [⟨#[58]⟩, itoaB n] ++ [13, 10] = l ++ 58 :: (Lib.itoa n ++ [13, 10]) := by simp [catL, itoaB_list]
  rw [← e1]; exact HE2.out
/-- the null's bytes. -/
def nulB (p : Int) : List UInt8 := if p = 2 then [36, 45, 49] else [95]
set_option maxRecDepth 20000 in
set_option maxHeartbeats 2000000 in
/-- the null is written. -/
theorem reply_null (B b m c : Nat) (P : Option Addr) (p n d : Int) (l : List UInt8) (t : ByteArray) (w : World) (h : EnAt B b p l w) (hlen : l.length ≤ 140737488355100) (hBw : B ≤ w.heap.size) :
    Calls Tryz.prog 16 #[.pointer (some ⟨b, 0, none⟩), .agg #[.int .i64 0, .string t, .int .i64 n, .slice P m c], .int .i64 d] w fun e w' => e = .returned (.bool true) ∧ EnAt B b p (l ++ (nulB p ++ [13, 10])) w' ∧ BK B b w w' := by
  have HE : Hid (EnAt B b p l w) := h
  obtain ⟨W0, hW0⟩ : ∃ W, W = w.alloc (.cells #[.int .i64 0, .string t, .int .i64 n, .slice P m c] 24) := ⟨_, rfl⟩
  have hb0 : Below w.heap.size w W0 := by rw [hW0]; exact (Below.refl _ _).alloc (Nat.le_refl _) _
  have HDG : Hid _ := either_any B b p l ⟨#[36, 45, 49]⟩ ⟨#[95]⟩ W0 (h.on hb0)
  obtain ⟨x, hx⟩ : ∃ x : ByteArray, (if p = 2 then ⟨#[36, 45, 49]⟩ else ⟨#[95]⟩) = x := ⟨_, rfl⟩
  have hxs : x.size ≤ 3 := by rw [← hx]; split <;> decide
  have HX : Hid (x.data.toList = nulB p) := by show _ = _; unfold nulB; rw [← hx]; split <;> rfl
  rw [hx] at HDG
  obtain ⟨W1, hW1⟩ : ∃ W, W = W0.alloc (.cells #[.string x] 9) := ⟨_, rfl⟩
  have hb2 : Below w.heap.size w W1 := by rw [hW1]; exact hb0.alloc hb0.size _
  have hr1 : W1.heap[W0.heap.size]? = some (.cells (strA [x]) 9) := by rw [hW1]; exact one_alloc _ _
  have HLN : Hid _ := line_out B b W0.heap.size 1 p l [x] (by simp) W1 (HE.out.on hb2) (by simp only [catL, List.flatMap_cons, List.flatMap_nil, List.length_append, list_len]; simp; omega) (Nat.le_trans hBw hb2.size) hr1
  have HB2 : Hid (BK B b w W1) := BK.of hb2 hBw
  clear h hb0 hb2 hr1 hx
  go_enter Tryz.func16, Tryz.ntmps16
  go_wp2_with fail
  rw [← hW0]
  clear hW0
  refine (show Calls _ _ _ _ _ from HDG.out).mono ?_
  rintro e w1 ⟨rfl, he1⟩
  subst he1
  go_wp2_with fail
  rw [← hW1]
  refine (show Calls _ _ _ _ _ from HLN.out).mono ?_
  rintro e w2 ⟨rfl, he2, hbk2⟩
  have HE2 : Hid _ := he2
  have HBK2 : Hid _ := HB2.out.trans hbk2
  clear he2 hbk2 hW1
  go_wp2
  go_returns
  refine ⟨rfl, ?_, HBK2.out⟩
  have := HE2.out
  have e1 : l ++ catL [x] ++ [13, 10] = l ++ (nulB p ++ [13, 10]) := by rw [← HX.out]; simp [catL]
  rw [← e1]; exact this
end Go.Proofs.YtnfbaeajalnmmaaGreatDoor
namespace Go.Proofs.YtnfbaeajalnmmaaGreatDoor
open Go.RowKit
set_option linter.unusedVariables false
set_option linter.unusedSimpArgs false
/-- the reply of works: its two parts in memory. -/
def wkC : Array Value := #[.int .i64 3, .string ⟨#[]⟩, .int .i64 7, .slice none 0 0, .int .i64 0, .string ⟨#[]⟩, .int .i64 0, .slice none 0 0]
theorem wk_cells {w : World} {g : Nat} (h : w.heap[g]? = some (.cells wkC 24)) : w.cell? ⟨g, 0, none⟩ = some (.int .i64 3) ∧ w.cell? ⟨g, 1, none⟩ = some (.string ⟨#[]⟩) ∧ w.cell? ⟨g, 2, none⟩ = some (.int .i64 7) ∧ w.cell? ⟨g, 3, none⟩ = some (.slice none 0 0) ∧ w.cell? ⟨g, 4, none⟩ = some (.int .i64 0) ∧ w.cell? ⟨g, 5, none⟩ = some (.string ⟨#[]⟩) ∧ w.cell? ⟨g, 6, none⟩ = some (.int .i64 0) ∧ w.cell? ⟨g, 7, none⟩ = some (.slice none 0 0) := by
  refine ⟨?_, ?_, ?_, ?_, ?_, ?_, ?_, ?_⟩ <;> (rw [cell_of_row _ _ _ _ _ _ h]; rfl)
theorem itoa2 : Lib.itoa 2 = [50] := by decide +kernel
theorem itoa7 : Lib.itoa 7 = [55] := by decide +kernel
theorem either_two (B b : Nat) (l : List UInt8) (x y : ByteArray) (w : World) (h : EnAt B b 2 l w) :
    Calls Tryz.prog 30 #[.pointer (some ⟨b, 0, none⟩), .string x, .string y] w fun e w' => e = .returned (.string x) ∧ w' = w := either_any B b 2 l x y w h
set_option maxRecDepth 20000 in
set_option maxHeartbeats 4000000 in
theorem list_wk (B b g : Nat) (w : World) (h : EnAt B b 2 [] w) (hBw : B ≤ w.heap.size) (hg : w.heap[g]? = some (.cells wkC 24)) (hgB : g < B) (hL : ∀ W, Below B w W → Laid W) :
    Calls Tryz.prog 32 #[.pointer (some ⟨b, 0, none⟩), .agg #[.int .i64 5, .string ⟨#[]⟩, .int .i64 0, .slice (some ⟨g, 0, none⟩) 2 2], .int .i64 0] w fun e w' => e = .returned (.bool true) ∧ EnAt B b 2 [42, 50, 13, 10, 58, 55, 13, 10, 36, 45, 49, 13, 10] w' ∧ BK B b w w' := by
  have HE : Hid (EnAt B b 2 [] w) := h
  have HL : Hid _ := hL
  have HG : Hid (w.heap[g]? = some (.cells wkC 24)) := hg
  obtain ⟨W0, hW0⟩ : ∃ W, W = w.alloc (.cells #[.int .i64 5, .string ⟨#[]⟩, .int .i64 0, .slice (some ⟨g, 0, none⟩) 2 2] 24) := ⟨_, rfl⟩
  have hb0 : Below w.heap.size w W0 := by rw [hW0]; exact (Below.refl _ _).alloc (Nat.le_refl _) _
  have HB0 : Hid (Below w.heap.size w W0) := hb0
  have hr0 : W0.heap[w.heap.size]? = some (.cells #[.int .i64 5, .string ⟨#[]⟩, .int .i64 0, .slice (some ⟨g, 0, none⟩) 2 2] 24) := by rw [hW0]; exact one_alloc _ _
  have HR0 : Hid _ := hr0
  have HEI : Hid _ := either_two B b [] ⟨#[42]⟩ ⟨#[42]⟩ W0 (h.on hb0)
  have HDG : Hid _ := digits_any 2 (by decide) (by decide) W0 (hL W0 (hb0.mono hBw))
  clear h hL hb0 hg hr0
  go_enter Tryz.func32, Tryz.ntmps32
  go_wp2_with fail
  rw [← hW0]
  clear hW0
  refine (show Calls _ _ _ _ _ from HEI.out).mono ?_
  rintro e w1 ⟨rfl, he1⟩
  subst he1
  go_wp2_with fail
  refine (show Calls _ _ _ _ _ from HDG.out).mono ?_
  rintro e w2 ⟨rfl, hb2⟩
  obtain ⟨W1, hW1⟩ : ∃ W, W = w2.alloc (.cells #[.string ⟨#[42]⟩, .string (itoaB 2)] 9) := ⟨_, rfl⟩
  have hb3 : Below w.heap.size w W1 := by rw [hW1]; exact ((HB0.out.trans (hb2.mono HB0.out.size)).alloc (Nat.le_trans HB0.out.size hb2.size) _)
  have hr1 : W1.heap[w2.heap.size]? = some (.cells (strA [⟨#[42]⟩, itoaB 2]) 9) := by rw [hW1]; exact one_alloc _ _
  have HLN : Hid _ := line_out B b w2.heap.size 2 2 [] [⟨#[42]⟩, itoaB 2] (by simp) W1 (HE.out.on hb3) (by simp [catL, itoaB_list, itoa2]) (Nat.le_trans hBw hb3.size) hr1
  have HB3 : Hid (BK B b w W1) := BK.of hb3 hBw
  have hrb : W1.heap[w.heap.size]? = some (.cells #[.int .i64 5, .string ⟨#[]⟩, .int .i64 0, .slice (some ⟨g, 0, none⟩) 2 2] 24) := by
    rw [hW1]; exact keep_row (keep_row HR0.out hb2) ((Below.refl _ _).alloc (Nat.le_refl _) _)
  have HRB : Hid _ := hrb
  clear hb2 hb3 hr1 hrb
  go_wp2_with fail
  rw [← hW1]
  clear hW1
  refine (show Calls _ _ _ _ _ from HLN.out).mono ?_
  rintro e w3 ⟨rfl, he3, hbk3⟩
  have HE3 : Hid (EnAt B b 2 [42, 50, 13, 10] w3) := by
    have e1 : [] ++ catL [⟨#[42]⟩, itoaB 2] ++ [13, 10] = ([42, 50, 13, 10] : List UInt8) := by simp [catL, itoaB_list, itoa2]
    rw [e1] at he3; exact he3
  have hbw : BK B b w w3 := HB3.out.trans hbk3
  have hne : w.heap.size ≠ b := by have := HE.out.lt; omega
  have hrw3 := hbk3.kept _ _ _ _ HRB.out hne (by decide)
  have hl3 : w3.cell? ⟨w.heap.size, 3, none⟩ = some (.slice (some ⟨g, 0, none⟩) 2 2) := by rw [cell_of_row _ _ _ _ _ _ hrw3]; rfl
  have hg3 : w3.heap[g]? = some (.cells wkC 24) := by rw [hbw.bel.block g hgB]; exact HG.out
  obtain ⟨y0, y1, y2, y3, y4, y5, y6, y7⟩ := wk_cells hg3
  have HBW : Hid (BK B b w w3) := hbw
  have HG3 : Hid _ := hg3
  clear he3 hbk3 hbw hne hrw3 hg3
  go_wp2_with fail
  go_loopw [47] (fun ci wr => BK B b w wr ∧ ((ci = .int .i64 0 ∧ EnAt B b 2 [42, 50, 13, 10] wr) ∨ (ci = .int .i64 1 ∧ EnAt B b 2 [42, 50, 13, 10, 58, 55, 13, 10] wr) ∨ (ci = .int .i64 2 ∧ EnAt B b 2 [42, 50, 13, 10, 58, 55, 13, 10, 36, 45, 49, 13, 10] wr))) (fun ci _ => 2 - (intOf ci).toNat)
  case atStart => exact ⟨HBW.out, Or.inl ⟨rfl, HE3.out⟩⟩
  case round =>
    obtain ⟨hbw, hcs⟩ := hrel
    have hgr : wr.heap[g]? = some (.cells wkC 24) := by rw [hbw.bel.block g hgB]; exact HG.out
    clear y0 y1 y2 y3 y4 y5 y6 y7
    obtain ⟨y0, y1, y2, y3, y4, y5, y6, y7⟩ := wk_cells hgr
    have HBR : Hid (BK B b w wr) := hbw
    have hBr : B ≤ wr.heap.size := Nat.le_trans hBw hbw.size
    have HBr : Hid (B ≤ wr.heap.size) := hBr
    clear hgr hbw hBr
    rcases hcs with ⟨rfl, hen⟩ | ⟨rfl, hen⟩ | ⟨rfl, hen⟩
    · obtain ⟨W2, hW2⟩ : ∃ W, W = wr.alloc (.cells #[.int .i64 3, .string ⟨#[]⟩, .int .i64 7, .slice none 0 0] 24) := ⟨_, rfl⟩
      have hbA : Below wr.heap.size wr W2 := by rw [hW2]; exact (Below.refl _ _).alloc (Nat.le_refl _) _
      have HBA : Hid (BK B b w W2) := HBR.out.trans (BK.of hbA HBr.out)
      have HRP : Hid _ := reply_int B b 0 0 none 2 7 1 _ ⟨#[]⟩ (by decide) (by decide) W2 (hen.on hbA) (by decide) (Nat.le_trans HBr.out hbA.size) (fun W hW => HL.out W (HBA.out.bel.trans hW))
      clear hen hbA
      go_wp2_with fail
      rw [← hW2]
      clear hW2
      refine (show Calls _ _ _ _ _ from HRP.out).mono ?_
      rintro e w4 ⟨rfl, he4, hbk4⟩
      have HE4 : Hid (EnAt B b 2 [42, 50, 13, 10, 58, 55, 13, 10] w4) := by rw [itoa7] at he4; exact he4
      have HB4 : Hid (BK B b w w4) := HBA.out.trans hbk4
      clear he4 hbk4
      go_wp2
      go_roundw
      case rel => exact ⟨HB4.out, Or.inr (Or.inl ⟨rfl, HE4.out⟩)⟩
      case measure => decide
    · obtain ⟨W2, hW2⟩ : ∃ W, W = wr.alloc (.cells #[.int .i64 0, .string ⟨#[]⟩, .int .i64 0, .slice none 0 0] 24) := ⟨_, rfl⟩
      have hbA : Below wr.heap.size wr W2 := by rw [hW2]; exact (Below.refl _ _).alloc (Nat.le_refl _) _
      have HBA : Hid (BK B b w W2) := HBR.out.trans (BK.of hbA HBr.out)
      have HRP : Hid _ := reply_null B b 0 0 none 2 0 1 _ ⟨#[]⟩ W2 (hen.on hbA) (by decide) (Nat.le_trans HBr.out hbA.size)
      clear hen hbA
      go_wp2_with fail
      rw [← hW2]
      clear hW2
      refine (show Calls _ _ _ _ _ from HRP.out).mono ?_
      rintro e w4 ⟨rfl, he4, hbk4⟩
      have HE4 : Hid (EnAt B b 2 [42, 50, 13, 10, 58, 55, 13, 10, 36, 45, 49, 13, 10] w4) := he4
      have HB4 : Hid (BK B b w w4) := HBA.out.trans hbk4
      clear he4 hbk4
      go_wp2
      go_roundw
      case rel => exact ⟨HB4.out, Or.inr (Or.inr ⟨rfl, HE4.out⟩)⟩
      case measure => decide
    · have HE4 : Hid _ := hen
      clear hen
      go_wp2
      go_returns
      exact ⟨rfl, HE4.out, HBR.out⟩
set_option maxRecDepth 20000 in
set_option maxHeartbeats 4000000 in
theorem reply_wk (B b g : Nat) (w : World) (h : EnAt B b 2 [] w) (hBw : B ≤ w.heap.size) (hg : w.heap[g]? = some (.cells wkC 24)) (hgB : g < B) (hL : ∀ W, Below B w W → Laid W) :
    Calls Tryz.prog 16 #[.pointer (some ⟨b, 0, none⟩), .agg #[.int .i64 5, .string ⟨#[]⟩, .int .i64 0, .slice (some ⟨g, 0, none⟩) 2 2], .int .i64 0] w fun e w' => e = .returned (.bool true) ∧ EnAt B b 2 [42, 50, 13, 10, 58, 55, 13, 10, 36, 45, 49, 13, 10] w' ∧ BK B b w w' := by
  obtain ⟨W0, hW0⟩ : ∃ W, W = w.alloc (.cells #[.int .i64 5, .string ⟨#[]⟩, .int .i64 0, .slice (some ⟨g, 0, none⟩) 2 2] 24) := ⟨_, rfl⟩
  have hb0 : Below w.heap.size w W0 := by rw [hW0]; exact (Below.refl _ _).alloc (Nat.le_refl _) _
  have HLS : Hid _ := list_wk B b g W0 (h.on hb0) (Nat.le_trans hBw hb0.size) (keep_row hg hb0) hgB (fun W hW => hL W ((hb0.mono hBw).trans hW))
  have HB0 : Hid (BK B b w W0) := BK.of hb0 hBw
  clear h hg hL hb0
  go_enter Tryz.func16, Tryz.ntmps16
  go_wp2_with fail
  rw [← hW0]
  clear hW0
  refine (show Calls _ _ _ _ _ from HLS.out).mono ?_
  rintro e w1 ⟨rfl, he1, hbk1⟩
  have HE1 : Hid _ := he1
  have HB1 : Hid (BK B b w w1) := HB0.out.trans hbk1
  clear he1 hbk1
  go_wp2
  go_returns
  exact ⟨rfl, HE1.out, HB1.out⟩
set_option maxRecDepth 20000 in
set_option maxHeartbeats 4000000 in
/-- Encode of the reply of works. -/
theorem encode_wk (g : Nat) (w : World) (hg : w.heap[g]? = some (.cells wkC 24)) (hL : ∀ W, Below w.heap.size w W → Laid W) :
    Calls Tryz.prog 8 #[.agg #[.int .i64 5, .string ⟨#[]⟩, .int .i64 0, .slice (some ⟨g, 0, none⟩) 2 2], .int .i64 2] w fun e w' => e = .returned (.tuple #[.string ⟨#[42, 50, 13, 10, 58, 55, 13, 10, 36, 45, 49, 13, 10]⟩, .int .i64 0]) ∧ Below w.heap.size w w' := by
  have hgl := row_lt hg
  obtain ⟨W0, hW0⟩ : ∃ W, W = (w.alloc (.cells #[.int .i64 5, .string ⟨#[]⟩, .int .i64 0, .slice (some ⟨g, 0, none⟩) 2 2] 24)).alloc (.cells #[.pointer none, .slice none 0 0, .int .i64 2] 54) := ⟨_, rfl⟩
  have hb0 : Below w.heap.size w W0 := by rw [hW0]; exact (((Below.refl _ _).alloc (Nat.le_refl _) _).alloc (by simp) _)
  have hen : EnAt w.heap.size (w.heap.size + 1) 2 [] W0 := by
    refine ⟨by omega, _, _, Or.inl rfl, ?_, ⟨rfl, Or.inl ⟨rfl, rfl⟩⟩⟩
    have := one_alloc (w.alloc (.cells #[.int .i64 5, .string ⟨#[]⟩, .int .i64 0, .slice (some ⟨g, 0, none⟩) 2 2] 24)) (.cells #[.pointer none, .slice none 0 0, .int .i64 2] 54)
    rw [hW0]; simpa using this
  have HRP : Hid _ := reply_wk w.heap.size (w.heap.size + 1) g W0 hen hb0.size (keep_row hg hb0) hgl (fun W hW => hL W (hb0.trans hW))
  have HB0 : Hid (Below w.heap.size w W0) := hb0
  clear hg hL hb0 hen hgl
  go_enter Tryz.func8, Tryz.ntmps8
  go_wp2_with fail
  rw [← hW0]
  clear hW0
  refine (show Calls _ _ _ _ _ from HRP.out).mono ?_
  rintro e w1 ⟨rfl, he1, hbk1⟩
  have HST : Hid _ := str_any w.heap.size (w.heap.size + 1) 2 _ w1 he1 (by decide)
  have HB1 : Hid (Below w.heap.size w w1) := HB0.out.trans hbk1.bel
  clear he1 hbk1
  go_wp2_with fail
  refine (show Calls _ _ _ _ _ from HST.out).mono ?_
  rintro e w2 ⟨rfl, hb2⟩
  have HB2 : Hid (Below w.heap.size w w2) := HB1.out.trans hb2
  clear hb2
  go_wp2
  go_returns
  exact ⟨rfl, HB2.out⟩
end Go.Proofs.YtnfbaeajalnmmaaGreatDoor
