import Derived.Test.YtghgdekdbbogkaaILit
import Derived.Test.YtghgdekdbbogkaaIRow
namespace Go.Proofs.Ytghgdekdbbogkaa
open Go.RowKit IM
set_option linter.unusedVariables false
theorem cell_below2 {B : Nat} {w w' : World} (h : Below B w w') {a : Addr} (ha : a.block < B) : w'.cell? a = w.cell? a := World.cell?_of_block (h.block _ ha)
theorem body_snocR (W : Nat) (l : List Int) (n : Int) : body W (l ++ [n]) = body W l ++ leB W n := by rw [body_app]; simp [body]
theorem text_cat (W : Nat) (l : List Int) : strB (leB 4 (W : Nat)) ++ strB (leB 4 (l.length : Nat)) ++ strB (body W l) = strB (txt W l) := by
  have e : ∀ a b : List UInt8, strB a ++ strB b = strB (a ++ b) := fun a b => by
    rw [← strB_of (strB a ++ strB b)]
    rw [ByteArray.data_append, Array.toList_append, strB_list, strB_list]
  rw [e, e]
  unfold txt
  rw [List.append_assoc]
set_option maxHeartbeats 1000000 in
set_option maxRecDepth 100000 in
theorem text_any (W : Nat) (v : Value) (l : List Int) (h3 : W3 W) (hlen : l.length ≤ 1048577) (hfit : ∀ n ∈ l, I64 n) (w : World) (h : HoldsI w v l) :
    Calls Try.prog 36 #[.int .i64 W, v] w fun e w' => e = .returned (.string (strB (txt W l))) ∧ Below w.heap.size w w' := by
  obtain ⟨q, cap, rfl, hc⟩ := h
  have hW8 : W ≤ 8 := by rcases h3 with h | h | h <;> omega
  have HC : Hid _ := hc
  have HI : Hid (∀ k, (hk : k < l.length) → I64 l[k]) := fun k hk => hfit _ (List.getElem_mem hk)
  have HL1 : Hid (∀ w, Calls Try.prog 53 #[.int .i64 W, .int .i64 4] w fun e w' => e = .returned (.string (strB (leB 4 W))) ∧ Below w.heap.size w w') := fun w => little_any W 4 (by omega) (by omega) (by omega) w
  have HL2 : Hid (∀ w, Calls Try.prog 53 #[.int .i64 l.length, .int .i64 4] w fun e w' => e = .returned (.string (strB (leB 4 l.length))) ∧ Below w.heap.size w w') := fun w => little_any l.length 4 (by omega) (by omega) (by omega) w
  have HT : Hid _ := text_cat W l
  have hz1 : (strB (leB 4 W)).size = 4 := by rw [strB_size, leB_len]
  have hz2 : (strB (leB 4 l.length)).size = 4 := by rw [strB_size, leB_len]
  obtain ⟨i0, hi, hz0, hzz1, hzz2⟩ := info_parts info5
  clear hc hfit
  go_enter Try.func36, Try.ntmps36
  go_wp2_with fail
  refine (HL1.out _).mono ?_
  rintro e w1 ⟨rfl, hb1⟩
  go_wp2_with fail
  refine (HL2.out _).mono ?_
  rintro e w2 ⟨rfl, hb2⟩
  have HB2 : Hid (Below w.heap.size w w2) := hb1.trans (hb2.mono hb1.size)
  clear hb1 hb2
  go_wp2
  go_loopw [6, 7] (fun v ii wr => ∃ k : Nat, k ≤ l.length ∧ ii = .int .i64 k ∧ wr.ownsRow w.heap.size 5 1 v (body W (l.take k)).length (bcells (body W (l.take k))) ∧ Below w.heap.size w wr) (fun _ ii _ => l.length - (intOf ii).toNat)
  case atStart => exact ⟨0, by omega, rfl, World.ownsRow_nil _ _ _ _, HB2.out⟩
  case round =>
    obtain ⟨k, hk, rfl, hown, hbel⟩ := hrel
    have HO : Hid (wr.ownsRow w.heap.size 5 1 u6 (body W (l.take k)).length (bcells (body W (l.take k)))) := hown
    have HB : Hid (Below w.heap.size w wr) := hbel
    clear hown hbel
    by_cases hlt : k < l.length
    · obtain ⟨g, rfl, hcell⟩ := HC.out (by intro e; rw [e] at hlt; simp at hlt)
      have hc : wr.cell? ⟨g, k, none⟩ = some (.int .i64 l[k]) := (cell_below2 HB.out (World.block_lt_of_cell? _ _ (hcell k hlt))).trans (hcell k hlt)
      have hkz : (k : Int) < (l.length : Int) := by omega
      have hi64 := HI.out k hlt
      have HTK : Hid (body W (l.take (k + 1)) = body W (l.take k) ++ leB W l[k]) := by
        rw [List.take_add_one, List.getElem?_eq_getElem hlt]; exact body_snocR W _ _
      have hbl : (body W (l.take k)).length ≤ 8388616 := by
        rw [body_len, List.length_take]
        have : min k l.length * W ≤ 1048577 * 8 := Nat.mul_le_mul (by omega) hW8
        omega
      clear hcell
      generalize l[k] = x at hc hi64 HTK
      have HLX : Hid (∀ w, Calls Try.prog 53 #[.int .i64 x, .int .i64 W] w fun e w' => e = .returned (.string (strB (leB W x))) ∧ Below w.heap.size w w') := fun w => little_any x W hi64.1 hi64.2 hW8 w
      have hzx : (strB (leB W x)).size = W := by rw [strB_size, leB_len]
      go_wp2_with fail
      refine (HLX.out _).mono ?_
      rintro e w3 ⟨rfl, hb3⟩
      have HO3 : Hid (w3.ownsRow w.heap.size 5 1 u6 (body W (l.take k)).length (bcells (body W (l.take k)))) := own_keep HO.out (fun b _ hb => hb3.block b hb)
      have HB3 : Hid (Below w.heap.size w w3) := HB.out.trans (hb3.mono HB.out.size)
      have hz3 : w.heap.size ≤ w3.heap.size := HB3.out.size
      clear hb3
      go_wp2_with (at_builtin; go_must (refine Lib.wpList_append_own_string _ rfl _ _ 50 9 rfl w.heap.size 5 i0 Try.underlying50 Try.underlying9 hi hz0 hzz1 hzz2 _ _ _ rfl HO3.out (strB (leB W x)) rfl ?c3 ?c4 ?c5 ?_))
      case c3 => unfold maxLen; omega
      case c4 => omega
      case c5 => omega
      intro v' w4 hown' hgrow _
      have HO4 : Hid (w4.ownsRow w.heap.size 5 1 v' (body W (l.take (k + 1))).length (bcells (body W (l.take (k + 1))))) := by
        have e1 : bcells (body W (l.take (k + 1))) = bcells (body W (l.take k)) ++ Lib.strCells (strB (leB W x)) := by rw [HTK.out, ← bcells_str, strB_list]
        have e2 : (body W (l.take (k + 1))).length = (body W (l.take k)).length + W := by rw [HTK.out, List.length_append, leB_len]
        rw [e1, e2]; exact hown'
      have HB4 : Hid (Below w.heap.size w w4) := HB3.out.grown hgrow hz3 (fun k hk => (World.ownsRow.lt HO3.out k hk).1)
      clear hown' hgrow
      go_wp2
      go_roundw
      case rel => exact ⟨k + 1, by omega, by go_num, HO4.out, HB4.out⟩
      case measure => simp [intOf]; omega
    · have hke : k = l.length := by omega
      subst hke
      have hto := HO.out
      rw [List.take_length] at hto
      obtain ⟨p, c, rfl, hcv⟩ := own_text hto
      have hbl : (body W l).length ≤ 8388616 := by
        rw [body_len]
        have : l.length * W ≤ 1048577 * 8 := Nat.mul_le_mul (by omega) hW8
        omega
      have hzb : (strB (body W l)).size ≤ 8388616 := by rw [strB_size]; exact hbl
      clear hto
      go_wp2
      go_ret
      exact ⟨by rw [← HT.out]; rfl, HB.out⟩
end Go.Proofs.Ytghgdekdbbogkaa
