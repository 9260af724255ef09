import Derived.Test.YtghgdekdbbogkaaINew
import Derived.Test.YtghgdekdbbogkaaIFrom
import Derived.Test.YtghgdekdbbogkaaIFromB
namespace Go.Proofs.Ytghgdekdbbogkaa
open Go.RowKit IM
set_option linter.unusedVariables false
set_option maxHeartbeats 400000 in
set_option maxRecDepth 100000 in
theorem widthOf_any (n : Int) (w : World) :
    Calls Try.prog 50 #[.int .i64 n] w fun e w' => e = .returned (.int .i64 (needs n : Nat)) ∧ w' = w := by
  by_cases h2 : -32768 ≤ n ∧ n ≤ 32767
  · have HN : Hid (needs n = 2) := by unfold needs; rw [if_pos h2]; exact rfl
    obtain ⟨h2a, h2b⟩ := h2
    go_enter Try.func50, Try.ntmps50
    go_wp2
    go_ret
    exact ⟨by rw [HN.out]; rfl, rfl⟩
  · by_cases h4 : -2147483648 ≤ n ∧ n ≤ 2147483647
    · have HN : Hid (needs n = 4) := by unfold needs; rw [if_neg h2, if_pos h4]; exact rfl
      obtain ⟨h4a, h4b⟩ := h4
      rcases (show n < -32768 ∨ 32767 < n by omega) with h | h
      all_goals clear h2
      all_goals go_enter Try.func50, Try.ntmps50
      all_goals go_wp2
      all_goals go_ret
      all_goals exact ⟨by rw [HN.out]; rfl, rfl⟩
    · have HN : Hid (needs n = 8) := by unfold needs; rw [if_neg h2, if_neg h4]; exact rfl
      rcases (show n < -2147483648 ∨ 2147483647 < n by omega) with h | h
      all_goals clear h2 h4
      all_goals go_enter Try.func50, Try.ntmps50
      all_goals go_wp2
      all_goals go_ret
      all_goals exact ⟨by rw [HN.out]; rfl, rfl⟩
theorem addFrom_any (B b : Nat) (p : ByteArray) (V W : Nat) (h3V : W3 V) (ls : List Int) (hset : IsSet p.data.toList W ls) (l : List UInt8) (i j : Nat) (hij : i ≤ j) (hj : j ≤ ls.length) (w : World) (h : MakerAt B b V l w) (hlen : l.length ≤ 10000000) (hBw : B ≤ w.heap.size) :
    Calls Try.prog 51 #[.pointer (some ⟨b, 0, none⟩), setV p W ls.length, .int .i64 i, .int .i64 j] w fun e w' => e = .returned (.tuple #[]) ∧ (MakerAt B b V (l ++ body V ((ls.drop i).take (j - i))) w' ∧ Below B w w') := by
  by_cases hne : V = W
  · subst hne
    exact addFrom_same B b p V ls hset l i j hij hj w h hlen hBw
  · exact addFrom_other B b p V W h3V hne ls hset l i j hij hj w h hlen hBw
theorem body_le (V : Nat) (h3 : W3 V) (ls : List Int) (hl : ls.length ≤ 1048576) (i k : Nat) : (body V ((ls.drop i).take k)).length ≤ 8388608 := by
  rw [body_len, List.length_take, List.length_drop]
  have : min k (ls.length - i) * V ≤ 1048576 * 8 := Nat.mul_le_mul (by omega) (by rcases h3 with rfl | rfl | rfl <;> omega)
  omega
theorem with_text (V : Nat) (ls : List Int) (n : Int) (r : Nat) (hr : r ≤ ls.length) : leB 4 (V : Nat) ++ leB 4 ((ls.length + 1 : Nat) : Int) ++ body V ((ls.drop 0).take (r - 0)) ++ leB V n ++ body V ((ls.drop r).take (ls.length - r)) = txt V (ls.take r ++ n :: ls.drop r) := by
  have e : (ls.take r ++ n :: ls.drop r).length = ls.length + 1 := by simp; omega
  have e2 : (ls.drop r).take (ls.length - r) = ls.drop r := List.take_of_length_le (by simp)
  have e3 : body V (n :: ls.drop r) = leB V n ++ body V (ls.drop r) := by simp [body]
  unfold txt
  rw [e, body_app, e2, e3, List.drop_zero, Nat.sub_zero]
  simp only [List.append_assoc]
theorem less_text (V : Nat) (ls : List Int) (r : Nat) (hr : r < ls.length) : leB 4 (V : Nat) ++ leB 4 ((ls.length - 1 : Nat) : Int) ++ body V ((ls.drop 0).take (r - 0)) ++ body V ((ls.drop (r + 1)).take (ls.length - (r + 1))) = txt V (ls.take r ++ ls.drop (r + 1)) := by
  have e : (ls.take r ++ ls.drop (r + 1)).length = ls.length - 1 := by simp; omega
  have e2 : (ls.drop (r + 1)).take (ls.length - (r + 1)) = ls.drop (r + 1) := List.take_of_length_le (by simp)
  unfold txt
  rw [e, body_app, e2, List.drop_zero, Nat.sub_zero]
  simp only [List.append_assoc]
end Go.Proofs.Ytghgdekdbbogkaa
