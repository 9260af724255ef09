import Derived.Test.YtghbbapladnafaaDoorGLaw
import Derived.Test.YtghbbapladnafaaDoorGLit
namespace Go.Proofs.YtghbbapladnafaaDoor
open Go.RowKit Gb
set_option linter.unusedVariables false
theorem own_two {w : World} {base n : Nat} {v : Value} {l : List UInt8} {x y : UInt8} {xs : List Value} (h : w.ownsRow base 5 1 v n xs) (hn : n = l.length + 2) (hxs : xs = bcells l ++ [.int .u8 (x.toNat : Int), .int .u8 (y.toNat : Int)]) :
    w.ownsRow base 5 1 v (l ++ [x, y]).length (bcells (l ++ [x, y])) := by
  have e : bcells (l ++ [x, y]) = bcells l ++ [.int .u8 (x.toNat : Int), .int .u8 (y.toNat : Int)] := by unfold bcells; simp
  rw [e, ← hxs, show (l ++ [x, y]).length = n by simp; omega]
  exact h
def quoteB (s : ByteArray) : ByteArray := strB (quote s.data.toList)
theorem quoteB_list (s : ByteArray) : (quoteB s).data.toList = quote s.data.toList := strB_list _
theorem quoteB_size (s : ByteArray) : (quoteB s).size = 2 * s.size := by rw [← list_len, quoteB_list, quote_len, list_len]
theorem take_snoc (s : ByteArray) (k : Nat) (h : k < s.size) : s.data.toList.take (k + 1) = s.data.toList.take k ++ [s[k]] := by
  rw [List.take_add_one, at_list s k h]; rfl
set_option maxHeartbeats 1000000 in
set_option maxRecDepth 20000 in
theorem quoted_any (s : ByteArray) (hm : s.size ≤ 2000000) (w : World) :
    Calls Tryd.prog 13 #[.string s] w fun e w' => e = .returned (.string (quoteB s)) ∧ Below w.heap.size w w' := by
  obtain ⟨i0, hi, hz0, hz1, hz2⟩ := info_parts info5
  go_enter Tryd.func13, Tryd.ntmps13
  go_wp2
  go_loopw [3, 4] (fun v i wr => ∃ k : Nat, i = .int .i64 (k : Int) ∧ k ≤ s.size ∧ wr.ownsRow w.heap.size 5 1 v (quote (s.data.toList.take k)).length (bcells (quote (s.data.toList.take k))) ∧ Below w.heap.size w wr) (fun _ i _ => s.size - (intOf i).toNat)
  case atStart => exact ⟨0, rfl, Nat.zero_le _, World.ownsRow_nil _ _ _ _, Below.refl _ _⟩
  case round =>
    obtain ⟨k, rfl, hk, hown, hbel⟩ := hrel
    have HW : Hid (wr.ownsRow w.heap.size 5 1 u3 (quote (s.data.toList.take k)).length (bcells (quote (s.data.toList.take k)))) := hown
    have HB : Hid (Below w.heap.size w wr) := hbel
    have hbz : w.heap.size ≤ wr.heap.size := hbel.size
    clear hbel
    by_cases hlt : k < s.size
    · obtain ⟨q, hq⟩ : ∃ q, quote (s.data.toList.take k) = q := ⟨_, rfl⟩
      have hql : q.length ≤ 4000000 := by rw [← hq, quote_len, List.length_take, list_len]; omega
      have HQ : Hid (quote (s.data.toList.take (k + 1)) = q ++ [92, s[k]]) := by show _ = _; rw [take_snoc s k hlt, quote_snoc, hq]
      rw [hq] at HW hown
      obtain ⟨pv, cv, ev⟩ := own_form hown
      subst ev
      clear hown hq
      obtain ⟨b, eb⟩ : ∃ b, s[k] = b := ⟨_, rfl⟩
      rw [eb] at HQ
      go_upto_region 5 with fail
      go_wp2_with (at_builtin; refine wpList_append_own _ rfl _ _ 22 rfl w.heap.size 5 i0 (.int .u8 0) 1 1 Tryd.underlying22 hi hz0 hz1 hz2 rfl (by decide) _ _ _ rfl (World.ownsRow.alloc HW.out _) ⟨wr.heap.size, 0, none⟩ 2 2 [.int .u8 92, .int .u8 (b.toNat : Int)] rfl rfl ?c1 ?c2 ?c3 ?c4 ?c5 ?_)
      case c1 =>
        intro t u hj
        match t, hj with
        | 0, hj => simp at hj; subst hj; simp [Addr.add]
        | 1, hj => simp at hj; subst hj; simp [Addr.add]
      case c2 => intro u hu; simp at hu; rcases hu with rfl | rfl <;> rfl
      case c3 => unfold maxLen; omega
      case c4 => omega
      case c5 => simp; omega
      · intro v' w4 hown' hgrow _
        have HW4 : Hid _ := own_two (l := q) (x := 92) (y := b) hown' rfl rfl
        have HB4 : Hid (Below w.heap.size w w4) := (HB.out.alloc hbz _).grown hgrow (by simp; omega) (fun k hk => (World.ownsRow.lt HW.out k hk).1)
        clear hown' hgrow
        go_wp2
        go_roundw
        case rel => exact ⟨k + 1, by go_num, hlt, by rw [HQ.out]; exact HW4.out, HB4.out⟩
        case measure => simp [intOf]; omega
    · have HE : Hid (quote (s.data.toList.take k) = quote s.data.toList) := by show _ = _; rw [List.take_of_length_le (by rw [list_len]; omega)]
      obtain ⟨pp, cc, ev, hcv⟩ := own_text hown
      subst ev
      clear hown
      go_wp2
      go_ret
      exact ⟨by unfold quoteB; rw [← HE.out]; rfl, HB.out⟩
end Go.Proofs.YtghbbapladnafaaDoor
