import Derived.Test.YthjcbolbbdclnaaBase
import Derived.Test.YthjcbolbbdclnaaPackMath
namespace Go.Proofs.Ythjcbolbbdclnaa
open Go.RowKit Lz
set_option linter.unusedVariables false
theorem own_two {w : World} {base n : Nat} {v : Value} {l : List UInt8} {x y : UInt8} {xs : List Value} (h : w.ownsRow base 5 1 v n xs) (hn : n = l.length + 2) (hxs : xs = bcells l ++ [.int .u8 (x.toNat : Int), .int .u8 (y.toNat : Int)]) :
    w.ownsRow base 5 1 v (l ++ [x, y]).length (bcells (l ++ [x, y])) := by
  have e : bcells (l ++ [x, y]) = bcells l ++ [.int .u8 (x.toNat : Int), .int .u8 (y.toNat : Int)] := by unfold bcells; simp
  rw [e, ← hxs, show (l ++ [x, y]).length = n by simp; omega]
  exact h
theorem own_three {w : World} {base n : Nat} {v : Value} {l : List UInt8} {x y z : UInt8} {xs : List Value} (h : w.ownsRow base 5 1 v n xs) (hn : n = l.length + 3) (hxs : xs = bcells l ++ [.int .u8 (x.toNat : Int), .int .u8 (y.toNat : Int), .int .u8 (z.toNat : Int)]) :
    w.ownsRow base 5 1 v (l ++ [x, y, z]).length (bcells (l ++ [x, y, z])) := by
  have e : bcells (l ++ [x, y, z]) = bcells l ++ [.int .u8 (x.toNat : Int), .int .u8 (y.toNat : Int), .int .u8 (z.toNat : Int)] := by unfold bcells; simp
  rw [e, ← hxs, show (l ++ [x, y, z]).length = n by simp; omega]
  exact h
theorem of_num {a : Nat} {x : Int} (h : a < 256) (hx : x = (a : Int)) : x = ((UInt8.ofNat a).toNat : Int) := by
  rw [UInt8.toNat_ofNat', hx]; omega
set_option maxHeartbeats 1000000 in
set_option maxRecDepth 20000 in
theorem putCopy_short (base : Nat) (v : Value) (l : List UInt8) (back n : Nat) (w : World) (hb : 1 ≤ back) (hb2 : back ≤ 8192) (hn : 3 ≤ n) (hn2 : n < 9) (hl : l.length ≤ 2000000) (hbase : base ≤ w.heap.size) (hown : w.ownsRow base 5 1 v l.length (bcells l)) :
    Calls Try.prog 19 #[v, .int .i64 back, .int .i64 n] w fun e w' => ∃ v', e = .returned v' ∧ w'.ownsRow base 5 1 v' (l ++ copyP back n).length (bcells (l ++ copyP back n)) ∧ Below base w w' := by
  obtain ⟨i0, hi, hz0, hz1, hz2⟩ := info_parts info5
  have HO : Hid (w.ownsRow base 5 1 v l.length (bcells l)) := hown
  clear hown
  go_enter Try.func19, Try.ntmps19
  go_wp2_with (at_builtin; go_must (refine wpList_append_own _ rfl _ _ 22 rfl base 5 i0 (.int .u8 0) 1 1 Try.underlying22 hi hz0 hz1 hz2 rfl (by decide) _ _ _ rfl (World.ownsRow.alloc HO.out _) ⟨w.heap.size, 0, none⟩ 2 2 [.int .u8 (((n : Int) - 2) * 32 + ((back : Int) - 1) / 256), .int .u8 (((back : Int) - 1) % 256)] rfl rfl ?c1 ?c2 ?c3 ?c4 ?c5 ?_))
  case c1 =>
    intro t u hj
    match t, hj with
    | 0, hj => simp at hj; subst hj; simp [Addr.add]
    | 1, hj => simp at hj; subst hj; simp [Addr.add]
  case c2 => intro u hu; simp at hu; rcases hu with rfl | rfl <;> rfl
  case c3 => unfold maxLen; omega
  case c4 => omega
  case c5 => simp; omega
  · intro v' w1 hown' hgrow _
    have HW2 : Hid _ := own_two (x := UInt8.ofNat ((n - 2) * 32 + (back - 1) / 256)) (y := UInt8.ofNat ((back - 1) % 256)) hown' rfl (by rw [← of_num (by omega) (by omega : ((n : Int) - 2) * 32 + ((back : Int) - 1) / 256 = (((n - 2) * 32 + (back - 1) / 256 : Nat) : Int)), ← of_num (by omega) (by omega : ((back : Int) - 1) % 256 = (((back - 1) % 256 : Nat) : Int))])
    have HB2 : Hid (Below base w w1) := ((Below.refl base w).alloc hbase _).grown hgrow (by simp; omega) (fun k hk => (World.ownsRow.lt HO.out k hk).1)
    clear hown' hgrow
    go_wp2
    go_ret
    refine ⟨_, rfl, ?_, HB2.out⟩
    unfold copyP
    rw [if_pos (by omega)]
    exact HW2.out
set_option maxHeartbeats 1000000 in
set_option maxRecDepth 20000 in
theorem putCopy_long (base : Nat) (v : Value) (l : List UInt8) (back n : Nat) (w : World) (hb : 1 ≤ back) (hb2 : back ≤ 8192) (hn : 9 ≤ n) (hn2 : n ≤ 264) (hl : l.length ≤ 2000000) (hbase : base ≤ w.heap.size) (hown : w.ownsRow base 5 1 v l.length (bcells l)) :
    Calls Try.prog 19 #[v, .int .i64 back, .int .i64 n] w fun e w' => ∃ v', e = .returned v' ∧ w'.ownsRow base 5 1 v' (l ++ copyP back n).length (bcells (l ++ copyP back n)) ∧ Below base w w' := by
  obtain ⟨i0, hi, hz0, hz1, hz2⟩ := info_parts info5
  have HO : Hid (w.ownsRow base 5 1 v l.length (bcells l)) := hown
  clear hown
  go_enter Try.func19, Try.ntmps19
  go_wp2_with (at_builtin; go_must (refine wpList_append_own _ rfl _ _ 22 rfl base 5 i0 (.int .u8 0) 1 1 Try.underlying22 hi hz0 hz1 hz2 rfl (by decide) _ _ _ rfl (World.ownsRow.alloc HO.out _) ⟨w.heap.size, 0, none⟩ 3 3 [.int .u8 (224 + ((back : Int) - 1) / 256), .int .u8 ((n : Int) - 2 - 7), .int .u8 (((back : Int) - 1) % 256)] rfl rfl ?c1 ?c2 ?c3 ?c4 ?c5 ?_))
  case c1 =>
    intro t u hj
    match t, hj with
    | 0, hj => simp at hj; subst hj; simp [Addr.add]
    | 1, hj => simp at hj; subst hj; simp [Addr.add]
    | 2, hj => simp at hj; subst hj; simp [Addr.add]
  case c2 => intro u hu; simp at hu; rcases hu with rfl | rfl | rfl <;> rfl
  case c3 => unfold maxLen; omega
  case c4 => omega
  case c5 => simp; omega
  · intro v' w1 hown' hgrow _
    have HW2 : Hid _ := own_three (x := UInt8.ofNat (224 + (back - 1) / 256)) (y := UInt8.ofNat (n - 9)) (z := UInt8.ofNat ((back - 1) % 256)) hown' rfl (by rw [← of_num (by omega) (by omega : 224 + ((back : Int) - 1) / 256 = ((224 + (back - 1) / 256 : Nat) : Int)), ← of_num (by omega) (by omega : (n : Int) - 2 - 7 = ((n - 9 : Nat) : Int)), ← of_num (by omega) (by omega : ((back : Int) - 1) % 256 = (((back - 1) % 256 : Nat) : Int))])
    have HB2 : Hid (Below base w w1) := ((Below.refl base w).alloc hbase _).grown hgrow (by simp; omega) (fun k hk => (World.ownsRow.lt HO.out k hk).1)
    clear hown' hgrow
    go_wp2
    go_ret
    refine ⟨_, rfl, ?_, HB2.out⟩
    unfold copyP
    rw [if_neg (by omega)]
    exact HW2.out
theorem putCopy_any (base : Nat) (v : Value) (l : List UInt8) (back n : Nat) (w : World) (hb : 1 ≤ back) (hb2 : back ≤ 8192) (hn : 3 ≤ n) (hn2 : n ≤ 264) (hl : l.length ≤ 2000000) (hbase : base ≤ w.heap.size) (hown : w.ownsRow base 5 1 v l.length (bcells l)) :
    Calls Try.prog 19 #[v, .int .i64 back, .int .i64 n] w fun e w' => ∃ v', e = .returned v' ∧ w'.ownsRow base 5 1 v' (l ++ copyP back n).length (bcells (l ++ copyP back n)) ∧ Below base w w' := by
  rcases Nat.lt_or_ge n 9 with h | h
  · exact putCopy_short base v l back n w hb hb2 hn h hl hbase hown
  · exact putCopy_long base v l back n w hb hb2 h hn2 hl hbase hown
end Go.Proofs.Ythjcbolbbdclnaa
