import Derived.Test.YthjcbolbbdclnaaBase
import Derived.Test.YthjcbolbbdclnaaPackMath
namespace Go.Proofs.Ythjcbolbbdclnaa
open Go.RowKit Lz
set_option linter.unusedVariables false
def sizeS : Value → Nat
  | .string s => s.size
  | _ => 0
/-- one run is laid behind. -/
theorem runs_own {w : World} {base N n : Nat} {v : Value} {l : List UInt8} {s t : ByteArray} {x : Int} {xs : List Value} (h : w.ownsRow base 5 1 v N xs) (hn : n ≤ 32) (h0 : n ≠ 0) (hx : x = ((n - 1 : Nat) : Int))
    (ht : t.data.toList = s.data.toList.take n) (hs : n ≤ s.size) (hN : N = l.length + 1 + n) (hxs : xs = bcells l ++ .int .u8 x :: Lib.strCells t) :
    w.ownsRow base 5 1 v (l ++ (UInt8.ofNat (n - 1) :: (s.data.toList.take n))).length (bcells (l ++ (UInt8.ofNat (n - 1) :: (s.data.toList.take n)))) := by
  have e2 : (UInt8.ofNat (n - 1)).toNat = n - 1 := by rw [UInt8.toNat_ofNat']; omega
  have e3 : l ++ (UInt8.ofNat (n - 1) :: (s.data.toList.take n)) = (l ++ [UInt8.ofNat (n - 1)]) ++ t.data.toList := by rw [ht]; simp
  have e4 : (l ++ (UInt8.ofNat (n - 1) :: (s.data.toList.take n))).length = N := by simp; omega
  rw [e4, e3, bcells_str, bcells_snoc, e2, ← hx, List.append_assoc]
  rw [hxs] at h
  exact h
theorem runs_rest {n : Nat} {l : List UInt8} {s r : ByteArray} (h0 : ¬ s.size = 0) (hn : n = min s.size 32) (hr : r.data.toList = s.data.toList.drop n) :
    (l ++ (UInt8.ofNat (n - 1) :: (s.data.toList.take n))) ++ runs r.data.toList = l ++ runs s.data.toList := by
  have hl : s.data.toList.length = s.size := list_len s
  rw [runs_step s.data.toList (by omega), hl, ← hn, hr]
  have e4 : s.data.toList.drop n = s.data.toList.drop 32 := by
    rcases Nat.lt_or_ge 32 s.size with h32 | h32
    · rw [show n = 32 by omega]
    · rw [List.drop_eq_nil_of_le (by omega), List.drop_eq_nil_of_le (by omega)]
  have e5 : s.data.toList.take n = s.data.toList.take 32 := by
    rcases Nat.lt_or_ge 32 s.size with h32 | h32
    · rw [show n = 32 by omega]
    · rw [List.take_of_length_le (by omega), List.take_of_length_le (by omega)]
  rw [e4, e5, List.append_assoc]
theorem ext_drop (s : ByteArray) (n : Nat) : (s.extract n s.size).data.toList = s.data.toList.drop n := by
  rw [ext_any, List.take_of_length_le (by rw [List.length_drop, list_len]; omega)]
theorem ext_take (s : ByteArray) (n : Nat) : (s.extract 0 n).data.toList = s.data.toList.take n := by
  rw [ext_any]; simp
theorem all_take (s : ByteArray) : s.data.toList = s.data.toList.take s.size := by
  rw [List.take_of_length_le (by rw [list_len]; omega)]
set_option maxHeartbeats 1000000 in
set_option maxRecDepth 20000 in
theorem putRuns_any (base : Nat) (v : Value) (l : List UInt8) (s : ByteArray) (w : World) (hs : s.size ≤ 524288) (hl : l.length ≤ 1048576) (hbase : base ≤ w.heap.size) (hown : w.ownsRow base 5 1 v l.length (bcells l)) :
    Calls Try.prog 18 #[v, .string s] w fun e w' => ∃ v', e = .returned v' ∧ w'.ownsRow base 5 1 v' (l ++ runs s.data.toList).length (bcells (l ++ runs s.data.toList)) ∧ Below base w w' := by
  obtain ⟨i0, hi, hz0, hz1, hz2⟩ := info_parts info5
  have HO : Hid (w.ownsRow base 5 1 v l.length (bcells l)) := hown
  clear hown
  go_enter Try.func18, Try.ntmps18
  go_wp2
  go_loopw [0, 1, 5] (fun v q _ wr => ∃ (s' : ByteArray) (l' : List UInt8), q = .string s' ∧ wr.ownsRow base 5 1 v l'.length (bcells l') ∧ l' ++ runs s'.data.toList = l ++ runs s.data.toList ∧ s'.size ≤ s.size ∧ Below base w wr) (fun _ q _ _ => sizeS q)
  case atStart => exact ⟨s, l, rfl, HO.out, rfl, Nat.le_refl _, Below.refl _ _⟩
  case round =>
    obtain ⟨s', l', rfl, hown, he, hsz, hbel⟩ := hrel
    have HE : Hid (l' ++ runs s'.data.toList = l ++ runs s.data.toList) := he
    have HB : Hid (Below base w wr) := hbel
    have HW : Hid (wr.ownsRow base 5 1 u0 l'.length (bcells l')) := hown
    have hbz : base ≤ wr.heap.size := by have := hbel.size; omega
    have hll : l'.length ≤ 1600000 := by
      have h1 := congrArg List.length he
      rw [List.length_append, List.length_append, runs_len, runs_len, list_len, list_len] at h1
      omega
    clear hown hbel he
    by_cases h0 : s'.size = 0
    · have hem : s'.toList.isEmpty = true := str_empty h0
      have HZ : Hid (runs s'.data.toList = []) := by
        show _ = _
        have : s'.data.toList = [] := List.length_eq_zero_iff.1 (by rw [list_len]; exact h0)
        rw [this]; rfl
      go_wp2
      go_ret
      refine ⟨_, rfl, ?_, HB.out⟩
      rw [← HE.out, HZ.out, List.append_nil]
      exact HW.out
    · have hem : s'.toList.isEmpty = false := str_full h0
      rcases Nat.lt_or_ge 32 s'.size with h32 | h32
      · -- thirty-two of them
        have hx1 : l'.length + 1 + 32 ≤ 2000000 := by omega
        go_wp2_with (at_builtin; go_must (refine wpList_append_own _ rfl _ _ 22 rfl base 5 i0 (.int .u8 0) 1 1 Try.underlying22 hi hz0 hz1 hz2 rfl (by decide) _ _ _ rfl (World.ownsRow.alloc HW.out _) ⟨wr.heap.size, 0, none⟩ 1 1 [.int .u8 31] rfl rfl ?c1 ?c2 ?c3 ?c4 ?c5 ?_))
        case c1 =>
          intro t u hj
          match t, hj with
          | 0, hj => simp at hj; subst hj; simp [Addr.add]
        case c2 => intro u hu; simp at hu; subst hu; rfl
        case c3 => unfold maxLen; omega
        case c4 => omega
        case c5 => simp; omega
        · intro v1 w1 hown1 hgrow1 _
          have HW1 : Hid (w1.ownsRow base 5 1 v1 (l'.length + 1) (bcells l' ++ [.int .u8 31])) := hown1
          have HB1 : Hid (Below base w w1) := (HB.out.alloc hbz _).grown hgrow1 (by simp; omega) (fun k hk => (World.ownsRow.lt HW.out k hk).1)
          have hbz1 : base ≤ w1.heap.size := by have := hgrow1.size; simp at this; omega
          clear hown1
          go_wp2_with (at_builtin; go_must (refine Lib.wpList_append_own_string _ rfl _ _ 22 9 rfl base 5 i0 Try.underlying22 Try.underlying9 hi hz0 hz1 hz2 _ _ _ rfl HW1.out _ rfl ?c1 ?c2 ?c3 ?_))
          case c1 => unfold maxLen; (try rw [ext_size _ _ _ (by omega)]); omega
          case c2 => (try rw [ext_size _ _ _ (by omega)]); omega
          case c3 => omega
          · intro v2 w2 hown2 hgrow2 _
            have HW2 : Hid _ := runs_own (l := l') (s := s') (n := 32) (x := 31) hown2 (by omega) (by omega) rfl (ext_take s' 32) (by omega) (by omega) rfl
            have HB2 : Hid (Below base w w2) := HB1.out.grown hgrow2 hbz1 (fun k hk => (World.ownsRow.lt HW1.out k hk).1)
            clear hown2
            go_wp2
            go_roundw
            case rel => exact ⟨_, _, rfl, HW2.out, (runs_rest h0 (by omega) (by first | exact ext_drop _ _ | simp)).trans HE.out, by (have hee : ByteArray.empty.size = 0 := rfl); (try rw [ext_size _ _ _ (by omega)]); omega, HB2.out⟩
            case measure => simp only [sizeS]; (have hee : ByteArray.empty.size = 0 := rfl); (try rw [ext_size _ _ _ (by omega)]); omega
      · -- all of them
        have hx1 : l'.length + 1 + s'.size ≤ 2000000 := by omega
        go_wp2_with (at_builtin; go_must (refine wpList_append_own _ rfl _ _ 22 rfl base 5 i0 (.int .u8 0) 1 1 Try.underlying22 hi hz0 hz1 hz2 rfl (by decide) _ _ _ rfl (World.ownsRow.alloc HW.out _) ⟨wr.heap.size, 0, none⟩ 1 1 [.int .u8 ((s'.size : Int) - 1)] rfl rfl ?c1 ?c2 ?c3 ?c4 ?c5 ?_))
        case c1 =>
          intro t u hj
          match t, hj with
          | 0, hj => simp at hj; subst hj; simp [Addr.add]
        case c2 => intro u hu; simp at hu; subst hu; rfl
        case c3 => unfold maxLen; omega
        case c4 => omega
        case c5 => simp; omega
        · intro v1 w1 hown1 hgrow1 _
          have HW1 : Hid (w1.ownsRow base 5 1 v1 (l'.length + 1) (bcells l' ++ [.int .u8 ((s'.size : Int) - 1)])) := hown1
          have HB1 : Hid (Below base w w1) := (HB.out.alloc hbz _).grown hgrow1 (by simp; omega) (fun k hk => (World.ownsRow.lt HW.out k hk).1)
          have hbz1 : base ≤ w1.heap.size := by have := hgrow1.size; simp at this; omega
          clear hown1
          go_wp2_with (at_builtin; go_must (refine Lib.wpList_append_own_string _ rfl _ _ 22 9 rfl base 5 i0 Try.underlying22 Try.underlying9 hi hz0 hz1 hz2 _ _ _ rfl HW1.out _ rfl ?c1 ?c2 ?c3 ?_))
          case c1 => unfold maxLen; (try rw [ext_size _ _ _ (by omega)]); omega
          case c2 => (try rw [ext_size _ _ _ (by omega)]); omega
          case c3 => omega
          · intro v2 w2 hown2 hgrow2 _
            have HW2 : Hid _ := runs_own (l := l') (s := s') (n := s'.size) (x := (s'.size : Int) - 1) hown2 (by omega) h0 (by omega) (by first | exact ext_take s' s'.size | exact all_take s') (by omega) (by omega) rfl
            have HB2 : Hid (Below base w w2) := HB1.out.grown hgrow2 hbz1 (fun k hk => (World.ownsRow.lt HW1.out k hk).1)
            clear hown2
            go_wp2
            go_roundw
            case rel => exact ⟨_, _, rfl, HW2.out, (runs_rest h0 (by omega) (by first | exact ext_drop _ _ | simp)).trans HE.out, by (have hee : ByteArray.empty.size = 0 := rfl); (try rw [ext_size _ _ _ (by omega)]); omega, HB2.out⟩
            case measure => simp only [sizeS]; (have hee : ByteArray.empty.size = 0 := rfl); (try rw [ext_size _ _ _ (by omega)]); omega
end Go.Proofs.Ythjcbolbbdclnaa
