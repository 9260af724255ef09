import Derived.Test.YthjcbolbbdclnaaBase
import Derived.Test.YthjcbolbbdclnaaPackMath
namespace Go.Proofs.Ythjcbolbbdclnaa
open Go.RowKit Lz
set_option linter.unusedVariables false
set_option maxHeartbeats 1000000 in
set_option maxRecDepth 20000 in
theorem copyBack_any (base : Nat) (v : Value) (l : List UInt8) (back n : Nat) (w : World) (hb : 1 ≤ back) (hb2 : back ≤ l.length) (hn : l.length + n ≤ 524288) (hbase : base ≤ w.heap.size) (hown : w.ownsRow base 5 1 v l.length (bcells l)) :
    Calls Try.prog 14 #[v, .int .i64 back, .int .i64 n] w fun e w' => ∃ v', e = .returned v' ∧ w'.ownsRow base 5 1 v' (copyN n back l).length (bcells (copyN n back l)) ∧ Below base w w' := by
  obtain ⟨i0, hi, hz0, hz1, hz2⟩ := info_parts info5
  have HO : Hid (w.ownsRow base 5 1 v l.length (bcells l)) := hown
  clear hown
  go_enter Try.func14, Try.ntmps14
  go_wp2
  go_loopw [0, 8] (fun v i wr => ∃ k : Nat, k ≤ n ∧ i = .int .i64 k ∧ wr.ownsRow base 5 1 v (copyN k back l).length (bcells (copyN k back l)) ∧ Below base w wr) (fun _ i _ => n - (intOf i).toNat)
  case atStart => exact ⟨0, by omega, rfl, HO.out, Below.refl _ _⟩
  case round =>
    obtain ⟨k, hk, rfl, hown, hbel⟩ := hrel
    have HB : Hid (Below base w wr) := hbel
    have HW : Hid (wr.ownsRow base 5 1 u0 (copyN k back l).length (bcells (copyN k back l))) := hown
    clear hown hbel
    by_cases hlt : k < n
    · have hlen := copyN_length k back l
      have HT0 : copyN (k + 1) back l = copyN k back l ++ [(copyN k back l).getD ((copyN k back l).length - back) 0] := copyN_succ k back l
      have hq1 : back ≤ (copyN k back l).length := by omega
      have hq2 : (copyN k back l).length < 524288 := by omega
      have hq3 : (copyN k back l).length - back < (copyN k back l).length := by omega
      clear hlen
      generalize copyN k back l = q at *
      obtain ⟨g, cap, ev, hcell⟩ := own_cell HW.out (by intro e; rw [e] at hq1; simp at hq1; omega)
      have hc := hcell (q.length - back) (by omega)
      subst ev
      have hbz : base ≤ wr.heap.size := by have := HB.out.size; omega
      generalize hx : q.getD (q.length - back) 0 = x at hc HT0
      have HT : Hid (copyN (k + 1) back l = q ++ [x]) := HT0
      clear hcell hx HT0
      go_wp2_with (at_builtin; go_must (refine wpList_append_own _ rfl _ _ 22 rfl base 5 i0 (.int .u8 0) 1 1 Try.underlying22 hi hz0 hz1 hz2 rfl (by decide) _ _ _ rfl (World.ownsRow.alloc HW.out _) ⟨wr.heap.size, 0, none⟩ 1 1 [.int .u8 (x.toNat : Int)] rfl rfl ?c1 ?c2 ?c3 ?c4 ?c5 ?_))
      case c1 =>
        intro t u hj
        match t, hj with
        | 0, hj => simp at hj; subst hj; simp [Addr.add]
      case c2 => intro u hu; simp at hu; subst hu; rfl
      case c3 => unfold maxLen; omega
      case c4 => omega
      case c5 => simp; omega
      · intro v' w1 hown' hgrow _
        have HW2 : Hid (w1.ownsRow base 5 1 v' (q.length + 1) (bcells q ++ [.int .u8 (x.toNat : Int)])) := hown'
        clear hown'
        go_wp2
        go_roundw
        case rel =>
          refine ⟨k + 1, by omega, by go_num, ?_, ?_⟩
          · rw [HT.out, bcells_snoc, List.length_append]
            exact HW2.out
          · exact (HB.out.alloc hbz _).grown hgrow (by simp; omega) (fun k hk => (World.ownsRow.lt HW.out k hk).1)
        case measure => simp [intOf]; omega
    · have hke : k = n := by omega
      subst hke
      go_wp2
      go_ret
      exact ⟨_, rfl, HW.out, HB.out⟩
end Go.Proofs.Ythjcbolbbdclnaa
