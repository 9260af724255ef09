import Derived.Test.YtpckadpnedfkkaaDoorGFold
import Derived.Deep.Cut
namespace Go.Proofs.YtpckadpnedfkkaaDoor
open Go.RowKit Gb
set_option linter.unusedVariables false
set_option maxHeartbeats 400000 in
theorem small_any (c : UInt8) (w : World) :
    Calls Tryd.prog 25 #[.int .u8 (c.toNat : Int)] w fun e w' => e = .returned (.int .u8 ((lowB c).toNat : Int)) ∧ w' = w := by
  have hc := c.toNat_lt
  by_cases h : 65 ≤ c.toNat ∧ c.toNat ≤ 90
  · have HR : Hid (((lowB c).toNat : Int) = (c.toNat : Int) + 32) := by show _ = _; rw [low_of h.1 h.2]; omega
    obtain ⟨h1, h2⟩ := h
    generalize c.toNat = n at *
    go_enter Tryd.func25, Tryd.ntmps25
    go_wp2
    go_ret
    exact ⟨by rw [HR.out]; rfl, rfl⟩
  · have HR : Hid (((lowB c).toNat : Int) = (c.toNat : Int)) := by show _ = _; rw [low_not h]
    generalize c.toNat = n at *
    by_cases h1 : 65 ≤ n
    · have h2 : ¬ n ≤ 90 := fun x => h ⟨h1, x⟩
      clear h
      go_enter Tryd.func25, Tryd.ntmps25
      go_wp2
      go_ret
      exact ⟨by rw [HR.out]; rfl, rfl⟩
    · clear h
      go_enter Tryd.func25, Tryd.ntmps25
      go_wp2
      go_ret
      exact ⟨by rw [HR.out]; rfl, rfl⟩
def lowL (s : ByteArray) (k : Nat) : List UInt8 := fold (s.data.toList.take k)
theorem lowL_more (s : ByteArray) (k : Nat) (h : k < s.size) : lowL s (k + 1) = lowL s k ++ [lowB s[k]] := by
  unfold lowL fold
  rw [List.take_add_one, at_list s k h, List.map_append]; rfl
theorem lowL_len (s : ByteArray) (k : Nat) : (lowL s k).length ≤ s.size := by unfold lowL fold; rw [List.length_map, List.length_take, list_len]; omega
set_option maxHeartbeats 1000000 in
set_option maxRecDepth 20000 in
theorem rfold_any (s : ByteArray) (hm : s.size ≤ 140737488351232) (w : World) :
    Calls Tryd.prog 17 #[.string s] w fun e w' => e = .returned (.string (foldB s)) ∧ Below w.heap.size w w' := by
  obtain ⟨i0, hi, hz0, hz1, hz2⟩ := info_parts info5
  go_enter Tryd.func17, Tryd.ntmps17
  go_wp2
  go_loopw [3, 4] (fun v i wr => ∃ k : Nat, i = .int .i64 (k : Int) ∧ k ≤ s.size ∧ wr.ownsRow w.heap.size 5 1 v (lowL s k).length (bcells (lowL s k)) ∧ Below w.heap.size w wr) (fun _ i _ => s.size - (intOf i).toNat)
  case atStart => exact ⟨0, rfl, Nat.zero_le _, World.ownsRow_nil _ _ _ _, Below.refl _ _⟩
  case round =>
    obtain ⟨k, rfl, hk, hown, hbel⟩ := hrel
    have HW : Hid (wr.ownsRow w.heap.size 5 1 u3 (lowL s k).length (bcells (lowL s k))) := hown
    have HB : Hid (Below w.heap.size w wr) := hbel
    have hbz : w.heap.size ≤ wr.heap.size := hbel.size
    clear hbel
    by_cases hlt : k < s.size
    · obtain ⟨q, hq⟩ : ∃ q, lowL s k = q := ⟨_, rfl⟩
      have hql : q.length ≤ s.size := by rw [← hq]; exact lowL_len s k
      obtain ⟨b, eb⟩ : ∃ b, s[k] = b := ⟨_, rfl⟩
      have HQ : Hid (lowL s (k + 1) = q ++ [lowB b]) := by show _ = _; rw [lowL_more s k hlt, hq, eb]
      rw [hq] at HW hown
      obtain ⟨pv, cv, ev⟩ := own_form hown
      subst ev
      clear hown hq
      have hlen : q.length + 1 ≤ 140737488351233 := by omega
      go_upto_region 5 with fail
      go_wp2_with fail
      refine (small_any b _).mono ?_
      rintro e w1 ⟨rfl, rfl⟩
      go_wp2_with (at_builtin; refine wpList_append_own _ rfl _ _ 53 rfl w.heap.size 5 i0 (.int .u8 0) 1 1 Tryd.underlying53 hi hz0 hz1 hz2 rfl (by decide) _ _ _ rfl (World.ownsRow.alloc HW.out _) ⟨w1.heap.size, 0, none⟩ 1 1 [.int .u8 ((lowB b).toNat : Int)] rfl rfl ?c1 ?c2 ?c3 ?c4 ?c5 ?_)
      case c1 =>
        intro t u hj
        match t, hj with
        | 0, hj => simp at hj; subst hj; simp [Addr.add]
      case c2 => intro u hu; simp at hu; subst hu; rfl
      case c3 => unfold maxLen; omega
      case c4 => omega
      case c5 => simp; omega
      · intro v' w4 hown' hgrow _
        have HW4 : Hid (w4.ownsRow w.heap.size 5 1 v' (q ++ [lowB b]).length (bcells (q ++ [lowB b]))) := by
          show w4.ownsRow _ _ _ _ _ _
          rw [bcells_snoc, List.length_append]
          exact hown'
        have HB4 : Hid (Below w.heap.size w w4) := (HB.out.alloc hbz _).grown hgrow (by simp; omega) (fun k hk => (World.ownsRow.lt HW.out k hk).1)
        clear hown' hgrow
        go_wp2
        go_roundw
        case rel => exact ⟨k + 1, by go_num, hlt, by rw [HQ.out]; exact HW4.out, HB4.out⟩
        case measure => simp [intOf]; omega
    · have HE : Hid (lowL s k = fold s.data.toList) := by show _ = _; unfold lowL; rw [List.take_of_length_le (by rw [list_len]; omega)]
      obtain ⟨pp, cc, ev, hcv⟩ := own_text hown
      subst ev
      clear hown
      go_wp2
      go_ret
      exact ⟨by unfold foldB; rw [← HE.out]; rfl, HB.out⟩
end Go.Proofs.YtpckadpnedfkkaaDoor
