import Derived.Test.YtnnpnccnpojfmaaTbL
import Derived.Deep.Cut
namespace Go.Proofs.Ytnnpnccnpojfmaa
open Go.RowKit
set_option linter.unusedVariables false
set_option linter.unusedSimpArgs false
def lowL (s : ByteArray) (k : Nat) : List UInt8 := TB.low (s.data.toList.take k)
theorem lowL_more (s : ByteArray) (k : Nat) (h : k < s.size) : lowL s (k + 1) = lowL s k ++ [TB.low1 s[k]] := by
  unfold lowL TB.low
  rw [List.take_add_one, at_list s k h, List.map_append]; rfl
theorem lowL_len (s : ByteArray) (k : Nat) : (lowL s k).length ≤ s.size := by unfold lowL TB.low; rw [List.length_map, List.length_take, list_len]; omega
set_option maxHeartbeats 2000000 in
set_option maxRecDepth 20000 in
theorem rlower_any (s : ByteArray) (hm : s.size ≤ 140737488351232) (w : World) :
    Calls Try.prog 19 #[.string s] w fun e w' => e = .returned (.string (strB (TB.low s.data.toList))) ∧ Below w.heap.size w w' := by
  obtain ⟨i0, hi, hz0, hz1, hz2⟩ := info_parts info5
  go_enter Try.func19, Try.ntmps19
  go_wp2
  go_loopw [3, 4, 5] (fun v i _ wr => ∃ k : Nat, i = .int .i64 (k : Int) ∧ k ≤ s.size ∧ wr.ownsRow w.heap.size 5 1 v (lowL s k).length (bcells (lowL s k)) ∧ Below w.heap.size w wr) (fun _ i _ _ => s.size - (intOf i).toNat)
  case atStart => exact ⟨0, rfl, Nat.zero_le _, World.ownsRow_nil _ _ _ _, Below.refl _ _⟩
  case round =>
    obtain ⟨k, rfl, hk, hown, hbel⟩ := hrel
    have HW : Hid (wr.ownsRow w.heap.size 5 1 u3 (lowL s k).length (bcells (lowL s k))) := hown
    have HB : Hid (Below w.heap.size w wr) := hbel
    have hbz : w.heap.size ≤ wr.heap.size := hbel.size
    clear hbel
    by_cases hlt : k < s.size
    · obtain ⟨q, hq⟩ : ∃ q, lowL s k = q := ⟨_, rfl⟩
      have hql : q.length ≤ s.size := by rw [← hq]; exact lowL_len s k
      obtain ⟨b, eb⟩ : ∃ b, s[k] = b := ⟨_, rfl⟩
      have HQ : Hid (lowL s (k + 1) = q ++ [TB.low1 b]) := by show _ = _; rw [lowL_more s k hlt, hq, eb]
      rw [hq] at HW hown
      obtain ⟨pv, cv, ev⟩ := own_form hown
      subst ev
      clear hown hq
      have hlen : q.length + 1 ≤ 140737488351233 := by omega
      have hz3 : (0 : Int) ≤ (k : Int) := by omega
      have hz4 : (k : Int) < (s.size : Int) := by omega
      have HB8 : Hid (b.toNat < 256) := b.toNat_lt
      obtain ⟨c, ec⟩ : ∃ c, b.toNat = c := ⟨_, rfl⟩
      have ebc : s[k].toNat = c := by rw [eb]; exact ec
      obtain ⟨d, hd⟩ : ∃ d, (TB.low1 b).toNat = d := ⟨_, rfl⟩
      have HD : Hid ((TB.low1 b).toNat = d) := hd
      have hb8 : c < 256 := by rw [← ec]; exact HB8.out
      have HC : Hid ((65 ≤ c ∧ c ≤ 90 ∧ d = c + 32) ∨ (¬ (65 ≤ c ∧ c ≤ 90) ∧ d = c)) := by
        by_cases h : 65 ≤ c ∧ c ≤ 90
        · left; refine ⟨h.1, h.2, ?_⟩; rw [← hd, ← ec]; exact low_of (by omega) (by omega)
        · right; refine ⟨h, ?_⟩; rw [← hd, ← ec, low_not (by omega)]
      clear eb ec hd HB8
      have HAP : Hid (∀ x : Int, x = (d : Int) → ∀ a u, [Value.int .u8 x][a]? = some u → (wr.alloc (.cells #[.int .u8 x] 5)).cell? ((⟨wr.heap.size, 0, none⟩ : Addr).add a) = some u) := fun x hx a u ha => by
        match a, ha with
        | 0, ha => simp at ha; subst ha; rw [Addr.add_lit]; exact (row1 (one_alloc wr (.cells #[.int .u8 x] 5))).1
      by_cases hin : 65 ≤ c ∧ c ≤ 90
      · obtain ⟨g1, g2⟩ := hin
        have hdd : ((c : Int) + 32) = (d : Int) := by rcases HC.out with h | h <;> omega
        have HDD : Hid (((c : Int) + 32) = (d : Int)) := hdd
        clear hdd
        go_upto_region 8 with fail
        go_wp2_with (at_builtin; go_must (refine wpList_append_own _ rfl _ _ 48 rfl w.heap.size 5 i0 (.int .u8 0) 1 1 Try.underlying48 hi hz0 hz1 hz2 rfl (by decide) _ _ _ rfl (World.ownsRow.alloc HW.out _) ⟨wr.heap.size, 0, none⟩ 1 1 [.int .u8 ((c : Int) + 32)] rfl rfl (HAP.out _ HDD.out) ?ca2 ?ca3 ?ca4 ?ca5 ?_))
        case ca2 => first | rfl | (intro u hu; simp at hu; subst hu; rfl)
        case ca3 => unfold maxLen; omega
        case ca4 => omega
        case ca5 => first | omega | (simp; omega)
        intro v' w4 hown' hgrow _
        have HW4 : Hid (w4.ownsRow w.heap.size 5 1 v' (q ++ [TB.low1 b]).length (bcells (q ++ [TB.low1 b]))) := by
          show w4.ownsRow _ _ _ _ _ _
          rw [bcells_snoc, List.length_append, HD.out]
          first | exact hown' | (have e0 := HDD.out; rw [← e0]; exact hown')
        have HB4 : Hid (Below w.heap.size w w4) := (HB.out.alloc hbz _).grown hgrow (by simp; omega) (fun k hk => (World.ownsRow.lt HW.out k hk).1)
        clear hown' hgrow
        go_wp2
        go_roundw
        case rel => exact ⟨k + 1, by go_num, hlt, by rw [HQ.out]; exact HW4.out, HB4.out⟩
        case measure => simp [intOf]; omega
      · have HDD : Hid ((c : Int) = (d : Int)) := by
          show _ = _
          rcases HC.out with h | h <;> omega
        by_cases g1 : 65 ≤ c
        · have g2 : ¬ c ≤ 90 := fun h => hin ⟨g1, h⟩
          clear hin
          go_upto_region 8 with fail
          go_wp2_with (at_builtin; go_must (refine wpList_append_own _ rfl _ _ 48 rfl w.heap.size 5 i0 (.int .u8 0) 1 1 Try.underlying48 hi hz0 hz1 hz2 rfl (by decide) _ _ _ rfl (World.ownsRow.alloc HW.out _) ⟨wr.heap.size, 0, none⟩ 1 1 [.int .u8 ((c : Int))] rfl rfl (HAP.out _ HDD.out) ?cb2 ?cb3 ?cb4 ?cb5 ?_))
          case cb2 => first | rfl | (intro u hu; simp at hu; subst hu; rfl)
          case cb3 => unfold maxLen; omega
          case cb4 => omega
          case cb5 => first | omega | (simp; omega)
          intro v' w4 hown' hgrow _
          have HW4 : Hid (w4.ownsRow w.heap.size 5 1 v' (q ++ [TB.low1 b]).length (bcells (q ++ [TB.low1 b]))) := by
            show w4.ownsRow _ _ _ _ _ _
            rw [bcells_snoc, List.length_append, HD.out]
            first | exact hown' | (have e0 := HDD.out; rw [← e0]; exact hown')
          have HB4 : Hid (Below w.heap.size w w4) := (HB.out.alloc hbz _).grown hgrow (by simp; omega) (fun k hk => (World.ownsRow.lt HW.out k hk).1)
          clear hown' hgrow
          go_wp2
          go_roundw
          case rel => exact ⟨k + 1, by go_num, hlt, by rw [HQ.out]; exact HW4.out, HB4.out⟩
          case measure => simp [intOf]; omega
        · clear hin
          go_upto_region 8 with fail
          go_wp2_with (at_builtin; go_must (refine wpList_append_own _ rfl _ _ 48 rfl w.heap.size 5 i0 (.int .u8 0) 1 1 Try.underlying48 hi hz0 hz1 hz2 rfl (by decide) _ _ _ rfl (World.ownsRow.alloc HW.out _) ⟨wr.heap.size, 0, none⟩ 1 1 [.int .u8 ((c : Int))] rfl rfl (HAP.out _ HDD.out) ?cc2 ?cc3 ?cc4 ?cc5 ?_))
          case cc2 => first | rfl | (intro u hu; simp at hu; subst hu; rfl)
          case cc3 => unfold maxLen; omega
          case cc4 => omega
          case cc5 => first | omega | (simp; omega)
          intro v' w4 hown' hgrow _
          have HW4 : Hid (w4.ownsRow w.heap.size 5 1 v' (q ++ [TB.low1 b]).length (bcells (q ++ [TB.low1 b]))) := by
            show w4.ownsRow _ _ _ _ _ _
            rw [bcells_snoc, List.length_append, HD.out]
            first | exact hown' | (have e0 := HDD.out; rw [← e0]; exact hown')
          have HB4 : Hid (Below w.heap.size w w4) := (HB.out.alloc hbz _).grown hgrow (by simp; omega) (fun k hk => (World.ownsRow.lt HW.out k hk).1)
          clear hown' hgrow
          go_wp2
          go_roundw
          case rel => exact ⟨k + 1, by go_num, hlt, by rw [HQ.out]; exact HW4.out, HB4.out⟩
          case measure => simp [intOf]; omega
    · have HE : Hid (lowL s k = TB.low s.data.toList) := by show _ = _; unfold lowL; rw [List.take_of_length_le (by rw [list_len]; omega)]
      obtain ⟨pp, cc, ev, hcv⟩ := own_text hown
      subst ev
      clear hown
      go_wp2
      go_ret
      exact ⟨by rw [← HE.out]; rfl, HB.out⟩
end Go.Proofs.Ytnnpnccnpojfmaa
