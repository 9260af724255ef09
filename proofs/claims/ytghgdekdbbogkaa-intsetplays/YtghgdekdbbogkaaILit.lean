import Derived.Test.YtghgdekdbbogkaaIMath
namespace Go.Proofs.Ytghgdekdbbogkaa
open Go.RowKit IM
set_option linter.unusedVariables false
theorem leB_emod (w : Nat) (n : Int) (h : w ≤ 8) : leB w (n % 18446744073709551616) = leB w n := by
  refine leN_inj _ _ (by rw [leB_len, leB_len]) ?_
  have h1 := leN_leB w (n % 18446744073709551616); have h2 := leN_leB w n
  have hd : ((256 ^ w : Nat) : Int) ∣ 18446744073709551616 := by
    have : (256 ^ w : Nat) ∣ 256 ^ 8 := Nat.pow_dvd_pow 256 h
    have e : (256 ^ 8 : Nat) = 18446744073709551616 := by decide
    rw [e] at this
    exact Int.natCast_dvd_natCast.2 this
  rw [Int.emod_emod_of_dvd _ hd] at h1
  omega
set_option maxHeartbeats 1000000 in
set_option maxRecDepth 100000 in
theorem little_any (x : Int) (n : Nat) (h0 : -9223372036854775808 ≤ x) (hx : x ≤ 9223372036854775807) (h8 : n ≤ 8) (w : World) :
    Calls Try.prog 53 #[.int .i64 x, .int .i64 n] w fun e w' => e = .returned (.string (strB (leB n x))) ∧ Below w.heap.size w w' := by
  obtain ⟨i0, hi, hz0, hz1, hz2⟩ := info_parts info5
  go_enter Try.func53, Try.ntmps53
  go_wp2
  go_loopw [5, 6, 7] (fun v uu i wr => ∃ (j : Nat) (d : List UInt8) (u : Int), j ≤ n ∧ i = .int .i64 j ∧ d.length = j ∧ uu = .int .u64 u ∧ 0 ≤ u ∧ u < 18446744073709551616 ∧ d ++ leB (n - j) u = leB n x ∧ wr.ownsRow w.heap.size 5 1 v d.length (bcells d) ∧ Below w.heap.size w wr) (fun _ _ i _ => n - (intOf i).toNat)
  case atStart => exact ⟨0, [], x % 18446744073709551616, by omega, rfl, rfl, by rw [IntKind.wrap_u64], by omega, by omega, by rw [List.nil_append, Nat.sub_zero, leB_emod _ _ h8], World.ownsRow_nil _ _ _ _, Below.refl _ _⟩
  case round =>
    obtain ⟨j, d, u, hm, rfl, hd, rfl, hu0, hu1, heq, hown, hbel⟩ := hrel
    have HE : Hid (d ++ leB (n - j) u = leB n x) := heq
    have HW : Hid (wr.ownsRow w.heap.size 5 1 u5 d.length (bcells d)) := hown
    have HB : Hid (Below w.heap.size w wr) := hbel
    clear heq hown hbel
    by_cases hlt : j < n
    · have hbz : w.heap.size ≤ wr.heap.size := HB.out.size
      have hmo : u % 256 = ((UInt8.ofNat (u % 256).toNat).toNat : Int) := by rw [ofNat_toNat _ (by omega)]; omega
      have HS : Hid (d ++ [UInt8.ofNat (u % 256).toNat] ++ leB (n - (j + 1)) (u / 256) = leB n x) := by
        have h1 := HE.out
        rw [show n - j = (n - (j + 1)) + 1 by omega] at h1
        rw [List.append_assoc]; exact h1
      generalize UInt8.ofNat (u % 256).toNat = b at hmo HS
      go_wp2_with (at_builtin; go_must (refine wpList_append_own _ rfl _ _ 50 rfl w.heap.size 5 i0 (.int .u8 0) 1 1 Try.underlying50 hi hz0 hz1 hz2 rfl (by decide) _ _ _ rfl (World.ownsRow.alloc HW.out _) ⟨wr.heap.size, 0, none⟩ 1 1 [.int .u8 (b.toNat : Int)] rfl rfl ?c1 ?c2 ?c3 ?c4 ?c5 ?_))
      case c1 =>
        intro t u hj
        match t, hj with
        | 0, hj => simp at hj; subst hj; simp [Addr.add]
      case c2 => intro u hu; simp at hu; subst hu; rfl
      case c3 => unfold maxLen; omega
      case c4 => omega
      case c5 => simp; omega
      · intro v' w1 hown' hgrow _
        have HW2 : Hid (w1.ownsRow w.heap.size 5 1 v' (d.length + 1) (bcells d ++ [.int .u8 (b.toNat : Int)])) := by rw [hd]; exact hown'
        clear hown'
        go_wp2
        go_roundw
        case rel =>
          refine ⟨j + 1, d ++ [b], u / 256, by omega, by go_num, by simp [hd], by go_num, by omega, by omega, HS.out, ?_, ?_⟩
          · rw [bcells_snoc, List.length_append]
            exact HW2.out
          · exact (HB.out.alloc hbz _).grown hgrow (by simp; omega) (fun k hk => (World.ownsRow.lt HW.out k hk).1)
        case measure => simp [intOf]; omega
    · have hq : d = leB n x := by have h1 := HE.out; rw [show n - j = 0 by omega] at h1; simpa [leB] using h1
      have HQ : Hid (d = leB n x) := hq
      clear hq
      obtain ⟨p, c, rfl, hcv⟩ := own_text HW.out
      rw [hd] at hcv ⊢
      go_wp2
      go_ret
      exact ⟨by rw [HQ.out]; rfl, HB.out⟩
end Go.Proofs.Ytghgdekdbbogkaa
