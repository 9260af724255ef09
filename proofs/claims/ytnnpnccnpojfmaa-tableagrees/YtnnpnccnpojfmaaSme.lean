import Derived.Test.YtnnpnccnpojfmaaRB
namespace Go.Proofs.Ytnnpnccnpojfmaa
open Go.RowKit
set_option linter.unusedVariables false
set_option maxHeartbeats 1000000 in
set_option maxRecDepth 100000 in
theorem same_any (va vb : Value) (xs ys : List ByteArray) (ha : xs.length ≤ 70368744177664) (hb : ys.length ≤ 70368744177664) (w : World) (hA : SRow w va xs) (hB : SRow w vb ys) :
    Calls Try.prog 17 #[va, vb] w fun e w' => (∃ b, e = .returned (.bool b) ∧ (b = true ↔ xs = ys)) ∧ ∃ k, w' = w.drewN k := by
  obtain ⟨P, c, rfl⟩ := hA.form
  obtain ⟨P', c', rfl⟩ := hB.form
  have HA : Hid (SRow w (.slice P xs.length c) xs) := hA
  have HB : Hid (SRow w (.slice P' ys.length c') ys) := hB
  clear hA hB
  by_cases hl : xs.length = ys.length
  · have HL : Hid (xs.length = ys.length) := hl
    have hll : ((xs.length : Int) == (ys.length : Int)) = true := by simp [hl]
    rw [← hl]
    rw [← hl] at HB
    clear hl hb hll
    go_enter Try.func17, Try.ntmps17
    go_wp2
    go_loopw [5] (fun ci wr => (∃ k, wr = w.drewN k) ∧ ∃ i : Nat, i ≤ xs.length ∧ ci = .int .i64 (i : Int) ∧ ∀ j (h : j < xs.length) (h' : j < ys.length), j < i → xs[j] = ys[j]) (fun ci _ => xs.length - (intOf ci).toNat)
    case atStart => exact ⟨⟨0, rfl⟩, 0, by omega, rfl, fun j _ _ h => absurd h (by omega)⟩
    case round =>
      obtain ⟨⟨kk, hwr⟩, i, hi, rfl, hall⟩ := hrel
      have HWR : Hid (wr = w.drewN kk) := hwr
      have HALL : Hid _ := hall
      clear hall
      by_cases hlt : i < xs.length
      · obtain ⟨g, o, hP, hc1⟩ := (show SRow wr _ _ by rw [hwr]; exact HA.out).cell i hlt
        obtain ⟨g', o', hP', hc2⟩ := (show SRow wr _ _ by rw [hwr]; exact HB.out).cell i (by rw [← HL.out]; exact hlt)
        have hz0 : (0 : Int) ≤ (i : Int) := by omega
        have hz1 : (i : Int) < (xs.length : Int) := by omega
        clear hwr
        subst hP; subst hP'
        obtain ⟨X, hX⟩ : ∃ X, xs[i] = X := ⟨_, rfl⟩
        obtain ⟨Y, hY⟩ : ∃ Y, ys[i]'(by rw [← HL.out]; exact hlt) = Y := ⟨_, rfl⟩
        rw [hX] at hc1
        rw [hY] at hc2
        have HX : Hid _ := hX
        have HY : Hid _ := hY
        clear hX hY
        by_cases hxy : X = Y
        · have hxt : (X.toList == Y.toList) = true := str_same (by rw [hxy])
          have HXY : Hid _ := hxy
          clear hxy
          go_wp2
          go_quiet (fail)
          go_wp2
          go_roundw
          case rel =>
            refine ⟨⟨kk + nq, by rw [HWR.out, World.drewN_drewN]⟩, i + 1, hlt, rfl, fun j h h' hji => ?_⟩
            rcases Nat.lt_succ_iff_lt_or_eq.1 hji with h2 | rfl
            · exact HALL.out j h h' h2
            · exact HX.out.trans (HXY.out.trans HY.out.symm)
          case measure => simp [intOf]; omega
        · have hxf : (X.toList == Y.toList) = false := str_other (fun h => hxy (bytes_ext h))
          have HNE : Hid (¬ xs = ys) := fun h => hxy (by rw [← HX.out, ← HY.out]; simp only [h])
          clear hxy
          go_wp2
          go_quiet (fail)
          go_wp2
          go_ret
          exact ⟨⟨false, rfl, by simpa using HNE.out⟩, kk + nq, by rw [HWR.out, World.drewN_drewN]⟩
      · have he : i = xs.length := by omega
        have HEQ : Hid (xs = ys) := List.ext_getElem HL.out (fun j h1 h2 => HALL.out j h1 h2 (by omega))
        subst he
        clear hwr
        go_wp2
        go_ret
        exact ⟨⟨true, rfl, by simpa using HEQ.out⟩, kk, HWR.out⟩
  · have hlf : ((xs.length : Int) == (ys.length : Int)) = false := by simp; omega
    have HNE : Hid (¬ xs = ys) := fun h => hl (by rw [h])
    have hne : ¬ (xs.length : Int) = (ys.length : Int) := by omega
    clear hl
    obtain ⟨na, hna⟩ : ∃ na : Int, (xs.length : Int) = na := ⟨_, rfl⟩
    go_enter Try.func17, Try.ntmps17
    go_wp2
    go_ret
    exact ⟨⟨false, rfl, by simpa using HNE.out⟩, 0, rfl⟩
end Go.Proofs.Ytnnpnccnpojfmaa
