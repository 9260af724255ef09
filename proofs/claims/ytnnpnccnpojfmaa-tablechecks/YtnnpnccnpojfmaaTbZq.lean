import Derived.Test.YtnnpnccnpojfmaaTbZ0
namespace Go.Proofs.Ytnnpnccnpojfmaa
open Go.RowKit
set_option linter.unusedVariables false
set_option linter.unusedSimpArgs false
set_option maxHeartbeats 4000000 in
set_option maxRecDepth 20000 in
theorem rt_q (args : List ByteArray) (P : Option Addr) (c n : Nat) (w : World) (HC : Hid (Calls Try.prog 20 #[.slice P n c] w fun e w' => e = .returned (.int .i64 130) ∧ Below w.heap.size w w')) (sh : ByteArray) (HSHE : Hid (strB (TB.shown (TB.name0 args).data.toList) = sh)) (hshs : sh.size ≤ 128) (g o : Nat) (hP : P = some ⟨g, o, none⟩) (a : ByteArray) (hcell0 : w.cell? ⟨g, o, none⟩ = some (.string a)) (hn1 : 0 < n) (hz9 : (0 : Int) < (n : Int)) (hz128 : (128 : Int) < (a.size : Int)) (hle : 128 ≤ a.size) (s : ByteArray) (hs : a.extract 0 128 = s) (HSL : Hid (s.data.toList.map TB.shw1 = TB.shown (TB.name0 args).data.toList)) (hss : s.size ≤ 128) : Calls Try.prog 21 #[.slice P n c] w fun e w' => e = .returned (.string (TB.t1 ++ sh ++ TB.t2)) ∧ Below w.heap.size w w' := by
  obtain ⟨i0, hi, hy0, hy1, hy2⟩ := info_parts info5
  subst hP
  go_enter Try.func21, Try.ntmps21
  go_wp2_with fail
  refine (show Calls _ _ _ _ _ from HC.out).mono ?_
  rintro e WB ⟨rfl, hb1⟩
  have HBB : Hid (Below w.heap.size w WB) := hb1
  have hc1 := cell_on hcell0 hb1
  clear hb1 hcell0
  go_wp2
  clear hc1
  go_loopw [4, 5, 6] (fun v i _ wr => ∃ k : Nat, i = .int .i64 (k : Int) ∧ k ≤ s.size ∧ wr.ownsRow WB.heap.size 5 1 v (shwL s k).length (bcells (shwL s k)) ∧ Below WB.heap.size WB wr) (fun _ i _ _ => s.size - (intOf i).toNat)
  case atStart => exact ⟨0, rfl, Nat.zero_le _, World.ownsRow_nil _ _ _ _, Below.refl _ _⟩
  case round =>
    obtain ⟨k, rfl, hk, hown, hbel⟩ := hrel
    have HW : Hid (wr.ownsRow WB.heap.size 5 1 u4 (shwL s k).length (bcells (shwL s k))) := hown
    have HB : Hid (Below WB.heap.size WB wr) := hbel
    have hbz : WB.heap.size ≤ wr.heap.size := hbel.size
    clear hbel
    by_cases hlt : k < s.size
    · obtain ⟨q, hq⟩ : ∃ q, shwL s k = q := ⟨_, rfl⟩
      have hql : q.length ≤ s.size := by rw [← hq]; exact shwL_len s k
      obtain ⟨b, eb⟩ : ∃ b, s[k] = b := ⟨_, rfl⟩
      have HQ : Hid (shwL s (k + 1) = q ++ [TB.shw1 b]) := by show _ = _; rw [shwL_more s k hlt, hq, eb]
      rw [hq] at HW hown
      obtain ⟨pv, cv, ev⟩ := own_form hown
      subst ev
      clear hown hq
      have hz3 : (0 : Int) ≤ (k : Int) := by omega
      have hz4 : (k : Int) < (s.size : Int) := by omega
      obtain ⟨c, ec⟩ : ∃ c, b.toNat = c := ⟨_, rfl⟩
      have ebc : s[k].toNat = c := by rw [eb]; exact ec
      have hb8 : c < 256 := by rw [← ec]; exact b.toNat_lt
      have HSET : Hid ((c < 32 ∨ 126 < c ∨ c = 39) → ((TB.shw1 b).toNat : Int) = 63) := fun h => by rw [shw_of (by rw [ec]; exact h)]; rfl
      have HSAM : Hid (¬ (c < 32 ∨ 126 < c ∨ c = 39) → ((TB.shw1 b).toNat : Int) = (c : Int)) := fun h => by rw [shw_not (by rw [ec]; exact h), ec]
      clear eb ec
      have HAP : Hid (∀ y x : Int, y = x → ∀ a u, [Value.int .u8 x][a]? = some u → (wr.alloc (.cells #[.int .u8 x] 5)).cell? ((⟨wr.heap.size, 0, none⟩ : Addr).add a) = some u) := fun y x _ a u ha => by
        match a, ha with
        | 0, ha => simp at ha; subst ha; rw [Addr.add_lit]; exact (row1 (one_alloc wr (.cells #[.int .u8 x] 5))).1
      by_cases h1 : c < 32
      · have HDD : Hid (((TB.shw1 b).toNat : Int) = 63) := HSET.out (Or.inl h1)
        go_upto_region 15 with fail
        go_wp2_with (at_builtin; go_must (refine wpList_append_own _ rfl _ _ 48 rfl WB.heap.size 5 i0 (.int .u8 0) 1 1 Try.underlying48 hi hy0 hy1 hy2 rfl (by decide) _ _ _ rfl (World.ownsRow.alloc HW.out _) ⟨wr.heap.size, 0, none⟩ 1 1 [.int .u8 (63)] rfl rfl (HAP.out _ (63) rfl) ?qa2 ?qa3 ?qa4 ?qa5 ?_))
        case qa2 => first | rfl | (intro u hu; simp at hu; subst hu; rfl)
        case qa3 => unfold maxLen; omega
        case qa4 => omega
        case qa5 => first | omega | (simp; omega)
        intro v' w4 hown' hgrow _
        have HW4 : Hid (w4.ownsRow WB.heap.size 5 1 v' (q ++ [TB.shw1 b]).length (bcells (q ++ [TB.shw1 b]))) := by
          show w4.ownsRow _ _ _ _ _ _
          rw [bcells_snoc, List.length_append, HDD.out]
          exact hown'
        have HB4 : Hid (Below WB.heap.size WB w4) := (HB.out.alloc hbz _).grown hgrow (by simp; omega) (fun k hk => (World.ownsRow.lt HW.out k hk).1)
        clear hown' hgrow
        go_wp2
        go_roundw
        case rel => exact ⟨k + 1, by go_num, hlt, by rw [HQ.out]; exact HW4.out, HB4.out⟩
        case measure => simp [intOf]; omega
      · by_cases h2 : 126 < c
        · have HDD : Hid (((TB.shw1 b).toNat : Int) = 63) := HSET.out (Or.inr (Or.inl h2))
          go_upto_region 15 with fail
          go_wp2_with (at_builtin; go_must (refine wpList_append_own _ rfl _ _ 48 rfl WB.heap.size 5 i0 (.int .u8 0) 1 1 Try.underlying48 hi hy0 hy1 hy2 rfl (by decide) _ _ _ rfl (World.ownsRow.alloc HW.out _) ⟨wr.heap.size, 0, none⟩ 1 1 [.int .u8 (63)] rfl rfl (HAP.out _ (63) rfl) ?qb2 ?qb3 ?qb4 ?qb5 ?_))
          case qb2 => first | rfl | (intro u hu; simp at hu; subst hu; rfl)
          case qb3 => unfold maxLen; omega
          case qb4 => omega
          case qb5 => first | omega | (simp; omega)
          intro v' w4 hown' hgrow _
          have HW4 : Hid (w4.ownsRow WB.heap.size 5 1 v' (q ++ [TB.shw1 b]).length (bcells (q ++ [TB.shw1 b]))) := by
            show w4.ownsRow _ _ _ _ _ _
            rw [bcells_snoc, List.length_append, HDD.out]
            exact hown'
          have HB4 : Hid (Below WB.heap.size WB w4) := (HB.out.alloc hbz _).grown hgrow (by simp; omega) (fun k hk => (World.ownsRow.lt HW.out k hk).1)
          clear hown' hgrow
          go_wp2
          go_roundw
          case rel => exact ⟨k + 1, by go_num, hlt, by rw [HQ.out]; exact HW4.out, HB4.out⟩
          case measure => simp [intOf]; omega
        · by_cases h3 : c = 39
          · have HDD : Hid (((TB.shw1 b).toNat : Int) = 63) := HSET.out (Or.inr (Or.inr h3))
            have h4 : ((c : Int) == 39) = true := by simp; omega
            clear h3
            go_upto_region 15 with fail
            go_wp2_with (at_builtin; go_must (refine wpList_append_own _ rfl _ _ 48 rfl WB.heap.size 5 i0 (.int .u8 0) 1 1 Try.underlying48 hi hy0 hy1 hy2 rfl (by decide) _ _ _ rfl (World.ownsRow.alloc HW.out _) ⟨wr.heap.size, 0, none⟩ 1 1 [.int .u8 (63)] rfl rfl (HAP.out _ (63) rfl) ?qc2 ?qc3 ?qc4 ?qc5 ?_))
            case qc2 => first | rfl | (intro u hu; simp at hu; subst hu; rfl)
            case qc3 => unfold maxLen; omega
            case qc4 => omega
            case qc5 => first | omega | (simp; omega)
            intro v' w4 hown' hgrow _
            have HW4 : Hid (w4.ownsRow WB.heap.size 5 1 v' (q ++ [TB.shw1 b]).length (bcells (q ++ [TB.shw1 b]))) := by
              show w4.ownsRow _ _ _ _ _ _
              rw [bcells_snoc, List.length_append, HDD.out]
              exact hown'
            have HB4 : Hid (Below WB.heap.size WB w4) := (HB.out.alloc hbz _).grown hgrow (by simp; omega) (fun k hk => (World.ownsRow.lt HW.out k hk).1)
            clear hown' hgrow
            go_wp2
            go_roundw
            case rel => exact ⟨k + 1, by go_num, hlt, by rw [HQ.out]; exact HW4.out, HB4.out⟩
            case measure => simp [intOf]; omega
          · have HDD : Hid (((TB.shw1 b).toNat : Int) = (c : Int)) := HSAM.out (by omega)
            have h4 : ((c : Int) == 39) = false := by simp; omega
            go_upto_region 15 with fail
            go_wp2_with (at_builtin; go_must (refine wpList_append_own _ rfl _ _ 48 rfl WB.heap.size 5 i0 (.int .u8 0) 1 1 Try.underlying48 hi hy0 hy1 hy2 rfl (by decide) _ _ _ rfl (World.ownsRow.alloc HW.out _) ⟨wr.heap.size, 0, none⟩ 1 1 [.int .u8 ((c : Int))] rfl rfl (HAP.out _ ((c : Int)) rfl) ?qd2 ?qd3 ?qd4 ?qd5 ?_))
            case qd2 => first | rfl | (intro u hu; simp at hu; subst hu; rfl)
            case qd3 => unfold maxLen; omega
            case qd4 => omega
            case qd5 => first | omega | (simp; omega)
            intro v' w4 hown' hgrow _
            have HW4 : Hid (w4.ownsRow WB.heap.size 5 1 v' (q ++ [TB.shw1 b]).length (bcells (q ++ [TB.shw1 b]))) := by
              show w4.ownsRow _ _ _ _ _ _
              rw [bcells_snoc, List.length_append, HDD.out]
              exact hown'
            have HB4 : Hid (Below WB.heap.size WB w4) := (HB.out.alloc hbz _).grown hgrow (by simp; omega) (fun k hk => (World.ownsRow.lt HW.out k hk).1)
            clear hown' hgrow
            go_wp2
            go_roundw
            case rel => exact ⟨k + 1, by go_num, hlt, by rw [HQ.out]; exact HW4.out, HB4.out⟩
            case measure => simp [intOf]; omega
    · have HE : Hid (shwL s k = s.data.toList.map TB.shw1) := by show _ = _; unfold shwL; rw [List.take_of_length_le (by rw [list_len]; omega)]
      obtain ⟨pp, cc, ev, hcv⟩ := own_text hown
      subst ev
      rw [HE.out, HSL.out, HSHE.out] at hcv
      clear hown
      obtain ⟨LN, hLN⟩ : ∃ LN, (shwL s k).length = LN := ⟨_, rfl⟩
      have hLN2 : (TB.shown (TB.name0 args).data.toList).length = LN := by rw [← hLN, HE.out, HSL.out]
      rw [hLN2] at hcv
      rw [hLN]
      clear hLN hLN2
      go_wp2
      go_returns
      exact ⟨rfl, bel_to HBB.out HB.out (Nat.le_refl _)⟩
end Go.Proofs.Ytnnpnccnpojfmaa
