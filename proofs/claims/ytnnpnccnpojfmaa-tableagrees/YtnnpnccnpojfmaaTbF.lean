import Derived.Test.YtnnpnccnpojfmaaTbE
namespace Go.Proofs.Ytnnpnccnpojfmaa
open Go.RowKit
set_option linter.unusedVariables false
set_option linter.unusedSimpArgs false
theorem rowAt_r (i : Nat) (r : Rw) (h : TB.tab[i]? = some r) (w : World) : Calls Try.prog 24 #[.int .i64 (i : Int)] w fun e w' => e = .returned (.string (strB (TB.txt r))) ∧ w' = w := by
  obtain ⟨hi, e⟩ := List.getElem?_eq_some_iff.1 h
  subst e
  exact rowAt_any i (by rw [TB.tab_len] at hi; exact hi) w
theorem find_hit {L : List UInt8} (i : Nat) (r : Rw) (h : TB.tab[i]? = some r) (hno : ∀ j q, j < i → TB.tab[j]? = some q → q.nm.data.toList ≠ L) (he : r.nm.data.toList = L) : TB.find L = some r := by
  obtain ⟨hi, e⟩ := List.getElem?_eq_some_iff.1 h
  subst e
  exact TB.find_first i hi (fun j hj hji => hno j _ hji (List.getElem?_eq_getElem hj)) he
theorem find_miss {L : List UInt8} (hno : ∀ j q, j < 161 → TB.tab[j]? = some q → q.nm.data.toList ≠ L) : TB.find L = none :=
  TB.find_no fun j hj => hno j _ (by rw [← TB.tab_len]; exact hj) (List.getElem?_eq_getElem hj)
set_option maxHeartbeats 2000000 in
set_option maxRecDepth 20000 in
theorem find_any (s : ByteArray) (hs : s.size ≤ 140737488351232) (w : World) : Calls Try.prog 11 #[.string s] w fun e w' => e = .returned (.tuple #[TB.spec (TB.find (TB.low s.data.toList)), .bool (TB.find (TB.low s.data.toList)).isSome]) ∧ Below w.heap.size w w' := by
  obtain ⟨L, hL⟩ : ∃ L, TB.low s.data.toList = L := ⟨_, rfl⟩
  have HLL : Hid (L.length = s.size) := by show _ = _; rw [← hL, TB.low_len, list_len]
  have HLW : Hid _ := lower_any s (by omega)
  rw [hL] at HLW ⊢
  obtain ⟨lo, hlo⟩ : ∃ lo, strB L = lo := ⟨_, rfl⟩
  have HLO : Hid (lo.data.toList = L) := by show _ = _; rw [← hlo, strB_list]
  rw [hlo] at HLW
  clear hL hlo
  by_cases hbig : 16 < s.size
  · have HF : Hid (TB.find L = none) := TB.find_long (by rw [HLL.out]; exact hbig)
    rw [HF.out]
    have hg : (16 : Int) < (s.size : Int) := by omega
    clear HLW
    go_enter Try.func11, Try.ntmps11
    go_wp2_with fail
    have HG2 : Hid ((w.alloc zspec).heap[w.heap.size]? = some zspec) := one_alloc w _
    obtain ⟨d0, d1, d2, d3, d4, d5, d6, d7, d8, d9, df⟩ := row10 HG2.out
    go_wp2
    refine bodyPost_ret (v := .tuple #[TB.spec none, .bool false]) (by simp [results, Try.results11, go_sem, d0, d1, d2, d3, d4, d5, d6, d7, d8, d9, TB.spec, TB.nmO, TB.leO, TB.moO, TB.wO, TB.aO, TB.sO, TB.fiO, TB.laO, TB.stO, TB.coO]) rfl ⟨rfl, ?_⟩
    exact (Below.refl _ w).alloc (Nat.le_refl _) _
  · have hg : ¬ (16 : Int) < (s.size : Int) := by omega
    go_enter Try.func11, Try.ntmps11
    go_wp2_with fail
    refine (show Calls _ _ _ _ _ from HLW.out _).mono ?_
    rintro e w1 ⟨rfl, hb1⟩
    have HG1 : Hid (w1.heap[w.heap.size]? = some zspec) := keep_row (one_alloc w _) hb1
    have HB1 : Hid (Below w.heap.size w w1) := bel_to ((Below.refl _ w).alloc (Nat.le_refl _) _) hb1 (Nat.le_refl _)
    clear hb1 HLW
    go_wp2
    go_loopw [4, 5, 12] (fun _ _ ci wr => ∃ i : Nat, ci = .int .i64 (i : Int) ∧ i ≤ 161 ∧ (∀ j q, j < i → TB.tab[j]? = some q → q.nm.data.toList ≠ L) ∧ wr.heap[w.heap.size]? = some zspec ∧ Below w.heap.size w wr) (fun _ _ ci _ => 161 - (intOf ci).toNat)
    case atStart => exact ⟨0, rfl, by omega, fun j _ h _ => absurd h (by omega), HG1.out, HB1.out⟩
    case round =>
      obtain ⟨i, rfl, hi, hno, hrow, hbel⟩ := hrel
      have HNO : Hid _ := hno
      have HG : Hid (wr.heap[w.heap.size]? = some zspec) := hrow
      have HB : Hid (Below w.heap.size w wr) := hbel
      clear hno hrow hbel
      by_cases hlt : i < 161
      · obtain ⟨r, hr⟩ : ∃ r, TB.tab[i]? = some r := ⟨_, List.getElem?_eq_getElem (by rw [TB.tab_len]; exact hlt)⟩
        have HR : Hid _ := rowAt_r i r hr
        have HW : Hid (TB.wfB r = true) := TB.wf_at (List.mem_of_getElem? hr)
        have HRE : Hid _ := hr
        have HNM : Hid _ := named_any r HW.out lo
        have HSP : Hid _ := spec_any r HW.out
        unfold TB.spec at HSP
        clear hr HW
        have hz1 : (i : Int) < 161 := by omega
        obtain ⟨S, hS⟩ : ∃ S, strB (TB.txt r) = S := ⟨_, rfl⟩
        rw [hS] at HR HNM HSP
        clear hS
        go_wp2_with fail
        refine (show Calls _ _ _ _ _ from HR.out _).mono ?_
        rintro e wx ⟨rfl, rfl⟩
        go_wp2_with fail
        refine (show Calls _ _ _ _ _ from HNM.out _).mono ?_
        rintro e w2 ⟨⟨b, rfl, hb⟩, k, hw2⟩
        have HBB : Hid _ := hb
        have HG2 : Hid (w2.heap[w.heap.size]? = some zspec) := by rw [hw2]; exact HG.out
        have HB2 : Hid (Below w.heap.size w w2) := by rw [hw2]; exact below_dn HB.out k
        clear hb hw2
        cases b with
        | true =>
          have HF : Hid (TB.find L = some r) := by
            show _ = _
            exact find_hit i r HRE.out HNO.out (by rw [HBB.out.1 rfl, HLO.out])
          go_wp2_with fail
          refine (show Calls _ _ _ _ _ from HSP.out _).mono ?_
          rintro e w3 ⟨rfl, hb3⟩
          have HG3 : Hid (w3.heap[w.heap.size]? = some zspec) := keep_row HG2.out hb3
          have HB3 : Hid (Below w.heap.size w w3) := bel_to HB2.out hb3 (Nat.le_refl _)
          clear hb3
          obtain ⟨d0, d1, d2, d3, d4, d5, d6, d7, d8, d9, df⟩ := row10 HG3.out
          go_wp2
          obtain ⟨hF3, hO3⟩ := heap_set10 _ w.heap.size 28 _ _ _ _ _ _ _ _ _ _ (.string (TB.nmO (some r))) (.int .i64 (TB.leO (some r))) (.int .i64 (TB.moO (some r))) (.bool (TB.wO (some r))) (.bool (TB.aO (some r))) (.bool (TB.sO (some r))) (.int .i64 (TB.fiO (some r))) (.int .i64 (TB.laO (some r))) (.int .i64 (TB.stO (some r))) (.int .i64 (TB.coO (some r))) HG3.out
          obtain ⟨k0, k1, k2, k3, k4, k5, k6, k7, k8, k9, kf⟩ := row10 hF3
          refine bodyPost_ret (v := .tuple #[TB.spec (some r), .bool true]) (by simp [results, Try.results11, go_sem, k0, k1, k2, k3, k4, k5, k6, k7, k8, k9, TB.spec]) rfl ⟨by rw [HF.out]; rfl, ?_⟩
          exact HB3.out.trans (hO3.below (Nat.le_refl _))
        | false =>
          have HNE : Hid (∀ j q, j < i + 1 → TB.tab[j]? = some q → q.nm.data.toList ≠ L) := fun j q hj hq => by
            rcases Nat.lt_succ_iff_lt_or_eq.1 hj with h2 | rfl
            · exact HNO.out j q h2 hq
            · intro he
              have e0 : r = q := by have := HRE.out.symm.trans hq; simpa using this
              have := HBB.out.2 (by rw [HLO.out, ← he, e0])
              cases this
          go_wp2
          go_roundw
          case rel => exact ⟨i + 1, by go_num, by omega, HNE.out, HG2.out, HB2.out⟩
          case measure => simp [intOf]; omega
      · have hie : i = 161 := by omega
        have HF : Hid (TB.find L = none) := find_miss fun j q hj hq => HNO.out j q (by omega) hq
        have hz1 : ¬ (i : Int) < 161 := by omega
        clear hie
        obtain ⟨d0, d1, d2, d3, d4, d5, d6, d7, d8, d9, df⟩ := row10 HG.out
        go_wp2
        obtain ⟨hF3, hO3⟩ := heap_set10 _ w.heap.size 28 _ _ _ _ _ _ _ _ _ _ (.string ⟨#[]⟩) (.int .i64 0) (.int .i64 0) (.bool false) (.bool false) (.bool false) (.int .i64 0) (.int .i64 0) (.int .i64 0) (.int .i64 0) HG.out
        obtain ⟨k0, k1, k2, k3, k4, k5, k6, k7, k8, k9, kf⟩ := row10 hF3
        refine bodyPost_ret (v := .tuple #[TB.spec none, .bool false]) (by simp [results, Try.results11, go_sem, k0, k1, k2, k3, k4, k5, k6, k7, k8, k9, TB.spec, TB.nmO, TB.leO, TB.moO, TB.wO, TB.aO, TB.sO, TB.fiO, TB.laO, TB.stO, TB.coO]) rfl ⟨by rw [HF.out]; rfl, ?_⟩
        exact HB.out.trans (hO3.below (Nat.le_refl _))
end Go.Proofs.Ytnnpnccnpojfmaa
