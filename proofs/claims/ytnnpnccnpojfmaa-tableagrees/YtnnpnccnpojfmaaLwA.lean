import Derived.Test.YtnnpnccnpojfmaaLwA0
import Derived.Test.YtnnpnccnpojfmaaLwA1
import Derived.Test.YtnnpnccnpojfmaaLwA2
import Derived.Test.YtnnpnccnpojfmaaLwA3
import Derived.Test.YtnnpnccnpojfmaaLwA4
namespace Go.Proofs.Ytnnpnccnpojfmaa
open Go.RowKit
set_option linter.unusedVariables false
set_option linter.unusedSimpArgs false
set_option maxHeartbeats 2000000 in
set_option maxRecDepth 20000 in
theorem TableAgrees_walk (va : Value) (args : List ByteArray) (w : World) (hA : ARow w va args) : Calls Try.prog 3 #[va] w fun e w' => e = .returned (.bool true) ∧ Below w.heap.size w w' := by
  have hl16 := hA.len
  have hl : args.length ≤ 8796093022208 := by omega
  match args, hA, hl with
  | [], hA, hl =>
    have HC : Hid _ := check_any [] va (by decide) (by decide) w hA.row
    rw [TB.err_none TB.row_nil] at HC
    have HN : Hid _ := num_any
    have HSU : Hid _ := sure_any
    obtain ⟨P, c, rfl⟩ := hA.row.form
    clear hA
    go_enter Try.func3, Try.ntmps3
    go_wp2_with fail
    refine (show Calls _ _ _ _ _ from HC.out).mono ?_
    rintro e w1 ⟨rfl, hb1⟩
    have HB1 : Hid (Below w.heap.size w w1) := hb1
    clear hb1
    go_wp2_with fail
    refine (show Calls _ _ _ _ _ from HN.out _ _).mono ?_
    rintro e wx ⟨rfl, rfl⟩
    go_wp2_with fail
    refine (show Calls _ _ _ _ _ from HSU.out _).mono ?_
    rintro e w2 ⟨rfl, hb2⟩
    have HB2 : Hid (Below w.heap.size w w2) := bel_to HB1.out hb2 (Nat.le_refl _)
    clear hb2
    go_wp2
    go_returns
    exact ⟨rfl, HB2.out⟩
  | a :: l, hA, hl =>
    obtain ⟨P, c, rfl⟩ := hA.row.form
    obtain ⟨g, o, rfl, hcell0⟩ := hA.row.cell 0 (by simp)
    simp only [Nat.add_zero, List.getElem_cons_zero] at hcell0
    have ha := hA.siz a (by simp)
    have h0 := name0_le _ hA.siz
    have HF := find_any a ha
    have HLW := lower_any a (by omega)
    have HCK : ∀ W, SRow W (.slice (some ⟨g, o, none⟩) (a :: l).length c) (a :: l) → Calls Try.prog 9 #[.slice (some ⟨g, o, none⟩) (a :: l).length c] W fun e w' => e = .returned (.int .i64 (TB.err (a :: l))) ∧ Below W.heap.size W w' := fun W h => check_any (a :: l) _ (by omega) h0 W h
    have HKY : ∀ W, SRow W (.slice (some ⟨g, o, none⟩) (a :: l).length c) (a :: l) → Calls Try.prog 14 #[.slice (some ⟨g, o, none⟩) (a :: l).length c] W fun e w' => (∃ v, e = .returned (.tuple #[v, .int .i64 (TB.keys (a :: l)).2]) ∧ SRow w' v (TB.keys (a :: l)).1) ∧ Below W.heap.size W w' := fun W h => (keys_any (a :: l) _ hl hA.siz W h hA.cap).mono (fun e w' hh => by
      obtain ⟨⟨v, h1, h2⟩, h3⟩ := hh
      exact ⟨⟨v, h1, own_srow h2 rfl⟩, h3⟩)
    have HTR : ∀ W, SRow W (.slice (some ⟨g, o, none⟩) (a :: l).length c) (a :: l) → Calls Try.prog 15 #[.slice (some ⟨g, o, none⟩) (a :: l).length c] W fun e w' => e = .returned (.string (TB.trouble (a :: l))) ∧ Below W.heap.size W w' := fun W h => trouble_any (a :: l) _ (by omega) h0 W h
    have hkl : (TB.keys (a :: l)).1.length ≤ 70368744177664 := by have := keys_len (a :: l); omega
    have hkm := keys_mem (a :: l)
    have hkz : (TB.keys (a :: l)).2 = 0 ∨ (TB.keys (a :: l)).1.length = 0 := by
      rcases keys_zero (a :: l) with h | h
      · exact Or.inl h
      · exact Or.inr (by rw [h]; rfl)
    have hte := trouble_empty (a :: l)
    have hfn := find_names (TB.low a.data.toList)
    have hrow : TB.row (a :: l) = TB.find (TB.low a.data.toList) := rfl
    cases hfo : TB.find (TB.low a.data.toList) with
    | none =>
      have he := TB.err_none (hrow.trans hfo)
      rw [hfo] at HF hfn
      rw [he] at HCK hte
      exact ag_none a (strB (TB.low a.data.toList)) (a :: l) g o _ c rfl (by simp) hl w hA.row hcell0 _ _ _ _ _ _ _ _ _ _ HF HLW TB.names TB.names_len (fun h => by have := hfn.2 h; cases this) all_any HCK _ _ _ rfl hkl HKY hkm hkz _ HTR (by rw [hte]; decide)
    | some r =>
      have hnm := find_name hfo
      have hin : strB (TB.low a.data.toList) ∈ TB.names := hfn.1 (by rw [hfo]; rfl)
      rw [hfo] at HF
      obtain ⟨x0, x1, x2, x3, x4, x5, x6, x7, x8, x9, hsp, e0, e1, e2, e6, e7, e8, e9⟩ := TB.spec_form (some r)
      rw [hsp] at HF
      have e0 : x0 = strB (TB.low a.data.toList) := by rw [e0]; exact hnm
      rw [e0] at HF
      rcases err_three (a :: l) with he | he | he
      · exfalso
        unfold TB.err at he
        rw [hrow, hfo] at he
        dsimp only at he
        split at he <;> omega
      · have hfew : TB.few (some r) (a :: l).length := by
          rcases Decidable.em (TB.few (some r) (a :: l).length) with h | h
          · exact h
          · have := TB.err_ok (hrow.trans hfo) h; omega
        rw [he] at HCK hte
        unfold TB.few at hfew
        rw [← e1, ← e2] at hfew
        rcases Int.lt_or_le ((a :: l).length : Int) x1 with q | q
        · exact ag_few a (strB (TB.low a.data.toList)) (a :: l) g o _ c rfl (by simp) hl w hA.row hcell0 x1 x2 x3 x4 x5 x6 x7 x8 x9 q (by omega) HF HLW TB.names TB.names_len hin all_any HCK _ _ _ rfl hkl HKY hkm hkz _ HTR (by rw [hte]; decide)
        · exact ag_many a (strB (TB.low a.data.toList)) (a :: l) g o _ c rfl (by simp) hl w hA.row hcell0 x1 x2 x3 x4 x5 x6 x7 x8 x9 (by omega) q (by omega) (by omega) HF HLW TB.names TB.names_len hin all_any HCK _ _ _ rfl hkl HKY hkm hkz _ HTR (by rw [hte]; decide)
      · have hfew : ¬ TB.few (some r) (a :: l).length := fun h => by
          have := TB.err_few (hrow.trans hfo) h; omega
        rw [he] at HCK hte
        unfold TB.few at hfew
        rw [← e1, ← e2] at hfew
        by_cases q2 : x2 < 0
        · exact ag_any a (strB (TB.low a.data.toList)) (a :: l) g o _ c rfl (by simp) hl w hA.row hcell0 x1 x2 x3 x4 x5 x6 x7 x8 x9 (by omega) (by omega) q2 HF HLW TB.names TB.names_len hin all_any HCK _ _ _ rfl hkl HKY hkm hkz _ HTR (by rw [hte]; decide)
        · exact ag_most a (strB (TB.low a.data.toList)) (a :: l) g o _ c rfl (by simp) hl w hA.row hcell0 x1 x2 x3 x4 x5 x6 x7 x8 x9 (by omega) (by omega) q2 (by omega) HF HLW TB.names TB.names_len hin all_any HCK _ _ _ rfl hkl HKY hkm hkz _ HTR (by rw [hte]; decide)
end Go.Proofs.Ytnnpnccnpojfmaa
