import Derived.Test.YtnnpnccnpojfmaaOpenT
import Derived.Test.YtnnpnccnpojfmaaTbW
namespace Go.Proofs.Ytnnpnccnpojfmaa
open Go.RowKit
set_option linter.unusedVariables false
set_option linter.unusedSimpArgs false
theorem keys_len (args : List ByteArray) : (TB.keys args).1.length ≤ args.length + args.length := by
  unfold TB.keys
  cases hr : TB.row args with
  | none => simp
  | some r =>
    dsimp only
    split
    · unfold TB.keyR
      split
      · have := TB.placed_len (TB.row_mem hr) args; dsimp only; omega
      · split
        · have := TB.placed_len (TB.row_mem hr) args
          rename_i n hn
          dsimp only
          rw [List.length_append, List.length_take, TB.behind_len]; omega
        · simp
    · simp
/-- a row that may be written over. -/
def RowW (W : World) (v : Value) (n base : Nat) : Prop := n = 0 ∨ ∃ g cap cur, v = .slice (some ⟨g, 0, none⟩) n cap ∧ base ≤ g ∧ W.heap[g]? = some (.cells cur 9) ∧ n ≤ cur.size
theorem rowW_of {W : World} {v : Value} {n base : Nat} {xs : List Value} (h : W.ownsRow base 9 1 v n xs) : RowW W v n base := by
  rcases h.2 with ⟨_, e⟩ | ⟨g, cap, cur, rfl, hb, hg, hn, _, hs, _⟩
  · exact Or.inl e
  · exact Or.inr ⟨g, cap, cur, rfl, hb, hg, by omega⟩
set_option maxHeartbeats 4000000 in
set_option maxRecDepth 20000 in
theorem TableKeys_walk (va : Value) (args : List ByteArray) (w : World) (hA : ARow w va args) : Calls Try.prog 7 #[va] w fun e w' => e = .returned (.bool true) ∧ Below w.heap.size w w' := by
  have HA : Hid (ARow w va args) := hA
  have hl16 := hA.len
  have hl : args.length ≤ 8796093022208 := by omega
  obtain ⟨P, c, hva⟩ := hA.row.form
  have HKL : Hid ((TB.keys args).1.length ≤ 70368744177664) := by have := keys_len args; show _ ≤ _; omega
  have HN : Hid _ := num_any
  have HSU : Hid _ := sure_any
  have HK1 : Hid (∀ W v, SRow W v args → CapOk v → Calls Try.prog 14 #[v] W fun e w' => (∃ v, e = .returned (.tuple #[v, .int .i64 (TB.keys args).2]) ∧ w'.ownsRow W.heap.size 9 1 v (TB.keys args).1.length (sv (TB.keys args).1)) ∧ Below W.heap.size W w') := fun W v h1 h2 => keys_any args v hl hA.siz W h1 h2
  have HK2 : Hid (∀ W v, SRow W v args → CapOk v → Calls Try.prog 22 #[v] W fun e w' => (∃ v, e = .returned (.tuple #[v, .int .i64 (TB.keys args).2]) ∧ w'.ownsRow W.heap.size 9 1 v (TB.keys args).1.length (sv (TB.keys args).1)) ∧ Below W.heap.size W w') := fun W v h1 h2 => rkeys_any args v hl hA.siz W h1 h2
  obtain ⟨ks, hks⟩ : ∃ ks, (TB.keys args).1 = ks := ⟨_, rfl⟩
  obtain ⟨er, her⟩ : ∃ er, (TB.keys args).2 = er := ⟨_, rfl⟩
  rw [hks] at HK1 HK2 HKL
  rw [her] at HK1 HK2
  obtain ⟨nk, hnk⟩ : ∃ nk, ks.length = nk := ⟨_, rfl⟩
  have HNK : Hid (ks.length = nk) := hnk
  rw [hnk] at HK1 HK2
  have hnkl : nk ≤ 70368744177664 := by rw [← hnk]; exact HKL.out
  clear hA hks her hnk
  subst hva
  obtain ⟨n, hn⟩ : ∃ n, args.length = n := ⟨_, rfl⟩
  have HNL : Hid (args.length = n) := hn
  rw [hn] at HA hl16 hl ⊢
  clear hn
  have HE0 : Hid ((w.alloc (.cells #[] 9)).ownsRow w.heap.size 9 1 (.slice (some ⟨w.heap.size, 0, none⟩) 0 0) 0 []) := own_empty w
  have HAW : Hid (Below w.heap.size w (w.alloc (.cells #[] 9))) := (Below.refl _ _).alloc (Nat.le_refl _) _
  go_enter Try.func7, Try.ntmps7
  go_upto_region 1 with fail
  go_wp2_with (at_builtin; go_must (refine wpList_append_srow rfl _ _ rfl w.heap.size (.slice (some ⟨w.heap.size, 0, none⟩) 0 0) 0 [] rfl HE0.out (.slice P n c) args rfl (HA.out.row.on HAW.out) HA.out.nil (by rw [HNL.out]; omega) HAW.out.size ?_))
  intro v1 W1 ho1 hg1
  obtain ⟨pm, cm, hf1⟩ := own_form ho1
  subst hf1
  have HO1 : Hid (W1.ownsRow w.heap.size 9 1 (.slice pm args.length cm) args.length (sv args)) := by show World.ownsRow _ _ _ _ _ _ _; simpa using ho1
  have HB1 : Hid (Below w.heap.size w W1) := HAW.out.grown hg1 HAW.out.size (fun b hb => own_block HE0.out b hb)
  rw [HNL.out] at HO1 ⊢
  have HM1 : Hid (SRow W1 (.slice pm n cm) args) := own_srow HO1.out HNL.out
  have HC1 : Hid (CapOk (.slice pm n cm)) := own_cap HO1.out
  have HA1 : Hid (SRow W1 (.slice P n c) args) := HA.out.row.on HB1.out
  clear ho1 hg1 HE0 HAW
  go_wp2_with fail
  refine (show Calls _ _ _ _ _ from HK1.out W1 _ HM1.out HC1.out).mono ?_
  rintro e W2 ⟨⟨vl, rfl, hol⟩, hb2⟩
  have HOL : Hid (W2.ownsRow W1.heap.size 9 1 vl nk (sv ks)) := hol
  have HB2 : Hid (Below W1.heap.size W1 W2) := hb2
  obtain ⟨pl, cl, hfl⟩ := own_form hol
  subst hfl
  clear hol hb2
  go_wp2_with fail
  refine (show Calls _ _ _ _ _ from HK2.out W2 _ (HA1.out.on HB2.out) HA.out.cap).mono ?_
  rintro e W3 ⟨⟨vm, rfl, hom⟩, hb3⟩
  have HRM : Hid (SRow W3 vm ks) := own_srow hom HNK.out
  have HRL : Hid (SRow W3 (.slice pl nk cl) ks) := (own_srow HOL.out HNK.out).on hb3
  have HRW : Hid (RowW W3 (.slice pl nk cl) nk W1.heap.size) := rowW_of (own_on HOL.out hb3)
  have HB3 : Hid (Below W1.heap.size W1 W3) := bel_to HB2.out hb3 (Nat.le_refl _)
  obtain ⟨pn, cn, hfm⟩ := own_form hom
  subst hfm
  have HSM : Hid _ := same_any (.slice pl nk cl) (.slice pn nk cn) ks ks HKL.out HKL.out W3 HRL.out HRM.out
  clear hom hb3
  go_wp2_with fail
  refine (show Calls _ _ _ _ _ from HSM.out).mono ?_
  rintro e W4 ⟨⟨b, rfl, hb⟩, k, hw4⟩
  have hbt : b = true := hb.2 (by first | trivial | rfl)
  subst hbt
  have HB4 : Hid (Below W1.heap.size W1 W4) := by rw [hw4]; exact below_dn HB3.out k
  have HRW4 : Hid (RowW W4 (.slice pl nk cl) nk W1.heap.size) := by rw [hw4]; exact HRW.out
  clear hb hw4
  go_wp2_with fail
  refine (show Calls _ _ _ _ _ from HN.out _ _).mono ?_
  rintro e W5 ⟨rfl, rfl⟩
  go_wp2
  go_loopw [9] (fun ci wr => ∃ i : Nat, ci = .int .i64 (i : Int) ∧ i ≤ nk ∧ Below W1.heap.size W1 wr ∧ RowW wr (.slice pl nk cl) nk W1.heap.size) (fun ci _ => nk - (intOf ci).toNat)
  case atStart => exact ⟨0, rfl, by omega, HB4.out, HRW4.out⟩
  case round =>
    obtain ⟨i, rfl, hi, hbel, hrw⟩ := hrel
    have HB : Hid (Below W1.heap.size W1 wr) := hbel
    have HRR : Hid (RowW wr (.slice pl nk cl) nk W1.heap.size) := hrw
    clear hbel hrw
    by_cases hlt : i < nk
    · obtain ⟨g, cap, cur, hv, hgb, hrow, hcur⟩ : ∃ g cap cur, Value.slice pl nk cl = .slice (some ⟨g, 0, none⟩) nk cap ∧ W1.heap.size ≤ g ∧ wr.heap[g]? = some (.cells cur 9) ∧ nk ≤ cur.size := by
        rcases HRR.out with h | h
        · omega
        · exact h
      injection hv with hpl _ hcl
      subst hpl
      subst hcl
      obtain ⟨y, hy⟩ : ∃ y, cur[i]? = some y := ⟨_, Array.getElem?_eq_getElem (by omega)⟩
      have hcell : wr.cell? ⟨g, i, none⟩ = some y := by rw [cell_of_row _ _ _ _ _ _ hrow]; exact hy
      have hfz : wr.frozen? ⟨g, i, none⟩ = false := frozen_of_row _ _ _ _ _ hrow
      obtain ⟨sp, hsp⟩ : ∃ sp : Value, sp = .string ⟨#[115, 112, 111, 105, 108, 116]⟩ := ⟨_, rfl⟩
      have HR3 : Hid ((wr.setCell ⟨g, i, none⟩ (.string ⟨#[115, 112, 111, 105, 108, 116]⟩)).heap[g]? = some (.cells (cur.setIfInBounds i (.string ⟨#[115, 112, 111, 105, 108, 116]⟩)) 9)) := heap_setCell_same _ _ _ _ _ _ hrow
      have HB3 : Hid (Below W1.heap.size W1 (wr.setCell ⟨g, i, none⟩ (.string ⟨#[115, 112, 111, 105, 108, 116]⟩))) := HB.out.trans (((Only.refl wr g).set i _).below hgb)
      have HGB : Hid (W1.heap.size ≤ g ∧ nk ≤ cur.size) := ⟨hgb, hcur⟩
      have hz0 : (0 : Int) ≤ (i : Int) := by omega
      have hz1 : (i : Int) < (nk : Int) := by omega
      clear hy hrow hgb hcur hsp
      go_wp2
      go_roundw
      case rel => exact ⟨i + 1, by go_num, hlt, HB3.out, Or.inr ⟨g, _, _, rfl, HGB.out.1, HR3.out, by rw [Array.size_setIfInBounds]; exact HGB.out.2⟩⟩
      case measure => simp [intOf]; omega
    · have hie : i = nk := by omega
      subst hie
      have HS2 : Hid _ := same_any (.slice pm n cm) (.slice P n c) args args (by rw [HNL.out]; omega) (by rw [HNL.out]; omega) wr (HM1.out.on HB.out) (HA1.out.on HB.out)
      go_wp2_with fail
      refine (show Calls _ _ _ _ _ from HS2.out).mono ?_
      rintro e W6 ⟨⟨b, rfl, hb⟩, k, hw6⟩
      have hbt : b = true := hb.2 (by first | trivial | rfl)
      subst hbt
      have HB6 : Hid (Below w.heap.size w W6) := by rw [hw6]; exact below_dn (bel_to HB1.out HB.out (Nat.le_refl _)) k
      clear hb hw6
      go_wp2_with fail
      refine (show Calls _ _ _ _ _ from HSU.out _).mono ?_
      rintro e W7 ⟨rfl, hb7⟩
      have HB7 : Hid (Below w.heap.size w W7) := bel_to HB6.out hb7 (Nat.le_refl _)
      clear hb7
      go_wp2
      go_returns
      exact ⟨rfl, HB7.out⟩
end Go.Proofs.Ytnnpnccnpojfmaa
