import Derived.Test.YtnnpnccnpojfmaaOpenT
import Derived.Test.YtnnpnccnpojfmaaTbZ
namespace Go.Proofs.Ytnnpnccnpojfmaa
open Go.RowKit
set_option linter.unusedVariables false
set_option linter.unusedSimpArgs false
set_option maxHeartbeats 2000000 in
set_option maxRecDepth 20000 in
theorem TableChecks_walk (va : Value) (args : List ByteArray) (w : World) (hA : ARow w va args) : Calls Try.prog 6 #[va] w fun e w' => e = .returned (.bool true) ∧ Below w.heap.size w w' := by
  have HA : Hid (ARow w va args) := hA
  have hl16 := hA.len
  have hl : args.length ≤ 8796093022208 := by omega
  have h0 := name0_le args hA.siz
  obtain ⟨P, c, hva⟩ := hA.row.form
  have HN : Hid _ := num_any
  have HSU : Hid _ := sure_any
  have HC1 : Hid (∀ W v, SRow W v args → Calls Try.prog 9 #[v] W fun e w' => e = .returned (.int .i64 (TB.err args)) ∧ Below W.heap.size W w') := fun W v h1 => check_any args v (by omega) h0 W h1
  have HC2 : Hid (∀ W v, SRow W v args → Calls Try.prog 20 #[v] W fun e w' => e = .returned (.int .i64 (TB.err args)) ∧ Below W.heap.size W w') := fun W v h1 => rcheck_any args v (by omega) h0 W h1
  have HT1 : Hid (∀ W v, SRow W v args → Calls Try.prog 15 #[v] W fun e w' => e = .returned (.string (TB.trouble args)) ∧ Below W.heap.size W w') := fun W v h1 => trouble_any args v (by omega) h0 W h1
  have HT2 : Hid (∀ W v, SRow W v args → Calls Try.prog 21 #[v] W fun e w' => e = .returned (.string (TB.trouble args)) ∧ Below W.heap.size W w') := fun W v h1 => rtrouble_any args v (by omega) h0 W h1
  obtain ⟨er, her⟩ : ∃ er, TB.err args = er := ⟨_, rfl⟩
  obtain ⟨tr, htr⟩ : ∃ tr, TB.trouble args = tr := ⟨_, rfl⟩
  rw [her] at HC1 HC2
  rw [htr] at HT1 HT2
  clear hA her htr h0
  subst hva
  obtain ⟨n, hn⟩ : ∃ n, args.length = n := ⟨_, rfl⟩
  have HNL : Hid (args.length = n) := hn
  rw [hn] at HA hl16 hl ⊢
  clear hn
  have HE0 : Hid ((w.alloc (.cells #[] 9)).ownsRow w.heap.size 9 1 (.slice (some ⟨w.heap.size, 0, none⟩) 0 0) 0 []) := own_empty w
  have HAW : Hid (Below w.heap.size w (w.alloc (.cells #[] 9))) := (Below.refl _ _).alloc (Nat.le_refl _) _
  go_enter Try.func6, Try.ntmps6
  go_upto_region 1 with fail
  go_wp2_with (at_builtin; go_must (refine wpList_append_srow rfl _ _ rfl w.heap.size (.slice (some ⟨w.heap.size, 0, none⟩) 0 0) 0 [] rfl HE0.out (.slice P n c) args rfl (HA.out.row.on HAW.out) HA.out.nil (by rw [HNL.out]; omega) HAW.out.size ?_))
  intro v1 W1 ho1 hg1
  obtain ⟨pm, cm, hf1⟩ := own_form ho1
  subst hf1
  have HO1 : Hid (W1.ownsRow w.heap.size 9 1 (.slice pm args.length cm) args.length (sv args)) := by show World.ownsRow _ _ _ _ _ _ _; simpa using ho1
  have HB1 : Hid (Below w.heap.size w W1) := HAW.out.grown hg1 HAW.out.size (fun b hb => own_block HE0.out b hb)
  rw [HNL.out] at HO1 ⊢
  have HM1 : Hid (SRow W1 (.slice pm n cm) args) := own_srow HO1.out HNL.out
  have HCP1 : Hid (CapOk (.slice pm n cm)) := own_cap HO1.out
  have HA1 : Hid (SRow W1 (.slice P n c) args) := HA.out.row.on HB1.out
  clear ho1 hg1 HE0 HAW
  go_wp2_with fail
  refine (show Calls _ _ _ _ _ from HC1.out W1 _ HM1.out).mono ?_
  rintro e W2 ⟨rfl, hb2⟩
  have HB2 : Hid (Below W1.heap.size W1 W2) := hb2
  clear hb2
  go_wp2_with fail
  refine (show Calls _ _ _ _ _ from HN.out _ _).mono ?_
  rintro e Wx ⟨rfl, rfl⟩
  go_wp2_with fail
  refine (show Calls _ _ _ _ _ from HC2.out Wx _ (HA1.out.on HB2.out)).mono ?_
  rintro e W3 ⟨rfl, hb3⟩
  have HB3 : Hid (Below W1.heap.size W1 W3) := bel_to HB2.out hb3 (Nat.le_refl _)
  clear hb3
  go_wp2_with fail
  refine (show Calls _ _ _ _ _ from HT1.out W3 _ (HM1.out.on HB3.out)).mono ?_
  rintro e W4 ⟨rfl, hb4⟩
  have HB4 : Hid (Below W1.heap.size W1 W4) := bel_to HB3.out hb4 (Nat.le_refl _)
  clear hb4
  go_wp2_with fail
  refine (show Calls _ _ _ _ _ from HT2.out W4 _ (HA1.out.on HB4.out)).mono ?_
  rintro e W5 ⟨rfl, hb5⟩
  have HB5 : Hid (Below W1.heap.size W1 W5) := bel_to HB4.out hb5 (Nat.le_refl _)
  clear hb5
  have HS2 : Hid _ := same_any (.slice pm n cm) (.slice P n c) args args (by rw [HNL.out]; omega) (by rw [HNL.out]; omega) W5 (HM1.out.on HB5.out) (HA1.out.on HB5.out)
  go_wp2_with fail
  refine (show Calls _ _ _ _ _ from HS2.out).mono ?_
  rintro e W6 ⟨⟨b, rfl, hb⟩, k, hw6⟩
  have hbt : b = true := hb.2 (by first | trivial | rfl)
  subst hbt
  have HB6 : Hid (Below w.heap.size w W6) := by rw [hw6]; exact below_dn (bel_to HB1.out HB5.out (Nat.le_refl _)) k
  clear hb hw6
  go_wp2_with fail
  refine (show Calls _ _ _ _ _ from HSU.out _).mono ?_
  rintro e W7 ⟨rfl, hb7⟩
  have HB7 : Hid (Below w.heap.size w W7) := bel_to HB6.out hb7 (Nat.le_refl _)
  clear hb7
  go_wp2
  go_returns
  exact ⟨rfl, HB7.out⟩
end Go.Proofs.Ytnnpnccnpojfmaa
