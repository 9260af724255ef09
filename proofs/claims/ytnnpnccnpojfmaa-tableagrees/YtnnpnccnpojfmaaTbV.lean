import Derived.Test.YtnnpnccnpojfmaaTbU
namespace Go.Proofs.Ytnnpnccnpojfmaa
open Go.RowKit
set_option linter.unusedVariables false
set_option linter.unusedSimpArgs false
theorem name0_le (args : List ByteArray) (hz : ∀ x ∈ args, x.size ≤ 140737488351232) : (TB.name0 args).size ≤ 140737488351232 := by
  cases args with
  | nil => exact Nat.zero_le _
  | cons a l => exact hz a (by simp)
set_option maxHeartbeats 2000000 in
set_option maxRecDepth 20000 in
theorem keys_any (args : List ByteArray) (va : Value) (hl : args.length ≤ 8796093022208) (hz : ∀ x ∈ args, x.size ≤ 140737488351232) (w : World) (hA : SRow w va args) (hcap : CapOk va) : Calls Try.prog 14 #[va] w fun e w' => (∃ v, e = .returned (.tuple #[v, .int .i64 (TB.keys args).2]) ∧ w'.ownsRow w.heap.size 9 1 v (TB.keys args).1.length (sv (TB.keys args).1)) ∧ Below w.heap.size w w' := by
  have HC : Hid _ := command_any args va (by omega) (name0_le args hz) w hA
  obtain ⟨P, c, hva⟩ := hA.form
  obtain ⟨x0, x1, x2, x3, x4, x5, x6, x7, x8, x9, hsp, e0, e1, e2, e6, e7, e8, e9⟩ := TB.spec_form (TB.row args)
  by_cases he : TB.err args = 0
  · obtain ⟨r, hr⟩ : ∃ r, TB.row args = some r := by
      cases h : TB.row args with
      | none => rw [TB.err_none h] at he; omega
      | some r => exact ⟨r, rfl⟩
    have HK : Hid (TB.keys args = TB.keyR r args) := TB.keys_ok hr he
    rw [HK.out]
    have HKO : Hid (∀ W, Below w.heap.size w W → Calls Try.prog 28 #[.agg #[.string x0, .int .i64 x1, .int .i64 x2, .bool x3, .bool x4, .bool x5, .int .i64 x6, .int .i64 x7, .int .i64 x8, .int .i64 x9], va] W fun e w' => (∃ v, e = .returned (.tuple #[v, .int .i64 (TB.keyR r args).2]) ∧ w'.ownsRow W.heap.size 9 1 v (TB.keyR r args).1.length (sv (TB.keyR r args).1)) ∧ Below W.heap.size W w') := fun W hb => by
      rw [← hsp, hr]
      exact keysOf_any r (TB.row_mem hr) args va hl (TB.row_ok hr he) (fun x hx => by have := hz x hx; omega) W (hA.on hb) hcap
    rw [he, hsp] at HC
    generalize TB.keyR r args = kr at *
    subst hva
    clear hA hcap hz hsp e0 e1 e2 e6 e7 e8 e9 he hr
    go_enter Try.func14, Try.ntmps14
    go_wp2_with fail
    refine (show Calls _ _ _ _ _ from HC.out).mono ?_
    rintro e w1 ⟨rfl, hb1⟩
    have HB1 : Hid (Below w.heap.size w w1) := hb1
    clear hb1
    go_upto_region 2 with fail
    obtain ⟨W3, hW3⟩ : ∃ W, w1.alloc (.cells #[.string x0, .int .i64 x1, .int .i64 x2, .bool x3, .bool x4, .bool x5, .int .i64 x6, .int .i64 x7, .int .i64 x8, .int .i64 x9] 28) = W := ⟨_, rfl⟩
    have HS3 : Hid (W3.heap[w1.heap.size]? = some (.cells #[.string x0, .int .i64 x1, .int .i64 x2, .bool x3, .bool x4, .bool x5, .int .i64 x6, .int .i64 x7, .int .i64 x8, .int .i64 x9] 28)) := by rw [← hW3]; exact one_alloc w1 _
    have HB3 : Hid (Below w.heap.size w W3) := by rw [← hW3]; exact bel_to HB1.out ((Below.refl _ _).alloc (Nat.le_refl _) _) (Nat.le_refl _)
    rw [hW3]
    obtain ⟨SB, hSB⟩ : ∃ SB, w1.heap.size = SB := ⟨_, rfl⟩
    rw [hSB] at HS3 ⊢
    clear hW3 hSB
    obtain ⟨c0, c1, c2, c3, c4, c5, c6, c7, c8, c9, cf⟩ := row10 HS3.out
    go_wp2_with fail
    refine (show Calls _ _ _ _ _ from HKO.out _ HB3.out).mono ?_
    rintro e w4 ⟨⟨v, rfl, hown⟩, hb4⟩
    have HOW : Hid (w4.ownsRow w.heap.size 9 1 v kr.1.length (sv kr.1)) := own_lower hown HB3.out.size
    have HB4 : Hid (Below w.heap.size w w4) := bel_to HB3.out hb4 (Nat.le_refl _)
    clear hown hb4 c0 c1 c2 c3 c4 c5 c6 c7 c8 c9 cf
    go_wp2
    go_returns
    exact ⟨⟨v, rfl, HOW.out⟩, HB4.out⟩
  · have HK : Hid (TB.keys args = ([], TB.err args)) := TB.keys_err he
    rw [HK.out]
    rw [hsp] at HC
    subst hva
    generalize TB.err args = er at *
    have he1 : (er == 0) = false := by simpa using he
    clear hA hcap hz hsp e0 e1 e2 e6 e7 e8 e9
    go_enter Try.func14, Try.ntmps14
    go_wp2_with fail
    refine (show Calls _ _ _ _ _ from HC.out).mono ?_
    rintro e w1 ⟨rfl, hb1⟩
    have HB1 : Hid (Below w.heap.size w w1) := hb1
    clear hb1
    go_wp2
    go_returns
    exact ⟨⟨_, rfl, World.ownsRow_nil _ _ _ _⟩, bel_to HB1.out ((Below.refl _ _).alloc (Nat.le_refl _) _) (Nat.le_refl _)⟩
end Go.Proofs.Ytnnpnccnpojfmaa
