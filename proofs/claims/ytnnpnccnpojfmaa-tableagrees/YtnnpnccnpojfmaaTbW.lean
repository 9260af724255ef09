import Derived.Test.YtnnpnccnpojfmaaTbWa
import Derived.Test.YtnnpnccnpojfmaaTbWb
namespace Go.Proofs.Ytnnpnccnpojfmaa
open Go.RowKit
set_option linter.unusedVariables false
set_option linter.unusedSimpArgs false
set_option maxHeartbeats 1000000 in
theorem rkeys_any (args : List ByteArray) (va : Value) (hl : args.length ≤ 8796093022208) (hz : ∀ x ∈ args, x.size ≤ 140737488351232) (w : World) (hA : SRow w va args) (hcap : CapOk va) : Calls Try.prog 22 #[va] w fun e w' => (∃ v, e = .returned (.tuple #[v, .int .i64 (TB.keys args).2]) ∧ w'.ownsRow w.heap.size 9 1 v (TB.keys args).1.length (sv (TB.keys args).1)) ∧ Below w.heap.size w w' := by
  by_cases he : TB.err args = 0
  · obtain ⟨r, hr⟩ : ∃ r, TB.row args = some r := by
      cases h : TB.row args with
      | none => rw [TB.err_none h] at he; omega
      | some r => exact ⟨r, rfl⟩
    rw [TB.keys_ok hr he]
    match args, hl, hz, hA, he, hr with
    | [], hl, hz, hA, he, hr => rw [TB.row_nil] at hr; cases hr
    | a :: l, hl, hz, hA, he, hr =>
      by_cases hla : r.la < 0
      · exact rkeys_neg r hla a l va hr he hl hz w hA hcap
      · exact rkeys_pos r hla a l va hr he hl hz w hA hcap
  · have HK : Hid (TB.keys args = ([], TB.err args)) := TB.keys_err he
    have HC : Hid _ := rcheck_any args va (by omega) (name0_le args hz) w hA
    rw [HK.out]
    obtain ⟨P, c, rfl⟩ := hA.form
    generalize TB.err args = er at *
    have he1 : (er == 0) = false := by simpa using he
    clear hA hcap hz
    go_enter Try.func22, Try.ntmps22
    go_wp2_with fail
    refine (show Calls _ _ _ _ _ from HC.out).mono ?_
    rintro e w1 ⟨rfl, hb1⟩
    have HB1 : Hid (Below w.heap.size w w1) := hb1
    clear hb1
    go_wp2
    go_returns
    exact ⟨⟨.slice none 0 0, rfl, World.ownsRow_nil _ _ _ _⟩, HB1.out⟩
end Go.Proofs.Ytnnpnccnpojfmaa
