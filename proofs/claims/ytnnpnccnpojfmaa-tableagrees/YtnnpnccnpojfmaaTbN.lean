import Derived.Test.YtnnpnccnpojfmaaTbM
namespace Go.Proofs.Ytnnpnccnpojfmaa
open Go.RowKit
set_option linter.unusedVariables false
namespace TB
def name0 : List ByteArray → ByteArray
  | [] => ⟨#[]⟩
  | a :: _ => a
/-- the row that words are of. -/
def row (args : List ByteArray) : Option Rw := find (low (name0 args).data.toList)
abbrev few (o : Option Rw) (n : Nat) : Prop := (n : Int) < leO o ∨ (0 ≤ moO o ∧ moO o < (n : Int))
def err (args : List ByteArray) : Int := match row args with
  | none => 130
  | some r => if few (some r) args.length then 131 else 0
theorem err_none {args : List ByteArray} (h : row args = none) : err args = 130 := by unfold err; rw [h]
theorem err_few {args : List ByteArray} {r : Rw} (h : row args = some r) (hf : few (some r) args.length) : err args = 131 := by unfold err; rw [h]; exact if_pos hf
theorem err_ok {args : List ByteArray} {r : Rw} (h : row args = some r) (hf : ¬ few (some r) args.length) : err args = 0 := by unfold err; rw [h]; exact if_neg hf
theorem row_nil : row [] = none := by
  unfold row
  cases hf : find (low (name0 []).data.toList) with
  | none => rfl
  | some r =>
    obtain ⟨h1, h2⟩ := find_mem hf
    have := (wf_parts (wf_at h1)).1
    have h3 := congrArg List.length h2
    rw [list_len, low_len, list_len] at h3
    rw [h3] at this
    exact absurd this (by decide)
theorem spec_form (o : Option Rw) : ∃ (x0 : ByteArray) (x1 x2 : Int) (x3 x4 x5 : Bool) (x6 x7 x8 x9 : Int), spec o = .agg #[.string x0, .int .i64 x1, .int .i64 x2, .bool x3, .bool x4, .bool x5, .int .i64 x6, .int .i64 x7, .int .i64 x8, .int .i64 x9] ∧ x0 = nmO o ∧ x1 = leO o ∧ x2 = moO o ∧ x6 = fiO o ∧ x7 = laO o ∧ x8 = stO o ∧ x9 = coO o :=
  ⟨_, _, _, _, _, _, _, _, _, _, rfl, rfl, rfl, rfl, rfl, rfl, rfl, rfl⟩
end TB
end Go.Proofs.Ytnnpnccnpojfmaa
