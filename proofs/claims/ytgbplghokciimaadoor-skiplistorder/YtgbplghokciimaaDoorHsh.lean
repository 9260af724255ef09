import Derived.Test.YtgbplghokciimaaDoorRow
namespace Go.Proofs.YtgbplghokciimaaDoor
open Go.RowKit
set_option linter.unusedVariables false
def hstep (h : Int) (c : UInt8) : Int := IntKind.u64.wrap (bits .xor .u64 h (IntKind.u64.wrap (c.toNat : Int)) * 1099511628211)
def hfold (h : Int) (l : List UInt8) : Int := l.foldl hstep h
theorem hfold_snoc (h : Int) (l : List UInt8) (k : Nat) (c : UInt8) (hk : l[k]? = some c) : hfold h (l.take (k + 1)) = hstep (hfold h (l.take k)) c := by
  obtain ⟨hl, e⟩ := List.getElem?_eq_some_iff.1 hk
  unfold hfold; rw [List.take_succ_eq_append_getElem hl, List.foldl_append, e]; rfl
def hseed (seed : Int) : Int := bits .xor .u64 14695981039346656037 (IntKind.u64.wrap seed)
def hmix (h : Int) : Int := IntKind.u64.wrap (bits .xor .u64 h (h / 4294967296) * 11400714819323198485)
def hfin (h : Int) : Int := wrap64 (bits .xor .u64 (hmix h) (hmix h / 536870912) / 2)
def hashT (seed : Int) (s : ByteArray) : Int := hfin (hfold (hseed seed) s.data.toList)
set_option maxHeartbeats 1000000 in
set_option maxRecDepth 100000 in
theorem Hash_any (seed : Int) (s : ByteArray) (hs : s.size ≤ 281474976710656) (w : World) : Calls Tryd.prog 28 #[.int .i64 seed, .string s] w fun e w' => e = .returned (.int .i64 (hashT seed s)) ∧ w' = w := by
  have HH : Hid (hashT seed s = hfin (hfold (hseed seed) s.data.toList)) := rfl
  go_enter Tryd.func28, Tryd.ntmps28
  go_wp2
  go_loopw [5, 12] (fun ch ci wr => wr = w ∧ ∃ k : Nat, k ≤ s.size ∧ ci = .int .i64 (k : Int) ∧ ch = .int .u64 (hfold (hseed seed) (s.data.toList.take k))) (fun _ ci _ => s.size - (intOf ci).toNat)
  case atStart => exact ⟨rfl, 0, by omega, rfl, rfl⟩
  case round =>
    obtain ⟨rfl, k, hk, rfl, rfl⟩ := hrel
    by_cases hlt : k < s.size
    · have HSN : Hid _ := hfold_snoc (hseed seed) s.data.toList k _ (at_list s k hlt)
      generalize hfold (hseed seed) (s.data.toList.take k) = h at *
      go_wp2
      go_roundw
      case rel =>
        refine ⟨trivial, k + 1, hlt, by simp, ?_⟩
        rw [HSN.out]; rfl
      case measure => simp [intOf]; omega
    · have he : k = s.size := by omega
      subst he
      rw [List.take_of_length_le (by rw [list_len]; exact Nat.le_refl _)]
      generalize hfold (hseed seed) s.data.toList = h at *
      go_wp2
      go_ret
      refine ⟨?_, rfl⟩
      rw [HH.out]; rfl
set_option maxHeartbeats 1000000 in
set_option maxRecDepth 100000 in
theorem rHash_any (seed : Int) (s : ByteArray) (hs : s.size ≤ 281474976710656) (w : World) : Calls Tryd.prog 84 #[.int .i64 seed, .string s] w fun e w' => e = .returned (.int .i64 (hashT seed s)) ∧ w' = w := by
  have HH : Hid (hashT seed s = hfin (hfold (hseed seed) s.data.toList)) := rfl
  go_enter Tryd.func84, Tryd.ntmps84
  go_wp2
  go_loopw [5, 6] (fun ch ci wr => wr = w ∧ ∃ k : Nat, k ≤ s.size ∧ ci = .int .i64 (k : Int) ∧ ch = .int .u64 (hfold (hseed seed) (s.data.toList.take k))) (fun _ ci _ => s.size - (intOf ci).toNat)
  case atStart => exact ⟨rfl, 0, by omega, rfl, rfl⟩
  case round =>
    obtain ⟨rfl, k, hk, rfl, rfl⟩ := hrel
    by_cases hlt : k < s.size
    · have HSN : Hid _ := hfold_snoc (hseed seed) s.data.toList k _ (at_list s k hlt)
      generalize hfold (hseed seed) (s.data.toList.take k) = h at *
      go_wp2
      go_roundw
      case rel =>
        refine ⟨trivial, k + 1, hlt, by simp, ?_⟩
        rw [HSN.out]; rfl
      case measure => simp [intOf]; omega
    · have he : k = s.size := by omega
      subst he
      rw [List.take_of_length_le (by rw [list_len]; exact Nat.le_refl _)]
      generalize hfold (hseed seed) s.data.toList = h at *
      go_wp2
      go_ret
      refine ⟨?_, rfl⟩
      rw [HH.out]; rfl
end Go.Proofs.YtgbplghokciimaaDoor
