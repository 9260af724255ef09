import Derived.Test.YthjcbolbbdclnaaPieces
import Derived.Test.YthjcbolbbdclnaaUnp
namespace Go.Proofs.Ythjcbolbbdclnaa
open Go.RowKit Lz
set_option linter.unusedVariables false
def packT (q : Option (List UInt8)) : Value :=
  match q with
  | none => .tuple #[.string ⟨#[]⟩, .bool false]
  | some p => .tuple #[.string (strB p), .bool true]
set_option maxHeartbeats 1000000 in
set_option maxRecDepth 20000 in
theorem pack_long (s : ByteArray) (hs : 524288 < s.size) (hm : s.size ≤ 140737488355328) (w : World) :
    Calls Try.prog 8 #[.string s] w fun e w' => e = .returned (packT (packF s.data.toList)) ∧ Below w.heap.size w w' := by
  have HP : Hid (packF s.data.toList = none) := packF_long _ (by rw [list_len]; exact hs)
  go_enter Try.func8, Try.ntmps8
  go_wp2
  go_ret2
  exact ⟨by rw [HP.out]; rfl, Below.refl _ _⟩
set_option maxHeartbeats 1000000 in
set_option maxRecDepth 20000 in
theorem pack_go (s : ByteArray) (hs : s.size ≤ 524288) (w : World) :
    Calls Try.prog 8 #[.string s] w fun e w' => e = .returned (packT (packF s.data.toList)) ∧ Below w.heap.size w w' := by
  have hpl := (pieces_dec s.data.toList).2
  rw [list_len] at hpl
  have HPF : Hid (packF s.data.toList = if s.size < (piecesF s.data.toList).length + 4 then none else some (piecesF s.data.toList)) := by
    show _ = _
    unfold packF
    rw [list_len, if_neg (by omega)]
  have HPC : Hid _ := pieces_any s hs w
  generalize piecesF s.data.toList = q at *
  go_enter Try.func8, Try.ntmps8
  go_wp2_with fail
  refine (show Calls _ _ _ _ _ from HPC.out).mono ?_
  rintro e w1 ⟨v, base, rfl, hown, hb1⟩
  obtain ⟨pp, cc, ev, hcv⟩ := own_text hown
  subst ev
  have HB1 : Hid (Below w.heap.size w w1) := hb1
  clear hown hb1
  by_cases h : s.size < q.length + 4
  · have HX : Hid (packF s.data.toList = none) := by show _ = _; rw [HPF.out, if_pos h]
    go_wp2
    go_ret2
    exact ⟨by rw [HX.out]; rfl, HB1.out⟩
  · have HX : Hid (packF s.data.toList = some q) := by show _ = _; rw [HPF.out, if_neg h]
    go_wp2
    go_ret2
    exact ⟨by rw [HX.out]; rfl, HB1.out⟩
theorem pack_any (s : ByteArray) (hm : s.size ≤ 140737488355328) (w : World) :
    Calls Try.prog 8 #[.string s] w fun e w' => e = .returned (packT (packF s.data.toList)) ∧ Below w.heap.size w w' := by
  rcases Nat.lt_or_ge 524288 s.size with h | h
  · exact pack_long s h hm w
  · exact pack_go s h w
theorem a24 : (⟨#[97, 97, 97, 97, 97, 97, 97, 97, 97, 97, 97, 97, 97, 97, 97, 97, 97, 97, 97, 97, 97, 97, 97, 97]⟩ : ByteArray).data.toList = List.replicate 24 97 := by rfl
set_option maxRecDepth 20000 in
theorem sure_u : unpT (⟨#[0, 97, 192, 0]⟩ : ByteArray).data.toList 9 = .tuple #[.string ⟨#[97, 97, 97, 97, 97, 97, 97, 97, 97]⟩, .int .i64 0] := by kernel_rfl
set_option maxHeartbeats 2000000 in
set_option maxRecDepth 20000 in
theorem sure_any (w : World) :
    Calls Try.prog 9 #[] w fun e w' => e = .returned (.bool true) ∧ Below w.heap.size w w' := by
  have HP0 : Hid (packF (⟨#[97, 97, 97, 97, 97, 97, 97, 97, 97, 97, 97, 97, 97, 97, 97, 97, 97, 97, 97, 97, 97, 97, 97, 97]⟩ : ByteArray).data.toList = some (piecesF (List.replicate 24 97))) := by
    show _ = _
    rw [a24]; exact packF_same 24 97 (by omega) (by omega)
  have hbk := packF_back (packF_same 24 97 (by omega) (by omega))
  have HU : Hid _ := fun w => unpack_any ⟨#[0, 97, 192, 0]⟩ 9 (by decide) w
  have HPK : Hid _ := fun w => pack_any ⟨#[97, 97, 97, 97, 97, 97, 97, 97, 97, 97, 97, 97, 97, 97, 97, 97, 97, 97, 97, 97, 97, 97, 97, 97]⟩ (by decide) w
  generalize piecesF (List.replicate 24 97) = q at *
  have HU2 : Hid (∀ w : World, Calls Try.prog 10 #[.string (strB q), .int .i64 24] w fun e w' => e = .returned (.tuple #[.string ⟨#[97, 97, 97, 97, 97, 97, 97, 97, 97, 97, 97, 97, 97, 97, 97, 97, 97, 97, 97, 97, 97, 97, 97, 97]⟩, .int .i64 0]) ∧ Below w.heap.size w w') := fun w => by
    have h1 := hbk.2.1
    simp only [List.length_replicate] at h1
    have := unpack_any (strB q) 24 (by rw [strB_size]; omega) w
    rw [strB_list] at this
    have e : unpT q 24 = .tuple #[.string ⟨#[97, 97, 97, 97, 97, 97, 97, 97, 97, 97, 97, 97, 97, 97, 97, 97, 97, 97, 97, 97, 97, 97, 97, 97]⟩, .int .i64 0] := by
      have h2 : unpack q 24 = (List.replicate 24 97, 0) := hbk.1
      exact pair_eq h2
    rw [e] at this
    exact this
  clear hbk
  go_enter Try.func9, Try.ntmps9
  go_wp2_with fail
  refine (show Calls _ _ _ _ _ from HU.out w).mono ?_
  rintro e w1 ⟨rfl, hb1⟩
  rw [sure_u]
  have HB1 : Hid (Below w.heap.size w w1) := hb1
  clear hb1
  go_wp2_with fail
  refine (show Calls _ _ _ _ _ from HPK.out w1).mono ?_
  rintro e w2 ⟨rfl, hb2⟩
  rw [HP0.out]
  have HB2 : Hid (Below w.heap.size w w2) := HB1.out.trans (hb2.mono HB1.out.size)
  clear hb2
  simp only [packT]
  go_wp2_with fail
  refine (HU2.out w2).mono ?_
  rintro e w3 ⟨rfl, hb3⟩
  have HB3 : Hid (Below w.heap.size w w3) := HB2.out.trans (hb3.mono HB2.out.size)
  clear hb3
  go_wp2
  go_ret
  exact ⟨rfl, HB3.out⟩
end Go.Proofs.Ythjcbolbbdclnaa
