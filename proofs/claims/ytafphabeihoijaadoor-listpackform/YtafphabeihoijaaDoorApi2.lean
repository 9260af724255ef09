import Derived.Test.YtafphabeihoijaaDoorApi1
import Derived.Test.YtafphabeihoijaaDoorBegM
namespace Go.Proofs.YtafphabeihoijaaDoor
open Go.RowKit
set_option linter.unusedVariables false
theorem pk_sum {p : ByteArray} {l : List LM.Item} (h : LM.Pk p.data.toList l) : LM.bsum l ≤ 1073741824 := by have := h.size; rw [h.eq, LM.build_len] at this; omega
theorem pk_size {p : ByteArray} {l : List LM.Item} (h : LM.Pk p.data.toList l) : p.size ≤ 281474976710656 := by have := h.size; rw [list_len] at this; omega
open Classical in
theorem outS_two (P : Prop) (L : List UInt8) : ∃ Z x, outS P L = .tuple #[.string Z, .int .i64 x] := by
  unfold outS; split
  · exact ⟨_, _, rfl⟩
  · exact ⟨_, _, rfl⟩
open Classical in
set_option maxHeartbeats 1000000 in
set_option maxRecDepth 100000 in
theorem Insert_in (p : ByteArray) (l : List LM.Item) (h : LM.Pk p.data.toList l) (i : Nat) (hi : i ≤ l.length) (v : Value) (vs : List ByteArray) (hvl : vs.length ≤ 70368744177664) (hvm : ∀ x ∈ vs, x.size ≤ 281474976710656) (w : World) (hv : SRow w v vs) (hw : Lay w) :
    Calls Tryd.prog 16 #[.string p, .int .i64 (i : Int), v] w fun e w' => e = .returned (outS (fitI l i 0 vs) (LM.build (newI l i 0 vs))) ∧ Below w.heap.size w w' := by
  have HRH : Hid (Calls Tryd.prog 24 #[.string p] w (rdP p w)) := read_any p (pk_size h) w hw
  have HSP : Hid (∀ W, SRow W v vs → Lay W → Calls Tryd.prog 28 #[.agg #[.string (strB (LM.bodyOf l)), .int .i64 (l.length : Int)], .int .i64 (i : Int), .int .i64 0, v] W fun e w' => e = .returned (outS (fitI l i 0 vs) (LM.build (newI l i 0 vs))) ∧ Below W.heap.size W w') := fun W hV hW =>
    spl_any l (begC_any l h.wf (pk_sum h)) h.wf (pk_sum h) h.len i 0 (by omega) v vs hvl hvm W hV hW
  have HP : Hid _ := h
  have HV : Hid (SRow w v vs) := hv
  have HW : Hid (Lay w) := hw
  obtain ⟨P, c, rfl⟩ := hv.form
  obtain ⟨Z, x, hZ⟩ := outS_two (fitI l i 0 vs) (LM.build (newI l i 0 vs))
  rw [hZ] at HSP ⊢
  have hl20 := h.len
  clear hv hw h hvm hZ
  go_enter Tryd.func16, Tryd.ntmps16
  go_wp2_with fail
  refine (show Calls _ _ _ _ _ from HRH.out).mono ?_
  rintro e w1 ⟨⟨l', hl', rfl⟩ | ⟨hno, rfl⟩, hb1⟩
  case inr => exact absurd HP.out (hno l)
  have he : l' = l := hl'.uniq HP.out
  subst he
  have HB1 : Hid (Below w.heap.size w (w1.alloc (.cells #[.string (strB (LM.bodyOf l')), .int .i64 (l'.length : Int)] 50))) := hb1.alloc hb1.size _
  clear hb1 hl'
  generalize strB (LM.bodyOf l') = Bo at *
  go_wp2_with fail
  refine (show Calls _ _ _ _ _ from HSP.out _ (HV.out.on HB1.out) (HW.out.on HB1.out)).mono ?_
  rintro e w2 ⟨rfl, hb2⟩
  have HB2 : Hid (Below w.heap.size w w2) := bel_to HB1.out hb2 (Nat.le_refl _)
  clear hb2
  go_wp2
  go_ret2
  exact ⟨rfl, HB2.out⟩
set_option maxHeartbeats 1000000 in
set_option maxRecDepth 100000 in
theorem Insert_out (p : ByteArray) (l : List LM.Item) (h : LM.Pk p.data.toList l) (i : Int) (hi : ¬ (0 ≤ i ∧ i ≤ (l.length : Int))) (v : Value) (vs : List ByteArray) (w : World) (hv : SRow w v vs) (hw : Lay w) :
    Calls Tryd.prog 16 #[.string p, .int .i64 i, v] w fun e w' => e = .returned (.tuple #[.string ⟨#[]⟩, .int .i64 1]) ∧ Below w.heap.size w w' := by
  have HRH : Hid (Calls Tryd.prog 24 #[.string p] w (rdP p w)) := read_any p (pk_size h) w hw
  have HP : Hid _ := h
  obtain ⟨P, c, rfl⟩ := hv.form
  clear hv hw h
  go_enter Tryd.func16, Tryd.ntmps16
  go_wp2_with fail
  refine (show Calls _ _ _ _ _ from HRH.out).mono ?_
  rintro e w1 ⟨⟨l', hl', rfl⟩ | ⟨hno, rfl⟩, hb1⟩
  case inr => exact absurd HP.out (hno l)
  have he : l' = l := hl'.uniq HP.out
  subst he
  have HB1 : Hid (Below w.heap.size w (w1.alloc (.cells #[.string (strB (LM.bodyOf l')), .int .i64 (l'.length : Int)] 50))) := hb1.alloc hb1.size _
  clear hb1 hl'
  generalize strB (LM.bodyOf l') = Bo at *
  by_cases h0 : i < 0
  · go_wp2
    go_ret2
    exact ⟨rfl, HB1.out⟩
  · have h1 : (l'.length : Int) < i := by omega
    go_wp2
    go_ret2
    exact ⟨rfl, HB1.out⟩
set_option maxHeartbeats 1000000 in
set_option maxRecDepth 100000 in
theorem Insert_bad (p : ByteArray) (hp : p.size ≤ 281474976710656) (h : ∀ l, ¬ LM.Pk p.data.toList l) (i : Int) (v : Value) (vs : List ByteArray) (w : World) (hv : SRow w v vs) (hw : Lay w) :
    Calls Tryd.prog 16 #[.string p, .int .i64 i, v] w fun e w' => e = .returned (.tuple #[.string ⟨#[]⟩, .int .i64 60]) ∧ Below w.heap.size w w' := by
  have HRH : Hid (Calls Tryd.prog 24 #[.string p] w (rdP p w)) := read_any p hp w hw
  have HP : Hid _ := h
  obtain ⟨P, c, rfl⟩ := hv.form
  clear hv hw h hp
  go_enter Tryd.func16, Tryd.ntmps16
  go_wp2_with fail
  refine (show Calls _ _ _ _ _ from HRH.out).mono ?_
  rintro e w1 ⟨⟨l', hl', rfl⟩ | ⟨hno, rfl⟩, hb1⟩
  · exact absurd hl' (HP.out l')
  · have HB1 : Hid (Below w.heap.size w (w1.alloc (.cells #[.string ⟨#[]⟩, .int .i64 0] 50))) := hb1.alloc hb1.size _
    clear hb1 hno
    go_wp2
    go_ret2
    exact ⟨rfl, HB1.out⟩
end Go.Proofs.YtafphabeihoijaaDoor
