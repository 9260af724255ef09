import Derived.Test.YtadihhngegimkaaGreatDoorSpl2
namespace Go.Proofs.YtadihhngegimkaaGreatDoor
open Go.RowKit
set_option linter.unusedVariables false
open Classical in
set_option maxHeartbeats 1000000 in
theorem New_any (v : Value) (vs : List ByteArray) (hvl : vs.length ≤ 70368744177664) (hvm : ∀ x ∈ vs, x.size ≤ 281474976710656) (w : World) (hv : SRow w v vs) (hw : Lay w) :
    Calls Tryz.prog 32 #[v] w fun e w' => e = .returned (outS (fitI [] 0 0 vs) (LM.build (newI [] 0 0 vs))) ∧ Below w.heap.size w w' := by
  have HSP : Hid (∀ W, SRow W v vs → Lay W → Calls Tryz.prog 33 #[.agg #[.string ⟨#[]⟩, .int .i64 0], .int .i64 0, .int .i64 0, v] W fun e w' => e = .returned (outS (fitI [] 0 0 vs) (LM.build (newI [] 0 0 vs))) ∧ Below W.heap.size W w') := fun W hV hW =>
    spl_any [] begC_nil (by simp) (by simp [LM.bsum]) (by simp) 0 0 (by simp) v vs hvl hvm W hV hW
  have HV : Hid (SRow w v vs) := hv
  have HW : Hid (Lay w) := hw
  obtain ⟨P, c, rfl⟩ := hv.form
  clear hv hw hvm
  by_cases hf : fitI [] 0 0 vs
  · have HO : Hid (outS (fitI [] 0 0 vs) (LM.build (newI [] 0 0 vs)) = .tuple #[.string (strB (LM.build (newI [] 0 0 vs))), .int .i64 0]) := by show _ = _; unfold outS; rw [if_pos hf]
    rw [HO.out] at HSP ⊢
    clear hf
    generalize strB (LM.build (newI [] 0 0 vs)) = Z at *
    go_enter Tryz.func32, Tryz.ntmps32
    go_wp2_with fail
    refine (show Calls _ _ _ _ _ from HSP.out _ HV.out HW.out).mono ?_
    rintro e w1 ⟨rfl, hb1⟩
    have HB : Hid (Below w.heap.size w w1) := hb1
    clear hb1
    go_wp2
    go_ret2
    exact ⟨rfl, HB.out⟩
  · have HO : Hid (outS (fitI [] 0 0 vs) (LM.build (newI [] 0 0 vs)) = .tuple #[.string ⟨#[]⟩, .int .i64 2]) := by show _ = _; unfold outS; rw [if_neg hf]
    rw [HO.out] at HSP ⊢
    clear hf
    go_enter Tryz.func32, Tryz.ntmps32
    go_wp2_with fail
    refine (show Calls _ _ _ _ _ from HSP.out _ HV.out HW.out).mono ?_
    rintro e w1 ⟨rfl, hb1⟩
    have HB : Hid (Below w.heap.size w w1) := hb1
    clear hb1
    go_wp2
    go_ret2
    exact ⟨rfl, HB.out⟩
set_option maxHeartbeats 1000000 in
theorem Valid_ok (p : ByteArray) (l : List LM.Item) (h : LM.Pk p.data.toList l) (w : World) (hw : Lay w) : Calls Tryz.prog 14 #[.string p] w fun e w' => e = .returned (.int .i64 0) ∧ Below w.heap.size w w' := by
  have HR := read_any p (by have := h.size; rw [list_len] at this; omega) w hw
  have HRH : Hid (Calls Tryz.prog 24 #[.string p] w (rdP p w)) := HR
  have HP : Hid _ := h
  clear HR hw h
  go_enter Tryz.func14, Tryz.ntmps14
  go_wp2_with fail
  refine (show Calls _ _ _ _ _ from HRH.out).mono ?_
  rintro e w1 ⟨⟨l', hl', rfl⟩ | ⟨hno, rfl⟩, hb1⟩
  · have HB : Hid (Below w.heap.size w w1) := hb1
    clear hb1 hl'
    go_wp2
    go_ret
    exact ⟨rfl, HB.out.alloc HB.out.size _⟩
  · exact absurd HP.out (hno l)
set_option maxHeartbeats 1000000 in
theorem Valid_bad (p : ByteArray) (hp : p.size ≤ 281474976710656) (h : ∀ l, ¬ LM.Pk p.data.toList l) (w : World) (hw : Lay w) : Calls Tryz.prog 14 #[.string p] w fun e w' => e = .returned (.int .i64 60) ∧ Below w.heap.size w w' := by
  have HRH : Hid (Calls Tryz.prog 24 #[.string p] w (rdP p w)) := read_any p hp w hw
  have HP : Hid _ := h
  clear hw h hp
  go_enter Tryz.func14, Tryz.ntmps14
  go_wp2_with fail
  refine (show Calls _ _ _ _ _ from HRH.out).mono ?_
  rintro e w1 ⟨⟨l', hl', rfl⟩ | ⟨hno, rfl⟩, hb1⟩
  · exact absurd hl' (HP.out l')
  · have HB : Hid (Below w.heap.size w w1) := hb1
    clear hb1 hno
    go_wp2
    go_ret
    exact ⟨rfl, HB.out.alloc HB.out.size _⟩
set_option maxHeartbeats 1000000 in
theorem Len_ok (p : ByteArray) (l : List LM.Item) (h : LM.Pk p.data.toList l) (w : World) (hw : Lay w) : Calls Tryz.prog 5 #[.string p] w fun e w' => e = .returned (.tuple #[.int .i64 (l.length : Int), .int .i64 0]) ∧ Below w.heap.size w w' := by
  have HRH : Hid (Calls Tryz.prog 24 #[.string p] w (rdP p w)) := read_any p (by have := h.size; rw [list_len] at this; omega) w hw
  have HP : Hid _ := h
  clear hw h
  go_enter Tryz.func5, Tryz.ntmps5
  go_wp2_with fail
  refine (show Calls _ _ _ _ _ from HRH.out).mono ?_
  rintro e w1 ⟨⟨l', hl', rfl⟩ | ⟨hno, rfl⟩, hb1⟩
  · have he : l' = l := hl'.uniq HP.out
    subst he
    have HB : Hid (Below w.heap.size w w1) := hb1
    clear hb1 hl'
    generalize strB (LM.bodyOf l') = Bo
    go_wp2
    go_ret2
    exact ⟨rfl, HB.out.alloc HB.out.size _⟩
  · exact absurd HP.out (hno l)
end Go.Proofs.YtadihhngegimkaaGreatDoor
