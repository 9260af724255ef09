import Derived.Test.YtafphabeihoijaaDoorApi2
namespace Go.Proofs.YtafphabeihoijaaDoor
open Go.RowKit
set_option linter.unusedVariables false
open Classical in
set_option maxHeartbeats 1000000 in
set_option maxRecDepth 100000 in
theorem Set_in (p : ByteArray) (l : List LM.Item) (h : LM.Pk p.data.toList l) (i : Nat) (hi : i < l.length) (x : ByteArray) (hx : x.size ≤ 281474976710656) (w : World) (hw : Lay w) :
    Calls Tryd.prog 17 #[.string p, .int .i64 (i : Int), .string x] w fun e w' => e = .returned (outS (fitI l i 1 [x]) (LM.build (newI l i 1 [x]))) ∧ Below w.heap.size w w' := by
  have HRH : Hid (Calls Tryd.prog 24 #[.string p] w (rdP p w)) := read_any p (pk_size h) w hw
  have HSP : Hid (∀ v W, SRow W v [x] → Lay W → Calls Tryd.prog 28 #[.agg #[.string (strB (LM.bodyOf l)), .int .i64 (l.length : Int)], .int .i64 (i : Int), .int .i64 1, v] W fun e w' => e = .returned (outS (fitI l i 1 [x]) (LM.build (newI l i 1 [x]))) ∧ Below W.heap.size W w') := fun v W hV hW =>
    spl_any l (begC_any l h.wf (pk_sum h)) h.wf (pk_sum h) h.len i 1 (by omega) v [x] (by simp) (by simpa using hx) W hV hW
  have HP : Hid _ := h
  have HW : Hid (Lay w) := hw
  obtain ⟨Z, y, hZ⟩ := outS_two (fitI l i 1 [x]) (LM.build (newI l i 1 [x]))
  rw [hZ] at HSP ⊢
  have hl20 := h.len
  clear hw h hZ hx
  go_enter Tryd.func17, Tryd.ntmps17
  go_wp2_with fail
  refine (show Calls _ _ _ _ _ from HRH.out).mono ?_
  rintro e w1 ⟨⟨l', hl', rfl⟩ | ⟨hno, rfl⟩, hb1⟩
  case inr => exact absurd HP.out (hno l)
  have he : l' = l := hl'.uniq HP.out
  subst he
  have HB1 : Hid (Below w.heap.size w (w1.alloc (.cells #[.string (strB (LM.bodyOf l')), .int .i64 (l'.length : Int)] 50))) := hb1.alloc hb1.size _
  clear hb1 hl'
  generalize strB (LM.bodyOf l') = Bo at *
  have HB2 : Hid (Below w.heap.size w ((w1.alloc (.cells #[.string Bo, .int .i64 (l'.length : Int)] 50)).alloc (.cells #[.string x] 9))) := HB1.out.alloc HB1.out.size _
  have HSR : Hid (SRow ((w1.alloc (.cells #[.string Bo, .int .i64 (l'.length : Int)] 50)).alloc (.cells #[.string x] 9)) (.slice (some ⟨w1.heap.size + 1, 0, none⟩) 1 1) [x]) := Or.inr ⟨w1.heap.size + 1, 0, 1, rfl, fun j hj => by
    have hj0 : j = 0 := by simpa using hj
    subst hj0
    have := one_alloc (w1.alloc (.cells #[.string Bo, .int .i64 (l'.length : Int)] 50)) (.cells #[.string x] 9)
    rw [World.size_alloc] at this
    exact (row1 this).1⟩
  go_wp2_with fail
  refine (show Calls _ _ _ _ _ from HSP.out _ _ HSR.out (HW.out.on HB2.out)).mono ?_
  rintro e w2 ⟨rfl, hb2⟩
  have HB3 : Hid (Below w.heap.size w w2) := bel_to HB2.out hb2 (Nat.le_refl _)
  clear hb2
  go_wp2
  go_ret2
  exact ⟨rfl, HB3.out⟩
set_option maxHeartbeats 1000000 in
set_option maxRecDepth 100000 in
theorem Set_out (p : ByteArray) (l : List LM.Item) (h : LM.Pk p.data.toList l) (i : Int) (hi : ¬ (0 ≤ i ∧ i < (l.length : Int))) (x : ByteArray) (w : World) (hw : Lay w) :
    Calls Tryd.prog 17 #[.string p, .int .i64 i, .string x] w fun e w' => e = .returned (.tuple #[.string ⟨#[]⟩, .int .i64 6]) ∧ Below w.heap.size w w' := by
  have HRH : Hid (Calls Tryd.prog 24 #[.string p] w (rdP p w)) := read_any p (pk_size h) w hw
  have HP : Hid _ := h
  clear hw h
  go_enter Tryd.func17, Tryd.ntmps17
  go_wp2_with fail
  refine (show Calls _ _ _ _ _ from HRH.out).mono ?_
  rintro e w1 ⟨⟨l', hl', rfl⟩ | ⟨hno, rfl⟩, hb1⟩
  case inr => exact absurd HP.out (hno l)
  have he : l' = l := hl'.uniq HP.out
  subst he
  have HB1 : Hid (Below w.heap.size w (w1.alloc (.cells #[.string (strB (LM.bodyOf l')), .int .i64 (l'.length : Int)] 50))) := hb1.alloc hb1.size _
  clear hb1 hl'
  generalize strB (LM.bodyOf l') = Bo at *
  by_cases h0 : i < 0
  · go_wp2
    go_ret2
    exact ⟨rfl, HB1.out⟩
  · have h1 : (l'.length : Int) ≤ i := by omega
    go_wp2
    go_ret2
    exact ⟨rfl, HB1.out⟩
set_option maxHeartbeats 1000000 in
set_option maxRecDepth 100000 in
theorem Set_bad (p : ByteArray) (hp : p.size ≤ 281474976710656) (h : ∀ l, ¬ LM.Pk p.data.toList l) (i : Int) (x : ByteArray) (w : World) (hw : Lay w) :
    Calls Tryd.prog 17 #[.string p, .int .i64 i, .string x] w fun e w' => e = .returned (.tuple #[.string ⟨#[]⟩, .int .i64 60]) ∧ Below w.heap.size w w' := by
  have HRH : Hid (Calls Tryd.prog 24 #[.string p] w (rdP p w)) := read_any p hp w hw
  have HP : Hid _ := h
  clear hw h hp
  go_enter Tryd.func17, Tryd.ntmps17
  go_wp2_with fail
  refine (show Calls _ _ _ _ _ from HRH.out).mono ?_
  rintro e w1 ⟨⟨l', hl', rfl⟩ | ⟨hno, rfl⟩, hb1⟩
  · exact absurd hl' (HP.out l')
  · have HB1 : Hid (Below w.heap.size w (w1.alloc (.cells #[.string ⟨#[]⟩, .int .i64 0] 50))) := hb1.alloc hb1.size _
    clear hb1 hno
    go_wp2
    go_ret2
    exact ⟨rfl, HB1.out⟩
open Classical in
set_option maxHeartbeats 1000000 in
set_option maxRecDepth 100000 in
theorem Delete_in (p : ByteArray) (l : List LM.Item) (h : LM.Pk p.data.toList l) (i n : Nat) (hi64 : i ≤ 9223372036854775807) (hn64 : n ≤ 9223372036854775807) (w : World) (hw : Lay w) :
    Calls Tryd.prog 19 #[.string p, .int .i64 (i : Int), .int .i64 (n : Int)] w fun e w' => e = .returned (outS (fitI l (min i l.length) (min n (l.length - min i l.length)) []) (LM.build (newI l (min i l.length) (min n (l.length - min i l.length)) []))) ∧ Below w.heap.size w w' := by
  have HRH : Hid (Calls Tryd.prog 24 #[.string p] w (rdP p w)) := read_any p (pk_size h) w hw
  obtain ⟨i', hi'⟩ : ∃ i' : Nat, min i l.length = i' := ⟨_, rfl⟩
  obtain ⟨n', hn'⟩ : ∃ n' : Nat, min n (l.length - i') = n' := ⟨_, rfl⟩
  rw [hi', hn']
  have hm1 : min (i : Int) (l.length : Int) = (i' : Int) := by omega
  have hm2 : min (n : Int) ((l.length : Int) - (i' : Int)) = (n' : Int) := by omega
  have HSP : Hid (∀ W, SRow W (.slice none 0 0) [] → Lay W → Calls Tryd.prog 28 #[.agg #[.string (strB (LM.bodyOf l)), .int .i64 (l.length : Int)], .int .i64 (i' : Int), .int .i64 (n' : Int), .slice none 0 0] W fun e w' => e = .returned (outS (fitI l i' n' []) (LM.build (newI l i' n' []))) ∧ Below W.heap.size W w') := fun W hV hW =>
    spl_any l (begC_any l h.wf (pk_sum h)) h.wf (pk_sum h) h.len i' n' (by omega) _ [] (by simp) (by simp) W hV hW
  have HP : Hid _ := h
  have HW : Hid (Lay w) := hw
  obtain ⟨Z, y, hZ⟩ := outS_two (fitI l i' n' []) (LM.build (newI l i' n' []))
  rw [hZ] at HSP ⊢
  have hl20 := h.len
  have hil : (i' : Int) ≤ (l.length : Int) := by omega
  clear hw h hZ hi' hn'
  go_enter Tryd.func19, Tryd.ntmps19
  go_wp2_with fail
  refine (show Calls _ _ _ _ _ from HRH.out).mono ?_
  rintro e w1 ⟨⟨l', hl', rfl⟩ | ⟨hno, rfl⟩, hb1⟩
  case inr => exact absurd HP.out (hno l)
  have he : l' = l := hl'.uniq HP.out
  subst he
  have HB1 : Hid (Below w.heap.size w (w1.alloc (.cells #[.string (strB (LM.bodyOf l')), .int .i64 (l'.length : Int)] 50))) := hb1.alloc hb1.size _
  clear hb1 hl'
  generalize strB (LM.bodyOf l') = Bo at *
  go_wp2_with fail
  refine (show Calls _ _ _ _ _ from HSP.out _ (Or.inl ⟨rfl, _, _, rfl⟩) (HW.out.on HB1.out)).mono ?_
  rintro e w2 ⟨rfl, hb2⟩
  have HB2 : Hid (Below w.heap.size w w2) := bel_to HB1.out hb2 (Nat.le_refl _)
  clear hb2
  go_wp2
  go_ret2
  exact ⟨rfl, HB2.out⟩
set_option maxHeartbeats 1000000 in
set_option maxRecDepth 100000 in
theorem Delete_out (p : ByteArray) (l : List LM.Item) (h : LM.Pk p.data.toList l) (i n : Int) (hi : i < 0 ∨ n < 0) (w : World) (hw : Lay w) :
    Calls Tryd.prog 19 #[.string p, .int .i64 i, .int .i64 n] w fun e w' => e = .returned (.tuple #[.string ⟨#[]⟩, .int .i64 1]) ∧ Below w.heap.size w w' := by
  have HRH : Hid (Calls Tryd.prog 24 #[.string p] w (rdP p w)) := read_any p (pk_size h) w hw
  have HP : Hid _ := h
  clear hw h
  go_enter Tryd.func19, Tryd.ntmps19
  go_wp2_with fail
  refine (show Calls _ _ _ _ _ from HRH.out).mono ?_
  rintro e w1 ⟨⟨l', hl', rfl⟩ | ⟨hno, rfl⟩, hb1⟩
  case inr => exact absurd HP.out (hno l)
  have he : l' = l := hl'.uniq HP.out
  subst he
  have HB1 : Hid (Below w.heap.size w (w1.alloc (.cells #[.string (strB (LM.bodyOf l')), .int .i64 (l'.length : Int)] 50))) := hb1.alloc hb1.size _
  clear hb1 hl'
  generalize strB (LM.bodyOf l') = Bo at *
  by_cases h0 : i < 0
  · go_wp2
    go_ret2
    exact ⟨rfl, HB1.out⟩
  · have h1 : n < 0 := by omega
    go_wp2
    go_ret2
    exact ⟨rfl, HB1.out⟩
set_option maxHeartbeats 1000000 in
set_option maxRecDepth 100000 in
theorem Delete_bad (p : ByteArray) (hp : p.size ≤ 281474976710656) (h : ∀ l, ¬ LM.Pk p.data.toList l) (i : Int) (n : Int) (w : World) (hw : Lay w) :
    Calls Tryd.prog 19 #[.string p, .int .i64 i, .int .i64 n] w fun e w' => e = .returned (.tuple #[.string ⟨#[]⟩, .int .i64 60]) ∧ Below w.heap.size w w' := by
  have HRH : Hid (Calls Tryd.prog 24 #[.string p] w (rdP p w)) := read_any p hp w hw
  have HP : Hid _ := h
  clear hw h hp
  go_enter Tryd.func19, Tryd.ntmps19
  go_wp2_with fail
  refine (show Calls _ _ _ _ _ from HRH.out).mono ?_
  rintro e w1 ⟨⟨l', hl', rfl⟩ | ⟨hno, rfl⟩, hb1⟩
  · exact absurd hl' (HP.out l')
  · have HB1 : Hid (Below w.heap.size w (w1.alloc (.cells #[.string ⟨#[]⟩, .int .i64 0] 50))) := hb1.alloc hb1.size _
    clear hb1 hno
    go_wp2
    go_ret2
    exact ⟨rfl, HB1.out⟩
end Go.Proofs.YtafphabeihoijaaDoor
