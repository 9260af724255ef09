import Derived.Test.YtadihhngegimkaaGreatDoorFrmM
import Derived.ArgAppend
import Derived.Deep.CutBlock
import Derived.Deep.CutRange
import Derived.Deep.RegionHeld3
namespace Go.Proofs.YtadihhngegimkaaGreatDoor
open Go.RowKit
set_option linter.unusedVariables false
open Classical in
set_option maxHeartbeats 1000000 in
set_option maxRecDepth 100000 in
theorem Set_in (p : ByteArray) (l : List LM.Item) (h : LM.Pk p.data.toList l) (i : Nat) (hi : i < l.length) (x : ByteArray) (hx : x.size ≤ 281474976710656) (w : World) (hw : Lay w) :
    Calls Tryz.prog 20 #[.string p, .int .i64 (i : Int), .string x] w fun e w' => e = .returned (outS (fitI l i 1 [x]) (LM.build (newI l i 1 [x]))) ∧ Below w.heap.size w w' := by
  have HRH : Hid (Calls Tryz.prog 24 #[.string p] w (rdP p w)) := read_any p (pk_size h) w hw
  have HSP : Hid (∀ v W, SRow W v [x] → Lay W → Calls Tryz.prog 33 #[.agg #[.string (strB (LM.bodyOf l)), .int .i64 (l.length : Int)], .int .i64 (i : Int), .int .i64 1, v] W fun e w' => e = .returned (outS (fitI l i 1 [x]) (LM.build (newI l i 1 [x]))) ∧ Below W.heap.size W w') := fun v W hV hW =>
    spl_any l (begC_any l h.wf (pk_sum h)) h.wf (pk_sum h) h.len i 1 (by omega) v [x] (by simp) (by simpa using hx) W hV hW
  have HP : Hid _ := h
  have HW : Hid (Lay w) := hw
  obtain ⟨Z, y, hZ⟩ := outS_two (fitI l i 1 [x]) (LM.build (newI l i 1 [x]))
  rw [hZ] at HSP ⊢
  have hl20 := h.len
  clear hw h hZ hx
  go_enter Tryz.func20, Tryz.ntmps20
  go_wp2_with fail
  refine (show Calls _ _ _ _ _ from HRH.out).mono ?_
  rintro e w1 ⟨⟨l', hl', rfl⟩ | ⟨hno, rfl⟩, hb1⟩
  case inr => exact absurd HP.out (hno l)
  have he : l' = l := hl'.uniq HP.out
  subst he
  have HB1 : Hid (Below w.heap.size w (w1.alloc (.cells #[.string (strB (LM.bodyOf l')), .int .i64 (l'.length : Int)] 54))) := hb1.alloc hb1.size _
  clear hb1 hl'
  generalize strB (LM.bodyOf l') = Bo at *
  have HB2 : Hid (Below w.heap.size w ((w1.alloc (.cells #[.string Bo, .int .i64 (l'.length : Int)] 54)).alloc (.cells #[.string x] 9))) := HB1.out.alloc HB1.out.size _
  have HSR : Hid (SRow ((w1.alloc (.cells #[.string Bo, .int .i64 (l'.length : Int)] 54)).alloc (.cells #[.string x] 9)) (.slice (some ⟨w1.heap.size + 1, 0, none⟩) 1 1) [x]) := Or.inr ⟨w1.heap.size + 1, 0, 1, rfl, fun j hj => by
    have hj0 : j = 0 := by simpa using hj
    subst hj0
    have := one_alloc (w1.alloc (.cells #[.string Bo, .int .i64 (l'.length : Int)] 54)) (.cells #[.string x] 9)
    rw [World.size_alloc] at this
    exact (row1 this).1⟩
  go_wp2_with fail
  refine (show Calls _ _ _ _ _ from HSP.out _ _ HSR.out (HW.out.on HB2.out)).mono ?_
  rintro e w2 ⟨rfl, hb2⟩
  have HB3 : Hid (Below w.heap.size w w2) := bel_to HB2.out hb2 (Nat.le_refl _)
  clear hb2
  go_wp2
  go_ret2
  exact ⟨rfl, HB3.out⟩
set_option maxHeartbeats 1000000 in
set_option maxRecDepth 100000 in
theorem Set_out (p : ByteArray) (l : List LM.Item) (h : LM.Pk p.data.toList l) (i : Int) (hi : ¬ (0 ≤ i ∧ i < (l.length : Int))) (x : ByteArray) (w : World) (hw : Lay w) :
    Calls Tryz.prog 20 #[.string p, .int .i64 i, .string x] w fun e w' => e = .returned (.tuple #[.string ⟨#[]⟩, .int .i64 6]) ∧ Below w.heap.size w w' := by
  have HRH : Hid (Calls Tryz.prog 24 #[.string p] w (rdP p w)) := read_any p (pk_size h) w hw
  have HP : Hid _ := h
  clear hw h
  go_enter Tryz.func20, Tryz.ntmps20
  go_wp2_with fail
  refine (show Calls _ _ _ _ _ from HRH.out).mono ?_
  rintro e w1 ⟨⟨l', hl', rfl⟩ | ⟨hno, rfl⟩, hb1⟩
  case inr => exact absurd HP.out (hno l)
  have he : l' = l := hl'.uniq HP.out
  subst he
  have HB1 : Hid (Below w.heap.size w (w1.alloc (.cells #[.string (strB (LM.bodyOf l')), .int .i64 (l'.length : Int)] 54))) := hb1.alloc hb1.size _
  clear hb1 hl'
  generalize strB (LM.bodyOf l') = Bo at *
  by_cases h0 : i < 0
  · go_wp2
    go_ret2
    exact ⟨rfl, HB1.out⟩
  · have h1 : (l'.length : Int) ≤ i := by omega
    go_wp2
    go_ret2
    exact ⟨rfl, HB1.out⟩
set_option maxHeartbeats 1000000 in
set_option maxRecDepth 100000 in
theorem Set_bad (p : ByteArray) (hp : p.size ≤ 281474976710656) (h : ∀ l, ¬ LM.Pk p.data.toList l) (i : Int) (x : ByteArray) (w : World) (hw : Lay w) :
    Calls Tryz.prog 20 #[.string p, .int .i64 i, .string x] w fun e w' => e = .returned (.tuple #[.string ⟨#[]⟩, .int .i64 60]) ∧ Below w.heap.size w w' := by
  have HRH : Hid (Calls Tryz.prog 24 #[.string p] w (rdP p w)) := read_any p hp w hw
  have HP : Hid _ := h
  clear hw h hp
  go_enter Tryz.func20, Tryz.ntmps20
  go_wp2_with fail
  refine (show Calls _ _ _ _ _ from HRH.out).mono ?_
  rintro e w1 ⟨⟨l', hl', rfl⟩ | ⟨hno, rfl⟩, hb1⟩
  · exact absurd hl' (HP.out l')
  · have HB1 : Hid (Below w.heap.size w (w1.alloc (.cells #[.string ⟨#[]⟩, .int .i64 0] 54))) := hb1.alloc hb1.size _
    clear hb1 hno
    go_wp2
    go_ret2
    exact ⟨rfl, HB1.out⟩
open Classical in
set_option maxHeartbeats 1000000 in
set_option maxRecDepth 100000 in
theorem Delete_in (p : ByteArray) (l : List LM.Item) (h : LM.Pk p.data.toList l) (i n : Nat) (hi64 : i ≤ 9223372036854775807) (hn64 : n ≤ 9223372036854775807) (w : World) (hw : Lay w) :
    Calls Tryz.prog 22 #[.string p, .int .i64 (i : Int), .int .i64 (n : Int)] w fun e w' => e = .returned (outS (fitI l (min i l.length) (min n (l.length - min i l.length)) []) (LM.build (newI l (min i l.length) (min n (l.length - min i l.length)) []))) ∧ Below w.heap.size w w' := by
  have HRH : Hid (Calls Tryz.prog 24 #[.string p] w (rdP p w)) := read_any p (pk_size h) w hw
  obtain ⟨i', hi'⟩ : ∃ i' : Nat, min i l.length = i' := ⟨_, rfl⟩
  obtain ⟨n', hn'⟩ : ∃ n' : Nat, min n (l.length - i') = n' := ⟨_, rfl⟩
  rw [hi', hn']
  have hm1 : min (i : Int) (l.length : Int) = (i' : Int) := by omega
  have hm2 : min (n : Int) ((l.length : Int) - (i' : Int)) = (n' : Int) := by omega
  have HSP : Hid (∀ W, SRow W (.slice none 0 0) [] → Lay W → Calls Tryz.prog 33 #[.agg #[.string (strB (LM.bodyOf l)), .int .i64 (l.length : Int)], .int .i64 (i' : Int), .int .i64 (n' : Int), .slice none 0 0] W fun e w' => e = .returned (outS (fitI l i' n' []) (LM.build (newI l i' n' []))) ∧ Below W.heap.size W w') := fun W hV hW =>
    spl_any l (begC_any l h.wf (pk_sum h)) h.wf (pk_sum h) h.len i' n' (by omega) _ [] (by simp) (by simp) W hV hW
  have HP : Hid _ := h
  have HW : Hid (Lay w) := hw
  obtain ⟨Z, y, hZ⟩ := outS_two (fitI l i' n' []) (LM.build (newI l i' n' []))
  rw [hZ] at HSP ⊢
  have hl20 := h.len
  have hil : (i' : Int) ≤ (l.length : Int) := by omega
  clear hw h hZ hi' hn'
  go_enter Tryz.func22, Tryz.ntmps22
  go_wp2_with fail
  refine (show Calls _ _ _ _ _ from HRH.out).mono ?_
  rintro e w1 ⟨⟨l', hl', rfl⟩ | ⟨hno, rfl⟩, hb1⟩
  case inr => exact absurd HP.out (hno l)
  have he : l' = l := hl'.uniq HP.out
  subst he
  have HB1 : Hid (Below w.heap.size w (w1.alloc (.cells #[.string (strB (LM.bodyOf l')), .int .i64 (l'.length : Int)] 54))) := hb1.alloc hb1.size _
  clear hb1 hl'
  generalize strB (LM.bodyOf l') = Bo at *
  go_wp2_with fail
  refine (show Calls _ _ _ _ _ from HSP.out _ (Or.inl ⟨rfl, _, _, rfl⟩) (HW.out.on HB1.out)).mono ?_
  rintro e w2 ⟨rfl, hb2⟩
  have HB2 : Hid (Below w.heap.size w w2) := bel_to HB1.out hb2 (Nat.le_refl _)
  clear hb2
  go_wp2
  go_ret2
  exact ⟨rfl, HB2.out⟩
set_option maxHeartbeats 1000000 in
set_option maxRecDepth 100000 in
theorem Delete_out (p : ByteArray) (l : List LM.Item) (h : LM.Pk p.data.toList l) (i n : Int) (hi : i < 0 ∨ n < 0) (w : World) (hw : Lay w) :
    Calls Tryz.prog 22 #[.string p, .int .i64 i, .int .i64 n] w fun e w' => e = .returned (.tuple #[.string ⟨#[]⟩, .int .i64 1]) ∧ Below w.heap.size w w' := by
  have HRH : Hid (Calls Tryz.prog 24 #[.string p] w (rdP p w)) := read_any p (pk_size h) w hw
  have HP : Hid _ := h
  clear hw h
  go_enter Tryz.func22, Tryz.ntmps22
  go_wp2_with fail
  refine (show Calls _ _ _ _ _ from HRH.out).mono ?_
  rintro e w1 ⟨⟨l', hl', rfl⟩ | ⟨hno, rfl⟩, hb1⟩
  case inr => exact absurd HP.out (hno l)
  have he : l' = l := hl'.uniq HP.out
  subst he
  have HB1 : Hid (Below w.heap.size w (w1.alloc (.cells #[.string (strB (LM.bodyOf l')), .int .i64 (l'.length : Int)] 54))) := hb1.alloc hb1.size _
  clear hb1 hl'
  generalize strB (LM.bodyOf l') = Bo at *
  by_cases h0 : i < 0
  · go_wp2
    go_ret2
    exact ⟨rfl, HB1.out⟩
  · have h1 : n < 0 := by omega
    go_wp2
    go_ret2
    exact ⟨rfl, HB1.out⟩
set_option maxHeartbeats 1000000 in
set_option maxRecDepth 100000 in
theorem Delete_bad (p : ByteArray) (hp : p.size ≤ 281474976710656) (h : ∀ l, ¬ LM.Pk p.data.toList l) (i : Int) (n : Int) (w : World) (hw : Lay w) :
    Calls Tryz.prog 22 #[.string p, .int .i64 i, .int .i64 n] w fun e w' => e = .returned (.tuple #[.string ⟨#[]⟩, .int .i64 60]) ∧ Below w.heap.size w w' := by
  have HRH : Hid (Calls Tryz.prog 24 #[.string p] w (rdP p w)) := read_any p hp w hw
  have HP : Hid _ := h
  clear hw h hp
  go_enter Tryz.func22, Tryz.ntmps22
  go_wp2_with fail
  refine (show Calls _ _ _ _ _ from HRH.out).mono ?_
  rintro e w1 ⟨⟨l', hl', rfl⟩ | ⟨hno, rfl⟩, hb1⟩
  · exact absurd hl' (HP.out l')
  · have HB1 : Hid (Below w.heap.size w (w1.alloc (.cells #[.string ⟨#[]⟩, .int .i64 0] 54))) := hb1.alloc hb1.size _
    clear hb1 hno
    go_wp2
    go_ret2
    exact ⟨rfl, HB1.out⟩
end Go.Proofs.YtadihhngegimkaaGreatDoor
namespace Go.Proofs.YtadihhngegimkaaGreatDoor
open Go.RowKit
set_option linter.unusedVariables false
/-- a row of texts in a block of its own, with room for c. -/
def RowAt (w : World) (g c : Nat) (xs : List Value) : Prop := ∃ cur, w.heap[g]? = some (.cells cur 9) ∧ cur.size = c ∧ cur.toList.take xs.length = xs ∧ xs.length ≤ c
theorem RowAt.lt {w : World} {g c : Nat} {xs : List Value} (h : RowAt w g c xs) : g < w.heap.size := by obtain ⟨cur, h1, _⟩ := h; exact row_lt h1
theorem RowAt.on {w w' : World} {g c : Nat} {xs : List Value} (h : RowAt w g c xs) (hb : Below w.heap.size w w') : RowAt w' g c xs := by
  obtain ⟨cur, h1, h2⟩ := h; exact ⟨cur, keep_row h1 hb, h2⟩
theorem RowAt.grown {w w' : World} {g c : Nat} {xs : List Value} {row : Option Nat} (h : RowAt w g c xs) (hg : w.grownBy w' row) (hn : row ≠ some g) : RowAt w' g c xs := by
  obtain ⟨cur, h1, h2⟩ := h; exact ⟨cur, (hg.block g (row_lt h1) (fun e => hn e.symm)).trans h1, h2⟩
theorem RowAt.alloc {w : World} {g c : Nat} {xs : List Value} (h : RowAt w g c xs) (o : Obj) : RowAt (w.alloc o) g c xs := h.on ((Below.refl _ _).alloc (Nat.le_refl _) _)
theorem RowAt.of {w : World} {base g k c : Nat} {xs : List Value} (h : w.ownsRow base 9 1 (.slice (some ⟨g, 0, none⟩) k c) k xs) : RowAt w g c xs := by
  have hl := h.1
  obtain ⟨cur, h1, h2, h3⟩ := rown_form h
  rw [Nat.mul_one] at hl
  refine ⟨cur, h1, h2, by rw [hl]; exact h3, ?_⟩
  have := congrArg List.length h3
  rw [List.length_take, Array.length_toList] at this; omega
theorem RowAt.own {w : World} {g c : Nat} {xs : List Value} (h : RowAt w g c xs) (hc : c ≤ maxLen) : w.ownsRow g 9 1 (.slice (some ⟨g, 0, none⟩) xs.length c) xs.length xs := by
  obtain ⟨cur, h1, h2, h3, h4⟩ := h; exact rown_mk (Nat.le_refl _) h4 hc h1 h2 h3
theorem RowAt.cell {w : World} {g c : Nat} {xs : List Value} (h : RowAt w g c xs) (j : Nat) (x : Value) (hj : xs[j]? = some x) : w.cell? ⟨g, j, none⟩ = some x := by
  obtain ⟨cur, h1, h2, h3, h4⟩ := h
  have hlt := (List.getElem?_eq_some_iff.1 hj).1
  rw [cell_of_row _ _ _ _ _ _ h1, ← Array.getElem?_toList]
  rw [← h3, List.getElem?_take_of_lt hlt] at hj
  exact hj
theorem RowAt.frozen {w : World} {g c : Nat} {xs : List Value} (h : RowAt w g c xs) (j : Nat) : w.frozen? ⟨g, j, none⟩ = false := by
  obtain ⟨cur, h1, _⟩ := h; exact frozen_of_row _ _ _ _ _ h1
/-- one cell of it is written. -/
theorem RowAt.set {w : World} {g c : Nat} {xs : List Value} (h : RowAt w g c xs) (j : Nat) (x : Value) (hj : j < xs.length) : RowAt (w.setCell ⟨g, j, none⟩ x) g c (xs.set j x) := by
  obtain ⟨cur, h1, h2, h3, h4⟩ := h
  refine ⟨cur.setIfInBounds j x, ?_, by simpa using h2, ?_, by simpa using h4⟩
  · rw [heap_setCell_same _ _ _ _ _ _ h1]
  · rw [List.length_set, Array.toList_setIfInBounds, List.take_set, h3]
theorem RowAt.other {w : World} {g c : Nat} {xs : List Value} (h : RowAt w g c xs) (a : Addr) (x : Value) (hn : g ≠ a.block) : RowAt (w.setCell a x) g c xs := by
  obtain ⟨cur, h1, h2⟩ := h; exact ⟨cur, (heap_setCell_other _ _ _ _ hn).trans h1, h2⟩
theorem maxLen_big : (70368744177664 : Nat) ≤ maxLen := by unfold maxLen; omega
/-- append of one text: in its place, or in a new block. -/
theorem wpList_append_row (w : World) {ops : Array Oper} {rest : List Oper} {o : Oper} {a : Act} {Q : Exit → Act → World → Prop} (hg : o.guard = none) (s x : Operand)
    (hop : o.op = Op.call { callee := Callee.builtin Builtin.append, args := #[s, x], argTypes := #[35, 35] })
    (g k c : Nat) (xs : List Value) (hs : a.eval s = .slice (some ⟨g, 0, none⟩) k c) (hk : k = xs.length) (hr : RowAt w g c xs) (hc : c ≤ maxLen) (ad : Addr) (y : ByteArray) (hx : a.eval x = .slice (some ad) 1 1) (hy : w.cell? ad = some (.string y)) (hl : xs.length + 1 ≤ 4398046511104)
    (h : ∀ g' c' w', RowAt w' g' c' (xs ++ [.string y]) → c' ≤ maxLen → ((c < xs.length + 1 ∧ w.heap.size ≤ g' ∧ w.grownBy w' none) ∨ (xs.length + 1 ≤ c ∧ g' = g ∧ w.grownBy w' (some g))) → wpList Tryz.prog ops Q rest (a.put o.dst (.slice (some ⟨g', 0, none⟩) (k + 1) c')) w') :
    wpList Tryz.prog ops Q (o :: rest) a w := by
  subst hk
  obtain ⟨i0, hi, hz0, hz1, hz2⟩ := info_parts info9
  have hnews : ∀ j u, [Value.string y][j]? = some u → w.cell? (ad.add j) = some u := by
    intro j u hj
    match j, hj with
    | 0, hj => simp at hj; subst hj; simpa [Addr.add] using hy
  have h1c : ∀ u ∈ [Value.string y], u.oneCell' = true := by intro u hu; simp at hu; subst hu; rfl
  by_cases hf : xs.length + 1 ≤ c
  · refine wpList_append_fits w hg s x 35 hop g 9 i0 1 Tryz.underlying35 hi hz1 g xs.length c xs hs (hr.own hc) ad 1 1 [.string y] hx rfl hnews h1c hf ?_
    intro w' ho hgr
    refine h g c w' ?_ hc (Or.inr ⟨hf, rfl, hgr⟩)
    exact RowAt.of ho
  · refine wpList_append_grows w hg s x 35 hop 9 i0 (.string ⟨#[]⟩) 1 16 Tryz.underlying35 hi hz0 hz1 hz2 rfl (by decide) (some ⟨g, 0, none⟩) xs.length c xs hs (fun e => by cases e) (by simp) ?_ ad 1 1 [.string y] hx rfl hnews h1c (by omega) (by have := maxLen_big; omega) (by omega) ?_
    · rintro b rfl' j u hj
      cases rfl'
      rw [Lib.add_plain, Nat.zero_add]; exact hr.cell j u hj
    · intro v' w' ho hgr
      obtain ⟨hl', ⟨_, h0⟩ | ⟨g', cap, cur, rfl, hb, hg', q1, q2, q3, q4⟩⟩ := ho
      · omega
      · refine h g' cap w' ⟨cur, hg', by omega, ?_, ?_⟩ q2 (Or.inl ⟨by omega, hb, hgr⟩)
        · rw [List.length_append]; simpa using q4
        · rw [List.length_append]; simpa using q1
/-- what another row has of an append. -/
theorem app_keep {w w' : World} {g g' c n h : Nat} (hcase : (c < n ∧ w.heap.size ≤ g' ∧ w.grownBy w' none) ∨ (n ≤ c ∧ g' = g ∧ w.grownBy w' (some g))) (hne : n ≤ c → h ≠ g) (hlt : h < w.heap.size) :
    g' ≠ h ∧ ∀ k xs, RowAt w h k xs → RowAt w' h k xs := by
  rcases hcase with ⟨h1, h2, h3⟩ | ⟨h1, rfl, h3⟩
  · exact ⟨by omega, fun k xs hr => hr.grown h3 (by intro e; cases e)⟩
  · exact ⟨fun e => hne h1 e.symm, fun k xs hr => hr.grown h3 (by intro e; injection e with e; exact hne h1 e.symm)⟩
theorem app_below {w0 w w' : World} {g g' c n : Nat} (hcase : (c < n ∧ w.heap.size ≤ g' ∧ w.grownBy w' none) ∨ (n ≤ c ∧ g' = g ∧ w.grownBy w' (some g))) (hb : Below w0.heap.size w0 w) (hg : w0.heap.size ≤ g) : Below w0.heap.size w0 w' ∧ w0.heap.size ≤ g' := by
  rcases hcase with ⟨h1, h2, h3⟩ | ⟨h1, rfl, h3⟩
  · exact ⟨hb.grown h3 hb.size (fun k e => by cases e), Nat.le_trans hb.size h2⟩
  · exact ⟨hb.grown h3 hb.size (fun k e => by injection e with e; rw [← e]; exact hg), hg⟩
end Go.Proofs.YtadihhngegimkaaGreatDoor
namespace Go.Proofs.YtadihhngegimkaaGreatDoor
open Go.RowKit
set_option linter.unusedVariables false
/-- a copy of a row of texts, in a block of its own. -/
theorem twin_own (v : Value) (vs : List ByteArray) (hvl : vs.length * 16 ≤ 140737488351232) (w : World) (hv : SRow w v vs) (hnil : ∀ c, v = .slice none 0 c → c = 0) :
    Calls Tryz.prog 17 #[v] w fun e w' => ∃ v', e = .returned v' ∧ w'.ownsRow w.heap.size 9 1 v' vs.length (vs.map Value.string) ∧ Below w.heap.size w w' := by
  obtain ⟨i0, hi, hz0, hz1, hz2⟩ := info_parts info9
  have HO : Hid (w.ownsRow w.heap.size 9 1 (.slice none 0 0) 0 []) := ⟨rfl, Or.inl ⟨rfl, rfl⟩⟩
  rcases hv.forms hnil with ⟨rfl, rfl⟩ | ⟨ad, c, rfl, hc⟩
  · clear hv hnil hvl
    go_enter Tryz.func17, Tryz.ntmps17
    go_wp2_with (at_builtin; go_must (refine wpList_append_own_none rfl _ _ 35 rfl w.heap.size 9 i0 1 Tryz.underlying35 hi _ _ _ rfl HO.out rfl ?_))
    go_wp2
    go_ret
    exact ⟨_, rfl, HO.out, Below.refl _ _⟩
  · have HC : Hid _ := hc
    have HL : Hid (vs.length * 16 ≤ 140737488351232) := hvl
    clear hv hnil hc hvl
    go_enter Tryz.func17, Tryz.ntmps17
    go_wp2_with (at_builtin; go_must (refine wpList_append_own _ rfl _ _ 35 rfl w.heap.size 9 i0 (.string ⟨#[]⟩) 1 16 Tryz.underlying35 hi hz0 hz1 hz2 rfl (by decide) _ _ _ rfl HO.out ad vs.length c (vs.map Value.string) rfl ?t0 HC.out ?t1 ?t2 ?t3 (Nat.le_refl _) ?_))
    case t0 => simp
    case t1 => intro u hu; obtain ⟨x, _, rfl⟩ := List.mem_map.1 hu; rfl
    case t2 => have := HL.out; unfold maxLen; omega
    case t3 => have := HL.out; omega
    intro v' w1 hown' hgrow hiff
    have HS : Hid (w1.ownsRow w.heap.size 9 1 v' vs.length (vs.map Value.string)) := by
      exact hown'
    have HB : Hid (Below w.heap.size w w1) := (Below.refl _ w).grown hgrow (Nat.le_refl _) (fun k hk => by cases hk)
    clear hown' hgrow hiff
    go_wp2
    go_ret
    exact ⟨_, rfl, HS.out, HB.out⟩
/-- append of a row of texts to a row of its own. -/
theorem wpList_append_srow {w : World} {ops : Array Oper} {rest : List Oper} {o : Oper} {a : Act} {Q : Exit → Act → World → Prop} (hg : o.guard = none) (s x : Operand)
    (hop : o.op = Op.call { callee := Callee.builtin Builtin.append, args := #[s, x], argTypes := #[35, 35] })
    (base : Nat) (v : Value) (n : Nat) (xs : List Value) (hs : a.eval s = v) (hown : w.ownsRow base 9 1 v n xs) (xv : Value) (ys : List ByteArray) (hx : a.eval x = xv) (hy : SRow w xv ys) (hnil : ∀ c, xv = .slice none 0 c → c = 0)
    (hl : (n + ys.length) * 16 ≤ 140737488351232) (hb : base ≤ w.heap.size)
    (h : ∀ v' w', w'.ownsRow base 9 1 v' (n + ys.length) (xs ++ ys.map Value.string) → w.grownBy w' v.ownBlock → wpList Tryz.prog ops Q rest (a.put o.dst v') w') :
    wpList Tryz.prog ops Q (o :: rest) a w := by
  obtain ⟨i0, hi, hz0, hz1, hz2⟩ := info_parts info9
  rcases hy.forms hnil with ⟨rfl, rfl⟩ | ⟨ad, c, rfl, hc⟩
  · refine wpList_append_own_none hg s x 35 hop base 9 i0 1 Tryz.underlying35 hi v n xs hs hown hx ?_
    exact h v w (by simpa using hown) (World.grownBy.refl w _)
  · refine wpList_append_own _ hg s x 35 hop base 9 i0 (.string ⟨#[]⟩) 1 16 Tryz.underlying35 hi hz0 hz1 hz2 rfl (by decide) v n xs hs hown ad ys.length c (ys.map Value.string) hx (by simp) hc ?_ ?_ ?_ hb ?_
    · intro u hu; obtain ⟨y, _, rfl⟩ := List.mem_map.1 hu; rfl
    · unfold maxLen; omega
    · omega
    · intro v' w' h1 h2 h3; exact h v' w' h1 h2
end Go.Proofs.YtadihhngegimkaaGreatDoor
namespace Go.Proofs.YtadihhngegimkaaGreatDoor
open Go.RowKit
set_option linter.unusedVariables false
theorem row4 {w : World} {g T : Nat} {v0 v1 v2 v3 : Value} (h : w.heap[g]? = some (.cells #[v0, v1, v2, v3] T)) :
    w.cell? ⟨g, 0, none⟩ = some v0 ∧ w.cell? ⟨g, 1, none⟩ = some v1 ∧ w.cell? ⟨g, 2, none⟩ = some v2 ∧ w.cell? ⟨g, 3, none⟩ = some v3 ∧ ∀ j, w.frozen? ⟨g, j, none⟩ = false := by
  refine ⟨?_, ?_, ?_, ?_, fun j => frozen_of_row _ _ _ _ _ h⟩ <;> rw [cell_of_row _ _ _ _ _ _ h] <;> rfl
/-- one step of the script, as it lies. -/
structure OpIs (W : World) (G O j : Nat) (kd I N : Int) (tv : Value) (ts : List ByteArray) : Prop where
  c0 : W.cell? ⟨G, O + j * 4, none⟩ = some (.int .i64 kd)
  c1 : W.cell? ⟨G, O + j * 4 + 1, none⟩ = some (.int .i64 I)
  c2 : W.cell? ⟨G, O + j * 4 + 2, none⟩ = some (.int .i64 N)
  c3 : W.cell? ⟨G, O + j * 4 + 3, none⟩ = some tv
  row : SRow W tv ts
  nil : ∀ c, tv = .slice none 0 c → c = 0
  len : ts.length * 16 ≤ 140737488351232
  each : ∀ x ∈ ts, x.size ≤ 281474976710656
  i64 : -9223372036854775808 ≤ I ∧ I ≤ 9223372036854775807 ∧ -9223372036854775808 ≤ N ∧ N ≤ 9223372036854775807
theorem OpIs.on {W W' : World} {G O j : Nat} {kd I N : Int} {tv : Value} {ts : List ByteArray} (h : OpIs W G O j kd I N tv ts) (hb : Below W.heap.size W W') : OpIs W' G O j kd I N tv ts :=
  ⟨cell_on h.c0 hb, cell_on h.c1 hb, cell_on h.c2 hb, cell_on h.c3 hb, h.row.on hb, h.nil, h.len, h.each, h.i64⟩
/-- the list that is held beside the listpack. -/
def Own (B : Nat) (W : World) (v : Value) (its : List LM.Item) : Prop := W.ownsRow B 9 1 v its.length ((valsOf its).map Value.string)
theorem Own.srow {B : Nat} {W : World} {v : Value} {its : List LM.Item} (h : Own B W v its) : SRow W v (valsOf its) ∧ ∀ c, v = .slice none 0 c → c = 0 := by
  refine ⟨srow_of_own (n := its.length) h (by rw [vals_len]), fun c hc => ?_⟩
  obtain ⟨_, ⟨h1, _⟩ | ⟨g, cap, cur, h1, _⟩⟩ := h
  · exact nil_cap (h1.symm.trans hc)
  · rw [h1] at hc; cases hc
theorem Own.form {B : Nat} {W : World} {v : Value} {its : List LM.Item} (h : Own B W v its) : (v = .slice none 0 0 ∧ its.length = 0) ∨ ∃ g c, v = .slice (some ⟨g, 0, none⟩) its.length c ∧ RowAt W g c ((valsOf its).map Value.string) ∧ its.length ≤ c ∧ B ≤ g ∧ c ≤ maxLen := by
  have h0 := h
  obtain ⟨_, ⟨h1, h2⟩ | ⟨g, cap, cur, h1, hb, hg, q1, q2, q3, q4⟩⟩ := h
  · exact Or.inl ⟨h1, h2⟩
  · subst h1
    exact Or.inr ⟨g, cap, rfl, RowAt.of h0, q1, hb, q2⟩
theorem Own.keep {B : Nat} {W W' : World} {v : Value} {its : List LM.Item} (h : Own B W v its) (hb : Below W.heap.size W W') : Own B W' v its := by
  obtain ⟨h0, ⟨h1, h2⟩ | ⟨g, cap, cur, h1, hb', hg, q⟩⟩ := h
  · exact ⟨h0, Or.inl ⟨h1, h2⟩⟩
  · exact ⟨h0, Or.inr ⟨g, cap, cur, h1, hb', keep_row hg hb, q⟩⟩
/-- what the switch leaves behind. -/
def AfterSw (w0 : World) (lv : Value) (its : List LM.Item) (e q nx : Value) (wc : World) : Prop :=
  (e = .int .i64 0 ∧ ∃ its' QB, q = .string QB ∧ LM.Pk QB.data.toList its' ∧ Own w0.heap.size wc nx its' ∧ Below w0.heap.size w0 wc) ∨
  (∃ E : Int, (E = 1 ∨ E = 2 ∨ E = 6) ∧ e = .int .i64 E ∧ q = .string ⟨#[]⟩ ∧ Own w0.heap.size wc lv its ∧ Below w0.heap.size w0 wc)
theorem pk_sumV {p : ByteArray} {l : List LM.Item} (h : LM.Pk p.data.toList l) : p.size = 7 + sumV (valsOf l) ∧ (∀ x ∈ valsOf l, x.size ≤ 524288) ∧ (valsOf l).length ≤ 1048576 := by
  have hv : ∀ x ∈ valsOf l, x.size ≤ 524288 := fun x hx => by
    obtain ⟨it, hit, rfl⟩ := List.mem_map.1 hx
    rw [strB_size]; exact LM.val_len it (h.wf it hit)
  refine ⟨?_, hv, by rw [vals_len]; exact h.len⟩
  rw [← bsum_items _ hv, vals_its l h.wf, ← list_len, h.eq, LM.build_len]
theorem own_base {B B' : Nat} {W : World} {v : Value} {n : Nat} {xs : List Value} (h : W.ownsRow B 9 1 v n xs) (hB : B' ≤ B) : W.ownsRow B' 9 1 v n xs := by
  obtain ⟨h0, h | ⟨g, cap, cur, h1, hb, q⟩⟩ := h
  · exact ⟨h0, Or.inl h⟩
  · exact ⟨h0, Or.inr ⟨g, cap, cur, h1, Nat.le_trans hB hb, q⟩⟩
theorem vals_app (a b : List LM.Item) : valsOf (a ++ b) = valsOf a ++ valsOf b := by simp [valsOf]
theorem vals_new (its : List LM.Item) (i n : Nat) (vs : List ByteArray) : valsOf (newI its i n vs) = (valsOf its).take i ++ (vs ++ (valsOf its).drop (i + n)) := by
  unfold newI
  rw [vals_app, vals_app, its_vals]
  simp [valsOf, List.map_take, List.map_drop]
theorem new_len (its : List LM.Item) (i n : Nat) (vs : List ByteArray) (h : i + n ≤ its.length) : (newI its i n vs).length = i + (vs.length + (its.length - (i + n))) := by
  unfold newI; simp; omega
theorem pk_new {p : List UInt8} {its : List LM.Item} (hp : LM.Pk p its) {i n : Nat} {vs : List ByteArray} (h : i + n ≤ its.length) (hf : fitI its i n vs) : LM.Pk (LM.build (newI its i n vs)) (newI its i n vs) := by
  obtain ⟨h1, h2, h3⟩ := hf
  refine ⟨fun it hit => ?_, by rw [new_len its i n vs h]; omega, rfl, by rw [LM.build_len]; exact h3⟩
  unfold newI at hit
  rcases List.mem_append.1 hit with h | h
  · exact hp.wf it (List.mem_of_mem_take h)
  · rcases List.mem_append.1 h with h | h
    · obtain ⟨v, hv, rfl⟩ := List.mem_map.1 h
      exact LM.itemOf_wf _ (by rw [list_len]; exact h1 v hv)
    · exact hp.wf it (List.mem_of_mem_drop h)
theorem RowAt.take {W : World} {g c : Nat} {vs : List ByteArray} (h : RowAt W g c (vs.map Value.string)) (k C : Nat) (hk : k ≤ vs.length) : SRow W (.slice (some ⟨g, 0, none⟩) k C) (vs.take k) := by
  refine Or.inr ⟨g, 0, C, by rw [List.length_take, Nat.min_eq_left hk], fun j hj => ?_⟩
  rw [List.length_take] at hj
  rw [Nat.zero_add, h.cell j (.string vs[j]) (by rw [List.getElem?_map, List.getElem?_eq_getElem (by omega)]; rfl), List.getElem_take]
theorem RowAt.drop {W : World} {g c : Nat} {vs : List ByteArray} (h : RowAt W g c (vs.map Value.string)) (k C : Nat) (hk : k ≤ vs.length) : SRow W (.slice (some ⟨g, k, none⟩) (vs.length - k) C) (vs.drop k) := by
  refine Or.inr ⟨g, k, C, by rw [List.length_drop], fun j hj => ?_⟩
  rw [List.length_drop] at hj
  rw [h.cell (k + j) (.string vs[k + j]) (by rw [List.getElem?_map, List.getElem?_eq_getElem (by omega)]; rfl), List.getElem_drop]
theorem fit_del {p : List UInt8} {its : List LM.Item} (hp : LM.Pk p its) {a d : Nat} (h : a + d ≤ its.length) : fitI its a d [] := by
  have h1 := hp.size
  rw [hp.eq, LM.build_len] at h1
  have h2 := hp.len
  refine ⟨by simp, by simp; omega, ?_⟩
  have e : newI its a d [] = its.take a ++ its.drop (a + d) := by unfold newI; simp
  rw [e, LM.bsum_app]
  have h3 : LM.bsum (its.take (a + d)) + LM.bsum (its.drop (a + d)) = LM.bsum its := by rw [← LM.bsum_app, List.take_append_drop]
  have h4 : LM.bsum (its.take a) ≤ LM.bsum (its.take (a + d)) := by
    have := LM.bsum_take_le (its.take (a + d)) a
    rwa [List.take_take, show min a (a + d) = a by omega] at this
  omega
theorem take_set (vs : List ByteArray) (k : Nat) (x : ByteArray) (h : k < vs.length) : vs.take k ++ ([x] ++ vs.drop (k + 1)) = vs.set k x := by
  rw [List.set_eq_take_append_cons_drop, if_pos h]; rfl
theorem own_some {B : Nat} {W : World} {v : Value} {n : Nat} {xs : List Value} (h : W.ownsRow B 9 1 v n xs) (hn : 0 < n) : ∃ g c, v = .slice (some ⟨g, 0, none⟩) n c ∧ RowAt W g c xs ∧ B ≤ g ∧ c ≤ maxLen := by
  have h0 := h
  obtain ⟨_, ⟨h1, h2⟩ | ⟨g, cap, cur, h1, hb, hg, q1, q2, q3, q4⟩⟩ := h
  · omega
  · subst h1; exact ⟨g, cap, rfl, RowAt.of h0, hb, q2⟩
theorem wp_act {P : Program} {c : Code} {Q : Exit → Act → World → Prop} {a : Act} {w : World} (h : ∀ a0, a0 = a → c.wp P Q a0 w) : c.wp P Q a w := h a rfl
theorem srow_zero {W : World} {P : Option Addr} {m c : Nat} {ys : List ByteArray} (hm : m = 0) (hy : ys = []) : SRow W (.slice P m c) ys := by
  subst hm; subst hy; exact Or.inl ⟨rfl, P, c, rfl⟩
theorem RowAt.tail {W : World} {g c : Nat} {vs : List ByteArray} (h : RowAt W g c (vs.map Value.string)) (k m C : Nat) (hk : k ≤ vs.length) (hm : m = vs.length - k) : SRow W (.slice (some ⟨g, k, none⟩) m C) (vs.drop k) := by
  subst hm; exact h.drop k C hk
end Go.Proofs.YtadihhngegimkaaGreatDoor
namespace Go.Proofs.YtadihhngegimkaaGreatDoor
open Go.RowKit
set_option linter.unusedVariables false
theorem eval_same {a : Act} {d : Nat} {v : Value} (h : d < a.tmps.size) : (a.put (some d) v).eval (.tmp d) = v := by
  simp [Act.put, Act.eval, h]
theorem eval_other {a : Act} {d t : Nat} {v : Value} (h : d ≠ t) : (a.put (some d) v).eval (.tmp t) = a.eval (.tmp t) := by
  simp [Act.put, Act.eval, h]
theorem put_size {a : Act} {d : Nat} {v : Value} : (a.put (some d) v).tmps.size = a.tmps.size := by simp [Act.put]
theorem ev_getD {a : Act} {t : Nat} {v : Value} (h : a.eval (.tmp t) = v) : a.tmps.getD t undef = v := h
theorem ev_get? {a : Act} {t : Nat} {v : Value} (h : a.eval (.tmp t) = v) : (a.tmps[t]?).getD undef = v := by
  have := ev_getD h; simpa using this
end Go.Proofs.YtadihhngegimkaaGreatDoor
namespace Go.Proofs.YtadihhngegimkaaGreatDoor
open Go.RowKit
set_option linter.unusedVariables false
/-- the values with n of them from place i on exchanged for others. -/
def withV (vs : List ByteArray) (i n : Nat) (os : List ByteArray) : List ByteArray := vs.take i ++ (os ++ vs.drop (i + n))
theorem new_whole (its : List LM.Item) (hw : ∀ it ∈ its, LM.Wf it) (i n : Nat) (os : List ByteArray) : newI [] 0 0 (withV (valsOf its) i n os) = newI its i n os := by
  rw [nI_nil]
  unfold withV newI
  rw [List.map_append, List.map_append, List.map_take, List.map_drop, vals_its its hw]
theorem fit_whole {p : List UInt8} {its : List LM.Item} (hp : LM.Pk p its) {i n : Nat} (h : i + n ≤ its.length) (os : List ByteArray) : fitI [] 0 0 (withV (valsOf its) i n os) ↔ fitI its i n os := by
  have hv : ∀ x ∈ valsOf its, x.size ≤ 524288 := fun x hx => by
    obtain ⟨it, hit, rfl⟩ := List.mem_map.1 hx
    rw [strB_size]; exact LM.val_len it (hp.wf it hit)
  have hn := new_whole its hp.wf i n os
  rw [nI_nil] at hn
  rw [fI_nil, hn]
  have hl : (withV (valsOf its) i n os).length = i + (os.length + (its.length - (i + n))) := by
    unfold withV; simp only [List.length_append, List.length_take, List.length_drop, vals_len]; omega
  rw [hl]
  unfold fitI
  constructor
  · rintro ⟨h1, h2, h3⟩
    exact ⟨fun v hv' => h1 v (by unfold withV; simp [hv']), by omega, h3⟩
  · rintro ⟨h1, h2, h3⟩
    refine ⟨fun v hv' => ?_, by omega, h3⟩
    unfold withV at hv'
    rcases List.mem_append.1 hv' with h | h
    · exact hv v (List.mem_of_mem_take h)
    · rcases List.mem_append.1 h with h | h
      · exact h1 v h
      · exact hv v (List.mem_of_mem_drop h)
end Go.Proofs.YtadihhngegimkaaGreatDoor
