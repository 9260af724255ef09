import Derived.Test.YtadihhngegimkaaGreatDoorFrmM
import Derived.Test.YtadihhngegimkaaGreatDoorRRdM
import Derived.Test.YtadihhngegimkaaGreatDoorOpnM
namespace Go.Proofs.YtadihhngegimkaaGreatDoor
open Go.RowKit
set_option linter.unusedVariables false
theorem Len_bad (p : ByteArray) (hp : p.size ≤ 281474976710656) (h : ∀ l, ¬ LM.Pk p.data.toList l) (w : World) (hw : Lay w) : Calls Tryz.prog 5 #[.string p] w fun e w' => e = .returned (.tuple #[.int .i64 0, .int .i64 60]) ∧ Below w.heap.size w w' := by
  have HRH : Hid (Calls Tryz.prog 24 #[.string p] w (rdP p w)) := read_any p hp w hw
  have HP : Hid _ := h
  clear hw h hp
  go_enter Tryz.func5, Tryz.ntmps5
  go_wp2_with fail
  refine (show Calls _ _ _ _ _ from HRH.out).mono ?_
  rintro e w1 ⟨⟨l', hl', rfl⟩ | ⟨hno, rfl⟩, hb1⟩
  · exact absurd hl' (HP.out l')
  · have HB : Hid (Below w.heap.size w w1) := hb1
    clear hb1 hno
    go_wp2
    go_ret2
    exact ⟨rfl, HB.out.alloc HB.out.size _⟩
theorem al3 (w : World) (a b c : Obj) : Below w.heap.size w (((w.alloc a).alloc b).alloc c) := (((Below.refl _ w).alloc (Nat.le_refl _) _).alloc (by simp) _).alloc (by simp; omega) _
theorem al4 (w : World) (a b c d : Obj) : Below w.heap.size w ((((w.alloc a).alloc b).alloc c).alloc d) := ((((Below.refl _ w).alloc (Nat.le_refl _) _).alloc (by simp) _).alloc (by simp; omega) _).alloc (by simp; omega) _
theorem al_rows3 (w : World) (a b c : Obj) : (((w.alloc a).alloc b).alloc c).heap[w.heap.size + 1]? = some b ∧ (((w.alloc a).alloc b).alloc c).heap[w.heap.size + 1 + 1]? = some c := by
  constructor
  · refine keep_row ?_ ((Below.refl _ _).alloc (Nat.le_refl _) _)
    have := one_alloc (w.alloc a) b
    rwa [World.size_alloc] at this
  · have := one_alloc ((w.alloc a).alloc b) c
    rwa [World.size_alloc, World.size_alloc] at this
theorem al_rows4 (w : World) (a b c d : Obj) : ((((w.alloc a).alloc b).alloc c).alloc d).heap[w.heap.size + 1 + 1]? = some c ∧ ((((w.alloc a).alloc b).alloc c).alloc d).heap[w.heap.size + 1 + 1 + 1]? = some d := by
  constructor
  · refine keep_row ?_ ((Below.refl _ _).alloc (Nat.le_refl _) _)
    have := one_alloc ((w.alloc a).alloc b) c
    rwa [World.size_alloc, World.size_alloc] at this
  · have := one_alloc (((w.alloc a).alloc b).alloc c) d
    rwa [World.size_alloc, World.size_alloc, World.size_alloc] at this
/-- two results that are written into their places. -/
theorem two_set {w W : World} {S E TS TE : Nat} {a b x y : Value} (hS : W.heap[S]? = some (.cells #[a] TS)) (hE : W.heap[E]? = some (.cells #[b] TE)) (hne : S ≠ E) (hb : Below w.heap.size w W) (h1 : w.heap.size ≤ S) (h2 : w.heap.size ≤ E) :
    ((W.setCell ⟨S, 0, none⟩ x).setCell ⟨E, 0, none⟩ y).heap[S]? = some (.cells #[x] TS) ∧ ((W.setCell ⟨S, 0, none⟩ x).setCell ⟨E, 0, none⟩ y).heap[E]? = some (.cells #[y] TE) ∧ Below w.heap.size w ((W.setCell ⟨S, 0, none⟩ x).setCell ⟨E, 0, none⟩ y) := by
  refine ⟨?_, ?_, (hb.setCell (p := ⟨S, 0, none⟩) h1 _).setCell (p := ⟨E, 0, none⟩) h2 _⟩
  · rw [heap_setCell_other _ _ _ _ hne, heap_setCell_same _ _ _ _ _ _ hS]; rfl
  · rw [heap_setCell_same _ _ _ _ _ _ ((heap_setCell_other _ _ _ _ (Ne.symm hne)).trans hE)]; rfl
set_option maxHeartbeats 1000000 in
set_option maxRecDepth 100000 in
theorem At_bad (p : ByteArray) (hp : p.size ≤ 281474976710656) (h : ∀ l, ¬ LM.Pk p.data.toList l) (i : Int) (w : World) (hw : Lay w) : Calls Tryz.prog 7 #[.string p, .int .i64 i] w fun e w' => e = .returned (.tuple #[.string ⟨#[]⟩, .int .i64 60]) ∧ Below w.heap.size w w' := by
  have HRH : Hid (∀ W, Below w.heap.size w W → Calls Tryz.prog 24 #[.string p] W (rdP p W)) := fun W hW => read_any p hp W (hw.on hW)
  have HP : Hid _ := h
  clear hw h hp
  go_enter Tryz.func7, Tryz.ntmps7
  go_wp2_with fail
  refine (show Calls _ _ _ _ _ from HRH.out _ (al3 w _ _ _)).mono ?_
  rintro e w1 ⟨⟨l', hl', rfl⟩ | ⟨hno, rfl⟩, hb1⟩
  · exact absurd hl' (HP.out l')
  · have hr := al_rows3 w (.cells #[.int .i64 i] 3) (.cells #[.string ⟨#[]⟩] 9) (.cells #[.int .i64 0] 24)
    have HS1 : Hid _ := keep_row hr.1 hb1
    have HE1 : Hid _ := keep_row hr.2 hb1
    have HB : Hid (Below w.heap.size w w1) := bel_to (al3 w _ _ _) hb1 (Nat.le_refl _)
    clear hb1 hno hr
    obtain ⟨W1, hW1⟩ : ∃ W1, W1 = w1.alloc (.cells #[.string ⟨#[]⟩, .int .i64 0] 54) := ⟨_, rfl⟩
    go_upto_region 2 with fail
    rw [← hW1]
    have hbw : Below w1.heap.size w1 W1 := by rw [hW1]; exact (Below.refl _ _).alloc (Nat.le_refl _) _
    have HS2 : Hid _ := keep_row HS1.out hbw
    have HE2 : Hid _ := keep_row HE1.out hbw
    have HB2 : Hid (Below w.heap.size w W1) := bel_to HB.out hbw (Nat.le_refl _)
    clear hbw hW1
    obtain ⟨s0, sf⟩ := row1 HS2.out
    obtain ⟨e0, ef⟩ := row1 HE2.out
    go_wp2
    have h3 := two_set (w := w) (x := .string ⟨#[]⟩) (y := .int .i64 60) HS2.out HE2.out (by omega) HB2.out (by omega) (by omega)
    exact bodyPost_ret (v := .tuple #[.string ⟨#[]⟩, .int .i64 60]) (res_At rfl rfl h3.1 h3.2.1) rfl ⟨rfl, h3.2.2⟩
theorem al_ab4 (w : World) (a b c d : Obj) : ((((w.alloc a).alloc b).alloc c).alloc d).heap[w.heap.size]? = some a ∧ ((((w.alloc a).alloc b).alloc c).alloc d).heap[w.heap.size + 1]? = some b := by
  constructor
  · exact keep_row (keep_row (keep_row (one_alloc w _) ((Below.refl _ _).alloc (Nat.le_refl _) _)) ((Below.refl _ _).alloc (Nat.le_refl _) _)) ((Below.refl _ _).alloc (Nat.le_refl _) _)
  · refine keep_row (keep_row ?_ ((Below.refl _ _).alloc (Nat.le_refl _) _)) ((Below.refl _ _).alloc (Nat.le_refl _) _)
    have := one_alloc (w.alloc a) b
    rwa [World.size_alloc] at this
set_option maxHeartbeats 1000000 in
set_option maxRecDepth 100000 in
theorem Find_bad (p : ByteArray) (hp : p.size ≤ 281474976710656) (h : ∀ l, ¬ LM.Pk p.data.toList l) (F S : Int) (x : ByteArray) (w : World) (hw : Lay w) : Calls Tryz.prog 9 #[.string p, .int .i64 F, .int .i64 S, .string x] w fun e w' => e = .returned (.tuple #[.int .i64 0, .int .i64 60]) ∧ Below w.heap.size w w' := by
  have HRH : Hid (∀ W, Below w.heap.size w W → Calls Tryz.prog 24 #[.string p] W (rdP p W)) := fun W hW => read_any p hp W (hw.on hW)
  have HP : Hid _ := h
  clear hw h hp
  go_enter Tryz.func9, Tryz.ntmps9
  go_wp2_with fail
  refine (show Calls _ _ _ _ _ from HRH.out _ (al4 w _ _ _ _)).mono ?_
  rintro e w1 ⟨⟨l', hl', rfl⟩ | ⟨hno, rfl⟩, hb1⟩
  · exact absurd hl' (HP.out l')
  · have hr := al_rows4 w (.cells #[.int .i64 F] 3) (.cells #[.int .i64 S] 3) (.cells #[.int .i64 0] 3) (.cells #[.int .i64 0] 24)
    have HS1 : Hid _ := keep_row hr.1 hb1
    have HE1 : Hid _ := keep_row hr.2 hb1
    have HB : Hid (Below w.heap.size w w1) := bel_to (al4 w _ _ _ _) hb1 (Nat.le_refl _)
    clear hb1 hno hr
    obtain ⟨W1, hW1⟩ : ∃ W1, W1 = w1.alloc (.cells #[.string ⟨#[]⟩, .int .i64 0] 54) := ⟨_, rfl⟩
    go_upto_region 2 with fail
    rw [← hW1]
    have hbw : Below w1.heap.size w1 W1 := by rw [hW1]; exact (Below.refl _ _).alloc (Nat.le_refl _) _
    have HS2 : Hid _ := keep_row HS1.out hbw
    have HE2 : Hid _ := keep_row HE1.out hbw
    have HB2 : Hid (Below w.heap.size w W1) := bel_to HB.out hbw (Nat.le_refl _)
    clear hbw hW1
    obtain ⟨s0, sf⟩ := row1 HS2.out
    obtain ⟨e0, ef⟩ := row1 HE2.out
    go_wp2
    have h3 := two_set (w := w) (x := .int .i64 0) (y := .int .i64 60) HS2.out HE2.out (by omega) HB2.out (by omega) (by omega)
    exact bodyPost_ret (v := .tuple #[.int .i64 0, .int .i64 60]) (res_Find rfl rfl h3.1 h3.2.1) rfl ⟨rfl, h3.2.2⟩
set_option maxHeartbeats 1000000 in
set_option maxRecDepth 100000 in
theorem Find_arg (p : ByteArray) (l : List LM.Item) (h : LM.Pk p.data.toList l) (F S : Int) (hFS : F < 0 ∨ S < 1) (x : ByteArray) (w : World) (hw : Lay w) : Calls Tryz.prog 9 #[.string p, .int .i64 F, .int .i64 S, .string x] w fun e w' => e = .returned (.tuple #[.int .i64 0, .int .i64 1]) ∧ Below w.heap.size w w' := by
  have HRH : Hid (∀ W, Below w.heap.size w W → Calls Tryz.prog 24 #[.string p] W (rdP p W)) := fun W hW => read_any p (by have := h.size; rw [list_len] at this; omega) W (hw.on hW)
  have HP : Hid _ := h
  have HI : Hid (decide (F < 0) = true ∨ (decide (F < 0) = false ∧ decide (S < 1) = true)) := by
    by_cases c : F < 0
    · exact Or.inl (by simpa using c)
    · exact Or.inr ⟨by simpa using c, by simp; omega⟩
  clear hw h hFS
  go_enter Tryz.func9, Tryz.ntmps9
  go_wp2_with fail
  refine (show Calls _ _ _ _ _ from HRH.out _ (al4 w _ _ _ _)).mono ?_
  rintro e w1 ⟨⟨l', hl', rfl⟩ | ⟨hno, rfl⟩, hb1⟩
  · have hr := al_rows4 w (.cells #[.int .i64 F] 3) (.cells #[.int .i64 S] 3) (.cells #[.int .i64 0] 3) (.cells #[.int .i64 0] 24)
    have hq := al_ab4 w (.cells #[.int .i64 F] 3) (.cells #[.int .i64 S] 3) (.cells #[.int .i64 0] 3) (.cells #[.int .i64 0] 24)
    have HA1 : Hid _ := keep_row hq.1 hb1
    have HC1 : Hid _ := keep_row hq.2 hb1
    have HS1 : Hid _ := keep_row hr.1 hb1
    have HE1 : Hid _ := keep_row hr.2 hb1
    have HB : Hid (Below w.heap.size w w1) := bel_to (al4 w _ _ _ _) hb1 (Nat.le_refl _)
    clear hb1 hr hq
    generalize strB (LM.bodyOf l') = Bo
    obtain ⟨W1, hW1⟩ : ∃ W1, W1 = w1.alloc (.cells #[.string Bo, .int .i64 (l'.length : Int)] 54) := ⟨_, rfl⟩
    go_upto_region 2 with fail
    rw [← hW1]
    have hbw : Below w1.heap.size w1 W1 := by rw [hW1]; exact (Below.refl _ _).alloc (Nat.le_refl _) _
    have HA2 : Hid _ := keep_row HA1.out hbw
    have HC2 : Hid _ := keep_row HC1.out hbw
    have HS2 : Hid _ := keep_row HS1.out hbw
    have HE2 : Hid _ := keep_row HE1.out hbw
    have HB2 : Hid (Below w.heap.size w W1) := bel_to HB.out hbw (Nat.le_refl _)
    clear hbw hW1
    obtain ⟨a0, af⟩ := row1 HA2.out
    obtain ⟨c0, cf⟩ := row1 HC2.out
    obtain ⟨s0, sf⟩ := row1 HS2.out
    obtain ⟨e0, ef⟩ := row1 HE2.out
    rcases HI.out with hd | ⟨hd, hd2⟩
    all_goals
      go_wp2
      have h3 := two_set (w := w) (x := .int .i64 0) (y := .int .i64 1) HS2.out HE2.out (by omega) HB2.out (by omega) (by omega)
      exact bodyPost_ret (v := .tuple #[.int .i64 0, .int .i64 1]) (res_Find rfl rfl h3.1 h3.2.1) rfl ⟨rfl, h3.2.2⟩
  · exact absurd HP.out (hno l)
end Go.Proofs.YtadihhngegimkaaGreatDoor
namespace Go.Proofs.YtadihhngegimkaaGreatDoor
open Go.RowKit
set_option linter.unusedVariables false
/-- the question as it lies. -/
structure AskIs (W : World) (g : Nat) (I N S : Int) (V : ByteArray) (b : Bool) : Prop where
  c0 : W.cell? ⟨g, 0, none⟩ = some (.int .i64 I)
  c1 : W.cell? ⟨g, 1, none⟩ = some (.int .i64 N)
  c2 : W.cell? ⟨g, 2, none⟩ = some (.int .i64 S)
  c3 : W.cell? ⟨g, 3, none⟩ = some (.string V)
  c4 : W.cell? ⟨g, 4, none⟩ = some (.bool b)
theorem AskIs.on {W W' : World} {g : Nat} {I N S : Int} {V : ByteArray} {b : Bool} (h : AskIs W g I N S V b) (hb : Below W.heap.size W W') : AskIs W' g I N S V b :=
  ⟨cell_on h.c0 hb, cell_on h.c1 hb, cell_on h.c2 hb, cell_on h.c3 hb, cell_on h.c4 hb⟩
theorem AskIs.new (w : World) (I N S : Int) (V : ByteArray) (b : Bool) (T : Nat) : AskIs (w.alloc (.cells #[.int .i64 I, .int .i64 N, .int .i64 S, .string V, .bool b] T)) w.heap.size I N S V b := by
  have h := one_alloc w (.cells #[.int .i64 I, .int .i64 N, .int .i64 S, .string V, .bool b] T)
  refine ⟨?_, ?_, ?_, ?_, ?_⟩ <;> rw [cell_of_row _ _ _ _ _ _ h] <;> rfl
/-- what both answer. -/
structure Both (p : ByteArray) (I S : Int) (V : ByteArray) (b : Bool) (n E : Int) (Z : ByteArray) (G K J : Int) (us : List ByteArray) (X Y : Int) : Prop where
  len : ∀ W, Lay W → Calls Tryz.prog 5 #[.string p] W fun e w' => e = .returned (.tuple #[.int .i64 n, .int .i64 E]) ∧ Below W.heap.size W w'
  rlen : ∀ W, Calls Tryz.prog 6 #[.string p] W fun e w' => e = .returned (.tuple #[.int .i64 n, .int .i64 E]) ∧ Below W.heap.size W w'
  at_ : ∀ W, Lay W → Calls Tryz.prog 7 #[.string p, .int .i64 I] W fun e w' => e = .returned (.tuple #[.string Z, .int .i64 G]) ∧ Below W.heap.size W w'
  rat : ∀ W, Calls Tryz.prog 8 #[.string p, .int .i64 I] W fun e w' => e = .returned (.tuple #[.string Z, .int .i64 G]) ∧ Below W.heap.size W w'
  find : ∀ W, Lay W → Calls Tryz.prog 9 #[.string p, .int .i64 I, .int .i64 S, .string V] W fun e w' => e = .returned (.tuple #[.int .i64 K, .int .i64 J]) ∧ Below W.heap.size W w'
  rfind : ∀ W, Calls Tryz.prog 10 #[.string p, .int .i64 I, .int .i64 S, .string V] W fun e w' => e = .returned (.tuple #[.int .i64 K, .int .i64 J]) ∧ Below W.heap.size W w'
  walk : ∀ W, Lay W → Calls Tryz.prog 11 #[.string p, .bool b] W fun e w' => (∃ v, e = .returned (.tuple #[v, .int .i64 X]) ∧ SRow w' v us) ∧ Below W.heap.size W w'
  rwalk : ∀ W, Calls Tryz.prog 12 #[.string p, .bool b] W fun e w' => (∃ v, e = .returned (.tuple #[v, .int .i64 X]) ∧ SRow w' v us) ∧ Below W.heap.size W w'
  valid : ∀ W, Lay W → Calls Tryz.prog 14 #[.string p] W fun e w' => e = .returned (.int .i64 Y) ∧ Below W.heap.size W w'
  rvalid : ∀ W, Calls Tryz.prog 15 #[.string p] W fun e w' => e = .returned (.int .i64 Y) ∧ Below W.heap.size W w'
  small : us.length ≤ 1048576
set_option maxHeartbeats 4000000 in
set_option maxRecDepth 100000 in
theorem Reads_both (p : ByteArray) (I N S : Int) (V : ByteArray) (b : Bool) (n E : Int) (Z : ByteArray) (G K J : Int) (us : List ByteArray) (X Y : Int) (hB : Both p I S V b n E Z G K J us X Y) (w : World) (hw : Lay w) :
    Calls Tryz.prog 3 #[.string p, .agg #[.int .i64 I, .int .i64 N, .int .i64 S, .string V, .bool b]] w fun e w' => e = .returned (.bool true) ∧ Below w.heap.size w w' := by
  have HW : Hid (Lay w) := hw
  have HBO : Hid _ := hB
  have HWK : Hid (∀ W, Lay W → Calls Tryz.prog 13 #[] W fun e w' => e = .returned (.bool true) ∧ Below W.heap.size W w') := works_any
  have HSM : Hid (∀ v v' W, SRow W v us → SRow W v' us → Calls Tryz.prog 16 #[v, v'] W fun e w' => e = .returned (.bool true) ∧ Below W.heap.size W w') := fun v v' W h1 h2 => by
    have := hB.small
    refine (same_any v v' us us (by omega) (by omega) W h1 h2).mono ?_
    rintro e w' ⟨⟨b, rfl, hb⟩, k, rfl⟩
    exact ⟨by rw [hb.2 rfl], below_dn (Below.refl _ _) _⟩
  have hzz : (Z.toList == Z.toList) = true := str_same rfl
  have h1 : (n == n) = true := by simp
  have h2 : (E == E) = true := by simp
  have h3 : (G == G) = true := by simp
  have h4 : (K == K) = true := by simp
  have h5 : (J == J) = true := by simp
  have h6 : (X == X) = true := by simp
  have h7 : (Y == Y) = true := by simp
  clear hw hB
  go_enter Tryz.func3, Tryz.ntmps3
  go_wp2_with fail
  obtain ⟨W0, hW0⟩ : ∃ W0, W0 = w.alloc (.cells #[.int .i64 I, .int .i64 N, .int .i64 S, .string V, .bool b] 23) := ⟨_, rfl⟩
  have HB0 : Hid (Below w.heap.size w W0) := by rw [hW0]; exact (Below.refl _ w).alloc (Nat.le_refl _) _
  have HA0 : Hid (AskIs W0 w.heap.size I N S V b) := by rw [hW0]; exact AskIs.new w I N S V b _
  rw [← hW0]
  clear hW0
  refine (show Calls _ _ _ _ _ from HBO.out.len _ (HW.out.on HB0.out)).mono ?_
  rintro e w1 ⟨rfl, hb⟩
  have HB1 : Hid (Below w.heap.size w w1) := bel_to HB0.out hb (Nat.le_refl _)
  have HA1 : Hid (AskIs w1 w.heap.size I N S V b) := HA0.out.on hb
  clear hb
  have ⟨k0, k1, k2, k3, k4⟩ := HA1.out
  go_wp2_with fail
  clear k0 k1 k2 k3 k4
  refine (show Calls _ _ _ _ _ from HBO.out.rlen _).mono ?_
  rintro e w2 ⟨rfl, hb⟩
  have HB2 : Hid (Below w.heap.size w w2) := bel_to HB1.out hb (Nat.le_refl _)
  have HA2 : Hid (AskIs w2 w.heap.size I N S V b) := HA1.out.on hb
  clear hb
  have ⟨k0, k1, k2, k3, k4⟩ := HA2.out
  go_wp2_with fail
  clear k0 k1 k2 k3 k4
  refine (show Calls _ _ _ _ _ from HBO.out.at_ _ (HW.out.on HB2.out)).mono ?_
  rintro e w3 ⟨rfl, hb⟩
  have HB3 : Hid (Below w.heap.size w w3) := bel_to HB2.out hb (Nat.le_refl _)
  have HA3 : Hid (AskIs w3 w.heap.size I N S V b) := HA2.out.on hb
  clear hb
  have ⟨k0, k1, k2, k3, k4⟩ := HA3.out
  go_wp2_with fail
  clear k0 k1 k2 k3 k4
  refine (show Calls _ _ _ _ _ from HBO.out.rat _).mono ?_
  rintro e w4 ⟨rfl, hb⟩
  have HB4 : Hid (Below w.heap.size w w4) := bel_to HB3.out hb (Nat.le_refl _)
  have HA4 : Hid (AskIs w4 w.heap.size I N S V b) := HA3.out.on hb
  clear hb
  have ⟨k0, k1, k2, k3, k4⟩ := HA4.out
  go_wp2_with fail
  clear k0 k1 k2 k3 k4
  refine (show Calls _ _ _ _ _ from HBO.out.find _ (HW.out.on HB4.out)).mono ?_
  rintro e w5 ⟨rfl, hb⟩
  have HB5 : Hid (Below w.heap.size w w5) := bel_to HB4.out hb (Nat.le_refl _)
  have HA5 : Hid (AskIs w5 w.heap.size I N S V b) := HA4.out.on hb
  clear hb
  have ⟨k0, k1, k2, k3, k4⟩ := HA5.out
  go_wp2_with fail
  clear k0 k1 k2 k3 k4
  refine (show Calls _ _ _ _ _ from HBO.out.rfind _).mono ?_
  rintro e w6 ⟨rfl, hb⟩
  have HB6 : Hid (Below w.heap.size w w6) := bel_to HB5.out hb (Nat.le_refl _)
  have HA6 : Hid (AskIs w6 w.heap.size I N S V b) := HA5.out.on hb
  clear hb
  have ⟨k0, k1, k2, k3, k4⟩ := HA6.out
  go_wp2_with fail
  clear k0 k1 k2 k3 k4
  refine (show Calls _ _ _ _ _ from HBO.out.walk _ (HW.out.on HB6.out)).mono ?_
  rintro e w7 ⟨⟨v6, rfl, hs6⟩, hb⟩
  obtain ⟨P6, c6, rfl⟩ := hs6.form
  have HS6 : Hid (SRow w7 (.slice P6 us.length c6) us) := hs6
  clear hs6
  have HB7 : Hid (Below w.heap.size w w7) := bel_to HB6.out hb (Nat.le_refl _)
  have HA7 : Hid (AskIs w7 w.heap.size I N S V b) := HA6.out.on hb
  clear hb
  have ⟨k0, k1, k2, k3, k4⟩ := HA7.out
  go_wp2_with fail
  clear k0 k1 k2 k3 k4
  refine (show Calls _ _ _ _ _ from HBO.out.rwalk _).mono ?_
  rintro e w8 ⟨⟨v7, rfl, hs7⟩, hb⟩
  obtain ⟨P7, c7, rfl⟩ := hs7.form
  have HS7 : Hid (SRow w8 (.slice P7 us.length c7) us) := hs7
  clear hs7
  have HB8 : Hid (Below w.heap.size w w8) := bel_to HB7.out hb (Nat.le_refl _)
  have HA8 : Hid (AskIs w8 w.heap.size I N S V b) := HA7.out.on hb
  have HS6b : Hid (SRow w8 (.slice P6 us.length c6) us) := HS6.out.on hb
  clear hb
  go_wp2_with fail
  refine (show Calls _ _ _ _ _ from HWK.out _ (HW.out.on HB8.out)).mono ?_
  rintro e w9 ⟨rfl, hb⟩
  have HB9 : Hid (Below w8.heap.size w8 w9) := hb
  clear hb
  go_wp2_with fail
  refine (show Calls _ _ _ _ _ from HBO.out.valid _ (HW.out.on (bel_to HB8.out HB9.out (Nat.le_refl _)))).mono ?_
  rintro e w10 ⟨rfl, hb⟩
  have HB10 : Hid (Below w8.heap.size w8 w10) := bel_to HB9.out hb (Nat.le_refl _)
  clear hb
  go_wp2_with fail
  refine (show Calls _ _ _ _ _ from HBO.out.rvalid _).mono ?_
  rintro e w11 ⟨rfl, hb⟩
  have HB11 : Hid (Below w8.heap.size w8 w11) := bel_to HB10.out hb (Nat.le_refl _)
  clear hb
  go_wp2_with fail
  refine (show Calls _ _ _ _ _ from HSM.out _ _ _ (HS6b.out.on HB11.out) (HS7.out.on HB11.out)).mono ?_
  rintro e w12 ⟨rfl, hb⟩
  have HB12 : Hid (Below w.heap.size w w12) := bel_to (bel_to HB8.out HB11.out (Nat.le_refl _)) hb (Nat.le_refl _)
  clear hb
  go_wp2
  go_ret
  exact ⟨rfl, HB12.out⟩
theorem least_nat {P : Nat → Prop} (n : Nat) : P n → ∃ k, P k ∧ ∀ j, j < k → ¬ P j := by
  induction n using Nat.strongRecOn with
  | _ n ih =>
    intro h
    by_cases hx : ∃ j, j < n ∧ P j
    · obtain ⟨j, hj, hp⟩ := hx; exact ih j hj hp
    · exact ⟨n, h, fun j hj hp => hx ⟨j, hj, hp⟩⟩
theorem vals_small {p : List UInt8} {l : List LM.Item} (h : LM.Pk p l) : (valsOf l).length ≤ 1048576 := by rw [vals_len]; exact h.len
theorem vals_map (l : List LM.Item) : l.map (fun it => Value.string (strB (LM.val it))) = (valsOf l).map Value.string := by unfold valsOf; rw [List.map_map]; rfl
theorem atV_two (l : List LM.Item) (i : Int) : ∃ Z G, atV l i = .tuple #[.string Z, .int .i64 G] := by
  by_cases h : 0 ≤ i ∧ i < (l.length : Int)
  · obtain ⟨k, rfl⟩ : ∃ k : Nat, i = (k : Int) := ⟨i.toNat, by omega⟩
    exact ⟨_, _, atV_at l k (by omega)⟩
  · exact ⟨_, _, atV_no l i h⟩
theorem Walk_any (p : ByteArray) (l : List LM.Item) (h : LM.Pk p.data.toList l) (b : Bool) (w : World) (hw : Lay w) :
    Calls Tryz.prog 11 #[.string p, .bool b] w fun e w' => (∃ v, e = .returned (.tuple #[v, .int .i64 0]) ∧ SRow w' v (if b then (valsOf l).reverse else valsOf l)) ∧ Below w.heap.size w w' := by
  cases b with
  | false =>
    refine (Walk_f p l h w hw).mono ?_
    rintro e w' ⟨⟨g, rfl, ho⟩, hb⟩
    refine ⟨⟨_, rfl, ?_⟩, hb⟩
    rw [vals_map] at ho
    exact srow_of_own ho (vals_len l).symm
  | true =>
    refine (Walk_b p l h w hw).mono ?_
    rintro e w' ⟨⟨g, rfl, ho⟩, hb⟩
    refine ⟨⟨_, rfl, ?_⟩, hb⟩
    rw [vals_map, show valsOf l.reverse = (valsOf l).reverse by unfold valsOf; rw [List.map_reverse]] at ho
    exact srow_of_own ho (by rw [if_pos rfl, List.length_reverse, vals_len])
theorem rWalk_both (p : ByteArray) (l : List LM.Item) (h : LM.Pk p.data.toList l) (b : Bool) (w : World) :
    Calls Tryz.prog 12 #[.string p, .bool b] w fun e w' => (∃ v, e = .returned (.tuple #[v, .int .i64 0]) ∧ SRow w' v (if b then (valsOf l).reverse else valsOf l)) ∧ Below w.heap.size w w' := by
  refine (rWalk_any p (by have := h.size; rw [list_len] at this; omega) b w).mono ?_
  rintro e w1 ⟨⟨l', v, hl', rfl, ho⟩ | ⟨hno, rfl⟩, hb⟩
  · have he : l' = l := hl'.uniq h
    subst he
    refine ⟨⟨v, rfl, srow_of_own ho ?_⟩, hb⟩
    cases b with
    | false => rw [if_neg (by decide), vals_len]
    | true => rw [if_pos rfl, List.length_reverse, vals_len]
  · exact absurd h (hno l)
theorem ListpackReads_walk (p : ByteArray) (I N S : Int) (V : ByteArray) (b : Bool) (hp : p.size ≤ 140737488351232) (hI : -9223372036854775808 ≤ I ∧ I ≤ 9223372036854775807) (hN : -9223372036854775808 ≤ N ∧ N ≤ 9223372036854775807) (hS : -9223372036854775808 ≤ S ∧ S ≤ 9223372036854775807) (hV : V.size ≤ 140737488351232) (w : World) (hw : Lay w) :
    Calls Tryz.prog 3 #[.string p, .agg #[.int .i64 I, .int .i64 N, .int .i64 S, .string V, .bool b]] w fun e w' => e = .returned (.bool true) ∧ Below w.heap.size w w' := by
  by_cases h : ∃ l, LM.Pk p.data.toList l
  · obtain ⟨l, h⟩ := h
    obtain ⟨Z, G, hZ⟩ := atV_two l I
    have hus : (if b then (valsOf l).reverse else valsOf l).length ≤ 1048576 := by
      cases b with
      | false => rw [if_neg (by decide)]; exact vals_small h
      | true => rw [if_pos rfl, List.length_reverse]; exact vals_small h
    have hat : ∀ W, Lay W → Calls Tryz.prog 7 #[.string p, .int .i64 I] W fun e w' => e = .returned (.tuple #[.string Z, .int .i64 G]) ∧ Below W.heap.size W w' := fun W hW => by rw [← hZ]; exact At_ok p l h I W hW
    have hrat : ∀ W, Calls Tryz.prog 8 #[.string p, .int .i64 I] W fun e w' => e = .returned (.tuple #[.string Z, .int .i64 G]) ∧ Below W.heap.size W w' := fun W => by rw [← hZ]; exact rAt_ok p l h I W
    by_cases hFS : I < 0 ∨ S < 1
    · exact Reads_both p I N S V b (l.length : Int) 0 Z G 0 1 _ 0 0 ⟨fun W hW => Len_ok p l h W hW, fun W => rLen_ok p l h W, hat, hrat, fun W hW => Find_arg p l h I S hFS V W hW, fun W => rFind_arg p l h I S hFS V W, fun W hW => Walk_any p l h b W hW, fun W => rWalk_both p l h b W, fun W hW => Valid_ok p l h W hW, fun W => rValid_ok p l h W, hus⟩ w hw
    · obtain ⟨r, hr⟩ : ∃ r, FindIs l I S (LM.itemOf V.data.toList) r := by
        classical
        by_cases hx : ∃ k, Hit I S (LM.itemOf V.data.toList) l k
        · obtain ⟨k0, hk0⟩ := hx
          obtain ⟨k, h1, h2⟩ := least_nat k0 hk0
          exact ⟨_, Or.inl ⟨k, rfl, h1, h2⟩⟩
        · exact ⟨-1, Or.inr ⟨rfl, fun j _ hj => hx ⟨j, hj⟩⟩⟩
      refine Reads_both p I N S V b (l.length : Int) 0 Z G r 0 _ 0 0 ⟨fun W hW => Len_ok p l h W hW, fun W => rLen_ok p l h W, hat, hrat, fun W hW => ?_, fun W => ?_, fun W hW => Walk_any p l h b W hW, fun W => rWalk_both p l h b W, fun W hW => Valid_ok p l h W hW, fun W => rValid_ok p l h W, hus⟩ w hw
      · refine (Find_ok p l h I S ⟨by omega, by omega⟩ ⟨by omega, by omega⟩ V (by omega) W hW).mono ?_
        rintro e w' ⟨⟨r', rfl, hr'⟩, hb⟩
        exact ⟨by rw [hr.uniq hr'], hb⟩
      · refine (rFind_ok p l h I S ⟨by omega, by omega⟩ ⟨by omega, by omega⟩ V W).mono ?_
        rintro e w' ⟨⟨r', rfl, hr'⟩, hb⟩
        exact ⟨by rw [hr.uniq hr'], hb⟩
  · have h : ∀ l, ¬ LM.Pk p.data.toList l := fun l hl => h ⟨l, hl⟩
    have hp' : p.size ≤ 281474976710656 := by omega
    refine Reads_both p I N S V b 0 60 ⟨#[]⟩ 60 0 60 [] 60 60 ⟨fun W hW => Len_bad p hp' h W hW, fun W => rLen_bad p hp h W, fun W hW => At_bad p hp' h I W hW, fun W => rAt_bad p hp h I W, fun W hW => Find_bad p hp' h I S V W hW, fun W => rFind_bad p hp h I S V W, fun W hW => ?_, fun W => ?_, fun W hW => Valid_bad p hp' h W hW, fun W => rValid_bad p hp h W, by simp⟩ w hw
    · refine (Walk_bad p hp' b h W hW).mono ?_
      rintro e w' ⟨rfl, hb⟩
      exact ⟨⟨_, rfl, Or.inl ⟨rfl, none, 0, rfl⟩⟩, hb⟩
    · refine (rWalk_bad p hp h b W).mono ?_
      rintro e w' ⟨rfl, hb⟩
      exact ⟨⟨_, rfl, Or.inl ⟨rfl, none, 0, rfl⟩⟩, hb⟩
end Go.Proofs.YtadihhngegimkaaGreatDoor
namespace Go.Proofs.YtadihhngegimkaaGreatDoor.listpackReads
open Go.ChangeShapes Go.WideShapes Go.ChangeAt Go.RowKit
open Go.ChangeMaps (open_string shut_string)
set_option linter.unusedVariables false
set_option maxRecDepth 100000 in
theorem lifted (os : Os) (started : os.Started) (H : Type) (enc : TypeId × Value → H) :
    ReturnsInHanded {} Tryz.checked os 3 .any (fun w args => (Rows.listpackReadsSpec.pre enc Tryz.prog Tryz.f3 [] false w args ∧ laidMetH Tryz.prog laidL w) ∧ sizedMet enc Tryz.prog Tryz.f3 (OpenSpec.ofChange Rows.listpackReadsSpec) false w args)
      (Rows.listpackReadsSpec.post enc Tryz.prog Tryz.f3 false true false false) := by
  refine returnsInHanded_of_change_and (C := Tryz.checked) (X := fun w _ => laidMetH Tryz.prog laidL w) (fun _ _ _ hh h => h.of_heap hh) own started (by kernel_rfl) Tryz.func3
    (ChangeSpec.witness_shaped (enc := enc) (C := Tryz.checked) (os := os) (X := fun w _ => laidMetH Tryz.prog laidL w) false (World.doorLaid Tryz.prog 400 os) #[.string ByteArray.empty, .agg #[.int .i64 0, .int .i64 0, .int .i64 0, .string ByteArray.empty, .bool false]] 8 rfl (World.shaped_of_RefB (by kernel_rfl) (by kernel_rfl)) (by kernel_rfl) (by kernel_rfl) (by kernel_rfl) (door_met os _)) ?_
  intro W base args ds gs before hval0 hW hcnd hsz0 hL _
  have hval : ∀ (j : Nat) t v, Tryz.f3.params[j]? = some t → args[j]? = some v → Value.okWide Tryz.prog W .any base t v := hval0
  have hsz : (DataW.weightsEach Tryz.prog (Tryz.f3.params.toList ++ Rows.listpackReadsSpec.plain.varTypes Tryz.prog) (ds ++ gs)).all (· ≤ reachBytes) = true := hsz0
  have hW' := hW
  obtain ⟨p, q, hA0, hV, rfl, hfz, hnd⟩ := hW
  have hA : DataW.TrodAll enc Tryz.prog W 0 (fun _ => true) true Tryz.f3.params.toList args.toList ds p := hA0
  rw [Tryz.params3] at hA hval hsz
  obtain ⟨v0, vs0, d0, ds0, p0, q0, hargs, rfl, rfl, h0, r0⟩ := trodAll_cons hA
  obtain ⟨v1, vs1, d1, ds1, p1, q1, rfl, rfl, rfl, h1, r1⟩ := trodAll_cons r0
  obtain ⟨rfl, rfl, rfl⟩ := trodAll_nil r1
  obtain rfl : args = #[v0, v1] := by cases args; simp_all
  obtain ⟨rfl, rfl⟩ := trodVars_none hV
  obtain ⟨a0, rfl, rfl, rfl, w0⟩ := open_string Tryz.underlying9 (hval 0 9 v0 rfl rfl) h0
  have hlt1 : ∀ x ∈ p1, x.block < W.heap.size := fun x hx => by simpa using hW'.lt x (by simp [hx])
  have hk1 := h1
  obtain ⟨cs1, rfl, hcs1⟩ := okWide_struct Tryz.underlying23 (hval 1 23 v1 rfl rfl)
  obtain ⟨fuel1, hf1⟩ := h1
  have z0 : a0.size ≤ 140737488351232 := by
    have := sized_string hsz (j := 0) (t := 9) rfl rfl
    simpa [reachBytes] using this
  obtain ⟨I1, N1, S1, V1, B1, hce1, hI1, hN1, hS1, hV1⟩ := open_ask (x := (d1, p1)) (j := 1) (cs := cs1.toList) (by rw [Array.length_toList, hcs1]; exact cellsAsk) (by simpa [Value.cells] using hf1) hsz rfl rfl
  obtain rfl : cs1 = #[.int .i64 I1, .int .i64 N1, .int .i64 S1, .string V1, .bool B1] := by cases cs1; simp_all
  clear hA0 hval0 hsz0
  refine (ListpackReads_walk a0 I1 N1 S1 V1 B1 z0 hI1 hN1 hS1 hV1 W  (of_laid hL)).mono fun e W' ⟨he, bel⟩ => ?_
  subst he
  exact ⟨_, rfl, _, _, _, [], _, [], hW', trodAll_mk1 (shut_bool Tryz.underlying4 _), (trodAll_cons_mk (shut_string Tryz.underlying9 w0) (trodAll_cons_mk (Below.trod laidOut (by kernel_rfl) (of_decide_eq_true (by kernel_rfl)) hk1 bel hlt1) trodAll_mk0)), rfl, bel.frame _, fun h => by cases h⟩

theorem over : Rows.ListpackReadsSaid :=
  OpenClaim.holds_of_wide 3 Tryz.f3 rfl rfl rfl rfl rfl rfl rfl ⟨rfl, rfl, rfl, rfl, rfl⟩ rfl rfl rfl rfl rfl (by kernel_rfl) Tryz.func3 (by kernel_rfl)
    (of_decide_eq_true (by kernel_rfl)) (by unfold Func.isWrapper; first | (rw [if_pos (by decide +kernel)]; kernel_rfl) | (rw [if_neg (by decide +kernel)]; exact ⟨rfl, rfl⟩))
    (fun os started H enc _ => lifted os started H enc)
end Go.Proofs.YtadihhngegimkaaGreatDoor.listpackReads
namespace Go.Proofs.YtadihhngegimkaaGreatDoor
theorem listpackReads_card : Rows.ListpackReadsCardSaid :=
  Claim7.holds_tied_plain_at .later [] [.data, .data, .data, .sentinel, .sentinel, .data] true (true, "57e5c249cf0b3dbfea734699a4a8d183af266ba241679cae4ca8865a89ec422d") true
    listpackReads.over (fun _ h => by cases h) (by kernel_rfl) (fun _ h => by cases h) listpackReads_row_tie rfl ⟨rfl, rfl⟩ (by kernel_rfl) rfl
    (fun f fn hf hfn => by
      obtain rfl : f = 3 := Option.some.inj ((show Tryz.prog.funcNamed "cistern/cisternlaw06.ListpackReads" = some 3 by kernel_rfl).symm.trans hf) |>.symm
      obtain rfl : fn = Tryz.f3 := (Option.some.inj (Tryz.func3.symm.trans hfn)).symm
      exact ⟨by kernel_rfl, fun j t ht => by
        rw [Tryz.params3] at ht
        have hm : t ∈ [9, 23] := by simpa using Array.mem_of_getElem? ht
        have hall : ([9, 23].all fun u => !Tryz.prog.wantsStandIn u) = true := by kernel_rfl
        exact (show Tryz.prog.wantsStandIn t = false by simpa using List.all_eq_true.1 hall t hm)⟩)
    (by kernel_rfl)
#print axioms listpackReads_card
end Go.Proofs.YtadihhngegimkaaGreatDoor
