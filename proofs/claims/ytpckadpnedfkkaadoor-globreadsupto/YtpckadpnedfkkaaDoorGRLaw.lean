import Derived.Test.YtpckadpnedfkkaaDoorRLit
import Derived.Test.YtpckadpnedfkkaaDoorRBnd
import Derived.Test.YtpckadpnedfkkaaDoorGMLaw
namespace Go.Proofs.YtpckadpnedfkkaaDoor
open Go.RowKit Gb Vi
set_option linter.unusedVariables false
theorem rliteral_any (HS : StepsC) (p : ByteArray) (hp : p.size ≤ 3000000) (w : World) :
    Calls Tryd.prog 15 #[.string p] w fun e w' => e = .returned (litT p.data.toList) ∧ Below w.heap.size w w' := by
  rw [← litP_T]
  exact rlit_steps p (parse p.data.toList) (by have := plen p.data.toList; rw [list_len] at this; omega) (HS p hp) w
theorem bound_err (l : List UInt8) : ∃ a b c e, boundOf l = (a, b, c, e) ∧ (e = 0 ∨ e = 40) := by
  unfold boundOf bndF
  split
  · exact ⟨_, _, _, _, rfl, Or.inl rfl⟩
  split
  · exact ⟨_, _, _, _, rfl, Or.inl rfl⟩
  cases h : scoreOf (restL 40 l) with
  | none => exact ⟨_, _, _, _, bndS_none h _, Or.inr rfl⟩
  | some v => exact ⟨_, _, _, _, bndS_some h _, Or.inl rfl⟩
theorem lex_err (l : List UInt8) : ∃ a b c e, lexOf l = (a, b, c, e) ∧ (e = 0 ∨ e = 40) := by
  unfold lexOf
  split
  · exact ⟨_, _, _, _, rfl, Or.inl rfl⟩
  split
  · exact ⟨_, _, _, _, rfl, Or.inl rfl⟩
  split
  · exact ⟨_, _, _, _, rfl, Or.inl rfl⟩
  split
  · exact ⟨_, _, _, _, rfl, Or.inl rfl⟩
  · exact ⟨_, _, _, _, rfl, Or.inr rfl⟩
theorem score_two (l : List UInt8) : ∃ n ok, scoreT l = .tuple #[.int .i64 n, .bool ok] := by
  unfold scoreT
  split
  · exact ⟨_, _, rfl⟩
  · exact ⟨_, _, rfl⟩
theorem lit_two (l : List UInt8) : ∃ t ok, litT l = .tuple #[.string t, .bool ok] := by
  unfold litT
  split
  · exact ⟨_, _, rfl⟩
  · exact ⟨_, _, rfl⟩
theorem newA {w w' : World} {x : Obj} (hb : Below (w.alloc x).heap.size (w.alloc x) w') : w'.heap[w.heap.size]? = some x :=
  (hb.block _ (row_lt (one_alloc w x))).trans (one_alloc w x)
theorem keepA {w w' : World} {g : Nat} {o x : Obj} (h : w.heap[g]? = some o) (hb : Below (w.alloc x).heap.size (w.alloc x) w') : w'.heap[g]? = some o := by
  have e : (w.alloc x).heap[g]? = some o := by
    show (w.heap.push x)[g]? = some o
    rw [Array.getElem?_push, if_neg (by have := row_lt h; omega)]; exact h
  exact (hb.block _ (row_lt e)).trans e
theorem keepB {w w' : World} {g : Nat} {o : Obj} (h : w.heap[g]? = some o) (hb : Below w.heap.size w w') : w'.heap[g]? = some o := (hb.block _ (row_lt h)).trans h
theorem nextA {w0 w w' : World} {x : Obj} (h : Below w0.heap.size w0 w) (hb : Below (w.alloc x).heap.size (w.alloc x) w') : Below w0.heap.size w0 w' :=
  (h.alloc h.size x).trans (hb.mono (h.alloc h.size x).size)
set_option maxHeartbeats 2000000 in
set_option maxRecDepth 20000 in
theorem reads_walk (HS : StepsC) (s : ByteArray) (z0 : s.size ≤ 1048576) (w : World) (hL : Laid w) :
    Calls Tryd.prog 4 #[.string s] w fun e w' => e = .returned (.bool true) ∧ Below w.heap.size w w' := by
  have HL : Hid (Laid w) := hL
  obtain ⟨b0, b1, b2, be, hb, hbe⟩ := bound_err s.data.toList
  obtain ⟨l0, l1, l2, le, hl, hle⟩ := lex_err s.data.toList
  obtain ⟨n, ok, hn⟩ := score_two s.data.toList
  obtain ⟨t, one, ht⟩ := lit_two s.data.toList
  have H1 : Hid (∀ w, Laid w → Calls Tryd.prog 8 #[.string s] w fun e w' => e = .returned (.tuple #[.agg #[.int .i64 b0, .int .i64 b1, .bool b2], .int .i64 be]) ∧ Below w.heap.size w w') := fun w h => by
    have := bound_any s (by omega) w h
    rw [hb] at this
    exact this
  have H2 : Hid (∀ w, Calls Tryd.prog 9 #[.string s] w fun e w' => e = .returned (.tuple #[.agg #[.int .i64 b0, .int .i64 b1, .bool b2], .int .i64 be]) ∧ Below w.heap.size w w') := fun w => by
    have := rbound_any s (by omega) w
    rw [hb] at this
    exact this
  obtain ⟨lt, hlt⟩ : ∃ lt, strB l0 = lt := ⟨_, rfl⟩
  have H3 : Hid (∀ w, Calls Tryd.prog 10 #[.string s] w fun e w' => e = .returned (.tuple #[.agg #[.string lt, .int .i64 l1, .bool l2], .int .i64 le]) ∧ Below w.heap.size w w') := fun w => by
    have := lex_any s w
    rw [hl] at this
    unfold lexT at this
    dsimp only at this
    rw [hlt] at this
    exact this
  have H4 : Hid (∀ w, Calls Tryd.prog 11 #[.string s] w fun e w' => e = .returned (.tuple #[.agg #[.string lt, .int .i64 l1, .bool l2], .int .i64 le]) ∧ Below w.heap.size w w') := fun w => by
    have := rlex_any s (by omega) w
    rw [hl] at this
    unfold lexT at this
    dsimp only at this
    rw [hlt] at this
    exact this
  have H5 : Hid (∀ w, Laid w → Calls Tryd.prog 12 #[.string s] w fun e w' => e = .returned (.tuple #[.int .i64 n, .bool ok]) ∧ Below w.heap.size w w') := fun w h => by
    have := score_any s (by omega) w h
    rw [hn] at this
    exact this
  have H6 : Hid (∀ w, Calls Tryd.prog 13 #[.string s] w fun e w' => e = .returned (.tuple #[.int .i64 n, .bool ok]) ∧ Below w.heap.size w w') := fun w => by
    have := rscore_any s (by omega) w
    rw [hn] at this
    exact this
  have H7 : Hid (∀ w, Calls Tryd.prog 14 #[.string s] w fun e w' => e = .returned (.tuple #[.string t, .bool one]) ∧ Below w.heap.size w w') := fun w => by
    have := literal_any s (by omega) w
    rw [ht] at this
    exact this
  have H8 : Hid (∀ w, Calls Tryd.prog 15 #[.string s] w fun e w' => e = .returned (.tuple #[.string t, .bool one]) ∧ Below w.heap.size w w') := fun w => by
    have := rliteral_any HS s (by omega) w
    rw [ht] at this
    exact this
  obtain ⟨f, hf⟩ : ∃ f, foldB s = f := ⟨_, rfl⟩
  have H9 : Hid (∀ w, Calls Tryd.prog 16 #[.string s] w fun e w' => e = .returned (.string f) ∧ Below w.heap.size w w') := fun w => by
    have := fold_any s (by omega) w
    rw [hf] at this
    exact this
  have H10 : Hid (∀ w, Calls Tryd.prog 17 #[.string s] w fun e w' => e = .returned (.string f) ∧ Below w.heap.size w w') := fun w => by
    have := rfold_any s (by omega) w
    rw [hf] at this
    exact this
  clear hL HS hb hl hn ht hlt hf
  rcases hbe with rfl | rfl
  all_goals rcases hle with rfl | rfl
  all_goals
    go_enter Tryd.func4, Tryd.ntmps4
    go_wp2_with fail
    refine (H1.out _ HL.out).mono ?_
    rintro e w1 ⟨rfl, hb1⟩
    have h1 : Hid (Below w.heap.size w w1) := hb1
    clear hb1
    go_wp2_with fail
    refine (H2.out _).mono ?_
    rintro e w2 ⟨rfl, hb2⟩
    have RA : Hid _ := newA hb2
    have h2 : Hid _ := nextA h1.out hb2
    clear hb2 h1
    go_wp2_with fail
    refine (H3.out _).mono ?_
    rintro e w3 ⟨rfl, hb3⟩
    have RA : Hid _ := keepA RA.out hb3
    have RB : Hid _ := newA hb3
    have h3 : Hid _ := nextA h2.out hb3
    clear hb3 h2
    go_wp2_with fail
    refine (H4.out _).mono ?_
    rintro e w4 ⟨rfl, hb4⟩
    have RA : Hid _ := keepA RA.out hb4
    have RB : Hid _ := keepA RB.out hb4
    have RC : Hid _ := newA hb4
    have h4 : Hid _ := nextA h3.out hb4
    clear hb4 h3
    go_wp2_with fail
    refine (H5.out _ ((HL.out.on h4.out).on ((Below.refl _ w4).alloc (Nat.le_refl _) _))).mono ?_
    rintro e w5 ⟨rfl, hb5⟩
    have RA : Hid _ := keepA RA.out hb5
    have RB : Hid _ := keepA RB.out hb5
    have RC : Hid _ := keepA RC.out hb5
    have RD : Hid _ := newA hb5
    have h5 : Hid _ := nextA h4.out hb5
    clear hb5 h4
    go_wp2_with fail
    refine (H6.out _).mono ?_
    rintro e w6 ⟨rfl, hb6⟩
    go_wp2_with fail
    refine (H7.out _).mono ?_
    rintro e w7 ⟨rfl, hb7⟩
    have hb7 := hb6.trans (hb7.mono hb6.size)
    clear hb6
    go_wp2_with fail
    refine (H8.out _).mono ?_
    rintro e w8 ⟨rfl, hb8⟩
    have hb8 := hb7.trans (hb8.mono hb7.size)
    clear hb7
    have h8 : Hid (Below w.heap.size w w8) := h5.out.trans (hb8.mono h5.out.size)
    go_wp2_with fail
    refine (works_any _ (HL.out.on h8.out)).mono ?_
    rintro e w9 ⟨rfl, hb9⟩
    have h9 : Hid (Below w.heap.size w w9) := h8.out.trans (hb9.mono h8.out.size)
    have hb9 := hb8.trans (hb9.mono hb8.size)
    clear hb8 h8
    obtain ⟨a0, a1, a2, af⟩ := row3 (keepB RA.out hb9)
    obtain ⟨b0', b1', b2', bf⟩ := row3 (keepB RB.out hb9)
    obtain ⟨c0, c1, c2, cf⟩ := row3 (keepB RC.out hb9)
    obtain ⟨d0, d1, d2, df⟩ := row3 (keepB RD.out hb9)
    clear hb9
    go_wp2_with fail
    refine (H9.out _).mono ?_
    rintro e w10 ⟨rfl, hb10⟩
    have h10 : Hid (Below w.heap.size w w10) := h9.out.trans (hb10.mono h9.out.size)
    clear hb10
    go_wp2_with fail
    refine (H10.out _).mono ?_
    rintro e w11 ⟨rfl, hb11⟩
    have h11 : Hid (Below w.heap.size w w11) := h10.out.trans (hb11.mono h10.out.size)
    clear hb11
    go_wp2
    go_ret
    exact ⟨by first | rfl | simp, h11.out⟩
end Go.Proofs.YtpckadpnedfkkaaDoor
