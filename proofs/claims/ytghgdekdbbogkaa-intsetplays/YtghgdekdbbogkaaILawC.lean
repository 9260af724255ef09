import Derived.Test.YtghgdekdbbogkaaILawA
namespace Go.Proofs.Ytghgdekdbbogkaa
open Go.RowKit IM
set_option linter.unusedVariables false
def HoldsB (w : World) (v : Value) (l : List Bool) : Prop := ∃ q cap, v = .slice q l.length cap ∧ (l ≠ [] → ∃ g off, q = some ⟨g, off, none⟩ ∧ ∀ j, (hj : j < l.length) → w.cell? ⟨g, off + j, none⟩ = some (.bool l[j]))
theorem HoldsB.keep {w w' : World} {v : Value} {l : List Bool} (h : HoldsB w v l) (hb : Below w.heap.size w w') : HoldsB w' v l := by
  obtain ⟨q, cap, e, h2⟩ := h
  refine ⟨q, cap, e, fun hl => ?_⟩
  obtain ⟨g, off, eq, hc⟩ := h2 hl
  refine ⟨g, off, eq, fun j hj => ?_⟩
  have h1 := hc j hj
  have hlt := World.block_lt_of_cell? _ _ h1
  rw [World.cell?_of_block (hb.block _ hlt)]
  exact h1
set_option maxHeartbeats 1000000 in
set_option maxRecDepth 100000 in
theorem IntsetPlays_walk (a b : Value) (lo : List Int) (lb : List Bool) (w : World) (hlo : ∀ n ∈ lo, I64 n) (ha : HoldsO w a lo) (hb : HoldsB w b lb) (hl1 : lo.length ≤ 9223372036854775807) (hl2 : lb.length ≤ 9223372036854775807) :
    Calls Try.prog 7 #[a, b] w fun e w' => e = .returned (.bool true) ∧ Below w.heap.size w w' := by
  obtain ⟨qa, ca, rfl, ha⟩ := ha
  obtain ⟨qb, cb, rfl, hb⟩ := hb
  have HA : Hid _ := ha
  have HB : Hid _ := hb
  have HI : Hid (∀ k, (hk : k < lo.length) → I64 lo[k]) := fun k hk => hlo _ (List.getElem_mem hk)
  have HNW : Hid (∀ w, Calls Try.prog 9 #[] w fun e w' => e = .returned (.string (strB (txt 2 []))) ∧ Below w.heap.size w w') := fun w => new_any w
  have HRN : Hid (∀ w, Calls Try.prog 19 #[] w fun e w' => e = .returned (.string (strB (txt 2 []))) ∧ Below w.heap.size w w') := fun w => rnew_any w
  have HSU : Hid (∀ w, Calls Try.prog 15 #[] w fun e w' => e = .returned (.bool true) ∧ Below w.heap.size w w') := fun w => sure_any w
  clear ha hb hlo
  go_enter Try.func7, Try.ntmps7
  go_wp2_with fail
  refine (HNW.out _).mono ?_
  rintro e w1 ⟨rfl, hb1⟩
  go_wp2_with fail
  refine (HRN.out _).mono ?_
  rintro e w2 ⟨rfl, hb2⟩
  have HB2 : Hid (Below w.heap.size w w2) := hb1.trans (hb2.mono hb1.size)
  have HP0 : Hid ((strB (txt 2 [])).size ≤ 10000000) := by
    have hx : (strB (txt 2 [])).size ≤ 10000000 := by rw [strB_size, txt_len]; simp
    exact hx
  clear hb1 hb2
  generalize hP0 : strB (txt 2 []) = P0 at HP0 ⊢
  clear hP0
  go_wp2
  go_loopw [5, 6, 7, 8, 9, 10, 11, 12] (fun pp xx ii dd nn ss ee ff wr => ∃ (k : Nat) (P : ByteArray), k ≤ lo.length ∧ k ≤ 400 ∧ ii = .int .i64 k ∧ pp = .string P ∧ xx = .string P ∧ P.size ≤ 10000000 ∧ Below w.heap.size w wr) (fun _ _ ii _ _ _ _ _ _ => lo.length - (intOf ii).toNat)
  case atStart => exact ⟨0, P0, by omega, by omega, rfl, rfl, rfl, HP0.out, HB2.out⟩
  case round =>
    obtain ⟨k, P, hk, hk4, rfl, rfl, rfl, hpz, hbel⟩ := hrel
    have HPZ : Hid (P.size ≤ 10000000) := hpz
    have HBL : Hid (Below w.heap.size w wr) := hbel
    clear hpz hbel
    by_cases hlt : k < lo.length
    · by_cases h4 : k < 400
      · obtain ⟨g, off, rfl, hcell⟩ := HA.out (by intro e; rw [e] at hlt; simp at hlt)
        have hc := (cell_below HBL.out (World.block_lt_of_cell? _ _ (hcell k hlt))).trans (hcell k hlt)
        have HI64 : Hid (I64 lo[k]) := HI.out k hlt
        have hkz : (k : Int) < (lo.length : Int) := by omega
        have hk4z : (k : Int) < 400 := by omega
        clear hcell
        generalize lo[k] = n at hc HI64
        by_cases hd : k < lb.length
        · obtain ⟨g2, off2, rfl, hcell2⟩ := HB.out (by intro e; rw [e] at hd; simp at hd)
          have hc2 := (cell_below HBL.out (World.block_lt_of_cell? _ _ (hcell2 k hd))).trans (hcell2 k hd)
          have hdz : (k : Int) < (lb.length : Int) := by omega
          clear hcell2
          generalize lb[k] = d at hc2
          cases d
          · obtain ⟨q, bb, ee, h1, h2, he0, he1, hq⟩ := adds_two P (by unfold bigS; have := HPZ.out; omega) n (HI64.out)
            have H1 : Hid (∀ w, Calls Try.prog 10 #[.string P, .int .i64 n] w fun x w' => x = .returned (.tuple #[.string q, .bool bb, .int .i64 ee]) ∧ Below w.heap.size w w') := h1
            have H2 : Hid (∀ w, Calls Try.prog 16 #[.string P, .int .i64 n] w fun x w' => x = .returned (.tuple #[.string q, .bool bb, .int .i64 ee]) ∧ Below w.heap.size w w') := h2
            have HQ : Hid (q.size ≤ 10000000) := by
              have hx : q.size ≤ 10000000 := by have := HPZ.out; omega
              exact hx
            clear h1 h2 hq
            go_wp2_with fail
            refine (H1.out _).mono ?_
            rintro e w3 ⟨rfl, hb3⟩
            have HB3 : Hid (Below w.heap.size w w3) := HBL.out.trans (hb3.mono HBL.out.size)
            have hc3 : w3.cell? ⟨g, off + k, none⟩ = some (.int .i64 n) := (cell_below hb3 (World.block_lt_of_cell? _ _ hc)).trans hc
            clear hb3 hc
            go_wp2_with fail
            refine (H2.out _).mono ?_
            rintro e w4 ⟨rfl, hb4⟩
            have HB4 : Hid (Below w.heap.size w w4) := HB3.out.trans (hb4.mono HB3.out.size)
            clear hb4 hc3
            go_wp2
            go_roundw
            case rel => exact ⟨k + 1, q, by omega, by omega, by go_num, rfl, rfl, HQ.out, HB4.out⟩
            case measure => simp [intOf]; omega
          · obtain ⟨q, bb, ee, h1, h2, he0, he1, hq⟩ := drops_two P (by unfold bigS; have := HPZ.out; omega) n
            have H1 : Hid (∀ w, Calls Try.prog 17 #[.string P, .int .i64 n] w fun x w' => x = .returned (.tuple #[.string q, .bool bb, .int .i64 ee]) ∧ Below w.heap.size w w') := h1
            have H2 : Hid (∀ w, Calls Try.prog 18 #[.string P, .int .i64 n] w fun x w' => x = .returned (.tuple #[.string q, .bool bb, .int .i64 ee]) ∧ Below w.heap.size w w') := h2
            have HQ : Hid (q.size ≤ 10000000) := by
              have hx : q.size ≤ 10000000 := by have := HPZ.out; omega
              exact hx
            clear h1 h2 hq
            go_wp2_with fail
            refine (H1.out _).mono ?_
            rintro e w3 ⟨rfl, hb3⟩
            have HB3 : Hid (Below w.heap.size w w3) := HBL.out.trans (hb3.mono HBL.out.size)
            have hc3 : w3.cell? ⟨g, off + k, none⟩ = some (.int .i64 n) := (cell_below hb3 (World.block_lt_of_cell? _ _ hc)).trans hc
            clear hb3 hc
            go_wp2_with fail
            refine (H2.out _).mono ?_
            rintro e w4 ⟨rfl, hb4⟩
            have HB4 : Hid (Below w.heap.size w w4) := HB3.out.trans (hb4.mono HB3.out.size)
            clear hb4 hc3
            go_wp2
            go_roundw
            case rel => exact ⟨k + 1, q, by omega, by omega, by go_num, rfl, rfl, HQ.out, HB4.out⟩
            case measure => simp [intOf]; omega
        · have hdz : ¬ (k : Int) < (lb.length : Int) := by omega
          obtain ⟨q, bb, ee, h1, h2, he0, he1, hq⟩ := adds_two P (by unfold bigS; have := HPZ.out; omega) n (HI64.out)
          have H1 : Hid (∀ w, Calls Try.prog 10 #[.string P, .int .i64 n] w fun x w' => x = .returned (.tuple #[.string q, .bool bb, .int .i64 ee]) ∧ Below w.heap.size w w') := h1
          have H2 : Hid (∀ w, Calls Try.prog 16 #[.string P, .int .i64 n] w fun x w' => x = .returned (.tuple #[.string q, .bool bb, .int .i64 ee]) ∧ Below w.heap.size w w') := h2
          have HQ : Hid (q.size ≤ 10000000) := by
            have hx : q.size ≤ 10000000 := by have := HPZ.out; omega
            exact hx
          clear h1 h2 hq
          go_wp2_with fail
          refine (H1.out _).mono ?_
          rintro e w3 ⟨rfl, hb3⟩
          have HB3 : Hid (Below w.heap.size w w3) := HBL.out.trans (hb3.mono HBL.out.size)
          have hc3 : w3.cell? ⟨g, off + k, none⟩ = some (.int .i64 n) := (cell_below hb3 (World.block_lt_of_cell? _ _ hc)).trans hc
          clear hb3 hc
          go_wp2_with fail
          refine (H2.out _).mono ?_
          rintro e w4 ⟨rfl, hb4⟩
          have HB4 : Hid (Below w.heap.size w w4) := HB3.out.trans (hb4.mono HB3.out.size)
          clear hb4 hc3
          go_wp2
          go_roundw
          case rel => exact ⟨k + 1, q, by omega, by omega, by go_num, rfl, rfl, HQ.out, HB4.out⟩
          case measure => simp [intOf]; omega
      · have h4z : ¬ (k : Int) < 400 := by omega
        have hkz : (k : Int) < (lo.length : Int) := by omega
        go_wp2_with fail
        refine (HSU.out _).mono ?_
        rintro e w3 ⟨rfl, hb3⟩
        have HB3 : Hid (Below w.heap.size w w3) := HBL.out.trans (hb3.mono HBL.out.size)
        clear hb3
        go_wp2
        go_ret
        exact ⟨rfl, HB3.out⟩
    · have hkz : ¬ (k : Int) < (lo.length : Int) := by omega
      go_wp2_with fail
      refine (HSU.out _).mono ?_
      rintro e w3 ⟨rfl, hb3⟩
      have HB3 : Hid (Below w.heap.size w w3) := HBL.out.trans (hb3.mono HBL.out.size)
      clear hb3
      go_wp2
      go_ret
      exact ⟨rfl, HB3.out⟩
end Go.Proofs.Ytghgdekdbbogkaa
