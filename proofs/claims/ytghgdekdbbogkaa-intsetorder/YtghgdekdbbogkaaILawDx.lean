import Derived.Test.YtghgdekdbbogkaaILawA
import Derived.Test.YtghgdekdbbogkaaILawE
namespace Go.Proofs.Ytghgdekdbbogkaa
open Go.RowKit IM
set_option linter.unusedVariables false
/-- a text that is the intset of these numbers, its width the greatest that one of them needs. -/
def St (P : ByteArray) (s : List Int) : Prop := ∃ W ls, IsSet P.data.toList W ls ∧ (∀ n, n ∈ ls ↔ n ∈ s) ∧ ls.length ≤ s.length ∧ 2 ≤ W ∧ (∀ n ∈ s, needs n ≤ W) ∧ (W = 2 ∨ ∃ n ∈ s, W = needs n)
theorem st_nil : St (strB (txt 2 [])) [] := ⟨2, [], isset0, by simp, by simp, Nat.le_refl _, by simp, Or.inl rfl⟩
theorem st_add {P : ByteArray} {s : List Int} (h : St P s) (n : Int) (hn : I64 n) (hs : s.length < 1048576) : ∃ (Q : ByteArray) (b : Bool) (e : Int), (∀ w, Calls Try.prog 10 #[.string P, .int .i64 n] w fun x w' => x = .returned (.tuple #[.string Q, .bool b, .int .i64 e]) ∧ Below w.heap.size w w') ∧ St Q (n :: s) := by
  obtain ⟨W, ls, hset, hmem, hlen, h2, hall, hex⟩ := h
  by_cases hm : n ∈ ls
  · refine ⟨P, false, 0, fun w => add_in P W ls hset n hm w, W, ls, hset, ?_, by simp; omega, h2, ?_, ?_⟩
    · intro x
      rw [hmem, List.mem_cons]
      constructor
      · intro h; exact Or.inr h
      · rintro (h | h)
        · rw [h]; exact (hmem n).1 hm
        · exact h
    · intro x hx
      rcases List.mem_cons.1 hx with h | h
      · rw [h]; exact hall n ((hmem n).1 hm)
      · exact hall x h
    · rcases hex with h | ⟨x, hx, e⟩
      · exact Or.inl h
      · exact Or.inr ⟨x, List.mem_cons_of_mem _ hx, e⟩
  · refine ⟨strB (txt (max W (needs n)) (ins ls n)), true, 0, fun w => add_new P W ls hset n hn hm (by omega) w, max W (needs n), ins ls n, ?_, ?_, ?_, by omega, ?_, ?_⟩
    · rw [strB_list]; exact hset.add n hm hn (by omega)
    · intro x; rw [ins_mem, hmem, List.mem_cons]
    · rw [ins_len]; simp; omega
    · intro x hx
      rcases List.mem_cons.1 hx with h | h
      · rw [h]; omega
      · have := hall x h; omega
    · rcases Nat.le_total W (needs n) with h | h
      · exact Or.inr ⟨n, by simp, by omega⟩
      · rcases hex with e | ⟨x, hx, e⟩
        · left; omega
        · exact Or.inr ⟨x, List.mem_cons_of_mem _ hx, by omega⟩
theorem st_eq {P Q : ByteArray} {s t : List Int} (hP : St P s) (hQ : St Q t) (h : ∀ n, n ∈ s ↔ n ∈ t) : P = Q := by
  obtain ⟨W, ls, hs1, hm1, _, h21, ha1, he1⟩ := hP
  obtain ⟨V, lt, hs2, hm2, _, h22, ha2, he2⟩ := hQ
  have hl : ls = lt := rise_ext hs1.rise hs2.rise (fun n => by rw [hm1, hm2, h])
  have hle : ∀ n, 2 ≤ needs n := fun n => by unfold needs; split <;> (try split) <;> omega
  have hw : W = V := by
    rcases he1 with e1 | ⟨x, hx, e1⟩ <;> rcases he2 with e2 | ⟨y, hy, e2⟩
    · omega
    · have := ha1 y ((h y).2 hy); omega
    · have := ha2 x ((h x).1 hx); omega
    · have := ha1 y ((h y).2 hy); have := ha2 x ((h x).1 hx); omega
  have ht : P.data.toList = Q.data.toList := by rw [hs1.txt, hs2.txt, hl, hw]
  rw [← strB_of P, ← strB_of Q, ht]
set_option maxHeartbeats 1000000 in
set_option maxRecDepth 100000 in
theorem IntsetOrder_walk (a : Value) (lo : List Int) (w : World) (hlo : ∀ n ∈ lo, I64 n) (ha : HoldsO w a lo) (hl1 : lo.length ≤ 9223372036854775807) :
    Calls Try.prog 4 #[a] w fun e w' => e = .returned (.bool true) ∧ Below w.heap.size w w' := by
  have hhold := ha
  obtain ⟨qa, ca, rfl, ha⟩ := ha
  have HA : Hid _ := ha
  have HHO : Hid (HoldsO w (.slice qa lo.length ca) lo) := hhold
  have HI : Hid (∀ k, (hk : k < lo.length) → I64 lo[k]) := fun k hk => hlo _ (List.getElem_mem hk)
  have HNW : Hid (∀ w, Calls Try.prog 9 #[] w fun e w' => e = .returned (.string (strB (txt 2 []))) ∧ Below w.heap.size w w') := fun w => new_any w
  have HSU : Hid (∀ w, Calls Try.prog 15 #[] w fun e w' => e = .returned (.bool true) ∧ Below w.heap.size w w') := fun w => sure_any w
  clear ha hlo hhold
  go_enter Try.func4, Try.ntmps4
  go_wp2_with fail
  refine (HNW.out _).mono ?_
  rintro e w1 ⟨rfl, hb1⟩
  go_wp2_with fail
  refine (HNW.out _).mono ?_
  rintro e w2 ⟨rfl, hb2⟩
  have HB2 : Hid (Below w.heap.size w w2) := hb1.trans (hb2.mono hb1.size)
  have HP0 : Hid (St (strB (txt 2 [])) []) := st_nil
  clear hb1 hb2
  generalize hP0 : strB (txt 2 []) = P0 at HP0 ⊢
  clear hP0
  go_wp2
  go_loopw [3, 5] (fun pp ii wr => ∃ (k : Nat) (P : ByteArray), k ≤ lo.length ∧ k ≤ 400 ∧ ii = .int .i64 k ∧ pp = .string P ∧ St P (lo.take k).reverse ∧ Below w.heap.size w wr) (fun _ ii _ => lo.length - (intOf ii).toNat)
  case atStart => exact ⟨0, P0, by omega, by omega, rfl, rfl, HP0.out, HB2.out⟩
  case round =>
    obtain ⟨k, P, hk, hk4, rfl, rfl, hst, hbel⟩ := hrel
    have HST : Hid (St P (lo.take k).reverse) := hst
    have HBL : Hid (Below w.heap.size w wr) := hbel
    clear hst hbel
    by_cases hlt : k < lo.length
    · by_cases h4 : k < 400
      · obtain ⟨g, off, rfl, hcell⟩ := HA.out (by intro e; rw [e] at hlt; simp at hlt)
        have hc := (cell_below HBL.out (World.block_lt_of_cell? _ _ (hcell k hlt))).trans (hcell k hlt)
        have hkz : (k : Int) < (lo.length : Int) := by omega
        have hk4z : (k : Int) < 400 := by omega
        clear hcell
        obtain ⟨Q, bb, ee, hadd, hst2⟩ := st_add HST.out lo[k] (HI.out k hlt) (by simp; omega)
        have HS2 : Hid (St Q (lo.take (k + 1)).reverse) := by
          rw [List.take_add_one, List.getElem?_eq_getElem hlt, List.reverse_append]; exact hst2
        generalize lo[k] = n at hc hadd hst2
        have HAD : Hid (∀ w, Calls Try.prog 10 #[.string P, .int .i64 n] w fun x w' => x = .returned (.tuple #[.string Q, .bool bb, .int .i64 ee]) ∧ Below w.heap.size w w') := hadd
        clear hadd hst2
        go_wp2_with fail
        refine (HAD.out _).mono ?_
        rintro e w3 ⟨rfl, hb3⟩
        have HB3 : Hid (Below w.heap.size w w3) := HBL.out.trans (hb3.mono HBL.out.size)
        clear hb3 hc
        go_wp2
        go_roundw
        case rel => exact ⟨k + 1, Q, by omega, by omega, by go_num, rfl, HS2.out, HB3.out⟩
        case measure => simp [intOf]; omega
      · have h4d : decide ((k : Int) < 400) = false := decide_eq_false (by omega)
        have hkz : (k : Int) < (lo.length : Int) := by omega
        have HKE : Hid (k = 400) := (by omega : k = 400)
        have HKL : Hid (400 < lo.length) := (by omega : 400 < lo.length)
        have hmd : decide ((lo.length : Int) < 400) = false := decide_eq_false (by omega)
        clear h4 hlt hk hk4
        have HL1 : Hid (lo.length ≤ 9223372036854775807) := hl1
        clear hl1
        have HST4 : Hid (St P (lo.take 400).reverse) := by have h := HST.out; rw [HKE.out] at h; exact h
        clear HST
        have HST := HST4
        have HML : Hid (400 ≤ lo.length) := (by have := HKL.out; omega : 400 ≤ lo.length)
        have HM4 : Hid (400 ≤ 400) := Nat.le_refl _
        go_wp2
        all_goals first | (exfalso; have := HKL.out; omega) | skip
        go_loopw [4, 6] (fun qq ii wr2 => ∃ (j : Nat) (Q : ByteArray), j ≤ 400 ∧ ii = .int .i64 ((j : Int) - 1) ∧ qq = .string Q ∧ St Q ((lo.take 400).drop j) ∧ Below w.heap.size w wr2) (fun _ ii _ => (intOf ii + 1).toNat)
        case atStart => exact ⟨400, P0, Nat.le_refl _, by go_num, rfl, (by rw [List.drop_of_length_le (by rw [List.length_take]; omega)]; exact HP0.out), HBL.out⟩
        case round =>
          obtain ⟨j, Q, hj, rfl, rfl, hst2, hbel2⟩ := hrel
          have HS2 : Hid (St Q ((lo.take 400).drop j)) := hst2
          have HB3 : Hid (Below w.heap.size w wr) := hbel2
          clear hst2 hbel2
          cases j with
          | succ t =>
            rw [show ((t + 1 : Nat) : Int) - 1 = (t : Int) by omega]
            have htl : t < lo.length := by have := HML.out; omega
            obtain ⟨g, off, rfl, hcell⟩ := HA.out (by intro e; rw [e] at htl; simp at htl)
            have hc := (cell_below HB3.out (World.block_lt_of_cell? _ _ (hcell t htl))).trans (hcell t htl)
            have htz : (t : Int) < (lo.length : Int) := by omega
            clear hcell
            obtain ⟨Q2, bb, ee, hadd, hst3⟩ := st_add HS2.out lo[t] (HI.out t htl) (by rw [List.length_drop, List.length_take]; have := HM4.out; omega)
            have HS3 : Hid (St Q2 ((lo.take 400).drop t)) := by
              rw [List.drop_eq_getElem_cons (show t < (lo.take 400).length by rw [List.length_take]; omega), List.getElem_take]; exact hst3
            generalize lo[t] = n at hc hadd hst3
            have HAD : Hid (∀ w, Calls Try.prog 10 #[.string Q, .int .i64 n] w fun x w' => x = .returned (.tuple #[.string Q2, .bool bb, .int .i64 ee]) ∧ Below w.heap.size w w') := hadd
            have htt : t ≤ 400 := by omega
            clear hadd hst3 hj
            go_wp2_with fail
            refine (HAD.out _).mono ?_
            rintro e w4 ⟨rfl, hb4⟩
            have HB4 : Hid (Below w.heap.size w w4) := HB3.out.trans (hb4.mono HB3.out.size)
            clear hb4 hc
            go_wp2
            go_roundw
            case rel => exact ⟨t, Q2, htt, by go_num, rfl, HS3.out, HB4.out⟩
            case measure => simp [intOf]
          | zero =>
            have hPQ : P = Q := st_eq HST.out HS2.out (fun n => by rw [List.mem_reverse, List.drop_zero])
            subst hPQ
            obtain ⟨W, ls, hset, hmem, hlen0, _, _, _⟩ := HST.out
            have HSET : Hid (IsSet P.data.toList W ls) := hset
            have HMEM : Hid (∀ n, n ∈ ls ↔ n ∈ lo.take 400) := fun n => by rw [hmem, List.mem_reverse]
            have hln : ls.length ≤ 400 := by rw [List.length_reverse, List.length_take] at hlen0; have := HM4.out; omega
            have HLN : Hid (ls.length ≤ 400) := hln
            clear hset hmem hlen0 hj
            go_wp2_with fail
            refine (all_set P W ls HSET.out _).mono ?_
            rintro e w5 ⟨v, rfl, hv, hb5⟩
            have HB5 : Hid (Below w.heap.size w w5) := HB3.out.trans (hb5.mono HB3.out.size)
            have HV5 : Hid (HoldsI w5 v ls) := hv
            clear hv hb5
            go_wp2_with fail
            refine (valid_set P W ls HSET.out _).mono ?_
            rintro e w6 ⟨rfl, hb6⟩
            have HB6 : Hid (Below w.heap.size w w6) := HB5.out.trans (hb6.mono HB5.out.size)
            have HV6 : Hid (HoldsI w6 v ls) := HV5.out.keep hb6
            clear hb6
            obtain ⟨qv, cv, ev, hcv⟩ := HV6.out
            subst ev
            clear hcv
            go_wp2
            go_loopw [9] (fun ii wr3 => ∃ k3 : Nat, k3 ≤ ls.length ∧ ii = .int .i64 k3 ∧ HoldsI wr3 (.slice qv ls.length cv) ls ∧ Below w.heap.size w wr3) (fun ii _ => ls.length - (intOf ii).toNat)
            case atStart => exact ⟨0, by omega, rfl, HV6.out, HB6.out⟩
            case round =>
              obtain ⟨k3, hk3, rfl, hv3, hbel3⟩ := hrel
              have HV3 : Hid (HoldsI wr (.slice qv ls.length cv) ls) := hv3
              have HB7 : Hid (Below w.heap.size w wr) := hbel3
              clear hv3 hbel3
              by_cases hlt3 : k3 < ls.length
              · have HIN : Hid (ls[k3] ∈ lo) := List.mem_of_mem_take ((HMEM.out _).1 (List.getElem_mem hlt3))
                obtain ⟨q3, c3, e3, hc3⟩ := HV3.out
                injection e3 with e31 e32 e33
                obtain ⟨g3, e34, hcell3⟩ := hc3 (by intro e; rw [e] at hlt3; simp at hlt3)
                rw [e34] at e31
                subst e31
                have hck := hcell3 k3 hlt3
                have hk3z : (k3 : Int) < (ls.length : Int) := by omega
                have HINC : Hid (∀ z, z = ls[k3] → ∀ u, HoldsO u (.slice qa lo.length ca) lo → Calls Try.prog 13 #[.slice qa lo.length ca, .int .i64 z] u fun e w' => e = .returned (.bool true) ∧ ∃ n, w' = u.drewN n) := fun z hz u hu => by
                  have := in_quiet _ lo z HL1.out u hu
                  rw [decide_eq_true (by rw [hz]; exact HIN.out)] at this
                  exact this
                have HOW : Hid (∀ m, HoldsO (wr.drewN m) (.slice qa lo.length ca) lo) := fun m => (HHO.out.keep (below_dn HB7.out m))
                rcases Nat.eq_zero_or_pos k3 with h0 | h0
                · subst h0
                  have hd0 : decide ((0 : Int) < 0) = false := rfl
                  have hk0z : (0 : Int) < (ls.length : Int) := by omega
                  clear e32 e33 e34 hc3 hcell3 hk3z
                  generalize hx : ls[0] = x at hck HIN HINC
                  clear hx
                  rw [show ((0 : Nat) : Int) = 0 from rfl]
                  go_wp2_with fail
                  go_quiet ((go_at_call 13; exact Calls.quiet_of (HINC.out x rfl _ (HOW.out _))))
                  go_wp2
                  go_roundw
                  case rel => exact ⟨1, by omega, by go_num, HV3.out, below_dn HB7.out _⟩
                  case measure => simp [intOf]; omega
                · have hlt0 := HSET.out.rise.lt (k3 - 1) k3 (by omega) hlt3
                  have hck1 := hcell3 (k3 - 1) (by omega)
                  have hkj : (k3 : Int) - 1 = ((k3 - 1 : Nat) : Int) := by omega
                  have hki : IntKind.i64.wrap ((k3 : Int) - 1) = ((k3 - 1 : Nat) : Int) := by rw [IntKind.wrap_i64]; omega
                  have hk3p : (0 : Int) < (k3 : Int) := by omega
                  have hk1z : ((k3 - 1 : Nat) : Int) < (ls.length : Int) := by omega
                  clear e32 e33 e34 hc3 hcell3
                  generalize hx : ls[k3] = x at hck HIN hlt0 HINC
                  generalize ls[k3 - 1] = y at hck1 hlt0
                  clear hx
                  have hxy : decide (x ≤ y) = false := decide_eq_false (by omega)
                  clear hlt0
                  go_wp2_with fail
                  go_quiet ((go_at_call 13; exact Calls.quiet_of (HINC.out x rfl _ (HOW.out _))))
                  go_wp2
                  go_roundw
                  case rel => exact ⟨k3 + 1, by omega, by go_num, HV3.out, below_dn HB7.out _⟩
                  case measure => simp [intOf]; omega
              · have hk3e : k3 = ls.length := by omega
                subst hk3e
                go_wp2
                go_loopw [10] (fun ii wr4 => ∃ k4 : Nat, k4 ≤ lo.length ∧ k4 ≤ 400 ∧ ii = .int .i64 k4 ∧ HoldsI wr4 (.slice qv ls.length cv) ls ∧ Below w.heap.size w wr4) (fun ii _ => lo.length - (intOf ii).toNat)
                case atStart => exact ⟨0, by omega, by omega, rfl, HV3.out, HB7.out⟩
                case round =>
                  obtain ⟨k4, hk4a, hk4b, rfl, hv4, hbel4⟩ := hrel
                  have HV4 : Hid (HoldsI wr (.slice qv ls.length cv) ls) := hv4
                  have HB8 : Hid (Below w.heap.size w wr) := hbel4
                  clear hv4 hbel4
                  by_cases hlt4 : k4 < lo.length
                  · by_cases h44 : k4 < 400
                    · obtain ⟨g, off, eg, hcell⟩ := HA.out (by intro e; rw [e] at hlt4; simp at hlt4)
                      have hc := (cell_below HB8.out (World.block_lt_of_cell? _ _ (hcell k4 hlt4))).trans (hcell k4 hlt4)
                      have hkz4 : (k4 : Int) < (lo.length : Int) := by omega
                      have hk44 : (k4 : Int) < 400 := by omega
                      have HINL : Hid (lo[k4] ∈ ls) := (HMEM.out _).2 (by
                        have hlt5 : k4 < (lo.take 400).length := by rw [List.length_take]; have := HML.out; omega
                        have e : (lo.take 400)[k4] = lo[k4] := List.getElem_take
                        rw [← e]; exact List.getElem_mem hlt5)
                      clear hcell
                      generalize lo[k4] = x at hc HINL
                      have HHAS : Hid (∀ u, Calls Try.prog 14 #[.string P, .int .i64 x] u fun e w' => e = .returned (.bool true) ∧ Below u.heap.size u w') := fun u => by
                        have := has_set P W ls HSET.out x u
                        rw [decide_eq_true HINL.out] at this
                        exact this
                      have HINA : Hid (∀ u, HoldsI u (.slice qv ls.length cv) ls → Calls Try.prog 13 #[.slice qv ls.length cv, .int .i64 x] u fun e w' => e = .returned (.bool true) ∧ ∃ n, w' = u.drewN n) := fun u hu => by
                        have := in_quiet _ ls x (by have := HLN.out; omega) u hu.O
                        rw [decide_eq_true HINL.out] at this
                        exact this
                      subst eg
                      go_wp2_with fail
                      refine (HHAS.out _).mono ?_
                      rintro e w8 ⟨rfl, hb8⟩
                      have hc8 : w8.cell? ⟨g, off + k4, none⟩ = some (.int .i64 x) := (cell_below hb8 (World.block_lt_of_cell? _ _ hc)).trans hc
                      have HV8 : Hid (HoldsI w8 (.slice qv ls.length cv) ls) := HV4.out.keep hb8
                      have HB9 : Hid (Below w.heap.size w w8) := HB8.out.trans (hb8.mono HB8.out.size)
                      clear hb8 hc
                      go_wp2_with fail
                      refine (HINA.out _ HV8.out).mono ?_
                      rintro e w9 ⟨rfl, n9, rfl⟩
                      go_wp2
                      go_roundw
                      case rel => exact ⟨k4 + 1, by omega, by omega, by go_num, HV8.out, below_dn HB9.out _⟩
                      case measure => simp [intOf]; omega
                    · have hd4 : decide ((k4 : Int) < 400) = false := decide_eq_false (by omega)
                      have hkz4 : (k4 : Int) < (lo.length : Int) := by omega
                      clear h44 hk4b hlt4
                      go_wp2_with fail
                      refine (HSU.out _).mono ?_
                      rintro e w8 ⟨rfl, hb8⟩
                      have HB9 : Hid (Below w.heap.size w w8) := HB8.out.trans (hb8.mono HB8.out.size)
                      clear hb8
                      go_wp2
                      go_ret
                      exact ⟨rfl, HB9.out⟩
                  · have hkz4 : ¬ (k4 : Int) < (lo.length : Int) := by omega
                    go_wp2_with fail
                    refine (HSU.out _).mono ?_
                    rintro e w8 ⟨rfl, hb8⟩
                    have HB9 : Hid (Below w.heap.size w w8) := HB8.out.trans (hb8.mono HB8.out.size)
                    clear hb8
                    go_wp2
                    go_ret
                    exact ⟨rfl, HB9.out⟩
    · have hke : k = lo.length := by omega
      have hkz : ¬ (k : Int) < (lo.length : Int) := by omega
      subst hke
      have HL1 : Hid (lo.length ≤ 9223372036854775807) := hl1
      have HML : Hid (lo.length ≤ lo.length) := Nat.le_refl _
      have HM4 : Hid (lo.length ≤ 400) := hk4
      clear hk hlt
      go_wp2
      go_loopw [4, 6] (fun qq ii wr2 => ∃ (j : Nat) (Q : ByteArray), j ≤ lo.length ∧ ii = .int .i64 ((j : Int) - 1) ∧ qq = .string Q ∧ St Q ((lo.take lo.length).drop j) ∧ Below w.heap.size w wr2) (fun _ ii _ => (intOf ii + 1).toNat)
      case atStart => exact ⟨lo.length, P0, Nat.le_refl _, by go_num, rfl, (by rw [List.drop_of_length_le (by rw [List.length_take]; omega)]; exact HP0.out), HBL.out⟩
      case round =>
        obtain ⟨j, Q, hj, rfl, rfl, hst2, hbel2⟩ := hrel
        have HS2 : Hid (St Q ((lo.take lo.length).drop j)) := hst2
        have HB3 : Hid (Below w.heap.size w wr) := hbel2
        clear hst2 hbel2
        cases j with
        | succ t =>
          rw [show ((t + 1 : Nat) : Int) - 1 = (t : Int) by omega]
          have htl : t < lo.length := by have := HML.out; omega
          obtain ⟨g, off, rfl, hcell⟩ := HA.out (by intro e; rw [e] at htl; simp at htl)
          have hc := (cell_below HB3.out (World.block_lt_of_cell? _ _ (hcell t htl))).trans (hcell t htl)
          have htz : (t : Int) < (lo.length : Int) := by omega
          clear hcell
          obtain ⟨Q2, bb, ee, hadd, hst3⟩ := st_add HS2.out lo[t] (HI.out t htl) (by rw [List.length_drop, List.length_take]; have := HM4.out; omega)
          have HS3 : Hid (St Q2 ((lo.take lo.length).drop t)) := by
            rw [List.drop_eq_getElem_cons (show t < (lo.take lo.length).length by rw [List.length_take]; omega), List.getElem_take]; exact hst3
          generalize lo[t] = n at hc hadd hst3
          have HAD : Hid (∀ w, Calls Try.prog 10 #[.string Q, .int .i64 n] w fun x w' => x = .returned (.tuple #[.string Q2, .bool bb, .int .i64 ee]) ∧ Below w.heap.size w w') := hadd
          have htt : t ≤ lo.length := by omega
          clear hadd hst3 hj
          go_wp2_with fail
          refine (HAD.out _).mono ?_
          rintro e w4 ⟨rfl, hb4⟩
          have HB4 : Hid (Below w.heap.size w w4) := HB3.out.trans (hb4.mono HB3.out.size)
          clear hb4 hc
          go_wp2
          go_roundw
          case rel => exact ⟨t, Q2, htt, by go_num, rfl, HS3.out, HB4.out⟩
          case measure => simp [intOf]
        | zero =>
          have hPQ : P = Q := st_eq HST.out HS2.out (fun n => by rw [List.mem_reverse, List.drop_zero])
          subst hPQ
          obtain ⟨W, ls, hset, hmem, hlen0, _, _, _⟩ := HST.out
          have HSET : Hid (IsSet P.data.toList W ls) := hset
          have HMEM : Hid (∀ n, n ∈ ls ↔ n ∈ lo.take lo.length) := fun n => by rw [hmem, List.mem_reverse]
          have hln : ls.length ≤ 400 := by rw [List.length_reverse, List.length_take] at hlen0; have := HM4.out; omega
          have HLN : Hid (ls.length ≤ 400) := hln
          clear hset hmem hlen0 hj
          go_wp2_with fail
          refine (all_set P W ls HSET.out _).mono ?_
          rintro e w5 ⟨v, rfl, hv, hb5⟩
          have HB5 : Hid (Below w.heap.size w w5) := HB3.out.trans (hb5.mono HB3.out.size)
          have HV5 : Hid (HoldsI w5 v ls) := hv
          clear hv hb5
          go_wp2_with fail
          refine (valid_set P W ls HSET.out _).mono ?_
          rintro e w6 ⟨rfl, hb6⟩
          have HB6 : Hid (Below w.heap.size w w6) := HB5.out.trans (hb6.mono HB5.out.size)
          have HV6 : Hid (HoldsI w6 v ls) := HV5.out.keep hb6
          clear hb6
          obtain ⟨qv, cv, ev, hcv⟩ := HV6.out
          subst ev
          clear hcv
          go_wp2
          go_loopw [9] (fun ii wr3 => ∃ k3 : Nat, k3 ≤ ls.length ∧ ii = .int .i64 k3 ∧ HoldsI wr3 (.slice qv ls.length cv) ls ∧ Below w.heap.size w wr3) (fun ii _ => ls.length - (intOf ii).toNat)
          case atStart => exact ⟨0, by omega, rfl, HV6.out, HB6.out⟩
          case round =>
            obtain ⟨k3, hk3, rfl, hv3, hbel3⟩ := hrel
            have HV3 : Hid (HoldsI wr (.slice qv ls.length cv) ls) := hv3
            have HB7 : Hid (Below w.heap.size w wr) := hbel3
            clear hv3 hbel3
            by_cases hlt3 : k3 < ls.length
            · have HIN : Hid (ls[k3] ∈ lo) := List.mem_of_mem_take ((HMEM.out _).1 (List.getElem_mem hlt3))
              obtain ⟨q3, c3, e3, hc3⟩ := HV3.out
              injection e3 with e31 e32 e33
              obtain ⟨g3, e34, hcell3⟩ := hc3 (by intro e; rw [e] at hlt3; simp at hlt3)
              rw [e34] at e31
              subst e31
              have hck := hcell3 k3 hlt3
              have hk3z : (k3 : Int) < (ls.length : Int) := by omega
              have HINC : Hid (∀ z, z = ls[k3] → ∀ u, HoldsO u (.slice qa lo.length ca) lo → Calls Try.prog 13 #[.slice qa lo.length ca, .int .i64 z] u fun e w' => e = .returned (.bool true) ∧ ∃ n, w' = u.drewN n) := fun z hz u hu => by
                have := in_quiet _ lo z HL1.out u hu
                rw [decide_eq_true (by rw [hz]; exact HIN.out)] at this
                exact this
              have HOW : Hid (∀ m, HoldsO (wr.drewN m) (.slice qa lo.length ca) lo) := fun m => (HHO.out.keep (below_dn HB7.out m))
              rcases Nat.eq_zero_or_pos k3 with h0 | h0
              · subst h0
                have hd0 : decide ((0 : Int) < 0) = false := rfl
                have hk0z : (0 : Int) < (ls.length : Int) := by omega
                clear e32 e33 e34 hc3 hcell3 hk3z
                generalize hx : ls[0] = x at hck HIN HINC
                clear hx
                rw [show ((0 : Nat) : Int) = 0 from rfl]
                go_wp2_with fail
                go_quiet ((go_at_call 13; exact Calls.quiet_of (HINC.out x rfl _ (HOW.out _))))
                go_wp2
                go_roundw
                case rel => exact ⟨1, by omega, by go_num, HV3.out, below_dn HB7.out _⟩
                case measure => simp [intOf]; omega
              · have hlt0 := HSET.out.rise.lt (k3 - 1) k3 (by omega) hlt3
                have hck1 := hcell3 (k3 - 1) (by omega)
                have hkj : (k3 : Int) - 1 = ((k3 - 1 : Nat) : Int) := by omega
                have hki : IntKind.i64.wrap ((k3 : Int) - 1) = ((k3 - 1 : Nat) : Int) := by rw [IntKind.wrap_i64]; omega
                have hk3p : (0 : Int) < (k3 : Int) := by omega
                have hk1z : ((k3 - 1 : Nat) : Int) < (ls.length : Int) := by omega
                clear e32 e33 e34 hc3 hcell3
                generalize hx : ls[k3] = x at hck HIN hlt0 HINC
                generalize ls[k3 - 1] = y at hck1 hlt0
                clear hx
                have hxy : decide (x ≤ y) = false := decide_eq_false (by omega)
                clear hlt0
                go_wp2_with fail
                go_quiet ((go_at_call 13; exact Calls.quiet_of (HINC.out x rfl _ (HOW.out _))))
                go_wp2
                go_roundw
                case rel => exact ⟨k3 + 1, by omega, by go_num, HV3.out, below_dn HB7.out _⟩
                case measure => simp [intOf]; omega
            · have hk3e : k3 = ls.length := by omega
              subst hk3e
              go_wp2
              go_loopw [10] (fun ii wr4 => ∃ k4 : Nat, k4 ≤ lo.length ∧ k4 ≤ 400 ∧ ii = .int .i64 k4 ∧ HoldsI wr4 (.slice qv ls.length cv) ls ∧ Below w.heap.size w wr4) (fun ii _ => lo.length - (intOf ii).toNat)
              case atStart => exact ⟨0, by omega, by omega, rfl, HV3.out, HB7.out⟩
              case round =>
                obtain ⟨k4, hk4a, hk4b, rfl, hv4, hbel4⟩ := hrel
                have HV4 : Hid (HoldsI wr (.slice qv ls.length cv) ls) := hv4
                have HB8 : Hid (Below w.heap.size w wr) := hbel4
                clear hv4 hbel4
                by_cases hlt4 : k4 < lo.length
                · by_cases h44 : k4 < 400
                  · obtain ⟨g, off, eg, hcell⟩ := HA.out (by intro e; rw [e] at hlt4; simp at hlt4)
                    have hc := (cell_below HB8.out (World.block_lt_of_cell? _ _ (hcell k4 hlt4))).trans (hcell k4 hlt4)
                    have hkz4 : (k4 : Int) < (lo.length : Int) := by omega
                    have hk44 : (k4 : Int) < 400 := by omega
                    have HINL : Hid (lo[k4] ∈ ls) := (HMEM.out _).2 (by
                      have hlt5 : k4 < (lo.take lo.length).length := by rw [List.length_take]; have := HML.out; omega
                      have e : (lo.take lo.length)[k4] = lo[k4] := List.getElem_take
                      rw [← e]; exact List.getElem_mem hlt5)
                    clear hcell
                    generalize lo[k4] = x at hc HINL
                    have HHAS : Hid (∀ u, Calls Try.prog 14 #[.string P, .int .i64 x] u fun e w' => e = .returned (.bool true) ∧ Below u.heap.size u w') := fun u => by
                      have := has_set P W ls HSET.out x u
                      rw [decide_eq_true HINL.out] at this
                      exact this
                    have HINA : Hid (∀ u, HoldsI u (.slice qv ls.length cv) ls → Calls Try.prog 13 #[.slice qv ls.length cv, .int .i64 x] u fun e w' => e = .returned (.bool true) ∧ ∃ n, w' = u.drewN n) := fun u hu => by
                      have := in_quiet _ ls x (by have := HLN.out; omega) u hu.O
                      rw [decide_eq_true HINL.out] at this
                      exact this
                    subst eg
                    go_wp2_with fail
                    refine (HHAS.out _).mono ?_
                    rintro e w8 ⟨rfl, hb8⟩
                    have hc8 : w8.cell? ⟨g, off + k4, none⟩ = some (.int .i64 x) := (cell_below hb8 (World.block_lt_of_cell? _ _ hc)).trans hc
                    have HV8 : Hid (HoldsI w8 (.slice qv ls.length cv) ls) := HV4.out.keep hb8
                    have HB9 : Hid (Below w.heap.size w w8) := HB8.out.trans (hb8.mono HB8.out.size)
                    clear hb8 hc
                    go_wp2_with fail
                    refine (HINA.out _ HV8.out).mono ?_
                    rintro e w9 ⟨rfl, n9, rfl⟩
                    go_wp2
                    go_roundw
                    case rel => exact ⟨k4 + 1, by omega, by omega, by go_num, HV8.out, below_dn HB9.out _⟩
                    case measure => simp [intOf]; omega
                  · have hd4 : decide ((k4 : Int) < 400) = false := decide_eq_false (by omega)
                    have hkz4 : (k4 : Int) < (lo.length : Int) := by omega
                    clear h44 hk4b hlt4
                    go_wp2_with fail
                    refine (HSU.out _).mono ?_
                    rintro e w8 ⟨rfl, hb8⟩
                    have HB9 : Hid (Below w.heap.size w w8) := HB8.out.trans (hb8.mono HB8.out.size)
                    clear hb8
                    go_wp2
                    go_ret
                    exact ⟨rfl, HB9.out⟩
                · have hkz4 : ¬ (k4 : Int) < (lo.length : Int) := by omega
                  go_wp2_with fail
                  refine (HSU.out _).mono ?_
                  rintro e w8 ⟨rfl, hb8⟩
                  have HB9 : Hid (Below w.heap.size w w8) := HB8.out.trans (hb8.mono HB8.out.size)
                  clear hb8
                  go_wp2
                  go_ret
                  exact ⟨rfl, HB9.out⟩
end Go.Proofs.Ytghgdekdbbogkaa
