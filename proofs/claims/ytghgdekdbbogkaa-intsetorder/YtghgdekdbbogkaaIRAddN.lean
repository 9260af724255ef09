import Derived.Test.YtghgdekdbbogkaaIRAdd
import Derived.Deep.Cut
namespace Go.Proofs.Ytghgdekdbbogkaa
open Go.RowKit IM
set_option linter.unusedVariables false
set_option maxHeartbeats 1000000 in
set_option maxRecDepth 100000 in
theorem radd_new (p : ByteArray) (W : Nat) (l : List Int) (h : IsSet p.data.toList W l) (n : Int) (hn : I64 n) (hm : n ∉ l) (hf : l.length ≠ 1048576) (w : World) :
    Calls Try.prog 16 #[.string p, .int .i64 n] w fun e w' => e = .returned (.tuple #[.string (strB (txt (max W (needs n)) (ins l n))), .bool true, .int .i64 0]) ∧ Below w.heap.size w w' := by
  have HP : Hid (∀ w, Calls Try.prog 21 #[.string p] w fun e w' => ∃ v, e = .returned (.tuple #[.int .i64 (W : Nat), v, .bool true]) ∧ w'.ownsRow w.heap.size 3 1 v l.length (icells l) ∧ Below w.heap.size w w') := fun w => read_set p W l h w
  have hlen := h.len
  have HH : Hid (IsSet p.data.toList W l) := h
  have HAT : Hid (∀ v w, HoldsI w v l → Calls Try.prog 35 #[v, .int .i64 n] w fun e w' => e = .returned (.tuple #[.int .i64 (pos l n : Nat), .bool false]) ∧ Below w.heap.size w w') := fun v w hv => by
    have := refat_any v l h.rise h.len n w hv
    rw [decide_eq_false hm] at this
    exact this
  have hple := pos_le l n
  have hfd : decide ((1048576 : Int) ≤ (l.length : Int)) = false := decide_eq_false (by omega)
  obtain ⟨i0, hi, hz0, hz1, hz2⟩ := info_parts info3
  have HLEN : Hid (l.length < 1048576) := (by omega : l.length < 1048576)
  clear hf hlen
  generalize hX : pos l n = X at *
  clear h
  go_enter Try.func16, Try.ntmps16
  go_wp2_with fail
  refine (HP.out _).mono ?_
  rintro e w1 ⟨v, rfl, hown, hb⟩
  have HO : Hid (w1.ownsRow w.heap.size 3 1 v l.length (icells l)) := hown
  have HB : Hid (Below w.heap.size w w1) := hb
  have hz := hb.size
  clear hown hb
  obtain ⟨q, c, rfl⟩ := own_form HO.out
  go_wp2_with fail
  refine (HAT.out _ _ (HoldsI.own HO.out)).mono ?_
  rintro e w2 ⟨rfl, hb2⟩
  have HO2 : Hid (w2.ownsRow w.heap.size 3 1 (.slice q l.length c) l.length (icells l)) := own_keep HO.out (fun b _ hb => hb2.block b hb)
  have HB2 : Hid (Below w.heap.size w w2) := HB.out.trans (hb2.mono hz)
  have hzz : w.heap.size ≤ w2.heap.size := HB2.out.size
  clear hb2
  rcases HO2.out.2 with ⟨ev, hn0⟩ | ⟨g, cap, cur, ev, hg0, hg, hnc, hcm, hcs, hct⟩
  · injection ev with e1 e2 e3
    subst e1 e3
    have hl0 : l = [] := List.length_eq_zero_iff.1 hn0
    have hX0 : X = 0 := by omega
    have HO0 : Hid (w2.ownsRow w2.heap.size 3 1 (.slice none 0 0) 0 []) := World.ownsRow_nil _ _ _ _
    have HL8 : Hid (l.length ≤ 1048576) := (by omega : l.length ≤ 1048576)
    have HL0 : Hid (l = []) := hl0
    have HX0 : Hid (X = 0) := hX0
    have hll : (l.length : Int) = 0 := by omega
    have hXX : (X : Int) = 0 := by omega
    clear hl0 e2
    go_upto_region 11 with (at_builtin; refine wpList_append_own_none rfl _ _ 24 rfl w2.heap.size 3 i0 1 Try.underlying24 hi _ 0 [] rfl HO0.out rfl ?_)
    go_wp2_with (at_builtin; go_must (refine wpList_append_own _ rfl _ _ 24 rfl w2.heap.size 3 i0 (.int .i64 0) 1 8 Try.underlying24 hi hz0 hz1 hz2 rfl (by decide) _ _ _ rfl (World.ownsRow.alloc HO0.out _) ⟨w2.heap.size, 0, none⟩ 1 1 [.int .i64 n] rfl rfl ?n1 ?n2 ?n3 ?n4 ?n5 ?_))
    case n1 =>
      intro t u hj
      match t, hj with
      | 0, hj => simp at hj; subst hj; simp [Addr.add]
    case n2 => intro u hu; simp at hu; subst hu; rfl
    case n3 => unfold maxLen; omega
    case n4 => omega
    case n5 => simp
    intro v5 w5 hown4 hgrow4 _
    have HO4 : Hid (w5.ownsRow w2.heap.size 3 1 v5 1 [.int .i64 n]) := hown4
    have HB5 : Hid (Below w.heap.size w w5) := HB2.out.trans ((((Below.refl _ w2).alloc (Nat.le_refl _) _).grown hgrow4 (by simp) (fun k hk => by simp [Value.ownBlock] at hk)).mono hzz)
    have HI5 : Hid (HoldsI w5 v5 (l.take X ++ n :: l.drop X)) := HoldsI.own (base := w2.heap.size) (by rw [HL0.out, HX0.out]; exact hown4)
    clear hown4 hgrow4
    go_upto_region 12 with fail
    go_upto_region 13 with (at_builtin; refine wpList_append_own_none rfl _ _ 24 rfl w2.heap.size 3 i0 1 Try.underlying24 hi _ _ _ rfl HO4.out rfl ?_)
    have HNE : Hid (∀ w, Calls Try.prog 37 #[.int .i64 n] w fun e w' => e = .returned (.int .i64 (needs n : Nat)) ∧ w' = w) := fun w => needs_any n w
    have HTX : Hid (∀ V : Nat, V = max W (needs n) → Calls Try.prog 36 #[.int .i64 V, v5] w5 fun e w' => e = .returned (.string (strB (txt (max W (needs n)) (ins l n)))) ∧ Below w5.heap.size w5 w') := fun V hV => by
      subst hV
      have := text_any (max W (needs n)) v5 (l.take X ++ n :: l.drop X) (w3_max HH.out.w3 (needs3 n)) (by have := HL8.out; simp; omega) (by
        intro m hmm
        rcases (ins_mem l n m).1 (by unfold ins; rw [hX]; exact hmm) with e | e
        · rw [e]; exact hn
        · exact fits_i64 HH.out.w3 (HH.out.fit m e)) w5 HI5.out
      have e : ins l n = l.take X ++ n :: l.drop X := by unfold ins; rw [hX]
      rw [e]
      exact this
    generalize hNN : needs n = NN at *
    go_wp2_with fail
    refine (HNE.out _).mono ?_
    rintro e w6 ⟨rfl, hw6⟩
    subst w6
    by_cases hWN : (W : Int) < (NN : Int)
    · have hWn : W < NN := by omega
      go_wp2_with fail
      refine (HTX.out NN (by omega)).mono ?_
      rintro e w7 ⟨rfl, hb7⟩
      have HB7 : Hid (Below w.heap.size w w7) := HB5.out.trans (hb7.mono HB5.out.size)
      clear hb7
      go_wp2
      go_ret3
      subst hNN
      exact ⟨rfl, HB7.out⟩
    · have hWn : ¬ W < NN := by omega
      go_wp2_with fail
      refine (HTX.out W (by omega)).mono ?_
      rintro e w7 ⟨rfl, hb7⟩
      have HB7 : Hid (Below w.heap.size w w7) := HB5.out.trans (hb7.mono HB5.out.size)
      clear hb7
      go_wp2
      go_ret3
      subst hNN
      exact ⟨rfl, HB7.out⟩
  · injection ev with e1 e2 e3
    subst e1 e3
    have hncz : (l.length : Int) ≤ (c : Int) := by omega
    have hXz : (X : Int) ≤ (l.length : Int) := by omega
    have hXc : (X : Int) ≤ (c : Int) := by omega
    have HCC : Hid (∀ j x, l[j]? = some x → w2.cell? ⟨g, j, none⟩ = some (.int .i64 x)) := fun j x hx => by
      obtain ⟨g2, c2, e, hc⟩ := own_at HO2.out rfl j (List.getElem?_eq_some_iff.1 hx).1 x hx
      injection e with e1; injection e1 with e2; injection e2 with e3
      rw [e3]; exact hc
    clear hct hcs hcm hnc hg hg0 e2
    have hgl : g < w2.heap.size := (World.ownsRow.lt HO2.out g rfl).2
    have HLT : Hid ((icells (l.take X)).length = X * 1) := by
      have hx : (icells (l.take X)).length = X * 1 := by rw [icells_len, List.length_take]; omega
      exact hx
    have hX8 : X ≤ 1048576 := by have := HLEN.out; omega
    go_upto_region 10 with fail
    go_wp2_with (at_builtin; go_must (refine wpList_append_own _ rfl _ _ 24 rfl w2.heap.size 3 i0 (.int .i64 0) 1 8 Try.underlying24 hi hz0 hz1 hz2 rfl (by decide) _ 0 [] rfl (World.ownsRow_nil _ _ _ _) ⟨g, 0, none⟩ X c (icells (l.take X)) rfl HLT.out ?a1 ?a2 ?a3 ?a4 ?a5 ?_))
    case a1 =>
      intro t u hj
      rw [show (⟨g, 0, none⟩ : Addr).add t = ⟨g, t, none⟩ by unfold Addr.add; split <;> simp_all]
      unfold icells at hj
      rw [List.getElem?_map] at hj
      obtain ⟨x, hx, rfl⟩ := Option.map_eq_some_iff.1 hj
      rw [List.getElem?_take] at hx
      split at hx
      · exact HCC.out t x hx
      · cases hx
    case a2 => intro u hu; obtain ⟨x, _, rfl⟩ := List.mem_map.1 hu; rfl
    case a3 => unfold maxLen; omega
    case a4 => omega
    case a5 => exact Nat.le_refl _
    intro v3 w3 hown3 hgrow3 _
    have HO3 : Hid (w3.ownsRow w2.heap.size 3 1 v3 X (icells (l.take X))) := hown3
    have HB3 : Hid (Below w2.heap.size w2 w3) := (Below.refl _ w2).grown hgrow3 (Nat.le_refl _) (fun k hk => by simp [Value.ownBlock] at hk)
    have hz3 : w2.heap.size ≤ w3.heap.size := HB3.out.size
    clear hown3 hgrow3
    go_wp2_with (at_builtin; go_must (refine wpList_append_own _ rfl _ _ 24 rfl w2.heap.size 3 i0 (.int .i64 0) 1 8 Try.underlying24 hi hz0 hz1 hz2 rfl (by decide) _ _ _ rfl (World.ownsRow.alloc HO3.out _) ⟨w3.heap.size, 0, none⟩ 1 1 [.int .i64 n] rfl rfl ?b1 ?b2 ?b3 ?b4 ?b5 ?_))
    case b1 =>
      intro t u hj
      match t, hj with
      | 0, hj => simp at hj; subst hj; simp [Addr.add]
    case b2 => intro u hu; simp at hu; subst hu; rfl
    case b3 => unfold maxLen; omega
    case b4 => omega
    case b5 => simp; omega
    intro v4 w4 hown4 hgrow4 _
    have HO4 : Hid (w4.ownsRow w2.heap.size 3 1 v4 (X + 1) (icells (l.take X ++ [n]))) := by rw [icells_snoc]; exact hown4
    have HB4 : Hid (Below w2.heap.size w2 w4) := (HB3.out.alloc hz3 _).grown hgrow4 (by simp; omega) (fun k hk => (World.ownsRow.lt HO3.out k hk).1)
    have hz4 : w2.heap.size ≤ w4.heap.size := HB4.out.size
    clear hown4 hgrow4
    have HLD : Hid ((icells (l.drop X)).length = (l.length - X) * 1) := by
      have hx : (icells (l.drop X)).length = (l.length - X) * 1 := by rw [icells_len, List.length_drop]; omega
      exact hx
    have hl8 : l.length ≤ 1048576 := by have := HLEN.out; omega
    have HL8 : Hid (l.length ≤ 1048576) := hl8
    clear hl8
    obtain ⟨ad, had, hadd⟩ : ∃ ad : Addr, (if c = X then some (⟨g, 0, none⟩ : Addr) else some ⟨g, X, none⟩) = some ad ∧ ∀ t, t < l.length - X → ad.add t = ⟨g, X + t, none⟩ := by
      by_cases hcX : c = X
      · exact ⟨⟨g, 0, none⟩, if_pos hcX, fun t ht => by omega⟩
      · exact ⟨⟨g, X, none⟩, if_neg hcX, fun t ht => by unfold Addr.add; split <;> simp_all⟩
    have HADD : Hid (∀ t, t < l.length - X → ad.add t = ⟨g, X + t, none⟩) := hadd
    clear hadd
    go_upto_region 12 with fail
    go_wp2_with (at_builtin; go_must (refine wpList_append_own _ rfl _ _ 24 rfl w2.heap.size 3 i0 (.int .i64 0) 1 8 Try.underlying24 hi hz0 hz1 hz2 rfl (by decide) _ _ _ rfl HO4.out ad (l.length - X) (c - X) (icells (l.drop X)) rfl HLD.out ?d1 ?d2 ?d3 ?d4 ?d5 ?_))
    case d1 =>
      intro t u hj
      unfold icells at hj
      rw [List.getElem?_map] at hj
      obtain ⟨x, hx, rfl⟩ := Option.map_eq_some_iff.1 hj
      rw [List.getElem?_drop] at hx
      have hlt := (List.getElem?_eq_some_iff.1 hx).1
      rw [HADD.out t (by omega)]
      rw [cell_below2 HB4.out (show g < w2.heap.size from hgl)]
      exact HCC.out (X + t) x hx
    case d2 => intro u hu; obtain ⟨x, _, rfl⟩ := List.mem_map.1 hu; rfl
    case d3 => have := HL8.out; unfold maxLen; omega
    case d4 => have := HL8.out; omega
    case d5 => exact hz4
    intro v5 w5 hown5 hgrow5 _
    have HI5 : Hid (HoldsI w5 v5 (l.take X ++ n :: l.drop X)) := HoldsI.own (base := w2.heap.size) (by
      have e : l.take X ++ n :: l.drop X = (l.take X ++ [n]) ++ l.drop X := by simp
      have e2 : (l.take X ++ n :: l.drop X).length = X + 1 + (l.length - X) := by simp; omega
      rw [e2, e]
      unfold icells at hown5 ⊢
      rw [List.map_append]
      exact hown5)
    have HB5 : Hid (Below w.heap.size w w5) := HB2.out.trans ((HB4.out.grown hgrow5 hz4 (fun k hk => (World.ownsRow.lt HO4.out k hk).1)).mono hzz)
    clear hown5 hgrow5
    have HNE : Hid (∀ w, Calls Try.prog 37 #[.int .i64 n] w fun e w' => e = .returned (.int .i64 (needs n : Nat)) ∧ w' = w) := fun w => needs_any n w
    have HTX : Hid (∀ V : Nat, V = max W (needs n) → Calls Try.prog 36 #[.int .i64 V, v5] w5 fun e w' => e = .returned (.string (strB (txt (max W (needs n)) (ins l n)))) ∧ Below w5.heap.size w5 w') := fun V hV => by
      subst hV
      have := text_any (max W (needs n)) v5 (l.take X ++ n :: l.drop X) (w3_max HH.out.w3 (needs3 n)) (by have := HL8.out; simp; omega) (by
        intro m hmm
        rcases (ins_mem l n m).1 (by unfold ins; rw [hX]; exact hmm) with e | e
        · rw [e]; exact hn
        · exact fits_i64 HH.out.w3 (HH.out.fit m e)) w5 HI5.out
      have e : ins l n = l.take X ++ n :: l.drop X := by unfold ins; rw [hX]
      rw [e]
      exact this
    generalize hNN : needs n = NN at *
    go_wp2_with fail
    refine (HNE.out _).mono ?_
    rintro e w6 ⟨rfl, hw6⟩
    subst w6
    by_cases hWN : (W : Int) < (NN : Int)
    · have hWn : W < NN := by omega
      go_wp2_with fail
      refine (HTX.out NN (by omega)).mono ?_
      rintro e w7 ⟨rfl, hb7⟩
      have HB7 : Hid (Below w.heap.size w w7) := HB5.out.trans (hb7.mono HB5.out.size)
      clear hb7
      go_wp2
      go_ret3
      subst hNN
      exact ⟨rfl, HB7.out⟩
    · have hWn : ¬ W < NN := by omega
      go_wp2_with fail
      refine (HTX.out W (by omega)).mono ?_
      rintro e w7 ⟨rfl, hb7⟩
      have HB7 : Hid (Below w.heap.size w w7) := HB5.out.trans (hb7.mono HB5.out.size)
      clear hb7
      go_wp2
      go_ret3
      subst hNN
      exact ⟨rfl, HB7.out⟩
end Go.Proofs.Ytghgdekdbbogkaa
