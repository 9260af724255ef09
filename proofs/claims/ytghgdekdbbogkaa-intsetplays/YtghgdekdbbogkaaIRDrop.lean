import Derived.Test.YtghgdekdbbogkaaIRAdd
import Derived.Deep.Cut
namespace Go.Proofs.Ytghgdekdbbogkaa
open Go.RowKit IM
set_option linter.unusedVariables false
set_option maxHeartbeats 400000 in
set_option maxRecDepth 100000 in
theorem rdrop_none (p : ByteArray) (hp : p.size ≤ 9223372036854775807) (h : ¬ OkP p.data.toList) (n : Int) (w : World) :
    Calls Try.prog 18 #[.string p, .int .i64 n] w fun e w' => e = .returned (.tuple #[.string ⟨#[]⟩, .bool false, .int .i64 50]) ∧ Below w.heap.size w w' := by
  have HP : Hid _ := fun w => read_none p hp h w
  clear h hp
  go_enter Try.func18, Try.ntmps18
  go_wp2_with fail
  refine (HP.out _).mono ?_
  rintro e w1 ⟨rfl, hb⟩
  have HB : Hid (Below w.heap.size w w1) := hb
  clear hb
  go_wp2
  go_ret3
  exact ⟨rfl, HB.out⟩
set_option maxHeartbeats 1000000 in
set_option maxRecDepth 100000 in
theorem rdrop_in (p : ByteArray) (W : Nat) (l : List Int) (h : IsSet p.data.toList W l) (n : Int) (hm : n ∈ l) (w : World) :
    Calls Try.prog 18 #[.string p, .int .i64 n] w fun e w' => e = .returned (.tuple #[.string (strB (txt W (del l n))), .bool true, .int .i64 0]) ∧ Below w.heap.size w w' := by
  have HP : Hid (∀ w, Calls Try.prog 21 #[.string p] w fun e w' => ∃ v, e = .returned (.tuple #[.int .i64 (W : Nat), v, .bool true]) ∧ w'.ownsRow w.heap.size 3 1 v l.length (icells l) ∧ Below w.heap.size w w') := fun w => read_set p W l h w
  have hlen := h.len
  have HH : Hid (IsSet p.data.toList W l) := h
  have HAT : Hid (∀ v w, HoldsI w v l → Calls Try.prog 35 #[v, .int .i64 n] w fun e w' => e = .returned (.tuple #[.int .i64 (pos l n : Nat), .bool true]) ∧ Below w.heap.size w w') := fun v w hv => by
    have := refat_any v l h.rise h.len n w hv
    rw [decide_eq_true hm] at this
    exact this
  have hple := pos_le l n
  have HL8 : Hid (l.length ≤ 1048576) := hlen
  have hXl : pos l n < l.length := ((pos_mem h.rise n).1 hm).1
  obtain ⟨i0, hi, hz0, hz1, hz2⟩ := info_parts info3
  clear hlen hple
  generalize hX : pos l n = X at *
  clear h
  go_enter Try.func18, Try.ntmps18
  go_wp2_with fail
  refine (HP.out _).mono ?_
  rintro e w1 ⟨v, rfl, hown, hb⟩
  have HO : Hid (w1.ownsRow w.heap.size 3 1 v l.length (icells l)) := hown
  have HB : Hid (Below w.heap.size w w1) := hb
  have hz := hb.size
  clear hown hb
  obtain ⟨q, c, rfl⟩ := own_form HO.out
  go_wp2_with fail
  refine (HAT.out _ _ (HoldsI.own HO.out)).mono ?_
  rintro e w2 ⟨rfl, hb2⟩
  have HO2 : Hid (w2.ownsRow w.heap.size 3 1 (.slice q l.length c) l.length (icells l)) := own_keep HO.out (fun b _ hb => hb2.block b hb)
  have HB2 : Hid (Below w.heap.size w w2) := HB.out.trans (hb2.mono hz)
  have hzz : w.heap.size ≤ w2.heap.size := HB2.out.size
  clear hb2
  rcases HO2.out.2 with ⟨ev, hn0⟩ | ⟨g, cap, cur, ev, hg0, hg, hnc, hcm, hcs, hct⟩
  · omega
  · injection ev with e1 e2 e3
    subst e1 e3
    have hncz : (l.length : Int) ≤ (c : Int) := by omega
    have hXz : (X : Int) ≤ (l.length : Int) := by omega
    have hXc : (X : Int) ≤ (c : Int) := by omega
    have hXz1 : (X : Int) + 1 ≤ (l.length : Int) := by omega
    have hXc1 : (X : Int) + 1 ≤ (c : Int) := by omega
    have HCC : Hid (∀ j x, l[j]? = some x → w2.cell? ⟨g, j, none⟩ = some (.int .i64 x)) := fun j x hx => by
      obtain ⟨g2, c2, e, hc⟩ := own_at HO2.out rfl j (List.getElem?_eq_some_iff.1 hx).1 x hx
      injection e with e1; injection e1 with e2; injection e2 with e3
      rw [e3]; exact hc
    have hgl : g < w2.heap.size := (World.ownsRow.lt HO2.out g rfl).2
    have HLT : Hid ((icells (l.take X)).length = X * 1) := by
      have hx : (icells (l.take X)).length = X * 1 := by rw [icells_len, List.length_take]; omega
      exact hx
    have hX8 : X ≤ 1048576 := by have := HL8.out; omega
    obtain ⟨ad, had, hadd⟩ : ∃ ad : Addr, (if c = X + 1 then some (⟨g, 0, none⟩ : Addr) else some ⟨g, X + 1, none⟩) = some ad ∧ ∀ t, t < l.length - (X + 1) → ad.add t = ⟨g, X + 1 + t, none⟩ := by
      by_cases hcX : c = X + 1
      · exact ⟨⟨g, 0, none⟩, if_pos hcX, fun t ht => by omega⟩
      · exact ⟨⟨g, X + 1, none⟩, if_neg hcX, fun t ht => by unfold Addr.add; split <;> simp_all⟩
    have HADD : Hid (∀ t, t < l.length - (X + 1) → ad.add t = ⟨g, X + 1 + t, none⟩) := hadd
    clear hct hcs hcm hnc hg hg0 e2 hadd
    go_upto_region 8 with fail
    go_upto_region 9 with (at_builtin; go_must (refine wpList_append_own _ rfl _ _ 24 rfl w2.heap.size 3 i0 (.int .i64 0) 1 8 Try.underlying24 hi hz0 hz1 hz2 rfl (by decide) _ 0 [] rfl (World.ownsRow_nil _ _ _ _) ⟨g, 0, none⟩ X c (icells (l.take X)) rfl HLT.out ?a1 ?a2 ?a3 ?a4 ?a5 ?_))
    case a1 =>
      intro t u hj
      rw [show (⟨g, 0, none⟩ : Addr).add t = ⟨g, t, none⟩ by unfold Addr.add; split <;> simp_all]
      unfold icells at hj
      rw [List.getElem?_map] at hj
      obtain ⟨x, hx, rfl⟩ := Option.map_eq_some_iff.1 hj
      rw [List.getElem?_take] at hx
      split at hx
      · exact HCC.out t x hx
      · cases hx
    case a2 => intro u hu; obtain ⟨x, _, rfl⟩ := List.mem_map.1 hu; rfl
    case a3 => unfold maxLen; omega
    case a4 => omega
    case a5 => exact Nat.le_refl _
    intro v3 w3 hown3 hgrow3 _
    have HO3 : Hid (w3.ownsRow w2.heap.size 3 1 v3 X (icells (l.take X))) := hown3
    have HB3 : Hid (Below w2.heap.size w2 w3) := (Below.refl _ w2).grown hgrow3 (Nat.le_refl _) (fun k hk => by simp [Value.ownBlock] at hk)
    have hz3 : w2.heap.size ≤ w3.heap.size := HB3.out.size
    have HLD : Hid ((icells (l.drop (X + 1))).length = (l.length - (X + 1)) * 1) := by
      have hx : (icells (l.drop (X + 1))).length = (l.length - (X + 1)) * 1 := by rw [icells_len, List.length_drop]; omega
      exact hx
    clear hown3 hgrow3
    go_wp2_with (at_builtin; go_must (refine wpList_append_own _ rfl _ _ 24 rfl w2.heap.size 3 i0 (.int .i64 0) 1 8 Try.underlying24 hi hz0 hz1 hz2 rfl (by decide) _ _ _ rfl HO3.out ad (l.length - (X + 1)) (c - (X + 1)) (icells (l.drop (X + 1))) rfl HLD.out ?d1 ?d2 ?d3 ?d4 ?d5 ?_))
    case d1 =>
      intro t u hj
      unfold icells at hj
      rw [List.getElem?_map] at hj
      obtain ⟨x, hx, rfl⟩ := Option.map_eq_some_iff.1 hj
      rw [List.getElem?_drop] at hx
      have hlt := (List.getElem?_eq_some_iff.1 hx).1
      rw [HADD.out t (by omega)]
      rw [cell_below2 HB3.out (show g < w2.heap.size from hgl)]
      exact HCC.out (X + 1 + t) x hx
    case d2 => intro u hu; obtain ⟨x, _, rfl⟩ := List.mem_map.1 hu; rfl
    case d3 => have := HL8.out; unfold maxLen; omega
    case d4 => have := HL8.out; omega
    case d5 => exact hz3
    intro v5 w5 hown5 hgrow5 _
    have HI5 : Hid (HoldsI w5 v5 (l.take X ++ l.drop (X + 1))) := HoldsI.own (base := w2.heap.size) (by
      have e2 : (l.take X ++ l.drop (X + 1)).length = X + (l.length - (X + 1)) := by simp; omega
      rw [e2]
      unfold icells at hown5 ⊢
      rw [List.map_append]
      exact hown5)
    have HB5 : Hid (Below w.heap.size w w5) := HB2.out.trans ((HB3.out.grown hgrow5 hz3 (fun k hk => (World.ownsRow.lt HO3.out k hk).1)).mono hzz)
    clear hown5 hgrow5
    have HTX : Hid (Calls Try.prog 36 #[.int .i64 W, v5] w5 fun e w' => e = .returned (.string (strB (txt W (del l n)))) ∧ Below w5.heap.size w5 w') := by
      have := text_any W v5 (l.take X ++ l.drop (X + 1)) HH.out.w3 (by have := HL8.out; simp; omega) (by
        intro m hmm
        exact fits_i64 HH.out.w3 (HH.out.fit m (del_sub l n m (by unfold del; rw [hX]; exact hmm)))) w5 HI5.out
      have e : del l n = l.take X ++ l.drop (X + 1) := by unfold del; rw [hX]
      rw [e]
      exact this
    go_wp2_with fail
    refine HTX.out.mono ?_
    rintro e w7 ⟨rfl, hb7⟩
    have HB7 : Hid (Below w.heap.size w w7) := HB5.out.trans (hb7.mono HB5.out.size)
    clear hb7
    go_wp2
    go_ret3
    exact ⟨rfl, HB7.out⟩
end Go.Proofs.Ytghgdekdbbogkaa
