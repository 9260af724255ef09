import Derived.Test.YtgbplghokciimaaDoorMA
import Derived.Test.YtgbplghokciimaaDoorBA
import Derived.Laws.AppendOwn
import Derived.Laws.AppendOwnNone
import Derived.Lib.ItoaMem
import Derived.Deep.CutRange
import Derived.Deep.RegionHeld3
namespace Go.Proofs.YtgbplghokciimaaDoor
open Go.RowKit
set_option linter.unusedVariables false
theorem info_of {P : Program} {t : TypeId} {z : Value} {s b : Nat} (h : (P.info? t).map (fun i => (i.zero, i.size, i.bytes)) = some (some z, s, b)) : ∃ i, P.info? t = some i ∧ i.zero = some z ∧ i.size = s ∧ i.bytes = b := by
  obtain ⟨i, hi, hz⟩ := Option.map_eq_some_iff.1 h
  simp only [Prod.mk.injEq] at hz
  exact ⟨i, hi, hz.1, hz.2.1, hz.2.2⟩
theorem infoEn : (Tryd.prog.info? 92).map (fun i => (i.zero, i.size, i.bytes)) = some (some (.agg #[.string ⟨#[]⟩, .int .i64 0, .int .i64 0]), 3, 32) := by kernel_rfl
def flat3 (l : List En) : List Value := l.flatMap fun e => [.string e.1, .int .i64 e.2.1, .int .i64 e.2.2]
theorem flat3_len (l : List En) : (flat3 l).length = l.length * 3 := by
  induction l with
  | nil => rfl
  | cons e l ih => simp only [flat3, List.flatMap_cons, List.length_append, List.length_cons, List.length_nil] at ih ⊢; omega
theorem flat3_app (a b : List En) : flat3 (a ++ b) = flat3 a ++ flat3 b := by unfold flat3; rw [List.flatMap_append]
theorem flat3_get (l : List En) (t : Nat) (h : t < l.length) : (flat3 l)[t * 3]? = some (.string l[t].1) ∧ (flat3 l)[t * 3 + 1]? = some (.int .i64 l[t].2.1) ∧ (flat3 l)[t * 3 + 2]? = some (.int .i64 l[t].2.2) := by
  induction l generalizing t with
  | nil => simp at h
  | cons e l ih =>
    cases t with
    | zero => exact ⟨rfl, rfl, rfl⟩
    | succ t =>
      have := ih t (by simpa using h)
      have e3 : flat3 (e :: l) = .string e.1 :: .int .i64 e.2.1 :: .int .i64 e.2.2 :: flat3 l := rfl
      rw [e3, show (t + 1) * 3 = t * 3 + 1 + 1 + 1 by omega]
      simpa using this
theorem flat3_sgl (l : List En) : ∀ u ∈ flat3 l, u.oneCell' = true := by
  intro u hu
  unfold flat3 at hu
  obtain ⟨e, _, he⟩ := List.mem_flatMap.1 hu
  simp at he
  rcases he with rfl | rfl | rfl <;> rfl
/-- a row of the document's entries in memory. -/
def ERow (Q : Nat → Prop) (w : World) (v : Value) (l : List En) : Prop := (l = [] ∧ v = .slice none 0 0) ∨ ∃ g cap, v = .slice (some ⟨g, 0, none⟩) l.length cap ∧ Q g ∧ l.length ≤ cap ∧ g < w.heap.size ∧ ∀ j u, (flat3 l)[j]? = some u → w.cell? ⟨g, j, none⟩ = some u
theorem ERow.form {Q : Nat → Prop} {w : World} {v : Value} {l : List En} (h : ERow Q w v l) : ∃ P c, v = .slice P l.length c := by
  rcases h with ⟨rfl, rfl⟩ | ⟨g, cap, rfl, _⟩
  · exact ⟨_, _, rfl⟩
  · exact ⟨_, _, rfl⟩
theorem ERow.on {Q : Nat → Prop} {w w' : World} {v : Value} {l : List En} (h : ERow Q w v l) (hb : Below w.heap.size w w') : ERow Q w' v l := by
  rcases h with h | ⟨g, cap, e, hq, hcp, hg, hc⟩
  · exact Or.inl h
  · exact Or.inr ⟨g, cap, e, hq, hcp, Nat.lt_of_lt_of_le hg hb.size, fun j u hu => cell_on (hc j u hu) hb⟩
theorem ERow.cells {Q : Nat → Prop} {w : World} {v : Value} {l : List En} (h : ERow Q w v l) {j : Nat} (hj : j < l.length) : ∃ g c, v = .slice (some ⟨g, 0, none⟩) l.length c ∧ w.cell? ⟨g, j * 3, none⟩ = some (.string l[j].1) ∧ w.cell? ⟨g, j * 3 + 1, none⟩ = some (.int .i64 l[j].2.1) ∧ w.cell? ⟨g, j * 3 + 2, none⟩ = some (.int .i64 l[j].2.2) := by
  rcases h with ⟨rfl, _⟩ | ⟨g, cap, e, hq, hcp, hg, hc⟩
  · simp at hj
  · obtain ⟨q1, q2, q3⟩ := flat3_get l j hj
    exact ⟨g, cap, e, hc _ _ q1, hc _ _ q2, hc _ _ q3⟩
theorem ERow.own_of {Q : Nat → Prop} {w : World} {base n : Nat} {v : Value} {l : List En} (h : w.ownsRow base 92 3 v n (flat3 l)) (hn : n = l.length) (hQ : ∀ q, base ≤ q → Q q) : ERow Q w v l := by
  subst hn
  rcases h.2 with ⟨rfl, h0⟩ | ⟨g, cap, cur, rfl, hb, hg, hcp, _⟩
  · exact Or.inl ⟨List.length_eq_zero_iff.1 h0, rfl⟩
  · refine Or.inr ⟨g, cap, rfl, hQ g hb, hcp, row_lt hg, fun j u hu => ?_⟩
    have := World.ownsRow.cells h (g := g) rfl j u hu
    rw [Lib.add_plain] at this
    simpa using this
theorem ERow.imp {Q Q' : Nat → Prop} {w : World} {v : Value} {l : List En} (h : ERow Q w v l) (hq : ∀ q, Q q → Q' q) : ERow Q' w v l := by
  rcases h with h | ⟨g, cap, e, h1, h2⟩
  · exact Or.inl h
  · exact Or.inr ⟨g, cap, e, hq g h1, h2⟩
theorem ERow.only {Q : Nat → Prop} {b : Nat} {w w' : World} {v : Value} {l : List En} (h : ERow (fun q => Q q ∧ q ≠ b) w v l) (ho : Only w w' b) : ERow Q w' v l := by
  rcases h with h | ⟨g, cap, e, hq, hcp, hg, hc⟩
  · exact Or.inl h
  · exact Or.inr ⟨g, cap, e, hq.1, hcp, by rw [ho.size]; exact hg, fun j u hu => (World.cell?_of_block (a := ⟨g, j, none⟩) (ho.other g hq.2)).trans (hc j u hu)⟩
theorem ERow.one {w : World} {X : Nat} {x : En} (hx : w.heap[X]? = some (.cells #[.string x.1, .int .i64 x.2.1, .int .i64 x.2.2] 92)) : ERow (fun _ => True) w (.slice (some ⟨X, 0, none⟩) 1 1) [x] :=
  Or.inr ⟨X, 1, rfl, trivial, Nat.le_refl _, row_lt hx, fun j u hu => by rw [cell_of_row _ _ _ _ _ _ hx]; simpa [flat3] using hu⟩
/-- entries behind entries. -/
theorem wpList_append_ens {w : World} {ops : Array Oper} {rest : List Oper} {o : Oper} {a : Act} {Q' : Exit → Act → World → Prop} (hg : o.guard = none) (s x : Operand)
    (hop : o.op = Op.call { callee := Callee.builtin Builtin.append, args := #[s, x], argTypes := #[49, 49] })
    (base : Nat) (v : Value) (xs : List En) (n : Nat) (hn : n = xs.length) (hs : a.eval s = v) (hown : w.ownsRow base 92 3 v n (flat3 xs)) (Q : Nat → Prop) (r : Value) (l : List En) (hx : a.eval x = r) (hr : ERow Q w r l)
    (N : Nat) (hN : N = xs.length + l.length) (hl : xs.length + l.length ≤ 4398046511104) (hb : base ≤ w.heap.size)
    (h : ∀ v' w', w'.ownsRow base 92 3 v' N (flat3 (xs ++ l)) → w.grownBy w' v.ownBlock → wpList Tryd.prog ops Q' rest (a.put o.dst v') w') :
    wpList Tryd.prog ops Q' (o :: rest) a w := by
  subst hn
  subst hN
  obtain ⟨i0, hi, hz0, hz1, hz2⟩ := info_of infoEn
  rcases hr with ⟨rfl, rfl⟩ | ⟨g, cap, rfl, hq, hcp, hgl, hc⟩
  · refine wpList_append_own_none hg s x 49 hop base 92 i0 3 Tryd.underlying49 hi v xs.length (flat3 xs) hs hown hx ?_
    exact h v w (by rw [List.append_nil]; exact hown) ⟨rfl, rfl, rfl, Nat.le_refl _, fun k _ _ => rfl⟩
  · refine wpList_append_own w hg s x 49 hop base 92 i0 (.agg #[.string ⟨#[]⟩, .int .i64 0, .int .i64 0]) 3 32 Tryd.underlying49 hi hz0 hz1 hz2 rfl (by decide) v xs.length (flat3 xs) hs hown ⟨g, 0, none⟩ l.length cap (flat3 l) hx (flat3_len l) ?_ (flat3_sgl l) (by unfold maxLen; omega) (by omega) hb ?_
    · intro j u hj
      rw [Lib.add_plain, Nat.zero_add]
      exact hc j u hj
    · intro v' w' ho hgw hnil
      refine h v' w' ?_ hgw
      rw [flat3_app]; exact ho
set_option maxHeartbeats 1000000 in
set_option maxRecDepth 100000 in
theorem rahead_any (a b : En) (w : World) : Calls Tryd.prog 73 #[.agg #[.string a.1, .int .i64 a.2.1, .int .i64 a.2.2], .agg #[.string b.1, .int .i64 b.2.1, .int .i64 b.2.2]] w fun e w' => e = .returned (.bool (ahd a b)) ∧ Below w.heap.size w w' := by
  obtain ⟨am, asc, av⟩ := a
  obtain ⟨bm, bsc, bv⟩ := b
  unfold ahd ltB
  simp only
  go_enter Tryd.func73, Tryd.ntmps73
  go_wp2
  all_goals
    go_returns
    refine ⟨by first | rfl | simp [*], ?_⟩
    repeat (refine Below.alloc ?_ (by simp <;> omega) _)
    exact Below.refl _ _
set_option maxHeartbeats 2000000 in
set_option maxRecDepth 100000 in
theorem rturned_any (Q : Nat → Prop) (v : Value) (l : List En) (hl : l.length ≤ 1099511627776) (back : Bool) (w : World) (h : ERow Q w v l) : Calls Tryd.prog 74 #[v, .bool back] w fun e w' => ∃ r, e = .returned r ∧ w'.ownsRow w.heap.size 92 3 r l.length (flat3 (turnE l back)) ∧ Below w.heap.size w w' := by
  obtain ⟨P, c, rfl⟩ := h.form
  have HI : Hid (ERow Q w _ l) := h
  have HO : Hid (w.ownsRow w.heap.size 92 3 (.slice none 0 0) 0 (flat3 [])) := ⟨rfl, Or.inl ⟨rfl, rfl⟩⟩
  clear h
  go_enter Tryd.func74, Tryd.ntmps74
  go_wp2
  go_loopw [6, 5] (fun ci co wr => ∃ i : Nat, i ≤ l.length ∧ ci = .int .i64 (i : Int) ∧ wr.ownsRow w.heap.size 92 3 co i (flat3 ((turnE l back).take i)) ∧ Below w.heap.size w wr) (fun ci _ _ => l.length - (intOf ci).toNat)
  case atStart => exact ⟨0, Nat.zero_le _, rfl, HO.out, Below.refl _ _⟩
  case round =>
    obtain ⟨i, hi, rfl, ho, hb⟩ := hrel
    have HO1 : Hid (wr.ownsRow w.heap.size 92 3 _ i (flat3 ((turnE l back).take i))) := ho
    have HB : Hid (Below w.heap.size w wr) := hb
    obtain ⟨P8, k8, hkf⟩ := own_form ho
    subst hkf
    have hIr := HI.out.on hb
    clear ho hb
    by_cases hlt : i < l.length
    · obtain ⟨kk, hkk, hkl⟩ : ∃ kk, kk = (if back then l.length - 1 - i else i) ∧ kk < l.length := ⟨_, rfl, by split <;> omega⟩
      obtain ⟨g, c', hf, q1, q2, q3⟩ := hIr.cells hkl
      obtain ⟨rfl, _, rfl⟩ : P = some ⟨g, 0, none⟩ ∧ True ∧ c = c' := by injection hf with h1 h2 h3; exact ⟨h1, trivial, h3⟩
      have HT : Hid ((turnE l back).take (i + 1) = (turnE l back).take i ++ [l[kk]]) := by
        show _ = _
        rw [List.take_succ_eq_append_getElem (by rw [turnE_len]; exact hlt), turnE_get l back i hlt]
        subst hkk; rfl
      have hz3 : (0 : Int) ≤ (i : Int) := by omega
      have hz4 : (i : Int) < (l.length : Int) := by omega
      have hk3 : (0 : Int) ≤ (kk : Int) := by omega
      have hk4 : (kk : Int) < (l.length : Int) := by omega
      have hiw : IntKind.i64.wrap ((i : Int) + 1) = (i : Int) + 1 := by rw [IntKind.wrap_i64] <;> omega
      clear hf hIr
      obtain ⟨X, hX⟩ : ∃ X, l[kk] = X := ⟨_, rfl⟩
      rw [hX] at q1 q2 q3 HT
      clear hX
      obtain ⟨W2, hW2⟩ : ∃ W2, W2 = wr.alloc (.cells #[.string X.1, .int .i64 X.2.1, .int .i64 X.2.2] 92) := ⟨_, rfl⟩
      have hb2 : Below wr.heap.size wr W2 := by rw [hW2]; exact (Below.refl _ _).alloc (Nat.le_refl _) _
      have HE1 : Hid (ERow (fun _ => True) W2 (.slice (some ⟨wr.heap.size, 0, none⟩) 1 1) [X]) := ERow.one (by rw [hW2]; exact one_alloc _ _)
      have HO2 : Hid (W2.ownsRow w.heap.size 92 3 (.slice P8 i k8) i (flat3 ((turnE l back).take i))) := own_keep HO1.out (fun q _ hq => hb2.block q hq)
      have HB2 : Hid (Below w.heap.size w W2) := HB.out.trans (hb2.mono HB.out.size)
      have HTL : Hid (i = ((turnE l back).take i).length) := by show _ = _; rw [List.length_take, turnE_len]; omega
      clear hb2
      have fin : True := trivial
      cases back with
      | true =>
        simp only [if_true] at hkk
        have hkw1 : IntKind.i64.wrap ((l.length : Int) - 1) = (l.length : Int) - 1 := by rw [IntKind.wrap_i64] <;> omega
        have hkw2 : (l.length : Int) - 1 - (i : Int) = (kk : Int) := by omega
        have hkw3 : IntKind.i64.wrap ((l.length : Int) - 1 - (i : Int)) = (kk : Int) := by rw [IntKind.wrap_i64] <;> omega
        clear hkk
        go_upto_region 8 with fail
        go_wp2_with (at_builtin; rw [← hW2]; go_must (refine wpList_append_ens rfl _ _ rfl w.heap.size _ _ i HTL.out rfl HO2.out (fun _ => True) _ [X] rfl HE1.out (i + 1) ?q1 ?q2 HB2.out.size ?_))
        case q1 => rw [← HTL.out]; rfl
        case q2 => rw [← HTL.out]; simp; omega
        intro v3 w3 ho3 hg3
        rw [← hW2] at hg3
        have HB3 : Hid (Below w.heap.size w w3) := HB2.out.grown hg3 HB2.out.size (fun q hq => (World.ownsRow.lt HO2.out q hq).1)
        obtain ⟨P9, k9, hkf⟩ := own_form ho3
        subst hkf
        have HO3 : Hid (w3.ownsRow w.heap.size 92 3 (.slice P9 (i + 1) k9) (i + 1) (flat3 ((turnE l true).take (i + 1)))) := by
          show World.ownsRow _ _ _ _ _ _ _
          rw [HT.out]; exact ho3
        clear ho3 hg3 hW2
        go_wp2
        go_roundw
        case rel => exact ⟨i + 1, hlt, by simp, HO3.out, HB3.out⟩
        case measure => simp [intOf]; omega
      | false =>
        have hki : kk = i := by simpa using hkk
        subst hki
        clear hkk
        go_upto_region 8 with fail
        go_wp2_with (at_builtin; rw [← hW2]; go_must (refine wpList_append_ens rfl _ _ rfl w.heap.size _ _ kk HTL.out rfl HO2.out (fun _ => True) _ [X] rfl HE1.out (kk + 1) ?r1 ?r2 HB2.out.size ?_))
        case r1 => rw [← HTL.out]; rfl
        case r2 => rw [← HTL.out]; simp; omega
        intro v3 w3 ho3 hg3
        rw [← hW2] at hg3
        have HB3 : Hid (Below w.heap.size w w3) := HB2.out.grown hg3 HB2.out.size (fun q hq => (World.ownsRow.lt HO2.out q hq).1)
        obtain ⟨P9, k9, hkf⟩ := own_form ho3
        subst hkf
        have HO3 : Hid (w3.ownsRow w.heap.size 92 3 (.slice P9 (kk + 1) k9) (kk + 1) (flat3 ((turnE l false).take (kk + 1)))) := by
          show World.ownsRow _ _ _ _ _ _ _
          rw [HT.out]; exact ho3
        clear ho3 hg3 hW2
        go_wp2
        go_roundw
        case rel => exact ⟨kk + 1, hlt, by simp, HO3.out, HB3.out⟩
        case measure => simp [intOf]; omega
    · have hie : i = l.length := by omega
      have hz4 : ¬ (i : Int) < (l.length : Int) := by omega
      have HOF : Hid (wr.ownsRow w.heap.size 92 3 (.slice P8 i k8) l.length (flat3 (turnE l back))) := by
        have q := HO1.out
        have e : (turnE l back).take i = turnE l back := List.take_of_length_le (by rw [turnE_len]; omega)
        rw [e] at q
        rw [← hie]; exact q
      clear hIr
      go_wp2
      go_returns
      exact ⟨_, rfl, by rw [← hie] at HOF; rw [← hie]; exact HOF.out, HB.out⟩
end Go.Proofs.YtgbplghokciimaaDoor
