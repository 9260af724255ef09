import Derived.Test.YtbmfbpcjokbjkaaDoorFdZ
import Derived.Test.YtbmfbpcjokbjkaaDoorGK
namespace Go.Proofs.YtbmfbpcjokbjkaaDoor
open Go.RowKit Vi
set_option linter.unusedVariables false
set_option linter.unusedSimpArgs false
theorem same_is (va vb : Value) (xs ys : List ByteArray) (b : Bool) (hb : b = true ↔ xs = ys) (ha : xs.length ≤ 70368744177664) (hb' : ys.length ≤ 70368744177664) (w : World) (hA : SRow w va xs) (hB : SRow w vb ys) :
    Calls Tryd.prog 15 #[va, vb] w fun e w' => e = .returned (.bool b) ∧ ∃ k, w' = w.drewN k := by
  refine (same_any va vb xs ys ha hb' w hA hB).mono ?_
  rintro e w' ⟨⟨b', rfl, h⟩, hk⟩
  have : b' = b := by
    cases b' <;> cases b <;> simp_all
  exact ⟨by rw [this], hk⟩
/-- requests as they can be read: the words of each, and its error. -/
def QV (W : World) (v : Value) (L : List Rq) : Prop := (L = [] ∧ ∃ p c, v = .slice p 0 c) ∨ ∃ g o c, v = .slice (some ⟨g, o, none⟩) L.length c ∧ ∀ i (h : i < L.length), ∃ av, W.cell? ⟨g, o + i * 2, none⟩ = some av ∧ SRow W av (L[i].args.map strB) ∧ W.cell? ⟨g, o + i * 2 + 1, none⟩ = some (.string (strB L[i].err))
theorem QV.on {W W' : World} {v : Value} {L : List Rq} (h : QV W v L) (hb : Below W.heap.size W W') : QV W' v L := by
  rcases h with h | ⟨g, o, c, h1, h2⟩
  · exact Or.inl h
  · refine Or.inr ⟨g, o, c, h1, fun i hi => ?_⟩
    obtain ⟨av, a1, a2, a3⟩ := h2 i hi
    exact ⟨av, cell_on a1 hb, a2.on hb, cell_on a3 hb⟩
theorem QV.form {W : World} {v : Value} {L : List Rq} (h : QV W v L) : ∃ p c, v = .slice p L.length c := by
  rcases h with ⟨rfl, p, c, h⟩ | ⟨g, o, c, h1, _⟩
  · exact ⟨p, c, h⟩
  · exact ⟨_, _, h1⟩
theorem QV.cell {W : World} {P : Option Addr} {n c : Nat} {L : List Rq} (h : QV W (.slice P n c) L) (i : Nat) (hi : i < L.length) : ∃ g o av, P = some ⟨g, o, none⟩ ∧ W.cell? ⟨g, o + i * 2, none⟩ = some av ∧ SRow W av (L[i].args.map strB) ∧ W.cell? ⟨g, o + i * 2 + 1, none⟩ = some (.string (strB L[i].err)) := by
  rcases h with ⟨he, _⟩ | ⟨g, o, c', h1, h2⟩
  · rw [he] at hi; simp at hi
  · injection h1 with h1 _ _
    obtain ⟨av, a1, a2, a3⟩ := h2 i hi
    exact ⟨g, o, av, h1, a1, a2, a3⟩
theorem rqC_get (E : List (Value × Rq)) (i : Nat) (h : i < E.length) : (rqC E)[i * 2]? = some E[i].1 ∧ (rqC E)[i * 2 + 1]? = some (.string (strB E[i].2.err)) := by
  induction E generalizing i with
  | nil => simp at h
  | cons x E ih =>
    have e : rqC (x :: E) = x.1 :: .string (strB x.2.err) :: rqC E := rfl
    rw [e]
    cases i with
    | zero => exact ⟨rfl, rfl⟩
    | succ i =>
      obtain ⟨a, b⟩ := ih i (by simpa using h)
      rw [show (i + 1) * 2 = i * 2 + 1 + 1 by omega, show i * 2 + 1 + 1 + 1 = (i * 2 + 1) + 1 + 1 by omega]
      exact ⟨a, b⟩
theorem RLs.view {B b0 : Nat} {W : World} {v : Value} {E : List (Value × Rq)} (h : RLs B b0 W v E) : QV W v (E.map (·.2)) := by
  have hr := h.row
  rcases hr.2 with ⟨rfl, h0⟩ | ⟨g, cap, cur, rfl, _⟩
  · left
    have : E = [] := List.eq_nil_of_length_eq_zero h0
    subst this
    exact ⟨rfl, none, 0, rfl⟩
  · right
    refine ⟨g, 0, cap, by rw [List.length_map], fun i hi => ?_⟩
    rw [List.length_map] at hi
    obtain ⟨e1, e2⟩ := rqC_get E i hi
    have c1 := hr.cells (g := g) rfl _ _ e1
    have c2 := hr.cells (g := g) rfl _ _ e2
    rw [Lib.add_plain] at c1 c2
    refine ⟨E[i].1, c1, ?_, by rw [List.getElem_map, Nat.add_assoc]; exact c2⟩
    have := h.args E[i] (List.getElem_mem hi)
    simpa using own_srow this rfl
theorem rq_ext {a b : Rq} (h1 : a.err = b.err) (h2 : a.args = b.args) : a = b := by cases a; cases b; simp_all
theorem strB_inj {a b : SP.Bs} (h : strB a = strB b) : a = b := by rw [← strB_list a, h, strB_list]
theorem map_strB {a b : List SP.Bs} (h : a.map strB = b.map strB) : a = b := by
  have : (a.map strB).map (fun x => x.data.toList) = (b.map strB).map (fun x => x.data.toList) := by rw [h]
  rw [List.map_map, List.map_map] at this
  have e : ((fun x : ByteArray => x.data.toList) ∘ strB) = id := by funext l; exact strB_list l
  rw [e, List.map_id, List.map_id] at this
  exact this
set_option maxHeartbeats 2000000 in
set_option maxRecDepth 100000 in
theorem sameRq_any (va vb : Value) (L M : List Rq) (ha : L.length ≤ 1099511627776) (hb : M.length ≤ 1099511627776) (hl : ∀ r ∈ L, r.args.length ≤ 70368744177664) (hm : ∀ r ∈ M, r.args.length ≤ 70368744177664) (w : World) (hA : QV w va L) (hB : QV w vb M) :
    Calls Tryd.prog 10 #[va, vb] w fun e w' => (∃ b, e = .returned (.bool b) ∧ (b = true ↔ L = M)) ∧ ∃ k, w' = w.drewN k := by
  obtain ⟨P, c, rfl⟩ := hA.form
  obtain ⟨P', c', rfl⟩ := hB.form
  have HA : Hid (QV w (.slice P L.length c) L) := hA
  have HB : Hid (QV w (.slice P' M.length c') M) := hB
  have HML : Hid _ := hl
  have HMM : Hid _ := hm
  clear hA hB hl hm
  by_cases hl : L.length = M.length
  · have HL : Hid (L.length = M.length) := hl
    rw [← hl]
    rw [← hl] at HB
    clear hl hb
    go_enter Tryd.func10, Tryd.ntmps10
    go_wp2
    go_loopw [5] (fun ci wr => (∃ k, wr = w.drewN k) ∧ ∃ i : Nat, i ≤ L.length ∧ ci = .int .i64 (i : Int) ∧ ∀ j (h : j < L.length) (h' : j < M.length), j < i → L[j] = M[j]) (fun ci _ => L.length - (intOf ci).toNat)
    case atStart => exact ⟨⟨0, rfl⟩, 0, by omega, rfl, fun j _ _ h => absurd h (by omega)⟩
    case round =>
      obtain ⟨⟨kk, hwr⟩, i, hi, rfl, hall⟩ := hrel
      have HWR : Hid (wr = w.drewN kk) := hwr
      have HALL : Hid _ := hall
      clear hall
      by_cases hlt : i < L.length
      · have hltm : i < M.length := by rw [← HL.out]; exact hlt
        have HLT : Hid (i < M.length) := hltm
        obtain ⟨g, o, av, hP, hc1, hs1, hd1⟩ := (show QV wr _ _ by rw [hwr]; exact HA.out).cell i hlt
        obtain ⟨g', o', bv, hP', hc2, hs2, hd2⟩ := (show QV wr _ _ by rw [hwr]; exact HB.out).cell i hltm
        have hz0 : (0 : Int) ≤ (i : Int) := by omega
        have hz1 : (i : Int) < (L.length : Int) := by omega
        have hx1 := HML.out _ (List.getElem_mem hlt)
        have hx2 := HMM.out _ (List.getElem_mem hltm)
        clear hwr
        subst hP; subst hP'
        obtain ⟨A, hAe⟩ : ∃ A, L[i] = A := ⟨_, rfl⟩
        obtain ⟨D, hDe⟩ : ∃ D, M[i]'hltm = D := ⟨_, rfl⟩
        rw [hAe] at hd1 hs1 hx1
        rw [hDe] at hd2 hs2 hx2
        have HAe : Hid _ := hAe
        have HDe : Hid _ := hDe
        have HS1 : Hid (SRow wr av (A.args.map strB)) := hs1
        have HS2 : Hid (SRow wr bv (D.args.map strB)) := hs2
        obtain ⟨X, hX⟩ : ∃ X, strB A.err = X := ⟨_, rfl⟩
        obtain ⟨Y, hY⟩ : ∃ Y, strB D.err = Y := ⟨_, rfl⟩
        rw [hX] at hd1
        rw [hY] at hd2
        have HX : Hid _ := hX
        have HY : Hid _ := hY
        clear hAe hDe hX hY hs1 hs2
        by_cases hxy : X = Y
        · have hxt : (X.toList == Y.toList) = true := str_same (by rw [hxy])
          have HXY : Hid _ := hxy
          clear hxy
          by_cases hargs : A.args = D.args
          · have HST : Hid (∀ n, Calls Tryd.prog 15 #[av, bv] (wr.drewN n) fun e w' => e = .returned (.bool true) ∧ ∃ k, w' = (wr.drewN n).drewN k) := fun n => same_is av bv _ _ true (by simp [hargs]) (by rw [List.length_map]; exact hx1) (by rw [List.length_map]; exact hx2) _ (HS1.out.on (below_dn (Below.refl _ _) n)) (HS2.out.on (below_dn (Below.refl _ _) n))
            have HAR : Hid _ := hargs
            clear hargs hx1 hx2
            go_wp2
            go_quiet ((go_at_call 15; exact Calls.quiet_of (HST.out _)))
            go_wp2
            go_roundw
            case rel =>
              refine ⟨⟨kk + nq, by rw [HWR.out, World.drewN_drewN]⟩, i + 1, hlt, rfl, fun j h h' hji => ?_⟩
              rcases Nat.lt_succ_iff_lt_or_eq.1 hji with h2 | rfl
              · exact HALL.out j h h' h2
              · rw [HAe.out, HDe.out]
                exact rq_ext (strB_inj (by rw [HX.out, HY.out]; exact HXY.out)) HAR.out
            case measure => simp [intOf]; omega
          · have HST : Hid (∀ n, Calls Tryd.prog 15 #[av, bv] (wr.drewN n) fun e w' => e = .returned (.bool false) ∧ ∃ k, w' = (wr.drewN n).drewN k) := fun n => same_is av bv _ _ false ⟨fun h => (by cases h), fun h => absurd (map_strB h) hargs⟩ (by rw [List.length_map]; exact hx1) (by rw [List.length_map]; exact hx2) _ (HS1.out.on (below_dn (Below.refl _ _) n)) (HS2.out.on (below_dn (Below.refl _ _) n))
            have HNE : Hid (¬ L = M) := fun h => hargs (by rw [← HAe.out, ← HDe.out]; simp only [h])
            clear hargs hx1 hx2
            go_wp2
            go_quiet ((go_at_call 15; exact Calls.quiet_of (HST.out _)))
            go_wp2
            go_ret
            exact ⟨⟨false, rfl, by simpa using HNE.out⟩, kk + nq, by rw [HWR.out, World.drewN_drewN]⟩
        · have hxf : (X.toList == Y.toList) = false := str_other (fun h => hxy (bytes_ext h))
          have HNE : Hid (¬ L = M) := fun h => hxy (by rw [← HX.out, ← HY.out, ← HAe.out, ← HDe.out]; simp only [h])
          clear hxy hx1 hx2
          go_wp2
          go_quiet (fail)
          go_wp2
          go_ret
          exact ⟨⟨false, rfl, by simpa using HNE.out⟩, kk + nq, by rw [HWR.out, World.drewN_drewN]⟩
      · have he : i = L.length := by omega
        have HEQ : Hid (L = M) := List.ext_getElem HL.out (fun j h1 h2 => HALL.out j h1 h2 (by omega))
        subst he
        clear hwr
        go_wp2
        go_ret
        exact ⟨⟨true, rfl, by simpa using HEQ.out⟩, kk, HWR.out⟩
  · have hlf : ((L.length : Int) == (M.length : Int)) = false := by simp; omega
    have HNE : Hid (¬ L = M) := fun h => hl (by rw [h])
    have hne : ¬ (L.length : Int) = (M.length : Int) := by omega
    clear hl
    go_enter Tryd.func10, Tryd.ntmps10
    go_wp2
    go_ret
    exact ⟨⟨false, rfl, by simpa using HNE.out⟩, 0, rfl⟩
end Go.Proofs.YtbmfbpcjokbjkaaDoor
