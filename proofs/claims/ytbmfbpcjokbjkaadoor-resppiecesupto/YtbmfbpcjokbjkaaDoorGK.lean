import Derived.Test.YtbmfbpcjokbjkaaDoorRpC
import Derived.Test.YtbmfbpcjokbjkaaDoorRpD
import Derived.Test.YtbmfbpcjokbjkaaDoorRB
namespace Go.Proofs.YtbmfbpcjokbjkaaDoor
open Go.RowKit
set_option linter.unusedVariables false
set_option linter.unusedSimpArgs false
theorem rsplit_any (s : ByteArray) (hs : s.size ≤ 1073741824) (w : World) : Calls Tryd.prog 14 #[.string s] w fun e w' => SAns s w w' e ∧ Below w.heap.size w w' := rsplit_of quoted_ref s hs w
theorem sp_len : ∀ (f : Nat) (out : List SP.Bs) (l : SP.Bs) (r : List SP.Bs), SP.sp f out l = some r → r.length ≤ out.length + l.length
  | 0, out, l, r, h => by simp [SP.sp] at h
  | f + 1, out, l, r, h => by
    simp only [SP.sp] at h
    have hk := SP.skp_len l
    split at h
    · simp at h; subst h; omega
    · rename_i c t hc
      split at h
      · rename_i a t' ht
        have hen : SP.ended (c :: t) = false := by
          have : ∀ l : SP.Bs, SP.skp l = c :: t → SP.bl c = false := by
            intro l
            induction l with
            | nil => intro h; simp [SP.skp] at h
            | cons x xs ih =>
              intro h
              unfold SP.skp at h
              split at h
              · exact ih h
              · rename_i hx
                simp at h
                rw [← h.1]
                cases hb : SP.bl x with
                | true => exact absurd hb hx
                | false => rfl
          exact this l hc
        have h1 := SP.tk_len _ _ _ _ ht hen
        have h2 := sp_len f _ _ _ h
        rw [hc] at hk
        simp at h2 h1 hk
        omega
      · simp at h
end Go.Proofs.YtbmfbpcjokbjkaaDoor
namespace Go.Proofs.YtbmfbpcjokbjkaaDoor
open Go.RowKit
set_option linter.unusedVariables false
set_option maxHeartbeats 1000000 in
set_option maxRecDepth 100000 in
theorem same_any (va vb : Value) (xs ys : List ByteArray) (ha : xs.length ≤ 70368744177664) (hb : ys.length ≤ 70368744177664) (w : World) (hA : SRow w va xs) (hB : SRow w vb ys) :
    Calls Tryd.prog 15 #[va, vb] w fun e w' => (∃ b, e = .returned (.bool b) ∧ (b = true ↔ xs = ys)) ∧ ∃ k, w' = w.drewN k := by
  obtain ⟨P, c, rfl⟩ := hA.form
  obtain ⟨P', c', rfl⟩ := hB.form
  have HA : Hid (SRow w (.slice P xs.length c) xs) := hA
  have HB : Hid (SRow w (.slice P' ys.length c') ys) := hB
  clear hA hB
  by_cases hl : xs.length = ys.length
  · have HL : Hid (xs.length = ys.length) := hl
    have hll : ((xs.length : Int) == (ys.length : Int)) = true := by simp [hl]
    rw [← hl]
    rw [← hl] at HB
    clear hl hb hll
    go_enter Tryd.func15, Tryd.ntmps15
    go_wp2
    go_loopw [5] (fun ci wr => (∃ k, wr = w.drewN k) ∧ ∃ i : Nat, i ≤ xs.length ∧ ci = .int .i64 (i : Int) ∧ ∀ j (h : j < xs.length) (h' : j < ys.length), j < i → xs[j] = ys[j]) (fun ci _ => xs.length - (intOf ci).toNat)
    case atStart => exact ⟨⟨0, rfl⟩, 0, by omega, rfl, fun j _ _ h => absurd h (by omega)⟩
    case round =>
      obtain ⟨⟨kk, hwr⟩, i, hi, rfl, hall⟩ := hrel
      have HWR : Hid (wr = w.drewN kk) := hwr
      have HALL : Hid _ := hall
      clear hall
      by_cases hlt : i < xs.length
      · obtain ⟨g, o, hP, hc1⟩ := (show SRow wr _ _ by rw [hwr]; exact HA.out).cell i hlt
        obtain ⟨g', o', hP', hc2⟩ := (show SRow wr _ _ by rw [hwr]; exact HB.out).cell i (by rw [← HL.out]; exact hlt)
        have hz0 : (0 : Int) ≤ (i : Int) := by omega
        have hz1 : (i : Int) < (xs.length : Int) := by omega
        clear hwr
        subst hP; subst hP'
        obtain ⟨X, hX⟩ : ∃ X, xs[i] = X := ⟨_, rfl⟩
        obtain ⟨Y, hY⟩ : ∃ Y, ys[i]'(by rw [← HL.out]; exact hlt) = Y := ⟨_, rfl⟩
        rw [hX] at hc1
        rw [hY] at hc2
        have HX : Hid _ := hX
        have HY : Hid _ := hY
        clear hX hY
        by_cases hxy : X = Y
        · have hxt : (X.toList == Y.toList) = true := str_same (by rw [hxy])
          have HXY : Hid _ := hxy
          clear hxy
          go_wp2
          go_quiet (fail)
          go_wp2
          go_roundw
          case rel =>
            refine ⟨⟨kk + nq, by rw [HWR.out, World.drewN_drewN]⟩, i + 1, hlt, rfl, fun j h h' hji => ?_⟩
            rcases Nat.lt_succ_iff_lt_or_eq.1 hji with h2 | rfl
            · exact HALL.out j h h' h2
            · exact HX.out.trans (HXY.out.trans HY.out.symm)
          case measure => simp [intOf]; omega
        · have hxf : (X.toList == Y.toList) = false := str_other (fun h => hxy (bytes_ext h))
          have HNE : Hid (¬ xs = ys) := fun h => hxy (by rw [← HX.out, ← HY.out]; simp only [h])
          clear hxy
          go_wp2
          go_quiet (fail)
          go_wp2
          go_ret
          exact ⟨⟨false, rfl, by simpa using HNE.out⟩, kk + nq, by rw [HWR.out, World.drewN_drewN]⟩
      · have he : i = xs.length := by omega
        have HEQ : Hid (xs = ys) := List.ext_getElem HL.out (fun j h1 h2 => HALL.out j h1 h2 (by omega))
        subst he
        clear hwr
        go_wp2
        go_ret
        exact ⟨⟨true, rfl, by simpa using HEQ.out⟩, kk, HWR.out⟩
  · have hlf : ((xs.length : Int) == (ys.length : Int)) = false := by simp; omega
    have HNE : Hid (¬ xs = ys) := fun h => hl (by rw [h])
    have hne : ¬ (xs.length : Int) = (ys.length : Int) := by omega
    clear hl
    obtain ⟨na, hna⟩ : ∃ na : Int, (xs.length : Int) = na := ⟨_, rfl⟩
    go_enter Tryd.func15, Tryd.ntmps15
    go_wp2
    go_ret
    exact ⟨⟨false, rfl, by simpa using HNE.out⟩, 0, rfl⟩
end Go.Proofs.YtbmfbpcjokbjkaaDoor
namespace Go.Proofs.YtbmfbpcjokbjkaaDoor
open Go.RowKit
set_option linter.unusedVariables false
set_option linter.unusedSimpArgs false
theorem own_srow {W : World} {b n : Nat} {v : Value} {out : List SP.Bs} (h : W.ownsRow b 9 1 v n (strS out)) (hn : out.length = n) : SRow W v (out.map strB) := by
  obtain ⟨hl, ⟨rfl, h0⟩ | ⟨g, cap, cur, rfl, hb, hr, hc, hm, hs, ht⟩⟩ := h
  · left
    have : out = [] := List.eq_nil_of_length_eq_zero (by omega)
    subst this
    exact ⟨rfl, none, 0, rfl⟩
  · right
    refine ⟨g, 0, cap, by rw [List.length_map, hn], fun j hj => ?_⟩
    rw [List.length_map] at hj
    rw [Nat.zero_add, cell_of_row _ _ _ _ _ _ hr]
    have h1 : (cur.toList.take (n * 1))[j]? = cur.toList[j]? := by rw [List.getElem?_take]; rw [if_pos (by omega)]
    rw [ht] at h1
    rw [← Array.getElem?_toList, ← h1]
    unfold strS
    rw [List.getElem?_map, List.getElem?_eq_getElem hj]
    simp
/-- the law, but for its head. -/
theorem splits_of (hW : ∀ w : World, Laid w → Calls Tryd.prog 7 #[] w fun e w' => e = .returned (.bool true) ∧ Below w.heap.size w w') (s : ByteArray) (hs : s.size ≤ 1073741824) (w : World) (hL : Laid w) : Calls Tryd.prog 5 #[.string s] w fun e w' => e = .returned (.bool true) ∧ Below w.heap.size w w' := by
  have H1 : Hid _ := split_any s hs w hL
  have H2 : Hid _ := rsplit_any s hs
  have HW : Hid _ := hW
  have HL : Hid (Laid w) := hL
  clear hW hL
  go_enter Tryd.func5, Tryd.ntmps5
  go_wp2_with fail
  refine (show Calls _ _ _ _ _ from H1.out).mono ?_
  rintro e w1 ⟨⟨out, P, c, hsp, rfl, hown⟩ | ⟨hsp, rfl⟩, hb1⟩
  · have HSP : Hid _ := hsp
    have HB1 : Hid _ := hb1
    have HO1 : Hid _ := hown
    obtain ⟨no, hno⟩ : ∃ no, out.length = no := ⟨_, rfl⟩
    have HNO : Hid (out.length = no) := hno
    rw [hno] at HO1 ⊢
    clear hsp hb1 hown hno
    go_wp2_with fail
    refine (show Calls _ _ _ _ _ from H2.out w1).mono ?_
    rintro e w2 ⟨⟨out2, P2, c2, hsp2, rfl, hown2⟩ | ⟨hsp2, rfl⟩, hb2⟩
    · have e2 : out = out2 := by have := HSP.out.symm.trans hsp2; simpa using this
      subst e2
      have HB2 : Hid (Below w.heap.size w w2) := bel_to HB1.out hb2 (Nat.le_refl _)
      have HL2 : Hid (Laid w2) := HL.out.on HB2.out
      rw [HNO.out] at hown2 ⊢
      have HR1 : Hid (SRow w2 (.slice P no c) (out.map strB)) := (own_srow HO1.out HNO.out).on hb2
      have HR2 : Hid (SRow w2 (.slice P2 no c2) (out.map strB)) := own_srow hown2 HNO.out
      have HNL : Hid ((out.map strB).length ≤ 70368744177664) := by
        show _ ≤ _
        have := sp_len _ _ _ _ HSP.out
        rw [list_len] at this
        rw [List.length_map]; simp at this; omega
      clear hsp2 hown2 hb2
      go_wp2_with fail
      refine (show Calls _ _ _ _ _ from HW.out w2 HL2.out).mono ?_
      rintro e w3 ⟨rfl, hb3⟩
      have HB3 : Hid (Below w.heap.size w w3) := bel_to HB2.out hb3 (Nat.le_refl _)
      have HS3 : Hid _ := same_any _ _ _ _ HNL.out HNL.out w3 (HR1.out.on hb3) (HR2.out.on hb3)
      clear hb3
      go_wp2_with fail
      refine (show Calls _ _ _ _ _ from HS3.out).mono ?_
      rintro e w4 ⟨⟨b, rfl, hbb⟩, k, rfl⟩
      have hbt : b = true := hbb.mpr (by first | trivial | rfl)
      subst hbt
      clear hbb
      go_wp2
      go_returns
      first | exact ⟨rfl, below_dn HB3.out _⟩ | exact below_dn HB3.out _
    · exact absurd (HSP.out.symm.trans hsp2) (by simp)
  · have HSP : Hid _ := hsp
    have HB1 : Hid _ := hb1
    clear hsp hb1
    go_wp2_with fail
    refine (show Calls _ _ _ _ _ from H2.out w1).mono ?_
    rintro e w2 ⟨⟨out2, P2, c2, hsp2, rfl, hown2⟩ | ⟨hsp2, rfl⟩, hb2⟩
    · exact absurd (HSP.out.symm.trans hsp2) (by simp)
    · have HB2 : Hid (Below w.heap.size w w2) := bel_to HB1.out hb2 (Nat.le_refl _)
      have HL2 : Hid (Laid w2) := HL.out.on HB2.out
      clear hsp2 hb2
      go_wp2_with fail
      refine (show Calls _ _ _ _ _ from HW.out w2 HL2.out).mono ?_
      rintro e w3 ⟨rfl, hb3⟩
      have HB3 : Hid (Below w.heap.size w w3) := bel_to HB2.out hb3 (Nat.le_refl _)
      have HS3 : Hid _ := same_any (.slice none 0 0) (.slice none 0 0) [] [] (by simp) (by simp) w3 (Or.inl ⟨rfl, _, _, rfl⟩) (Or.inl ⟨rfl, _, _, rfl⟩)
      clear hb3
      go_wp2_with fail
      refine (show Calls _ _ _ _ _ from HS3.out).mono ?_
      rintro e w4 ⟨⟨b, rfl, hbb⟩, k, rfl⟩
      have hbt : b = true := hbb.mpr (by first | trivial | rfl)
      subst hbt
      clear hbb
      go_wp2
      go_returns
      first | exact ⟨rfl, below_dn HB3.out _⟩ | exact below_dn HB3.out _
end Go.Proofs.YtbmfbpcjokbjkaaDoor
