import Derived.Test.YtdemodhjlbkbeabRV
import Derived.Test.YtdemodhjlbkbeabRU
import Derived.Deep.CutRange
import Derived.Deep.RegionWith
import Derived.Test.YtdemodhjlbkbeabRN
namespace Go.Proofs.Ytdemodhjlbkbeab
open Go.RowKit
set_option linter.unusedVariables false
theorem str_cells {w : World} {base n : Nat} {v : Value} {A : List ByteArray} (h : w.ownsRow base 9 1 v n (strV A)) (hn : n = A.length) (hne : 0 < n) : ∃ K c, v = .slice (some ⟨K, 0, none⟩) n c ∧ (∀ t (ht : t < A.length), w.cell? ⟨K, t, none⟩ = some (.string A[t])) ∧ ∀ t, w.frozen? ⟨K, t, none⟩ = false := by
  subst hn
  rcases h.2 with ⟨_, e⟩ | ⟨K, c, cur, rfl, _⟩
  · omega
  · refine ⟨K, c, rfl, fun t ht => ?_, fun t => h.frozenAt t⟩
    rw [h.cellAt t (by omega)]
    unfold strV; rw [List.getElem?_map, List.getElem?_eq_getElem ht]; rfl
theorem strV_put (A : List ByteArray) (j : Nat) (x : ByteArray) : strV (A.set j x) = (strV A).set j (.string x) := by unfold strV; rw [List.map_set]
/-- a sorted row, a hole in it. -/
abbrev holed (S : List ByteArray) (k : Nat) (X : ByteArray) : List ByteArray := S.take k ++ X :: S.drop k
theorem holed_len (S : List ByteArray) (k : Nat) (X : ByteArray) : (holed S k X).length = S.length + 1 := by
  unfold holed
  have := congrArg List.length (List.take_append_drop k S)
  rw [List.length_append] at this
  rw [List.length_append, List.length_cons]; omega
theorem holed_get (S : List ByteArray) (k : Nat) (X : ByteArray) (t : Nat) (h : t < k) (hk : k ≤ S.length) (h2 : t < (holed S k X).length) : (holed S k X)[t] = S[t] := by
  unfold holed
  rw [List.getElem_append_left (by rw [List.length_take]; omega), List.getElem_take]
theorem holed_put (S : List ByteArray) (k : Nat) (hk : k ≤ S.length) (X Y : ByteArray) : (holed S k X).set k Y = holed S k Y := by
  unfold holed
  have : (S.take k).length = k := by rw [List.length_take]; omega
  rw [List.set_append_right _ _ (by omega), this, Nat.sub_self, List.set_cons_zero]
theorem holed_down (S : List ByteArray) (k : Nat) (hk : k < S.length) (X : ByteArray) : holed S (k + 1) S[k] = holed S k S[k] := by
  unfold holed
  rw [List.take_succ_eq_append_getElem hk, List.append_assoc, List.drop_eq_getElem_cons hk]
  rfl
theorem holed_sorted {S : List ByteArray} (hs : SortedB S) (k : Nat) (hk : k ≤ S.length) (x : ByteArray) (h1 : ∀ t (ht : t < S.length), k ≤ t → lessB x S[t] = true) (h2 : 0 < k → ∀ (hq : k - 1 < S.length), lessB x S[k - 1] = false) : SortedB (holed S k x) := by
  unfold holed SortedB
  have hs' : (S.take k ++ S.drop k).Pairwise fun a b => lessB b a = false := by rw [List.take_append_drop]; exact hs
  obtain ⟨p1, p2, p3⟩ := List.pairwise_append.1 hs'
  refine List.pairwise_append.2 ⟨p1, List.pairwise_cons.2 ⟨fun y hy => ?_, p2⟩, fun a ha b hb => ?_⟩
  · obtain ⟨t, ht, rfl⟩ := List.mem_iff_getElem.1 hy
    rw [List.getElem_drop]
    rw [List.length_drop] at ht
    exact less_asym (h1 (k + t) (by omega) (by omega))
  · rcases List.mem_cons.1 hb with rfl | hb
    · obtain ⟨t, ht, rfl⟩ := List.mem_iff_getElem.1 ha
      rw [List.length_take] at ht
      rw [List.getElem_take]
      have h3 := h2 (by omega) (by omega)
      rcases Nat.lt_or_ge t (k - 1) with h4 | h4
      · have h5 := List.pairwise_iff_getElem.1 hs t (k - 1) (by omega) (by omega) h4
        rcases hq : lessB b S[t] with _ | _
        · rfl
        · exfalso
          rcases hq2 : lessB S[k - 1] b with _ | _
          · have := less_tri h3 hq2
            rw [← this] at h5
            rw [h5] at hq; cases hq
          · have := less_trans hq2 hq
            rw [h5] at this; cases this
      · have : t = k - 1 := by omega
        subst this; exact h3
    · exact p3 a ha b hb
theorem holed_perm (S : List ByteArray) (k : Nat) (x : ByteArray) : (holed S k x).Perm (x :: S) := by
  unfold holed
  have := List.perm_middle (a := x) (l₁ := S.take k) (l₂ := S.drop k)
  rwa [List.take_append_drop] at this
theorem gtr_is (Z X : ByteArray) : (!Op.bytesLess Z.toList X.toList && !Z.toList == X.toList) = lessB X Z := by
  rcases h1 : lessB X Z with _ | _
  · rcases h2 : lessB Z X with _ | _
    · have := less_tri h1 h2
      subst this; simp
    · have h3 : Op.bytesLess Z.toList X.toList = true := h2
      rw [h3]; rfl
  · have h2 : Op.bytesLess Z.toList X.toList = false := less_asym h1
    have h3 : (Z.toList == X.toList) = false := by
      rcases hq : (Z.toList == X.toList) with _ | _
      · rfl
      · have h4 : Z.toList = X.toList := by simpa using hq
        rw [ByteArray.toList_eq, ByteArray.toList_eq] at h4
        have : Z = X := ByteArray.ext (Array.toList_inj.1 h4)
        subst this
        rw [less_irr] at h1; cases h1
    rw [h2, h3]; rfl
set_option maxHeartbeats 4000000 in
set_option maxRecDepth 100000 in
theorem rising_any (Q : Nat → Prop) (v : Value) (l : List Ent) (hl : l.length ≤ 4398046511104) (w : World) (h : IRow Q w v l) : Calls Try.prog 63 #[v] w fun e w' => ∃ r, e = .returned r ∧ ∃ S, w'.ownsRow w.heap.size 9 1 r l.length (strV S) ∧ S.Perm (l.map (·.1)) ∧ SortedB S ∧ Below w.heap.size w w' := by
  obtain ⟨P, c, rfl⟩ := h.form
  have HI : Hid (IRow Q w _ l) := h
  obtain ⟨i9, hi9, hy0, hy1, hy2⟩ := info_parts info9
  clear h
  go_enter Try.func63, Try.ntmps63
  go_wp2
  go_loopw [4, 3] (fun ci cs wr => ∃ (i : Nat) (S : List ByteArray), i ≤ l.length ∧ ci = .int .i64 (i : Int) ∧ i = S.length ∧ S.Perm ((l.take i).map (·.1)) ∧ SortedB S ∧ wr.ownsRow w.heap.size 9 1 cs i (strV S) ∧ Below w.heap.size w wr) (fun ci _ _ => l.length - (intOf ci).toNat)
  case atStart => exact ⟨0, [], Nat.zero_le _, rfl, rfl, List.Perm.refl _, List.Pairwise.nil, ⟨rfl, Or.inl ⟨rfl, rfl⟩⟩, Below.refl _ _⟩
  case round =>
    obtain ⟨i, S, hi, rfl, hiS, hp, hso, hos, hb⟩ := hrel
    have HP : Hid _ := hp
    have HSO : Hid (SortedB S) := hso
    have HOS : Hid (wr.ownsRow w.heap.size 9 1 _ i (strV S)) := hos
    have HB : Hid (Below w.heap.size w wr) := hb
    have HIS : Hid _ := hiS
    obtain ⟨P8, k8, hkf⟩ := own_form hos
    subst hkf
    have hIr := HI.out.on hb
    clear hp hso hos hiS hb
    by_cases hlt : i < l.length
    · obtain ⟨g, c', hf, hc1, hc2⟩ := hIr.cells hlt
      obtain ⟨rfl, _, rfl⟩ : P = some ⟨g, 0, none⟩ ∧ True ∧ c = c' := by injection hf with h1 h2 h3; exact ⟨h1, trivial, h3⟩
      have hz3 : (0 : Int) ≤ (i : Int) := by omega
      have hz4 : (i : Int) < (l.length : Int) := by omega
      have HG : Hid (∀ W, Below w.heap.size w W → W.cell? ⟨g, i * 2, none⟩ = some (.string l[i].1)) := fun W hW => by
        obtain ⟨g2, c2, hf2, q1, _⟩ := (HI.out.on hW).cells hlt
        injection hf2 with e1 e2 e3
        injection e1 with e4
        injection e4 with e5
        subst e5; exact q1
      have HTK : Hid ((l.take (i + 1)).map (·.1) = (l.take i).map (·.1) ++ [l[i].1]) := by
        show _ = _
        rw [List.take_succ_eq_append_getElem hlt, List.map_append]; rfl
      clear hf hIr hc1 hc2
      generalize l[i].1 = X at *
      obtain ⟨W2, hW2⟩ : ∃ W2, W2 = wr.alloc (.cells #[.string ⟨#[]⟩] 9) := ⟨_, rfl⟩
      have hb2' : Below wr.heap.size wr W2 := by rw [hW2]; exact (Below.refl _ _).alloc (Nat.le_refl _) _
      have hx2 : W2.heap[wr.heap.size]? = some (.cells #[.string ⟨#[]⟩] 9) := by rw [hW2]; exact one_alloc _ _
      have HX2 : Hid _ := hx2
      have HO2 : Hid (W2.ownsRow w.heap.size 9 1 (.slice P8 i k8) i (strV S)) := own_keep HOS.out (fun q _ hq => hb2'.block q hq)
      have HB2 : Hid (Below w.heap.size w W2) := HB.out.trans (hb2'.mono HB.out.size)
      clear hb2' hx2
      go_upto_region 6 with fail
      go_wp2_with (at_builtin; rw [← hW2]; go_must (refine wpList_append_own_at _ rfl _ _ 41 rfl w.heap.size 9 i9 (.string ⟨#[]⟩) 1 16 Try.underlying41 hi9 hy0 hy1 hy2 rfl (by decide) _ _ _ rfl HO2.out ⟨wr.heap.size, 0, none⟩ 1 1 [.string ⟨#[]⟩] rfl rfl ?t0 ?t1 ?t2 ?t3 HB2.out.size ?_))
      case t1 => rfl
      case t2 => unfold maxLen; omega
      case t3 => omega
      intro v3 w3 ho3 hg3 _ _
      rw [← hW2] at hg3
      have hb3 : Below w.heap.size w w3 := HB2.out.grown hg3 HB2.out.size (fun q hq => (World.ownsRow.lt HO2.out q hq).1)
      have HB3 : Hid (Below w.heap.size w w3) := hb3
      obtain ⟨P9, k9, hkf⟩ := own_form ho3
      subst hkf
      have HO3 : Hid (w3.ownsRow w.heap.size 9 1 (.slice P9 (i + 1) k9) (i + 1) (strV (holed S i ⟨#[]⟩))) := by
        show World.ownsRow _ _ _ _ _ _ _
        have e : holed S i ⟨#[]⟩ = S ++ [⟨#[]⟩] := by unfold holed; rw [HIS.out, List.take_length, List.drop_length]
        rw [e, strV_app]; exact ho3
      clear ho3 hg3 hb3 hW2
      go_wp2
      go_loopw [5] (fun ck wk => ∃ (k : Nat) (Y : ByteArray), k ≤ i ∧ ck = .int .i64 (k : Int) ∧ (∀ t (ht : t < S.length), k ≤ t → lessB X S[t] = true) ∧ wk.ownsRow w.heap.size 9 1 (.slice P9 (i + 1) k9) (i + 1) (strV (holed S k Y)) ∧ Below w.heap.size w wk) (fun ck _ => (intOf ck).toNat)
      case atStart => exact ⟨i, ⟨#[]⟩, Nat.le_refl _, rfl, fun t ht h1 => by have := HIS.out; omega, HO3.out, HB3.out⟩
      case round =>
        obtain ⟨k, Y, hk, rfl, hab, hok, hbk⟩ := hrel
        have HAB : Hid (∀ t (ht : t < S.length), k ≤ t → lessB X S[t] = true) := hab
        have HOK : Hid (wr.ownsRow w.heap.size 9 1 (.slice P9 (i + 1) k9) (i + 1) (strV (holed S k Y))) := hok
        have HBK : Hid (Below w.heap.size w wr) := hbk
        have hlen : (holed S k Y).length = i + 1 := by rw [holed_len, ← HIS.out]
        obtain ⟨K, kc, hck, hcells, hfr⟩ := str_cells hok hlen.symm (by omega)
        injection hck with hk1 hk2 hk3
        subst hk1; subst hk3
        have hgi := HG.out wr hbk
        have hck := hcells k (by omega)
        have hfk := hfr k
        have hkz : (0 : Int) ≤ (k : Int) := by omega
        have hkl : (k : Int) < ((i + 1 : Nat) : Int) := by omega
        have HST : Hid (∀ (W : World) (Z : ByteArray), W.ownsRow w.heap.size 9 1 (.slice (some ⟨K, 0, none⟩) (i + 1) k9) (i + 1) (strV (holed S k Y)) → (W.setCell ⟨K, k, none⟩ (.string Z)).ownsRow w.heap.size 9 1 (.slice (some ⟨K, 0, none⟩) (i + 1) k9) (i + 1) (strV (holed S k Z)) ∧ (Below w.heap.size w W → Below w.heap.size w (W.setCell ⟨K, k, none⟩ (.string Z)))) := fun W Z hW => by
          obtain ⟨s1, s2⟩ := hW.stored k (.string Z)
          refine ⟨?_, fun hB => hB.grown s2 hB.size (fun q hq => (World.ownsRow.lt hW q hq).1)⟩
          rw [← holed_put S k (by rw [← HIS.out]; exact hk) Y Z, strV_put]; exact s1
        have HFIN : Hid (∀ (W : World), (0 < k → ∀ (hq : k - 1 < S.length), lessB X S[k - 1] = false) → W.ownsRow w.heap.size 9 1 (.slice (some ⟨K, 0, none⟩) (i + 1) k9) (i + 1) (strV (holed S k Y)) → Below w.heap.size w W → ∃ (S' : List ByteArray), i + 1 = S'.length ∧ S'.Perm ((l.take (i + 1)).map (·.1)) ∧ SortedB S' ∧ (W.setCell ⟨K, k, none⟩ (.string X)).ownsRow w.heap.size 9 1 (.slice (some ⟨K, 0, none⟩) (i + 1) k9) (i + 1) (strV S') ∧ Below w.heap.size w (W.setCell ⟨K, k, none⟩ (.string X))) := fun W hlo hW hB => by
          obtain ⟨s1, s2⟩ := HST.out W X hW
          refine ⟨holed S k X, by rw [holed_len, ← HIS.out], ?_, holed_sorted HSO.out k (by rw [← HIS.out]; exact hk) X HAB.out hlo, s1, s2 hB⟩
          rw [HTK.out]
          exact (holed_perm S k X).trans ((List.Perm.cons _ HP.out).trans (List.perm_append_singleton _ _).symm)
        have hiw : IntKind.i64.wrap ((i : Int) + 1) = (i : Int) + 1 := by rw [IntKind.wrap_i64] <;> omega
        by_cases hk0 : 0 < k
        · have hkp : (0 : Int) < (k : Int) := by omega
          have hkl2 : k - 1 < S.length := by rw [← HIS.out]; omega
          have hcm := hcells (k - 1) (by omega)
          rw [holed_get S k Y (k - 1) (by omega) (by rw [← HIS.out]; exact hk)] at hcm
          have hkm : IntKind.i64.wrap ((k : Int) - 1) = ((k - 1 : Nat) : Int) := by rw [IntKind.wrap_i64] <;> omega
          have hkm2 : (k : Int) - 1 = ((k - 1 : Nat) : Int) := by omega
          have hkz1 : (0 : Int) ≤ ((k - 1 : Nat) : Int) := by omega
          have hkl1 : ((k - 1 : Nat) : Int) < ((i + 1 : Nat) : Int) := by omega
          have HDN : Hid (holed S k S[k - 1] = holed S (k - 1) S[k - 1]) := by
            have := holed_down S (k - 1) hkl2 Y
            rw [show k - 1 + 1 = k by omega] at this; exact this
          clear hok hbk hab hcells hfr
          rcases hbl : lessB X S[k - 1] with _ | _
          · have hgt := gtr_is S[k - 1] X
            rw [hbl] at hgt
            have HLO : Hid (0 < k → ∀ (hq : k - 1 < S.length), lessB X S[k - 1] = false) := fun _ _ => hbl
            clear hbl
            generalize (holed S k Y)[k] = Y' at *
            generalize S[k - 1] = Z at *
            go_wp2_with fail
            go_quiet (fail)
            obtain ⟨S', q1, q2, q3, q4, q5⟩ := HFIN.out (wr.drewN nq) HLO.out (own_keep HOK.out (fun q _ hq => rfl)) (below_dn HBK.out nq)
            have HQ : Hid _ := (⟨q1, q2, q3, q4, q5⟩ : _ ∧ _ ∧ _ ∧ _ ∧ _)
            clear q1 q2 q3 q4 q5
            go_wp2
            go_roundw
            case rel => exact ⟨i + 1, S', hlt, by simp, HQ.out⟩
            case measure => simp [intOf]; omega
          · have hgt := gtr_is S[k - 1] X
            rw [hbl] at hgt
            have HAB2 : Hid (∀ t (ht : t < S.length), k - 1 ≤ t → lessB X S[t] = true) := fun t ht h1 => by
              rcases Nat.lt_or_ge t k with h2 | h2
              · have : t = k - 1 := by omega
                subst this; exact hbl
              · exact HAB.out t ht h2
            have HK2 : Hid (k - 1 ≤ i) := by show _ ≤ _; omega
            clear hbl
            generalize (holed S k Y)[k] = Y' at *
            generalize S[k - 1] = Z at *
            go_wp2_with fail
            go_quiet (fail)
            obtain ⟨q1, q2⟩ := HST.out (wr.drewN nq) Z (own_keep HOK.out (fun q _ hq => rfl))
            have HQ1 : Hid _ := q1
            have HQ2 : Hid _ := q2 (below_dn HBK.out nq)
            clear q1 q2
            go_wp2
            go_roundw
            case rel => exact ⟨k - 1, Z, HK2.out, by simp, HAB2.out, by rw [← HDN.out]; exact HQ1.out, HQ2.out⟩
            case measure => simp [intOf]; omega
        · have hk0' : k = 0 := by omega
          subst hk0'
          have HLO : Hid (0 < 0 → ∀ (hq : 0 - 1 < S.length), lessB X S[0 - 1] = false) := fun h => absurd h (by omega)
          clear hok hbk hab hcells hfr
          generalize (holed S 0 Y)[0] = Y' at *
          go_wp2_with fail
          go_quiet (fail)
          obtain ⟨S', q1, q2, q3, q4, q5⟩ := HFIN.out (wr.drewN nq) HLO.out (own_keep HOK.out (fun q _ hq => rfl)) (below_dn HBK.out nq)
          have HQ : Hid _ := (⟨q1, q2, q3, q4, q5⟩ : _ ∧ _ ∧ _ ∧ _ ∧ _)
          clear q1 q2 q3 q4 q5
          go_wp2
          go_roundw
          case rel => exact ⟨i + 1, S', hlt, by simp, HQ.out⟩
          case measure => simp [intOf]; omega
    · have hie : i = l.length := by omega
      have HPF : Hid (S.Perm (l.map (·.1))) := by
        have q := HP.out
        rw [hie, List.take_length] at q; exact q
      have hz4 : ¬ (i : Int) < (l.length : Int) := by omega
      clear hIr
      go_wp2
      go_returns
      exact ⟨_, rfl, S, by rw [← hie]; exact HOS.out, HPF.out, HSO.out, HB.out⟩
end Go.Proofs.Ytdemodhjlbkbeab
namespace Go.Proofs.Ytdemodhjlbkbeab
open Go.RowKit
set_option linter.unusedVariables false
theorem Rj_succ (i : Nat) (hi : i + 1 ≤ 64) (c : Nat) : Rj (i + 1) c = Rj i c * 2 + (c.testBit i).toNat := by
  have h1 := Rj_div i (i + 1) (by omega) hi c
  rw [show i + 1 - i = 1 by omega, Nat.pow_one] at h1
  have h2 : (Rj (i + 1) c).testBit 0 = c.testBit i := by
    rw [Rj_bit (i + 1) hi]; simp
  have h3 : (Rj (i + 1) c) % 2 = (c.testBit i).toNat := by
    rw [← h2, Nat.testBit_zero]
    rcases Nat.mod_two_eq_zero_or_one (Rj (i + 1) c) with h | h <;> simp [h]
  omega
theorem Rj_nil (c : Nat) : Rj 0 c = 0 := by
  have := Rj_lt 0 (by omega) c
  omega
theorem Rj_rev (j : Nat) (hj : j ≤ 64) (y : Nat) : Rj j y = revN (y % 2 ^ j * 2 ^ (64 - j)) := by
  apply Nat.eq_of_testBit_eq
  intro i
  rw [Rj_bit j hj, revN_bit, Nat.testBit_mul_two_pow, Nat.testBit_mod_two_pow]
  by_cases hi : i < j
  · have h1 : i < 64 := by omega
    have h2 : 64 - j ≤ 63 - i := by omega
    have h3 : 63 - i - (64 - j) < j := by omega
    simp only [hi, h1, h2, h3, decide_true, Bool.true_and]
    congr 1
    omega
  · by_cases h1 : i < 64
    · have h2 : ¬ 64 - j ≤ 63 - i := by omega
      simp [hi, h2]
    · simp [hi, h1]
theorem next_is (j : Nat) (hj : j ≤ 64) (c : Nat) : Rj j ((Rj j c + 1) % 2 ^ j) = nextC j c := by
  rw [Rj_rev j hj]
  unfold nextC
  rw [Nat.mod_mod]
theorem bit_and (c i : Nat) (hc : c ≤ 9223372036854775807) : bits .and .i64 (((c / 2 ^ i : Nat)) : Int) 1 = ((c.testBit i).toNat : Int) := by
  have h0 : c / 2 ^ i ≤ c := Nat.div_le_self _ _
  show IntKind.i64.wrap ((BitVec.ofInt 64 ((c / 2 ^ i : Nat) : Int) &&& BitVec.ofInt 64 1).toNat : Int) = _
  rw [BitVec.toNat_and, BitVec.toNat_ofInt, BitVec.toNat_ofInt]
  have e1 : (((c / 2 ^ i : Nat) : Int) % ((2 ^ 64 : Nat) : Int)).toNat = c / 2 ^ i := by
    generalize c / 2 ^ i = m at *; omega
  have e2 : ((1 : Int) % ((2 ^ 64 : Nat) : Int)).toNat = 1 := by rfl
  rw [e1, e2, Nat.and_one_is_mod]
  have e3 : c / 2 ^ i % 2 = (c.testBit i).toNat := by
    rw [Nat.testBit_eq_decide_div_mod_eq]
    rcases Nat.mod_two_eq_zero_or_one (c / 2 ^ i) with h | h <;> simp [h]
  rw [e3]
  rcases c.testBit i with _ | _ <;> rfl
set_option maxHeartbeats 1000000 in
set_option maxRecDepth 100000 in
theorem turned_any (c j : Nat) (hc : c ≤ 9223372036854775807) (hj : j ≤ 42) (w : World) : Calls Try.prog 72 #[.int .i64 (c : Int), .int .i64 (j : Int)] w fun e w' => e = .returned (.int .i64 ((Rj j c : Nat) : Int)) ∧ w' = w := by
  go_enter Try.func72, Try.ntmps72
  go_wp2
  go_loopw [5, 6] (fun co ci wr => wr = w ∧ ∃ i : Nat, i ≤ j ∧ ci = .int .i64 (i : Int) ∧ co = .int .i64 ((Rj i c : Nat) : Int)) (fun _ ci _ => j - (intOf ci).toNat)
  case atStart => exact ⟨rfl, 0, Nat.zero_le _, rfl, by rw [Rj_nil]; rfl⟩
  case round =>
    obtain ⟨rfl, i, hi, rfl, rfl⟩ := hrel
    by_cases hlt : i < j
    · have hz4 : (i : Int) < (j : Int) := by omega
      have hp : Rj i c < 2 ^ 42 := Nat.lt_of_lt_of_le (Rj_lt i (by omega) c) (Nat.pow_le_pow_right (by omega) (by omega))
      have hsu := Rj_succ i (by omega) c
      have hba := bit_and c i hc
      have hbt : (c.testBit i).toNat ≤ 1 := by rcases c.testBit i <;> simp
      have hiw : IntKind.i64.wrap ((i : Int) + 1) = (i : Int) + 1 := by rw [IntKind.wrap_i64] <;> omega
      have hiu : IntKind.u64.wrap (i : Int) = (i : Int) := by rw [wrapU]; omega
      have hi64 : i < 64 := by omega
      have hdv : (c : Int) / 2 ^ i = ((c / 2 ^ i : Nat) : Int) := by norm_cast
      generalize (c.testBit i).toNat = B at *
      generalize c / 2 ^ i = D at *
      have hw1 : IntKind.i64.wrap ((Rj i c : Int) * 2) = (Rj i c : Int) * 2 := by rw [IntKind.wrap_i64] <;> omega
      have hw2 : IntKind.i64.wrap ((Rj i c : Int) * 2 + (B : Int)) = ((Rj (i + 1) c : Nat) : Int) := by rw [IntKind.wrap_i64] <;> omega
      go_wp2
      go_roundw
      case rel => exact ⟨by trivial, i + 1, hlt, by simp, by rw [hsu]; simp⟩
      case measure => simp [intOf]; omega
    · have hz4 : ¬ (i : Int) < (j : Int) := by omega
      have hij : i = j := by omega
      subst hij
      go_wp2
      go_returns
      exact ⟨rfl, rfl⟩
set_option maxHeartbeats 1000000 in
set_option maxRecDepth 100000 in
theorem rnext_any (c j : Nat) (hc : c ≤ 9223372036854775807) (hj1 : 1 ≤ j) (hj : j ≤ 42) (w : World) : Calls Try.prog 60 #[.int .i64 (c : Int), .int .i64 ((2 ^ j : Nat) : Int)] w fun e w' => e = .returned (.int .i64 ((nextC j c : Nat) : Int)) ∧ w' = w := by
  have hp : 2 ^ j ≤ 2 ^ 42 := Nat.pow_le_pow_right (by omega) hj
  have h0 := Nat.two_pow_pos j
  have hr := Rj_lt j (by omega) c
  have HT1 : Hid _ := turned_any c j hc hj
  have HT2 : Hid _ := turned_any ((Rj j c + 1) % 2 ^ j) j (by have := Nat.mod_lt (Rj j c + 1) h0; omega) hj
  rw [next_is j (by omega) c] at HT2
  have hm : Int.tmod (((Rj j c : Nat) : Int) + 1) ((2 ^ j : Nat) : Int) = (((Rj j c + 1) % 2 ^ j : Nat) : Int) := by rw [Int.tmod_eq_emod_of_nonneg (by omega)]; norm_cast
  have hmlt := Nat.mod_lt (Rj j c + 1) h0
  have hw1 : IntKind.i64.wrap (((Rj j c : Nat) : Int) + 1) = ((Rj j c : Nat) : Int) + 1 := by rw [IntKind.wrap_i64] <;> omega
  have hne : (((2 ^ j : Nat) : Int) == 0) = false := beq_eq_false_iff_ne.2 (by omega)
  have HPW : Hid (∀ i, i ≤ j → (((2 ^ i : Nat) : Int) < ((2 ^ j : Nat) : Int) ↔ i < j)) := fun i hi => by
    constructor
    · intro h
      rcases Nat.lt_or_ge i j with h1 | h1
      · exact h1
      · have : i = j := by omega
        subst this; omega
    · intro h
      have := Nat.pow_lt_pow_right (a := 2) (by omega) h
      omega
  generalize (Rj j c + 1) % 2 ^ j = MM at *
  generalize nextC j c = NC at *
  generalize Rj j c = RR at *
  generalize 2 ^ j = NN at *
  go_enter Try.func60, Try.ntmps60
  go_wp2
  go_loopw [5] (fun ci wr => wr = w ∧ ∃ i : Nat, i ≤ j ∧ ci = .int .i64 (i : Int)) (fun ci _ => j - (intOf ci).toNat)
  case atStart => exact ⟨rfl, 0, Nat.zero_le _, rfl⟩
  case round =>
    obtain ⟨rfl, i, hi, rfl⟩ := hrel
    have hiw : IntKind.i64.wrap ((i : Int) + 1) = (i : Int) + 1 := by rw [IntKind.wrap_i64] <;> omega
    have hiu : IntKind.u64.wrap (i : Int) = (i : Int) := by rw [wrapU]; omega
    have hi64 : i < 64 := by omega
    have hpi : 2 ^ i ≤ 2 ^ 42 := Nat.pow_le_pow_right (by omega) (by omega)
    have hsh : IntKind.i64.wrap ((2 : Int) ^ i) = ((2 ^ i : Nat) : Int) := by
      have e : (2 : Int) ^ i = ((2 ^ i : Nat) : Int) := by norm_cast
      have hW : ∀ m : Nat, m ≤ 2 ^ 42 → IntKind.i64.wrap (m : Int) = (m : Int) := fun m hm => by rw [IntKind.wrap_i64] <;> omega
      rw [e]; exact hW _ hpi
    have hsh2 : IntKind.i64.wrap (1 * (2 : Int) ^ i) = ((2 ^ i : Nat) : Int) := by rw [Int.one_mul]; exact hsh
    by_cases hlt : i < j
    · have hz4 : ((2 ^ i : Nat) : Int) < (NN : Int) := (HPW.out i hi).2 hlt
      have hz5 : (2 : Int) ^ i < (NN : Int) := by
        have e : (2 : Int) ^ i = ((2 ^ i : Nat) : Int) := by norm_cast
        rw [e]; exact hz4
      go_wp2
      go_roundw
      case rel => exact ⟨by trivial, i + 1, hlt, by simp⟩
      case measure => simp [intOf]; omega
    · have hz4 : ¬ ((2 ^ i : Nat) : Int) < (NN : Int) := fun q => hlt ((HPW.out i hi).1 q)
      have hz5 : ¬ (2 : Int) ^ i < (NN : Int) := by
        have e : (2 : Int) ^ i = ((2 ^ i : Nat) : Int) := by norm_cast
        rw [e]; exact hz4
      have hij : i = j := by omega
      subst hij
      go_wp2_with fail
      refine (show Calls _ _ _ _ _ from HT1.out _).mono ?_
      rintro e w1 ⟨rfl, rfl⟩
      go_wp2_with fail
      refine (show Calls _ _ _ _ _ from HT2.out _).mono ?_
      rintro e w1 ⟨rfl, rfl⟩
      go_wp2
      go_returns
      exact ⟨rfl, rfl⟩
end Go.Proofs.Ytdemodhjlbkbeab
