import Derived.Test.YtdemodhjlbkbeaaRM
import Derived.Sort.Walk0
import Derived.Test.YtdemodhjlbkbeaaRO
import Derived.Laws.AppendOwnNone
namespace Go.Proofs.Ytdemodhjlbkbeaa
open Go.RowKit
set_option linter.unusedVariables false
/-- how far a move has come. -/
def MStat (a b i : Nat) (S : DS) : Prop := (S.T2 = [] ∧ S.T1.length = b) ∨ (S.T2 ≠ [] ∧ S.T1.length = a ∧ S.T2.length = b ∧ i ≤ S.ix)
theorem step_stat {a b i : Nat} {S : DS} (h : DInv S) (hs : MStat a b i S) : MStat a b (i + 1) (stepD S) := by
  unfold stepD
  by_cases hm : S.T2 = []
  · rw [if_pos hm]
    rcases hs with hs | hs
    · exact Or.inl hs
    · exact absurd hm hs.1
  · rw [if_neg hm]
    rcases hs with hs | ⟨_, h1, h2, h3⟩
    · exact absurd hs.1 hm
    · obtain ⟨_, _, q1, q2, q3, _⟩ := takeD_ok h hm
      unfold endD
      split
      · exact Or.inl ⟨rfl, by show (takeD S).T2.length = b; rw [q2, h2]⟩
      · refine Or.inr ⟨ne_of_len q2 hm, by rw [q1, h1], by rw [q2, h2], by omega⟩
theorem set_stat {a b i : Nat} {S : DS} (h : DInv S) (hs : MStat a b i S) {k : ByteArray} (v : Int) (hk : (stepD S).has k = true) : MStat a b (i + 1) (setD S k v) := by
  have q := step_stat h hs
  rw [setD_old hk]
  split
  · rcases q with ⟨q1, q2⟩ | ⟨q1, q2, q3, q4⟩
    · exact Or.inl ⟨q1, by show (tput _ _ _ _).length = b; rw [tput_len]; exact q2⟩
    · exact Or.inr ⟨q1, by show (tput _ _ _ _).length = a; rw [tput_len]; exact q2, q3, q4⟩
  · next hn =>
    have hb : thas (stepD S).seed (stepD S).T2 k = true := by
      unfold DS.has at hk
      have ha' : thas (stepD S).seed (stepD S).T1 k = false := by simpa using hn
      rw [ha', Bool.false_or] at hk; exact hk
    have hne : (stepD S).T2 ≠ [] := fun e => by rw [e] at hb; cases hb
    rcases q with ⟨q1, q2⟩ | ⟨q1, q2, q3, q4⟩
    · exact absurd q1 hne
    · exact Or.inr ⟨ne_of_len (tput_len ..) hne, q2, by show (tput _ _ _ _).length = b; rw [tput_len]; exact q3, q4⟩
theorem stat_end {a b : Nat} {S : DS} (h : DInv S) (hs : MStat a b a S) : S.T2 = [] ∧ S.T1.length = b := by
  rcases hs with hs | ⟨h1, h2, h3, h4⟩
  · exact hs
  · obtain ⟨hl, _⟩ := nextB_hit h h1
    have := nextB_ge S.T1 S.ix
    omega
theorem tabT_still {D : DS} (h : D.T2 = []) : tabT D = .tuple #[.int .i64 (D.T1.length : Nat), .int .i64 0, .int .i64 (-1)] := by unfold tabT; rw [if_pos h]
theorem tabT_move {D : DS} (h : D.T2 ≠ []) : tabT D = .tuple #[.int .i64 (D.T1.length : Nat), .int .i64 (D.T2.length : Nat), .int .i64 (D.ix : Nat)] := by unfold tabT; rw [if_neg h]
theorem below_row {b : Nat} {w w' : World} {g : Nat} (h : Below b w w') (hg : g < b) : w'.heap[g]? = w.heap[g]? := h.block g hg
theorem OpAt.under {W W' : World} {g off i : Nat} {kd : Int} {k : ByteArray} {n : Int} (h : OpAt W g off i kd k n) {b : Nat} (hb : Below b W W') (hg : g < b) : OpAt W' g off i kd k n :=
  ⟨(hb.cell (p := ⟨g, off + i * 3, none⟩) hg).trans h.a, (hb.cell (p := ⟨g, off + i * 3 + 1, none⟩) hg).trans h.b, (hb.cell (p := ⟨g, off + i * 3 + 2, none⟩) hg).trans h.c, h.k, h.n⟩
set_option maxHeartbeats 4000000 in
set_option maxRecDepth 100000 in
theorem Measure_walk (seed : Int) (ad : Option Addr) (g0 off len cap : Nat) (w : World) (hA : len ≠ 0 → ad = some ⟨g0, off, none⟩) (hL : len ≤ 4398046510976) (hO : ∀ i, i < len → ∃ kd k n, OpAt w g0 off i kd k n) :
    Calls Try.prog 7 #[.int .i64 seed, .slice ad len cap] w fun e w' => e = .returned (.bool true) ∧ Below w.heap.size w w' := by
  have HNW : Hid _ := New_any seed w
  have HWK : Hid _ := works_any
  have HO : Hid _ := hO
  have HA : Hid _ := hA
  clear hO hA
  go_enter Try.func7, Try.ntmps7
  go_wp2_with fail
  refine (show Calls _ _ _ _ _ from HNW.out).mono ?_
  rintro e w1 ⟨rfl, hd1, hb1⟩
  have HD1 : Hid (DI w1 w.heap.size [w.heap.size] ⟨seed, [], [], 0⟩) := hd1
  have HB1 : Hid (Below w.heap.size w w1) := hb1
  clear hd1 hb1
  go_wp2_with fail
  refine (show Calls _ _ _ _ _ from HWK.out _).mono ?_
  rintro e w2 ⟨rfl, hb2⟩
  have HD2 : Hid (DI w2 w.heap.size [w.heap.size] ⟨seed, [], [], 0⟩) := HD1.out.on hb2
  have HB2 : Hid (Below w.heap.size w w2) := bel_to HB1.out hb2 (Nat.le_refl _)
  clear hb2 HD1 HB1
  obtain ⟨d, hd⟩ : ∃ d, w.heap.size = d := ⟨_, rfl⟩
  have HDD : Hid (w.heap.size = d) := hd
  rw [hd] at HD2
  rw [hd]
  clear hd
  go_wp2
  go_loopw [6] (fun ci wr => ∃ (i : Nat) (D : DS) (F : List Nat), i ≤ len ∧ ci = .int .i64 (i : Int) ∧ DInv D ∧ DI wr d F D ∧ cnt D.T1 + cnt D.T2 ≤ i ∧ (∀ q ∈ F, w.heap.size ≤ q) ∧ Below w.heap.size w wr) (fun ci _ => len - (intOf ci).toNat)
  case atStart => exact ⟨0, _, [d], Nat.zero_le _, rfl, newD_ok seed, HD2.out, by simp [cnt], by simp [HDD.out], HB2.out⟩
  case round =>
    obtain ⟨i, D, F, hi, rfl, hI, hdi, hcn, hF, hbr⟩ := hrel
    have HI : Hid (DInv D) := hI
    have HDI : Hid (DI wr d F D) := hdi
    have HF : Hid (∀ q ∈ F, w.heap.size ≤ q) := hF
    have HBR : Hid (Below w.heap.size w wr) := hbr
    clear hI hdi hF hbr
    by_cases hlt : i < len
    · have had := HA.out (by omega)
      subst had
      obtain ⟨kd, k, n, hop⟩ := HO.out i hlt
      have hop2 := hop.under HBR.out hop.lt
      have e0 := hop2.a
      have e1 := hop2.b
      have e2 := hop2.c
      have hks := hop2.k
      have HCH : Hid _ := changed_any d F D HI.out (.slice none 0 0) [] (by simp) kd k (by omega) n (by omega) wr (StrRow.nil wr) (fun W _ => StrRow.nil W) HDI.out
      have HCK : Hid _ := chgD_ok HI.out [] kd k (by omega) n (by omega)
      have hz3 : (0 : Int) ≤ (i : Int) := by omega
      have hz4 : (i : Int) < (len : Int) := by omega
      clear hop hop2
      go_wp2_with fail
      refine (show Calls _ _ _ _ _ from HCH.out).mono ?_
      rintro e w3 ⟨rfl, F3, hd3, hm3⟩
      obtain ⟨k1, k2⟩ := HCK.out
      have HF3 : Hid (∀ q ∈ F3, w.heap.size ≤ q) := hm3.ge HF.out HBR.out.size
      have HB3 : Hid (Below w.heap.size w w3) := HBR.out.trans (hm3.below HF.out HBR.out.size)
      have HI3 : Hid _ := k1
      clear e0 e1 e2 hm3 k1 HCH HCK
      generalize chgD D [] kd k n = S at *
      have HD3 : Hid (DI w3 d F3 S) := hd3
      have HTB : Hid _ := Tables_all d F3 S w3 hd3
      have hcS : cnt S.T1 + cnt S.T2 ≤ 4398046511000 := by omega
      clear hd3
      by_cases hm : S.T2 = []
      · rw [tabT_still hm] at HTB
        have hsz := HI3.out.sz1
        obtain ⟨c, hce⟩ : ∃ c, cnt S.T1 + cnt S.T2 = c := ⟨_, rfl⟩
        have hc2 : c ≤ 2 * S.T1.length := by
          have hme := HI3.out.me1 hm
          rw [hm] at hce
          rw [← hce]; simpa [cnt] using hme
        have HCE : Hid _ := hce
        clear hm
        go_wp2_with fail
        refine (show Calls _ _ _ _ _ from HTB.out).mono ?_
        rintro e w4 ⟨rfl, kq, hkq⟩
        have hb4 : Below w3.heap.size w3 w4 := by rw [hkq]; exact below_dn (Below.refl _ _) kq
        have HD4 : Hid (DI w4 d F3 S) := HD3.out.on hb4
        have HB4 : Hid (Below w.heap.size w w4) := HB3.out.trans (hb4.mono HB3.out.size)
        have HLN : Hid _ := Len_all d F3 S hcS w4 HD4.out
        rw [hce] at HLN
        rw [hce] at hcS k2
        clear hb4 hkq hce
        go_wp2_with fail
        refine (show Calls _ _ _ _ _ from HLN.out).mono ?_
        rintro e w5 ⟨rfl, kq5, hkq5⟩
        have hb5 : Below w4.heap.size w4 w5 := by rw [hkq5]; exact below_dn (Below.refl _ _) kq5
        have HD5 : Hid (DI w5 d F3 S) := HD4.out.on hb5
        have HB5 : Hid (Below w.heap.size w w5) := HB4.out.trans (hb5.mono HB4.out.size)
        clear hb5 hkq5
        go_wp2
        go_roundw
        case rel => exact ⟨i + 1, S, F3, hlt, by simp, HI3.out, HD5.out, by rw [HCE.out]; omega, HF3.out, HB5.out⟩
        case measure => simp [intOf]; omega
      · rw [tabT_move hm] at HTB
        have hixn : ¬ ((S.ix : Int) < 0) := by omega
        go_wp2_with fail
        refine (show Calls _ _ _ _ _ from HTB.out).mono ?_
        rintro e w4 ⟨rfl, kq, hkq⟩
        have hb4 : Below w3.heap.size w3 w4 := by rw [hkq]; exact below_dn (Below.refl _ _) kq
        have HD4 : Hid (DI w4 d F3 S) := HD3.out.on hb4
        have HB4 : Hid (Below w.heap.size w w4) := HB3.out.trans (hb4.mono HB3.out.size)
        clear hb4 hkq
        go_wp2
        go_roundw
        case rel => exact ⟨i + 1, S, F3, hlt, by simp, HI3.out, HD4.out, by omega, HF3.out, HB4.out⟩
        case measure => simp [intOf]; omega
    · have hie : i = len := by omega
      subst hie
      have HTB : Hid _ := Tables_all d F D wr HDI.out
      have hcS : cnt D.T1 + cnt D.T2 ≤ 4398046511000 := by omega
      by_cases hm : D.T2 = []
      · rw [tabT_still hm] at HTB
        go_wp2_with fail
        refine (show Calls _ _ _ _ _ from HTB.out).mono ?_
        rintro e w4 ⟨rfl, kq, hkq⟩
        have hb4 : Below wr.heap.size wr w4 := by rw [hkq]; exact below_dn (Below.refl _ _) kq
        have HB4 : Hid (Below w.heap.size w w4) := HBR.out.trans (hb4.mono HBR.out.size)
        clear hb4 hkq
        go_wp2
        go_returns
        exact ⟨rfl, HB4.out⟩
      · rw [tabT_move hm] at HTB
        have hixn : ¬ ((D.ix : Int) < 0) := by omega
        go_wp2_with fail
        refine (show Calls _ _ _ _ _ from HTB.out).mono ?_
        rintro e w4 ⟨rfl, kq, hkq⟩
        have hb4 : Below wr.heap.size wr w4 := by rw [hkq]; exact below_dn (Below.refl _ _) kq
        have HB4 : Hid (Below w.heap.size w w4) := HBR.out.trans (hb4.mono HBR.out.size)
        have HD4 : Hid (DI w4 d F D) := HDI.out.on hb4
        have HKY : Hid _ := Keys_any d F D HI.out hcS w4 HD4.out
        clear hb4 hkq
        go_wp2_with fail
        refine (show Calls _ _ _ _ _ from HKY.out).mono ?_
        rintro e w5 ⟨kv, rfl, hkn, hko, hb5⟩
        have HD5 : Hid (DI w5 d F D) := HD4.out.on hb5
        have HB5 : Hid (Below w.heap.size w w5) := HB4.out.trans (hb5.mono HB4.out.size)
        have hpos : 0 < (keysS D).length := by rw [keysS_len]; have := HI.out.mv hm; omega
        obtain ⟨K0, hK0⟩ : ∃ K0, (keysS D)[0]? = some K0 := ⟨_, List.getElem?_eq_getElem hpos⟩
        obtain ⟨K, kc, hkv, hKb, hKl, hKc⟩ : ∃ K kc, kv = .slice (some ⟨K, 0, none⟩) (keysS D).length kc ∧ w4.heap.size ≤ K ∧ K < w5.heap.size ∧ w5.cell? ⟨K, 0, none⟩ = some (.string (strB K0)) := by
          rcases hko.2 with ⟨e, _⟩ | ⟨K, kc, cur, rfl, hb, hg, _⟩
          · exact absurd e hkn
          · refine ⟨K, kc, rfl, hb, row_lt hg, ?_⟩
            have q := World.ownsRow.cells hko (g := K) rfl 0 (encStr K0) (by rw [List.getElem?_map, hK0]; rfl)
            have q2 : w5.cell? ⟨K, 0, none⟩ = some (encStr K0) := by simpa [Addr.add] using q
            exact q2
        subst hkv
        have HKM : Hid (strB K0 ∈ D.all.map (·.1)) := by
          have hm0 : K0 ∈ keysS D := List.mem_of_getElem? hK0
          have hm1 := (keysS_perm D).mem_iff.1 hm0
          unfold keyB at hm1
          obtain ⟨x, hx1, hx2⟩ := List.mem_map.1 hm1
          refine List.mem_map.2 ⟨x, hx1, ?_⟩
          rw [← hx2]; rfl
        have HKZ : Hid ((strB K0).size ≤ 281474976710656) := by
          obtain ⟨x, hx1, hx2⟩ := List.mem_map.1 HKM.out
          rw [← hx2]; exact HI.out.keys x hx1
        have HKF : Hid (K ∉ F) := fun hx => by have := HD4.out.lt K hx; omega
        have HKC : Hid _ := hKc
        have HNE : Hid (D.T2 ≠ []) := hm
        have hsz := HI.out.sz1
        clear hkn hko hb5 hK0 hKb hKc hm
        generalize (keysS D).length = KN at *
        generalize strB K0 = KK at *
        obtain ⟨TA, hTA⟩ : ∃ TA, D.T1.length = TA := ⟨_, rfl⟩
        obtain ⟨TB, hTB⟩ : ∃ TB, D.T2.length = TB := ⟨_, rfl⟩
        have HMS : Hid (MStat TA TB 0 D) := Or.inr ⟨HNE.out, hTA, hTB, Nat.zero_le _⟩
        rw [hTA, hTB]
        rw [hTA] at hsz
        clear hTA hTB
        go_wp2
        go_loopw [14] (fun ci wr => ∃ (j : Nat) (S : DS) (FS : List Nat), j ≤ TA ∧ ci = .int .i64 (j : Int) ∧ DInv S ∧ DI wr d FS S ∧ KK ∈ S.all.map (·.1) ∧ cnt S.T1 + cnt S.T2 = cnt D.T1 + cnt D.T2 ∧ Moved w5 wr F FS ∧ MStat TA TB j S) (fun ci _ => TA - (intOf ci).toNat)
        case atStart => exact ⟨0, D, F, Nat.zero_le _, rfl, HI.out, HD5.out, HKM.out, rfl, Moved.refl _ _, HMS.out⟩
        case round =>
          obtain ⟨j, S, FS, hj, rfl, hIS, hDS, hKS, hcc, hMS, hST⟩ := hrel
          have HIS : Hid (DInv S) := hIS
          have HDS : Hid (DI wr d FS S) := hDS
          have HKS : Hid (KK ∈ S.all.map (·.1)) := hKS
          have HMV : Hid (Moved w5 wr F FS) := hMS
          have HST : Hid (MStat TA TB j S) := hST
          by_cases hjl : j < TA
          · have hck : wr.cell? ⟨K, 0, none⟩ = some (.string KK) := (World.cell?_of_block (a := ⟨K, 0, none⟩) (hMS.rest K hKl HKF.out)).trans HKC.out
            have hhas : (stepD S).has KK = true := (all_keys (stepD_ok hIS).1 KK).2 (((stepD_ok hIS).2.1.map _).mem_iff.2 hKS)
            have HHS : Hid _ := hhas
            have HSE : Hid _ := Set_any d FS S hIS KK HKZ.out (j : Int) (by omega) wr hDS
            have HSK : Hid _ := setD_ok hIS KK HKZ.out (j : Int) (by omega)
            rw [hhas] at HSK
            have HSS : Hid _ := set_stat hIS hST (j : Int) hhas
            clear hIS hDS hKS hMS hST hhas
            go_wp2_with fail
            refine (show Calls _ _ _ _ _ from HSE.out).mono ?_
            rintro e w6 ⟨rfl, F6, hd6, hm6⟩
            obtain ⟨v0, R, r1, r2⟩ := HSK.out.old rfl
            have HD6 : Hid (DI w6 d F6 (setD S KK (j : Int))) := hd6
            have HM6 : Hid (Moved w5 w6 F F6) := HMV.out.trans hm6
            have HK6 : Hid (KK ∈ (setD S KK (j : Int)).all.map (·.1)) := (r2.map _).mem_iff.2 (by simp)
            have HC6 : Hid (cnt (setD S KK (j : Int)).T1 + cnt (setD S KK (j : Int)).T2 = cnt D.T1 + cnt D.T2) := by
              show _ = _
              rw [← hcc, ← DS.all_len, ← DS.all_len, r1.length_eq, r2.length_eq]; rfl
            clear hd6 hm6 r1 r2 hck
            have hjw : IntKind.i64.wrap ((j : Int) + 1) = (j : Int) + 1 := by rw [IntKind.wrap_i64] <;> omega
            go_wp2
            go_roundw
            case rel => exact ⟨j + 1, _, F6, hjl, by simp, HSK.out.inv, HD6.out, HK6.out, HC6.out, HM6.out, HSS.out⟩
            case measure => simp [intOf]; omega
          · have hje : j = TA := by omega
            subst hje
            obtain ⟨z1, z2⟩ := stat_end hIS hST
            have HTE : Hid _ := Tables_all d FS S wr hDS
            rw [tabT_still z1, z2] at HTE
            have HBE : Hid (Below w.heap.size w wr) := HB5.out.trans (hMS.below HF.out HB5.out.size)
            clear hIS hDS hKS hMS hST z1 z2
            go_wp2_with fail
            refine (show Calls _ _ _ _ _ from HTE.out).mono ?_
            rintro e w7 ⟨rfl, kq7, hkq7⟩
            have hb7 : Below wr.heap.size wr w7 := by rw [hkq7]; exact below_dn (Below.refl _ _) kq7
            have HB7 : Hid (Below w.heap.size w w7) := HBE.out.trans (hb7.mono HBE.out.size)
            clear hb7 hkq7
            go_wp2
            go_returns
            exact ⟨rfl, HB7.out⟩
end Go.Proofs.Ytdemodhjlbkbeaa
namespace Go.Proofs.Ytdemodhjlbkbeaa
open Go.RowKit
set_option linter.unusedVariables false
theorem split_at (kl : List Ent) (j : Nat) (h : j < kl.length) : kl.Perm (kl[j] :: (kl.take j ++ kl.drop (j + 1))) := by
  conv => lhs; rw [← List.take_append_drop j kl, List.drop_eq_getElem_cons h]
  exact List.perm_middle
theorem set_at (kl : List Ent) (j : Nat) (h : j < kl.length) (x : Ent) : (kl.set j x).Perm (x :: (kl.take j ++ kl.drop (j + 1))) := by
  rw [List.set_eq_take_append_cons_drop, if_pos h]
  exact List.perm_middle
theorem swap_at (kl : List Ent) (j : Nat) (h : j < kl.length) : ((kl.set j (kl[kl.length - 1]'(by omega))).take (kl.length - 1)).Perm (kl.take j ++ kl.drop (j + 1)) := by
  rw [List.set_eq_take_append_cons_drop, if_pos h]
  by_cases he : j = kl.length - 1
  · have h1 : kl.drop (j + 1) = [] := List.drop_eq_nil_of_le (by omega)
    rw [h1, List.append_nil, List.take_append_of_le_length (by rw [List.length_take]; omega), List.take_take, Nat.min_eq_left (by omega), ← he]
  · have h2 : kl.drop (j + 1) = (kl.drop (j + 1)).take (kl.length - 1 - (j + 1)) ++ [kl[kl.length - 1]'(by omega)] := by
      conv => lhs; rw [← List.take_append_drop (kl.length - 1 - (j + 1)) (kl.drop (j + 1))]
      congr 1
      rw [List.drop_drop, show j + 1 + (kl.length - 1 - (j + 1)) = kl.length - 1 by omega, List.drop_eq_getElem_cons (by omega), List.drop_eq_nil_of_le (by omega)]
    have h3 : (kl.take j ++ (kl[kl.length - 1]'(by omega)) :: kl.drop (j + 1)).take (kl.length - 1) = kl.take j ++ (kl[kl.length - 1]'(by omega)) :: (kl.drop (j + 1)).take (kl.length - 1 - (j + 1)) := by
      rw [List.take_append, List.length_take, Nat.min_eq_left (by omega), List.take_of_length_le (by rw [List.length_take]; omega)]
      rw [show kl.length - 1 - j = (kl.length - 1 - (j + 1)) + 1 by omega, List.take_succ_cons]
    rw [h3]
    conv => rhs; rw [h2]
    refine List.Perm.append_left _ ?_
    exact (List.perm_append_singleton _ _).symm
/-- one key has one value. -/
theorem one_val {l : List Ent} (hn : (l.map (·.1)).Nodup) {k : ByteArray} {a b : Int} (h1 : (k, a) ∈ l) (h2 : (k, b) ∈ l) : a = b := by
  induction l with
  | nil => cases h1
  | cons x l ih =>
    rw [List.map_cons, List.nodup_cons] at hn
    rcases List.mem_cons.1 h1 with e1 | h1
    · rcases List.mem_cons.1 h2 with e2 | h2
      · rw [← e1] at e2; exact (Prod.mk.inj e2).2.symm
      · exact absurd (List.mem_map.2 ⟨_, h2, by rw [← e1]⟩) hn.1
    · rcases List.mem_cons.1 h2 with e2 | h2
      · exact absurd (List.mem_map.2 ⟨_, h1, by rw [← e2]⟩) hn.1
      · exact ih hn.2 h1 h2
theorem nodup_of {D : DS} {kl : List Ent} (h : DInv D) (hp : D.all.Perm kl) : (kl.map (·.1)).Nodup := by
  rw [← (hp.map _).nodup_iff]; exact h.nd
theorem rest_perm {D : DS} {kl R : List Ent} (h : DInv D) (hp : D.all.Perm kl) {k : ByteArray} {v0 : Int} (hr : D.all.Perm ((k, v0) :: R)) {j : Nat} (hj : j < kl.length) (hk : kl[j].1 = k) : R.Perm (kl.take j ++ kl.drop (j + 1)) := by
  have h1 : kl.Perm ((k, v0) :: R) := hp.symm.trans hr
  have hm : (k, v0) ∈ kl := h1.mem_iff.2 (by simp)
  have hm2 : (k, kl[j].2) ∈ kl := by
    have := List.getElem_mem hj
    rw [← hk]; exact this
  have hv : v0 = kl[j].2 := one_val (nodup_of h hp) hm hm2
  have h2 := split_at kl j hj
  have e : kl[j] = (k, v0) := by rw [hv, ← hk]
  rw [e] at h2
  exact (List.Perm.cons_inv (h1.symm.trans h2))
/-- where a key stands. -/
def AtIs (kl : List Ent) (k : ByteArray) (n : Nat) (at_ : Int) : Prop := (at_ = -1 ∧ ∀ t (h : t < kl.length), t < n → kl[t].1 ≠ k) ∨ ∃ j, ∃ h : j < kl.length, j < n ∧ at_ = (j : Int) ∧ kl[j].1 = k
theorem AtIs.none {kl : List Ent} {k : ByteArray} (h : AtIs kl k kl.length (-1)) : k ∉ kl.map (·.1) := by
  rcases h with ⟨_, h⟩ | ⟨j, _, _, e, _⟩
  · intro hm
    obtain ⟨x, hx, rfl⟩ := List.mem_map.1 hm
    obtain ⟨t, ht, rfl⟩ := List.mem_iff_getElem.1 hx
    exact h t ht ht rfl
  · omega
def rowN (kl : List Ent) : List Value := kl.map fun e => .int .i64 e.2
theorem own_block {w w' : World} {base e size : Nat} {v : Value} {n : Nat} {xs : List Value} (h : w.ownsRow base e size v n xs) (hk : ∀ k, v.ownBlock = some k → w'.heap[k]? = w.heap[k]?) : w'.ownsRow base e size v n xs := by
  refine ⟨h.1, ?_⟩
  rcases h.2 with h1 | ⟨g, cap, cur, rfl, hb, hg, r⟩
  · exact Or.inl h1
  · exact Or.inr ⟨g, cap, cur, rfl, hb, by rw [hk g rfl]; exact hg, r⟩
theorem own_type {w : World} {base e size : Nat} {v : Value} {n : Nat} {xs : List Value} (h : w.ownsRow base e size v n xs) {g : Nat} (hg : v.ownBlock = some g) : ∃ cur, w.heap[g]? = some (.cells cur e (0, 0)) := by
  rcases h.2 with ⟨rfl, _⟩ | ⟨g', cap, cur, rfl, _, hr, _⟩
  · cases hg
  · have : g' = g := by simpa [Value.ownBlock] using hg
    subst this; exact ⟨cur, hr⟩
theorem DI.types {w : World} {g : Nat} {F : List Nat} {D : DS} (h : DI w g F D) : ∀ q ∈ F, ∃ cur T, w.heap[q]? = some (.cells cur T (0, 0)) ∧ T ≠ 9 ∧ T ≠ 3 := by
  have tab : ∀ {v T L}, TabAt w v T L → ∀ q ∈ L, ∃ cur T, w.heap[q]? = some (.cells cur T (0, 0)) ∧ T ≠ 9 ∧ T ≠ 3 := by
    intro v T L hT q hq
    rcases hT with ⟨_, _, rfl⟩ | ⟨B, bvs, _, _, hI, rfl⟩
    · simp at hq
    · rcases List.mem_cons.1 hq with rfl | hq
      · exact ⟨_, _, hI.row, by decide, by decide⟩
      · obtain ⟨bv, hm, he⟩ := List.mem_filterMap.1 hq
        obtain ⟨i, hi⟩ := List.mem_iff_getElem?.1 hm
        rw [Array.getElem?_toList] at hi
        obtain ⟨hl, _⟩ := Array.getElem?_eq_some_iff.1 hi
        obtain ⟨bv', h1, h2⟩ := hI.each i (by rw [← hI.size]; exact hl)
        rw [hi] at h1; cases h1
        obtain ⟨_, cur, hr⟩ := h2.lt q he
        exact ⟨cur, _, hr, by decide, by decide⟩
  obtain ⟨v1, v2, L1, L2, h1, h2, h3, rfl, h4⟩ := h
  intro q hq
  rcases List.mem_cons.1 hq with rfl | hq
  · exact ⟨_, _, h1, by decide, by decide⟩
  · rcases List.mem_append.1 hq with hq | hq
    · exact tab h2 q hq
    · exact tab h3 q hq
theorem DI.apart {w : World} {g : Nat} {F : List Nat} {D : DS} (h : DI w g F D) {base e size : Nat} {v : Value} {n : Nat} {xs : List Value} (hv : w.ownsRow base e size v n xs) (he : e = 9 ∨ e = 3) : ∀ q, v.ownBlock = some q → q ∉ F := by
  intro q hq hm
  obtain ⟨cur, T, h1, h2, h3⟩ := h.types q hm
  obtain ⟨cur2, h4⟩ := own_type hv hq
  rw [h1] at h4
  injection h4 with h4
  injection h4 with _ h5 _
  subst h5
  rcases he with he | he
  · exact h2 he
  · exact h3 he
theorem own_moved {w w' : World} {g : Nat} {F F' : List Nat} {D : DS} (h : DI w g F D) (hm : Moved w w' F F') {base e size : Nat} {v : Value} {n : Nat} {xs : List Value} (hv : w.ownsRow base e size v n xs) (he : e = 9 ∨ e = 3) : w'.ownsRow base e size v n xs :=
  own_block hv (fun k hk => by
    obtain ⟨cur, hr⟩ := own_type hv hk
    exact hm.rest k (row_lt hr) (h.apart hv he k hk))
theorem own_other {w w' : World} {base base' e e' size size' : Nat} {v v' : Value} {n n' : Nat} {xs xs' : List Value} (hv : w.ownsRow base e size v n xs) (hv' : w.ownsRow base' e' size' v' n' xs') (hne : e ≠ e') (hg : w.grownBy w' v'.ownBlock) : w'.ownsRow base e size v n xs :=
  own_block hv (fun k hk => by
    obtain ⟨cur, hr⟩ := own_type hv hk
    refine hg.block k (row_lt hr) (fun e1 => ?_)
    obtain ⟨cur2, hr2⟩ := own_type hv' e1.symm
    rw [hr] at hr2
    injection hr2 with h4
    injection h4 with _ h5 _
    exact hne h5)
theorem DI.grown {w w' : World} {g : Nat} {F : List Nat} {D : DS} (h : DI w g F D) {base e size : Nat} {v : Value} {n : Nat} {xs : List Value} (hv : w.ownsRow base e size v n xs) (he : e = 9 ∨ e = 3) (hg : w.grownBy w' v.ownBlock) : DI w' g F D :=
  h.keep (fun q hq => hg.block q (h.lt q hq) (fun e1 => h.apart hv he q e1.symm hq))
theorem own_take {w : World} {base e g n cap m : Nat} {xs : List Value} (h : w.ownsRow base e 1 (.slice (some ⟨g, 0, none⟩) n cap) n xs) (hm : m ≤ n) : w.ownsRow base e 1 (.slice (some ⟨g, 0, none⟩) m cap) m (xs.take m) := by
  have hl := h.1
  refine ⟨by rw [List.length_take]; omega, ?_⟩
  rcases h.2 with ⟨e1, _⟩ | ⟨g', cap', cur, hv, hb, hr, q1, q2, q3, q4⟩
  · cases e1
  · injection hv with e1 e2 e3
    injection e1 with e1
    injection e1 with e1 _ _
    subst e1; subst e3
    refine Or.inr ⟨g, cap, cur, rfl, hb, hr, by omega, q2, q3, ?_⟩
    rw [← q4, List.take_take, show min m (n * 1) = m * 1 by omega]
theorem keyB_nodup {D : DS} (h : DInv D) : (keyB D.all).Nodup := by
  have h1 := h.nd
  unfold keyB
  have e : D.all.map (fun e => e.1.data.toList) = (D.all.map (·.1)).map (fun b : ByteArray => b.data.toList) := by rw [List.map_map]; rfl
  rw [e]
  unfold List.Nodup
  rw [List.pairwise_map]
  refine List.Pairwise.imp (fun {a b} hab heq => hab ?_) h1
  exact ByteArray.ext (Array.toList_inj.1 heq)
/-- the keys rise. -/
theorem keysS_rise {D : DS} (h : DInv D) : (keysS D).Pairwise (fun a b => Op.bytesLess a b = true) := by
  have h1 : (keysS D).Pairwise (fun a b : List UInt8 => decide (a ≤ b) = true) := List.pairwise_mergeSort (fun a b c => by simp only [decide_eq_true_eq]; exact List.le_trans) (fun a b => by simp only [Bool.or_eq_true, decide_eq_true_eq]; exact List.le_total a b) _
  have h2 : (keysS D).Nodup := (keysS_perm D).nodup_iff.2 (keyB_nodup h)
  refine (h1.and h2).imp (fun {a b} ⟨hle, hne⟩ => ?_)
  rcases hq : Op.bytesLess a b with _ | _
  · exfalso
    refine hne (bl_tri a b hq ?_)
    rw [bytesLess_eq]
    simp only [decide_eq_true_eq] at hle
    simpa using hle
  · rfl
end Go.Proofs.Ytdemodhjlbkbeaa
namespace Go.Proofs.Ytdemodhjlbkbeaa
open Go.RowKit
set_option linter.unusedVariables false
theorem infoI : (Try.prog.info? 3).map (fun i => (i.zero, i.size, i.bytes)) = some (some (.int .i64 0), 1, 8) := by kernel_rfl
/-- what the law holds: its two rows. -/
structure MapSt (w wr : World) (d : Nat) (F : List Nat) (D : DS) (kl : List Ent) (ck cv : Value) : Prop where
  inv : DInv D
  di : DI wr d F D
  perm : D.all.Perm kl
  fs : ∀ q ∈ F, w.heap.size ≤ q
  ok : wr.ownsRow w.heap.size 9 1 ck kl.length (keyV kl)
  ov : wr.ownsRow w.heap.size 3 1 cv kl.length (rowN kl)
  below : Below w.heap.size w wr
theorem MapSt.on {w wr W : World} {d : Nat} {F : List Nat} {D : DS} {kl : List Ent} {ck cv : Value} (h : MapSt w wr d F D kl ck cv) (hb : Below wr.heap.size wr W) : MapSt w W d F D kl ck cv :=
  ⟨h.inv, h.di.on hb, h.perm, h.fs, own_keep h.ok (fun k _ hk => hb.block k hk), own_keep h.ov (fun k _ hk => hb.block k hk), h.below.trans (hb.mono h.below.size)⟩
theorem MapSt.key {w wr : World} {d : Nat} {F : List Nat} {D : DS} {kl : List Ent} {ck cv : Value} (h : MapSt w wr d F D kl ck cv) (hne : 0 < kl.length) : ∃ K c, ck = .slice (some ⟨K, 0, none⟩) kl.length c ∧ ∀ t (ht : t < kl.length), wr.cell? ⟨K, t, none⟩ = some (.string kl[t].1) := by
  rcases h.ok.2 with ⟨_, e⟩ | ⟨K, c, cur, rfl, _⟩
  · omega
  · refine ⟨K, c, rfl, fun t ht => ?_⟩
    rw [h.ok.cellAt t (by omega)]
    unfold keyV; rw [List.getElem?_map, List.getElem?_eq_getElem ht]; rfl
theorem MapSt.val {w wr : World} {d : Nat} {F : List Nat} {D : DS} {kl : List Ent} {ck cv : Value} (h : MapSt w wr d F D kl ck cv) (hne : 0 < kl.length) : ∃ V c, cv = .slice (some ⟨V, 0, none⟩) kl.length c ∧ ∀ t (ht : t < kl.length), wr.cell? ⟨V, t, none⟩ = some (.int .i64 kl[t].2) := by
  rcases h.ov.2 with ⟨_, e⟩ | ⟨V, c, cur, rfl, _⟩
  · omega
  · refine ⟨V, c, rfl, fun t ht => ?_⟩
    rw [h.ov.cellAt t (by omega)]
    unfold rowN; rw [List.getElem?_map, List.getElem?_eq_getElem ht]; rfl
theorem rowN_app (a b : List Ent) : rowN (a ++ b) = rowN a ++ rowN b := by unfold rowN; rw [List.map_append]
theorem keyV_set (kl : List Ent) (j : Nat) (h : j < kl.length) (k : ByteArray) (n : Int) (hk : kl[j].1 = k) : keyV (kl.set j (k, n)) = keyV kl := by
  unfold keyV
  rw [List.map_set]
  refine List.ext_getElem? (fun t => ?_)
  rw [List.getElem?_set]
  split
  · next e =>
    subst e
    rw [if_pos (by rw [List.length_map]; exact h), List.getElem?_map, List.getElem?_eq_getElem h, ← hk]; rfl
  · rfl
theorem rowN_set (kl : List Ent) (j : Nat) (x : Ent) : rowN (kl.set j x) = (rowN kl).set j (.int .i64 x.2) := by unfold rowN; rw [List.map_set]
theorem keyV_set2 (kl : List Ent) (j : Nat) (x : Ent) : keyV (kl.set j x) = (keyV kl).set j (.string x.1) := by unfold keyV; rw [List.map_set]
theorem keyV_take (kl : List Ent) (m : Nat) : keyV (kl.take m) = (keyV kl).take m := by unfold keyV; rw [List.map_take]
theorem rowN_take (kl : List Ent) (m : Nat) : rowN (kl.take m) = (rowN kl).take m := by unfold rowN; rw [List.map_take]
set_option maxHeartbeats 8000000 in
set_option maxRecDepth 100000 in
theorem Maps_walk (seed : Int) (ad : Option Addr) (g0 off len cap : Nat) (w : World) (hA : len ≠ 0 → ad = some ⟨g0, off, none⟩) (hL : len ≤ 4398046510976) (hO : ∀ i, i < len → ∃ kd k n, OpAt w g0 off i kd k n) :
    Calls Try.prog 4 #[.int .i64 seed, .slice ad len cap] w fun e w' => e = .returned (.bool true) ∧ Below w.heap.size w w' := by
  obtain ⟨i9, hi9, hy0, hy1, hy2⟩ := info_parts info9
  obtain ⟨i3, hi3, hx0, hx1, hx2⟩ := info_parts infoI
  have HNW : Hid _ := New_any seed w
  have HWK : Hid _ := works_any
  have HO : Hid _ := hO
  have HA : Hid _ := hA
  clear hO hA
  go_enter Try.func4, Try.ntmps4
  go_wp2_with fail
  refine (show Calls _ _ _ _ _ from HNW.out).mono ?_
  rintro e w1 ⟨rfl, hd1, hb1⟩
  have HD1 : Hid (DI w1 w.heap.size [w.heap.size] ⟨seed, [], [], 0⟩) := hd1
  have HB1 : Hid (Below w.heap.size w w1) := hb1
  clear hd1 hb1
  go_wp2_with fail
  refine (show Calls _ _ _ _ _ from HWK.out _).mono ?_
  rintro e w2 ⟨rfl, hb2⟩
  have HD2 : Hid (DI w2 w.heap.size [w.heap.size] ⟨seed, [], [], 0⟩) := HD1.out.on hb2
  have HB2 : Hid (Below w.heap.size w w2) := bel_to HB1.out hb2 (Nat.le_refl _)
  clear hb2 HD1 HB1
  obtain ⟨d, hd⟩ : ∃ d, w.heap.size = d := ⟨_, rfl⟩
  have HDD : Hid (w.heap.size = d) := hd
  rw [hd] at HD2
  rw [hd]
  clear hd
  go_wp2
  go_loopw [8, 6, 7] (fun ci ck cv wr => ∃ (i : Nat) (D : DS) (F : List Nat) (kl : List Ent), i ≤ len ∧ ci = .int .i64 (i : Int) ∧ kl.length ≤ i ∧ MapSt w wr d F D kl ck cv) (fun ci _ _ _ => len - (intOf ci).toNat)
  case atStart => exact ⟨0, _, [d], [], Nat.zero_le _, rfl, Nat.le_refl _, ⟨newD_ok seed, HD2.out, List.Perm.refl _, by simp [HDD.out], ⟨rfl, Or.inl ⟨rfl, rfl⟩⟩, ⟨rfl, Or.inl ⟨rfl, rfl⟩⟩, HB2.out⟩⟩
  case round =>
    obtain ⟨i, D, F, kl, hi, rfl, hkl, hst⟩ := hrel
    have HST : Hid (MapSt w wr d F D kl _ _) := hst
    obtain ⟨KP, KC, hkf⟩ := own_form hst.ok
    obtain ⟨VP, VC, hvf⟩ := own_form hst.ov
    subst hkf; subst hvf
    by_cases hlt : i < len
    · have had := HA.out (by omega)
      subst had
      obtain ⟨kd, k, n, hop⟩ := HO.out i hlt
      have hop2 := hop.under hst.below hop.lt
      have e0 := hop2.a
      have e1 := hop2.b
      have e2 := hop2.c
      have hks := hop2.k
      have hz3 : (0 : Int) ≤ (i : Int) := by omega
      have hz4 : (i : Int) < (len : Int) := by omega
      have HX : Hid _ := one_alloc wr (.cells #[.int .i64 kd, .string k, .int .i64 n] 31)
      obtain ⟨W0, hW0⟩ : ∃ W0, W0 = wr.alloc (.cells #[.int .i64 kd, .string k, .int .i64 n] 31) := ⟨_, rfl⟩
      have hbw : Below wr.heap.size wr W0 := by rw [hW0]; exact (Below.refl _ _).alloc (Nat.le_refl _) _
      rw [← hW0] at HX
      have HS0 : Hid (MapSt w W0 d F D kl (.slice KP kl.length KC) (.slice VP kl.length VC)) := hst.on hbw
      have hx0' : W0.cell? ⟨wr.heap.size, 0, none⟩ = some (.int .i64 kd) := by rw [cell_of_row _ _ _ _ _ _ HX.out]; rfl
      have hx1' : W0.cell? ⟨wr.heap.size, 1, none⟩ = some (.string k) := by rw [cell_of_row _ _ _ _ _ _ HX.out]; rfl
      have hx2' : W0.cell? ⟨wr.heap.size, 2, none⟩ = some (.int .i64 n) := by rw [cell_of_row _ _ _ _ _ _ HX.out]; rfl
      obtain ⟨ob, hob⟩ : ∃ ob, wr.heap.size = ob := ⟨_, rfl⟩
      rw [hob] at hx0' hx1' hx2'
      have HOF : Hid (ob ∉ F) := fun hx => by have := hst.di.lt ob hx; omega
      have HKO : Hid (∀ q, (Value.slice KP kl.length KC).ownBlock = some q → q ≠ ob) := fun q hq => by have := (World.ownsRow.lt hst.ok q hq).2; omega
      have HVO : Hid (∀ q, (Value.slice VP kl.length VC).ownBlock = some q → q ≠ ob) := fun q hq => by have := (World.ownsRow.lt hst.ov q hq).2; omega
      clear hop hop2 hst HST hbw HX
      go_upto_region 10 with fail
      rw [← hW0]
      clear hW0 e0 e1 e2
      clear hob
      go_wp2
      go_loopw [10, 11] (fun ca ck W => Below W0.heap.size W0 W ∧ ∃ (t : Nat) (a : Int), t ≤ kl.length ∧ ck = .int .i64 (t : Int) ∧ ca = .int .i64 a ∧ AtIs kl k t a) (fun _ ck _ => kl.length - (intOf ck).toNat)
      case atStart => exact ⟨Below.refl _ _, 0, -1, Nat.zero_le _, rfl, rfl, Or.inl ⟨rfl, fun t _ h => by omega⟩⟩
      case round =>
        obtain ⟨hbW, t, a, ht, rfl, rfl, hat⟩ := hrel
        have HBW : Hid (Below W0.heap.size W0 wr) := hbW
        have HSW : Hid (MapSt w wr d F D kl (.slice KP kl.length KC) (.slice VP kl.length VC)) := HS0.out.on hbW
        have HAT : Hid (AtIs kl k t a) := hat
        have y0 := cell_on hx0' hbW
        have y1 := cell_on hx1' hbW
        have y2 := cell_on hx2' hbW
        clear hbW hat
        by_cases htl : t < kl.length
        · obtain ⟨K, kc, hck, hcells⟩ := HSW.out.key (by omega)
          injection hck with hk1 hk2 hk3
          subst hk1; subst hk3
          have hct := hcells t htl
          have hz5 : (0 : Int) ≤ (t : Int) := by omega
          have hz6 : (t : Int) < (kl.length : Int) := by omega
          have htw : IntKind.i64.wrap ((t : Int) + 1) = (t : Int) + 1 := by rw [IntKind.wrap_i64] <;> omega
          clear hcells hk2
          by_cases heq : kl[t].1 = k
          · have hsame : (kl[t].1.toList == k.toList) = true := by rw [heq]; simp
            have HA2 : Hid (AtIs kl k (t + 1) (t : Int)) := Or.inr ⟨t, htl, by omega, rfl, heq⟩
            clear heq
            generalize kl[t].1 = X at *
            go_wp2_with fail
            go_quiet (fail)
            have HB2 : Hid (Below W0.heap.size W0 (wr.drewN nq)) := below_dn HBW.out nq
            go_wp2
            go_roundw
            case rel => exact ⟨HB2.out, t + 1, (t : Int), htl, by simp, rfl, HA2.out⟩
            case measure => simp [intOf]; omega
          · have hother : (kl[t].1.toList == k.toList) = false := str_other (fun e => heq (ByteArray.ext (Array.toList_inj.1 e)))
            have HA2 : Hid (AtIs kl k (t + 1) a) := by
              rcases HAT.out with ⟨e, h⟩ | ⟨j, hj, h1, h2, h3⟩
              · refine Or.inl ⟨e, fun t' ht' h' => ?_⟩
                rcases Nat.lt_or_ge t' t with h4 | h4
                · exact h t' ht' h4
                · have : t' = t := by omega
                  subst this; exact heq
              · exact Or.inr ⟨j, hj, by omega, h2, h3⟩
            clear heq
            generalize kl[t].1 = X at *
            go_wp2_with fail
            go_quiet (fail)
            have HB2 : Hid (Below W0.heap.size W0 (wr.drewN nq)) := below_dn HBW.out nq
            go_wp2
            go_roundw
            case rel => exact ⟨HB2.out, t + 1, a, htl, by simp, rfl, HA2.out⟩
            case measure => simp [intOf]; omega
        · have hte : t = kl.length := by omega
          subst hte
          have hhas : (stepD D).has k = true ↔ k ∈ kl.map (·.1) := by
            obtain ⟨q1, q2, q3⟩ := stepD_ok HSW.out.inv
            rw [all_keys q1]
            exact ((q2.trans HSW.out.perm).map _).mem_iff
          have hcnt : cnt D.T1 + cnt D.T2 = kl.length := by rw [← DS.all_len]; exact HSW.out.perm.length_eq
          have HHS : Hid _ := hhas
          clear hhas
          have HSE : Hid _ := Set_any d F D HSW.out.inv k (by omega) n (by omega) wr HSW.out.di
          have HSK : Hid _ := setD_ok HSW.out.inv k (by omega) n (by omega)
          have HDE : Hid _ := Delete_any d F D HSW.out.inv k (by omega) (by omega) wr HSW.out.di
          have HDK : Hid _ := deleteD_ok HSW.out.inv k
          have hiw : IntKind.i64.wrap ((i : Int) + 1) = (i : Int) + 1 := by rw [IntKind.wrap_i64] <;> omega
          by_cases hk0 : kd = 0
          · subst hk0
            clear HDE HDK
            rcases HAT.out with ⟨rfl, hno⟩ | ⟨j, hjl, _, rfl, hjk⟩
            · have hnot : k ∉ kl.map (·.1) := AtIs.none HAT.out
              have hf : (stepD D).has k = false := by
                rcases hq : (stepD D).has k with _ | _
                · rfl
                · exact absurd (HHS.out.1 hq) hnot
              rw [hf] at HSE HSK
              clear hno
              go_wp2_with fail
              refine (show Calls _ _ _ _ _ from HSE.out).mono ?_
              rintro e w3 ⟨rfl, F3, hd3, hm3⟩
              have hobl := lt_of_cell y1
              have z1 := (World.cell?_of_block (a := ⟨ob, 1, none⟩) (hm3.rest ob hobl HOF.out)).trans y1
              have z2 := (World.cell?_of_block (a := ⟨ob, 2, none⟩) (hm3.rest ob hobl HOF.out)).trans y2
              have HD3 : Hid (DI w3 d F3 (setD D k n)) := hd3
              have HK3 : Hid (w3.ownsRow w.heap.size 9 1 (.slice KP kl.length KC) kl.length (keyV kl)) := own_moved HSW.out.di hm3 HSW.out.ok (Or.inl rfl)
              have HV3 : Hid (w3.ownsRow w.heap.size 3 1 (.slice VP kl.length VC) kl.length (rowN kl)) := own_moved HSW.out.di hm3 HSW.out.ov (Or.inr rfl)
              have HF3 : Hid (∀ q ∈ F3, w.heap.size ≤ q) := hm3.ge HSW.out.fs HSW.out.below.size
              have HB3 : Hid (Below w.heap.size w w3) := HSW.out.below.trans (hm3.below HSW.out.fs HSW.out.below.size)
              have HIN3 : Hid _ := HSK.out.inv
              have HPE3 : Hid ((setD D k n).all.Perm (kl ++ [(k, n)])) := ((HSK.out.fresh rfl).2.trans (List.Perm.cons _ HSW.out.perm)).trans (List.perm_append_singleton _ _).symm
              have hobl3 := lt_of_cell z1
              clear hd3 hm3 y0 y1 y2 hobl hnot hf
              generalize setD D k n = S at *
              go_upto_region 21 with fail
              have HS4 : Hid (w.heap.size ≤ (w3.alloc (.cells #[.string k] 9)).heap.size) := Nat.le_trans HB3.out.size (by simp)
              have HC4 : Hid ((w3.alloc (.cells #[.string k] 9)).cell? ⟨w3.heap.size, 0, none⟩ = some (.string k)) := (row1 (one_alloc w3 _)).1
              have hba : Below w3.heap.size w3 (w3.alloc (.cells #[.string k] 9)) := (Below.refl _ _).alloc (Nat.le_refl _) _
              have HKA : Hid ((w3.alloc (.cells #[.string k] 9)).ownsRow w.heap.size 9 1 (.slice KP kl.length KC) kl.length (keyV kl)) := own_keep HK3.out (fun q _ hq => hba.block q hq)
              have HVA : Hid ((w3.alloc (.cells #[.string k] 9)).ownsRow w.heap.size 3 1 (.slice VP kl.length VC) kl.length (rowN kl)) := own_keep HV3.out (fun q _ hq => hba.block q hq)
              have HDA : Hid (DI (w3.alloc (.cells #[.string k] 9)) d F3 S) := HD3.out.on hba
              have HBA : Hid (Below w.heap.size w (w3.alloc (.cells #[.string k] 9))) := HB3.out.trans (hba.mono HB3.out.size)
              have HZ2 : Hid ((w3.alloc (.cells #[.string k] 9)).cell? ⟨ob, 2, none⟩ = some (.int .i64 n)) := cell_on z2 hba
              clear hba
              go_wp2_with (at_builtin; go_must (refine wpList_append_own_at _ rfl _ _ 28 rfl w.heap.size 9 i9 (.string ⟨#[]⟩) 1 16 Try.underlying28 hi9 hy0 hy1 hy2 rfl (by decide) _ _ _ rfl HKA.out ⟨w3.heap.size, 0, none⟩ 1 1 [.string k] rfl rfl ?t0 ?t1 ?t2 ?t3 HS4.out ?_))
              case t0 =>
                intro q u hq
                match q, hq with
                | 0, hq => simp at hq; subst hq; exact HC4.out
              case t1 => intro u hu; simp at hu; subst hu; rfl
              case t2 => unfold maxLen; omega
              case t3 => omega
              intro v4 w4 hown4 hgr4 _ hob4
              have HV4 : Hid (w4.ownsRow w.heap.size 3 1 (.slice VP kl.length VC) kl.length (rowN kl)) := own_other HVA.out HKA.out (by decide) hgr4
              have HD4 : Hid (DI w4 d F3 S) := HDA.out.grown HKA.out (Or.inl rfl) hgr4
              have HB4 : Hid (Below w.heap.size w w4) := HBA.out.grown hgr4 HS4.out (fun q hq => (World.ownsRow.lt HKA.out q hq).1)
              have u2 : w4.cell? ⟨ob, 2, none⟩ = some (.int .i64 n) := (World.cell?_of_block (a := ⟨ob, 2, none⟩) (hgr4.block ob (by simp; omega) (fun e => HKO.out ob e.symm rfl))).trans HZ2.out
              have hobl4 := lt_of_cell u2
              have HK4 : Hid (w4.ownsRow w.heap.size 9 1 v4 (kl ++ [(k, n)]).length (keyV (kl ++ [(k, n)]))) := by
                show World.ownsRow _ _ _ _ _ _ _
                rw [keyV_app, List.length_append]; exact hown4
              clear hown4 hgr4 hob4 z1 z2
              go_upto_region 22 with fail
              have HS5 : Hid (w.heap.size ≤ (w4.alloc (.cells #[.int .i64 n] 3)).heap.size) := Nat.le_trans HB4.out.size (by simp)
              have HC5 : Hid ((w4.alloc (.cells #[.int .i64 n] 3)).cell? ⟨w4.heap.size, 0, none⟩ = some (.int .i64 n)) := (row1 (one_alloc w4 _)).1
              have hba : Below w4.heap.size w4 (w4.alloc (.cells #[.int .i64 n] 3)) := (Below.refl _ _).alloc (Nat.le_refl _) _
              have HKB : Hid ((w4.alloc (.cells #[.int .i64 n] 3)).ownsRow w.heap.size 9 1 v4 (kl ++ [(k, n)]).length (keyV (kl ++ [(k, n)]))) := own_keep HK4.out (fun q _ hq => hba.block q hq)
              have HVB : Hid ((w4.alloc (.cells #[.int .i64 n] 3)).ownsRow w.heap.size 3 1 (.slice VP kl.length VC) kl.length (rowN kl)) := own_keep HV4.out (fun q _ hq => hba.block q hq)
              have HDB : Hid (DI (w4.alloc (.cells #[.int .i64 n] 3)) d F3 S) := HD4.out.on hba
              have HBB : Hid (Below w.heap.size w (w4.alloc (.cells #[.int .i64 n] 3))) := HB4.out.trans (hba.mono HB4.out.size)
              clear hba
              go_wp2_with (at_builtin; go_must (refine wpList_append_own_at _ rfl _ _ 29 rfl w.heap.size 3 i3 (.int .i64 0) 1 8 Try.underlying29 hi3 hx0 hx1 hx2 rfl (by decide) _ _ _ rfl HVB.out ⟨w4.heap.size, 0, none⟩ 1 1 [.int .i64 n] rfl rfl ?s0 ?s1 ?s2 ?s3 HS5.out ?_))
              case s1 => rfl
              case s2 => unfold maxLen; omega
              case s3 => omega
              intro v5 w5 hown5 hgr5 _ hob5
              have HMS : Hid (MapSt w w5 d F3 S (kl ++ [(k, n)]) v4 v5) := by
                refine ⟨HIN3.out, HDB.out.grown HVB.out (Or.inr rfl) hgr5, HPE3.out, HF3.out, own_other HKB.out HVB.out (by decide) hgr5, ?_, HBB.out.grown hgr5 HS5.out (fun q hq => (World.ownsRow.lt HVB.out q hq).1)⟩
                rw [rowN_app, List.length_append]; exact hown5
              clear hown5 hgr5 hob5 u2
              go_wp2
              go_roundw
              case rel => exact ⟨i + 1, S, F3, kl ++ [(k, n)], hlt, by simp, by simp; omega, HMS.out⟩
              case measure => simp [intOf]; omega
            · have hin : k ∈ kl.map (·.1) := List.mem_map.2 ⟨kl[j], List.getElem_mem hjl, hjk⟩
              have hf : (stepD D).has k = true := HHS.out.2 hin
              rw [hf] at HSE HSK
              have HJK : Hid (kl[j].1 = k) := hjk
              have hjn : ¬ ((j : Int) < 0) := by omega
              clear hin hf hjk
              go_wp2_with fail
              refine (show Calls _ _ _ _ _ from HSE.out).mono ?_
              rintro e w3 ⟨rfl, F3, hd3, hm3⟩
              have hobl := lt_of_cell y1
              have z2 := (World.cell?_of_block (a := ⟨ob, 2, none⟩) (hm3.rest ob hobl HOF.out)).trans y2
              have HD3 : Hid (DI w3 d F3 (setD D k n)) := hd3
              have HK3 : Hid (w3.ownsRow w.heap.size 9 1 (.slice KP kl.length KC) kl.length (keyV kl)) := own_moved HSW.out.di hm3 HSW.out.ok (Or.inl rfl)
              have HV3 : Hid (w3.ownsRow w.heap.size 3 1 (.slice VP kl.length VC) kl.length (rowN kl)) := own_moved HSW.out.di hm3 HSW.out.ov (Or.inr rfl)
              have HF3 : Hid (∀ q ∈ F3, w.heap.size ≤ q) := hm3.ge HSW.out.fs HSW.out.below.size
              have HB3 : Hid (Below w.heap.size w w3) := HSW.out.below.trans (hm3.below HSW.out.fs HSW.out.below.size)
              have HPE3 : Hid ((setD D k n).all.Perm (kl.set j (k, n))) := by
                obtain ⟨v0, R, r1, r2⟩ := HSK.out.old rfl
                exact r2.trans ((List.Perm.cons _ (rest_perm HSW.out.inv HSW.out.perm r1 hjl HJK.out)).trans (set_at kl j hjl (k, n)).symm)
              have HIN3 : Hid _ := HSK.out.inv
              clear hd3 hm3 y0 y1 y2 hobl
              generalize setD D k n = S at *
              obtain ⟨V, vc, hcv, hvcells⟩ := HSW.out.val (by omega)
              injection hcv with hk1 hk2 hk3
              subst hk1; subst hk3
              have hvj : w3.cell? ⟨V, j, none⟩ = some (.int .i64 kl[j].2) := by
                rw [HV3.out.cellAt j (by omega)]
                unfold rowN; rw [List.getElem?_map, List.getElem?_eq_getElem hjl]; rfl
              have hvf : w3.frozen? ⟨V, j, none⟩ = false := HV3.out.frozenAt j
              have hz7 : (0 : Int) ≤ (j : Int) := by omega
              have hz8 : (j : Int) < (kl.length : Int) := by omega
              have HMS : Hid (MapSt w (w3.setCell ⟨V, j, none⟩ (.int .i64 n)) d F3 S (kl.set j (k, n)) (.slice KP kl.length KC) (.slice (some ⟨V, 0, none⟩) kl.length VC)) := by
                obtain ⟨s1, s2⟩ := HV3.out.stored j (.int .i64 n)
                refine ⟨HIN3.out, HD3.out.grown HV3.out (Or.inr rfl) s2, HPE3.out, HF3.out, ?_, ?_, HB3.out.grown s2 HB3.out.size (fun q hq => (World.ownsRow.lt HV3.out q hq).1)⟩
                · rw [keyV_set kl j hjl k n HJK.out, List.length_set]
                  exact own_other HK3.out HV3.out (by decide) s2
                · rw [rowN_set, List.length_set]; exact s1
              clear hvcells hk2
              generalize kl[j].2 = X at *
              go_wp2
              go_roundw
              case rel => exact ⟨i + 1, S, F3, kl.set j (k, n), hlt, by simp, by simp; omega, by simpa using HMS.out⟩
              case measure => simp [intOf]; omega
          · have hk0' : (kd == 0) = false := by simpa using hk0
            by_cases hk1 : kd = 1
            · subst hk1
              clear HSE HSK
              rcases HAT.out with ⟨rfl, hno⟩ | ⟨j, hjl, _, rfl, hjk⟩
              · have hnot : k ∉ kl.map (·.1) := AtIs.none HAT.out
                have hf : (stepD D).has k = false := by
                  rcases hq : (stepD D).has k with _ | _
                  · rfl
                  · exact absurd (HHS.out.1 hq) hnot
                rw [hf] at HDE HDK
                clear hno hnot hf
                go_wp2_with fail
                refine (show Calls _ _ _ _ _ from HDE.out).mono ?_
                rintro e w3 ⟨rfl, F3, hd3, hm3⟩
                have HMS : Hid (MapSt w w3 d F3 (deleteD D k) kl (.slice KP kl.length KC) (.slice VP kl.length VC)) :=
                  ⟨HDK.out.inv, hd3, (HDK.out.miss rfl).2.trans HSW.out.perm, hm3.ge HSW.out.fs HSW.out.below.size, own_moved HSW.out.di hm3 HSW.out.ok (Or.inl rfl), own_moved HSW.out.di hm3 HSW.out.ov (Or.inr rfl), HSW.out.below.trans (hm3.below HSW.out.fs HSW.out.below.size)⟩
                clear hd3 hm3 y0 y1 y2
                go_wp2
                go_roundw
                case rel => exact ⟨i + 1, _, F3, kl, hlt, by simp, by omega, HMS.out⟩
                case measure => simp [intOf]; omega
              · have hin : k ∈ kl.map (·.1) := List.mem_map.2 ⟨kl[j], List.getElem_mem hjl, hjk⟩
                have hf : (stepD D).has k = true := HHS.out.2 hin
                rw [hf] at HDE HDK
                have HJK : Hid (kl[j].1 = k) := hjk
                have hjn : (0 : Int) ≤ (j : Int) := by omega
                clear hin hf hjk
                go_wp2_with fail
                refine (show Calls _ _ _ _ _ from HDE.out).mono ?_
                rintro e w3 ⟨rfl, F3, hd3, hm3⟩
                have HD3 : Hid (DI w3 d F3 (deleteD D k)) := hd3
                have HK3 : Hid (w3.ownsRow w.heap.size 9 1 (.slice KP kl.length KC) kl.length (keyV kl)) := own_moved HSW.out.di hm3 HSW.out.ok (Or.inl rfl)
                have HV3 : Hid (w3.ownsRow w.heap.size 3 1 (.slice VP kl.length VC) kl.length (rowN kl)) := own_moved HSW.out.di hm3 HSW.out.ov (Or.inr rfl)
                have HF3 : Hid (∀ q ∈ F3, w.heap.size ≤ q) := hm3.ge HSW.out.fs HSW.out.below.size
                have HB3 : Hid (Below w.heap.size w w3) := HSW.out.below.trans (hm3.below HSW.out.fs HSW.out.below.size)
                have HPE3 : Hid ((deleteD D k).all.Perm ((kl.set j (kl[kl.length - 1]'(by omega))).take (kl.length - 1))) := by
                  obtain ⟨v0, r1⟩ := HDK.out.hit rfl
                  exact (rest_perm HSW.out.inv HSW.out.perm r1 hjl HJK.out).trans (swap_at kl j hjl).symm
                have HIN3 : Hid _ := HDK.out.inv
                clear hd3 hm3 y0 y1 y2
                generalize deleteD D k = S at *
                obtain ⟨K, kc, hck, _⟩ := HSW.out.key (by omega)
                injection hck with hk1 hk2 hk3
                subst hk1; subst hk3
                obtain ⟨V, vc, hcv, _⟩ := HSW.out.val (by omega)
                injection hcv with hk4 hk5 hk6
                subst hk4; subst hk6
                obtain ⟨m, hm⟩ : ∃ m, kl.length - 1 = m := ⟨_, rfl⟩
                have hml : m < kl.length := by omega
                have hKC : kl.length ≤ KC := by
                  rcases HK3.out.2 with ⟨e, _⟩ | ⟨_, _, _, e, _, _, q, _⟩
                  · cases e
                  · injection e with _ _ e3; subst e3; exact q
                have hVC : kl.length ≤ VC := by
                  rcases HV3.out.2 with ⟨e, _⟩ | ⟨_, _, _, e, _, _, q, _⟩
                  · cases e
                  · injection e with _ _ e3; subst e3; exact q
                have hkm : w3.cell? ⟨K, m, none⟩ = some (.string kl[m].1) := by
                  rw [HK3.out.cellAt m (by omega)]
                  unfold keyV; rw [List.getElem?_map, List.getElem?_eq_getElem hml]; rfl
                have hkj : w3.cell? ⟨K, j, none⟩ = some (.string kl[j].1) := by
                  rw [HK3.out.cellAt j (by omega)]
                  unfold keyV; rw [List.getElem?_map, List.getElem?_eq_getElem hjl]; rfl
                have hkf : ∀ q, w3.frozen? ⟨K, q, none⟩ = false := fun q => HK3.out.frozenAt q
                obtain ⟨s1, s2⟩ := HK3.out.stored j (.string kl[m].1)
                obtain ⟨W4, hW4⟩ : ∃ W4, W4 = w3.setCell ⟨K, j, none⟩ (.string kl[m].1) := ⟨_, rfl⟩
                rw [← hW4] at s1 s2
                have HK4 : Hid (W4.ownsRow w.heap.size 9 1 (.slice (some ⟨K, 0, none⟩) kl.length KC) kl.length ((keyV kl).set j (.string kl[m].1))) := s1
                have HV4 : Hid (W4.ownsRow w.heap.size 3 1 (.slice (some ⟨V, 0, none⟩) kl.length VC) kl.length (rowN kl)) := own_other HV3.out HK3.out (by decide) s2
                have HD4 : Hid (DI W4 d F3 S) := HD3.out.grown HK3.out (Or.inl rfl) s2
                have HB4 : Hid (Below w.heap.size w W4) := HB3.out.grown s2 HB3.out.size (fun q hq => (World.ownsRow.lt HK3.out q hq).1)
                have hz7 : (0 : Int) ≤ (m : Int) := by omega
                have hz8 : (m : Int) < (kl.length : Int) := by omega
                have hz9 : (j : Int) < (kl.length : Int) := by omega
                have hmw : IntKind.i64.wrap ((kl.length : Int) - 1) = (m : Int) := by rw [IntKind.wrap_i64] <;> omega
                have hmw2 : (kl.length : Int) - 1 = (m : Int) := by omega
                have HPE4 : Hid (S.all.Perm ((kl.set j kl[m]).take m)) := by
                  have q := HPE3.out
                  simp only [hm] at q
                  exact q
                clear hm s1 s2 hk2 hk5 HPE3
                have HKX : Hid ((keyV kl).set j (.string kl[m].1) = keyV (kl.set j kl[m])) := (keyV_set2 kl j kl[m]).symm
                have HVX : Hid ((rowN kl).set j (.int .i64 kl[m].2) = rowN (kl.set j kl[m])) := (rowN_set kl j kl[m]).symm
                have hvm : W4.cell? ⟨V, m, none⟩ = some (.int .i64 kl[m].2) := by
                  rw [HV4.out.cellAt m (by omega)]
                  unfold rowN; rw [List.getElem?_map, List.getElem?_eq_getElem hml]; rfl
                have hvj : W4.cell? ⟨V, j, none⟩ = some (.int .i64 kl[j].2) := by
                  rw [HV4.out.cellAt j (by omega)]
                  unfold rowN; rw [List.getElem?_map, List.getElem?_eq_getElem hjl]; rfl
                have hvf : ∀ q, W4.frozen? ⟨V, q, none⟩ = false := fun q => HV4.out.frozenAt q
                obtain ⟨s1, s2⟩ := HV4.out.stored j (.int .i64 kl[m].2)
                obtain ⟨W5, hW5⟩ : ∃ W5, W5 = W4.setCell ⟨V, j, none⟩ (.int .i64 kl[m].2) := ⟨_, rfl⟩
                rw [← hW5] at s1 s2
                have HMS : Hid (MapSt w W5 d F3 S ((kl.set j kl[m]).take m) (.slice (some ⟨K, 0, none⟩) m KC) (.slice (some ⟨V, 0, none⟩) m VC)) := by
                  have q1 := own_other HK4.out HV4.out (by decide) s2
                  have hlen : ((kl.set j kl[m]).take m).length = m := by rw [List.length_take, List.length_set]; omega
                  refine ⟨HIN3.out, HD4.out.grown HV4.out (Or.inr rfl) s2, HPE4.out, HF3.out, ?_, ?_, HB4.out.grown s2 HB4.out.size (fun q hq => (World.ownsRow.lt HV4.out q hq).1)⟩
                  · rw [hlen, keyV_take, ← HKX.out]; exact own_take q1 (by omega)
                  · rw [hlen, rowN_take, ← HVX.out]; exact own_take s1 (by omega)
                have HLN : Hid (((kl.set j kl[m]).take m).length = m) := by show _ = _; rw [List.length_take, List.length_set]; omega
                clear s1 s2 HKX HVX HPE4
                generalize (kl.set j kl[m]).take m = KL at *
                generalize kl[m].1 = XS at *
                generalize kl[m].2 = XN at *
                generalize kl[j].1 = YS at *
                generalize kl[j].2 = YN at *
                go_upto_region 30 with fail
                rw [← hW4]
                clear hW4 hkm hkj hkf
                go_upto_region 31 with fail
                rw [← hW5]
                clear hW5 hvm hvj hvf
                have hmk : (m : Int) ≤ (KC : Int) := by omega
                have hmv : (m : Int) ≤ (VC : Int) := by omega
                go_wp2
                go_roundw
                case rel => exact ⟨i + 1, S, F3, KL, hlt, by simp, by rw [HLN.out]; omega, HMS.out⟩
                case measure => simp [intOf]; omega
            · have hk1' : (kd == 1) = false := by simpa using hk1
              clear HSE HSK HDE HDK
              go_wp2
              go_roundw
              case rel => exact ⟨i + 1, D, F, kl, hlt, by simp, by omega, HSW.out⟩
              case measure => simp [intOf]; omega
    · have hie : i = len := by omega
      subst hie
      have hcnt : cnt D.T1 + cnt D.T2 = kl.length := by rw [← DS.all_len]; exact hst.perm.length_eq
      have HKY : Hid _ := Keys_any d F D hst.inv (by omega) wr hst.di
      have HCN : Hid _ := hcnt
      clear hcnt hst
      go_wp2_with fail
      refine (show Calls _ _ _ _ _ from HKY.out).mono ?_
      rintro e w5 ⟨kv, rfl, hkn, hko, hb5⟩
      have HS5 : Hid (MapSt w w5 d F D kl (.slice KP kl.length KC) (.slice VP kl.length VC)) := HST.out.on hb5
      have HLN : Hid _ := Len_all d F D (by have := HCN.out; omega) w5 HS5.out.di
      rw [HCN.out] at HLN
      have HSR : Hid (StrRow w5 kv ((keysS D).map strB)) := StrRow.of_own hko rfl
      have hkl2 : (keysS D).length = kl.length := by rw [keysS_len]; exact HCN.out
      obtain ⟨kad, kcp, rfl, hkc⟩ := HSR.out
      rw [List.length_map, hkl2]
      have HKC : Hid (∀ t (ht : t < kl.length), ∃ g o, kad = some ⟨g, o, none⟩ ∧ ∃ h' : t < (keysS D).length, w5.cell? ⟨g, o + t, none⟩ = some (.string (strB (keysS D)[t]))) := fun t ht => by
        have h' : t < (keysS D).length := by omega
        obtain ⟨g, o, e1, e2⟩ := hkc (fun e => by have := congrArg List.length e; simp at this; rw [this] at h'; simp at h')
        refine ⟨g, o, e1, h', ?_⟩
        have := e2 t (by simpa using h')
        rw [List.getElem_map] at this; exact this
      have HRS : Hid (∀ t (ht : t + 1 < (keysS D).length), Op.bytesLess (keysS D)[t] (keysS D)[t + 1] = true) := by
        show ∀ t (ht : t + 1 < (keysS D).length), _
        intro t ht
        exact List.pairwise_iff_getElem.1 (keysS_rise HS5.out.inv) t (t + 1) (by omega) ht (by omega)
      clear hkn hko hb5 hkc HSR
      go_wp2_with fail
      refine (show Calls _ _ _ _ _ from HLN.out).mono ?_
      rintro e w6 ⟨rfl, kq, hkq⟩
      have hb6 : Below w5.heap.size w5 w6 := by rw [hkq]; exact below_dn (Below.refl _ _) kq
      have HB6 : Hid (Below w5.heap.size w5 w6) := hb6
      clear hb6 hkq
      go_wp2
      go_loopw [14] (fun ci wr => Below w5.heap.size w5 wr ∧ ∃ t : Nat, t ≤ kl.length ∧ ci = .int .i64 (t : Int)) (fun ci _ => kl.length - (intOf ci).toNat)
      case atStart => exact ⟨HB6.out, 0, Nat.zero_le _, rfl⟩
      case round =>
        obtain ⟨hbt, t, ht, rfl⟩ := hrel
        have HBT : Hid (Below w5.heap.size w5 wr) := hbt
        by_cases htl : t < kl.length
        · obtain ⟨gk, ok, rfl, hkt, hct⟩ := HKC.out t htl
          have c1 := cell_on hct hbt
          have hz3 : (0 : Int) ≤ (t : Int) := by omega
          have hz4 : (t : Int) < (kl.length : Int) := by omega
          have htw : IntKind.i64.wrap ((t : Int) + 1) = (t : Int) + 1 := by rw [IntKind.wrap_i64] <;> omega
          rcases Nat.eq_zero_or_pos t with h0 | h0
          · subst h0
            clear hct hbt c1
            go_wp2_with fail
            go_quiet (fail)
            have HB2 : Hid (Below w5.heap.size w5 (wr.drewN nq)) := below_dn HBT.out nq
            go_wp2
            go_roundw
            case rel => exact ⟨HB2.out, 1, htl, rfl⟩
            case measure => simp [intOf]; omega
          · obtain ⟨s, rfl⟩ : ∃ s, t = s + 1 := ⟨t - 1, by omega⟩
            obtain ⟨gk2, ok2, he2, hks2, hcs⟩ := HKC.out s (by omega)
            injection he2 with he2
            injection he2 with e1 e2 _
            subst e1; subst e2
            have c0 := cell_on hcs hbt
            have hbl : Op.bytesLess (strB (keysS D)[s]).toList (strB (keysS D)[s + 1]).toList = true := by
              rw [ByteArray.toList_eq, ByteArray.toList_eq, strB_list, strB_list]
              exact HRS.out s hkt
            have hsw : IntKind.i64.wrap (((s + 1 : Nat) : Int) - 1) = (s : Int) := by rw [IntKind.wrap_i64] <;> omega
            have hs0 : (0 : Int) < ((s + 1 : Nat) : Int) := by omega
            have hz5 : (0 : Int) ≤ (s : Int) := by omega
            have hz6 : (s : Int) < (kl.length : Int) := by omega
            have hzs : s < kl.length := by omega
            generalize strB (keysS D)[s] = X at *
            generalize strB (keysS D)[s + 1] = Y at *
            obtain ⟨t1, ht1⟩ : ∃ t1, s + 1 = t1 := ⟨_, rfl⟩
            rw [ht1] at htl hct c1 hz3 hz4 htw hkt hsw hs0 h0 ht ⊢
            have hg1 : decide ((0 : Int) < (t1 : Int)) = true := by simpa using hs0
            have hg2 : decide (0 < t1) = true := by simpa using h0
            have hs2 : (t1 : Int) - 1 = (s : Int) := by omega
            have HT1 : Hid _ := ht1
            clear ht1
            clear hct hcs hbt hkt
            go_wp2_with fail
            go_quiet (fail)
            have HB2 : Hid (Below w5.heap.size w5 (wr.drewN nq)) := below_dn HBT.out nq
            go_wp2
            go_roundw
            case rel => exact ⟨HB2.out, t1 + 1, htl, by simp⟩
            case measure => simp [intOf]; omega
        · clear hbt
          go_wp2
          go_loopw [15] (fun ci W => Below w5.heap.size w5 W ∧ ∃ t : Nat, t ≤ kl.length ∧ ci = .int .i64 (t : Int)) (fun ci _ => kl.length - (intOf ci).toNat)
          case atStart => exact ⟨HBT.out, 0, Nat.zero_le _, rfl⟩
          case round =>
            obtain ⟨hbu, u, hu, rfl⟩ := hrel
            have HSU : Hid (MapSt w wr d F D kl (.slice KP kl.length KC) (.slice VP kl.length VC)) := HS5.out.on hbu
            have HBU : Hid (Below w5.heap.size w5 wr) := hbu
            clear hbu
            by_cases hul : u < kl.length
            · obtain ⟨K, kc, hck, hkcells⟩ := HSU.out.key (by omega)
              injection hck with hk1 hk2 hk3
              subst hk1; subst hk3
              obtain ⟨V, vc, hcv, _⟩ := HSU.out.val (by omega)
              injection hcv with hk4 hk5 hk6
              subst hk4; subst hk6
              have c1 := hkcells u hul
              have hmem : (kl[u].1, kl[u].2) ∈ kl := List.getElem_mem hul
              have hmD : (kl[u].1, kl[u].2) ∈ D.all := HSU.out.perm.mem_iff.2 hmem
              have HGE : Hid _ := Get_yes d F D HSU.out.inv kl[u].1 (HSU.out.inv.keys _ hmD) (by have := HCN.out; omega) ((all_keys HSU.out.inv _).2 (List.mem_map.2 ⟨_, hmD, rfl⟩)) wr HSU.out.di
              have HON : Hid (∀ v, (kl[u].1, v) ∈ D.all → v = kl[u].2) := fun v hv => one_val HSU.out.inv.nd hv hmD
              have HVC : Hid (∀ W, Below wr.heap.size wr W → W.cell? ⟨V, u, none⟩ = some (.int .i64 kl[u].2)) := fun W hW => by
                obtain ⟨V', vc', e, hc⟩ := (HSU.out.on hW).val (by omega)
                injection e with e1 _ _
                injection e1 with e1
                injection e1 with e1 _ _
                subst e1; exact hc u hul
              have hz3 : (0 : Int) ≤ (u : Int) := by omega
              have hz4 : (u : Int) < (kl.length : Int) := by omega
              have huw : IntKind.i64.wrap ((u : Int) + 1) = (u : Int) + 1 := by rw [IntKind.wrap_i64] <;> omega
              clear hkcells hk2 hk5 hmem hmD
              generalize kl[u].1 = X at *
              generalize kl[u].2 = Y at *
              go_wp2_with fail
              refine (show Calls _ _ _ _ _ from HGE.out).mono ?_
              rintro e w7 ⟨⟨v, rfl, hv⟩, hb7⟩
              have hvY := HON.out v hv
              subst hvY
              have c2 := HVC.out w7 hb7
              have HB7 : Hid (Below w5.heap.size w5 w7) := HBU.out.trans (hb7.mono HBU.out.size)
              clear hv hb7 c1
              go_wp2
              go_roundw
              case rel => exact ⟨HB7.out, u + 1, hul, by simp⟩
              case measure => simp [intOf]; omega
            · go_wp2
              go_returns
              exact ⟨rfl, HSU.out.below⟩
end Go.Proofs.Ytdemodhjlbkbeaa
namespace Go.Proofs.Ytdemodhjlbkbeaa
open Go.RowKit
set_option linter.unusedVariables false
/-- 'append(met, l...)' of two rows of texts. -/
theorem wpList_append_two {w : World} {ops : Array Oper} {rest : List Oper} {o : Oper} {a : Act} {Q : Exit → Act → World → Prop} (hg : o.guard = none) (s x : Operand)
    (hop : o.op = Op.call { callee := Callee.builtin Builtin.append, args := #[s, x], argTypes := #[28, 28] })
    (base base' : Nat) (v : Value) (n : Nat) (xs : List Value) (hs : a.eval s = v) (hown : w.ownsRow base 9 1 v n xs) (r : Value) (m : Nat) (M : List Ent) (hx : a.eval x = r) (hr : w.ownsRow base' 9 1 r m (keyV M))
    (hl : n + m ≤ 8796093022208) (hb : base ≤ w.heap.size)
    (h : ∀ v' w', w'.ownsRow base 9 1 v' (n + m) (xs ++ keyV M) → Grew w w' v v' → wpList Try.prog ops Q rest (a.put o.dst v') w') :
    wpList Try.prog ops Q (o :: rest) a w := by
  obtain ⟨i0, hi, hz0, hz1, hz2⟩ := info_parts info9
  have hlen := hr.1
  rcases hr.2 with ⟨rfl, h0⟩ | ⟨g, cap, cur, rfl, hbg, hgr, q⟩
  · subst h0
    refine wpList_append_own_none hg s x 28 hop base 9 i0 1 Try.underlying28 hi v n xs hs hown hx ?_
    have hM : keyV M = [] := List.length_eq_zero_iff.1 (by simpa using hlen)
    exact h v w (by rw [hM, List.append_nil]; exact hown) (Grew.refl _ _)
  · refine wpList_append_own_at w hg s x 28 hop base 9 i0 (.string ⟨#[]⟩) 1 16 Try.underlying28 hi hz0 hz1 hz2 rfl (by decide) v n xs hs hown ⟨g, 0, none⟩ m cap (keyV M) hx hlen ?_ ?_ (by unfold maxLen; omega) (by omega) hb ?_
    · intro j u hj
      exact World.ownsRow.cells hr (g := g) rfl j u hj
    · intro u hu
      unfold keyV at hu
      obtain ⟨e, _, rfl⟩ := List.mem_map.1 hu
      rfl
    · intro v' w' ho hgw hnil hat
      refine h v' w' ho ⟨hgw, ?_, fun hn e => hn (hnil.1 e).1⟩
      rcases hat with e | e
      · exact Or.inl e
      · exact Or.inr ⟨_, e, Nat.le_refl _⟩
/-- how far a scan of a dict that stays has come. -/
def Cov (D : DS) (met : List Ent) (c : Nat) : Prop := (D.T1 = [] ∧ met = [] ∧ c = 0) ∨ (D.T1 ≠ [] ∧ c < 2 ^ aD D ∧ met.Perm (D.all.filter (inR D 0 (Rj (aD D) c))))
theorem Cov.zero {D : DS} (h : DInv D) : Cov D [] 0 := by
  by_cases hne : D.T1 = []
  · exact Or.inl ⟨hne, rfl, rfl⟩
  · have hs := shape h hne
    have := hs.a42
    refine Or.inr ⟨hne, Nat.two_pow_pos _, ?_⟩
    rw [Rj_zero _ (by omega)]
    have : D.all.filter (inR D 0 0) = [] := by
      rw [List.filter_eq_nil_iff]; intro x _ hx; simp [inR] at hx
    rw [this]
theorem Cov.step {D : DS} (h : DInv D) (hne : D.T1 ≠ []) {met : List Ent} {c : Nat} (hc : Cov D met c) {n : Int} {t : Nat} (hs : ScanIs D c n t) :
    (itN (aD D) t c = 0 ∧ (met ++ visN D c t).Perm D.all) ∨ (itN (aD D) t c ≠ 0 ∧ Cov D (met ++ visN D c t) (itN (aD D) t c) ∧ Rj (aD D) c < Rj (aD D) (itN (aD D) t c)) := by
  have hsh := shape h hne
  have ha := hsh.a42
  rcases hc with ⟨e, _⟩ | ⟨_, hclt, hp⟩
  · exact absurd e hne
  have hpos := hs.pos
  obtain ⟨s, rfl⟩ : ∃ s, t = s + 1 := ⟨t - 1, by omega⟩
  have hle := hs.le
  have hz := it_zero (a := aD D) (by omega) c s hle
  obtain ⟨_, _, _, hv⟩ := visN_ok h hne c (s + 1) hle
  have hjoin : (met ++ visN D c (s + 1)).Perm (D.all.filter (inR D 0 (Rj (aD D) c + (s + 1)))) := by
    refine (List.Perm.append hp (hv hclt)).trans (filter_split _ _ _ _ (fun x => ?_) (fun x hx => ?_)).symm
    · unfold inR
      rw [Bool.eq_iff_iff]
      simp only [Bool.and_eq_true, Bool.or_eq_true, decide_eq_true_eq]
      omega
    · unfold inR at *
      simp only [Bool.and_eq_true, decide_eq_true_eq] at hx
      rw [Bool.and_eq_false_iff]
      left
      simp only [decide_eq_false_iff_not]; omega
  by_cases he : Rj (aD D) c + (s + 1) = 2 ^ aD D
  · left
    refine ⟨hz.2 he, hjoin.trans ?_⟩
    rw [List.filter_eq_self.2 (fun x _ => ?_)]
    unfold inR
    simp only [Bool.and_eq_true, decide_eq_true_eq]
    rw [he]
    exact ⟨Nat.zero_le _, Rj_lt _ (by omega) _⟩
  · right
    have hR := itN_R (aD D) (by omega) c (s + 1)
    rw [Nat.mod_eq_of_lt (by omega)] at hR
    exact ⟨fun e => he (hz.1 e), Or.inr ⟨hne, itN_lt _ (by omega) c s, by rw [hR]; exact hjoin⟩, by rw [hR]; omega⟩
theorem Scan_cov (g : Nat) (F : List Nat) (D : DS) (hD : DInv D) (hcc : cnt D.T1 + cnt D.T2 ≤ 4398046511000) (met : List Ent) (c : Nat) (hcov : Cov D met c) (n : Int) (hn : -9223372036854775808 ≤ n ∧ n ≤ 9223372036854775807) (w : World) (h : DI w g F D) :
    Calls Try.prog 19 #[.pointer (some ⟨g, 0, none⟩), .int .i64 (c : Int), .int .i64 n] w fun e w' => ∃ (M : List Ent) (r : Value) (c' : Nat), e = .returned (.tuple #[r, .int .i64 (c' : Int)]) ∧ w'.ownsRow w.heap.size 9 1 r M.length (keyV M) ∧ Below w.heap.size w w' ∧ M.length ≤ cnt D.T1 + cnt D.T2 ∧ c' ≤ 9223372036854775807 ∧ ((c' = 0 ∧ (met ++ M).Perm D.all) ∨ (c' ≠ 0 ∧ Cov D (met ++ M) c' ∧ Rj (aD D) c < Rj (aD D) c')) := by
  by_cases hne : D.T1 = []
  · obtain ⟨_, e1, e2⟩ | ⟨h1, _⟩ := hcov
    · subst e1; subst e2
      have hall : D.all = [] := by
        have h2 : D.T2 = [] := Decidable.byContradiction fun hm => T1_ne hD hm hne
        unfold DS.all; rw [hne, h2]; rfl
      refine (Scan_none g F D hne (0 : Nat) n w h).mono ?_
      rintro e w' ⟨rfl, rfl⟩
      exact ⟨[], .slice none 0 0, 0, rfl, ⟨rfl, Or.inl ⟨rfl, rfl⟩⟩, Below.refl _ _, by simp, by omega, Or.inl ⟨rfl, by rw [hall]; exact List.Perm.refl _⟩⟩
    · exact absurd hne h1
  · have hcl : c < 2 ^ aD D := by
      rcases hcov with ⟨e, _⟩ | ⟨_, h1, _⟩
      · exact absurd e hne
      · exact h1
    have ha := (shape hD hne).a42
    have hp : 2 ^ aD D ≤ 2 ^ 42 := Nat.pow_le_pow_right (by omega) ha
    refine (Scan_any g F D hD hne hcc c (by omega) n hn w h).mono ?_
    rintro e w' ⟨t, r, hs, rfl, ho, hb⟩
    refine ⟨visN D c t, r, itN (aD D) t c, rfl, ho, hb, visN_cnt hD hne c t hs.le, itN_le _ ha c t (by omega), hcov.step hD hne hs⟩
theorem keyV_map (M : List Ent) : keyV M = (M.map fun e => e.1.data.toList).map encStr := keyV_enc M
theorem met_has {D : DS} {met : List Ent} (hp : met.Perm D.all) {K : List UInt8} (hk : K ∈ keysS D) : inB ((met.map fun e => e.1.data.toList).map strB) (strB K) = true := by
  refine (inB_iff _ _).2 ?_
  have h1 := (keysS_perm D).mem_iff.1 hk
  unfold keyB at h1
  obtain ⟨x, hx, rfl⟩ := List.mem_map.1 h1
  exact List.mem_map.2 ⟨_, List.mem_map.2 ⟨x, hp.mem_iff.2 hx, rfl⟩, rfl⟩
theorem sm_le {D : DS} (h : DInv D) (hne : D.T1 ≠ []) : 2 ^ aD D ≤ max D.T1.length D.T2.length := by
  rw [← (shape h hne).sl]
  rcases sm_or D with e | e <;> rw [e] <;> omega
set_option maxHeartbeats 8000000 in
set_option maxRecDepth 100000 in
theorem Ends_walk (seed : Int) (ad : Option Addr) (g0 off len cap : Nat) (nn : Int) (w : World) (hA : len ≠ 0 → ad = some ⟨g0, off, none⟩) (hL : len ≤ 4398046510976) (hO : ∀ i, i < len → ∃ kd k n, OpAt w g0 off i kd k n) (hw2 : (Lit.int .i64 nn).wf = true) :
    Calls Try.prog 6 #[.int .i64 seed, .slice ad len cap, .int .i64 nn] w fun e w' => e = .returned (.bool true) ∧ Below w.heap.size w w' := by
  have hnn : -9223372036854775808 ≤ nn ∧ nn ≤ 9223372036854775807 := by
    simp [Lit.wf, IntKind.min, IntKind.max, IntKind.signed, IntKind.bits] at hw2; omega
  have HNW : Hid _ := New_any seed w
  have HWK : Hid _ := works_any
  have HO : Hid _ := hO
  have HA : Hid _ := hA
  clear hO hA hw2
  go_enter Try.func6, Try.ntmps6
  go_wp2_with fail
  refine (show Calls _ _ _ _ _ from HNW.out).mono ?_
  rintro e w1 ⟨rfl, hd1, hb1⟩
  have HD1 : Hid (DI w1 w.heap.size [w.heap.size] ⟨seed, [], [], 0⟩) := hd1
  have HB1 : Hid (Below w.heap.size w w1) := hb1
  clear hd1 hb1
  go_wp2_with fail
  refine (show Calls _ _ _ _ _ from HWK.out _).mono ?_
  rintro e w2 ⟨rfl, hb2⟩
  have HD2 : Hid (DI w2 w.heap.size [w.heap.size] ⟨seed, [], [], 0⟩) := HD1.out.on hb2
  have HB2 : Hid (Below w.heap.size w w2) := bel_to HB1.out hb2 (Nat.le_refl _)
  clear hb2 HD1 HB1
  obtain ⟨d, hd⟩ : ∃ d, w.heap.size = d := ⟨_, rfl⟩
  have HDD : Hid (w.heap.size = d) := hd
  rw [hd] at HD2
  rw [hd]
  clear hd
  go_wp2
  go_loopw [8] (fun ci wr => ∃ (i : Nat) (D : DS) (F : List Nat), i ≤ len ∧ ci = .int .i64 (i : Int) ∧ DInv D ∧ DI wr d F D ∧ cnt D.T1 + cnt D.T2 ≤ i ∧ (∀ q ∈ F, w.heap.size ≤ q) ∧ Below w.heap.size w wr) (fun ci _ => len - (intOf ci).toNat)
  case atStart => exact ⟨0, _, [d], Nat.zero_le _, rfl, newD_ok seed, HD2.out, by simp [cnt], by simp [HDD.out], HB2.out⟩
  case round =>
    obtain ⟨i, D, F, hi, rfl, hI, hdi, hcn, hF, hbr⟩ := hrel
    have HI : Hid (DInv D) := hI
    have HDI : Hid (DI wr d F D) := hdi
    have HF : Hid (∀ q ∈ F, w.heap.size ≤ q) := hF
    have HBR : Hid (Below w.heap.size w wr) := hbr
    clear hI hdi hF hbr
    by_cases hlt : i < len
    · have had := HA.out (by omega)
      subst had
      obtain ⟨kd, k, n, hop⟩ := HO.out i hlt
      have hop2 := hop.under HBR.out hop.lt
      have e0 := hop2.a
      have e1 := hop2.b
      have e2 := hop2.c
      have hks := hop2.k
      have HCH : Hid _ := changed_any d F D HI.out (.slice none 0 0) [] (by simp) kd k (by omega) n (by omega) wr (StrRow.nil wr) (fun W _ => StrRow.nil W) HDI.out
      have HCK : Hid _ := chgD_ok HI.out [] kd k (by omega) n (by omega)
      have hz3 : (0 : Int) ≤ (i : Int) := by omega
      have hz4 : (i : Int) < (len : Int) := by omega
      clear hop hop2
      go_wp2_with fail
      refine (show Calls _ _ _ _ _ from HCH.out).mono ?_
      rintro e w3 ⟨rfl, F3, hd3, hm3⟩
      obtain ⟨k1, k2⟩ := HCK.out
      have HF3 : Hid (∀ q ∈ F3, w.heap.size ≤ q) := hm3.ge HF.out HBR.out.size
      have HB3 : Hid (Below w.heap.size w w3) := HBR.out.trans (hm3.below HF.out HBR.out.size)
      have HI3 : Hid _ := k1
      clear e0 e1 e2 hm3 k1 HCH HCK
      generalize chgD D [] kd k n = S at *
      have HD3 : Hid (DI w3 d F3 S) := hd3
      clear hd3
      go_wp2
      go_roundw
      case rel => exact ⟨i + 1, S, F3, hlt, by simp, HI3.out, HD3.out, by omega, HF3.out, HB3.out⟩
      case measure => simp [intOf]; omega
    · have hie : i = len := by omega
      subst hie
      have HTB : Hid _ := Tables_all d F D wr HDI.out
      have hcS : cnt D.T1 + cnt D.T2 ≤ 4398046511000 := by omega
      obtain ⟨ta, tb, tc, htab, hta, htc, hsz⟩ : ∃ (ta tb : Nat) (tc : Int), tabT D = .tuple #[.int .i64 (ta : Int), .int .i64 (tb : Int), .int .i64 tc] ∧ (D.T1 ≠ [] → 2 ^ aD D ≤ max ta tb) ∧ (tc < 0 ∨ 0 ≤ tc) ∧ ta ≤ 4398046511104 ∧ tb ≤ 4398046511104 := by
        by_cases hm : D.T2 = []
        · refine ⟨D.T1.length, 0, -1, tabT_still hm, fun hne => ?_, Or.inl (by omega), HI.out.sz1, by omega⟩
          have := sm_le HI.out hne
          rw [hm] at this; simpa using this
        · exact ⟨D.T1.length, D.T2.length, D.ix, tabT_move hm, fun hne => sm_le HI.out hne, Or.inr (by omega), HI.out.sz1, HI.out.sz2⟩
      rw [htab] at HTB
      have HTA : Hid _ := hta
      clear htab hta
      go_wp2_with fail
      refine (show Calls _ _ _ _ _ from HTB.out).mono ?_
      rintro e w4 ⟨rfl, kq, hkq⟩
      have hb4 : Below wr.heap.size wr w4 := by rw [hkq]; exact below_dn (Below.refl _ _) kq
      have HB4 : Hid (Below w.heap.size w w4) := HBR.out.trans (hb4.mono HBR.out.size)
      have HD4 : Hid (DI w4 d F D) := HDI.out.on hb4
      clear hb4 hkq
      go_wp2
      go_loopw [14, 13, 12] (fun ci cz cm wx => ∃ (j cu : Nat) (met : List Ent), ci = .int .i64 (j : Int) ∧ cz = .int .i64 (cu : Int) ∧ cu ≤ 9223372036854775807 ∧ Cov D met cu ∧ j ≤ Rj (aD D) cu ∧ (D.T1 = [] → j = 0) ∧ wx.ownsRow w4.heap.size 9 1 cm met.length (keyV met) ∧ Below w4.heap.size w4 wx) (fun ci _ _ _ => 4398046511104 - (intOf ci).toNat)
      case atStart => exact ⟨0, 0, [], rfl, rfl, by omega, Cov.zero HI.out, by omega, fun _ => rfl, ⟨rfl, Or.inl ⟨rfl, rfl⟩⟩, Below.refl _ _⟩
      case round =>
        obtain ⟨j, cu, met, rfl, rfl, hcu, hcov, hjR, hj0, hom, hbx⟩ := hrel
        have hlen : met.length ≤ cnt D.T1 + cnt D.T2 := by
          rcases hcov with ⟨_, e, _⟩ | ⟨_, _, hp⟩
          · rw [e]; exact Nat.zero_le _
          · rw [hp.length_eq, ← DS.all_len]; exact List.length_filter_le _ _
        have hjm : (j : Int) < max (max 1 (ta : Int)) (tb : Int) := by
          by_cases hne : D.T1 = []
          · rw [hj0 hne]; omega
          · have := HTA.out hne
            have := Rj_lt (aD D) (by have := (shape HI.out hne).a42; omega) cu
            omega
        have hjb : j < 4398046511104 := by omega
        have HBX : Hid (Below w4.heap.size w4 wr) := hbx
        have HOM : Hid (wr.ownsRow w4.heap.size 9 1 _ met.length (keyV met)) := hom
        have HDX : Hid (DI wr d F D) := HD4.out.on hbx
        have HSC : Hid _ := Scan_cov d F D HI.out hcS met cu hcov nn hnn wr HDX.out
        have HJR : Hid (j ≤ Rj (aD D) cu) := hjR
        obtain ⟨P8, k8, hkf⟩ := own_form hom
        subst hkf
        clear hcov hom hbx hjR hj0
        have HLEN : Hid _ := hlen
        clear hlen
        go_wp2_with fail
        all_goals
          refine (show Calls _ _ _ _ _ from HSC.out).mono ?_
          rintro e w5 ⟨M, r5, c5, rfl, ho5, hb5, hM5, hc5, hcase⟩
          have HO5 : Hid (w5.ownsRow wr.heap.size 9 1 r5 M.length (keyV M)) := ho5
          have HOM5 : Hid (w5.ownsRow w4.heap.size 9 1 (.slice P8 met.length k8) met.length (keyV met)) := own_keep HOM.out (fun q _ hq => hb5.block q hq)
          have HB5 : Hid (Below w4.heap.size w4 w5) := HBX.out.trans (hb5.mono HBX.out.size)
          have HD5 : Hid (DI w5 d F D) := HDX.out.on hb5
          obtain ⟨P9, k9, hkf9⟩ := own_form ho5
          subst hkf9
          have HCS : Hid _ := hcase
          have HM5 : Hid _ := hM5
          clear ho5 hb5 hcase hM5
          go_upto_region 15 with fail
          go_wp2_with (at_builtin; go_must (refine wpList_append_two rfl _ _ rfl w4.heap.size wr.heap.size _ _ _ rfl HOM5.out _ M.length M rfl HO5.out ?p1 ?p2 ?_))
          case p1 => have := HLEN.out; have := HM5.out; omega
          case p2 => exact HB5.out.size
          intro v6 w6 ho6 hg6
          have HO6 : Hid (w6.ownsRow w4.heap.size 9 1 v6 (met ++ M).length (keyV (met ++ M))) := by
            show World.ownsRow _ _ _ _ _ _ _
            rw [keyV_app, List.length_append]; exact ho6
          have HD6 : Hid (DI w6 d F D) := hg6.di HD5.out (fun q hq e => HD5.out.apart HOM5.out (Or.inl rfl) q e hq)
          have HB6 : Hid (Below w4.heap.size w4 w6) := HB5.out.trans (hg6.below HB5.out.size (fun q hq => (World.ownsRow.lt HOM5.out q hq).1))
          clear ho6 hg6
          by_cases hc0 : c5 = 0
          · subst hc0
            have HPE : Hid ((met ++ M).Perm D.all) := by
              rcases HCS.out with ⟨_, h⟩ | ⟨h, _⟩
              · exact h
              · exact absurd rfl h
            have HKY : Hid _ := Keys_any d F D HI.out hcS w6 HD6.out
            obtain ⟨P6, k6, hkf6⟩ := own_form HO6.out
            subst hkf6
            have HSR : Hid (StrRow w6 (.slice P6 (met ++ M).length k6) (((met ++ M).map fun e => e.1.data.toList).map strB)) := by
              have q := HO6.out
              rw [keyV_map] at q
              exact StrRow.of_own q (by simp)
            have HLM : Hid ((met ++ M).length = (keysS D).length) := by show _ = _; rw [HPE.out.length_eq, keysS_len, DS.all_len]
            have HLC : Hid ((keysS D).length ≤ 4398046511000) := by show _ ≤ _; rw [keysS_len]; exact hcS
            obtain ⟨MM, hMM⟩ : ∃ MM, (met ++ M).length = MM := ⟨_, rfl⟩
            rw [hMM] at HSR HLM ⊢
            have HMM : Hid _ := hMM
            clear hMM
            go_wp2_with fail
            refine (show Calls _ _ _ _ _ from HKY.out).mono ?_
            rintro e w7 ⟨kv, rfl, hkn, hko, hb7⟩
            have HB7 : Hid (Below w6.heap.size w6 w7) := hb7
            have HSK : Hid (StrRow w7 kv ((keysS D).map strB)) := StrRow.of_own hko rfl
            obtain ⟨kad, kcp, rfl, hkc⟩ := HSK.out
            rw [List.length_map]
            have HKC : Hid _ := hkc
            obtain ⟨KN, hKN⟩ : ∃ KN, (keysS D).length = KN := ⟨_, rfl⟩
            have HKN : Hid _ := hKN
            rw [hKN] at HLM HLC ⊢
            have hKb := HLC.out
            have hMK := HLM.out
            subst hMK
            clear hkn hko hb7 hkc hKN HSK
            go_wp2
            go_loopw [18] (fun ci wx => Below w7.heap.size w7 wx ∧ ∃ u : Nat, u ≤ MM ∧ ci = .int .i64 (u : Int)) (fun ci _ => MM - (intOf ci).toNat)
            case atStart => exact ⟨Below.refl _ _, 0, Nat.zero_le _, rfl⟩
            case round =>
              obtain ⟨hbu, u, hu, rfl⟩ := hrel
              have HBU : Hid (Below w7.heap.size w7 wr) := hbu
              by_cases hul : u < MM
              · have hul2 : u < (keysS D).length := by rw [HKN.out]; exact hul
                obtain ⟨gk, ok, e1, e2⟩ := HKC.out (fun e => by have := congrArg List.length e; simp at this; rw [this] at hul2; simp at hul2)
                subst e1
                have c1 := cell_on (e2 u (by simpa using hul2)) hbu
                rw [List.getElem_map] at c1
                have HIN : Hid (inB (((met ++ M).map fun e => e.1.data.toList).map strB) (strB (keysS D)[u]) = true) := met_has HPE.out (List.getElem_mem hul2)
                have hbw : Below w6.heap.size w6 wr := HB7.out.trans (hbu.mono HB7.out.size)
                have HSW : StrRow wr (.slice P6 MM k6) (((met ++ M).map fun e => e.1.data.toList).map strB) := by
                  obtain ⟨a1, a2, a3, a4⟩ := HSR.out
                  refine ⟨a1, a2, a3, fun hne => ?_⟩
                  obtain ⟨b1, b2, b3, b4⟩ := a4 hne
                  exact ⟨b1, b2, b3, fun q hq => cell_on (b4 q hq) hbw⟩
                have HHA := has_any (.slice P6 MM k6) _ (by have := HMM.out; simp at this ⊢; omega) (strB (keysS D)[u]) wr HSW
                rw [HIN.out] at HHA
                have HHAH : Hid _ := HHA
                have hz5 : (0 : Int) ≤ (u : Int) := by omega
                have hz6 : (u : Int) < (MM : Int) := by omega
                have huw : IntKind.i64.wrap ((u : Int) + 1) = (u : Int) + 1 := by rw [IntKind.wrap_i64] <;> omega
                clear e2 hbu hbw HSW HHA HIN
                generalize strB (keysS D)[u] = X at *
                clear hul2
                go_wp2_with fail
                refine (show Calls _ _ _ _ _ from HHAH.out).mono ?_
                rintro e w8 ⟨rfl, rfl⟩
                go_wp2
                go_roundw
                case rel => exact ⟨HBU.out, u + 1, hul, by simp⟩
                case measure => simp [intOf]; omega
              · have HBF : Hid (Below w.heap.size w wr) := HB4.out.trans ((HB6.out.trans ((HB7.out.trans (hbu.mono HB7.out.size)).mono HB6.out.size)).mono HB4.out.size)
                clear hbu
                rcases htc with htc | htc
                · have htc2 : ¬ (0 : Int) ≤ tc := by omega
                  go_wp2
                  go_returns
                  exact ⟨rfl, HBF.out⟩
                · go_wp2
                  go_returns
                  exact ⟨rfl, HBF.out⟩
          · have hc0e : ((c5 : Int) == 0) = false := by simpa using hc0
            obtain ⟨HCV, HRR⟩ : Hid (Cov D (met ++ M) c5) ∧ Hid (Rj (aD D) cu < Rj (aD D) c5) := by
              rcases HCS.out with ⟨h, _⟩ | ⟨_, h1, h2⟩
              · exact absurd h hc0
              · exact ⟨h1, h2⟩
            have HJ2 : Hid (j + 1 ≤ Rj (aD D) c5) := by have := HJR.out; have := HRR.out; show _ ≤ _; omega
            have HNE : Hid (D.T1 = [] → j + 1 = 0) := fun e => by
              rcases HCV.out with ⟨_, _, h⟩ | ⟨h, _⟩
              · exact absurd h hc0
              · exact absurd e h
            have hjw : IntKind.i64.wrap ((j : Int) + 1) = (j : Int) + 1 := by rw [IntKind.wrap_i64] <;> omega
            obtain ⟨P6, k6, hkf6⟩ := own_form HO6.out
            subst hkf6
            go_wp2
            go_roundw
            case rel => exact ⟨j + 1, c5, met ++ M, by simp, rfl, hc5, HCV.out, HJ2.out, HNE.out, HO6.out, HB6.out⟩
            case measure => simp [intOf]; omega
end Go.Proofs.Ytdemodhjlbkbeaa
namespace Go.Proofs.Ytdemodhjlbkbeaa
open Go.RowKit
set_option linter.unusedVariables false
abbrev keysOf (D : DS) : List ByteArray := D.all.map (·.1)
theorem chg_keys {D : DS} (h : DInv D) (stay : List ByteArray) (kd : Int) (k : ByteArray) (hk : k.size ≤ 281474976710656) (n : Int) (hc : cnt D.T1 + cnt D.T2 < 4398046511000) :
    (chgD D stay kd k n).seed = D.seed ∧ (∀ x ∈ keysOf D, (x ∈ stay ∨ ¬ (kd = 1 ∧ x = k)) → x ∈ keysOf (chgD D stay kd k n)) ∧ (∀ x ∈ keysOf (chgD D stay kd k n), x ∈ keysOf D ∨ (kd = 0 ∧ x = k)) := by
  unfold chgD
  split
  · next h0 =>
    have q := setD_ok h k hk n hc
    refine ⟨q.seed, fun x hx _ => ?_, fun x hx => ?_⟩
    · rcases hb : (stepD D).has k with _ | _
      · rw [hb] at q
        exact ((q.fresh rfl).2.map _).mem_iff.2 (List.mem_cons_of_mem _ hx)
      · rw [hb] at q
        obtain ⟨v0, R, p1, p2⟩ := q.old rfl
        exact (p2.map _).mem_iff.2 ((p1.map _).mem_iff.1 hx)
    · rcases hb : (stepD D).has k with _ | _
      · rw [hb] at q
        rcases List.mem_cons.1 (((q.fresh rfl).2.map _).mem_iff.1 hx) with e | e
        · exact Or.inr ⟨h0, e⟩
        · exact Or.inl e
      · rw [hb] at q
        obtain ⟨v0, R, p1, p2⟩ := q.old rfl
        exact Or.inl ((p1.map _).mem_iff.2 ((p2.map _).mem_iff.1 hx))
  · split
    · next h0 h1 =>
      split
      · exact ⟨rfl, fun x hx _ => hx, fun x hx => Or.inl hx⟩
      · next hst =>
        have q := deleteD_ok h k
        refine ⟨q.seed, fun x hx hor => ?_, fun x hx => Or.inl ?_⟩
        · rcases hb : (stepD D).has k with _ | _
          · rw [hb] at q
            exact ((q.miss rfl).2.map _).mem_iff.2 hx
          · rw [hb] at q
            obtain ⟨v0, p1⟩ := q.hit rfl
            rcases List.mem_cons.1 ((p1.map _).mem_iff.1 hx) with e | e
            · exfalso
              have e' : x = k := e
              subst e'
              rcases hor with hor | hor
              · exact hst ((inB_iff _ _).2 hor)
              · exact hor ⟨h1, rfl⟩
            · exact e
        · rcases hb : (stepD D).has k with _ | _
          · rw [hb] at q
            exact ((q.miss rfl).2.map _).mem_iff.1 hx
          · rw [hb] at q
            obtain ⟨v0, p1⟩ := q.hit rfl
            exact (p1.map _).mem_iff.2 (List.mem_cons_of_mem _ hx)
    · split
      · obtain ⟨_, q2, q3⟩ := stepN_ok (Int.tmod n 100).toNat h
        exact ⟨q3, fun x hx _ => (q2.map _).mem_iff.2 hx, fun x hx => Or.inl ((q2.map _).mem_iff.1 hx)⟩
      · exact ⟨rfl, fun x hx _ => hx, fun x hx => Or.inl hx⟩
theorem revN_it (a : Nat) (ha : a ≤ 64) (c s : Nat) : revN (itN a (s + 1) c) = Rj a (itN a (s + 1) c) * 2 ^ (64 - a) := by
  show revN (nextC a (itN a s c)) = _
  have := next_R a ha (itN a s c)
  unfold nextC at this ⊢
  rw [revN_revN _ (y_lt _ ha _)]
  congr 1
  exact this.symm
/-- what stays, and lies behind the cursor, has been met. -/
def CovS (seed : Int) (c : Nat) (stay mets : List ByteArray) : Prop := ∀ x ∈ stay, revN (hN seed x) < revN c → x ∈ mets
theorem CovS.step {D : DS} (h : DInv D) (hne : D.T1 ≠ []) {stay mets : List ByteArray} {c : Nat} (hc : CovS D.seed c stay mets) (hsk : ∀ x ∈ stay, x ∈ keysOf D) {n : Int} {t : Nat} (hs : ScanIs D c n t) :
    (itN (aD D) t c = 0 → ∀ x ∈ stay, x ∈ mets ++ (visN D c t).map (·.1)) ∧ (itN (aD D) t c ≠ 0 → CovS D.seed (itN (aD D) t c) stay (mets ++ (visN D c t).map (·.1)) ∧ Rj (aD D) (itN (aD D) t c) = Rj (aD D) c + t) := by
  have ha := (shape h hne).a42
  have hpos := hs.pos
  obtain ⟨s, rfl⟩ : ∃ s, t = s + 1 := ⟨t - 1, by omega⟩
  have hle := hs.le
  have hz := it_zero (a := aD D) (by omega) c s hle
  obtain ⟨_, _, hv, _⟩ := visN_ok h hne c (s + 1) hle
  have key : ∀ x ∈ stay, Rj (aD D) (hN D.seed x) < Rj (aD D) c + (s + 1) → x ∈ mets ++ (visN D c (s + 1)).map (·.1) := by
    intro x hx hr
    rcases Nat.lt_or_ge (revN (hN D.seed x)) (revN c) with h1 | h1
    · exact List.mem_append_left _ (hc x hx h1)
    · obtain ⟨e, he, rfl⟩ := List.mem_map.1 (hsk x hx)
      exact List.mem_append_right _ (List.mem_map.2 ⟨e, hv e he h1 hr, rfl⟩)
  refine ⟨fun h0 x hx => key x hx ?_, fun h0 => ?_⟩
  · rw [hz.1 h0]; exact Rj_lt _ (by omega) _
  · have hne2 : ¬ Rj (aD D) c + (s + 1) = 2 ^ aD D := fun e => h0 (hz.2 e)
    have hR := itN_R (aD D) (by omega) c (s + 1)
    rw [Nat.mod_eq_of_lt (by omega)] at hR
    refine ⟨fun x hx hr => key x hx ?_, hR⟩
    rw [revN_it _ (by omega), hR] at hr
    exact Nat.div_lt_of_lt_mul (by rw [Nat.mul_comm]; exact hr)
theorem Rj_small {D : DS} (h : DInv D) (c : Nat) : Rj (aD D) c ≤ D.T1.length + D.T2.length := by
  by_cases hne : D.T1 = []
  · have h2 : D.T2 = [] := Decidable.byContradiction fun hm => T1_ne h hm hne
    have : aD D = 0 := by unfold aD smD; rw [if_pos (Or.inl h2), hne]; rfl
    rw [this]
    have := Rj_lt 0 (by omega) c
    omega
  · have ha := (shape h hne).a42
    have h1 := Rj_lt (aD D) (by omega) c
    have h2 := sm_le h hne
    omega
/-- how many entries lie below. -/
def lowN (D : DS) (c : Nat) : Nat := (D.all.filter (inR D 0 (Rj (aD D) c))).length
theorem lowN_le (D : DS) (c : Nat) : lowN D c ≤ cnt D.T1 + cnt D.T2 := by rw [← DS.all_len]; exact List.length_filter_le _ _
theorem lowN_step {D : DS} (h : DInv D) (hne : D.T1 ≠ []) {c : Nat} {n : Int} {t : Nat} (hs : ScanIs D c n t) (h0 : itN (aD D) t c ≠ 0) (hR : Rj (aD D) (itN (aD D) t c) = Rj (aD D) c + t) : lowN D c + (visN D c t).length ≤ lowN D (itN (aD D) t c) := by
  obtain ⟨hv, _⟩ := visN_ok h hne c t hs.le
  unfold lowN
  rw [hR]
  have hspl := filter_split D.all (inR D 0 (Rj (aD D) c + t)) (inR D 0 (Rj (aD D) c)) (inR D (Rj (aD D) c) (Rj (aD D) c + t)) (fun x => by
    unfold inR
    rw [Bool.eq_iff_iff]
    simp only [Bool.and_eq_true, Bool.or_eq_true, decide_eq_true_eq]
    omega) (fun x hx => by
    unfold inR at *
    simp only [Bool.and_eq_true, decide_eq_true_eq] at hx
    rw [Bool.and_eq_false_iff]
    left
    simp only [decide_eq_false_iff_not]; omega)
  rw [hspl.length_eq, List.length_append]; omega
abbrev strV (ss : List ByteArray) : List Value := ss.map Value.string
theorem StrRow.of_vals {W : World} {base n : Nat} {v : Value} {ss : List ByteArray} (h : W.ownsRow base 9 1 v n (strV ss)) (hn : n = ss.length) : StrRow W v ss := by
  subst hn
  rcases h.2 with ⟨rfl, h0⟩ | ⟨g, cap, cur, rfl, _, hg, _, _, _, ht⟩
  · have : ss = [] := List.length_eq_zero_iff.1 h0
    subst this; exact StrRow.nil W
  · refine ⟨some ⟨g, 0, none⟩, cap, rfl, fun _ => ⟨g, 0, rfl, fun j hj => ?_⟩⟩
    rw [Nat.zero_add, cell_of_row _ _ _ _ _ _ hg]
    have this : (cur.toList.take (ss.length * 1))[j]? = (ss.map Value.string)[j]? := by rw [ht]
    rw [List.getElem?_take_of_lt (by omega), Array.getElem?_toList] at this
    rw [this, List.getElem?_map, List.getElem?_eq_getElem hj]
    rfl
theorem keyV_str (M : List Ent) : keyV M = strV (M.map (·.1)) := by unfold keyV strV; rw [List.map_map]; rfl
theorem enc_str (l : List (List UInt8)) : l.map encStr = strV (l.map strB) := by unfold strV; rw [List.map_map]; rfl
/-- what the law DictScans holds. -/
structure SS (w wr : World) (d : Nat) (F : List Nat) (D : DS) (stay ever mets : List ByteArray) (vs ve vm : Value) : Prop where
  inv : DInv D
  di : DI wr d F D
  fs : ∀ q ∈ F, w.heap.size ≤ q
  os : wr.ownsRow w.heap.size 9 1 vs stay.length (strV stay)
  oe : wr.ownsRow w.heap.size 9 1 ve ever.length (strV ever)
  om : wr.ownsRow w.heap.size 9 1 vm mets.length (strV mets)
  se : ∀ q, vs.ownBlock = some q → ve.ownBlock ≠ some q
  sm : ∀ q, vs.ownBlock = some q → vm.ownBlock ≠ some q
  em : ∀ q, ve.ownBlock = some q → vm.ownBlock ≠ some q
  below : Below w.heap.size w wr
  sk : ∀ x ∈ stay, x ∈ keysOf D
  ke : ∀ x ∈ keysOf D, x ∈ ever
  me : ∀ x ∈ mets, x ∈ ever
theorem SS.on {w wr W : World} {d : Nat} {F : List Nat} {D : DS} {stay ever mets : List ByteArray} {vs ve vm : Value} (h : SS w wr d F D stay ever mets vs ve vm) (hb : Below wr.heap.size wr W) : SS w W d F D stay ever mets vs ve vm :=
  ⟨h.inv, h.di.on hb, h.fs, own_keep h.os (fun k _ hk => hb.block k hk), own_keep h.oe (fun k _ hk => hb.block k hk), own_keep h.om (fun k _ hk => hb.block k hk), h.se, h.sm, h.em, h.below.trans (hb.mono h.below.size), h.sk, h.ke, h.me⟩
theorem keysS_str (D : DS) (x : ByteArray) : x ∈ (keysS D).map strB ↔ x ∈ keysOf D := by
  constructor
  · intro h
    obtain ⟨K, hK, rfl⟩ := List.mem_map.1 h
    have h1 := (keysS_perm D).mem_iff.1 hK
    unfold keyB at h1
    obtain ⟨e, he, rfl⟩ := List.mem_map.1 h1
    exact List.mem_map.2 ⟨e, he, rfl⟩
  · intro h
    obtain ⟨e, he, rfl⟩ := List.mem_map.1 h
    refine List.mem_map.2 ⟨e.1.data.toList, (keysS_perm D).mem_iff.2 ?_, rfl⟩
    exact List.mem_map.2 ⟨e, he, rfl⟩
end Go.Proofs.Ytdemodhjlbkbeaa
