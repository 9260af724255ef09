import Derived.Test.YtgbplghokciimaaDoorSkH
import Derived.Test.YtgbplghokciimaaDoorSml
import Derived.Laws.OwnMore
namespace Go.Proofs.YtgbplghokciimaaDoor
open Go.RowKit
set_option linter.unusedVariables false
set_option maxHeartbeats 2000000 in
set_option maxRecDepth 100000 in
theorem rheight_any (seed : Int) (s : ByteArray) (hs : s.size ≤ 281474976710656) (w : World) : Calls Tryd.prog 56 #[.int .i64 seed, .string s] w fun e w' => e = .returned (.int .i64 (hgM seed s : Int)) ∧ w' = w := by
  have HH : Hid _ := rHash_any seed s hs w
  have hlt := hsN_lt seed s
  have HG : Hid (hgM seed s = hgtF 23 (hsN seed s)) := rfl
  rw [hsN_is] at HH
  generalize hsN seed s = x at *
  generalize hgM seed s = R at *
  go_enter Tryd.func56, Tryd.ntmps56
  go_wp2_with fail
  refine (show Calls _ _ _ _ _ from HH.out).mono ?_
  rintro e w1 ⟨rfl, hw1⟩
  have hw1' := hw1.symm
  subst hw1'
  clear HH
  go_wp2
  go_loopw [5, 6] (fun ch cn wr => wr = w ∧ ∃ y n : Nat, 1 ≤ n ∧ n ≤ 24 ∧ y < 9223372036854775808 ∧ ch = .int .i64 (y : Int) ∧ cn = .int .i64 (n : Int) ∧ R + 1 = n + hgtF (24 - n) y) (fun _ cn _ => 24 - (intOf cn).toNat)
  case atStart => exact ⟨rfl, x, 1, by omega, by omega, hlt, rfl, rfl, by rw [HG.out, show 24 - 1 = 23 from rfl]; omega⟩
  case round =>
    obtain ⟨rfl, y, n, hn1, hn2, hy, rfl, rfl, hR⟩ := hrel
    have HR : Hid (R + 1 = n + hgtF (24 - n) y) := hR
    clear hR
    by_cases hn : n < 24
    · have HST : Hid (hgtF (24 - n) y = if y % 4 = 0 then 1 + hgtF (24 - (n + 1)) (y / 4) else 1) := by
        show _ = _
        rw [show 24 - n = (24 - (n + 1)) + 1 by omega]; rfl
      have h24 : (n : Int) < 24 := by omega
      by_cases h4 : y % 4 = 0
      · have h4i : (y : Int) % 4 = 0 := by omega
        have HN : Hid (R + 1 = (n + 1) + hgtF (24 - (n + 1)) (y / 4)) := by
          show _ = _
          have := HR.out
          rw [HST.out, if_pos h4] at this
          omega
        go_wp2
        go_roundw
        case rel => exact ⟨by trivial, y / 4, n + 1, by omega, by omega, by omega, by simp, by simp, HN.out⟩
        case measure => simp [intOf]; omega
      · have h4i : ¬ (y : Int) % 4 = 0 := by omega
        have HN : Hid ((R : Int) = (n : Int)) := by
          show _ = _
          have := HR.out
          rw [HST.out, if_neg h4] at this
          omega
        go_wp2
        go_returns
        exact ⟨by rw [HN.out]; first | rfl | simp, rfl⟩
    · have h24 : ¬ (n : Int) < 24 := by omega
      have HN : Hid ((R : Int) = (n : Int)) := by
        show _ = _
        have := HR.out
        rw [show 24 - n = 0 by omega] at this
        unfold hgtF at this
        omega
      go_wp2
      go_returns
      exact ⟨by rw [HN.out]; first | rfl | simp, rfl⟩
theorem infoI3 : (Tryd.prog.info? 3).map (fun i => (i.zero, i.size, i.bytes)) = some (some (.int .i64 0), 1, 8) := by kernel_rfl
def lenV : Value → Nat
  | .slice _ n _ => n
  | _ => 0
set_option maxHeartbeats 4000000 in
set_option maxRecDepth 100000 in
theorem rTall_any (Q : Nat → Prop) (seed : Int) (v : Value) (l : List En) (hl : l.length ≤ 1000000) (hz : ∀ e ∈ l, e.1.size ≤ 281474976710656) (w : World) (h : ERow Q w v l) : Calls Tryd.prog 23 #[bval seed v] w fun e w' => ∃ r, e = .returned r ∧ w'.ownsRow w.heap.size 3 1 r (cl (l.map fun e => hgM seed e.1) (mxH (l.map fun e => hgM seed e.1))).length ((cl (l.map fun e => hgM seed e.1) (mxH (l.map fun e => hgM seed e.1))).map (Value.int .i64)) ∧ Below w.heap.size w w' := by
  obtain ⟨P, c, rfl⟩ := h.form
  have HI : Hid (ERow Q w _ l) := h
  have HHZ : Hid _ := hz
  obtain ⟨iI, hi1, hi2, hi3, hi4⟩ := info_of infoI3
  have HII : Hid (Tryd.prog.info? 3 = some iI ∧ iI.zero = some (.int .i64 0) ∧ iI.size = 1 ∧ iI.bytes = 8) := ⟨hi1, hi2, hi3, hi4⟩
  obtain ⟨hs, hhs⟩ : ∃ hs : List Nat, (l.map fun e => hgM seed e.1) = hs := ⟨_, rfl⟩
  have HHS : Hid (∀ i (hi : i < l.length), hs.take (i + 1) = hs.take i ++ [hgM seed l[i].1]) := fun i hi => by
    rw [← hhs, List.take_succ_eq_append_getElem (by simpa using hi)]
    simp
  have HHL : Hid (hs.length = l.length) := by show _ = _; rw [← hhs]; simp
  rw [hhs]
  obtain ⟨W1, hW1⟩ : ∃ W1, W1 = w.alloc (.cells #[.int .i64 seed, .slice P l.length c] 51) := ⟨_, rfl⟩
  have HQ : Hid (W1.heap[w.heap.size]? = some (.cells #[.int .i64 seed, .slice P l.length c] 51) ∧ Below w.heap.size w W1 ∧ w.heap.size ≤ W1.heap.size) := by
    rw [hW1]
    exact ⟨one_alloc _ _, (Below.refl _ _).alloc (Nat.le_refl _) _, by simp⟩
  clear h hz hhs hi1 hi2 hi3 hi4
  go_enter Tryd.func23, Tryd.ntmps23
  go_wp2
  rw [← hW1]
  clear hW1
  obtain ⟨bb, hbb⟩ : ∃ bb, w.heap.size = bb := ⟨_, rfl⟩
  rw [hbb]
  have HBB : Hid (w.heap.size = bb) := hbb
  clear hbb
  go_loopw [3, 4] (fun co ci wr => ∃ i : Nat, i ≤ l.length ∧ ci = .int .i64 (i : Int) ∧ wr.ownsRow W1.heap.size 3 1 co (mxH (hs.take i)) ((cl (hs.take i) (mxH (hs.take i))).map (Value.int .i64)) ∧ Below W1.heap.size W1 wr) (fun _ ci _ => l.length - (intOf ci).toNat)
  case atStart => exact ⟨0, Nat.zero_le _, rfl, ⟨rfl, Or.inl ⟨rfl, rfl⟩⟩, Below.refl _ _⟩
  case round =>
    obtain ⟨i, hi, rfl, how, hbw⟩ := hrel
    obtain ⟨P8, k8, hkf⟩ := own_form how
    subst hkf
    have HBW : Hid (Below W1.heap.size W1 wr) := hbw
    have HBww : Hid (Below w.heap.size w wr) := bel_to HQ.out.2.1 hbw (Nat.le_refl _)
    have hb0 : wr.heap[bb]? = some (.cells #[.int .i64 seed, .slice P l.length c] 51) := by rw [← HBB.out]; exact keep_row HQ.out.1 hbw
    obtain ⟨b0, b1, bf⟩ := cells2 hb0
    obtain ⟨M, hM⟩ : ∃ M, mxH (hs.take i) = M := ⟨_, rfl⟩
    rw [hM] at how ⊢
    have HM : Hid (mxH (hs.take i) = M) := hM
    have HOW : Hid (wr.ownsRow W1.heap.size 3 1 (.slice P8 M k8) M ((cl (hs.take i) M).map (Value.int .i64))) := how
    clear how hbw hb0 hM
    by_cases hlt : i < l.length
    · obtain ⟨g, c', hf, p1, p2, p3⟩ := (HI.out.on HBww.out).cells hlt
      obtain ⟨rfl, _, rfl⟩ : P = some ⟨g, 0, none⟩ ∧ True ∧ c = c' := by injection hf with h1 h2 h3; exact ⟨h1, trivial, h3⟩
      have HSN : Hid _ := HHS.out i hlt
      have hz3 : (0 : Int) ≤ (i : Int) := by omega
      have hz4 : (i : Int) < (l.length : Int) := by omega
      have hiw : IntKind.i64.wrap ((i : Int) + 1) = (i : Int) + 1 := by rw [IntKind.wrap_i64] <;> omega
      have HHT : Hid _ := rheight_any seed l[i].1 (HHZ.out _ (List.getElem_mem hlt)) wr.drew
      have hg24 := hgM_bd seed l[i].1
      obtain ⟨X, hX⟩ : ∃ X, l[i].1 = X := ⟨_, rfl⟩
      rw [hX] at p1 HSN HHT hg24
      obtain ⟨ht, hht⟩ : ∃ ht, hgM seed X = ht := ⟨_, rfl⟩
      rw [hht] at HSN HHT hg24
      have HG24 : Hid (1 ≤ ht ∧ ht ≤ 24) := hg24
      have HLI : Hid ((hs.take i).length ≤ 1000000) := by show _ ≤ _; rw [List.length_take]; omega
      clear hf hX p2 p3 hht hg24
      have hS := And.intro b0 (And.intro b1 p1)
      go_upto_region 5 with fail
      go_region_held3 (fun w' : World => w'.cell? ⟨bb, 0, none⟩ = some (.int .i64 seed) ∧ w'.cell? ⟨bb, 1, none⟩ = some (.slice (some ⟨g, 0, none⟩) l.length c) ∧ w'.cell? ⟨g, i * 3, none⟩ = some (.string X))
        (first | exact hS)
        (first | (go_at_call 56; refine (show Calls _ _ _ _ _ from HHT.out).mono ?_; rintro e w2 ⟨rfl, hw2⟩; have hw2' := hw2.symm; subst hw2'))
      have HB2 : Hid (Below W1.heap.size W1 wr.drew) := HBW.out.drew
      have HO2 : Hid (wr.drew.ownsRow W1.heap.size 3 1 (.slice P8 M k8) M ((cl (hs.take i) M).map (Value.int .i64))) := HOW.out
      obtain ⟨wd, hwd⟩ : ∃ wd, wd = wr.drew := ⟨_, rfl⟩
      rw [← hwd] at HB2 HO2 ⊢
      clear hS b0 b1 bf p1 hwd
      go_wp2
      go_loopw [3] (fun co wi => ∃ t : Nat, M ≤ t ∧ t ≤ max M ht ∧ wi.ownsRow W1.heap.size 3 1 co t ((cl (hs.take i) t).map (Value.int .i64)) ∧ Below W1.heap.size W1 wi) (fun co _ => ht - lenV co)
      case atStart => exact ⟨M, Nat.le_refl _, by omega, HO2.out, HB2.out⟩
      case round =>
        obtain ⟨t, ht1, ht2, how, hbw⟩ := hrel
        rename World => wi
        obtain ⟨P9, k9, hkf⟩ := own_form how
        subst hkf
        have HOW9 : Hid (wi.ownsRow W1.heap.size 3 1 (.slice P9 t k9) t ((cl (hs.take i) t).map (Value.int .i64))) := how
        have HBW9 : Hid (Below W1.heap.size W1 wi) := hbw
        have h24 := HG24.out
        by_cases htt : t < ht
        · have hti : (t : Int) < (ht : Int) := by omega
          have HMO : Hid (cl (hs.take i) (t + 1) = cl (hs.take i) t ++ [0]) := cl_more (by rw [HM.out]; exact ht1)
          have HT24 : Hid (t ≤ 24) := by show t ≤ 24; omega
          clear how hbw
          go_upto_region 7 with fail
          obtain ⟨W2, hW2⟩ : ∃ W2, W2 = wi.alloc (.cells #[.int .i64 0] 3) := ⟨_, rfl⟩
          have hb3 : Below wi.heap.size wi W2 := by rw [hW2]; exact (Below.refl _ _).alloc (Nat.le_refl _) _
          have HO3 : Hid (W2.ownsRow W1.heap.size 3 1 (.slice P9 t k9) t ((cl (hs.take i) t).map (Value.int .i64))) := own_keep HOW9.out (fun q _ hq => hb3.block q hq)
          have HB3 : Hid (Below W1.heap.size W1 W2) := bel_to HBW9.out hb3 (Nat.le_refl _)
          have HNW : Hid (W2.heap[wi.heap.size]? = some (.cells #[.int .i64 0] 3)) := by rw [hW2]; exact one_alloc _ _
          clear hb3
          go_wp2_with (at_builtin; rw [← hW2]; go_must (refine wpList_append_own W2 rfl _ _ 45 rfl W1.heap.size 3 iI (.int .i64 0) 1 8 Tryd.underlying45 HII.out.1 HII.out.2.1 HII.out.2.2.1 HII.out.2.2.2 rfl (by decide) (.slice P9 t k9) t ((cl (hs.take i) t).map (Value.int .i64)) rfl HO3.out ⟨wi.heap.size, 0, none⟩ 1 1 [.int .i64 0] rfl rfl ?a1 ?a2 ?a3 ?a4 HB3.out.size ?_))
          case a1 =>
            intro j u hj
            rw [Lib.add_plain, Nat.zero_add, cell_of_row _ _ _ _ _ _ HNW.out]
            simpa using hj
          case a2 => intro u hu; simp at hu; subst hu; rfl
          case a3 => have := HT24.out; unfold maxLen; omega
          case a4 => have := HT24.out; omega
          intro v5 w5 ho5 hg5 _
          rw [← hW2] at hg5
          have HB5 : Hid (Below W1.heap.size W1 w5) := HB3.out.grown hg5 HB3.out.size (own_ge HO3.out)
          obtain ⟨P10, k10, hkf⟩ := own_form ho5
          subst hkf
          have HO5 : Hid (w5.ownsRow W1.heap.size 3 1 (.slice P10 (t + 1) k10) (t + 1) ((cl (hs.take i) (t + 1)).map (Value.int .i64))) := by
            show World.ownsRow _ _ _ _ _ _ _
            rw [HMO.out, List.map_append]; exact ho5
          clear ho5 hg5 hW2
          go_wp2
          go_roundw
          case rel => exact ⟨t + 1, by omega, by omega, HO5.out, HB5.out⟩
          case measure => simp [lenV]; omega
        · have hti : ¬ (t : Int) < (ht : Int) := by omega
          have hte : t = max M ht := by omega
          have HPUT : Hid _ := cl_put (hs := hs.take i) (h := ht) (t := t) h24.1 (by omega)
          have HMX : Hid (mxH (hs.take (i + 1)) = t) := by show _ = _; rw [HSN.out, mxH_snoc, HM.out, hte]
          have hge := cl_ge (hs.take i) t (ht - 1) (by omega)
          obtain ⟨z, hzz⟩ : ∃ z, (cl (hs.take i) t)[ht - 1]'(by rw [cl_len]; omega) = z := ⟨_, rfl⟩
          rw [hzz] at hge
          have HPUT2 : Hid ((cl (hs.take i) t).set (ht - 1) (z + 1) = cl (hs.take i ++ [ht]) t) := by
            show _ = _
            rw [← hzz]; exact HPUT.out
          have hcell : ∃ g9, P9 = some ⟨g9, 0, none⟩ ∧ wi.cell? ⟨g9, ht - 1, none⟩ = some (.int .i64 z) ∧ ∀ j, wi.frozen? ⟨g9, j, none⟩ = false := by
            rcases how.2 with ⟨e, h0⟩ | ⟨g9, cap, cur, e, _⟩
            · omega
            · injection e with e1 e2 e3
              subst e1 e3
              refine ⟨g9, rfl, (World.ownsRow.cellAt how (ht - 1) (by omega)).trans ?_, fun j => World.ownsRow.frozenAt how j⟩
              rw [List.getElem?_map, List.getElem?_eq_getElem (by rw [cl_len]; omega), hzz]; rfl
          obtain ⟨g9, rfl, c9, f9⟩ := hcell
          have HST : Hid _ := (World.ownsRow.stored HOW9.out (ht - 1) (.int .i64 (z + 1)))
          have hL := HLI.out
          have hzw : IntKind.i64.wrap (z + 1) = z + 1 := by rw [IntKind.wrap_i64] <;> omega
          have hnw : IntKind.i64.wrap ((ht : Int) - 1) = ((ht - 1 : Nat) : Int) := by rw [IntKind.wrap_i64] <;> omega
          have hnw2 : (ht : Int) - 1 = ((ht - 1 : Nat) : Int) := by omega
          have hn0 : (0 : Int) ≤ ((ht - 1 : Nat) : Int) := by omega
          have hn1 : ((ht - 1 : Nat) : Int) < (t : Int) := by omega
          have HGE : Hid (W1.heap.size ≤ g9) := by
            rcases how.2 with ⟨e, h0⟩ | ⟨g', cap, cur, e, hb', _⟩
            · cases e
            · injection e with e1 e2 e3
              injection e1 with e1
              injection e1 with e1
              show _ ≤ _
              rw [e1]; exact hb'
          clear how hbw hzz HPUT hte
          obtain ⟨j9, hj9⟩ : ∃ j9, ht - 1 = j9 := ⟨_, rfl⟩
          rw [hj9] at hnw hnw2 hn0 hn1 c9 HST HPUT2
          clear hj9
          go_wp2
          go_roundw
          case rel =>
            refine ⟨i + 1, hlt, by simp, ?_, ?_⟩
            · rw [HMX.out, HSN.out, ← HPUT2.out]
              have := HST.out.1
              rw [List.map_set]
              exact this
            · exact HBW9.out.trans ((Only.set (Only.refl wi g9) j9 _).below HGE.out)
          case measure => simp [intOf]; omega
    · have hie : i = l.length := by omega
      have hz4 : ¬ (i : Int) < (l.length : Int) := by omega
      have HF : Hid (hs.take i = hs) := by show _ = _; rw [hie, ← HHL.out, List.take_length]
      clear hie
      go_wp2
      go_returns
      refine ⟨_, rfl, ?_, ?_⟩
      · have h1 := HOW.out
        rw [HF.out] at h1
        rw [HF.out] at HM
        rw [HM.out, cl_len]
        refine ⟨h1.1, ?_⟩
        rcases h1.2 with q | ⟨a1, a2, a3, a4, a5, a6⟩
        · exact Or.inl q
        · exact Or.inr ⟨a1, a2, a3, a4, Nat.le_trans HQ.out.2.2 a5, a6⟩
      · exact HBww.out
end Go.Proofs.YtgbplghokciimaaDoor
