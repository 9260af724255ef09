import Derived.Test.YtdemodhjlbkbeabRL
import Derived.Test.YtdemodhjlbkbeabSortS
import Derived.Sort.Walk0
namespace Go.Proofs.Ytdemodhjlbkbeab
open Go.RowKit
set_option linter.unusedVariables false
def keyB (es : List Ent) : List (List UInt8) := es.map fun e => e.1.data.toList
theorem keyV_enc (es : List Ent) : keyV es = (keyB es).map encStr := by unfold keyV keyB; rw [List.map_map]; rfl
theorem keyV_app (a b : List Ent) : keyV (a ++ b) = keyV a ++ keyV b := by unfold keyV; rw [List.map_append]
theorem keyV_len (a : List Ent) : (keyV a).length = a.length := by unfold keyV; simp
def keysS (D : DS) : List (List UInt8) := (keyB D.all).mergeSort fun x y => decide (x ≤ y)
theorem keysS_perm (D : DS) : (keysS D).Perm (keyB D.all) := List.mergeSort_perm _ _
theorem keysS_len (D : DS) : (keysS D).length = cnt D.T1 + cnt D.T2 := by
  rw [(keysS_perm D).length_eq, ← DS.all_len]; unfold keyB; simp
theorem sort_own (base : Nat) (v : Value) (ss : List (List UInt8)) (hl : ss.length ≤ 8796093022208) (w : World) (hv : v ≠ .slice none 0 0) (h : w.ownsRow base 9 1 v ss.length (ss.map encStr)) :
    Calls Try.prog 62 #[v] w fun e w' => e = .returned (.tuple #[]) ∧ w'.ownsRow base 9 1 v ss.length ((ss.mergeSort fun x y => decide (x ≤ y)).map encStr) ∧ w.grownBy w' v.ownBlock := by
  rcases h.2 with ⟨hnil, _⟩ | ⟨g, cap, cur, rfl, hbase, hb, h1, h2, h3, h4⟩
  · exact absurd hnil hv
  · refine (Try.slices_Sort_string g 0 cap ss w (holds_of_block hb (by simpa using h4)) (row_lt hb) (by omega)).mono ?_
    rintro e w' ⟨rfl, n, os, rfl⟩
    exact ⟨rfl, ownsRow_sorted (by simp) hbase hb h1 h2 h3, grownBy_sorted _⟩
/-- a table's turn among the two. -/
structure Turn (w : World) (A j : Nat) (T : List (List Ent)) (v : Value) (L : List Nat) (c : Int) : Prop where
  a : w.cell? ⟨A, j * 2, none⟩ = some v
  b : w.cell? ⟨A, j * 2 + 1, none⟩ = some (.int .i64 c)
  t : TabAt w v T L
def rowK (D : DS) (j : Nat) : List Ent := (([D.T1, D.T2].take j).flatten).flatten
theorem rowK_le (D : DS) (j : Nat) : (rowK D j).length ≤ cnt D.T1 + cnt D.T2 := by
  unfold rowK cnt
  match j with
  | 0 => simp
  | 1 => simp
  | j + 2 => simp
theorem rowK_two (D : DS) : rowK D 2 = D.all := by unfold rowK DS.all; simp
theorem flat_take_succ (T : List (List Ent)) (i : Nat) (h : i < T.length) : (T.take (i + 1)).flatten = (T.take i).flatten ++ T[i] := by
  rw [List.take_succ_eq_append_getElem h, List.flatten_append]; simp
theorem flat_take_le (T : List (List Ent)) (i : Nat) : ((T.take i).flatten).length ≤ cnt T := by
  unfold cnt
  conv => rhs; rw [← List.take_append_drop i T, List.flatten_append, List.length_append]
  omega
set_option maxHeartbeats 4000000 in
set_option maxRecDepth 100000 in
theorem Keys_any (g : Nat) (F : List Nat) (D : DS) (hD : DInv D) (hc : cnt D.T1 + cnt D.T2 ≤ 4398046511000) (w : World) (h : DI w g F D) :
    Calls Try.prog 45 #[.pointer (some ⟨g, 0, none⟩)] w fun e w' => ∃ v, e = .returned v ∧ v ≠ .slice none 0 0 ∧ w'.ownsRow w.heap.size 9 1 v (keysS D).length ((keysS D).map encStr) ∧ Below w.heap.size w w' := by
  obtain ⟨i0, hi0, hz0, hz1, hz2⟩ := info_parts info9
  have HLN : Hid _ := Len_all g F D hc w h
  have HDI : Hid (DI w g F D) := h
  have HIN : Hid (DInv D) := hD
  obtain ⟨N, hN⟩ : ∃ N, cnt D.T1 + cnt D.T2 = N := ⟨_, rfl⟩
  rw [hN] at HLN hc
  clear h hD
  go_enter Try.func45, Try.ntmps45
  go_wp2_with fail
  refine (show Calls _ _ _ _ _ from HLN.out).mono ?_
  rintro e w1 ⟨rfl, kq, hkq⟩
  have hb1 : Below w.heap.size w w1 := by rw [hkq]; exact below_dn (Below.refl _ _) kq
  have hs1 : w1.heap.size = w.heap.size := by rw [hkq]; rfl
  have HB1 : Hid (Below w.heap.size w w1) := hb1
  have HS1 : Hid (w1.heap.size = w.heap.size) := hs1
  clear hb1 hs1 hkq
  go_wp2_with (at_make; refine wpList_make_own _ rfl _ _ 41 rfl w.heap.size 9 i0 (.string ⟨#[]⟩) 1 Try.underlying41 hi0 hz0 hz1 .i64 .i64 (N : Int) N rfl rfl rfl (by rw [hz2]; omega) (by unfold maxLen; omega) (by rw [HS1.out]; exact Nat.le_refl _) ?_; intro w5 hown5 hgrow5)
  have hb5 : Below w.heap.size w w5 := HB1.out.trans ⟨hgrow5.os, hgrow5.tape, hgrow5.output, hgrow5.size, fun q hq => hgrow5.block q (by rw [HS1.out]; exact hq) (by simp)⟩
  have hk5 : w.heap.size < w5.heap.size := by
    have := World.ownsRow.lt hown5 w1.heap.size rfl
    rw [HS1.out] at this; exact this.2
  have HO5 : Hid (w5.ownsRow w.heap.size 9 1 (.slice (some ⟨w.heap.size, 0, none⟩) 0 N) 0 []) := by
    have q := hown5
    rw [HS1.out] at q; exact q
  have HD5 : Hid (DI w5 g F D) := HDI.out.on hb5
  have HB5 : Hid (Below w.heap.size w w5) := hb5
  rw [HS1.out]
  clear hown5 hgrow5 hb5 HLN HB1 HS1
  obtain ⟨v1, v2, L1, L2, h1, h2, h3, hF, h4⟩ := HD5.out
  obtain ⟨P1, k1, rfl⟩ := h2.form
  obtain ⟨P2, k2, rfl⟩ := h3.form
  have HT1 : Hid (TabAt w5 (.slice P1 D.T1.length k1) D.T1 L1) := h2
  have HT2 : Hid (TabAt w5 (.slice P2 D.T2.length k2) D.T2 L2) := h3
  have HF : Hid (F = g :: (L1 ++ L2)) := hF
  obtain ⟨c0, c1, c2, c3, c4, c5, cf⟩ := row6 h1
  clear h1 h2 h3 hF h4
  go_cut [18, 19, 20] from 10 to 20 (fun sa sl sc wx => sl = .int .i64 2 ∧ sc = .int .i64 0 ∧ ∃ A, sa = .slice (some ⟨A, 0, none⟩) 2 2 ∧ Below w5.heap.size w5 wx ∧ w5.heap.size ≤ A ∧ wx.heap[A]? = some (.cells #[.slice P1 D.T1.length k1, .int .i64 (cnt D.T1 : Nat), .slice P2 D.T2.length k2, .int .i64 (cnt D.T2 : Nat)] 54))
  case first =>
    go_region
    all_goals
      go_wp2_with fail
      go_meet
      refine ⟨rfl, rfl, _, rfl, ?_, ?_, one_alloc _ _⟩
      · exact (Below.refl w5.heap.size w5).drew.alloc (Nat.le_refl _) _
      · exact Nat.le_refl _
  case rest =>
    obtain ⟨rfl, rfl, A, rfl, hbc, hA, hrA⟩ := hcut
    have HBC : Hid (Below w5.heap.size w5 wc) := hbc
    have HRA : Hid _ := hrA
    have HKA : Hid (w5.heap.size ≤ A) := hA
    have HOC : Hid (wc.ownsRow w.heap.size 9 1 (.slice (some ⟨w.heap.size, 0, none⟩) 0 N) 0 []) := own_keep HO5.out (fun k _ hk => hbc.block k hk)
    have HBW : Hid (Below w.heap.size w wc) := HB5.out.trans (hbc.mono (Nat.le_of_lt hk5))
    have HDC : Hid (DI wc g F D) := HDI.out.on HBW.out
    have HTR : Hid (∀ j, j < 2 → ∃ T v L c, Turn wc A j T v L c ∧ (∀ q ∈ L, q < w.heap.size) ∧ rowK D (j + 1) = rowK D j ++ T.flatten ∧ (∃ P k, v = .slice P T.length k) ∧ (∀ x ∈ T.flatten, x.1.size ≤ 281474976710656) ∧ cnt T ≤ N ∧ T.length ≤ 4398046511104) := by
      intro j hj
      have hw1 := HT1.out.on hbc
      have hw2 := HT2.out.on hbc
      have hlt := HDI.out.lt
      rw [HF.out] at hlt
      match j, hj with
      | 0, _ => exact ⟨D.T1, _, L1, _, ⟨by rw [cell_of_row _ _ _ _ _ _ hrA]; rfl, by rw [cell_of_row _ _ _ _ _ _ hrA]; rfl, hw1⟩, fun q hq => hlt q (by simp [hq]), by unfold rowK; simp, ⟨_, _, rfl⟩, fun x hx => HIN.out.keys x (List.mem_append_left _ hx), by omega, HIN.out.sz1⟩
      | 1, _ => exact ⟨D.T2, _, L2, _, ⟨by rw [cell_of_row _ _ _ _ _ _ hrA]; rfl, by rw [cell_of_row _ _ _ _ _ _ hrA]; rfl, hw2⟩, fun q hq => hlt q (by simp [hq]), by unfold rowK; simp, ⟨_, _, rfl⟩, fun x hx => HIN.out.keys x (List.mem_append_right _ hx), by omega, HIN.out.sz2⟩
    clear hbc hrA hA HT1 HT2 c0 c1 c2 c3 c4 c5 cf HO5 HD5 HB5
    go_wp2_with fail
    go_loopw [20, 3] (fun ci ck wr => ∃ j : Nat, j ≤ 2 ∧ ci = .int .i64 (j : Int) ∧ wr.ownsRow w.heap.size 9 1 ck (rowK D j).length (keyV (rowK D j)) ∧ Grew wc wr (.slice (some ⟨w.heap.size, 0, none⟩) 0 N) ck) (fun ci _ _ => 2 - (intOf ci).toNat)
    case atStart => exact ⟨0, by omega, rfl, HOC.out, Grew.refl _ _⟩
    case round =>
      obtain ⟨j, hj, rfl, hoj, hgj⟩ := hrel
      have HOJ : Hid (wr.ownsRow w.heap.size 9 1 _ (rowK D j).length (keyV (rowK D j))) := hoj
      have HGJ : Hid (Grew wc wr (.slice (some ⟨w.heap.size, 0, none⟩) 0 N) _) := hgj
      obtain ⟨KP, KC, hkf⟩ := own_form hoj
      subst hkf
      have HKL : Hid ((rowK D j).length ≤ N) := by have := rowK_le D j; show _ ≤ _; omega
      by_cases hlt : j < 2
      · obtain ⟨T, v, L, cc, htu, hL, hrow, ⟨P, kk, rfl⟩, hky, hcT, hTl⟩ := HTR.out j hlt
        have HL : Hid _ := hL
        have HROW : Hid _ := hrow
        have HKY : Hid _ := hky
        have HKS : Hid ((rowK D j).length + cnt T ≤ N) := by
          have q1 := rowK_le D (j + 1)
          rw [hrow, List.length_append] at q1
          show _ ≤ _
          unfold cnt at q1 hN ⊢
          omega
        have hAl : A < wc.heap.size := row_lt HRA.out
        have hAo : (Value.slice (some ⟨w.heap.size, 0, none⟩) 0 N).ownBlock ≠ some A := by
          intro e
          have : w.heap.size = A := by simpa [Value.ownBlock] using e
          have := HKA.out; omega
        have hbr : ∀ q, q < wc.heap.size → q ≠ w.heap.size → wr.heap[q]? = wc.heap[q]? := fun q hq hn => hgj.fr.block q hq (fun e => hn (by simpa [Value.ownBlock] using e))
        have e0 : wr.cell? ⟨A, j * 2, none⟩ = some (.slice P T.length kk) := (World.cell?_of_block (a := ⟨A, j * 2, none⟩) (hbr A hAl (by have := HKA.out; omega))).trans htu.a
        have e1 : wr.cell? ⟨A, j * 2 + 1, none⟩ = some (.int .i64 cc) := (World.cell?_of_block (a := ⟨A, j * 2 + 1, none⟩) (hbr A hAl (by have := HKA.out; omega))).trans htu.b
        have HTA : Hid (TabAt wr (.slice P T.length kk) T L) := htu.t.keep (fun q hq => hbr q (htu.t.lt q hq) (by have := hL q hq; omega))
        have hz3 : (0 : Int) ≤ (j : Int) := by omega
        have hz4 : (j : Int) < 2 := by omega
        have HX : Hid _ := one_alloc wr (.cells #[.slice P T.length kk, .int .i64 cc] 54)
        obtain ⟨W0, hW0⟩ : ∃ W0, W0 = wr.alloc (.cells #[.slice P T.length kk, .int .i64 cc] 54) := ⟨_, rfl⟩
        have hbw : Below wr.heap.size wr W0 := by rw [hW0]; exact (Below.refl _ _).alloc (Nat.le_refl _) _
        rw [← hW0] at HX
        have HG0 : Hid (Grew wc W0 (.slice (some ⟨w.heap.size, 0, none⟩) 0 N) (.slice KP (rowK D j).length KC)) := hgj.trans (Grew.of_below _ hbw)
        have HO0 : Hid (W0.ownsRow w.heap.size 9 1 (.slice KP (rowK D j).length KC) (rowK D j).length (keyV (rowK D j))) := own_keep HOJ.out (fun k _ hk => hbw.block k hk)
        have HTB : Hid (TabAt W0 (.slice P T.length kk) T L) := HTA.out.on hbw
        obtain ⟨tb, htb⟩ : ∃ tb, wr.heap.size = tb := ⟨_, rfl⟩
        rw [htb] at HX
        have HTBL : Hid (w.heap.size ≤ tb) := by rw [← htb]; exact Nat.le_trans HBW.out.size hgj.fr.size
        have HTBN : Hid ((Value.slice KP (rowK D j).length KC).ownBlock ≠ some tb) := by
          intro e
          have := (World.ownsRow.lt HOJ.out tb e).2
          omega
        clear hoj hgj hbw hbr htu hAo hAl
        go_upto_region 5 with fail
        rw [← hW0]
        clear hW0 e0 e1
        obtain ⟨x0, x1, xf⟩ := row2 HX.out
        have HSZ : Hid _ := size_any tb 0 P T.length kk W0 x0
        go_wp2_with fail
        refine (show Calls _ _ _ _ _ from HSZ.out).mono ?_
        rintro e w7 ⟨rfl, rfl⟩
        go_wp2
        go_loopw [25, 3, 6] (fun ci ck _ wi => ∃ i M : Nat, i ≤ T.length ∧ ci = .int .i64 (i : Int) ∧ M = (rowK D j).length + ((T.take i).flatten).length ∧ wi.ownsRow w.heap.size 9 1 ck M (keyV (rowK D j) ++ keyV (T.take i).flatten) ∧ Grew w7 wi (.slice KP (rowK D j).length KC) ck) (fun ci _ _ _ => T.length - (intOf ci).toNat)
        case atStart => exact ⟨0, (rowK D j).length, by omega, rfl, by simp, by simpa [keyV] using HO0.out, Grew.refl _ _⟩
        case round =>
          obtain ⟨i, M, hi, rfl, hM, hoi, hgi⟩ := hrel
          have HM : Hid _ := hM
          clear hM
          have HOI : Hid (wr.ownsRow w.heap.size 9 1 _ M (keyV (rowK D j) ++ keyV (T.take i).flatten)) := hoi
          have HGI : Hid (Grew w7 wr (.slice KP (rowK D j).length KC) _) := hgi
          obtain ⟨KP2, KC2, hkf⟩ := own_form hoi
          subst hkf
          by_cases hil : i < T.length
          · obtain ⟨B, bvs, hv, hne, hI, hLe⟩ : ∃ B bvs, Value.slice P T.length kk = .slice (some ⟨B, 0, none⟩) T.length T.length ∧ T ≠ [] ∧ TabIs w7 0 B bvs T ∧ L = B :: bblocks bvs := by
              rcases HTB.out with ⟨_, e, _⟩ | h
              · rw [e] at hil; simp at hil
              · exact h
            have hsz7 : w.heap.size ≤ w7.heap.size := by have := row_lt HX.out; have := HTBL.out; omega
            have hKb : ∀ q, (Value.slice KP (rowK D j).length KC).ownBlock = some q → w.heap.size ≤ q := fun q hq => (World.ownsRow.lt HO0.out q hq).1
            have hKi : ∀ q, (Value.slice KP2 M KC2).ownBlock = some q → w.heap.size ≤ q := fun q hq => (World.ownsRow.lt HOI.out q hq).1
            have hbi : ∀ q, q < w.heap.size → wr.heap[q]? = w7.heap[q]? := fun q hq => hgi.fr.block q (by omega) (fun e => by have := hKb q e.symm; omega)
            have HTI : Hid (TabIs wr 0 B bvs T) := hI.keep (hbi B (HL.out B (by rw [hLe]; simp))) (fun E hE => hbi E (HL.out E (by rw [hLe]; simp [hE])))
            have hrt := hgi.keep HX.out HTBN.out
            have ct := (row2 hrt).1
            rw [hv] at ct
            have hfl := flat_take_le T i
            have hle := len_le_cnt T i hil
            have HMT : Hid _ := meet_tab tb 0 B T.length i bvs T rfl hil (by omega) (fun x hx => HKY.out x (List.mem_flatten.2 ⟨_, List.getElem_mem hil, hx⟩)) w.heap.size M (by have := HM.out; have := HKS.out; omega) _ _ wr (Nat.le_trans hsz7 hgi.fr.size) HOI.out ct HTI.out (fun q hq e => by have := hKi q e; have := HL.out q (by rw [hLe]; simp [hq]); omega)
            have HFT : Hid _ := flat_take_succ T i hil
            clear hoi hgi hv hne hI hLe hsz7 hKb hKi hbi hrt ct hfl hle x0 x1 xf
            have hiw : IntKind.i64.wrap ((i : Int) + 1) = (i : Int) + 1 := by rw [IntKind.wrap_i64] <;> omega
            go_wp2_with fail
            refine (show Calls _ _ _ _ _ from HMT.out).mono ?_
            rintro e w8 ⟨r, rfl, ho8, hg8⟩
            have HO8 : Hid (w8.ownsRow w.heap.size 9 1 r (M + T[i].length) (keyV (rowK D j) ++ keyV (T.take (i + 1)).flatten)) := by
              show World.ownsRow _ _ _ _ _ _ _
              rw [HFT.out, keyV_app, ← List.append_assoc]; exact ho8
            have HM8 : Hid (M + T[i].length = (rowK D j).length + ((T.take (i + 1)).flatten).length) := by
              show _ = _
              rw [HFT.out, List.length_append, HM.out]; omega
            have HG8 : Hid (Grew w7 w8 (.slice KP (rowK D j).length KC) r) := HGI.out.trans hg8
            clear ho8 hg8
            go_wp2
            go_roundw
            case rel => exact ⟨i + 1, M + T[i].length, hil, by simp, HM8.out, HO8.out, HG8.out⟩
            case measure => simp [intOf]; omega
          · have hie : i = T.length := by omega
            subst hie
            have HOE : Hid (wr.ownsRow w.heap.size 9 1 (.slice KP2 M KC2) (rowK D (j + 1)).length (keyV (rowK D (j + 1)))) := by
              show World.ownsRow _ _ _ _ _ _ _
              have q := HOI.out
              have q2 := HM.out
              rw [List.take_length] at q q2
              rw [HROW.out, keyV_app, List.length_append, ← q2]
              exact q
            have HGE : Hid (Grew wc wr (.slice (some ⟨w.heap.size, 0, none⟩) 0 N) (.slice KP2 M KC2)) := HG0.out.trans hgi
            clear hoi hgi HOI HGI x0 x1 xf
            go_wp2
            go_roundw
            case rel => exact ⟨j + 1, hlt, by simp, HOE.out, HGE.out⟩
            case measure => simp [intOf]; omega
      · have hje : j = 2 := by omega
        subst hje
        have hsl : (keyB D.all).length = (rowK D 2).length := by rw [rowK_two]; unfold keyB; simp
        have HOF : Hid (wr.ownsRow w.heap.size 9 1 (.slice KP (rowK D 2).length KC) (keyB D.all).length ((keyB D.all).map encStr)) := by
          show World.ownsRow _ _ _ _ _ _ _
          rw [← keyV_enc, hsl]
          have q := hoj
          rw [rowK_two] at q ⊢
          exact q
        have HNE : Hid (Value.slice KP (rowK D 2).length KC ≠ .slice none 0 0) := hgj.ne (by simp)
        have HSO : Hid _ := sort_own w.heap.size (.slice KP (rowK D 2).length KC) (keyB D.all) (by rw [hsl]; have := HKL.out; omega) wr HNE.out HOF.out
        have HBR : Hid (Below w.heap.size w wr) := HBW.out.trans (hgj.below HBW.out.size (fun q hq => by have : w.heap.size = q := (by simpa [Value.ownBlock] using hq); omega))
        clear hoj hgj hsl
        go_wp2_with fail
        refine (show Calls _ _ _ _ _ from HSO.out).mono ?_
        rintro e w9 ⟨rfl, ho9, hg9⟩
        have HO9 : Hid (w9.ownsRow w.heap.size 9 1 (.slice KP (rowK D 2).length KC) (keysS D).length ((keysS D).map encStr)) := by
          show World.ownsRow _ _ _ _ _ _ _
          rw [(keysS_perm D).length_eq]; exact ho9
        have HB9 : Hid (Below w.heap.size w w9) := HBR.out.grown hg9 HBR.out.size (fun k hk => (World.ownsRow.lt HOF.out k hk).1)
        clear ho9 hg9
        go_wp2
        go_returns
        exact ⟨_, rfl, HNE.out, HO9.out, HB9.out⟩
end Go.Proofs.Ytdemodhjlbkbeab
namespace Go.Proofs.Ytdemodhjlbkbeab
open Go.RowKit
set_option linter.unusedVariables false
theorem split_at (kl : List Ent) (j : Nat) (h : j < kl.length) : kl.Perm (kl[j] :: (kl.take j ++ kl.drop (j + 1))) := by
  conv => lhs; rw [← List.take_append_drop j kl, List.drop_eq_getElem_cons h]
  exact List.perm_middle
theorem set_at (kl : List Ent) (j : Nat) (h : j < kl.length) (x : Ent) : (kl.set j x).Perm (x :: (kl.take j ++ kl.drop (j + 1))) := by
  rw [List.set_eq_take_append_cons_drop, if_pos h]
  exact List.perm_middle
theorem swap_at (kl : List Ent) (j : Nat) (h : j < kl.length) : ((kl.set j (kl[kl.length - 1]'(by omega))).take (kl.length - 1)).Perm (kl.take j ++ kl.drop (j + 1)) := by
  rw [List.set_eq_take_append_cons_drop, if_pos h]
  by_cases he : j = kl.length - 1
  · have h1 : kl.drop (j + 1) = [] := List.drop_eq_nil_of_le (by omega)
    rw [h1, List.append_nil, List.take_append_of_le_length (by rw [List.length_take]; omega), List.take_take, Nat.min_eq_left (by omega), ← he]
  · have h2 : kl.drop (j + 1) = (kl.drop (j + 1)).take (kl.length - 1 - (j + 1)) ++ [kl[kl.length - 1]'(by omega)] := by
      conv => lhs; rw [← List.take_append_drop (kl.length - 1 - (j + 1)) (kl.drop (j + 1))]
      congr 1
      rw [List.drop_drop, show j + 1 + (kl.length - 1 - (j + 1)) = kl.length - 1 by omega, List.drop_eq_getElem_cons (by omega), List.drop_eq_nil_of_le (by omega)]
    have h3 : (kl.take j ++ (kl[kl.length - 1]'(by omega)) :: kl.drop (j + 1)).take (kl.length - 1) = kl.take j ++ (kl[kl.length - 1]'(by omega)) :: (kl.drop (j + 1)).take (kl.length - 1 - (j + 1)) := by
      rw [List.take_append, List.length_take, Nat.min_eq_left (by omega), List.take_of_length_le (by rw [List.length_take]; omega)]
      rw [show kl.length - 1 - j = (kl.length - 1 - (j + 1)) + 1 by omega, List.take_succ_cons]
    rw [h3]
    conv => rhs; rw [h2]
    refine List.Perm.append_left _ ?_
    exact (List.perm_append_singleton _ _).symm
/-- one key has one value. -/
theorem one_val {l : List Ent} (hn : (l.map (·.1)).Nodup) {k : ByteArray} {a b : Int} (h1 : (k, a) ∈ l) (h2 : (k, b) ∈ l) : a = b := by
  induction l with
  | nil => cases h1
  | cons x l ih =>
    rw [List.map_cons, List.nodup_cons] at hn
    rcases List.mem_cons.1 h1 with e1 | h1
    · rcases List.mem_cons.1 h2 with e2 | h2
      · rw [← e1] at e2; exact (Prod.mk.inj e2).2.symm
      · exact absurd (List.mem_map.2 ⟨_, h2, by rw [← e1]⟩) hn.1
    · rcases List.mem_cons.1 h2 with e2 | h2
      · exact absurd (List.mem_map.2 ⟨_, h1, by rw [← e2]⟩) hn.1
      · exact ih hn.2 h1 h2
theorem nodup_of {D : DS} {kl : List Ent} (h : DInv D) (hp : D.all.Perm kl) : (kl.map (·.1)).Nodup := by
  rw [← (hp.map _).nodup_iff]; exact h.nd
theorem rest_perm {D : DS} {kl R : List Ent} (h : DInv D) (hp : D.all.Perm kl) {k : ByteArray} {v0 : Int} (hr : D.all.Perm ((k, v0) :: R)) {j : Nat} (hj : j < kl.length) (hk : kl[j].1 = k) : R.Perm (kl.take j ++ kl.drop (j + 1)) := by
  have h1 : kl.Perm ((k, v0) :: R) := hp.symm.trans hr
  have hm : (k, v0) ∈ kl := h1.mem_iff.2 (by simp)
  have hm2 : (k, kl[j].2) ∈ kl := by
    have := List.getElem_mem hj
    rw [← hk]; exact this
  have hv : v0 = kl[j].2 := one_val (nodup_of h hp) hm hm2
  have h2 := split_at kl j hj
  have e : kl[j] = (k, v0) := by rw [hv, ← hk]
  rw [e] at h2
  exact (List.Perm.cons_inv (h1.symm.trans h2))
/-- where a key stands. -/
def AtIs (kl : List Ent) (k : ByteArray) (n : Nat) (at_ : Int) : Prop := (at_ = -1 ∧ ∀ t (h : t < kl.length), t < n → kl[t].1 ≠ k) ∨ ∃ j, ∃ h : j < kl.length, j < n ∧ at_ = (j : Int) ∧ kl[j].1 = k
theorem AtIs.none {kl : List Ent} {k : ByteArray} (h : AtIs kl k kl.length (-1)) : k ∉ kl.map (·.1) := by
  rcases h with ⟨_, h⟩ | ⟨j, _, _, e, _⟩
  · intro hm
    obtain ⟨x, hx, rfl⟩ := List.mem_map.1 hm
    obtain ⟨t, ht, rfl⟩ := List.mem_iff_getElem.1 hx
    exact h t ht ht rfl
  · omega
def rowN (kl : List Ent) : List Value := kl.map fun e => .int .i64 e.2
theorem own_block {w w' : World} {base e size : Nat} {v : Value} {n : Nat} {xs : List Value} (h : w.ownsRow base e size v n xs) (hk : ∀ k, v.ownBlock = some k → w'.heap[k]? = w.heap[k]?) : w'.ownsRow base e size v n xs := by
  refine ⟨h.1, ?_⟩
  rcases h.2 with h1 | ⟨g, cap, cur, rfl, hb, hg, r⟩
  · exact Or.inl h1
  · exact Or.inr ⟨g, cap, cur, rfl, hb, by rw [hk g rfl]; exact hg, r⟩
theorem own_type {w : World} {base e size : Nat} {v : Value} {n : Nat} {xs : List Value} (h : w.ownsRow base e size v n xs) {g : Nat} (hg : v.ownBlock = some g) : ∃ cur, w.heap[g]? = some (.cells cur e (0, 0)) := by
  rcases h.2 with ⟨rfl, _⟩ | ⟨g', cap, cur, rfl, _, hr, _⟩
  · cases hg
  · have : g' = g := by simpa [Value.ownBlock] using hg
    subst this; exact ⟨cur, hr⟩
theorem DI.types {w : World} {g : Nat} {F : List Nat} {D : DS} (h : DI w g F D) : ∀ q ∈ F, ∃ cur T, w.heap[q]? = some (.cells cur T (0, 0)) ∧ T ≠ 9 ∧ T ≠ 3 := by
  have tab : ∀ {v T L}, TabAt w v T L → ∀ q ∈ L, ∃ cur T, w.heap[q]? = some (.cells cur T (0, 0)) ∧ T ≠ 9 ∧ T ≠ 3 := by
    intro v T L hT q hq
    rcases hT with ⟨_, _, rfl⟩ | ⟨B, bvs, _, _, hI, rfl⟩
    · simp at hq
    · rcases List.mem_cons.1 hq with rfl | hq
      · exact ⟨_, _, hI.row, by decide, by decide⟩
      · obtain ⟨bv, hm, he⟩ := List.mem_filterMap.1 hq
        obtain ⟨i, hi⟩ := List.mem_iff_getElem?.1 hm
        rw [Array.getElem?_toList] at hi
        obtain ⟨hl, _⟩ := Array.getElem?_eq_some_iff.1 hi
        obtain ⟨bv', h1, h2⟩ := hI.each i (by rw [← hI.size]; exact hl)
        rw [hi] at h1; cases h1
        obtain ⟨_, cur, hr⟩ := h2.lt q he
        exact ⟨cur, _, hr, by decide, by decide⟩
  obtain ⟨v1, v2, L1, L2, h1, h2, h3, rfl, h4⟩ := h
  intro q hq
  rcases List.mem_cons.1 hq with rfl | hq
  · exact ⟨_, _, h1, by decide, by decide⟩
  · rcases List.mem_append.1 hq with hq | hq
    · exact tab h2 q hq
    · exact tab h3 q hq
theorem DI.apart {w : World} {g : Nat} {F : List Nat} {D : DS} (h : DI w g F D) {base e size : Nat} {v : Value} {n : Nat} {xs : List Value} (hv : w.ownsRow base e size v n xs) (he : e = 9 ∨ e = 3) : ∀ q, v.ownBlock = some q → q ∉ F := by
  intro q hq hm
  obtain ⟨cur, T, h1, h2, h3⟩ := h.types q hm
  obtain ⟨cur2, h4⟩ := own_type hv hq
  rw [h1] at h4
  injection h4 with h4
  injection h4 with _ h5 _
  subst h5
  rcases he with he | he
  · exact h2 he
  · exact h3 he
theorem own_moved {w w' : World} {g : Nat} {F F' : List Nat} {D : DS} (h : DI w g F D) (hm : Moved w w' F F') {base e size : Nat} {v : Value} {n : Nat} {xs : List Value} (hv : w.ownsRow base e size v n xs) (he : e = 9 ∨ e = 3) : w'.ownsRow base e size v n xs :=
  own_block hv (fun k hk => by
    obtain ⟨cur, hr⟩ := own_type hv hk
    exact hm.rest k (row_lt hr) (h.apart hv he k hk))
theorem own_other {w w' : World} {base base' e e' size size' : Nat} {v v' : Value} {n n' : Nat} {xs xs' : List Value} (hv : w.ownsRow base e size v n xs) (hv' : w.ownsRow base' e' size' v' n' xs') (hne : e ≠ e') (hg : w.grownBy w' v'.ownBlock) : w'.ownsRow base e size v n xs :=
  own_block hv (fun k hk => by
    obtain ⟨cur, hr⟩ := own_type hv hk
    refine hg.block k (row_lt hr) (fun e1 => ?_)
    obtain ⟨cur2, hr2⟩ := own_type hv' e1.symm
    rw [hr] at hr2
    injection hr2 with h4
    injection h4 with _ h5 _
    exact hne h5)
theorem DI.grown {w w' : World} {g : Nat} {F : List Nat} {D : DS} (h : DI w g F D) {base e size : Nat} {v : Value} {n : Nat} {xs : List Value} (hv : w.ownsRow base e size v n xs) (he : e = 9 ∨ e = 3) (hg : w.grownBy w' v.ownBlock) : DI w' g F D :=
  h.keep (fun q hq => hg.block q (h.lt q hq) (fun e1 => h.apart hv he q e1.symm hq))
theorem own_take {w : World} {base e g n cap m : Nat} {xs : List Value} (h : w.ownsRow base e 1 (.slice (some ⟨g, 0, none⟩) n cap) n xs) (hm : m ≤ n) : w.ownsRow base e 1 (.slice (some ⟨g, 0, none⟩) m cap) m (xs.take m) := by
  have hl := h.1
  refine ⟨by rw [List.length_take]; omega, ?_⟩
  rcases h.2 with ⟨e1, _⟩ | ⟨g', cap', cur, hv, hb, hr, q1, q2, q3, q4⟩
  · cases e1
  · injection hv with e1 e2 e3
    injection e1 with e1
    injection e1 with e1 _ _
    subst e1; subst e3
    refine Or.inr ⟨g, cap, cur, rfl, hb, hr, by omega, q2, q3, ?_⟩
    rw [← q4, List.take_take, show min m (n * 1) = m * 1 by omega]
theorem keyB_nodup {D : DS} (h : DInv D) : (keyB D.all).Nodup := by
  have h1 := h.nd
  unfold keyB
  have e : D.all.map (fun e => e.1.data.toList) = (D.all.map (·.1)).map (fun b : ByteArray => b.data.toList) := by rw [List.map_map]; rfl
  rw [e]
  unfold List.Nodup
  rw [List.pairwise_map]
  refine List.Pairwise.imp (fun {a b} hab heq => hab ?_) h1
  exact ByteArray.ext (Array.toList_inj.1 heq)
/-- the keys rise. -/
theorem keysS_rise {D : DS} (h : DInv D) : (keysS D).Pairwise (fun a b => Op.bytesLess a b = true) := by
  have h1 : (keysS D).Pairwise (fun a b : List UInt8 => decide (a ≤ b) = true) := List.pairwise_mergeSort (fun a b c => by simp only [decide_eq_true_eq]; exact List.le_trans) (fun a b => by simp only [Bool.or_eq_true, decide_eq_true_eq]; exact List.le_total a b) _
  have h2 : (keysS D).Nodup := (keysS_perm D).nodup_iff.2 (keyB_nodup h)
  refine (h1.and h2).imp (fun {a b} ⟨hle, hne⟩ => ?_)
  rcases hq : Op.bytesLess a b with _ | _
  · exfalso
    refine hne (bl_tri a b hq ?_)
    rw [bytesLess_eq]
    simp only [decide_eq_true_eq] at hle
    simpa using hle
  · rfl
end Go.Proofs.Ytdemodhjlbkbeab
