import Derived.Test.YtdemodhjlbkbeaaRL
import Derived.Test.YtdemodhjlbkbeaaSortS
import Derived.Test.YtdemodhjlbkbeaaRI
import Derived.Test.YtdemodhjlbkbeaaRows
import Derived.ProofKit
import Derived.OpenShut
import Derived.ShutString
import Derived.SizedLaws
import Derived.Deep.Slices
import Derived.Deep.Grids
import Derived.Carry
import Derived.Lib.ItoaMem
namespace Go.Proofs.Ytdemodhjlbkbeaa
open Go.RowKit
set_option linter.unusedVariables false
def keyB (es : List Ent) : List (List UInt8) := es.map fun e => e.1.data.toList
theorem keyV_enc (es : List Ent) : keyV es = (keyB es).map encStr := by unfold keyV keyB; rw [List.map_map]; rfl
theorem keyV_app (a b : List Ent) : keyV (a ++ b) = keyV a ++ keyV b := by unfold keyV; rw [List.map_append]
theorem keyV_len (a : List Ent) : (keyV a).length = a.length := by unfold keyV; simp
def keysS (D : DS) : List (List UInt8) := (keyB D.all).mergeSort fun x y => decide (x ≤ y)
theorem keysS_perm (D : DS) : (keysS D).Perm (keyB D.all) := List.mergeSort_perm _ _
theorem keysS_len (D : DS) : (keysS D).length = cnt D.T1 + cnt D.T2 := by
  rw [(keysS_perm D).length_eq, ← DS.all_len]; unfold keyB; simp
theorem sort_own (base : Nat) (v : Value) (ss : List (List UInt8)) (hl : ss.length ≤ 8796093022208) (w : World) (hv : v ≠ .slice none 0 0) (h : w.ownsRow base 9 1 v ss.length (ss.map encStr)) :
    Calls Try.prog 35 #[v] w fun e w' => e = .returned (.tuple #[]) ∧ w'.ownsRow base 9 1 v ss.length ((ss.mergeSort fun x y => decide (x ≤ y)).map encStr) ∧ w.grownBy w' v.ownBlock := by
  rcases h.2 with ⟨hnil, _⟩ | ⟨g, cap, cur, rfl, hbase, hb, h1, h2, h3, h4⟩
  · exact absurd hnil hv
  · refine (Try.slices_Sort_string g 0 cap ss w (holds_of_block hb (by simpa using h4)) (row_lt hb) (by omega)).mono ?_
    rintro e w' ⟨rfl, n, os, rfl⟩
    exact ⟨rfl, ownsRow_sorted (by simp) hbase hb h1 h2 h3, grownBy_sorted _⟩
/-- a table's turn among the two. -/
structure Turn (w : World) (A j : Nat) (T : List (List Ent)) (v : Value) (L : List Nat) (c : Int) : Prop where
  a : w.cell? ⟨A, j * 2, none⟩ = some v
  b : w.cell? ⟨A, j * 2 + 1, none⟩ = some (.int .i64 c)
  t : TabAt w v T L
def rowK (D : DS) (j : Nat) : List Ent := (([D.T1, D.T2].take j).flatten).flatten
theorem rowK_le (D : DS) (j : Nat) : (rowK D j).length ≤ cnt D.T1 + cnt D.T2 := by
  unfold rowK cnt
  match j with
  | 0 => simp
  | 1 => simp
  | j + 2 => simp
theorem rowK_two (D : DS) : rowK D 2 = D.all := by unfold rowK DS.all; simp
theorem flat_take_succ (T : List (List Ent)) (i : Nat) (h : i < T.length) : (T.take (i + 1)).flatten = (T.take i).flatten ++ T[i] := by
  rw [List.take_succ_eq_append_getElem h, List.flatten_append]; simp
theorem flat_take_le (T : List (List Ent)) (i : Nat) : ((T.take i).flatten).length ≤ cnt T := by
  unfold cnt
  conv => rhs; rw [← List.take_append_drop i T, List.flatten_append, List.length_append]
  omega
set_option maxHeartbeats 4000000 in
set_option maxRecDepth 100000 in
theorem Keys_any (g : Nat) (F : List Nat) (D : DS) (hD : DInv D) (hc : cnt D.T1 + cnt D.T2 ≤ 4398046511000) (w : World) (h : DI w g F D) :
    Calls Try.prog 15 #[.pointer (some ⟨g, 0, none⟩)] w fun e w' => ∃ v, e = .returned v ∧ v ≠ .slice none 0 0 ∧ w'.ownsRow w.heap.size 9 1 v (keysS D).length ((keysS D).map encStr) ∧ Below w.heap.size w w' := by
  obtain ⟨i0, hi0, hz0, hz1, hz2⟩ := info_parts info9
  have HLN : Hid _ := Len_all g F D hc w h
  have HDI : Hid (DI w g F D) := h
  have HIN : Hid (DInv D) := hD
  obtain ⟨N, hN⟩ : ∃ N, cnt D.T1 + cnt D.T2 = N := ⟨_, rfl⟩
  rw [hN] at HLN hc
  clear h hD
  go_enter Try.func15, Try.ntmps15
  go_wp2_with fail
  refine (show Calls _ _ _ _ _ from HLN.out).mono ?_
  rintro e w1 ⟨rfl, kq, hkq⟩
  have hb1 : Below w.heap.size w w1 := by rw [hkq]; exact below_dn (Below.refl _ _) kq
  have hs1 : w1.heap.size = w.heap.size := by rw [hkq]; rfl
  have HB1 : Hid (Below w.heap.size w w1) := hb1
  have HS1 : Hid (w1.heap.size = w.heap.size) := hs1
  clear hb1 hs1 hkq
  go_wp2_with (at_make; refine wpList_make_own _ rfl _ _ 28 rfl w.heap.size 9 i0 (.string ⟨#[]⟩) 1 Try.underlying28 hi0 hz0 hz1 .i64 .i64 (N : Int) N rfl rfl rfl (by rw [hz2]; omega) (by unfold maxLen; omega) (by rw [HS1.out]; exact Nat.le_refl _) ?_; intro w5 hown5 hgrow5)
  have hb5 : Below w.heap.size w w5 := HB1.out.trans ⟨hgrow5.os, hgrow5.tape, hgrow5.output, hgrow5.size, fun q hq => hgrow5.block q (by rw [HS1.out]; exact hq) (by simp)⟩
  have hk5 : w.heap.size < w5.heap.size := by
    have := World.ownsRow.lt hown5 w1.heap.size rfl
    rw [HS1.out] at this; exact this.2
  have HO5 : Hid (w5.ownsRow w.heap.size 9 1 (.slice (some ⟨w.heap.size, 0, none⟩) 0 N) 0 []) := by
    have q := hown5
    rw [HS1.out] at q; exact q
  have HD5 : Hid (DI w5 g F D) := HDI.out.on hb5
  have HB5 : Hid (Below w.heap.size w w5) := hb5
  rw [HS1.out]
  clear hown5 hgrow5 hb5 HLN HB1 HS1
  obtain ⟨v1, v2, L1, L2, h1, h2, h3, hF, h4⟩ := HD5.out
  obtain ⟨P1, k1, rfl⟩ := h2.form
  obtain ⟨P2, k2, rfl⟩ := h3.form
  have HT1 : Hid (TabAt w5 (.slice P1 D.T1.length k1) D.T1 L1) := h2
  have HT2 : Hid (TabAt w5 (.slice P2 D.T2.length k2) D.T2 L2) := h3
  have HF : Hid (F = g :: (L1 ++ L2)) := hF
  obtain ⟨c0, c1, c2, c3, c4, c5, cf⟩ := row6 h1
  clear h1 h2 h3 hF h4
  go_cut [18, 19, 20] from 10 to 20 (fun sa sl sc wx => sl = .int .i64 2 ∧ sc = .int .i64 0 ∧ ∃ A, sa = .slice (some ⟨A, 0, none⟩) 2 2 ∧ Below w5.heap.size w5 wx ∧ w5.heap.size ≤ A ∧ wx.heap[A]? = some (.cells #[.slice P1 D.T1.length k1, .int .i64 (cnt D.T1 : Nat), .slice P2 D.T2.length k2, .int .i64 (cnt D.T2 : Nat)] 56))
  case first =>
    go_region
    all_goals
      go_wp2_with fail
      go_meet
      refine ⟨rfl, rfl, _, rfl, ?_, ?_, one_alloc _ _⟩
      · exact (Below.refl w5.heap.size w5).drew.alloc (Nat.le_refl _) _
      · exact Nat.le_refl _
  case rest =>
    obtain ⟨rfl, rfl, A, rfl, hbc, hA, hrA⟩ := hcut
    have HBC : Hid (Below w5.heap.size w5 wc) := hbc
    have HRA : Hid _ := hrA
    have HKA : Hid (w5.heap.size ≤ A) := hA
    have HOC : Hid (wc.ownsRow w.heap.size 9 1 (.slice (some ⟨w.heap.size, 0, none⟩) 0 N) 0 []) := own_keep HO5.out (fun k _ hk => hbc.block k hk)
    have HBW : Hid (Below w.heap.size w wc) := HB5.out.trans (hbc.mono (Nat.le_of_lt hk5))
    have HDC : Hid (DI wc g F D) := HDI.out.on HBW.out
    have HTR : Hid (∀ j, j < 2 → ∃ T v L c, Turn wc A j T v L c ∧ (∀ q ∈ L, q < w.heap.size) ∧ rowK D (j + 1) = rowK D j ++ T.flatten ∧ (∃ P k, v = .slice P T.length k) ∧ (∀ x ∈ T.flatten, x.1.size ≤ 281474976710656) ∧ cnt T ≤ N ∧ T.length ≤ 4398046511104) := by
      intro j hj
      have hw1 := HT1.out.on hbc
      have hw2 := HT2.out.on hbc
      have hlt := HDI.out.lt
      rw [HF.out] at hlt
      match j, hj with
      | 0, _ => exact ⟨D.T1, _, L1, _, ⟨by rw [cell_of_row _ _ _ _ _ _ hrA]; rfl, by rw [cell_of_row _ _ _ _ _ _ hrA]; rfl, hw1⟩, fun q hq => hlt q (by simp [hq]), by unfold rowK; simp, ⟨_, _, rfl⟩, fun x hx => HIN.out.keys x (List.mem_append_left _ hx), by omega, HIN.out.sz1⟩
      | 1, _ => exact ⟨D.T2, _, L2, _, ⟨by rw [cell_of_row _ _ _ _ _ _ hrA]; rfl, by rw [cell_of_row _ _ _ _ _ _ hrA]; rfl, hw2⟩, fun q hq => hlt q (by simp [hq]), by unfold rowK; simp, ⟨_, _, rfl⟩, fun x hx => HIN.out.keys x (List.mem_append_right _ hx), by omega, HIN.out.sz2⟩
    clear hbc hrA hA HT1 HT2 c0 c1 c2 c3 c4 c5 cf HO5 HD5 HB5
    go_wp2_with fail
    go_loopw [20, 3] (fun ci ck wr => ∃ j : Nat, j ≤ 2 ∧ ci = .int .i64 (j : Int) ∧ wr.ownsRow w.heap.size 9 1 ck (rowK D j).length (keyV (rowK D j)) ∧ Grew wc wr (.slice (some ⟨w.heap.size, 0, none⟩) 0 N) ck) (fun ci _ _ => 2 - (intOf ci).toNat)
    case atStart => exact ⟨0, by omega, rfl, HOC.out, Grew.refl _ _⟩
    case round =>
      obtain ⟨j, hj, rfl, hoj, hgj⟩ := hrel
      have HOJ : Hid (wr.ownsRow w.heap.size 9 1 _ (rowK D j).length (keyV (rowK D j))) := hoj
      have HGJ : Hid (Grew wc wr (.slice (some ⟨w.heap.size, 0, none⟩) 0 N) _) := hgj
      obtain ⟨KP, KC, hkf⟩ := own_form hoj
      subst hkf
      have HKL : Hid ((rowK D j).length ≤ N) := by have := rowK_le D j; show _ ≤ _; omega
      by_cases hlt : j < 2
      · obtain ⟨T, v, L, cc, htu, hL, hrow, ⟨P, kk, rfl⟩, hky, hcT, hTl⟩ := HTR.out j hlt
        have HL : Hid _ := hL
        have HROW : Hid _ := hrow
        have HKY : Hid _ := hky
        have HKS : Hid ((rowK D j).length + cnt T ≤ N) := by
          have q1 := rowK_le D (j + 1)
          rw [hrow, List.length_append] at q1
          show _ ≤ _
          unfold cnt at q1 hN ⊢
          omega
        have hAl : A < wc.heap.size := row_lt HRA.out
        have hAo : (Value.slice (some ⟨w.heap.size, 0, none⟩) 0 N).ownBlock ≠ some A := by
          intro e
          have : w.heap.size = A := by simpa [Value.ownBlock] using e
          have := HKA.out; omega
        have hbr : ∀ q, q < wc.heap.size → q ≠ w.heap.size → wr.heap[q]? = wc.heap[q]? := fun q hq hn => hgj.fr.block q hq (fun e => hn (by simpa [Value.ownBlock] using e))
        have e0 : wr.cell? ⟨A, j * 2, none⟩ = some (.slice P T.length kk) := (World.cell?_of_block (a := ⟨A, j * 2, none⟩) (hbr A hAl (by have := HKA.out; omega))).trans htu.a
        have e1 : wr.cell? ⟨A, j * 2 + 1, none⟩ = some (.int .i64 cc) := (World.cell?_of_block (a := ⟨A, j * 2 + 1, none⟩) (hbr A hAl (by have := HKA.out; omega))).trans htu.b
        have HTA : Hid (TabAt wr (.slice P T.length kk) T L) := htu.t.keep (fun q hq => hbr q (htu.t.lt q hq) (by have := hL q hq; omega))
        have hz3 : (0 : Int) ≤ (j : Int) := by omega
        have hz4 : (j : Int) < 2 := by omega
        have HX : Hid _ := one_alloc wr (.cells #[.slice P T.length kk, .int .i64 cc] 56)
        obtain ⟨W0, hW0⟩ : ∃ W0, W0 = wr.alloc (.cells #[.slice P T.length kk, .int .i64 cc] 56) := ⟨_, rfl⟩
        have hbw : Below wr.heap.size wr W0 := by rw [hW0]; exact (Below.refl _ _).alloc (Nat.le_refl _) _
        rw [← hW0] at HX
        have HG0 : Hid (Grew wc W0 (.slice (some ⟨w.heap.size, 0, none⟩) 0 N) (.slice KP (rowK D j).length KC)) := hgj.trans (Grew.of_below _ hbw)
        have HO0 : Hid (W0.ownsRow w.heap.size 9 1 (.slice KP (rowK D j).length KC) (rowK D j).length (keyV (rowK D j))) := own_keep HOJ.out (fun k _ hk => hbw.block k hk)
        have HTB : Hid (TabAt W0 (.slice P T.length kk) T L) := HTA.out.on hbw
        obtain ⟨tb, htb⟩ : ∃ tb, wr.heap.size = tb := ⟨_, rfl⟩
        rw [htb] at HX
        have HTBL : Hid (w.heap.size ≤ tb) := by rw [← htb]; exact Nat.le_trans HBW.out.size hgj.fr.size
        have HTBN : Hid ((Value.slice KP (rowK D j).length KC).ownBlock ≠ some tb) := by
          intro e
          have := (World.ownsRow.lt HOJ.out tb e).2
          omega
        clear hoj hgj hbw hbr htu hAo hAl
        go_upto_region 5 with fail
        rw [← hW0]
        clear hW0 e0 e1
        obtain ⟨x0, x1, xf⟩ := row2 HX.out
        have HSZ : Hid _ := size_any tb 0 P T.length kk W0 x0
        go_wp2_with fail
        refine (show Calls _ _ _ _ _ from HSZ.out).mono ?_
        rintro e w7 ⟨rfl, rfl⟩
        go_wp2
        go_loopw [25, 3, 6] (fun ci ck _ wi => ∃ i M : Nat, i ≤ T.length ∧ ci = .int .i64 (i : Int) ∧ M = (rowK D j).length + ((T.take i).flatten).length ∧ wi.ownsRow w.heap.size 9 1 ck M (keyV (rowK D j) ++ keyV (T.take i).flatten) ∧ Grew w7 wi (.slice KP (rowK D j).length KC) ck) (fun ci _ _ _ => T.length - (intOf ci).toNat)
        case atStart => exact ⟨0, (rowK D j).length, by omega, rfl, by simp, by simpa [keyV] using HO0.out, Grew.refl _ _⟩
        case round =>
          obtain ⟨i, M, hi, rfl, hM, hoi, hgi⟩ := hrel
          have HM : Hid _ := hM
          clear hM
          have HOI : Hid (wr.ownsRow w.heap.size 9 1 _ M (keyV (rowK D j) ++ keyV (T.take i).flatten)) := hoi
          have HGI : Hid (Grew w7 wr (.slice KP (rowK D j).length KC) _) := hgi
          obtain ⟨KP2, KC2, hkf⟩ := own_form hoi
          subst hkf
          by_cases hil : i < T.length
          · obtain ⟨B, bvs, hv, hne, hI, hLe⟩ : ∃ B bvs, Value.slice P T.length kk = .slice (some ⟨B, 0, none⟩) T.length T.length ∧ T ≠ [] ∧ TabIs w7 0 B bvs T ∧ L = B :: bblocks bvs := by
              rcases HTB.out with ⟨_, e, _⟩ | h
              · rw [e] at hil; simp at hil
              · exact h
            have hsz7 : w.heap.size ≤ w7.heap.size := by have := row_lt HX.out; have := HTBL.out; omega
            have hKb : ∀ q, (Value.slice KP (rowK D j).length KC).ownBlock = some q → w.heap.size ≤ q := fun q hq => (World.ownsRow.lt HO0.out q hq).1
            have hKi : ∀ q, (Value.slice KP2 M KC2).ownBlock = some q → w.heap.size ≤ q := fun q hq => (World.ownsRow.lt HOI.out q hq).1
            have hbi : ∀ q, q < w.heap.size → wr.heap[q]? = w7.heap[q]? := fun q hq => hgi.fr.block q (by omega) (fun e => by have := hKb q e.symm; omega)
            have HTI : Hid (TabIs wr 0 B bvs T) := hI.keep (hbi B (HL.out B (by rw [hLe]; simp))) (fun E hE => hbi E (HL.out E (by rw [hLe]; simp [hE])))
            have hrt := hgi.keep HX.out HTBN.out
            have ct := (row2 hrt).1
            rw [hv] at ct
            have hfl := flat_take_le T i
            have hle := len_le_cnt T i hil
            have HMT : Hid _ := meet_tab tb 0 B T.length i bvs T rfl hil (by omega) (fun x hx => HKY.out x (List.mem_flatten.2 ⟨_, List.getElem_mem hil, hx⟩)) w.heap.size M (by have := HM.out; have := HKS.out; omega) _ _ wr (Nat.le_trans hsz7 hgi.fr.size) HOI.out ct HTI.out (fun q hq e => by have := hKi q e; have := HL.out q (by rw [hLe]; simp [hq]); omega)
            have HFT : Hid _ := flat_take_succ T i hil
            clear hoi hgi hv hne hI hLe hsz7 hKb hKi hbi hrt ct hfl hle x0 x1 xf
            have hiw : IntKind.i64.wrap ((i : Int) + 1) = (i : Int) + 1 := by rw [IntKind.wrap_i64] <;> omega
            go_wp2_with fail
            refine (show Calls _ _ _ _ _ from HMT.out).mono ?_
            rintro e w8 ⟨r, rfl, ho8, hg8⟩
            have HO8 : Hid (w8.ownsRow w.heap.size 9 1 r (M + T[i].length) (keyV (rowK D j) ++ keyV (T.take (i + 1)).flatten)) := by
              show World.ownsRow _ _ _ _ _ _ _
              rw [HFT.out, keyV_app, ← List.append_assoc]; exact ho8
            have HM8 : Hid (M + T[i].length = (rowK D j).length + ((T.take (i + 1)).flatten).length) := by
              show _ = _
              rw [HFT.out, List.length_append, HM.out]; omega
            have HG8 : Hid (Grew w7 w8 (.slice KP (rowK D j).length KC) r) := HGI.out.trans hg8
            clear ho8 hg8
            go_wp2
            go_roundw
            case rel => exact ⟨i + 1, M + T[i].length, hil, by simp, HM8.out, HO8.out, HG8.out⟩
            case measure => simp [intOf]; omega
          · have hie : i = T.length := by omega
            subst hie
            have HOE : Hid (wr.ownsRow w.heap.size 9 1 (.slice KP2 M KC2) (rowK D (j + 1)).length (keyV (rowK D (j + 1)))) := by
              show World.ownsRow _ _ _ _ _ _ _
              have q := HOI.out
              have q2 := HM.out
              rw [List.take_length] at q q2
              rw [HROW.out, keyV_app, List.length_append, ← q2]
              exact q
            have HGE : Hid (Grew wc wr (.slice (some ⟨w.heap.size, 0, none⟩) 0 N) (.slice KP2 M KC2)) := HG0.out.trans hgi
            clear hoi hgi HOI HGI x0 x1 xf
            go_wp2
            go_roundw
            case rel => exact ⟨j + 1, hlt, by simp, HOE.out, HGE.out⟩
            case measure => simp [intOf]; omega
      · have hje : j = 2 := by omega
        subst hje
        have hsl : (keyB D.all).length = (rowK D 2).length := by rw [rowK_two]; unfold keyB; simp
        have HOF : Hid (wr.ownsRow w.heap.size 9 1 (.slice KP (rowK D 2).length KC) (keyB D.all).length ((keyB D.all).map encStr)) := by
          show World.ownsRow _ _ _ _ _ _ _
          rw [← keyV_enc, hsl]
          have q := hoj
          rw [rowK_two] at q ⊢
          exact q
        have HNE : Hid (Value.slice KP (rowK D 2).length KC ≠ .slice none 0 0) := hgj.ne (by simp)
        have HSO : Hid _ := sort_own w.heap.size (.slice KP (rowK D 2).length KC) (keyB D.all) (by rw [hsl]; have := HKL.out; omega) wr HNE.out HOF.out
        have HBR : Hid (Below w.heap.size w wr) := HBW.out.trans (hgj.below HBW.out.size (fun q hq => by have : w.heap.size = q := (by simpa [Value.ownBlock] using hq); omega))
        clear hoj hgj hsl
        go_wp2_with fail
        refine (show Calls _ _ _ _ _ from HSO.out).mono ?_
        rintro e w9 ⟨rfl, ho9, hg9⟩
        have HO9 : Hid (w9.ownsRow w.heap.size 9 1 (.slice KP (rowK D 2).length KC) (keysS D).length ((keysS D).map encStr)) := by
          show World.ownsRow _ _ _ _ _ _ _
          rw [(keysS_perm D).length_eq]; exact ho9
        have HB9 : Hid (Below w.heap.size w w9) := HBR.out.grown hg9 HBR.out.size (fun k hk => (World.ownsRow.lt HOF.out k hk).1)
        clear ho9 hg9
        go_wp2
        go_returns
        exact ⟨_, rfl, HNE.out, HO9.out, HB9.out⟩
end Go.Proofs.Ytdemodhjlbkbeaa
namespace Go.Proofs.Ytdemodhjlbkbeaa
open Go.RowKit
set_option linter.unusedVariables false
/-- a row of texts in memory. -/
def StrRow (W : World) (v : Value) (ss : List ByteArray) : Prop := ∃ ad cap, v = .slice ad ss.length cap ∧ (ss ≠ [] → ∃ g off, ad = some ⟨g, off, none⟩ ∧ ∀ j (h : j < ss.length), W.cell? ⟨g, off + j, none⟩ = some (.string ss[j]))
theorem StrRow.nil (W : World) : StrRow W (.slice none 0 0) [] := ⟨none, 0, rfl, fun h => absurd rfl h⟩
theorem StrRow.of_own {W : World} {base n : Nat} {v : Value} {ss : List (List UInt8)} (h : W.ownsRow base 9 1 v n (ss.map encStr)) (hn : n = ss.length) : StrRow W v (ss.map strB) := by
  subst hn
  rcases h.2 with ⟨rfl, h0⟩ | ⟨g, cap, cur, rfl, _, hg, _, _, _, ht⟩
  · have : ss = [] := List.length_eq_zero_iff.1 h0
    subst this; exact StrRow.nil W
  · refine ⟨some ⟨g, 0, none⟩, cap, by simp, fun _ => ⟨g, 0, rfl, fun j hj => ?_⟩⟩
    rw [List.length_map] at hj
    rw [Nat.zero_add, cell_of_row _ _ _ _ _ _ hg]
    have this : (cur.toList.take (ss.length * 1))[j]? = (ss.map encStr)[j]? := by rw [ht]
    rw [List.getElem?_take_of_lt (by omega), Array.getElem?_toList] at this
    rw [this, List.getElem?_map, List.getElem?_eq_getElem hj, List.getElem_map]
    rfl
def inB (ss : List ByteArray) (k : ByteArray) : Bool := ss.any fun s => s.toList == k.toList
theorem inB_iff (ss : List ByteArray) (k : ByteArray) : inB ss k = true ↔ k ∈ ss := by
  unfold inB
  rw [List.any_eq_true]
  constructor
  · rintro ⟨x, hx, h⟩
    have h2 : x.toList = k.toList := by simpa using h
    rw [ByteArray.toList_eq, ByteArray.toList_eq] at h2
    have : x = k := ByteArray.ext (Array.toList_inj.1 h2)
    subst this; exact hx
  · intro h; exact ⟨k, h, by simp⟩
theorem inB_no (ss : List ByteArray) (k : ByteArray) : inB ss k = false ↔ k ∉ ss := by
  rw [← inB_iff]; simp
set_option maxHeartbeats 1000000 in
set_option maxRecDepth 100000 in
theorem has_any (v : Value) (ss : List ByteArray) (hl : ss.length ≤ 9223372036854775807) (k : ByteArray) (w : World) (h : StrRow w v ss) : Calls Try.prog 21 #[v, .string k] w fun e w' => e = .returned (.bool (inB ss k)) ∧ w' = w := by
  obtain ⟨ad, cap, rfl, hc⟩ := h
  have HC : Hid _ := hc
  clear hc
  go_enter Try.func21, Try.ntmps21
  go_wp2
  go_loopw [5] (fun ci wr => wr = w ∧ ∃ j : Nat, j ≤ ss.length ∧ ci = .int .i64 (j : Int) ∧ ∀ t (ht : t < ss.length), t < j → ss[t] ≠ k) (fun ci _ => ss.length - (intOf ci).toNat)
  case atStart => exact ⟨rfl, 0, Nat.zero_le _, rfl, fun t _ h => by omega⟩
  case round =>
    obtain ⟨rfl, j, hj, rfl, hno⟩ := hrel
    have HNO : Hid _ := hno
    clear hno
    by_cases hlt : j < ss.length
    · obtain ⟨g, off, rfl, hcell⟩ := HC.out (fun e => by rw [e] at hlt; simp at hlt)
      have hcj := hcell j hlt
      have hz3 : (0 : Int) ≤ (j : Int) := by omega
      have hz4 : (j : Int) < (ss.length : Int) := by omega
      by_cases heq : ss[j] = k
      · have hsame : (ss[j].toList == k.toList) = true := by rw [heq]; simp
        have HR : Hid (inB ss k = true) := (inB_iff ss k).2 (heq ▸ List.getElem_mem hlt)
        clear hcell heq
        generalize ss[j] = X at *
        go_wp2
        go_returns
        rw [HR.out]; exact ⟨rfl, rfl⟩
      · have hother : (ss[j].toList == k.toList) = false := str_other (fun e => heq (ByteArray.ext (Array.toList_inj.1 e)))
        have HN2 : Hid (∀ t (ht : t < ss.length), t < j + 1 → ss[t] ≠ k) := fun t ht h1 => by
          rcases Nat.lt_or_ge t j with h2 | h2
          · exact HNO.out t ht h2
          · have : t = j := by omega
            subst this; exact heq
        have hjw : IntKind.i64.wrap ((j : Int) + 1) = (j : Int) + 1 := by rw [IntKind.wrap_i64] <;> omega
        clear hcell heq
        generalize ss[j] = X at *
        go_wp2
        go_roundw
        case rel => exact ⟨by trivial, j + 1, hlt, by simp, HN2.out⟩
        case measure => simp [intOf]; omega
    · have HR : Hid (inB ss k = false) := by
        refine (inB_no ss k).2 ?_
        intro hm
        obtain ⟨t, ht, e⟩ := List.mem_iff_getElem.1 hm
        exact HNO.out t ht (by omega) e
      go_wp2
      go_returns
      rw [HR.out]; exact ⟨rfl, rfl⟩
/-- one change. -/
def chgD (D : DS) (stay : List ByteArray) (kd : Int) (k : ByteArray) (n : Int) : DS :=
  if kd = 0 then setD D k n else if kd = 1 then (if inB stay k then D else deleteD D k) else if kd = 2 then stepN (Int.tmod n 100).toNat D else D
theorem chgD_ok {D : DS} (h : DInv D) (stay : List ByteArray) (kd : Int) (k : ByteArray) (hk : k.size ≤ 281474976710656) (n : Int) (hc : cnt D.T1 + cnt D.T2 < 4398046511000) : DInv (chgD D stay kd k n) ∧ cnt (chgD D stay kd k n).T1 + cnt (chgD D stay kd k n).T2 ≤ cnt D.T1 + cnt D.T2 + 1 := by
  unfold chgD
  split
  · have q := setD_ok h k hk n hc
    refine ⟨q.inv, ?_⟩
    rw [← DS.all_len, ← DS.all_len]
    rcases hb : (stepD D).has k with _ | _
    · rw [hb] at q
      rw [(q.fresh rfl).2.length_eq]; simp
    · rw [hb] at q
      obtain ⟨v0, R, p1, p2⟩ := q.old rfl
      rw [p1.length_eq, p2.length_eq]; simp
  · split
    · split
      · exact ⟨h, by omega⟩
      · have q := deleteD_ok h k
        refine ⟨q.inv, ?_⟩
        rw [← DS.all_len, ← DS.all_len]
        rcases hb : (stepD D).has k with _ | _
        · rw [hb] at q
          rw [(q.miss rfl).2.length_eq]; omega
        · rw [hb] at q
          obtain ⟨v0, p1⟩ := q.hit rfl
          rw [p1.length_eq]; simp; omega
    · split
      · obtain ⟨q1, q2, _⟩ := stepN_ok (Int.tmod n 100).toNat h
        exact ⟨q1, by rw [cnt_perm q2]; omega⟩
      · exact ⟨h, by omega⟩
set_option maxHeartbeats 1000000 in
set_option maxRecDepth 100000 in
theorem changed_any (g : Nat) (F : List Nat) (D : DS) (hD : DInv D) (sv : Value) (stay : List ByteArray) (hsl : stay.length ≤ 9223372036854775807) (kd : Int) (k : ByteArray) (hk : k.size ≤ 281474976710656) (n : Int) (hc : cnt D.T1 + cnt D.T2 < 4398046511000) (w : World) (hS : StrRow w sv stay) (hlt : ∀ W, Below w.heap.size w W → StrRow W sv stay) (h : DI w g F D) :
    Calls Try.prog 18 #[.pointer (some ⟨g, 0, none⟩), sv, .agg #[.int .i64 kd, .string k, .int .i64 n]] w fun e w' => e = .returned (.tuple #[]) ∧ ∃ F', DI w' g F' (chgD D stay kd k n) ∧ Moved w w' F F' := by
  have HX : Hid _ := one_alloc w (.cells #[.int .i64 kd, .string k, .int .i64 n] 31)
  obtain ⟨W0, hW0⟩ : ∃ W0, W0 = w.alloc (.cells #[.int .i64 kd, .string k, .int .i64 n] 31) := ⟨_, rfl⟩
  have hbw : Below w.heap.size w W0 := by rw [hW0]; exact (Below.refl _ _).alloc (Nat.le_refl _) _
  rw [← hW0] at HX
  have HD0 : Hid (DI W0 g F D) := h.on hbw
  have HM0 : Hid (Moved w W0 F F) := Moved.of_below hbw
  have HHA : Hid _ := has_any sv stay hsl k W0 (hlt W0 hbw)
  have x0 : W0.cell? ⟨w.heap.size, 0, none⟩ = some (.int .i64 kd) := by rw [cell_of_row _ _ _ _ _ _ HX.out]; rfl
  have x1 : W0.cell? ⟨w.heap.size, 1, none⟩ = some (.string k) := by rw [cell_of_row _ _ _ _ _ _ HX.out]; rfl
  have x2 : W0.cell? ⟨w.heap.size, 2, none⟩ = some (.int .i64 n) := by rw [cell_of_row _ _ _ _ _ _ HX.out]; rfl
  have HSE : Hid _ := Set_any g F D hD k hk n hc W0 HD0.out
  have HDE : Hid _ := Delete_any g F D hD k hk hc W0 HD0.out
  have hmod : -9223372036854775808 ≤ Int.tmod n 100 ∧ Int.tmod n 100 ≤ 9223372036854775807 := by
    have h1 := Int.lt_tmod_of_pos n (b := 100) (by omega)
    have h2 := Int.tmod_lt_of_pos n (b := 100) (by omega)
    omega
  have HSP : Hid _ := Step_any g F D hD (Int.tmod n 100) hmod (by omega) W0 HD0.out
  obtain ⟨SP, Sn, Sc, hsf⟩ : ∃ P n c, sv = .slice P n c := by obtain ⟨ad, cap, e, _⟩ := hS; exact ⟨_, _, _, e⟩
  subst hsf
  unfold chgD
  clear h hD hS hlt hbw HX
  by_cases h0 : kd = 0
  · subst h0
    rw [if_pos rfl]
    go_enter Try.func18, Try.ntmps18
    go_upto_region 1 with fail
    rw [← hW0]
    clear hW0
    go_wp2_with fail
    refine (show Calls _ _ _ _ _ from HSE.out).mono ?_
    rintro e w1 ⟨rfl, F1, hd1, hm1⟩
    have HD1 : Hid (DI w1 g F1 (setD D k n)) := hd1
    have HM1 : Hid (Moved w w1 F F1) := HM0.out.trans hm1
    clear hd1 hm1 x0 x1 x2
    go_wp2
    go_returns
    exact ⟨rfl, F1, HD1.out, HM1.out⟩
  · rw [if_neg h0]
    have hd0 : (kd == 0) = false := by simpa using h0
    by_cases h1 : kd = 1
    · subst h1
      rw [if_pos rfl]
      by_cases hst : inB stay k = true
      · rw [hst] at HHA
        rw [if_pos hst]
        go_enter Try.func18, Try.ntmps18
        go_upto_region 1 with fail
        rw [← hW0]
        clear hW0
        go_wp2_with fail
        refine (show Calls _ _ _ _ _ from HHA.out).mono ?_
        rintro e w1 ⟨rfl, rfl⟩
        clear x0 x1 x2
        go_wp2
        go_returns
        exact ⟨rfl, F, HD0.out, HM0.out⟩
      · rw [show inB stay k = false by simpa using hst] at HHA
        rw [if_neg hst]
        go_enter Try.func18, Try.ntmps18
        go_upto_region 1 with fail
        rw [← hW0]
        clear hW0
        go_wp2_with fail
        refine (show Calls _ _ _ _ _ from HHA.out).mono ?_
        rintro e w1 ⟨rfl, rfl⟩
        go_wp2_with fail
        refine (show Calls _ _ _ _ _ from HDE.out).mono ?_
        rintro e w1 ⟨rfl, F1, hd1, hm1⟩
        have HD1 : Hid (DI w1 g F1 (deleteD D k)) := hd1
        have HM1 : Hid (Moved w w1 F F1) := HM0.out.trans hm1
        clear hd1 hm1 x0 x1 x2
        go_wp2
        go_returns
        exact ⟨rfl, F1, HD1.out, HM1.out⟩
    · rw [if_neg h1]
      have hd1 : (kd == 1) = false := by simpa using h1
      by_cases h2 : kd = 2
      · subst h2
        rw [if_pos rfl]
        go_enter Try.func18, Try.ntmps18
        go_upto_region 1 with fail
        rw [← hW0]
        clear hW0
        go_wp2_with fail
        refine (show Calls _ _ _ _ _ from HSP.out).mono ?_
        rintro e w1 ⟨rfl, F1, hd1, hm1⟩
        have HD1 : Hid (DI w1 g F1 (stepN (Int.tmod n 100).toNat D)) := hd1
        have HM1 : Hid (Moved w w1 F F1) := HM0.out.trans hm1
        clear hd1 hm1 x0 x1 x2
        go_wp2
        go_returns
        exact ⟨rfl, F1, HD1.out, HM1.out⟩
      · rw [if_neg h2]
        have hd2 : (kd == 2) = false := by simpa using h2
        go_enter Try.func18, Try.ntmps18
        go_upto_region 1 with fail
        rw [← hW0]
        clear hW0
        go_wp2
        go_returns
        exact ⟨rfl, F, HD0.out, HM0.out⟩
end Go.Proofs.Ytdemodhjlbkbeaa
namespace Go.Proofs.Ytdemodhjlbkbeaa
open Go.ChangeShapes Go.WideShapes Go.RowKit
set_option linter.unusedVariables false
/-- a step of a script in memory. -/
structure OpAt (W : World) (g off i : Nat) (kd : Int) (k : ByteArray) (n : Int) : Prop where
  a : W.cell? ⟨g, off + i * 3, none⟩ = some (.int .i64 kd)
  b : W.cell? ⟨g, off + i * 3 + 1, none⟩ = some (.string k)
  c : W.cell? ⟨g, off + i * 3 + 2, none⟩ = some (.int .i64 n)
  k : k.size ≤ 140737488351232
  n : -9223372036854775808 ≤ n ∧ n ≤ 9223372036854775807
theorem OpAt.lt {W : World} {g off i : Nat} {kd : Int} {k : ByteArray} {n : Int} (h : OpAt W g off i kd k n) : g < W.heap.size := lt_of_cell h.a
theorem OpAt.keep {W W' : World} {g off i : Nat} {kd : Int} {k : ByteArray} {n : Int} (h : OpAt W g off i kd k n) (hb : Below W.heap.size W W') : OpAt W' g off i kd k n :=
  ⟨cell_on h.a hb, cell_on h.b hb, cell_on h.c hb, h.k, h.n⟩
theorem cellsI : Try.prog.cellsOf 3 = 1 := by kernel_rfl
theorem cellsS : Try.prog.cellsOf 9 = 1 := by kernel_rfl
theorem cellsOx : Try.prog.cellsOf 31 = 3 := by kernel_rfl
theorem bytesOx : Try.prog.bytesOf 31 = 32 := by kernel_rfl
theorem weights_elem {H : Type} (P : Program) (e : TypeId) (l : List (DataW H)) (d : DataW H) (hd : d ∈ l) (n : Nat) (hn : n ∈ d.weights P e) : n ∈ DataW.weightsAll P e l := by
  induction l with
  | nil => cases hd
  | cons y l ih =>
    simp only [DataW.weightsAll, List.mem_append]
    rcases List.mem_cons.1 hd with rfl | h
    · exact Or.inl hn
    · exact Or.inr (ih h)
set_option maxRecDepth 100000 in
theorem open_ops {H : Type} {enc : TypeId × Value → H} {W : World} {fuel : Nat} {ad : Option Addr} {len cap : Nat} {x : DataW H × List MemPlace} {ts : List TypeId} {ds : List (DataW H)} {j : Nat}
    (h : DataW.trod enc Try.prog W 0 (fun _ => true) true fuel 25 [.slice ad len cap] = some x)
    (hsz : (DataW.weightsEach Try.prog ts ds).all (· ≤ reachBytes) = true) (ht : ts[j]? = some 25) (hd : ds[j]? = some x.1) :
    ∃ g off, (len ≠ 0 → ad = some ⟨g, off, none⟩) ∧ len ≤ 4398046510976 ∧ ∀ i, i < len → ∃ kd k n, OpAt W g off i kd k n := by
  rcases Go.Deep.open_slice Try.underlying25 h with ⟨hcs, hx⟩ | ⟨a, len', cap', m, n, D, Pl, hcs, _, hl, hm, hmm, hx, hcell⟩
  · simp at hcs
    obtain ⟨rfl, rfl, rfl⟩ := hcs
    exact ⟨0, 0, fun h => absurd rfl h, Nat.zero_le _, fun i hi => by omega⟩
  · simp at hcs
    obtain ⟨rfl, rfl, rfl⟩ := hcs
    subst hx
    simp only [if_true] at hmm
    subst hmm
    have hw : ∀ i, i < len → ∀ z, z ∈ (D i).weights Try.prog 31 → z ≤ reachBytes := by
      intro i hi z hz
      have hmem : z ∈ DataW.weightsEach Try.prog ts ds := by
        refine DataW.weights_mem_each ht hd _ ?_
        simp only [DataW.weights, Try.underlying25, List.mem_cons, List.mem_append]
        exact Or.inr (Or.inl (weights_elem _ _ _ (D i) (List.mem_map.2 ⟨i, List.mem_range.2 hi, rfl⟩) z hz))
      have := List.all_eq_true.1 hsz _ hmem
      exact of_decide_eq_true this
    have hlen : len ≤ 4398046510976 := by
      have := sized_slice hsz ht hd Try.underlying25
      rw [bytesOx] at this
      simp only [List.length_map, List.length_range, reachBytes] at this
      omega
    obtain ⟨g, off, spot⟩ := a
    have hsp : len ≠ 0 → spot = none := fun h => by
      obtain ⟨cs', h1, h2⟩ := hcell 0 (by omega)
      rw [cellsOx] at h1
      obtain ⟨_, hlen4, hc4⟩ := World.cells?_some h1
      have c0 := hc4 0 (by omega)
      obtain ⟨v0, hv0⟩ : ∃ v0, cs'[0]? = some v0 := ⟨_, List.getElem?_eq_getElem (by omega)⟩
      rw [hv0] at c0
      simpa [Addr.add] using World.cell?_spot c0
    refine ⟨g, off, fun h => by rw [hsp h], hlen, fun i hi => ?_⟩
    obtain ⟨cs', h1, h2⟩ := hcell i (by omega)
    have hs := hsp (by omega)
    subst hs
    rw [cellsOx] at h1
    obtain ⟨_, hlen4, hc4⟩ := World.cells?_some h1
    obtain ⟨xs, k, hk, hxy, _, hxl, hf⟩ := DataW.trod_struct Try.underlying31 h2
    match xs, hxl, cs', hlen4 with
    | [y0, y1, y2], _, [v0, v1, v2], _ =>
      have g0 := hf 0 _ rfl
      have g1 := hf 1 _ rfl
      have g2 := hf 2 _ rfl
      simp [cellsI, cellsS] at g0 g1 g2
      have c0 := hc4 0 (by omega)
      have c1 := hc4 1 (by omega)
      have c2 := hc4 2 (by omega)
      rw [Go.Deep.add_add] at c0 c1 c2
      simp only [Prod.mk.injEq] at hxy
      obtain ⟨z0, e0, _, _⟩ := DataW.trod_int Try.underlying3 g0
      obtain ⟨z1, e1, hy1, _⟩ := DataW.trod_string Try.underlying9 g1
      obtain ⟨z2, e2, _, hw2⟩ := DataW.trod_int Try.underlying3 g2
      simp at e0 e1 e2
      simp [Lit.wf, IntKind.min, IntKind.max, IntKind.signed, IntKind.bits] at hw2
      have hks : z1.size ≤ 140737488351232 := by
        have hz' : z1.size ∈ (D i).weights Try.prog 31 := by
          rw [hxy.1]
          simp only [DataW.weights, Try.underlying31]
          refine DataW.weights_mem_each (j := 1) rfl rfl _ ?_
          rw [hy1]
          simp [DataW.weights]
        have := hw i hi _ hz'
        simpa [reachBytes] using this
      subst e0; subst e1; subst e2
      rw [Lib.add_plain] at c0 c1 c2
      refine ⟨z0, z1, z2, ?_, ?_, ?_, hks, ⟨by omega, by omega⟩⟩
      · simpa using c0
      · simpa [Nat.add_assoc] using c1
      · simpa [Nat.add_assoc] using c2
end Go.Proofs.Ytdemodhjlbkbeaa
