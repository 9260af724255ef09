import Derived.Test.YtdemodhjlbkbeabRG
namespace Go.Proofs.Ytdemodhjlbkbeab
open Go.RowKit
set_option linter.unusedVariables false
theorem Only.dn {w w' : World} {g : Nat} (h : Only w w' g) (n : Nat) : Only w (w'.drewN n) g := ⟨h.os, h.tape, h.output, h.size, h.other⟩
def ixOf (g : Nat) (w : World) : Nat := match w.cell? ⟨g, 5, none⟩ with
  | some (.int _ z) => z.toNat
  | _ => 0
theorem DI.only {w w' : World} {g : Nat} {F : List Nat} {D : DS} {i : Nat} (h : DI w g F D) (ho : Only w w' g) {v1 v2 : Value}
    (h0 : w.heap[g]? = some (.cells (dca D.seed v1 (cnt D.T1 : Nat) v2 (cnt D.T2 : Nat) (D.ix : Nat)) 56)) (hg : w'.heap[g]? = some (.cells (dca D.seed v1 (cnt D.T1 : Nat) v2 (cnt D.T2 : Nat) (i : Nat)) 56)) :
    DI w' g F ⟨D.seed, D.T1, D.T2, i⟩ ∧ Moved w w' F F := by
  obtain ⟨x1, x2, L1, L2, h1, h2, h3, rfl, h4⟩ := h
  rw [h0] at h1
  have e : dca D.seed v1 (cnt D.T1 : Nat) v2 (cnt D.T2 : Nat) (D.ix : Nat) = dca D.seed x1 (cnt D.T1 : Nat) x2 (cnt D.T2 : Nat) (D.ix : Nat) := by
    injection h1 with h1; injection h1
  have e1 : v1 = x1 := by have := congrArg (fun a => a[1]?) e; simpa [dca] using this
  have e2 : v2 = x2 := by have := congrArg (fun a => a[3]?) e; simpa [dca] using this
  subst e1; subst e2
  obtain ⟨n1, n2⟩ := List.nodup_cons.1 h4
  refine ⟨⟨_, _, L1, L2, hg, h2.keep (fun E hE => ho.other E (fun e => n1 (by simp [← e, hE]))), h3.keep (fun E hE => ho.other E (fun e => n1 (by simp [← e, hE]))), rfl, h4⟩, ⟨ho.os, ho.tape, ho.output, Nat.le_of_eq ho.size.symm, fun q hq hn => ho.other q (fun e => hn (by simp [e])), fun q hq => Or.inl hq⟩⟩
theorem TabIs.at {W : World} {B : Nat} {bvs : Array Value} {T : List (List Ent)} (h : TabIs W 0 B bvs T) (i : Nat) (hi : i < T.length) : ∃ P c, W.cell? ⟨B, i, none⟩ = some (.slice P T[i].length c) ∧ T[i].length ≤ c := by
  obtain ⟨bv, h1, h2⟩ := h.each i hi
  rcases h2 with ⟨rfl, e⟩ | ⟨E, c, rfl, _, hx⟩
  · exact ⟨none, 0, by rw [cell_of_row _ _ _ _ _ _ h.row, e]; exact h1, by rw [e]; exact Nat.le_refl _⟩
  · exact ⟨_, c, by rw [cell_of_row _ _ _ _ _ _ h.row]; exact h1, hx.le⟩
theorem bucket_nd {D : DS} (h : DInv D) {i : Nat} (hi : i < D.T1.length) : ((D.T1[i] ++ D.T2.flatten).map (·.1)).Nodup := by
  obtain ⟨R, p1, _⟩ := set_flat D.T1 i hi []
  have hpa : (D.T1[i] ++ (R ++ D.T2.flatten)).Perm D.all := by
    rw [← List.append_assoc]; exact (p1.append_right _).symm
  have h1 := h.nd
  rw [← (hpa.map _).nodup_iff] at h1
  refine List.Sublist.nodup (List.Sublist.map _ ?_) h1
  exact List.Sublist.append_left (List.sublist_append_right _ _) _
abbrev foldT (seed : Int) (es : List Ent) (T : List (List Ent)) : List (List Ent) := es.foldl (fun T e => tadd seed T e.1 e.2) T
theorem fold_next {seed : Int} {es : List Ent} {T : List (List Ent)} (hw : TWf seed T) (hne : T ≠ []) (hnd : ((es ++ T.flatten).map (·.1)).Nodup) (j : Nat) (hj : j < es.length) :
    TWf seed (foldT seed (es.take j) T) ∧ (foldT seed (es.take j) T).length = T.length ∧ thas seed (foldT seed (es.take j) T) es[j].1 = false ∧ cnt (foldT seed (es.take j) T) = j + cnt T ∧ foldT seed (es.take (j + 1)) T = tadd seed (foldT seed (es.take j) T) es[j].1 es[j].2 := by
  have hsub : (es.take j ++ T.flatten).Sublist (es ++ T.flatten) := List.Sublist.append_right (List.take_sublist _ _) _
  obtain ⟨f1, f2, f3⟩ := fold_add seed (es.take j) T hw hne (List.Sublist.nodup (List.Sublist.map _ hsub) hnd)
  refine ⟨f1, f2, thas_keys f1 (fun hm => ?_), ?_, ?_⟩
  · rw [(f3.map _).mem_iff, List.map_append, List.mem_append] at hm
    rw [List.map_append] at hnd
    have h3 := List.nodup_append.1 hnd
    rcases hm with hm | hm
    · have h1 := h3.1
      have hx : (es.map (·.1)) = (es.take j).map (·.1) ++ (es.drop j).map (·.1) := by rw [← List.map_append, List.take_append_drop]
      rw [hx] at h1
      exact (List.nodup_append.1 h1).2.2 _ hm es[j].1 (List.mem_map.2 ⟨es[j], (List.drop_eq_getElem_cons hj) ▸ List.mem_cons_self, rfl⟩) rfl
    · exact h3.2.2 es[j].1 (List.mem_map.2 ⟨es[j], List.getElem_mem hj, rfl⟩) _ hm rfl
  · unfold cnt; rw [f3.length_eq, List.length_append, List.length_take]; omega
  · unfold foldT
    rw [List.take_succ_eq_append_getElem hj, List.foldl_append]; rfl
set_option maxHeartbeats 4000000 in
set_option maxRecDepth 100000 in
theorem step_moving (g : Nat) (F : List Nat) (D : DS) (hD : DInv D) (hm : D.T2 ≠ []) (hc : cnt D.T1 + cnt D.T2 ≤ 4398046511000) (w : World) (h : DI w g F D) :
    Calls Try.prog 27 #[.pointer (some ⟨g, 0, none⟩)] w fun e w' => e = .returned (.tuple #[]) ∧ ∃ F', DI w' g F' (endD (takeD D)) ∧ Moved w w' F F' := by
  obtain ⟨hJ, hJne⟩ := nextB_hit hD hm
  obtain ⟨v1, v2, L1, L2, h1, h2, h3, hF, h4⟩ := id h
  rcases h2 with ⟨_, e, _⟩ | ⟨B, bvs, rfl, hT, hI, hL⟩
  · rw [e] at hJ; simp at hJ
  obtain ⟨P2, c2, rfl⟩ := h3.form
  have HMV : Hid _ := moves_yes g P2 D.T2.length c2 (List.length_pos_iff.2 hm) w (row6 h1).2.2.2.1
  have HDI : Hid (DI w g F D) := h
  have HG : Hid _ := h1
  have HTI : Hid (TabIs w 0 B bvs D.T1) := hI
  have HGB : Hid (g ≠ B) := fun e => by subst e; have := h1.symm.trans hI.row; simp at this
  have HIN : Hid (DInv D) := hD
  have HJ : Hid (∃ J, J = nextB D.T1 D.ix) := ⟨_, rfl⟩
  obtain ⟨J, hJe⟩ := HJ.out
  have HJE : Hid (nextB D.T1 D.ix = J) := hJe.symm
  have HJN : Hid (∃ hl : J < D.T1.length, D.T1[J] ≠ []) := by subst hJe; exact ⟨hJ, hJne⟩
  have HLOW : Hid (∀ i (hi : i < D.T1.length), D.ix ≤ i → i < J → D.T1[i] = []) := by subst hJe; exact fun i hi h1 h2 => nextB_low _ _ _ h1 h2 hi
  have hJl : J < D.T1.length := by subst hJe; exact hJ
  have hge : D.ix ≤ J := by subst hJe; exact nextB_ge _ _
  have hsz := hD.sz1
  clear h1 hI h h3 h4 hF hL hT hJ hJne hJe hD
  go_enter Try.func27, Try.ntmps27
  go_wp2_with fail
  refine (show Calls _ _ _ _ _ from HMV.out).mono ?_
  rintro e w1 ⟨rfl, rfl⟩
  go_wp2
  go_loopw [] (fun wr => Only w1 wr g ∧ ∃ i : Nat, D.ix ≤ i ∧ i ≤ J ∧ wr.heap[g]? = some (.cells (dca D.seed (.slice (some ⟨B, 0, none⟩) D.T1.length D.T1.length) (cnt D.T1 : Nat) (.slice P2 D.T2.length c2) (cnt D.T2 : Nat) (i : Nat)) 56)) (fun wr => J - ixOf g wr)
  case atStart => exact ⟨Only.refl _ _, D.ix, Nat.le_refl _, hge, HG.out⟩
  case round =>
    obtain ⟨ho, i, hi1, hi2, hgi⟩ := hrel
    have HO : Hid (Only w1 wr g) := ho
    have HGI : Hid _ := hgi
    obtain ⟨d0, d1, d2, d3, d4, d5, df⟩ := row6 hgi
    have HIX : Hid (ixOf g wr = i) := by show _ = _; unfold ixOf; rw [d5]; simp
    have hil : i < D.T1.length := by omega
    obtain ⟨P, c, hbc, hlc⟩ := HTI.out.at i hil
    have hbw : wr.cell? ⟨B, i, none⟩ = some (.slice P D.T1[i].length c) := by
      have := HTI.out.row
      rw [cell_of_row _ _ _ _ _ _ this] at hbc
      rw [cell_of_row _ _ _ _ _ _ ((ho.other B (Ne.symm HGB.out)).trans this)]
      exact hbc
    have HBK : Hid (∀ n, Calls Try.prog 48 #[.pointer (some ⟨g, 1, none⟩), .int .i64 (i : Int)] (wr.drewN n) fun e w' => e = .returned (.slice P D.T1[i].length D.T1[i].length) ∧ w' = wr.drewN n) := fun n => bucket_any g 1 B D.T1.length i hil P D.T1[i].length c hlc _ d1 hbw
    clear hbw hbc hlc ho hgi
    rcases Nat.lt_or_eq_of_le hi2 with hlt | heq
    · have hz : D.T1[i].length = 0 := by rw [HLOW.out i hil hi1 hlt]; rfl
      rw [hz] at HBK
      clear hz
      go_wp2_with fail
      go_quiet ((go_at_call 48; exact Calls.quiet_of_same (HBK.out _)))
      have HIX2 : Hid (∀ W : World, W.heap[g]? = some (.cells (dca D.seed (.slice (some ⟨B, 0, none⟩) D.T1.length D.T1.length) (cnt D.T1 : Nat) (.slice P2 D.T2.length c2) (cnt D.T2 : Nat) ((i + 1 : Nat) : Int)) 56) → ixOf g W = i + 1) := fun W hW => by
        show _ = _; unfold ixOf; rw [(row6 hW).2.2.2.2.2.1]; simp
      have hw1 : IntKind.i64.wrap ((i : Int) + 1) = (i : Int) + 1 := by rw [IntKind.wrap_i64] <;> omega
      go_wp2
      have hnew : ((wr.drewN nq).setCell ⟨g, 5, none⟩ (.int .i64 ((i : Int) + 1))).heap[g]? = some (.cells (dca D.seed (.slice (some ⟨B, 0, none⟩) D.T1.length D.T1.length) (cnt D.T1 : Nat) (.slice P2 D.T2.length c2) (cnt D.T2 : Nat) ((i + 1 : Nat) : Int)) 56) := by
        rw [heap_setCell_same (wr.drewN nq) _ _ _ _ _ HGI.out]; rfl
      go_roundw
      case rel => exact ⟨(HO.out.dn nq).set 5 _, i + 1, by omega, hlt, hnew⟩
      case measure => rw [HIX.out, HIX2.out _ hnew]; omega
    · subst heq
      obtain ⟨_, hne0⟩ := HJN.out
      obtain ⟨N, hN⟩ : ∃ N, D.T1[i].length = N := ⟨_, rfl⟩
      have hN0 : 0 < N := by rw [← hN]; exact List.length_pos_iff.2 hne0
      have hNe : ((N : Int) == 0) = false := by simp; omega
      rw [hN] at HBK
      go_wp2_with fail
      go_quiet ((go_at_call 48; exact Calls.quiet_of_same (HBK.out _)))
      have HDX := HDI.out.only (HO.out.dn nq) HG.out (i := i) HGI.out
      have HGW : Hid ((wr.drewN nq).heap[g]? = _) := HGI.out
      generalize wr.drewN nq = W at *
      obtain ⟨hdx, hmx⟩ := HDX
      have HTK : Hid _ := di_take g F ⟨D.seed, D.T1, D.T2, i⟩ i hil hne0 (by show cnt D.T1 ≤ _; omega) W.drew (hdx.on (Below.refl _ _).drew)
      have HMX : Hid (Moved w1 W F F) := hmx
      clear d0 d1 d2 d3 d4 d5 df hdx hmx HBK
      obtain ⟨d0, d1, d2, d3, d4, d5, df⟩ := row6 HGW.out
      go_wp2_with fail
      go_region_with (go_at_call 49; refine (show Calls _ _ _ _ _ from HTK.out).mono ?_; rintro e w2 ⟨E, F2, rfl, hdi2, hmv2, hE2, hen2, hEl2⟩)
      have HDI2 : Hid (DI w2 g F2 ⟨D.seed, D.T1.set i [], D.T2, i⟩) := hdi2
      have HMV2 : Hid (Moved w1 w2 F F2) := HMX.out.trans ((Moved.of_below (Below.refl W.heap.size W).drew).trans hmv2)
      have HEN2 : Hid (Ents w2 E D.T1[i]) := hen2
      have HTK3 : Hid (takeD D = ⟨D.seed, D.T1.set i [], foldT D.seed D.T1[i] D.T2, i + 1⟩) := by
        show takeD D = _
        unfold takeD
        rw [HJE.out, List.getElem?_eq_getElem hil, Option.getD_some]
      have HND : Hid _ := bucket_nd HIN.out hil
      have HKY : Hid (∀ x ∈ D.T1[i], x.1.size ≤ 281474976710656) := fun x hx => HIN.out.keys x (List.mem_append_left _ (List.mem_flatten.2 ⟨_, List.getElem_mem hil, hx⟩))
      have HCT : Hid (D.T1[i].length ≤ cnt D.T1) := len_le_cnt D.T1 i hil
      clear hdi2 hmv2 hen2 HTK HMX HDI HMV d0 d1 d2 d3 d4 d5 df
      generalize D.T1[i] = es at *
      subst hN
      clear hNe
      have hesb : es.length ≤ 4398046511000 := by have := HCT.out; omega
      go_wp2
      simp only [Act.put, List.getElem_toArray, List.getElem_cons_succ, List.getElem_cons_zero, List.setIfInBounds_toArray, List.set_cons_succ, List.set_cons_zero]
      go_loopw [33] (fun ci wr => ∃ j : Nat, j ≤ es.length ∧ ci = .int .i64 (j : Int) ∧ ∃ Fj, DI wr g Fj ⟨D.seed, D.T1.set i [], foldT D.seed (es.take j) D.T2, i⟩ ∧ Moved w2 wr F2 Fj) (fun ci _ => es.length - (intOf ci).toNat)
      case atStart => exact ⟨0, Nat.zero_le _, rfl, F2, HDI2.out, Moved.refl _ _⟩
      case round =>
        obtain ⟨j, hj, rfl, Fj, hdj, hmj⟩ := hrel
        have HDJ : Hid (DI wr g Fj ⟨D.seed, D.T1.set i [], foldT D.seed (es.take j) D.T2, i⟩) := hdj
        have HMJ : Hid (Moved w2 wr F2 Fj) := hmj
        by_cases hlt : j < es.length
        · have HEJ : Hid (Ents wr E es) := by
            show Ents wr E es
            intro t ht
            have q := HEN2.out t ht
            have hr : wr.heap[E]? = w2.heap[E]? := hmj.rest E hEl2 hE2
            refine ⟨?_, ?_⟩
            · exact (World.cell?_of_block (a := ⟨E, t * 2, none⟩) hr).trans q.1
            · exact (World.cell?_of_block (a := ⟨E, t * 2 + 1, none⟩) hr).trans q.2
          obtain ⟨e0, e1⟩ := HEJ.out j hlt
          have HFN : Hid _ := fold_next HIN.out.wf2 hm HND.out j hlt
          have HSZ : Hid _ := HKY.out es[j] (List.getElem_mem hlt)
          have hz3 : (0 : Int) ≤ (j : Int) := by omega
          have hz4 : (j : Int) < (es.length : Int) := by omega
          generalize es[j].1 = X at *
          generalize es[j].2 = V at *
          have HX : Hid _ := one_alloc wr (.cells #[.string X, .int .i64 V] 70)
          obtain ⟨W0, hW0⟩ : ∃ W0, W0 = wr.alloc (.cells #[.string X, .int .i64 V] 70) := ⟨_, rfl⟩
          have hbw : Below wr.heap.size wr W0 := by rw [hW0]; exact (Below.refl _ _).alloc (Nat.le_refl _) _
          have HD0 : Hid (DI W0 g Fj ⟨D.seed, D.T1.set i [], foldT D.seed (es.take j) D.T2, i⟩) := hdj.on hbw
          have HM0 : Hid (Moved w2 W0 F2 Fj) := hmj.trans (Moved.of_below hbw)
          rw [← hW0] at HX
          clear hdj hmj hbw
          go_upto_region 6 with fail
          rw [← hW0]
          clear hW0 e0 e1
          obtain ⟨x0, x1, xf⟩ := row2 HX.out
          obtain ⟨y1, y2, M1, M2, hg0, _, _, _, _⟩ := HD0.out
          obtain ⟨d0, d1, d2, d3, d4, d5, df⟩ := row6 hg0
          clear hg0
          have HAD : Hid _ := di_add2 g Fj ⟨D.seed, D.T1.set i [], foldT D.seed (es.take j) D.T2, i⟩ X V W0.drew HFN.out.1 (ne_of_len HFN.out.2.1 hm) (by show (foldT D.seed (es.take j) D.T2).length ≤ _; rw [HFN.out.2.1]; exact HIN.out.sz2) HFN.out.2.2.1 (by have := HFN.out.2.2.2.1; have := HCT.out; show cnt (foldT D.seed (es.take j) D.T2) ≤ _; omega) (HD0.out.on (Below.refl _ _).drew)
          have HHS : Hid _ := Hash_any D.seed X HSZ.out
          go_region_with (first | (go_at_call 28; refine (show Calls _ _ _ _ _ from HHS.out _).mono ?_; rintro e w3 ⟨rfl, rfl⟩) | (go_at_call 33; refine (show Calls _ _ _ _ _ from HAD.out).mono ?_; rintro e w3 ⟨rfl, F3, hdi3, hmv3⟩))
          all_goals
            have HD3 : Hid (DI w3 g F3 ⟨D.seed, D.T1.set i [], foldT D.seed (es.take (j + 1)) D.T2, i⟩) := by
              show DI w3 g F3 _
              rw [HFN.out.2.2.2.2]; exact hdi3
            have HM3 : Hid (Moved w2 w3 F2 F3) := HM0.out.trans ((Moved.of_below (Below.refl W0.heap.size W0).drew).trans hmv3)
            clear hdi3 hmv3 x0 x1 xf d0 d1 d2 d3 d4 d5 df
            go_wp2
            go_roundw
            case rel => exact ⟨j + 1, hlt, by simp, F3, HD3.out, HM3.out⟩
            case measure => simp [intOf]; omega
        · have hje : j = es.length := by omega
          subst hje
          have HDE : Hid (DI wr g Fj ⟨D.seed, D.T1.set i [], foldT D.seed es D.T2, i⟩) := by
            show DI wr g Fj _
            rw [List.take_length] at hdj; exact hdj
          clear hdj hmj HDJ
          obtain ⟨y1, y2, M1, M2, hg0, _, _, _, _⟩ := HDE.out
          have HG0 : Hid _ := hg0
          obtain ⟨d0, d1, d2, d3, d4, d5, df⟩ := row6 hg0
          clear hg0
          have hw1 : IntKind.i64.wrap ((i : Int) + 1) = (i : Int) + 1 := by rw [IntKind.wrap_i64] <;> omega
          go_upto_region 9 with fail
          obtain ⟨W5, hW5⟩ : ∃ W5, W5 = wr.setCell ⟨g, 5, none⟩ (.int .i64 ((i : Int) + 1)) := ⟨_, rfl⟩
          rw [← hW5]
          have hg5 : W5.heap[g]? = some (.cells (dca D.seed y1 (cnt (D.T1.set i []) : Nat) y2 (cnt (foldT D.seed es D.T2) : Nat) ((i + 1 : Nat) : Int)) 56) := by
            rw [hW5, heap_setCell_same _ _ _ _ _ _ HG0.out]; rfl
          have ho5 : Only wr W5 g := by rw [hW5]; exact (Only.refl _ _).set 5 _
          obtain ⟨hd5, hm5⟩ := HDE.out.only ho5 HG0.out (i := i + 1) hg5
          have HEN : Hid _ := di_end g Fj _ W5 hd5
          have HM5 : Hid (Moved w1 W5 F Fj) := HMV2.out.trans (HMJ.out.trans hm5)
          clear hd5 hm5 ho5 hg5 hW5 d0 d1 d2 d3 d4 d5 df
          go_wp2_with fail
          refine (show Calls _ _ _ _ _ from HEN.out).mono ?_
          rintro e w6 ⟨rfl, F6, hd6, hm6⟩
          have HD6 : Hid (DI w6 g F6 (endD (takeD D))) := by show DI w6 g F6 _; rw [HTK3.out]; exact hd6
          have HM6 : Hid (Moved w1 w6 F F6) := HM5.out.trans hm6
          clear hd6 hm6
          go_wp2
          go_returns
          exact ⟨rfl, F6, HD6.out, HM6.out⟩
theorem step_any (g : Nat) (F : List Nat) (D : DS) (hD : DInv D) (hc : cnt D.T1 + cnt D.T2 ≤ 4398046511000) (w : World) (h : DI w g F D) :
    Calls Try.prog 27 #[.pointer (some ⟨g, 0, none⟩)] w fun e w' => e = .returned (.tuple #[]) ∧ ∃ F', DI w' g F' (stepD D) ∧ Moved w w' F F' := by
  unfold stepD
  by_cases hm : D.T2 = []
  · rw [if_pos hm]
    obtain ⟨v1, v2, L1, L2, h1, h2, h3, hF, h4⟩ := id h
    obtain ⟨P, c, rfl⟩ := h3.form
    have h3' := (row6 h1).2.2.2.1
    rw [hm] at h3'
    refine (step_no g P c w h3').mono ?_
    rintro e w' ⟨rfl, rfl⟩
    exact ⟨rfl, F, h, Moved.refl _ _⟩
  · rw [if_neg hm]
    exact step_moving g F D hD hm hc w h
end Go.Proofs.Ytdemodhjlbkbeab
