import Derived.Test.YtbmfbpcjokbjkaaGreatDoorRfF
import Derived.Test.YtbmfbpcjokbjkaaGreatDoorWkA
namespace Go.Proofs.YtbmfbpcjokbjkaaGreatDoor
open Go.RowKit Vi
set_option linter.unusedVariables false
set_option linter.unusedSimpArgs false
theorem app_two (t s : ByteArray) : (t ++ s).data.toList = t.data.toList ++ s.data.toList := by simp [ByteArray.data_append]
theorem PA.new {B : Nat} {w : World} {q : Nat} (h : PrR w q 0 0 (.slice none 0 0) (.slice none 0 0) 0 0 0) (hB : B ≤ q) : PA B w q (.slice none 0 0) (.slice none 0 0) (stP (some [])) := ⟨h, ⟨rfl, Or.inl ⟨rfl, rfl⟩⟩, ⟨rfl, Or.inl ⟨rfl, rfl⟩⟩, hB⟩
theorem RLs.sl {B b0 : Nat} {W : World} {P : Option Addr} {n c : Nat} {E : List (Value × Rq)} (h : RLs B b0 W (.slice P n c) E) (hn : E.length = n) (t : Nat) (ht : t ≤ n) : QV W (sliced P t n c 2) ((E.map (·.2)).drop t) := by
  have hv := h.view
  have hl : (E.map (·.2)).length = n := by rw [List.length_map]; exact hn
  rcases h.row.2 with ⟨e, h0⟩ | ⟨g, cap, cur, e, hb, hg, hc, hm, hs, htk⟩
  · injection e with e1 e2 e3
    subst e1
    have : t = 0 := by omega
    subst this
    have : E = [] := List.eq_nil_of_length_eq_zero h0
    subst this
    left
    refine ⟨rfl, none, c - 0, ?_⟩
    unfold sliced
    rw [e2]; simp
  · injection e with e1 e2 e3
    subst e1
    subst e3
    unfold sliced
    by_cases hct : c = t
    · left
      refine ⟨List.drop_eq_nil_of_le (by omega), some ⟨g, 0, none⟩, c - t, ?_⟩
      rw [if_pos hct, show n - t = 0 by omega]
    · rw [if_neg hct]
      have h9 := hv.drop t (by omega) g 0 rfl ((⟨g, 0, none⟩ : Addr).add (t * 2)) (fun _ => by rw [Lib.add_plain]) (c - t)
      rw [hl] at h9
      exact h9
set_option maxRecDepth 20000 in
set_option maxHeartbeats 4000000 in
theorem RespFeeds_of (hFC : FstC) (v0 : Value) (xs : List ByteArray) (hbl : cb xs ≤ 1048576) (w : World) (hS : SRow w v0 xs) (hL : Laid w) :
    Calls Tryz.prog 4 #[v0] w fun e w' => e = .returned (.bool true) ∧ Below w.heap.size w w' := by
  obtain ⟨P0, c0, rfl⟩ := hS.form
  have HL : Hid (Laid w) := hL
  have HSR : Hid (SRow w (.slice P0 xs.length c0) xs) := hS
  have HFC : Hid FstC := hFC
  have HNW : Hid _ := New_any w
  obtain ⟨B, hB⟩ : ∃ B, w.heap.size = B := ⟨_, rfl⟩
  have HB : Hid (w.heap.size = B) := hB
  rw [hB] at HNW ⊢
  obtain ⟨n, hn⟩ : ∃ n, xs.length = n := ⟨_, rfl⟩
  have HXN : Hid (xs.length = n) := hn
  have hnl : n ≤ 1048576 := by rw [← hn]; have := cb_len xs; omega
  have HBL : Hid (cb xs ≤ 1048576) := hbl
  rw [hn] at HSR ⊢
  clear hL hB hn hS hbl hFC
  go_enter Tryz.func4, Tryz.ntmps4
  go_wp2_with fail
  refine (show Calls _ _ _ _ _ from HNW.out).mono ?_
  rintro e w1 ⟨rfl, hr1, hb1⟩
  have HB1 : Hid (Below B w w1) := hb1
  have HPA1 : Hid (PA B w1 B (.slice none 0 0) (.slice none 0 0) (stP (some []))) := PA.new hr1 (Nat.le_refl _)
  have HWK : Hid _ := works_any w1 (HL.out.on (HB.out ▸ HB1.out))
  clear hr1 hb1
  go_wp2_with fail
  refine (show Calls _ _ _ _ _ from HWK.out).mono ?_
  rintro e w2 ⟨rfl, hb2⟩
  have HPA2 : Hid (PA B w2 B (.slice none 0 0) (.slice none 0 0) (stP (some []))) := HPA1.out.on hb2
  have HB2 : Hid (Below B w w2) := HB1.out.trans (hb2.mono (by have := HPA1.out.lt; exact this))
  clear hb2
  go_wp2
  go_loopw [4, 5, 6] (fun ct co ci wr => ∃ (i : Nat) (tx : ByteArray) (pv wv : Value), (i ≤ n ∧ tx.data.toList = ctB (xs.take i) ∧ PA B wr B pv wv (stP (TX tx.data.toList).2) ∧ Below B w wr) ∧ ct = .string tx ∧ co = .int .i64 ((TX tx.data.toList).1.length : Int) ∧ ci = .int .i64 (i : Int)) (fun _ _ ci _ => n - (intOf ci).toNat)
  case atStart => exact ⟨0, ⟨#[]⟩, _, _, ⟨Nat.zero_le _, rfl, HPA2.out, HB2.out⟩, rfl, rfl, rfl⟩
  case round =>
    obtain ⟨i, tx, pv, wv, ⟨hi, htx, hpa, hbw⟩, rfl, rfl, rfl⟩ := hrel
    have HTX : Hid (tx.data.toList = ctB (xs.take i)) := htx
    have HPA : Hid (PA B wr B pv wv (stP (TX tx.data.toList).2)) := hpa
    have HBW : Hid (Below B w wr) := hbw
    obtain ⟨td, htd⟩ : ∃ t, (TX tx.data.toList).1.length = t := ⟨_, rfl⟩
    have HTD : Hid ((TX tx.data.toList).1.length = td) := htd
    rw [htd]
    clear htx hpa hbw htd
    by_cases hlt : i < n
    · have hix : i < xs.length := by rw [HXN.out]; exact hlt
      obtain ⟨g0, o0, hP0, hcx⟩ := (HSR.out.on (HB.out ▸ HBW.out)).cell i hix
      have HSN : Hid _ := ctB_snoc xs i hix
      obtain ⟨X, hX⟩ : ∃ X, xs[i] = X := ⟨_, rfl⟩
      rw [hX] at hcx HSN
      subst hP0
      have hsz : tx.size + X.size ≤ 1048576 := by
        have h1 := ctB_len (xs.take (i + 1))
        have h2 := cb_mono xs (i + 1)
        have h3 := HBL.out
        rw [HSN.out, List.length_append, ← HTX.out, list_len, list_len] at h1
        omega
      have hjoin : tx.size + X.size ≤ 9223372036854775807 := by omega
      obtain ⟨T2, hT2⟩ : ∃ T, tx ++ X = T := ⟨_, rfl⟩
      have HT2 : Hid (tx ++ X = T2) := hT2
      have HTL : Hid (T2.data.toList = tx.data.toList ++ X.data.toList) := by show _ = _; rw [← hT2]; exact app_two _ _
      have hT2s : T2.size ≤ 1048576 := by rw [← list_len, HTL.out, List.length_append, list_len, list_len]; exact hsz
      have HTA : Hid _ := TX_app _ tx.data.toList X.data.toList (Nat.le_refl _)
      rw [← HTL.out] at HTA
      have HAL : Hid _ := All_of HFC.out T2 (by omega) wr
      have hz0 : (0 : Int) ≤ (i : Int) := by omega
      have hz1 : (i : Int) < (n : Int) := by omega
      obtain ⟨b3, hb3⟩ : ∃ b, wr.heap.size = b := ⟨_, rfl⟩
      have HB3 : Hid (wr.heap.size = b3) := hb3
      have HBb : Hid (B ≤ b3) := by show _ ≤ _; rw [← hb3]; exact HPA.out.lt
      rw [hb3] at HAL
      clear hix hX hT2 hb3
      go_wp2_with fail
      try rw [HT2.out]
      refine (show Calls _ _ _ _ _ from HAL.out).mono ?_
      rintro e w3 ⟨⟨Pa, ca, Ea, hra, hma, rfl⟩, hbx⟩
      obtain ⟨nA, hnA⟩ : ∃ k, Ea.length = k := ⟨_, rfl⟩
      rw [hnA] at hra ⊢
      have HNA : Hid (Ea.length = nA) := hnA
      have HMA : Hid (Ea.map (·.2) = (TX T2.data.toList).1) := hma
      have hbx' : Below wr.heap.size wr w3 := HB3.out ▸ hbx
      have HB4 : Hid (Below B w w3) := HBW.out.trans (hbx.mono HBb.out)
      have HPA3 : Hid (PA B w3 B pv wv (stP (TX tx.data.toList).2)) := HPA.out.on hbx'
      have HFI3 : Hid (FI B b3 w3 w3 B pv wv pv wv (stP (TX tx.data.toList).2) (.slice Pa nA ca) Ea) := by
        refine ⟨HPA3.out, Mv.refl _ _ _ _, hra.up HBb.out, fun x hx g hg e => ?_⟩
        have h1 := own_block (hra.args x hx) g hg
        obtain ⟨cur, h2⟩ := own_ty HPA.out.wo g e
        have h3 := row_lt h2
        rw [HB3.out] at h3
        omega
      obtain ⟨hd, hhd⟩ : ∃ h, (stP (TX T2.data.toList).2).held = h := ⟨_, rfl⟩
      have HHD : Hid ((stP (TX T2.data.toList).2).held = hd) := hhd
      have hhl : hld (TX T2.data.toList).2 = (hd : Int) := by unfold hld; rw [hhd]
      rw [hhl]
      have hcx3 : w3.cell? ⟨g0, o0 + i, none⟩ = some (.string X) := cell_on hcx hbx'
      have hPL : ∀ P, (TX tx.data.toList).2 = some P → P.length ≤ 1099511627776 := fun P hP => by
        have h1 := (TX_len _ tx.data.toList (Nat.le_refl _)).2 P hP
        rw [list_len] at h1; omega
      have HFD : Hid _ := feed_more B b3 B w3 w3 pv wv pv wv (.slice Pa nA ca) (TX tx.data.toList).2 Ea X (by omega) (TX_pnd _ _ (Nat.le_refl _)) hPL HFI3.out (fun W hW => HL.out.on (HB.out ▸ HB4.out.trans hW))
      have hco : (FX (TX tx.data.toList).2 X.data.toList).2 = (TX T2.data.toList).2 := by rw [HTA.out]
      rw [hco] at HFD
      have hnd : td ≤ nA := by
        have h1 := congrArg List.length hma
        rw [List.length_map, hnA, HTA.out] at h1
        dsimp only at h1
        rw [List.length_append, HTD.out] at h1
        omega
      have HNT : Hid (nA ≤ 1048576) := by
        show _ ≤ _
        have h1 := congrArg List.length hma
        rw [List.length_map, hnA] at h1
        have h2 := (TX_len _ T2.data.toList (Nat.le_refl _)).1
        rw [list_len] at h2; omega
      clear hra hnA hma hbx hbx' hhd hhl hcx hPL hco
      go_wp2_with fail
      refine (show Calls _ _ _ _ _ from HFD.out).mono ?_
      rintro e w4 ⟨pv', wv', P2, c2, F, rfl, hfi, hF, hdj, hm⟩
      obtain ⟨nF, hnF⟩ : ∃ k, F.length = k := ⟨_, rfl⟩
      rw [hnF] at hF ⊢
      have HNF : Hid (F.length = nF) := hnF
      have HPA4 : Hid (PA B w4 B pv' wv' (stP (TX T2.data.toList).2)) := hfi.pa
      have HF : Hid (RLs B w3.heap.size w4 (.slice P2 nF c2) F) := hF
      have HDJ : Hid (∀ x ∈ F, ∀ g, x.1.ownBlock = some g → wv'.ownBlock ≠ some g) := hdj
      have HB5 : Hid (Below B w w4) := HB4.out.trans (hfi.mv.below HPA3.out)
      have HMF : Hid (F.map (·.2) = (FX (TX tx.data.toList).2 X.data.toList).1) := hm
      have hv1 := hF.view
      have hv2 := hfi.rl.sl HNA.out td hnd
      have hdr : (Ea.map (·.2)).drop td = F.map (·.2) := by
        rw [HMA.out, HTA.out, hm]
        dsimp only
        rw [← HTD.out, List.drop_left]
      rw [hdr] at hv2
      have hsub : nF ≤ nA := by
        have h1 := congrArg List.length hdr
        rw [List.length_drop, List.length_map, List.length_map, HNA.out, hnF] at h1
        omega
      have hlF : (F.map (·.2)).length ≤ 1099511627776 := by rw [List.length_map, hnF]; have := HNT.out; omega
      have haF : ∀ r ∈ F.map (·.2), r.args.length ≤ 70368744177664 := fun r hr => by
        have h1 : r ∈ (TX T2.data.toList).1 := by rw [← HMA.out]; rw [← hdr] at hr; exact List.mem_of_mem_drop hr
        have h2 := TX_args _ T2.data.toList (Nat.le_refl _) r h1
        rw [list_len] at h2; omega
      obtain ⟨Ps, hPs⟩ : ∃ P, (if ca = td then Pa else Pa.map (·.add (td * 2))) = P := ⟨_, rfl⟩
      have hsl : Value.slice Ps (nA - td) (ca - td) = sliced Pa td nA ca 2 := by unfold sliced; rw [hPs]
      have HSQ : Hid (∀ v, v = .slice Ps (nA - td) (ca - td) → Calls Tryz.prog 13 #[.slice P2 nF c2, v] w4 fun e w' => (∃ b, e = .returned (.bool b) ∧ (b = true ↔ F.map (·.2) = F.map (·.2))) ∧ ∃ k, w' = w4.drewN k) := fun v hv => by rw [hv, hsl]; exact sameRq_any _ _ _ _ hlF hlF haF haF w4 hv1 hv2
      have HHA : Hid (∀ W, Below w4.heap.size w4 W → Calls Tryz.prog 14 #[.pointer (some ⟨B, 0, none⟩)] W fun e w' => e = .returned (.int .i64 (hd : Int)) ∧ w' = W) := fun W hW => by have h9 := Held_any B _ _ _ _ _ _ _ W (HPA4.out.on hW).row; rw [HHD.out] at h9; exact h9
      have HAF : Hid (∀ r ∈ F.map (·.2), r.args.length ≤ 1048576) := fun r hr => by
        have h1 : r ∈ (TX T2.data.toList).1 := by rw [← HMA.out]; rw [← hdr] at hr; exact List.mem_of_mem_drop hr
        have h2 := TX_args _ T2.data.toList (Nat.le_refl _) r h1
        rw [list_len] at h2; omega
      have hnFl : nF ≤ 1048576 := by have := HNT.out; omega
      have ht0 : (0 : Int) ≤ (td : Int) := by omega
      have ht1 : (td : Int) ≤ (nA : Int) := by omega
      clear hfi hF hdj hm hv1 hv2 hdr hlF haF hnF hsl
      go_wp2_with fail
      refine (HSQ.out _ ?sl).mono ?_
      case sl => rfl
      rintro e w5 ⟨⟨b1, rfl, hb1⟩, k1, hw5⟩
      have hb1t : b1 = true := by simpa using hb1
      subst hb1t
      have hb5 : Below w4.heap.size w4 w5 := by rw [hw5]; exact below_dn (Below.refl _ _) k1
      have HB6 : Hid (Below w4.heap.size w4 w5) := hb5
      have HPA5 : Hid (PA B w5 B pv' wv' (stP (TX T2.data.toList).2)) := HPA4.out.on hb5
      have HF5 : Hid (RLs B w3.heap.size w5 (.slice P2 nF c2) F) := HF.out.on hb5
      have HB7 : Hid (Below B w w5) := HB5.out.trans (hb5.mono HPA4.out.lt)
      clear hb1 hw5 hb5
      go_wp2_with fail
      refine (show Calls _ _ _ _ _ from HHA.out w5 HB6.out).mono ?_
      rintro e w6 ⟨rfl, hw6⟩
      subst hw6
      go_wp2
      go_loopw [10] (fun ck wk => ∃ k : Nat, (k ≤ nF ∧ SpI w6 wk (.slice P2 nF c2) F k) ∧ ck = .int .i64 (k : Int)) (fun ck _ => nF - (intOf ck).toNat)
      case atStart => exact ⟨0, ⟨Nat.zero_le _, SpI.zero HF5.out⟩, rfl⟩
      case round =>
        obtain ⟨k, ⟨hk, hsp⟩, rfl⟩ := hrel
        have HSP : Hid (SpI w6 wr (.slice P2 nF c2) F k) := hsp
        clear hsp
        by_cases hkn : k < nF
        · have hkF : k < F.length := by rw [HNF.out]; exact hkn
          obtain ⟨gl, ol, cap, cur, e1, e2, e3, e4, e5⟩ := HSP.out.lst k hkF (Nat.le_refl _)
          injection e1 with e6 e7 e8
          subst e6
          obtain ⟨x, hx⟩ : ∃ x, F[k] = x := ⟨_, rfl⟩
          have HXM : Hid (x ∈ F) := by show _ ∈ _; rw [← hx]; exact List.getElem_mem hkF
          have HXK : Hid (F[k]'hkF = x) := hx
          obtain ⟨Px, cx, hpx⟩ := own_form (HF5.out.args x HXM.out)
          obtain ⟨nx, hnx⟩ : ∃ n, x.2.args.length = n := ⟨_, rfl⟩
          rw [hnx] at hpx
          have HPX : Hid (x.1 = .slice Px nx cx) := hpx
          have HNX : Hid (x.2.args.length = nx) := hnx
          have hnxl : nx ≤ 1048576 := by rw [← hnx]; exact HAF.out x.2 (List.mem_map.2 ⟨x, HXM.out, rfl⟩)
          clear e2 e3 e4 e5 e7 e8 hx hpx hnx
          go_wp2
          go_loopw [11] (fun cm wm => ∃ m : Nat, (m ≤ nx ∧ SpI w6 wm (.slice (some ⟨gl, ol, none⟩) nF c2) F k) ∧ cm = .int .i64 (m : Int)) (fun cm _ => nx - (intOf cm).toNat)
          case atStart => exact ⟨0, ⟨Nat.zero_le _, HSP.out⟩, rfl⟩
          case round =>
            obtain ⟨m, ⟨hm, hsm⟩, rfl⟩ := hrel
            have HSM : Hid (SpI w6 wr (.slice (some ⟨gl, ol, none⟩) nF c2) F k) := hsm
            obtain ⟨g', o', cap', cur', f1, f2, f3, f4, f5⟩ := hsm.lst k hkF (Nat.le_refl _)
            injection f1 with f6 f7 f8
            injection f6 with f6
            injection f6 with f9 f10
            subst f9
            subst f10
            rw [HXK.out, HPX.out] at f4
            have hc1 : wr.cell? ⟨gl, ol + k * 2, none⟩ = some (.slice Px nx cx) := by rw [cell_of_row _ _ _ _ _ _ f3]; exact f4
            have hc2 : wr.cell? ⟨gl, ol + k * 2 + 1, none⟩ = some (cur'[ol + k * 2 + 1]'f5) := by rw [cell_of_row _ _ _ _ _ _ f3]; exact Array.getElem?_eq_getElem f5
            have hfz : ∀ j, wr.frozen? ⟨gl, j, none⟩ = false := fun j => frozen_of_row _ _ _ _ _ f3
            have HRW : Hid (wr.heap[gl]? = some (.cells cur' 43)) := f3
            have hk0 : (0 : Int) ≤ (k : Int) := by omega
            have hk1 : (k : Int) < (nF : Int) := by omega
            clear hsm f2 f3 f4 f7 f8 cap'
            by_cases hmx : m < nx
            · rcases HSM.out.arg x HXM.out with ⟨_, h0⟩ | ⟨ga, oa, capa, cura, a1, a2, a3, a4⟩
              · rw [HNX.out] at h0; omega
              · rw [HPX.out, HNX.out] at a1
                injection a1 with a5 a6 a7
                subst a5
                rw [HNX.out] at a4
                have hcm : wr.cell? ⟨ga, oa + m, none⟩ = some (cura[oa + m]'(by omega)) := by rw [cell_of_row _ _ _ _ _ _ a3]; exact Array.getElem?_eq_getElem (by omega)
                have hfm : ∀ j, wr.frozen? ⟨ga, j, none⟩ = false := fun j => frozen_of_row _ _ _ _ _ a3
                have HA3 : Hid (wr.heap[ga]? = some (.cells cura 9)) := a3
                have HA2 : Hid (x.1.ownBlock = some ga) := a2
                have hm0 : (0 : Int) ≤ (m : Int) := by omega
                have hm1 : (m : Int) < (nx : Int) := by omega
                clear a2 a3 a6 a7
                go_wp2
                refine ⟨⟨m + 1, ⟨hmx, HSM.out.word HXM.out HA2.out HA3.out _⟩, rfl⟩, ?_⟩
                simp [intOf]; omega
            · have hme : m = nx := by omega
              subst hme
              go_wp2
              go_roundw
              case rel => exact ⟨k + 1, ⟨hkn, HSM.out.req rfl HRW.out (fun g' o' n c e => by injection e with e; injection e with e; injection e with _ e; exact e.symm) _ _⟩, rfl⟩
              case measure => simp [intOf]; omega
        · have hke : k = nF := by omega
          subst hke
          have HPA9 : Hid (PA B wr B pv' wv' (stP (TX T2.data.toList).2)) := HSP.out.pa HPA5.out HDJ.out HF5.out
          have HB9 : Hid (Below B w wr) := HB7.out.trans (HSP.out.below HF5.out HPA3.out.lt)
          go_wp2
          go_roundw
          case rel =>
            refine ⟨i + 1, T2, pv', wv', ⟨hlt, ?_, HPA9.out, HB9.out⟩, rfl, ?_, rfl⟩
            · rw [HTL.out, HSN.out, HTX.out]
            · rw [← HMA.out, List.length_map, HNA.out]
          case measure => simp [intOf]; omega
    · have hin : i = n := by omega
      subst hin
      go_wp2
      go_returns
      exact ⟨rfl, HBW.out⟩
end Go.Proofs.YtbmfbpcjokbjkaaGreatDoor
