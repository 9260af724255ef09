import Derived.Test.YtnnpnccnpojfmaaTbV
import Derived.Test.YtnnpnccnpojfmaaRNum4
namespace Go.Proofs.Ytnnpnccnpojfmaa
open Go.RowKit
set_option linter.unusedVariables false
set_option linter.unusedSimpArgs false
set_option maxHeartbeats 4000000 in
set_option maxRecDepth 20000 in
theorem rkeys_pos (r : Rw) (hla : ¬ r.la < 0) (a : ByteArray) (l : List ByteArray) (va : Value) (hro : TB.row (a :: l) = some r) (he : TB.err (a :: l) = 0) (hl : (a :: l).length ≤ 8796093022208) (hz : ∀ x ∈ a :: l, x.size ≤ 140737488351232) (w : World) (hA : SRow w va (a :: l)) (hcap : CapOk va) : Calls Try.prog 22 #[va] w fun e w' => (∃ v, e = .returned (.tuple #[v, .int .i64 (TB.keyR r (a :: l)).2]) ∧ w'.ownsRow w.heap.size 9 1 v (TB.keyR r (a :: l)).1.length (sv (TB.keyR r (a :: l)).1)) ∧ Below w.heap.size w w' := by
  obtain ⟨i9, hi9, hy9, hy10, hy11⟩ := info_parts info9
  have HCK : Hid _ := rcheck_any (a :: l) va (by omega) (name0_le _ hz) w hA
  rw [he] at HCK
  have HF : Hid _ := rfind_any a (hz a (by simp))
  have ho2 : TB.find (TB.low a.data.toList) = some r := hro
  rw [ho2] at HF
  have hr : r ∈ TB.tab := TB.row_mem hro
  have hle := TB.row_ok hro he
  obtain ⟨k1, k2, k3, k4, k5⟩ := TB.kf_parts hr
  have hp := (TB.wf_parts (TB.wf_at hr)).2.2.2
  have HA : Hid (SRow w va (a :: l)) := hA
  have hfi9 : r.fi ≤ 9 := (hp r.fi (by simp)).2
  have hla9 := hp r.la (by simp)
  have hst9 := hp r.st (by simp)
  have hco9 := hp r.co (by simp)
  obtain ⟨P, c, rfl⟩ := hA.form
  have hcp : (a :: l).length ≤ c := hcap _ _ _ rfl
  clear hcap
  obtain ⟨g, o, rfl, hcell0⟩ := hA.cell 0 (by simp)
  simp only [Nat.add_zero, List.getElem_cons_zero] at hcell0
  obtain ⟨args, ha⟩ : ∃ args, a :: l = args := ⟨_, rfl⟩
  obtain ⟨n, hn⟩ : ∃ n, args.length = n := ⟨_, rfl⟩
  rw [ha] at HCK HA hl hz hcp hle ⊢
  rw [hn] at HCK HA hl hcp hle ⊢
  have hn1 : 1 ≤ n := by rw [← hn, ← ha]; simp
  have HNL : Hid (args.length = n) := hn
  have HK4 : Hid (r.co = 0 ∨ r.co + 2 ≤ (n : Int)) := by show _ ∨ _; omega
  clear hp hA k4 k5 hro he ho2 hn ha hle
  obtain ⟨x0, x1, x2, x3, x4, x5, x6, x7, x8, x9, hsp, e0, e1, e2, e6, e7, e8, e9⟩ := TB.spec_form (some r)
  replace e6 : x6 = r.fi := e6
  replace e7 : x7 = r.la := e7
  replace e8 : x8 = r.st := e8
  replace e9 : x9 = r.co := e9
  rw [hsp] at HF
  clear hsp e0 e1 e2
  rw [← e6] at k1 k3 hfi9
  rw [← e7] at hla9 hla
  rw [← e8] at hst9 k3
  rw [← e9] at hco9 k2
  have HE6 : Hid (x6 = r.fi) := e6
  have HE7 : Hid (x7 = r.la) := e7
  have HE8 : Hid (x8 = r.st) := e8
  have HE9 : Hid (x9 = r.co) := e9
  clear e6 e7 e8 e9
  obtain ⟨fi, hfi2⟩ : ∃ fi : Nat, x6 = (fi : Int) := ⟨x6.toNat, by omega⟩
  obtain ⟨st, hst2⟩ : ∃ st : Nat, x8.toNat = st := ⟨_, rfl⟩
  obtain ⟨co, hco2⟩ : ∃ co : Nat, x9 = (co : Int) := ⟨x9.toNat, by omega⟩
  subst hfi2
  subst hco2
  obtain ⟨L, hL⟩ : ∃ L : Int, x7 = L := ⟨_, rfl⟩
  have HPZ : Hid (fi = 0 → TB.placed r args = []) := fun h => by unfold TB.placed; rw [if_pos (by rw [← HE6.out, h]; rfl)]
  have HP : Hid (fi ≠ 0 → TB.placed r args = TB.plc args st L (args.length + 1) fi) := fun h => by
    unfold TB.placed TB.lastOf
    rw [← HE6.out, ← HE7.out, ← HE8.out, HNL.out, if_neg (by omega), if_neg hla, hL, hst2]; rfl
  have HST : Hid (fi ≠ 0 → x8 = (st : Int) ∧ 1 ≤ st) := fun h => by omega
  clear hst2 k1 k2 k3
  subst hL
  have hz0 : (0 : Int) < (n : Int) := by omega
  go_enter Try.func22, Try.ntmps22
  go_wp2_with fail
  refine (show Calls _ _ _ _ _ from HCK.out).mono ?_
  rintro e wk ⟨rfl, hbk⟩
  have HBK : Hid (Below w.heap.size w wk) := hbk
  have hck := cell_on hcell0 hbk
  clear hbk hcell0
  go_wp2_with fail
  refine (show Calls _ _ _ _ _ from HF.out _).mono ?_
  rintro e w2 ⟨rfl, hb2⟩
  have HB2 : Hid (Below w.heap.size w w2) := bel_to HBK.out hb2 (Nat.le_refl _)
  clear hb2 hck
  go_upto_region 5 with fail
  obtain ⟨W1, hW1⟩ : ∃ W, w2.alloc (.cells #[.string x0, .int .i64 x1, .int .i64 x2, .bool x3, .bool x4, .bool x5, .int .i64 (fi : Int), .int .i64 x7, .int .i64 x8, .int .i64 (co : Int)] 28) = W := ⟨_, rfl⟩
  have HS1 : Hid (W1.heap[w2.heap.size]? = some (.cells #[.string x0, .int .i64 x1, .int .i64 x2, .bool x3, .bool x4, .bool x5, .int .i64 (fi : Int), .int .i64 x7, .int .i64 x8, .int .i64 (co : Int)] 28)) := by rw [← hW1]; exact one_alloc w2 _
  have HB1 : Hid (Below w.heap.size w W1) := by rw [← hW1]; exact bel_to HB2.out ((Below.refl _ _).alloc (Nat.le_refl _) _) (Nat.le_refl _)
  rw [hW1]
  obtain ⟨SB, hSB⟩ : ∃ SB, w2.heap.size = SB := ⟨_, rfl⟩
  rw [hSB] at HS1 ⊢
  clear hW1 hSB
  have HBF : Hid (∀ {W : World}, Below W1.heap.size W1 W → Below w.heap.size w W) := fun h => bel_to HB1.out h (Nat.le_refl _)
  obtain ⟨b0, b1, b2, b3, b4, b5, b6, b7, b8, b9, bf⟩ := row10 HS1.out
  go_wp2
  clear b0 b1 b2 b3 b4 b5 b6 b7 b8 b9 bf
  go_loopw [7, 9] (fun v ci wr => ∃ (k f : Nat) (acc : List ByteArray), ci = .int .i64 (k : Int) ∧ (k ≤ n + 20 ∧ n < k + f ∧ (fi = 0 → acc = []) ∧ (fi ≠ 0 → acc ++ TB.plc args st x7 f k = TB.placed r args) ∧ Below W1.heap.size W1 wr) ∧ wr.ownsRow W1.heap.size 9 1 v acc.length (sv acc)) (fun _ ci _ => n + 30 - (intOf ci).toNat)
  case atStart => exact ⟨fi, args.length + 1, [], rfl, ⟨by omega, by rw [HNL.out]; omega, fun _ => rfl, fun h => by rw [HP.out h]; rfl, Below.refl _ _⟩, World.ownsRow_nil _ _ _ _⟩
  case round =>
    obtain ⟨k, f, acc, rfl, ⟨hk, hf, hzer, htot, hbel⟩, hown⟩ := hrel
    have HZR : Hid _ := hzer
    have HT : Hid _ := htot
    have HB : Hid (Below W1.heap.size W1 wr) := hbel
    have HSR : Hid _ := keep_row HS1.out hbel
    have HAR : Hid (SRow wr (.slice (some ⟨g, o, none⟩) n c) args) := (HA.out.on HB1.out).on hbel
    obtain ⟨pv, cv, ev⟩ := own_form hown
    subst ev
    obtain ⟨na, hna⟩ : ∃ na, acc.length = na := ⟨_, rfl⟩
    have HNA : Hid (acc.length = na) := hna
    rw [hna] at hown ⊢
    have HOW : Hid (wr.ownsRow W1.heap.size 9 1 (.slice pv na cv) na (sv acc)) := hown
    obtain ⟨d0, d1, d2, d3, d4, d5, d6, d7, d8, d9, df⟩ := row10 HSR.out
    clear hzer htot hbel hown hna
    by_cases hfi : fi = 0
    · have HE0 : Hid (acc = TB.placed r args) := by show _ = _; rw [HZR.out hfi, HPZ.out hfi]
      have hff : ¬ (0 : Int) < (fi : Int) := by omega
      have HKA : Hid (TB.placed r args = acc) := HE0.out.symm
      by_cases hc0 : co = 0
      · have HK : Hid (TB.keyR r args = (acc, 0)) := by show _ = _; rw [TB.keyR_zero (by rw [← HE9.out, hc0]; rfl) args, HKA.out]
        have hc00 : ¬ (0 : Int) < (co : Int) := by omega
        clear hc0
        go_wp2
        go_returns
        exact ⟨⟨.slice pv na cv, by rw [HK.out]; rfl, by rw [HK.out]; show World.ownsRow _ _ _ _ _ acc.length (sv acc); rw [HNA.out]; exact own_lower HOW.out HB1.out.size⟩, HBF.out HB.out⟩
      · have hc00 : (0 : Int) < (co : Int) := by omega
        have HC0 : Hid (r.co ≠ 0) := by show _ ≠ _; rw [← HE9.out]; omega
        have HTN : Hid (r.co.toNat = co) := by show _ = _; rw [← HE9.out]; simp
        have hcon : co + 1 < n := by have := HK4.out; rw [← HE9.out] at this; omega
        obtain ⟨x, hxk⟩ : ∃ x, args[co]? = some x := ⟨_, List.getElem?_eq_getElem (by rw [HNL.out]; omega)⟩
        have hcell : wr.cell? ⟨g, o + co, none⟩ = some (.string x) := by
          obtain ⟨g', o', e', hc'⟩ := HAR.out.cell co (List.getElem?_eq_some_iff.1 hxk).1
          injection e' with e'
          injection e' with e1 e2 e3
          subst e1
          subst e2
          rw [hc', (List.getElem?_eq_some_iff.1 hxk).2]
        have HWD : Hid (TB.word args co = x) := by show _ = _; unfold TB.word; rw [List.getD_eq_getElem?_getD, hxk]; rfl
        obtain ⟨m, hm⟩ : ∃ m, n - co - 1 = m := ⟨_, rfl⟩
        have HKC : Hid (TB.cnt (TB.word args r.co.toNat).data.toList (args.length - r.co.toNat - 1) = TB.cnt x.data.toList m) := by show _ = _; rw [HTN.out, HWD.out, HNL.out, hm]
        have HNU : Hid _ := refNumber_any x (by unfold maxLen; have := hz x (List.mem_of_getElem? hxk); omega)
        obtain ⟨q, hq⟩ : ∃ q, co + 1 = q := ⟨_, rfl⟩
        have hqw : IntKind.i64.wrap ((co : Int) + 1) = (q : Int) := by rw [IntKind.wrap_i64] <;> omega
        have hqq : (co : Int) + 1 = (q : Int) := by omega
        have hmw1 : IntKind.i64.wrap ((n : Int) - (co : Int)) = (n : Int) - (co : Int) := by rw [IntKind.wrap_i64] <;> omega
        have hmw2 : IntKind.i64.wrap ((n : Int) - (co : Int) - 1) = (m : Int) := by rw [IntKind.wrap_i64] <;> omega
        have hmm : (n : Int) - (co : Int) - 1 = (m : Int) := by omega
        have hcz0 : (0 : Int) ≤ (co : Int) := by omega
        have hcz1 : (co : Int) < (n : Int) := by omega
        clear hxk
        cases hnum : Vi.numberOf x.data.toList with
        | none =>
          rw [numT_none hnum] at HNU
          have HK : Hid (TB.keyR r args = ([], 5)) := TB.keyR_no HC0.out (HKC.out.trans (by unfold TB.cnt; rw [hnum]))
          clear hnum hc0
          go_wp2_with fail
          refine (show Calls _ _ _ _ _ from HNU.out _).mono ?_
          rintro e wn ⟨rfl, hbn⟩
          have HBN : Hid (Below w.heap.size w wn) := bel_to (HBF.out HB.out) hbn (Nat.le_refl _)
          clear hbn
          go_wp2
          go_returns
          exact ⟨⟨.slice none 0 0, by rw [HK.out]; rfl, by rw [HK.out]; exact World.ownsRow_nil _ _ _ _⟩, HBN.out⟩
        | some vv =>
          rw [numT_some hnum] at HNU
          by_cases hv1 : vv < 1
          · have HK : Hid (TB.keyR r args = ([], 5)) := TB.keyR_no HC0.out (HKC.out.trans (by unfold TB.cnt; rw [hnum]; exact if_neg (by omega)))
            clear hnum hc0
            go_wp2_with fail
            refine (show Calls _ _ _ _ _ from HNU.out _).mono ?_
            rintro e wn ⟨rfl, hbn⟩
            have HBN : Hid (Below w.heap.size w wn) := bel_to (HBF.out HB.out) hbn (Nat.le_refl _)
            clear hbn
            go_wp2
            go_returns
            exact ⟨⟨.slice none 0 0, by rw [HK.out]; rfl, by rw [HK.out]; exact World.ownsRow_nil _ _ _ _⟩, HBN.out⟩
          · by_cases hvm : (m : Int) < vv
            · have HK : Hid (TB.keyR r args = ([], 5)) := TB.keyR_no HC0.out (HKC.out.trans (by unfold TB.cnt; rw [hnum]; exact if_neg (by omega)))
              clear hnum hc0
              go_wp2_with fail
              refine (show Calls _ _ _ _ _ from HNU.out _).mono ?_
              rintro e wn ⟨rfl, hbn⟩
              have HBN : Hid (Below w.heap.size w wn) := bel_to (HBF.out HB.out) hbn (Nat.le_refl _)
              obtain ⟨d0, d1, d2, d3, d4, d5, d6, d7, d8, d9, df⟩ := row10 (keep_row HSR.out hbn)
              clear hbn
              go_wp2
              go_returns
              exact ⟨⟨.slice none 0 0, by rw [HK.out]; rfl, by rw [HK.out]; exact World.ownsRow_nil _ _ _ _⟩, HBN.out⟩
            · obtain ⟨z, hzz⟩ : ∃ z : Nat, vv = (z : Int) := ⟨vv.toNat, by omega⟩
              subst hzz
              have HK : Hid (TB.keyR r args = (acc ++ (TB.behind args co).take z, 0)) := by
                show _ = _
                rw [TB.keyR_yes HC0.out (n := z) (HKC.out.trans (by unfold TB.cnt; rw [hnum]; dsimp only; rw [if_pos (by omega)]; rfl)), HKA.out, HTN.out]
              obtain ⟨u, hu⟩ : ∃ u, q + z = u := ⟨_, rfl⟩
              have huw : IntKind.i64.wrap ((q : Int) + (z : Int)) = (u : Int) := by rw [IntKind.wrap_i64] <;> omega
              have huu : (q : Int) + (z : Int) = (u : Int) := by omega
              have hqu : q ≤ u := by omega
              have huc : u ≤ c := by omega
              have hqc2 : ¬ c = q := by omega
              have huq : u - q = z := by omega
              have HNA1 : Hid (na ≤ 1) := by have := TB.placed_one hr HC0.out args; rw [HKA.out, HNA.out] at this; exact this
              have HLZ : Hid (((TB.behind args co).take z).length = z) := by show _ = _; rw [List.length_take, TB.behind_len, HNL.out]; omega
              have HZN : Hid (z + co + 1 ≤ n) := by show _ ≤ _; omega
              have HQ : Hid (co + 1 = q) := hq
              clear hnum hc0 hu
              go_wp2_with fail
              refine (show Calls _ _ _ _ _ from HNU.out _).mono ?_
              rintro e wn ⟨rfl, hbn⟩
              have HBN : Hid (Below w.heap.size w wn) := bel_to (HBF.out HB.out) hbn (Nat.le_refl _)
              have HOWN : Hid (wn.ownsRow W1.heap.size 9 1 (.slice pv na cv) na (sv acc)) := own_on HOW.out hbn
              have HNC : Hid (∀ a uu, (sv ((TB.behind args co).take z))[a]? = some uu → wn.cell? ((⟨g, o + q, none⟩ : Addr).add a) = some uu) := fun a uu ha => by
                unfold sv at ha
                rw [List.getElem?_map, Option.map_eq_some_iff] at ha
                obtain ⟨y, hy, rfl⟩ := ha
                rw [List.getElem?_take] at hy
                split at hy
                · unfold TB.behind at hy
                  rw [List.getElem?_drop] at hy
                  obtain ⟨g', o', e', hc'⟩ := (HAR.out.on hbn).cell (co + 1 + a) (List.getElem?_eq_some_iff.1 hy).1
                  injection e' with e'
                  injection e' with e1 e2 e3
                  subst e1
                  subst e2
                  rw [Lib.add_plain]
                  rw [show o + q + a = o + (co + 1 + a) from by have := HQ.out; omega, hc', (List.getElem?_eq_some_iff.1 hy).2]
                · cases hy
              have HBS : Hid (W1.heap.size ≤ wn.heap.size) := Nat.le_trans HB.out.size hbn.size
              obtain ⟨d0, d1, d2, d3, d4, d5, d6, d7, d8, d9, df⟩ := row10 (keep_row HSR.out hbn)
              clear hbn
              go_upto_region 17 with fail
              go_wp2_with (at_builtin; go_must (refine wpList_append_own _ rfl _ _ 22 rfl W1.heap.size 9 i9 (.string ⟨#[]⟩) 1 16 Try.underlying22 hi9 hy9 hy10 hy11 rfl (by decide) (.slice pv na cv) na (sv acc) rfl HOWN.out ⟨g, o + q, none⟩ z (c - q) (sv ((TB.behind args co).take z)) rfl (by rw [sv_len, HLZ.out, Nat.mul_one]) HNC.out ?ta1 ?ta2 ?ta3 ?ta4 ?_))
              case ta1 => intro uu hu; unfold sv at hu; rw [List.mem_map] at hu; obtain ⟨y, _, rfl⟩ := hu; rfl
              case ta2 => unfold maxLen; have := HNA1.out; have := HZN.out; omega
              case ta3 => have := HNA1.out; have := HZN.out; omega
              case ta4 => exact HBS.out
              intro v9 w9 ho9 hg9 hn9
              have HO9 : Hid (w9.ownsRow w.heap.size 9 1 v9 (acc ++ (TB.behind args co).take z).length (sv (acc ++ (TB.behind args co).take z))) := by
                show World.ownsRow _ _ _ _ _ _ _
                rw [sv_app, List.length_append, HNA.out, HLZ.out]
                exact own_lower ho9 HB1.out.size
              have HB9 : Hid (Below w.heap.size w w9) := HBN.out.grown hg9 HBN.out.size (fun b hb => Nat.le_trans HB1.out.size (own_block HOWN.out b hb))
              obtain ⟨P9, k9, hf9⟩ := own_form ho9
              subst hf9
              clear ho9 hg9 hn9 d0 d1 d2 d3 d4 d5 d6 d7 d8 d9 df
              go_wp2
              go_returns
              exact ⟨⟨.slice P9 (na + z) k9, by rw [HK.out]; rfl, by rw [HK.out]; exact HO9.out⟩, HB9.out⟩
    · have hff : (0 : Int) < (fi : Int) := by omega
      obtain ⟨hs8, hst1⟩ := HST.out hfi
      have HT1 : Hid _ := HT.out hfi
      by_cases hkL : (k : Int) ≤ x7
      · by_cases hkn : k < n
        · have hkz : (k : Int) < (n : Int) := by omega
          have hk0 : (0 : Int) ≤ (k : Int) := by omega
          obtain ⟨f2, hf2⟩ : ∃ f2, f = f2 + 1 := ⟨f - 1, by omega⟩
          subst hf2
          obtain ⟨x, hxk⟩ : ∃ x, args[k]? = some x := ⟨_, List.getElem?_eq_getElem (by rw [HNL.out]; exact hkn)⟩
          have hcell : wr.cell? ⟨g, o + k, none⟩ = some (.string x) := by
            obtain ⟨g', o', e', hc'⟩ := HAR.out.cell k (List.getElem?_eq_some_iff.1 hxk).1
            injection e' with e'
            injection e' with e1 e2 e3
            subst e1
            subst e2
            rw [hc', (List.getElem?_eq_some_iff.1 hxk).2]
          have HT2 : Hid ((acc ++ [x]) ++ TB.plc args st x7 f2 (k + st) = TB.placed r args) := by
            show _ = _
            rw [← HT1.out, TB.plc_hit args st x7 f2 k x hxk hkL]; simp
          have HAL : Hid (na + 1 ≤ n) := by
            have := congrArg List.length HT2.out
            have h2 := TB.placed_len hr args
            rw [HNL.out] at h2
            simp at this
            have := HNA.out
            show _ ≤ _
            omega
          clear hxk
          obtain ⟨k2, hk2⟩ : ∃ k2, k + st = k2 := ⟨_, rfl⟩
          have hkw : IntKind.i64.wrap ((k : Int) + x8) = (k2 : Int) := by rw [IntKind.wrap_i64] <;> omega
          have hkk : (k : Int) + x8 = (k2 : Int) := by omega
          rw [hk2] at HT2
          have HK2 : Hid (k2 ≤ n + 20 ∧ n < k2 + f2 ∧ k < k2) := by refine ⟨?_, ?_, ?_⟩ <;> omega
          clear hs8 hk2
          have HO3 : Hid ((wr.alloc (.cells #[.string x] 9)).ownsRow W1.heap.size 9 1 (.slice pv na cv) na (sv acc)) := own_on HOW.out ((Below.refl _ _).alloc (Nat.le_refl _) _)
          have HNC : Hid (∀ a u, [Value.string x][a]? = some u → (wr.alloc (.cells #[.string x] 9)).cell? ((⟨wr.heap.size, 0, none⟩ : Addr).add a) = some u) := fun a u ha => by
            match a, ha with
            | 0, ha => simp at ha; subst ha; rw [Addr.add_lit]; exact (row1 (one_alloc wr (.cells #[.string x] 9))).1
          go_upto_region 12 with fail
          go_wp2_with (at_builtin; go_must (refine wpList_append_own _ rfl _ _ 22 rfl W1.heap.size 9 i9 (.string ⟨#[]⟩) 1 16 Try.underlying22 hi9 hy9 hy10 hy11 rfl (by decide) (.slice pv na cv) na (sv acc) rfl HO3.out ⟨wr.heap.size, 0, none⟩ 1 1 [.string x] rfl rfl HNC.out ?td1 ?td2 ?td3 ?td4 ?_))
          case td1 => first | (intro u hu; simp at hu; subst hu; rfl) | rfl
          case td2 => unfold maxLen; have := HAL.out; omega
          case td3 => have := HAL.out; omega
          case td4 => have := HB.out.size; simp; omega
          intro v9 w9 ho9 hg9 hn9
          obtain ⟨P9, k9, hf9⟩ := own_form ho9
          subst hf9
          have HO9 : Hid (w9.ownsRow W1.heap.size 9 1 (.slice P9 (na + 1) k9) (acc ++ [x]).length (sv (acc ++ [x]))) := by show World.ownsRow _ _ _ _ _ _ _; rw [sv_snoc, List.length_append, HNA.out]; exact ho9
          have HB9 : Hid (Below W1.heap.size W1 w9) := (HB.out.alloc HB.out.size _).grown hg9 (by have := HB.out.size; simp; omega) (fun b hb => own_block HO3.out b hb)
          clear ho9 hg9 hn9 d0 d1 d2 d3 d4 d5 d6 d7 d8 d9 df hcell
          obtain ⟨d0, d1, d2, d3, d4, d5, d6, d7, d8, d9, df⟩ := row10 (keep_row HS1.out HB9.out)
          go_wp2
          go_roundw
          case rel => exact ⟨k2, f2, acc ++ [x], by first | rfl | go_num, ⟨HK2.out.1, HK2.out.2.1, fun h => absurd h hfi, fun _ => HT2.out, HB9.out⟩, HO9.out⟩
          case measure => have := HK2.out; simp [intOf]; omega
        · have HE0 : Hid (acc = TB.placed r args) := by show _ = _; rw [← HT1.out, TB.plc_out args st x7 f k (by rw [HNL.out]; omega)]; simp
          have hkz : ¬ (k : Int) < (n : Int) := by omega
          clear hs8
          have HKA : Hid (TB.placed r args = acc) := HE0.out.symm
          by_cases hc0 : co = 0
          · have HK : Hid (TB.keyR r args = (acc, 0)) := by show _ = _; rw [TB.keyR_zero (by rw [← HE9.out, hc0]; rfl) args, HKA.out]
            have hc00 : ¬ (0 : Int) < (co : Int) := by omega
            clear hc0
            go_wp2
            go_returns
            exact ⟨⟨.slice pv na cv, by rw [HK.out]; rfl, by rw [HK.out]; show World.ownsRow _ _ _ _ _ acc.length (sv acc); rw [HNA.out]; exact own_lower HOW.out HB1.out.size⟩, HBF.out HB.out⟩
          · have hc00 : (0 : Int) < (co : Int) := by omega
            have HC0 : Hid (r.co ≠ 0) := by show _ ≠ _; rw [← HE9.out]; omega
            have HTN : Hid (r.co.toNat = co) := by show _ = _; rw [← HE9.out]; simp
            have hcon : co + 1 < n := by have := HK4.out; rw [← HE9.out] at this; omega
            obtain ⟨x, hxk⟩ : ∃ x, args[co]? = some x := ⟨_, List.getElem?_eq_getElem (by rw [HNL.out]; omega)⟩
            have hcell : wr.cell? ⟨g, o + co, none⟩ = some (.string x) := by
              obtain ⟨g', o', e', hc'⟩ := HAR.out.cell co (List.getElem?_eq_some_iff.1 hxk).1
              injection e' with e'
              injection e' with e1 e2 e3
              subst e1
              subst e2
              rw [hc', (List.getElem?_eq_some_iff.1 hxk).2]
            have HWD : Hid (TB.word args co = x) := by show _ = _; unfold TB.word; rw [List.getD_eq_getElem?_getD, hxk]; rfl
            obtain ⟨m, hm⟩ : ∃ m, n - co - 1 = m := ⟨_, rfl⟩
            have HKC : Hid (TB.cnt (TB.word args r.co.toNat).data.toList (args.length - r.co.toNat - 1) = TB.cnt x.data.toList m) := by show _ = _; rw [HTN.out, HWD.out, HNL.out, hm]
            have HNU : Hid _ := refNumber_any x (by unfold maxLen; have := hz x (List.mem_of_getElem? hxk); omega)
            obtain ⟨q, hq⟩ : ∃ q, co + 1 = q := ⟨_, rfl⟩
            have hqw : IntKind.i64.wrap ((co : Int) + 1) = (q : Int) := by rw [IntKind.wrap_i64] <;> omega
            have hqq : (co : Int) + 1 = (q : Int) := by omega
            have hmw1 : IntKind.i64.wrap ((n : Int) - (co : Int)) = (n : Int) - (co : Int) := by rw [IntKind.wrap_i64] <;> omega
            have hmw2 : IntKind.i64.wrap ((n : Int) - (co : Int) - 1) = (m : Int) := by rw [IntKind.wrap_i64] <;> omega
            have hmm : (n : Int) - (co : Int) - 1 = (m : Int) := by omega
            have hcz0 : (0 : Int) ≤ (co : Int) := by omega
            have hcz1 : (co : Int) < (n : Int) := by omega
            clear hxk
            cases hnum : Vi.numberOf x.data.toList with
            | none =>
              rw [numT_none hnum] at HNU
              have HK : Hid (TB.keyR r args = ([], 5)) := TB.keyR_no HC0.out (HKC.out.trans (by unfold TB.cnt; rw [hnum]))
              clear hnum hc0
              go_wp2_with fail
              refine (show Calls _ _ _ _ _ from HNU.out _).mono ?_
              rintro e wn ⟨rfl, hbn⟩
              have HBN : Hid (Below w.heap.size w wn) := bel_to (HBF.out HB.out) hbn (Nat.le_refl _)
              clear hbn
              go_wp2
              go_returns
              exact ⟨⟨.slice none 0 0, by rw [HK.out]; rfl, by rw [HK.out]; exact World.ownsRow_nil _ _ _ _⟩, HBN.out⟩
            | some vv =>
              rw [numT_some hnum] at HNU
              by_cases hv1 : vv < 1
              · have HK : Hid (TB.keyR r args = ([], 5)) := TB.keyR_no HC0.out (HKC.out.trans (by unfold TB.cnt; rw [hnum]; exact if_neg (by omega)))
                clear hnum hc0
                go_wp2_with fail
                refine (show Calls _ _ _ _ _ from HNU.out _).mono ?_
                rintro e wn ⟨rfl, hbn⟩
                have HBN : Hid (Below w.heap.size w wn) := bel_to (HBF.out HB.out) hbn (Nat.le_refl _)
                clear hbn
                go_wp2
                go_returns
                exact ⟨⟨.slice none 0 0, by rw [HK.out]; rfl, by rw [HK.out]; exact World.ownsRow_nil _ _ _ _⟩, HBN.out⟩
              · by_cases hvm : (m : Int) < vv
                · have HK : Hid (TB.keyR r args = ([], 5)) := TB.keyR_no HC0.out (HKC.out.trans (by unfold TB.cnt; rw [hnum]; exact if_neg (by omega)))
                  clear hnum hc0
                  go_wp2_with fail
                  refine (show Calls _ _ _ _ _ from HNU.out _).mono ?_
                  rintro e wn ⟨rfl, hbn⟩
                  have HBN : Hid (Below w.heap.size w wn) := bel_to (HBF.out HB.out) hbn (Nat.le_refl _)
                  obtain ⟨d0, d1, d2, d3, d4, d5, d6, d7, d8, d9, df⟩ := row10 (keep_row HSR.out hbn)
                  clear hbn
                  go_wp2
                  go_returns
                  exact ⟨⟨.slice none 0 0, by rw [HK.out]; rfl, by rw [HK.out]; exact World.ownsRow_nil _ _ _ _⟩, HBN.out⟩
                · obtain ⟨z, hzz⟩ : ∃ z : Nat, vv = (z : Int) := ⟨vv.toNat, by omega⟩
                  subst hzz
                  have HK : Hid (TB.keyR r args = (acc ++ (TB.behind args co).take z, 0)) := by
                    show _ = _
                    rw [TB.keyR_yes HC0.out (n := z) (HKC.out.trans (by unfold TB.cnt; rw [hnum]; dsimp only; rw [if_pos (by omega)]; rfl)), HKA.out, HTN.out]
                  obtain ⟨u, hu⟩ : ∃ u, q + z = u := ⟨_, rfl⟩
                  have huw : IntKind.i64.wrap ((q : Int) + (z : Int)) = (u : Int) := by rw [IntKind.wrap_i64] <;> omega
                  have huu : (q : Int) + (z : Int) = (u : Int) := by omega
                  have hqu : q ≤ u := by omega
                  have huc : u ≤ c := by omega
                  have hqc2 : ¬ c = q := by omega
                  have huq : u - q = z := by omega
                  have HNA1 : Hid (na ≤ 1) := by have := TB.placed_one hr HC0.out args; rw [HKA.out, HNA.out] at this; exact this
                  have HLZ : Hid (((TB.behind args co).take z).length = z) := by show _ = _; rw [List.length_take, TB.behind_len, HNL.out]; omega
                  have HZN : Hid (z + co + 1 ≤ n) := by show _ ≤ _; omega
                  have HQ : Hid (co + 1 = q) := hq
                  clear hnum hc0 hu
                  go_wp2_with fail
                  refine (show Calls _ _ _ _ _ from HNU.out _).mono ?_
                  rintro e wn ⟨rfl, hbn⟩
                  have HBN : Hid (Below w.heap.size w wn) := bel_to (HBF.out HB.out) hbn (Nat.le_refl _)
                  have HOWN : Hid (wn.ownsRow W1.heap.size 9 1 (.slice pv na cv) na (sv acc)) := own_on HOW.out hbn
                  have HNC : Hid (∀ a uu, (sv ((TB.behind args co).take z))[a]? = some uu → wn.cell? ((⟨g, o + q, none⟩ : Addr).add a) = some uu) := fun a uu ha => by
                    unfold sv at ha
                    rw [List.getElem?_map, Option.map_eq_some_iff] at ha
                    obtain ⟨y, hy, rfl⟩ := ha
                    rw [List.getElem?_take] at hy
                    split at hy
                    · unfold TB.behind at hy
                      rw [List.getElem?_drop] at hy
                      obtain ⟨g', o', e', hc'⟩ := (HAR.out.on hbn).cell (co + 1 + a) (List.getElem?_eq_some_iff.1 hy).1
                      injection e' with e'
                      injection e' with e1 e2 e3
                      subst e1
                      subst e2
                      rw [Lib.add_plain]
                      rw [show o + q + a = o + (co + 1 + a) from by have := HQ.out; omega, hc', (List.getElem?_eq_some_iff.1 hy).2]
                    · cases hy
                  have HBS : Hid (W1.heap.size ≤ wn.heap.size) := Nat.le_trans HB.out.size hbn.size
                  obtain ⟨d0, d1, d2, d3, d4, d5, d6, d7, d8, d9, df⟩ := row10 (keep_row HSR.out hbn)
                  clear hbn
                  go_upto_region 17 with fail
                  go_wp2_with (at_builtin; go_must (refine wpList_append_own _ rfl _ _ 22 rfl W1.heap.size 9 i9 (.string ⟨#[]⟩) 1 16 Try.underlying22 hi9 hy9 hy10 hy11 rfl (by decide) (.slice pv na cv) na (sv acc) rfl HOWN.out ⟨g, o + q, none⟩ z (c - q) (sv ((TB.behind args co).take z)) rfl (by rw [sv_len, HLZ.out, Nat.mul_one]) HNC.out ?tb1 ?tb2 ?tb3 ?tb4 ?_))
                  case tb1 => intro uu hu; unfold sv at hu; rw [List.mem_map] at hu; obtain ⟨y, _, rfl⟩ := hu; rfl
                  case tb2 => unfold maxLen; have := HNA1.out; have := HZN.out; omega
                  case tb3 => have := HNA1.out; have := HZN.out; omega
                  case tb4 => exact HBS.out
                  intro v9 w9 ho9 hg9 hn9
                  have HO9 : Hid (w9.ownsRow w.heap.size 9 1 v9 (acc ++ (TB.behind args co).take z).length (sv (acc ++ (TB.behind args co).take z))) := by
                    show World.ownsRow _ _ _ _ _ _ _
                    rw [sv_app, List.length_append, HNA.out, HLZ.out]
                    exact own_lower ho9 HB1.out.size
                  have HB9 : Hid (Below w.heap.size w w9) := HBN.out.grown hg9 HBN.out.size (fun b hb => Nat.le_trans HB1.out.size (own_block HOWN.out b hb))
                  obtain ⟨P9, k9, hf9⟩ := own_form ho9
                  subst hf9
                  clear ho9 hg9 hn9 d0 d1 d2 d3 d4 d5 d6 d7 d8 d9 df
                  go_wp2
                  go_returns
                  exact ⟨⟨.slice P9 (na + z) k9, by rw [HK.out]; rfl, by rw [HK.out]; exact HO9.out⟩, HB9.out⟩
      · have HE0 : Hid (acc = TB.placed r args) := by show _ = _; rw [← HT1.out, TB.plc_far args st x7 f k hkL]; simp
        clear hs8
        have HKA : Hid (TB.placed r args = acc) := HE0.out.symm
        by_cases hc0 : co = 0
        · have HK : Hid (TB.keyR r args = (acc, 0)) := by show _ = _; rw [TB.keyR_zero (by rw [← HE9.out, hc0]; rfl) args, HKA.out]
          have hc00 : ¬ (0 : Int) < (co : Int) := by omega
          clear hc0
          go_wp2
          go_returns
          exact ⟨⟨.slice pv na cv, by rw [HK.out]; rfl, by rw [HK.out]; show World.ownsRow _ _ _ _ _ acc.length (sv acc); rw [HNA.out]; exact own_lower HOW.out HB1.out.size⟩, HBF.out HB.out⟩
        · have hc00 : (0 : Int) < (co : Int) := by omega
          have HC0 : Hid (r.co ≠ 0) := by show _ ≠ _; rw [← HE9.out]; omega
          have HTN : Hid (r.co.toNat = co) := by show _ = _; rw [← HE9.out]; simp
          have hcon : co + 1 < n := by have := HK4.out; rw [← HE9.out] at this; omega
          obtain ⟨x, hxk⟩ : ∃ x, args[co]? = some x := ⟨_, List.getElem?_eq_getElem (by rw [HNL.out]; omega)⟩
          have hcell : wr.cell? ⟨g, o + co, none⟩ = some (.string x) := by
            obtain ⟨g', o', e', hc'⟩ := HAR.out.cell co (List.getElem?_eq_some_iff.1 hxk).1
            injection e' with e'
            injection e' with e1 e2 e3
            subst e1
            subst e2
            rw [hc', (List.getElem?_eq_some_iff.1 hxk).2]
          have HWD : Hid (TB.word args co = x) := by show _ = _; unfold TB.word; rw [List.getD_eq_getElem?_getD, hxk]; rfl
          obtain ⟨m, hm⟩ : ∃ m, n - co - 1 = m := ⟨_, rfl⟩
          have HKC : Hid (TB.cnt (TB.word args r.co.toNat).data.toList (args.length - r.co.toNat - 1) = TB.cnt x.data.toList m) := by show _ = _; rw [HTN.out, HWD.out, HNL.out, hm]
          have HNU : Hid _ := refNumber_any x (by unfold maxLen; have := hz x (List.mem_of_getElem? hxk); omega)
          obtain ⟨q, hq⟩ : ∃ q, co + 1 = q := ⟨_, rfl⟩
          have hqw : IntKind.i64.wrap ((co : Int) + 1) = (q : Int) := by rw [IntKind.wrap_i64] <;> omega
          have hqq : (co : Int) + 1 = (q : Int) := by omega
          have hmw1 : IntKind.i64.wrap ((n : Int) - (co : Int)) = (n : Int) - (co : Int) := by rw [IntKind.wrap_i64] <;> omega
          have hmw2 : IntKind.i64.wrap ((n : Int) - (co : Int) - 1) = (m : Int) := by rw [IntKind.wrap_i64] <;> omega
          have hmm : (n : Int) - (co : Int) - 1 = (m : Int) := by omega
          have hcz0 : (0 : Int) ≤ (co : Int) := by omega
          have hcz1 : (co : Int) < (n : Int) := by omega
          clear hxk
          cases hnum : Vi.numberOf x.data.toList with
          | none =>
            rw [numT_none hnum] at HNU
            have HK : Hid (TB.keyR r args = ([], 5)) := TB.keyR_no HC0.out (HKC.out.trans (by unfold TB.cnt; rw [hnum]))
            clear hnum hc0
            go_wp2_with fail
            refine (show Calls _ _ _ _ _ from HNU.out _).mono ?_
            rintro e wn ⟨rfl, hbn⟩
            have HBN : Hid (Below w.heap.size w wn) := bel_to (HBF.out HB.out) hbn (Nat.le_refl _)
            clear hbn
            go_wp2
            go_returns
            exact ⟨⟨.slice none 0 0, by rw [HK.out]; rfl, by rw [HK.out]; exact World.ownsRow_nil _ _ _ _⟩, HBN.out⟩
          | some vv =>
            rw [numT_some hnum] at HNU
            by_cases hv1 : vv < 1
            · have HK : Hid (TB.keyR r args = ([], 5)) := TB.keyR_no HC0.out (HKC.out.trans (by unfold TB.cnt; rw [hnum]; exact if_neg (by omega)))
              clear hnum hc0
              go_wp2_with fail
              refine (show Calls _ _ _ _ _ from HNU.out _).mono ?_
              rintro e wn ⟨rfl, hbn⟩
              have HBN : Hid (Below w.heap.size w wn) := bel_to (HBF.out HB.out) hbn (Nat.le_refl _)
              clear hbn
              go_wp2
              go_returns
              exact ⟨⟨.slice none 0 0, by rw [HK.out]; rfl, by rw [HK.out]; exact World.ownsRow_nil _ _ _ _⟩, HBN.out⟩
            · by_cases hvm : (m : Int) < vv
              · have HK : Hid (TB.keyR r args = ([], 5)) := TB.keyR_no HC0.out (HKC.out.trans (by unfold TB.cnt; rw [hnum]; exact if_neg (by omega)))
                clear hnum hc0
                go_wp2_with fail
                refine (show Calls _ _ _ _ _ from HNU.out _).mono ?_
                rintro e wn ⟨rfl, hbn⟩
                have HBN : Hid (Below w.heap.size w wn) := bel_to (HBF.out HB.out) hbn (Nat.le_refl _)
                obtain ⟨d0, d1, d2, d3, d4, d5, d6, d7, d8, d9, df⟩ := row10 (keep_row HSR.out hbn)
                clear hbn
                go_wp2
                go_returns
                exact ⟨⟨.slice none 0 0, by rw [HK.out]; rfl, by rw [HK.out]; exact World.ownsRow_nil _ _ _ _⟩, HBN.out⟩
              · obtain ⟨z, hzz⟩ : ∃ z : Nat, vv = (z : Int) := ⟨vv.toNat, by omega⟩
                subst hzz
                have HK : Hid (TB.keyR r args = (acc ++ (TB.behind args co).take z, 0)) := by
                  show _ = _
                  rw [TB.keyR_yes HC0.out (n := z) (HKC.out.trans (by unfold TB.cnt; rw [hnum]; dsimp only; rw [if_pos (by omega)]; rfl)), HKA.out, HTN.out]
                obtain ⟨u, hu⟩ : ∃ u, q + z = u := ⟨_, rfl⟩
                have huw : IntKind.i64.wrap ((q : Int) + (z : Int)) = (u : Int) := by rw [IntKind.wrap_i64] <;> omega
                have huu : (q : Int) + (z : Int) = (u : Int) := by omega
                have hqu : q ≤ u := by omega
                have huc : u ≤ c := by omega
                have hqc2 : ¬ c = q := by omega
                have huq : u - q = z := by omega
                have HNA1 : Hid (na ≤ 1) := by have := TB.placed_one hr HC0.out args; rw [HKA.out, HNA.out] at this; exact this
                have HLZ : Hid (((TB.behind args co).take z).length = z) := by show _ = _; rw [List.length_take, TB.behind_len, HNL.out]; omega
                have HZN : Hid (z + co + 1 ≤ n) := by show _ ≤ _; omega
                have HQ : Hid (co + 1 = q) := hq
                clear hnum hc0 hu
                go_wp2_with fail
                refine (show Calls _ _ _ _ _ from HNU.out _).mono ?_
                rintro e wn ⟨rfl, hbn⟩
                have HBN : Hid (Below w.heap.size w wn) := bel_to (HBF.out HB.out) hbn (Nat.le_refl _)
                have HOWN : Hid (wn.ownsRow W1.heap.size 9 1 (.slice pv na cv) na (sv acc)) := own_on HOW.out hbn
                have HNC : Hid (∀ a uu, (sv ((TB.behind args co).take z))[a]? = some uu → wn.cell? ((⟨g, o + q, none⟩ : Addr).add a) = some uu) := fun a uu ha => by
                  unfold sv at ha
                  rw [List.getElem?_map, Option.map_eq_some_iff] at ha
                  obtain ⟨y, hy, rfl⟩ := ha
                  rw [List.getElem?_take] at hy
                  split at hy
                  · unfold TB.behind at hy
                    rw [List.getElem?_drop] at hy
                    obtain ⟨g', o', e', hc'⟩ := (HAR.out.on hbn).cell (co + 1 + a) (List.getElem?_eq_some_iff.1 hy).1
                    injection e' with e'
                    injection e' with e1 e2 e3
                    subst e1
                    subst e2
                    rw [Lib.add_plain]
                    rw [show o + q + a = o + (co + 1 + a) from by have := HQ.out; omega, hc', (List.getElem?_eq_some_iff.1 hy).2]
                  · cases hy
                have HBS : Hid (W1.heap.size ≤ wn.heap.size) := Nat.le_trans HB.out.size hbn.size
                obtain ⟨d0, d1, d2, d3, d4, d5, d6, d7, d8, d9, df⟩ := row10 (keep_row HSR.out hbn)
                clear hbn
                go_upto_region 17 with fail
                go_wp2_with (at_builtin; go_must (refine wpList_append_own _ rfl _ _ 22 rfl W1.heap.size 9 i9 (.string ⟨#[]⟩) 1 16 Try.underlying22 hi9 hy9 hy10 hy11 rfl (by decide) (.slice pv na cv) na (sv acc) rfl HOWN.out ⟨g, o + q, none⟩ z (c - q) (sv ((TB.behind args co).take z)) rfl (by rw [sv_len, HLZ.out, Nat.mul_one]) HNC.out ?tc1 ?tc2 ?tc3 ?tc4 ?_))
                case tc1 => intro uu hu; unfold sv at hu; rw [List.mem_map] at hu; obtain ⟨y, _, rfl⟩ := hu; rfl
                case tc2 => unfold maxLen; have := HNA1.out; have := HZN.out; omega
                case tc3 => have := HNA1.out; have := HZN.out; omega
                case tc4 => exact HBS.out
                intro v9 w9 ho9 hg9 hn9
                have HO9 : Hid (w9.ownsRow w.heap.size 9 1 v9 (acc ++ (TB.behind args co).take z).length (sv (acc ++ (TB.behind args co).take z))) := by
                  show World.ownsRow _ _ _ _ _ _ _
                  rw [sv_app, List.length_append, HNA.out, HLZ.out]
                  exact own_lower ho9 HB1.out.size
                have HB9 : Hid (Below w.heap.size w w9) := HBN.out.grown hg9 HBN.out.size (fun b hb => Nat.le_trans HB1.out.size (own_block HOWN.out b hb))
                obtain ⟨P9, k9, hf9⟩ := own_form ho9
                subst hf9
                clear ho9 hg9 hn9 d0 d1 d2 d3 d4 d5 d6 d7 d8 d9 df
                go_wp2
                go_returns
                exact ⟨⟨.slice P9 (na + z) k9, by rw [HK.out]; rfl, by rw [HK.out]; exact HO9.out⟩, HB9.out⟩
end Go.Proofs.Ytnnpnccnpojfmaa
