import Derived.Test.YtnfbaeajalnmmaaGreatDoorHK
import Derived.Test.YtnfbaeajalnmmaaGreatDoorIaL
import Derived.Test.YtnfbaeajalnmmaaGreatDoorHT
import Derived.Deep.RegionWith
import Derived.Deep.RegionLaw
import Derived.Maps.AppendAt
namespace Go.Proofs.YtnfbaeajalnmmaaGreatDoor
open Go.RowKit Vi
set_option linter.unusedVariables false
set_option linter.unusedSimpArgs false
/-- a reply that is stored as the first answer, a number as the second, and the return. -/
theorem rp2_fin (f : Func) (k k2 : Nat) (hres : f.results = #[.cell k 24, .tmp k2]) {W : World} {rb : Nat} {x0 x1 x2 x3 : Value} (hr : W.heap[rb]? = some (.cells #[x0, x1, x2, x3] 24)) (v0 v1 v2 v3 ev : Value) (post : Ending → World → Prop)
    (hpost : ∀ w', Only W w' rb → post (.returned (.tuple #[.agg #[v0, v1, v2, v3], ev])) w')
    (a : Act) (hdf : a.defers = []) (h2 : a.tmps.getD k undef = .pointer (some ⟨rb, 0, none⟩)) (h3 : a.tmps.getD k2 undef = ev) :
    bodyPost Tryz.prog f post .ret a ((((W.setCell ⟨rb, 0, none⟩ v0).setCell ⟨rb, 1, none⟩ v1).setCell ⟨rb, 2, none⟩ v2).setCell ⟨rb, 3, none⟩ v3) := by
  obtain ⟨hr9, ho9⟩ := heap_set4 W rb 24 _ _ _ _ v0 v1 v2 v3 hr
  obtain ⟨y0, y1, y2, y3, yf⟩ := prow4 hr9
  generalize (((W.setCell ⟨rb, 0, none⟩ v0).setCell ⟨rb, 1, none⟩ v1).setCell ⟨rb, 2, none⟩ v2).setCell ⟨rb, 3, none⟩ v3 = W9 at *
  refine bodyPost_ret (v := .tuple #[.agg #[v0, v1, v2, v3], ev]) ?_ hdf (hpost W9 ho9)
  rw [Array.getD_eq_getD_getElem?] at h2 h3
  simp [results, hres, go_sem, y0, y1, y2, y3, h2, h3]
theorem DkR.to {w w' : World} {q rb : Nat} {s : ByteArray} {i j : Nat} (h : DkR w q s i) (ho : Only w w' rb) (hq : rb ≠ q) (hij : i = j) : DkR w' q s j := by
  subst hij
  unfold DkR at *
  rw [ho.other q (Ne.symm hq)]; exact h
/-- what a call that reads a reply without a list answers. -/
def LfIs (h : HdR) (q : Nat) (s : ByteArray) (p : Nat) (w w' : World) (e : Ending) : Prop :=
  ∃ k0 t0 n0, e = .returned (.tuple #[.agg #[.int .i64 k0, .string t0, .int .i64 n0, .slice none 0 0], .int .i64 (h.e : Int)]) ∧ Dx q w w' ∧ (h.e = 0 → k0 = h.kind ∧ t0 = strB h.text ∧ n0 = h.n ∧ DkR w' q s (p + h.size))
theorem lf_err {h : HdR} {q : Nat} {s : ByteArray} {p : Nat} {w w' : World} (k0 : Int) (t0 : ByteArray) (n0 : Int) (x : Nat) (he : h.e = x) (hx : x ≠ 0) (hd : Dx q w w') : LfIs h q s p w w' (.returned (.tuple #[.agg #[.int .i64 k0, .string t0, .int .i64 n0, .slice none 0 0], .int .i64 (x : Int)])) :=
  ⟨k0, t0, n0, by rw [he], hd, fun e => absurd (he ▸ e) hx⟩
set_option maxHeartbeats 2000000 in
set_option maxRecDepth 20000 in
theorem dline_any (q : Nat) (s : ByteArray) (p : Nat) (kd : Int) (hs : s.size ≤ 281474976710656) (hi : p + 1 ≤ s.size) (w : World) (h : DkR w q s (p + 1)) :
    Calls Tryz.prog 19 #[.pointer (some ⟨q, 0, none⟩), .int .i64 kd] w fun e w' => LfIs (lineH kd (s.data.toList.drop (p + 1))) q s p w w' e := by
  obtain ⟨i, hip⟩ : ∃ i, p + 1 = i := ⟨_, rfl⟩
  rw [hip] at hi h ⊢
  have HIP : Hid (p + 1 = i) := hip
  clear hip
  obtain ⟨rb, hrb⟩ : ∃ rb, w.heap.size = rb := ⟨_, rfl⟩
  obtain ⟨W0, hW0⟩ : ∃ W, W = w.alloc (.cells #[.int .i64 0, .string ⟨#[]⟩, .int .i64 0, .slice none 0 0] 24) := ⟨_, rfl⟩
  have hb0 : Below w.heap.size w W0 := by rw [hW0]; exact (Below.refl _ _).alloc (Nat.le_refl _) _
  have hr0 : W0.heap[rb]? = some (.cells #[.int .i64 0, .string ⟨#[]⟩, .int .i64 0, .slice none 0 0] 24) := by rw [hW0, ← hrb]; exact one_alloc _ _
  have HD0 : Hid (Dx q w W0) := Dx.of hb0
  have HR0 : Hid _ := hr0
  have HK0 : Hid (DkR W0 q s i) := h.on hb0
  have hqr : rb ≠ q := by have := h.lt; omega
  have HRW : Hid (w.heap.size ≤ rb) := Nat.le_of_eq hrb
  obtain ⟨c0, c1, cf⟩ := HK0.out.cells
  have hz0 : (0 : Int) ≤ (i : Int) := by omega
  have hz1 : (i : Int) ≤ (s.size : Int) := by omega
  obtain ⟨T, hT⟩ : ∃ T, s.extract i s.size = T := ⟨_, rfl⟩
  have hl : T.data.toList = s.data.toList.drop i := by rw [← hT]; exact rest_list s i hi
  have hTs : T.size ≤ 281474976710656 := by rw [← hT, ext_size _ _ _ (Nat.le_refl _)]; omega
  have HIA : Hid (∀ W, Calls Tryz.prog 38 #[.string T, .string ⟨#[13, 10]⟩] W fun e w' => e = .returned (.int .i64 (elI (s.data.toList.drop i))) ∧ Below W.heap.size W w') := fun W => by
    have := ia_all T hTs W
    rw [hl] at this; exact this
  cases hel : elAt (s.data.toList.drop i) with
  | none =>
    have hE : elI (s.data.toList.drop i) = -1 := by unfold elI; rw [hel]
    rw [hE] at HIA
    have HH : Hid ((lineH kd (s.data.toList.drop i)).e = 20) := by show _ = _; unfold lineH; rw [hel]
    clear h hb0 hr0 hel hE hl
    go_enter Tryz.func19, Tryz.ntmps19
    go_upto_region 1 with fail
    rw [← hW0]
    clear hW0 hrb
    go_quiet (fail)
    go_wp2_with fail
    refine (HIA.out _).mono ?_
    rintro e w1 ⟨rfl, hb1⟩
    have HR1 : Hid (w1.heap[rb]? = _) := keep_row (w := W0.drewN nq) HR0.out hb1
    have HD1 : Hid (Dx q w w1) := (HD0.out.dn nq).trans (Dx.of hb1)
    obtain ⟨z0, z1, z2, z3, zf⟩ := prow4 HR1.out
    clear hb1
    go_wp2
    exact rp2_fin _ 4 5 Tryz.results19 HR1.out _ _ _ _ _ _ (fun w' ho => lf_err _ _ _ 20 HH.out (by decide) (HD1.out.set ho HRW.out)) _ rfl rfl rfl
  | some j =>
    have hE : elI (s.data.toList.drop i) = (j : Int) := by unfold elI; rw [hel]
    rw [hE] at HIA
    obtain ⟨hjl, _, _⟩ := el_some hel
    rw [List.length_drop, list_len] at hjl
    have hj0 : (0 : Int) ≤ (j : Int) := by omega
    have hjT : (j : Int) ≤ (T.size : Int) := by rw [← list_len T, hl, List.length_drop, list_len]; omega
    obtain ⟨U, hU⟩ : ∃ U, T.extract 0 j = U := ⟨_, rfl⟩
    have hUl : U.data.toList = (s.data.toList.drop i).take j := by rw [← hU, ext_any, List.drop_zero, Nat.sub_zero, hl]
    have hUs : U.size ≤ 281474976710656 := by rw [← list_len, hUl, List.length_take, List.length_drop, list_len]; omega
    have hjw : IntKind.i64.wrap ((i : Int) + (j : Int)) = ((i + j : Nat) : Int) := by rw [IntKind.wrap_i64] <;> omega
    obtain ⟨x, hx⟩ : ∃ x, endE (s.data.toList.drop (i + j)) = x := ⟨_, rfl⟩
    have hdr : (s.data.toList.drop i).drop j = s.data.toList.drop (i + j) := by rw [List.drop_drop]
    have HEN : Hid (∀ W, DkR W q s (i + j) → Calls Tryz.prog 22 #[.pointer (some ⟨q, 0, none⟩)] W fun e w' => e = .returned (.int .i64 (x : Int)) ∧ Dx q W w' ∧ (x = 0 → DkR w' q s (i + j + 2))) := fun W hW => by
      have := end_any q s (i + j) (by omega) (by omega) W hW
      rw [hx] at this
      exact this
    have HH : Hid ((lineH kd (s.data.toList.drop i)).e = x ∧ (x = 0 → lineH kd (s.data.toList.drop i) = { e := 0, kind := kd, text := (s.data.toList.drop i).take j, size := j + 3 })) := by
      show _ ∧ _
      unfold lineH
      rw [hel]
      simp only
      rw [hdr, hx]
      constructor
      · split
        · rename_i h0; rw [h0]
        · rfl
      · intro h0; rw [if_pos h0]
    have HU : Hid (U = strB ((s.data.toList.drop i).take j)) := by show _ = _; rw [← hUl]; rfl
    have HWD : Hid _ := worded_any kd U (by omega)
    clear h hb0 hr0 hel hE hl hUl hdr hx
    go_enter Tryz.func19, Tryz.ntmps19
    go_upto_region 1 with fail
    rw [← hW0]
    clear hW0 hrb
    go_quiet (fail)
    go_wp2_with fail
    refine (HIA.out _).mono ?_
    rintro e w1 ⟨rfl, hb1⟩
    have HR1 : Hid (w1.heap[rb]? = _) := keep_row (w := W0.drewN nq) HR0.out hb1
    have HD1 : Hid (Dx q w w1) := (HD0.out.dn nq).trans (Dx.of hb1)
    have HK1 : Hid (DkR w1 q s i) := (HK0.out.dn nq).on hb1
    obtain ⟨d0, d1, df⟩ := HK1.out.cells
    have HS1 : Hid _ := HK1.out.set (i + j)
    have HR2 : Hid ((w1.setCell ⟨q, 1, none⟩ (.int .i64 ((i + j : Nat) : Int))).heap[rb]? = _) := (HS1.out.2.other rb hqr).trans HR1.out
    have HD2 : Hid (Dx q w (w1.setCell ⟨q, 1, none⟩ (.int .i64 ((i + j : Nat) : Int)))) := HD1.out.trans (Dx.only HS1.out.2)
    clear hb1
    go_wp2_with fail
    refine (HWD.out _).mono ?_
    rintro e w2 ⟨rfl, hb2⟩
    have HR3 : Hid (w2.heap[rb]? = _) := keep_row HR2.out hb2
    have HD3 : Hid (Dx q w w2) := HD2.out.trans (Dx.of hb2)
    have HK3 : Hid (DkR w2 q s (i + j)) := HS1.out.1.on hb2
    clear hb2
    go_wp2_with fail
    refine (HEN.out _ HK3.out).mono ?_
    rintro e w3 ⟨rfl, hx3, hk3⟩
    have HR4 : Hid (w3.heap[rb]? = _) := hx3.row HR3.out hqr
    have HD4 : Hid (Dx q w w3) := HD3.out.trans hx3
    have HK4 : Hid _ := hk3
    obtain ⟨z0, z1, z2, z3, zf⟩ := prow4 HR4.out
    clear hx3 hk3 d0 d1 df
    unfold rpV
    go_wp2
    refine rp2_fin _ 4 5 Tryz.results19 HR4.out _ _ _ _ _ _ (fun w' ho => ?_) _ rfl rfl rfl
    refine ⟨_, _, _, by rw [HH.out.1]; rfl, HD4.out.set ho HRW.out, fun e => ?_⟩
    rw [HH.out.1] at e
    rw [HH.out.2 e]
    refine ⟨rfl, HU.out, rfl, ?_⟩
    exact (HK4.out e).to ho hqr (by have := HIP.out; show i + j + 2 = p + (j + 3); omega)
set_option maxHeartbeats 4000000 in
set_option maxRecDepth 20000 in
theorem dbulk_any (q : Nat) (s : ByteArray) (p : Nat) (hs : s.size ≤ 281474976710656) (hi : p + 1 ≤ s.size) (w : World) (h : DkR w q s (p + 1)) (hL : Laid w) :
    Calls Tryz.prog 21 #[.pointer (some ⟨q, 0, none⟩)] w fun e w' => LfIs (bulkH (s.data.toList.drop (p + 1))) q s p w w' e := by
  obtain ⟨i, hip⟩ : ∃ i, p + 1 = i := ⟨_, rfl⟩
  rw [hip] at hi h ⊢
  have HIP : Hid (p + 1 = i) := hip
  clear hip
  obtain ⟨rb, hrb⟩ : ∃ rb, w.heap.size = rb := ⟨_, rfl⟩
  obtain ⟨W0, hW0⟩ : ∃ W, W = w.alloc (.cells #[.int .i64 0, .string ⟨#[]⟩, .int .i64 0, .slice none 0 0] 24) := ⟨_, rfl⟩
  have hb0 : Below w.heap.size w W0 := by rw [hW0]; exact (Below.refl _ _).alloc (Nat.le_refl _) _
  have hr0 : W0.heap[rb]? = some (.cells #[.int .i64 0, .string ⟨#[]⟩, .int .i64 0, .slice none 0 0] 24) := by rw [hW0, ← hrb]; exact one_alloc _ _
  have HD0 : Hid (Dx q w W0) := Dx.of hb0
  have HR0 : Hid _ := hr0
  have HK0 : Hid (DkR W0 q s i) := h.on hb0
  have hqr : rb ≠ q := by have := h.lt; omega
  have HRW : Hid (w.heap.size ≤ rb) := Nat.le_of_eq hrb
  have HLL : Hid (Laid W0) := hL.on hb0
  obtain ⟨r, hr⟩ : ∃ r, s.data.toList.drop i = r := ⟨_, rfl⟩
  rw [hr]
  obtain ⟨x, hx⟩ : ∃ x, (nuE r (-1) 524288).1 = x := ⟨_, rfl⟩
  clear h hb0 hr0 hL
  by_cases hx0 : x = 0
  · subst hx0
    obtain ⟨n, z, hnz⟩ : ∃ n z, nuE r (-1) 524288 = (0, n, z) := by
      rcases hh : nuE r (-1) 524288 with ⟨a, b, c⟩
      rw [hh] at hx
      exact ⟨b, c, by rw [show a = 0 from hx]⟩
    have HNU : Hid _ := dnum_ok q s i (-1) 524288 n z (by omega) hi W0 HK0.out HLL.out (by rw [hr]; exact hnz)
    have hn1 : -1 ≤ n ∧ n ≤ 524288 ∧ i + z ≤ s.size := nu_range (by omega) hnz (by rw [← hr, List.length_drop, list_len]; omega)
    by_cases hneg : n < 0
    · have hdn : decide (n < 0) = true := dec_t hneg
      have HH : Hid (bulkH r = { e := 0, size := z + 1 }) := by show _ = _; unfold bulkH; rw [hnz]; simp only; rw [if_pos hneg]
      rw [HH.out]
      clear hx hnz hneg hr
      go_enter Tryz.func21, Tryz.ntmps21
      go_wp2_with fail
      rw [← hW0]
      clear hW0 hrb
      refine (show Calls _ _ _ _ _ from HNU.out).mono ?_
      rintro e w1 ⟨rfl, hd1, hk1⟩
      have HR1 : Hid (w1.heap[rb]? = _) := hd1.row HR0.out hqr
      have HD1 : Hid (Dx q w w1) := HD0.out.trans hd1
      have HK1 : Hid (DkR w1 q s (i + z)) := hk1
      obtain ⟨z0, z1, z2, z3, zf⟩ := prow4 HR1.out
      clear hd1 hk1
      go_wp2
      refine rp2_fin _ 2 3 Tryz.results21 HR1.out _ _ _ _ _ _ (fun w' ho => ?_) _ rfl rfl rfl
      refine ⟨_, _, _, rfl, HD1.out.set ho HRW.out, fun e => ⟨rfl, rfl, rfl, ?_⟩⟩
      exact HK1.out.to ho hqr (by have := HIP.out; show i + z = p + (z + 1); omega)
    · obtain ⟨m, rfl⟩ : ∃ m : Nat, n = (m : Int) := ⟨n.toNat, by omega⟩
      have hdn : decide ((m : Int) < 0) = false := dec_f hneg
      have HB : Hid (bulkH r = bulkT (r.drop z) m z) := by show _ = _; unfold bulkH; rw [hnz]; simp only; rw [if_neg hneg, Int.toNat_natCast]
      rw [HB.out]
      obtain ⟨k, hk⟩ : ∃ k, i + z = k := ⟨_, rfl⟩
      have hdr : r.drop z = s.data.toList.drop k := by rw [← hr, List.drop_drop, hk]
      rw [hdr]
      have hks : k ≤ s.size := by omega
      have hz0 : (0 : Int) ≤ (k : Int) := by omega
      have hz1 : (k : Int) ≤ (s.size : Int) := by omega
      obtain ⟨T, hT⟩ : ∃ T, s.extract k s.size = T := ⟨_, rfl⟩
      have hl : T.data.toList = s.data.toList.drop k := by rw [← hT]; exact rest_list s k hks
      have hTs : T.size = s.size - k := by rw [← hT, ext_size _ _ _ (Nat.le_refl _)]
      rw [hk] at hn1
      have HKK : Hid (i + z = k) := hk
      have HNU : Hid (Calls Tryz.prog 20 #[.pointer (some ⟨q, 0, none⟩), .int .i64 (-1), .int .i64 524288] W0 fun e w' => e = .returned (.tuple #[.int .i64 (m : Int), .int .i64 0]) ∧ Dx q W0 w' ∧ DkR w' q s k) := hk ▸ HNU.out
      by_cases hsh : T.size < m
      · have hds : decide ((T.size : Int) < (m : Int)) = true := dec_t (by omega)
        have HH : Hid ((bulkT (s.data.toList.drop k) m z).e = 20) := by show _ = _; unfold bulkT; rw [if_pos (by rw [List.length_drop, list_len]; omega)]
        clear hx hnz hneg hr hdr hk hl HB
        go_enter Tryz.func21, Tryz.ntmps21
        go_wp2_with fail
        rw [← hW0]
        clear hW0 hrb
        refine (show Calls _ _ _ _ _ from HNU.out).mono ?_
        rintro e w1 ⟨rfl, hd1, hk1⟩
        have HR1 : Hid (w1.heap[rb]? = _) := hd1.row HR0.out hqr
        have HD1 : Hid (Dx q w w1) := HD0.out.trans hd1
        have HK1 : Hid (DkR w1 q s k) := hk1
        obtain ⟨c0, c1, cf⟩ := HK1.out.cells
        clear hd1 hk1
        go_wp2_with fail
        go_quiet (fail)
        obtain ⟨z0, z1, z2, z3, zf⟩ := prow4 (w := w1.drewN nq) HR1.out
        go_wp2
        exact rp2_fin _ 2 3 Tryz.results21 (W := w1.drewN nq) HR1.out _ _ _ _ _ _ (fun w' ho => lf_err _ _ _ 20 HH.out (by decide) ((HD1.out.dn nq).set ho HRW.out)) _ rfl rfl rfl
      · have hds : decide ((T.size : Int) < (m : Int)) = false := dec_f (by omega)
        have hm0 : (0 : Int) ≤ (m : Int) := by omega
        have hmT : (m : Int) ≤ (T.size : Int) := by omega
        obtain ⟨U, hU⟩ : ∃ U, T.extract 0 m = U := ⟨_, rfl⟩
        have hUl : U.data.toList = (s.data.toList.drop k).take m := by rw [← hU, ext_any, List.drop_zero, Nat.sub_zero, hl]
        have hUs : U.size ≤ 281474976710656 := by rw [← list_len, hUl, List.length_take, List.length_drop, list_len]; omega
        have hjw : IntKind.i64.wrap ((k : Int) + (m : Int)) = ((k + m : Nat) : Int) := by rw [IntKind.wrap_i64] <;> omega
        obtain ⟨y, hy⟩ : ∃ y, endE (s.data.toList.drop (k + m)) = y := ⟨_, rfl⟩
        have hdr2 : (s.data.toList.drop k).drop m = s.data.toList.drop (k + m) := by rw [List.drop_drop]
        have HEN : Hid (∀ W, DkR W q s (k + m) → Calls Tryz.prog 22 #[.pointer (some ⟨q, 0, none⟩)] W fun e w' => e = .returned (.int .i64 (y : Int)) ∧ Dx q W w' ∧ (y = 0 → DkR w' q s (k + m + 2))) := fun W hW => by
          have := end_any q s (k + m) (by omega) (by omega) W hW
          rw [hy] at this
          exact this
        have HH : Hid ((bulkT (s.data.toList.drop k) m z).e = y ∧ (y = 0 → bulkT (s.data.toList.drop k) m z = { e := 0, kind := 4, text := (s.data.toList.drop k).take m, size := z + 1 + m + 2 })) := by
          show _ ∧ _
          unfold bulkT
          rw [if_neg (by rw [List.length_drop, list_len]; omega), hdr2, hy]
          constructor
          · split
            · rename_i h0; rw [h0]
            · rfl
          · intro h0; rw [if_pos h0]
        have HU : Hid (U = strB ((s.data.toList.drop k).take m)) := by show _ = _; rw [← hUl]; rfl
        have HWD : Hid _ := worded_any 4 U (by omega)
        clear hx hnz hneg hr hdr hk hl HB hUl hdr2 hy
        go_enter Tryz.func21, Tryz.ntmps21
        go_wp2_with fail
        rw [← hW0]
        clear hW0 hrb
        refine (show Calls _ _ _ _ _ from HNU.out).mono ?_
        rintro e w1 ⟨rfl, hd1, hk1⟩
        have HR1 : Hid (w1.heap[rb]? = _) := hd1.row HR0.out hqr
        have HD1 : Hid (Dx q w w1) := HD0.out.trans hd1
        have HK1 : Hid (DkR w1 q s k) := hk1
        obtain ⟨c0, c1, cf⟩ := HK1.out.cells
        clear hd1 hk1
        go_wp2_with fail
        go_quiet (fail)
        obtain ⟨W1, hW1⟩ : ∃ W1, w1.drewN nq = W1 := ⟨_, rfl⟩
        have HK2 : Hid (DkR W1 q s k) := by rw [← hW1]; exact HK1.out.dn nq
        have HR2 : Hid (W1.heap[rb]? = some (.cells #[.int .i64 0, .string ⟨#[]⟩, .int .i64 0, .slice none 0 0] 24)) := by rw [← hW1]; exact HR1.out
        have HD2 : Hid (Dx q w W1) := by rw [← hW1]; exact HD1.out.dn nq
        rw [hW1]
        clear hW1 c0 c1 cf HK1 HR1 HD1
        obtain ⟨d0, d1, df⟩ := HK2.out.cells
        have HS1 : Hid _ := HK2.out.set (k + m)
        have HR3 : Hid ((W1.setCell ⟨q, 1, none⟩ (.int .i64 ((k + m : Nat) : Int))).heap[rb]? = _) := (HS1.out.2.other rb hqr).trans HR2.out
        have HD3 : Hid (Dx q w (W1.setCell ⟨q, 1, none⟩ (.int .i64 ((k + m : Nat) : Int)))) := HD2.out.trans (Dx.only HS1.out.2)
        go_wp2_with fail
        refine (HWD.out _).mono ?_
        rintro e w2 ⟨rfl, hb2⟩
        have HR4 : Hid (w2.heap[rb]? = _) := keep_row HR3.out hb2
        have HD4 : Hid (Dx q w w2) := HD3.out.trans (Dx.of hb2)
        have HK4 : Hid (DkR w2 q s (k + m)) := HS1.out.1.on hb2
        clear hb2
        go_wp2_with fail
        refine (HEN.out _ HK4.out).mono ?_
        rintro e w3 ⟨rfl, hx3, hk3⟩
        have HR5 : Hid (w3.heap[rb]? = _) := hx3.row HR4.out hqr
        have HD5 : Hid (Dx q w w3) := HD4.out.trans hx3
        have HK5 : Hid _ := hk3
        obtain ⟨z0, z1, z2, z3, zf⟩ := prow4 HR5.out
        clear hx3 hk3 d0 d1 df
        unfold rpV
        go_wp2
        refine rp2_fin _ 2 3 Tryz.results21 HR5.out _ _ _ _ _ _ (fun w' ho => ?_) _ rfl rfl rfl
        refine ⟨_, _, _, by rw [HH.out.1]; rfl, HD5.out.set ho HRW.out, fun e => ?_⟩
        rw [HH.out.1] at e
        rw [HH.out.2 e]
        refine ⟨rfl, HU.out, rfl, ?_⟩
        exact (HK5.out e).to ho hqr (by have h1 := HIP.out; have h2 := HKK.out; show k + m + 2 = p + (z + 1 + m + 2); omega)
  · have hxn : ((x : Int) != 0) = true := by simpa using hx0
    have HH : Hid ((bulkH r).e = x) := by show _ = _; rw [bulkH_e (by rw [hx]; exact hx0), hx]
    have HNU : Hid _ := dnum_err q s i (-1) 524288 x (by omega) hi W0 HK0.out HLL.out (by rw [hr]; exact hx)
    clear hx hr
    go_enter Tryz.func21, Tryz.ntmps21
    go_wp2_with fail
    rw [← hW0]
    clear hW0 hrb
    refine (show Calls _ _ _ _ _ from HNU.out).mono ?_
    rintro e w1 ⟨⟨n', rfl⟩, hd1⟩
    have HR1 : Hid (w1.heap[rb]? = _) := hd1.row HR0.out hqr
    have HD1 : Hid (Dx q w w1) := HD0.out.trans hd1
    obtain ⟨z0, z1, z2, z3, zf⟩ := prow4 HR1.out
    clear hd1
    go_wp2
    exact rp2_fin _ 2 3 Tryz.results21 HR1.out _ _ _ _ _ _ (fun w' ho => lf_err _ _ _ x HH.out hx0 (HD1.out.set ho HRW.out)) _ rfl rfl rfl
end Go.Proofs.YtnfbaeajalnmmaaGreatDoor
namespace Go.Proofs.YtnfbaeajalnmmaaGreatDoor
open Go.RowKit Vi
set_option linter.unusedVariables false
set_option linter.unusedSimpArgs false
def zrC : Array Value := #[.int .i64 0, .string ⟨#[]⟩, .int .i64 0, .slice none 0 0]
set_option maxHeartbeats 4000000 in
set_option maxRecDepth 20000 in
theorem dbool_any (q : Nat) (s : ByteArray) (p : Nat) (hs : s.size ≤ 281474976710656) (hi : p + 1 ≤ s.size) (w : World) (h : DkR w q s (p + 1)) :
    Calls Tryz.prog 23 #[.pointer (some ⟨q, 0, none⟩)] w fun e w' => LfIs (boolH (s.data.toList.drop (p + 1))) q s p w w' e := by
  obtain ⟨i, hip⟩ : ∃ i, p + 1 = i := ⟨_, rfl⟩
  rw [hip] at hi h ⊢
  have HIP : Hid (p + 1 = i) := hip
  clear hip
  obtain ⟨rb, hrb⟩ : ∃ rb, w.heap.size = rb := ⟨_, rfl⟩
  obtain ⟨W0, hW0⟩ : ∃ W, W = w.alloc (.cells #[.int .i64 0, .string ⟨#[]⟩, .int .i64 0, .slice none 0 0] 24) := ⟨_, rfl⟩
  have hb0 : Below w.heap.size w W0 := by rw [hW0]; exact (Below.refl _ _).alloc (Nat.le_refl _) _
  have hr0 : W0.heap[rb]? = some (.cells #[.int .i64 0, .string ⟨#[]⟩, .int .i64 0, .slice none 0 0] 24) := by rw [hW0, ← hrb]; exact one_alloc _ _
  have HD0 : Hid (Dx q w W0) := Dx.of hb0
  have HR0 : Hid _ := hr0
  have HK0 : Hid (DkR W0 q s i) := h.on hb0
  have hqr : rb ≠ q := by have := h.lt; omega
  have HRW : Hid (w.heap.size ≤ rb) := Nat.le_of_eq hrb
  obtain ⟨c0, c1, cf⟩ := HK0.out.cells
  by_cases hie : i = s.size
  · have he : ((i : Int) == (s.size : Int)) = true := by simp; omega
    have HH : Hid ((boolH (s.data.toList.drop i)).e = 20) := by
      show _ = _
      rw [List.drop_eq_nil_of_le (by rw [list_len]; omega)]; rfl
    clear h hb0 hr0
    go_enter Tryz.func23, Tryz.ntmps23
    go_upto_region 1 with fail
    rw [← hW0]
    clear hW0 hrb
    go_quiet (fail)
    obtain ⟨z0, z1, z2, z3, zf⟩ := prow4 (w := W0.drewN nq) HR0.out
    go_wp2
    exact rp2_fin _ 2 3 Tryz.results23 (W := W0.drewN nq) HR0.out _ _ _ _ _ _ (fun w' ho => lf_err _ _ _ 20 HH.out (by decide) ((HD0.out.dn nq).set ho HRW.out)) _ rfl rfl rfl
  have he : ((i : Int) == (s.size : Int)) = false := by simp; omega
  have hlt : i < s.size := by omega
  have hz0 : (0 : Int) ≤ (i : Int) := by omega
  have hz1 : (i : Int) < (s.size : Int) := by omega
  have hdr := drop_at s i hlt
  obtain ⟨c, hc⟩ : ∃ c, s[i] = c := ⟨_, rfl⟩
  rw [hc] at hdr
  have hcn : (s[i].toNat : Int) = (c.toNat : Int) := by rw [hc]
  have hiw : IntKind.i64.wrap ((i : Int) + 1) = ((i + 1 : Nat) : Int) := by rw [IntKind.wrap_i64] <;> omega
  rw [hdr]
  obtain ⟨x, hx⟩ : ∃ x, endE (s.data.toList.drop (i + 1)) = x := ⟨_, rfl⟩
  have HEN : Hid (∀ W, DkR W q s (i + 1) → Calls Tryz.prog 22 #[.pointer (some ⟨q, 0, none⟩)] W fun e w' => e = .returned (.int .i64 (x : Int)) ∧ Dx q W w' ∧ (x = 0 → DkR w' q s (i + 1 + 2))) := fun W hW => by
    have := end_any q s (i + 1) (by omega) (by omega) W hW
    rw [hx] at this
    exact this
  have hmark : c = 116 ∨ c = 102 ∨ (c ≠ 116 ∧ c ≠ 102) := by
    by_cases h1 : c = 116
    · exact Or.inl h1
    · by_cases h2 : c = 102
      · exact Or.inr (Or.inl h2)
      · exact Or.inr (Or.inr ⟨h1, h2⟩)
  rcases hmark with rfl | rfl | ⟨h1, h2⟩
  · have HH : Hid ((boolH (116 :: s.data.toList.drop (i + 1))).e = x ∧ (x = 0 → boolH (116 :: s.data.toList.drop (i + 1)) = { e := 0, kind := 11, n := 1, size := 4 })) := by
      show _ ∧ _
      rw [boolH, if_pos (by simp), hx]
      constructor
      · split
        · rename_i h0; rw [h0]
        · rfl
      · intro h0; rw [if_pos h0]; rfl
    clear h hb0 hr0 hx hdr hie
    go_enter Tryz.func23, Tryz.ntmps23
    go_upto_region 1 with fail
    rw [← hW0]
    clear hW0 hrb
    go_quiet (fail)
    obtain ⟨W1, hW1⟩ : ∃ W1, W0.drewN nq = W1 := ⟨_, rfl⟩
    have HK1 : Hid (DkR W1 q s i) := by rw [← hW1]; exact HK0.out.dn nq
    have HR1 : Hid (W1.heap[rb]? = some (.cells #[.int .i64 0, .string ⟨#[]⟩, .int .i64 0, .slice none 0 0] 24)) := by rw [← hW1]; exact HR0.out
    have HD1 : Hid (Dx q w W1) := by rw [← hW1]; exact HD0.out.dn nq
    rw [hW1]
    clear hW1 c0 c1 cf HK0 HR0 HD0
    obtain ⟨r2, hr2⟩ : ∃ r2, W1.heap.size = r2 := ⟨_, rfl⟩
    obtain ⟨W2, hW2⟩ : ∃ W2, W2 = W1.alloc (.cells #[.int .i64 11, .string ⟨#[]⟩, .int .i64 0, .slice none 0 0] 24) := ⟨_, rfl⟩
    have hbb : Below W1.heap.size W1 W2 := by rw [hW2]; exact (Below.refl _ _).alloc (Nat.le_refl _) _
    have HQ2 : Hid (W2.heap[r2]? = some (.cells #[.int .i64 11, .string ⟨#[]⟩, .int .i64 0, .slice none 0 0] 24)) := by rw [hW2, ← hr2]; exact one_alloc _ _
    have HK2 : Hid (DkR W2 q s i) := HK1.out.on hbb
    have HR2 : Hid (W2.heap[rb]? = _) := keep_row HR1.out hbb
    have HD2 : Hid (Dx q w W2) := HD1.out.trans (Dx.of hbb)
    have hr2q : r2 ≠ q := by have := HK1.out.lt; omega
    have hr2b : rb ≠ r2 := by have := row_lt HR1.out; omega
    have HRW2 : Hid (w.heap.size ≤ r2) := by have := HD1.out.size; show _ ≤ _; omega
    obtain ⟨d0, d1, df⟩ := HK2.out.cells
    have HRS : Hid (W1.heap.size = r2) := hr2
    clear hbb hr2
    go_upto_region 4 with fail
    rw [← hW2, HRS.out]
    clear hW2 HRS
    go_quiet (fail)
    obtain ⟨W3, hW3⟩ : ∃ W3, W2.drewN nq = W3 := ⟨_, rfl⟩
    have HK3 : Hid (DkR W3 q s i) := by rw [← hW3]; exact HK2.out.dn nq
    have HR3 : Hid (W3.heap[rb]? = some (.cells #[.int .i64 0, .string ⟨#[]⟩, .int .i64 0, .slice none 0 0] 24)) := by rw [← hW3]; exact HR2.out
    have HQ3 : Hid (W3.heap[r2]? = some (.cells #[.int .i64 11, .string ⟨#[]⟩, .int .i64 0, .slice none 0 0] 24)) := by rw [← hW3]; exact HQ2.out
    have HD3 : Hid (Dx q w W3) := by rw [← hW3]; exact HD2.out.dn nq
    rw [hW3]
    clear hW3 d0 d1 df HK2 HR2 HQ2 HD2
    obtain ⟨y0, y1, y2, y3, yf⟩ := prow4 HQ3.out
    obtain ⟨d0, d1, df⟩ := HK3.out.cells
    have hm1 : (((116 : UInt8).toNat : Int) == 116) = true := rfl
    obtain ⟨W4, hW4⟩ : ∃ W4, W4 = W3.setCell ⟨r2, 2, none⟩ (.int .i64 1) := ⟨_, rfl⟩
    have ho4 : Only W3 W4 r2 := by rw [hW4]; exact (Only.refl _ _).set _ _
    have HQ4 : Hid (W4.heap[r2]? = some (.cells #[.int .i64 11, .string ⟨#[]⟩, .int .i64 1, .slice none 0 0] 24)) := by
      show _ = _
      rw [hW4, heap_setCell_same _ _ _ _ _ _ HQ3.out]; rfl
    have HR4 : Hid (W4.heap[rb]? = some (.cells #[.int .i64 0, .string ⟨#[]⟩, .int .i64 0, .slice none 0 0] 24)) := (ho4.other rb hr2b).trans HR3.out
    have HK4 : Hid (DkR W4 q s i) := HK3.out.to ho4 hr2q rfl
    have HD4 : Hid (Dx q w W4) := HD3.out.set ho4 HRW2.out
    obtain ⟨k0, k1, kf⟩ := HK4.out.cells
    clear ho4
    go_upto_region 9 with fail
    rw [← hW4]
    clear hW4
    have hs4 := HK4.out.set (i + 1)
    rw [show ((i + 1 : Nat) : Int) = (i : Int) + 1 by omega] at hs4
    have HS4 : Hid _ := hs4
    clear hs4
    obtain ⟨W5, hW5⟩ : ∃ W5, W5 = W4.setCell ⟨q, 1, none⟩ (.int .i64 ((i : Int) + 1)) := ⟨_, rfl⟩
    rw [← hW5] at HS4
    have HR5 : Hid (W5.heap[rb]? = some (.cells #[.int .i64 0, .string ⟨#[]⟩, .int .i64 0, .slice none 0 0] 24)) := (HS4.out.2.other rb hqr).trans HR4.out
    have HQ5 : Hid (W5.heap[r2]? = some (.cells #[.int .i64 11, .string ⟨#[]⟩, .int .i64 1, .slice none 0 0] 24)) := (HS4.out.2.other r2 hr2q).trans HQ4.out
    have HD5 : Hid (Dx q w W5) := HD4.out.trans (Dx.only HS4.out.2)
    go_upto_region 10 with fail
    rw [← hW5]
    clear hW5
    obtain ⟨y0, y1, y2, y3, yf⟩ := prow4 (w := W5.drew) HQ5.out
    obtain ⟨z0, z1, z2, z3, zf⟩ := prow4 (w := W5.drew) HR5.out
    have HCE : Hid _ := HEN.out W5.drew (HS4.out.1.on (Below.refl _ _).drew)
    go_region_with (go_at_call 22; refine (show Calls _ _ _ _ _ from HCE.out).mono ?_; rintro e w6 ⟨rfl, hx6, hk6⟩; have HD6 : Hid (Dx q w w6) := (HD5.out.dn 1).trans hx6; have HK6 : Hid _ := hk6; have HR6 : Hid (w6.heap[rb]? = some (.cells #[.int .i64 0, .string ⟨#[]⟩, .int .i64 0, .slice none 0 0] 24)) := hx6.row (a := W5.drew) HR5.out hqr; obtain ⟨z0, z1, z2, z3, zf⟩ := prow4 HR6.out; obtain ⟨y0, y1, y2, y3, yf⟩ := prow4 (hx6.row (a := W5.drew) HQ5.out hr2q); clear hx6 hk6)
    all_goals
      go_wp2
      refine rp2_fin _ 2 3 Tryz.results23 HR6.out _ _ _ _ _ _ (fun w' ho => ?_) _ rfl rfl rfl
      refine ⟨_, _, _, by rw [HH.out.1]; rfl, HD6.out.set ho HRW.out, fun e => ?_⟩
      rw [HH.out.1] at e
      rw [HH.out.2 e]
      exact ⟨rfl, rfl, rfl, (HK6.out e).to ho hqr (by have := HIP.out; show i + 1 + 2 = p + 4; omega)⟩
  · have HH : Hid ((boolH (102 :: s.data.toList.drop (i + 1))).e = x ∧ (x = 0 → boolH (102 :: s.data.toList.drop (i + 1)) = { e := 0, kind := 11, n := 0, size := 4 })) := by
      show _ ∧ _
      rw [boolH, if_pos (by simp), hx]
      constructor
      · split
        · rename_i h0; rw [h0]
        · rfl
      · intro h0; rw [if_pos h0]; rfl
    clear h hb0 hr0 hx hdr hie
    go_enter Tryz.func23, Tryz.ntmps23
    go_upto_region 1 with fail
    rw [← hW0]
    clear hW0 hrb
    go_quiet (fail)
    obtain ⟨W1, hW1⟩ : ∃ W1, W0.drewN nq = W1 := ⟨_, rfl⟩
    have HK1 : Hid (DkR W1 q s i) := by rw [← hW1]; exact HK0.out.dn nq
    have HR1 : Hid (W1.heap[rb]? = some (.cells #[.int .i64 0, .string ⟨#[]⟩, .int .i64 0, .slice none 0 0] 24)) := by rw [← hW1]; exact HR0.out
    have HD1 : Hid (Dx q w W1) := by rw [← hW1]; exact HD0.out.dn nq
    rw [hW1]
    clear hW1 c0 c1 cf HK0 HR0 HD0
    obtain ⟨r2, hr2⟩ : ∃ r2, W1.heap.size = r2 := ⟨_, rfl⟩
    obtain ⟨W2, hW2⟩ : ∃ W2, W2 = W1.alloc (.cells #[.int .i64 11, .string ⟨#[]⟩, .int .i64 0, .slice none 0 0] 24) := ⟨_, rfl⟩
    have hbb : Below W1.heap.size W1 W2 := by rw [hW2]; exact (Below.refl _ _).alloc (Nat.le_refl _) _
    have HQ2 : Hid (W2.heap[r2]? = some (.cells #[.int .i64 11, .string ⟨#[]⟩, .int .i64 0, .slice none 0 0] 24)) := by rw [hW2, ← hr2]; exact one_alloc _ _
    have HK2 : Hid (DkR W2 q s i) := HK1.out.on hbb
    have HR2 : Hid (W2.heap[rb]? = _) := keep_row HR1.out hbb
    have HD2 : Hid (Dx q w W2) := HD1.out.trans (Dx.of hbb)
    have hr2q : r2 ≠ q := by have := HK1.out.lt; omega
    have hr2b : rb ≠ r2 := by have := row_lt HR1.out; omega
    have HRW2 : Hid (w.heap.size ≤ r2) := by have := HD1.out.size; show _ ≤ _; omega
    obtain ⟨d0, d1, df⟩ := HK2.out.cells
    have HRS : Hid (W1.heap.size = r2) := hr2
    clear hbb hr2
    go_upto_region 4 with fail
    rw [← hW2, HRS.out]
    clear hW2 HRS
    go_quiet (fail)
    obtain ⟨W3, hW3⟩ : ∃ W3, W2.drewN nq = W3 := ⟨_, rfl⟩
    have HK3 : Hid (DkR W3 q s i) := by rw [← hW3]; exact HK2.out.dn nq
    have HR3 : Hid (W3.heap[rb]? = some (.cells #[.int .i64 0, .string ⟨#[]⟩, .int .i64 0, .slice none 0 0] 24)) := by rw [← hW3]; exact HR2.out
    have HQ3 : Hid (W3.heap[r2]? = some (.cells #[.int .i64 11, .string ⟨#[]⟩, .int .i64 0, .slice none 0 0] 24)) := by rw [← hW3]; exact HQ2.out
    have HD3 : Hid (Dx q w W3) := by rw [← hW3]; exact HD2.out.dn nq
    rw [hW3]
    clear hW3 d0 d1 df HK2 HR2 HQ2 HD2
    obtain ⟨y0, y1, y2, y3, yf⟩ := prow4 HQ3.out
    obtain ⟨d0, d1, df⟩ := HK3.out.cells
    have HQ4 := HQ3
    have HR4 := HR3
    have HK4 := HK3
    have HD4 := HD3
    have hs4 := HK4.out.set (i + 1)
    rw [show ((i + 1 : Nat) : Int) = (i : Int) + 1 by omega] at hs4
    have HS4 : Hid _ := hs4
    clear hs4
    obtain ⟨W5, hW5⟩ : ∃ W5, W5 = W3.setCell ⟨q, 1, none⟩ (.int .i64 ((i : Int) + 1)) := ⟨_, rfl⟩
    rw [← hW5] at HS4
    have HR5 : Hid (W5.heap[rb]? = some (.cells #[.int .i64 0, .string ⟨#[]⟩, .int .i64 0, .slice none 0 0] 24)) := (HS4.out.2.other rb hqr).trans HR4.out
    have HQ5 : Hid (W5.heap[r2]? = some (.cells #[.int .i64 11, .string ⟨#[]⟩, .int .i64 0, .slice none 0 0] 24)) := (HS4.out.2.other r2 hr2q).trans HQ4.out
    have HD5 : Hid (Dx q w W5) := HD4.out.trans (Dx.only HS4.out.2)
    go_upto_region 10 with fail
    rw [← hW5]
    clear hW5
    obtain ⟨y0, y1, y2, y3, yf⟩ := prow4 (w := W5.drew) HQ5.out
    obtain ⟨z0, z1, z2, z3, zf⟩ := prow4 (w := W5.drew) HR5.out
    have HCE : Hid _ := HEN.out W5.drew (HS4.out.1.on (Below.refl _ _).drew)
    go_region_with (go_at_call 22; refine (show Calls _ _ _ _ _ from HCE.out).mono ?_; rintro e w6 ⟨rfl, hx6, hk6⟩; have HD6 : Hid (Dx q w w6) := (HD5.out.dn 1).trans hx6; have HK6 : Hid _ := hk6; have HR6 : Hid (w6.heap[rb]? = some (.cells #[.int .i64 0, .string ⟨#[]⟩, .int .i64 0, .slice none 0 0] 24)) := hx6.row (a := W5.drew) HR5.out hqr; obtain ⟨z0, z1, z2, z3, zf⟩ := prow4 HR6.out; obtain ⟨y0, y1, y2, y3, yf⟩ := prow4 (hx6.row (a := W5.drew) HQ5.out hr2q); clear hx6 hk6)
    all_goals
      go_wp2
      refine rp2_fin _ 2 3 Tryz.results23 HR6.out _ _ _ _ _ _ (fun w' ho => ?_) _ rfl rfl rfl
      refine ⟨_, _, _, by rw [HH.out.1]; rfl, HD6.out.set ho HRW.out, fun e => ?_⟩
      rw [HH.out.1] at e
      rw [HH.out.2 e]
      exact ⟨rfl, rfl, rfl, (HK6.out e).to ho hqr (by have := HIP.out; show i + 1 + 2 = p + 4; omega)⟩
  · have HH : Hid ((boolH (c :: s.data.toList.drop (i + 1))).e = 120) := by
      show _ = _
      rw [boolH, if_neg (by rintro (h | h); exact h1 h; exact h2 h)]
    have hm1 : ((c.toNat : Int) == 116) = false := by
      simp only [beq_eq_false_iff_ne, ne_eq]
      intro e
      exact h1 (UInt8.toNat_inj.1 (by have : (116 : UInt8).toNat = 116 := rfl; omega))
    have hm2 : ((c.toNat : Int) == 102) = false := by
      simp only [beq_eq_false_iff_ne, ne_eq]
      intro e
      exact h2 (UInt8.toNat_inj.1 (by have : (102 : UInt8).toNat = 102 := rfl; omega))
    clear h hb0 hr0 hx hdr hie
    go_enter Tryz.func23, Tryz.ntmps23
    go_upto_region 1 with fail
    rw [← hW0]
    clear hW0 hrb
    go_quiet (fail)
    obtain ⟨W1, hW1⟩ : ∃ W1, W0.drewN nq = W1 := ⟨_, rfl⟩
    have HK1 : Hid (DkR W1 q s i) := by rw [← hW1]; exact HK0.out.dn nq
    have HR1 : Hid (W1.heap[rb]? = some (.cells #[.int .i64 0, .string ⟨#[]⟩, .int .i64 0, .slice none 0 0] 24)) := by rw [← hW1]; exact HR0.out
    have HD1 : Hid (Dx q w W1) := by rw [← hW1]; exact HD0.out.dn nq
    rw [hW1]
    clear hW1 c0 c1 cf HK0 HR0 HD0
    obtain ⟨W2, hW2⟩ : ∃ W2, W2 = W1.alloc (.cells #[.int .i64 11, .string ⟨#[]⟩, .int .i64 0, .slice none 0 0] 24) := ⟨_, rfl⟩
    have hbb : Below W1.heap.size W1 W2 := by rw [hW2]; exact (Below.refl _ _).alloc (Nat.le_refl _) _
    have HK2 : Hid (DkR W2 q s i) := HK1.out.on hbb
    have HR2 : Hid (W2.heap[rb]? = _) := keep_row HR1.out hbb
    have HD2 : Hid (Dx q w W2) := HD1.out.trans (Dx.of hbb)
    obtain ⟨d0, d1, df⟩ := HK2.out.cells
    clear hbb
    go_upto_region 4 with fail
    rw [← hW2]
    clear hW2
    go_quiet (fail)
    obtain ⟨z0, z1, z2, z3, zf⟩ := prow4 (w := W2.drewN nq) HR2.out
    go_wp2
    exact rp2_fin _ 2 3 Tryz.results23 (W := W2.drewN nq) HR2.out _ _ _ _ _ _ (fun w' ho => lf_err _ _ _ 120 HH.out (by decide) ((HD2.out.dn nq).set ho HRW.out)) _ rfl rfl rfl
end Go.Proofs.YtnfbaeajalnmmaaGreatDoor
namespace Go.Proofs.YtnfbaeajalnmmaaGreatDoor
open Go.RowKit Vi
set_option linter.unusedVariables false
set_option linter.unusedSimpArgs false
/-- replies in memory, in blocks that are allowed; their lists by R. -/
def RpB (Q : Nat → Prop) (k : Nat) (R : Value → List (Rp k) → Prop) (w : World) (lv : Value) (ts : List (Rn (Rp k))) : Prop :=
  ∃ P c, lv = .slice P ts.length c ∧ ∀ i (h : i < ts.length), ∃ g o l2, P = some ⟨g, o, none⟩ ∧ Q g ∧
      w.cell? ⟨g, o + i * 4, none⟩ = some (.int .i64 ts[i].kind) ∧ w.cell? ⟨g, o + i * 4 + 1, none⟩ = some (.string (strB ts[i].text)) ∧
      w.cell? ⟨g, o + i * 4 + 2, none⟩ = some (.int .i64 ts[i].n) ∧ w.cell? ⟨g, o + i * 4 + 3, none⟩ = some l2 ∧ R l2 ts[i].list
/-- replies in memory. -/
def RpL (Q : Nat → Prop) : (k : Nat) → World → Value → List (Rp k) → Prop
  | 0, _, lv, _ => ∃ P c, lv = .slice P 0 c
  | k + 1, w, lv, ts => RpB Q k (RpL Q k w) w lv ts
theorem cell_block {w w' : World} {g o : Nat} {v : Value} (h : w.cell? ⟨g, o, none⟩ = some v) (hb : w'.heap[g]? = w.heap[g]?) : w'.cell? ⟨g, o, none⟩ = some v := by
  unfold World.cell? at *
  simp only at *
  rw [hb]; exact h
theorem cell_size {w : World} {g o : Nat} {v : Value} (h : w.cell? ⟨g, o, none⟩ = some v) : g < w.heap.size := lt_of_cell h
theorem RpB.keep {Q Q' : Nat → Prop} {k : Nat} {R R' : Value → List (Rp k) → Prop} {w w' : World} {lv : Value} {ts : List (Rn (Rp k))} (h : RpB Q k R w lv ts) (hk : ∀ g, Q g → g < w.heap.size → Q' g ∧ w'.heap[g]? = w.heap[g]?) (hR : ∀ v l, R v l → R' v l) : RpB Q' k R' w' lv ts := by
  obtain ⟨P, c, h1, h2⟩ := h
  refine ⟨P, c, h1, fun i hi => ?_⟩
  obtain ⟨g, o, l2, e1, e2, e3, e4, e5, e6, e7⟩ := h2 i hi
  obtain ⟨q1, q2⟩ := hk g e2 (cell_size e3)
  exact ⟨g, o, l2, e1, q1, cell_block e3 q2, cell_block e4 q2, cell_block e5 q2, cell_block e6 q2, hR _ _ e7⟩
theorem RpL.keep {Q Q' : Nat → Prop} {w w' : World} : ∀ {k : Nat} {lv : Value} {ts : List (Rp k)}, RpL Q k w lv ts → (∀ g, Q g → g < w.heap.size → Q' g ∧ w'.heap[g]? = w.heap[g]?) → RpL Q' k w' lv ts
  | 0, lv, ts, h, _ => h
  | k + 1, lv, ts, h, hk => RpB.keep h hk (fun v l hh => RpL.keep hh hk)
theorem RpL.on {Q : Nat → Prop} {w w' : World} {k : Nat} {lv : Value} {ts : List (Rp k)} (h : RpL Q k w lv ts) (hb : Below w.heap.size w w') : RpL Q k w' lv ts :=
  h.keep (fun g hg hl => ⟨hg, hb.block g hl⟩)
theorem RpL.weak {Q Q' : Nat → Prop} {w : World} {k : Nat} {lv : Value} {ts : List (Rp k)} (h : RpL Q k w lv ts) (hq : ∀ g, Q g → Q' g) : RpL Q' k w lv ts :=
  h.keep (fun g hg _ => ⟨hq g hg, rfl⟩)
theorem RpL.nil (Q : Nat → Prop) (w : World) (k : Nat) : RpL Q k w (.slice none 0 0) [] := by
  cases k with
  | zero => exact ⟨none, 0, rfl⟩
  | succ k => exact ⟨none, 0, rfl, fun i h => absurd h (Nat.not_lt_zero i)⟩
theorem empty_list : ∀ ts : List (Rp 0), ts = []
  | [] => rfl
  | t :: _ => nomatch (show Empty from t)
theorem RpL.form {Q : Nat → Prop} {w : World} {k : Nat} {lv : Value} {ts : List (Rp k)} (h : RpL Q k w lv ts) : ∃ P c, lv = .slice P ts.length c := by
  cases k with
  | zero => obtain ⟨P, c, h⟩ := h; exact ⟨P, c, by rw [empty_list ts]; exact h⟩
  | succ k => obtain ⟨P, c, h, _⟩ := h; exact ⟨P, c, h⟩
/-- the cells of replies whose lists are told. -/
def prC {k : Nat} (E : List (Rn (Rp k) × Value)) : List Value := E.flatMap fun x => [.int .i64 x.1.kind, .string (strB x.1.text), .int .i64 x.1.n, x.2]
theorem prC_snoc {k : Nat} (E : List (Rn (Rp k) × Value)) (t : Rn (Rp k)) (v : Value) : prC (E ++ [(t, v)]) = prC E ++ [.int .i64 t.kind, .string (strB t.text), .int .i64 t.n, v] := by
  unfold prC; rw [List.flatMap_append]; rfl
theorem prC_get {k : Nat} (E : List (Rn (Rp k) × Value)) (i : Nat) (h : i < E.length) :
    (prC E)[i * 4]? = some (.int .i64 E[i].1.kind) ∧ (prC E)[i * 4 + 1]? = some (.string (strB E[i].1.text)) ∧ (prC E)[i * 4 + 2]? = some (.int .i64 E[i].1.n) ∧ (prC E)[i * 4 + 3]? = some E[i].2 := by
  induction E generalizing i with
  | nil => simp at h
  | cons x E ih =>
    have e : prC (x :: E) = [.int .i64 x.1.kind, .string (strB x.1.text), .int .i64 x.1.n, x.2] ++ prC E := rfl
    rw [e]
    cases i with
    | zero => exact ⟨rfl, rfl, rfl, rfl⟩
    | succ i =>
      have hi : i < E.length := by simpa using h
      obtain ⟨h0, h1, h2, h3⟩ := ih i hi
      have hm : (i + 1) * 4 = i * 4 + 4 := by omega
      rw [hm]
      refine ⟨?_, ?_, ?_, ?_⟩
      · rw [List.getElem?_append_right (by simp)]; simpa using h0
      · rw [List.getElem?_append_right (by simp)]; simpa [Nat.add_right_comm] using h1
      · rw [List.getElem?_append_right (by simp)]; simpa [Nat.add_right_comm] using h2
      · rw [List.getElem?_append_right (by simp)]; simpa [Nat.add_right_comm] using h3
/-- a row of one's own with its replies. -/
structure RowE {k : Nat} (b : Nat) (W : World) (lv : Value) (E : List (Rn (Rp k) × Value)) : Prop where
  own : W.ownsRow b 24 4 lv E.length (prC E)
  kid : ∀ x ∈ E, RpL (fun g => b ≤ g ∧ some g ≠ lv.ownBlock) k W x.2 x.1.list
theorem RowE.tree {k b : Nat} {W : World} {lv : Value} {E : List (Rn (Rp k) × Value)} (h : RowE b W lv E) : RpB (fun g => b ≤ g) k (RpL (fun g => b ≤ g) k W) W lv (E.map (·.1)) := by
  rcases h.own.2 with ⟨hv, h0⟩ | ⟨g, cap, cur, hv, hb, hr, hc, hm, hs, ht⟩
  · have : E = [] := List.eq_nil_of_length_eq_zero h0
    subst this
    exact ⟨none, 0, hv, fun i h => absurd h (Nat.not_lt_zero i)⟩
  · refine ⟨some ⟨g, 0, none⟩, cap, by rw [hv, List.length_map], fun i hi => ?_⟩
    rw [List.length_map] at hi
    obtain ⟨e0, e1, e2, e3⟩ := prC_get E i hi
    have hh := h.own
    rw [hv] at hh
    have c0 := hh.cells (g := g) rfl _ _ e0
    have c1 := hh.cells (g := g) rfl _ _ e1
    have c2 := hh.cells (g := g) rfl _ _ e2
    have c3 := hh.cells (g := g) rfl _ _ e3
    rw [Lib.add_plain, Nat.zero_add] at c0 c1 c2 c3
    have hm : (E.map (·.1))[i]'(by rw [List.length_map]; exact hi) = E[i].1 := by simp
    refine ⟨g, 0, E[i].2, rfl, hb, ?_, ?_, ?_, ?_, ?_⟩
    · rw [hm, Nat.zero_add]; exact c0
    · rw [hm, Nat.zero_add]; exact c1
    · rw [hm, Nat.zero_add]; exact c2
    · rw [Nat.zero_add]; exact c3
    · rw [hm]; exact (h.kid E[i] (List.getElem_mem hi)).weak (Q' := fun g => b ≤ g) (fun g hg => hg.1)
theorem own_stays4 {W W' : World} {b T n : Nat} {v : Value} {xs : List Value} (h : W.ownsRow b T 4 v n xs) (hk : ∀ g, v.ownBlock = some g → W'.heap[g]? = W.heap[g]?) : W'.ownsRow b T 4 v n xs := by
  refine ⟨h.1, ?_⟩
  rcases h.2 with q | ⟨g, cap, cur, rfl, a1, hr, a2⟩
  · exact Or.inl q
  · exact Or.inr ⟨g, cap, cur, rfl, a1, by rw [hk g rfl]; exact hr, a2⟩
theorem RowE.lt {k b : Nat} {W : World} {lv : Value} {E : List (Rn (Rp k) × Value)} (h : RowE b W lv E) (g : Nat) (hg : lv.ownBlock = some g) : b ≤ g ∧ g < W.heap.size := by
  refine ⟨own_block h.own g hg, ?_⟩
  rcases h.own.2 with ⟨hv, _⟩ | ⟨g', cap, cur, hv, hb, hr, _⟩
  · rw [hv] at hg; cases hg
  · rw [hv] at hg
    have : g' = g := by simpa [Value.ownBlock] using hg
    subst this
    exact row_lt hr
/-- what does not touch the blocks from b on. -/
theorem RowE.keep {k b : Nat} {W W' : World} {lv : Value} {E : List (Rn (Rp k) × Value)} (h : RowE b W lv E) (hk : ∀ g, b ≤ g → g < W.heap.size → W'.heap[g]? = W.heap[g]?) : RowE b W' lv E :=
  ⟨own_stays4 h.own (fun g hg => hk g (h.lt g hg).1 (h.lt g hg).2), fun x hx => (h.kid x hx).keep (fun g hg hl => ⟨hg, hk g hg.1 hl⟩)⟩
theorem RowE.nil {k : Nat} (b : Nat) (W : World) : RowE (k := k) b W (.slice none 0 0) [] := ⟨⟨rfl, Or.inl ⟨rfl, rfl⟩⟩, fun x hx => by cases hx⟩
/-- one more behind it. -/
theorem RowE.snoc {k b : Nat} {W W' : World} {lv lv' : Value} {E : List (Rn (Rp k) × Value)} (h : RowE b W lv E) (t : Rn (Rp k)) (v : Value) (hv : RpL (fun g => b ≤ g ∧ some g ≠ lv.ownBlock) k W v t.list)
    (ho : W'.ownsRow b 24 4 lv' (E.length + 1) (prC E ++ [.int .i64 t.kind, .string (strB t.text), .int .i64 t.n, v])) (hg : W.grownBy W' lv.ownBlock) (hat : lv'.ownBlock = lv.ownBlock ∨ lv'.ownBlock = some W.heap.size) :
    RowE b W' lv' (E ++ [(t, v)]) := by
  have hkid : ∀ (v : Value) (ts : List (Rp k)), RpL (fun g => b ≤ g ∧ some g ≠ lv.ownBlock) k W v ts → RpL (fun g => b ≤ g ∧ some g ≠ lv'.ownBlock) k W' v ts := fun v ts hh =>
    hh.keep (fun g hg2 hl => ⟨⟨hg2.1, by
      rcases hat with e | e
      · rw [e]; exact hg2.2
      · rw [e]; intro e2; injection e2 with e2; omega⟩, hg.block g hl hg2.2⟩)
  refine ⟨by rw [prC_snoc, List.length_append]; exact ho, fun x hx => ?_⟩
  rcases List.mem_append.1 hx with h1 | h1
  · exact hkid _ _ (h.kid x h1)
  · have : x = (t, v) := by simpa using h1
    subst this
    exact hkid _ _ hv
end Go.Proofs.YtnfbaeajalnmmaaGreatDoor
