import Derived.Test.YtkhimjdipggmjaaGreatDoorDcL
import Derived.Test.YtkhimjdipggmjaaGreatDoorEnF
import Derived.Test.YtkhimjdipggmjaaGreatDoorDtN
import Derived.Deep.RegionWith
namespace Go.Proofs.YtkhimjdipggmjaaGreatDoor
open Go.RowKit Vi
set_option linter.unusedVariables false
set_option linter.unusedSimpArgs false
set_option maxRecDepth 20000 in
set_option maxHeartbeats 8000000 in
/-- a reply and the same with the null for nulls: some answer. -/
theorem sR_nn1 (k : Nat) (f : Rn (Rp k) → Rn (Rp k)) (ka kb n : Int) (tx : By) (Q1 Q2 : Nat → Prop) (va vb : Value) (l : List (Rn (Rp k))) (w : World) (hx : l.length ≤ 1073741824) (hA : RpB Q1 k (RpL Q1 k w) w va (l.map f)) (hB : RpB Q2 k (RpL Q2 k w) w vb l)
    (IH : ∀ X ∈ l, ∀ (va vb : Value) (W : World), RpL Q1 k W va (f X).list → RpL Q2 k W vb X.list → Calls Tryz.prog 6 #[.agg #[.int .i64 (f X).kind, .string (strB (f X).text), .int .i64 (f X).n, va], .agg #[.int .i64 X.kind, .string (strB X.text), .int .i64 X.n, vb]] W fun e w' => (∃ b, e = .returned (.bool b)) ∧ Below W.heap.size W w') :
    Calls Tryz.prog 6 #[.agg #[.int .i64 ka, .string (strB tx), .int .i64 n, va], .agg #[.int .i64 kb, .string (strB tx), .int .i64 n, vb]] w fun e w' => (∃ b, e = .returned (.bool b)) ∧ Below w.heap.size w w' := by
  obtain ⟨P1, c1, rfl⟩ : ∃ P c, va = .slice P l.length c := by obtain ⟨P, c, e, _⟩ := hA; exact ⟨P, c, by rw [e, List.length_map]⟩
  obtain ⟨P2, c2, rfl⟩ : ∃ P c, vb = .slice P l.length c := by obtain ⟨P, c, e, _⟩ := hB; exact ⟨P, c, e⟩
  obtain ⟨m, hm⟩ : ∃ m, l.length = m := ⟨_, rfl⟩
  obtain ⟨s, hs0⟩ : ∃ s, strB tx = s := ⟨_, rfl⟩
  have HM : Hid (l.length = m) := hm
  have HA : Hid (RpB Q1 k (RpL Q1 k w) w (.slice P1 m c1) (l.map f)) := hm ▸ hA
  have HBV : Hid (RpB Q2 k (RpL Q2 k w) w (.slice P2 m c2) l) := hm ▸ hB
  rw [hm] at hx ⊢
  rw [hs0]
  have HIH : Hid _ := IH
  obtain ⟨W0, hW0⟩ : ∃ W, W = (w.alloc (.cells #[.int .i64 ka, .string s, .int .i64 n, .slice P1 m c1] 24)).alloc (.cells #[.int .i64 kb, .string s, .int .i64 n, .slice P2 m c2] 24) := ⟨_, rfl⟩
  obtain ⟨b, hb⟩ : ∃ b, w.heap.size = b := ⟨_, rfl⟩
  have HBB : Hid (w.heap.size = b) := hb
  have hb0 : Below b w W0 := by rw [hW0, ← hb]; exact ((Below.refl _ _).alloc (Nat.le_refl _) _).alloc (by simp) _
  have hr1 : W0.heap[b]? = some (.cells #[.int .i64 ka, .string s, .int .i64 n, .slice P1 m c1] 24) := by
    rw [hW0, ← hb]; exact keep_row (one_alloc _ _) ((Below.refl _ _).alloc (Nat.le_refl _) _)
  have hr2 : W0.heap[b + 1]? = some (.cells #[.int .i64 kb, .string s, .int .i64 n, .slice P2 m c2] 24) := by
    have h9 := one_alloc (w.alloc (.cells #[.int .i64 ka, .string s, .int .i64 n, .slice P1 m c1] 24)) (.cells #[.int .i64 kb, .string s, .int .i64 n, .slice P2 m c2] 24)
    rw [hW0, ← hb]; simpa using h9
  have HB0 : Hid (Below b w W0) := hb0
  have HR1 : Hid _ := hr1
  have HR2 : Hid _ := hr2
  obtain ⟨z0, z1, z2, z3, zf⟩ := prow4 hr1
  obtain ⟨y0, y1, y2, y3, yf⟩ := prow4 hr2
  have hs := str_self s
  rw [hb]
  clear hb0 hr1 hr2 hA hB hm IH
  by_cases hkk : ka = kb
  case neg =>
    have hkn : (ka != kb) = true := by simpa using hkk
    clear hkk
    go_enter Tryz.func6, Tryz.ntmps6
    go_upto_region 1 with fail
    rw [← hW0]
    clear hW0 hb
    go_wp2
    go_returns
    exact ⟨⟨_, rfl⟩, HB0.out⟩
  subst hkk
  go_enter Tryz.func6, Tryz.ntmps6
  go_upto_region 1 with fail
  rw [← hW0]
  clear hW0 hb
  go_wp2
  clear z0 z1 z2 z3 zf y0 y1 y2 y3 yf hs
  go_loopw [5] (fun ci wr => ∃ i : Nat, (i ≤ m ∧ Below W0.heap.size W0 wr) ∧ ci = .int .i64 (i : Int)) (fun ci _ => m - (intOf ci).toNat)
  case atStart => exact ⟨0, ⟨Nat.zero_le _, Below.refl _ _⟩, rfl⟩
  case round =>
    obtain ⟨i, ⟨hi, hbw⟩, rfl⟩ := hrel
    have HBW : Hid (Below W0.heap.size W0 wr) := hbw
    obtain ⟨z0, z1, z2, z3, zf⟩ := prow4 (keep_row HR1.out hbw)
    obtain ⟨y0, y1, y2, y3, yf⟩ := prow4 (keep_row HR2.out hbw)
    have HBX : Hid (Below b w wr) := HB0.out.trans (hbw.mono (Nat.le_of_lt (row_lt HR1.out)))
    clear hbw
    by_cases hlt : i < m
    · have hix : i < l.length := by rw [HM.out]; exact hlt
      have hbx : Below w.heap.size w wr := HBB.out ▸ HBX.out
      have hA2 : RpB Q1 k (RpL Q1 k wr) wr (.slice P1 m c1) (l.map f) := HA.out.keep (fun g hg hl => ⟨hg, hbx.block g hl⟩) (fun v t h => h.on hbx)
      have hB2 : RpB Q2 k (RpL Q2 k wr) wr (.slice P2 m c2) l := HBV.out.keep (fun g hg hl => ⟨hg, hbx.block g hl⟩) (fun v t h => h.on hbx)
      obtain ⟨g1, o1, l1, hP1, d0, d1, d2, d3, d4⟩ := hA2.cell i (by rw [List.length_map]; exact hix)
      rw [List.getElem_map] at d0 d1 d2 d4
      obtain ⟨g2, o2, l2, hP2, e0, e1, e2, e3, e4⟩ := hB2.cell i hix
      obtain ⟨X, hX⟩ : ∃ X, l[i] = X := ⟨_, rfl⟩
      have hxm : X ∈ l := by rw [← hX]; exact List.getElem_mem hix
      rw [hX] at d0 d1 d2 d4 e0 e1 e2 e4
      obtain ⟨Y, hY⟩ : ∃ Y, f X = Y := ⟨_, rfl⟩
      rw [hY] at d0 d1 d2 d4
      obtain ⟨LP1, lc1, hl1⟩ := d4.form
      obtain ⟨LP2, lc2, hl2⟩ := e4.form
      subst hl1
      subst hl2
      subst hP1
      subst hP2
      have HCC : Hid (∀ W, Below wr.heap.size wr W → Calls Tryz.prog 6 #[.agg #[.int .i64 Y.kind, .string (strB Y.text), .int .i64 Y.n, .slice LP1 Y.list.length lc1], .agg #[.int .i64 X.kind, .string (strB X.text), .int .i64 X.n, .slice LP2 X.list.length lc2]] W fun e w' => (∃ b, e = .returned (.bool b)) ∧ Below W.heap.size W w') := fun W hW => by
        subst hY
        exact HIH.out X hxm _ _ W (d4.on hW) (e4.on hW)
      have hz0 : (0 : Int) ≤ (i : Int) := by omega
      have hz1 : (i : Int) < (m : Int) := by omega
      obtain ⟨XL, hXL⟩ : ∃ XL, X.list.length = XL := ⟨_, rfl⟩
      obtain ⟨XT, hXT⟩ : ∃ XT, strB X.text = XT := ⟨_, rfl⟩
      obtain ⟨YL, hYL⟩ : ∃ YL, Y.list.length = YL := ⟨_, rfl⟩
      obtain ⟨YT, hYT⟩ : ∃ YT, strB Y.text = YT := ⟨_, rfl⟩
      rw [hXL, hXT, hYL, hYT] at HCC
      rw [hXL] at e3
      rw [hXT] at e1
      rw [hYL] at d3
      rw [hYT] at d1
      clear hX hix hxm hA2 hB2 d4 e4 hbx hXL hXT hYL hYT hY
      have HBD : Hid (Below wr.heap.size wr wr.drew) := below_dn (Below.refl _ _) 1
      have HCD : Hid _ := HCC.out wr.drew HBD.out
      have HWD : Hid (Below W0.heap.size W0 wr.drew) := below_dn HBW.out 1
      go_upto_region 6 with fail
      go_region_with (go_at_call 6; refine (show Calls _ _ _ _ _ from HCD.out).mono ?_; rintro e w2 ⟨⟨bb, rfl⟩, hbx⟩; have HB2 : Hid (Below W0.heap.size W0 w2) := HWD.out.trans (hbx.mono HWD.out.size); clear hbx)
      all_goals
        clear z0 z1 z2 z3 zf y0 y1 y2 y3 yf d0 d1 d2 d3 e0 e1 e2 e3
        cases bb
        · go_wp2
          go_returns
          exact ⟨⟨_, rfl⟩, HB0.out.trans (HB2.out.mono (Nat.le_of_lt (row_lt HR1.out)))⟩
        · go_wp2
          go_roundw
          case rel => exact ⟨i + 1, ⟨hlt, HB2.out⟩, rfl⟩
          case measure => simp [intOf]; omega
    · have hin : i = m := by omega
      subst hin
      go_wp2
      go_returns
      exact ⟨⟨_, rfl⟩, HBX.out⟩
theorem sR_nn : ∀ (k : Nat) (t : Rn (Rp k)) (Q1 Q2 : Nat → Prop) (va vb : Value) (w : World), Lim k t.list → RpL Q1 k w va (nn k t).list → RpL Q2 k w vb t.list →
    Calls Tryz.prog 6 #[.agg #[.int .i64 (nn k t).kind, .string (strB (nn k t).text), .int .i64 (nn k t).n, va], .agg #[.int .i64 t.kind, .string (strB t.text), .int .i64 t.n, vb]] w fun e w' => (∃ b, e = .returned (.bool b)) ∧ Below w.heap.size w w'
  | 0, t, Q1, Q2, va, vb, w, hl, hA, hB => by
    obtain ⟨P1, c1, rfl⟩ := hA
    obtain ⟨P2, c2, rfl⟩ := hB
    exact sR_nn1 0 (nn 0) (nk t.kind) t.kind t.n t.text Q1 Q2 _ _ [] w (by simp) ⟨P1, c1, rfl, fun i h => absurd h (Nat.not_lt_zero i)⟩ ⟨P2, c2, rfl, fun i h => absurd h (Nat.not_lt_zero i)⟩ (fun X hX => by cases hX)
  | k + 1, t, Q1, Q2, va, vb, w, hl, hA, hB =>
    sR_nn1 k (nn k) (nk t.kind) t.kind t.n t.text Q1 Q2 va vb t.list w hl.1 hA hB (fun X hX va vb W h1 h2 => sR_nn k X Q1 Q2 va vb W (hl.2 X hX) h1 h2)
set_option maxRecDepth 20000 in
set_option maxHeartbeats 8000000 in
theorem nul_one (k : Nat) (kd n : Int) (s : ByteArray) (Q : Nat → Prop) (v : Value) (l : List (Rn (Rp k))) (w : World) (hx : l.length ≤ 1073741824) (hA : RpB Q k (RpL Q k w) w v l) (F : Rn (Rp k) → Bool)
    (IH : ∀ X ∈ l, ∀ (v : Value) (W : World), RpL Q k W v X.list → Calls Tryz.prog 8 #[.agg #[.int .i64 X.kind, .string (strB X.text), .int .i64 X.n, v]] W fun e w' => e = .returned (.bool (F X)) ∧ Below W.heap.size W w') :
    Calls Tryz.prog 8 #[.agg #[.int .i64 kd, .string s, .int .i64 n, v]] w fun e w' => e = .returned (.bool ((kd == 9) || l.any F)) ∧ Below w.heap.size w w' := by
  obtain ⟨P1, c1, rfl⟩ : ∃ P c, v = .slice P l.length c := by obtain ⟨P, c, e, _⟩ := hA; exact ⟨P, c, e⟩
  obtain ⟨m, hm⟩ : ∃ m, l.length = m := ⟨_, rfl⟩
  have HM : Hid (l.length = m) := hm
  have HA : Hid (RpB Q k (RpL Q k w) w (.slice P1 m c1) l) := hm ▸ hA
  rw [hm] at hx ⊢
  have HIH : Hid _ := IH
  obtain ⟨W0, hW0⟩ : ∃ W, W = w.alloc (.cells #[.int .i64 kd, .string s, .int .i64 n, .slice P1 m c1] 24) := ⟨_, rfl⟩
  obtain ⟨b, hb⟩ : ∃ b, w.heap.size = b := ⟨_, rfl⟩
  have HBB : Hid (w.heap.size = b) := hb
  have hb0 : Below b w W0 := by rw [hW0, ← hb]; exact (Below.refl _ _).alloc (Nat.le_refl _) _
  have hr1 : W0.heap[b]? = some (.cells #[.int .i64 kd, .string s, .int .i64 n, .slice P1 m c1] 24) := by rw [hW0, ← hb]; exact one_alloc _ _
  have HB0 : Hid (Below b w W0) := hb0
  have HR1 : Hid _ := hr1
  obtain ⟨z0, z1, z2, z3, zf⟩ := prow4 hr1
  obtain ⟨b9, hb9⟩ : ∃ b9, (kd == 9) = b9 := ⟨_, rfl⟩
  have HSN : Hid (∀ i (hi : i < l.length), (l.take (i + 1)).any F = ((l.take i).any F || F l[i])) := fun i hi => by
    rw [List.take_add_one, List.getElem?_eq_getElem hi, List.any_append]; simp
  rw [hb, hb9]
  clear hb0 hr1 hA hm IH
  go_enter Tryz.func8, Tryz.ntmps8
  go_upto_region 1 with fail
  rw [← hW0]
  clear hW0 hb
  go_wp2
  clear z0 z1 z2 z3 zf
  go_loopw [3, 4] (fun cb ci wr => ∃ i : Nat, (i ≤ m ∧ Below W0.heap.size W0 wr) ∧ cb = .bool (b9 || (l.take i).any F) ∧ ci = .int .i64 (i : Int)) (fun _ ci _ => m - (intOf ci).toNat)
  case atStart => exact ⟨0, ⟨Nat.zero_le _, Below.refl _ _⟩, by simp, rfl⟩
  case round =>
    obtain ⟨i, ⟨hi, hbw⟩, rfl, rfl⟩ := hrel
    have HBW : Hid (Below W0.heap.size W0 wr) := hbw
    obtain ⟨z0, z1, z2, z3, zf⟩ := prow4 (keep_row HR1.out hbw)
    have HBX : Hid (Below b w wr) := HB0.out.trans (hbw.mono (Nat.le_of_lt (row_lt HR1.out)))
    clear hbw
    by_cases hlt : i < m
    · have hix : i < l.length := by rw [HM.out]; exact hlt
      have hbx : Below w.heap.size w wr := HBB.out ▸ HBX.out
      have hA2 : RpB Q k (RpL Q k wr) wr (.slice P1 m c1) l := HA.out.keep (fun g hg hl => ⟨hg, hbx.block g hl⟩) (fun v t h => h.on hbx)
      obtain ⟨g1, o1, l1, hP1, d0, d1, d2, d3, d4⟩ := hA2.cell i hix
      have hsn := HSN.out i hix
      obtain ⟨X, hX⟩ : ∃ X, l[i] = X := ⟨_, rfl⟩
      have hxm : X ∈ l := by rw [← hX]; exact List.getElem_mem hix
      rw [hX] at d0 d1 d2 d4 hsn
      obtain ⟨LP1, lc1, hl1⟩ := d4.form
      subst hl1
      subst hP1
      have HSX : Hid _ := hsn
      obtain ⟨bi, hbi⟩ : ∃ bi, (b9 || (l.take i).any F) = bi := ⟨_, rfl⟩
      have HBI : Hid ((b9 || (l.take (i + 1)).any F) = (bi || F X)) := by
        show _ = _
        rw [HSX.out, ← Bool.or_assoc, hbi]
      rw [hbi]
      have HCC : Hid (Calls Tryz.prog 8 #[.agg #[.int .i64 X.kind, .string (strB X.text), .int .i64 X.n, .slice LP1 X.list.length lc1]] wr fun e w' => e = .returned (.bool (F X)) ∧ Below wr.heap.size wr w') := HIH.out X hxm _ wr d4
      have hz0 : (0 : Int) ≤ (i : Int) := by omega
      have hz1 : (i : Int) < (m : Int) := by omega
      obtain ⟨XL, hXL⟩ : ∃ XL, X.list.length = XL := ⟨_, rfl⟩
      obtain ⟨XT, hXT⟩ : ∃ XT, strB X.text = XT := ⟨_, rfl⟩
      rw [hXL, hXT] at HCC
      rw [hXL] at d3
      rw [hXT] at d1
      obtain ⟨fx, hfx⟩ : ∃ fx, F X = fx := ⟨_, rfl⟩
      rw [hfx] at HCC HBI
      clear hX hix hxm hA2 d4 hbx hXL hXT hsn hbi hfx HSX
      cases bi
      · go_wp2_with fail
        refine (show Calls _ _ _ _ _ from HCC.out).mono ?_
        rintro e w2 ⟨rfl, hbx⟩
        have HB2 : Hid (Below W0.heap.size W0 w2) := HBW.out.trans (hbx.mono HBW.out.size)
        clear hbx z0 z1 z2 z3 zf d0 d1 d2 d3
        go_wp2
        go_roundw
        case rel => exact ⟨i + 1, ⟨hlt, HB2.out⟩, by rw [HBI.out]; rfl, rfl⟩
        case measure => simp [intOf]; omega
      · go_wp2
        go_roundw
        case rel => exact ⟨i + 1, ⟨hlt, HBW.out⟩, by rw [HBI.out]; rfl, rfl⟩
        case measure => simp [intOf]; omega
    · have hin : i = m := by omega
      subst hin
      have etk : l.take i = l := List.take_of_length_le (by rw [HM.out]; exact Nat.le_refl _)
      rw [etk]
      go_wp2
      go_returns
      exact ⟨rfl, HBX.out⟩
theorem nul_any : ∀ (k : Nat) (t : Rn (Rp k)) (Q : Nat → Prop) (v : Value) (w : World), Lim k t.list → RpL Q k w v t.list →
    Calls Tryz.prog 8 #[.agg #[.int .i64 t.kind, .string (strB t.text), .int .i64 t.n, v]] w fun e w' => e = .returned (.bool (nulT k t)) ∧ Below w.heap.size w w'
  | 0, t, Q, v, w, hl, hA => by
    obtain ⟨P1, c1, rfl⟩ := hA
    have := nul_one 0 t.kind t.n (strB t.text) Q _ [] w (by simp) ⟨P1, c1, rfl, fun i h => absurd h (Nat.not_lt_zero i)⟩ (fun _ => false) (fun X hX => by cases hX)
    rw [show ((t.kind == 9) || ([] : List (Rn (Rp 0))).any (fun _ => false)) = nulT 0 t from Bool.or_false _] at this
    exact this
  | k + 1, t, Q, v, w, hl, hA => nul_one k t.kind t.n (strB t.text) Q v t.list w hl.1 hA (nulT k) (fun X hX v W h1 => nul_any k X Q v W (hl.2 X hX) h1)
end Go.Proofs.YtkhimjdipggmjaaGreatDoor
