import Derived.Test.YtgiicfgekicfcaaGreatDoorBkA
namespace Go.Proofs.YtgiicfgekicfcaaGreatDoor
open Go.RowKit Vi
set_option linter.unusedVariables false
set_option linter.unusedSimpArgs false
set_option maxRecDepth 20000 in
set_option maxHeartbeats 8000000 in
theorem zsize_one (k : Nat) (kd n most : Int) (s : ByteArray) (Q : Nat → Prop) (v : Value) (l : List (Rn (Rp k))) (w : World) (F : Rn (Rp k) → Nat) (hx : l.length ≤ 8796093022208) (hs : s.size ≤ 140737488351232) (hm0 : 0 ≤ most) (hm1 : most ≤ 67108864) (hA : RpB Q k (RpL Q k w) w v l)
    (IH : ∀ X ∈ l, ∀ (v : Value) (W : World) (mo : Int), 0 ≤ mo → mo ≤ 67108864 → RpL Q k W v X.list → Calls Tryz.prog 13 #[.agg #[.int .i64 X.kind, .string (strB X.text), .int .i64 X.n, v], .int .i64 mo] W fun e w' => (∃ z : Nat, e = .returned (.int .i64 (z : Int)) ∧ ((F X : Int) ≤ mo → z = F X) ∧ (mo < (F X : Int) → mo < (z : Int)) ∧ (z : Int) ≤ mo + 140737488351233) ∧ Below W.heap.size W w') :
    Calls Tryz.prog 13 #[.agg #[.int .i64 kd, .string s, .int .i64 n, v], .int .i64 most] w fun e w' => (∃ z : Nat, e = .returned (.int .i64 (z : Int)) ∧ (((1 + s.size + (l.map F).sum : Nat) : Int) ≤ most → z = 1 + s.size + (l.map F).sum) ∧ (most < ((1 + s.size + (l.map F).sum : Nat) : Int) → most < (z : Int)) ∧ (z : Int) ≤ most + 140737488351233) ∧ Below w.heap.size w w' := by
  obtain ⟨P1, c1, rfl⟩ : ∃ P c, v = .slice P l.length c := by obtain ⟨P, c, e, _⟩ := hA; exact ⟨P, c, e⟩
  obtain ⟨m, hm⟩ : ∃ m, l.length = m := ⟨_, rfl⟩
  have HM : Hid (l.length = m) := hm
  have HA : Hid (RpB Q k (RpL Q k w) w (.slice P1 m c1) l) := hm ▸ hA
  rw [hm] at hx ⊢
  have HIH : Hid _ := IH
  obtain ⟨W0, hW0⟩ : ∃ W, W = w.alloc (.cells #[.int .i64 kd, .string s, .int .i64 n, .slice P1 m c1] 24) := ⟨_, rfl⟩
  obtain ⟨b, hb⟩ : ∃ b, w.heap.size = b := ⟨_, rfl⟩
  have HBB : Hid (w.heap.size = b) := hb
  have hb0 : Below b w W0 := by rw [hW0, ← hb]; exact (Below.refl _ _).alloc (Nat.le_refl _) _
  have hr1 : W0.heap[b]? = some (.cells #[.int .i64 kd, .string s, .int .i64 n, .slice P1 m c1] 24) := by rw [hW0, ← hb]; exact one_alloc _ _
  have HB0 : Hid (Below b w W0) := hb0
  have HR1 : Hid _ := hr1
  obtain ⟨z0, z1, z2, z3, zf⟩ := prow4 hr1
  obtain ⟨S, hS⟩ : ∃ S, (l.map F).sum = S := ⟨_, rfl⟩
  have HSN : Hid (∀ i (hi : i < l.length), ((l.take (i + 1)).map F).sum = ((l.take i).map F).sum + F l[i]) := fun i hi => sum_step l F i hi
  have HST : Hid (∀ i, ((l.take i).map F).sum ≤ S) := fun i => by rw [← hS]; exact sum_take l F i
  rw [hS]
  have HSE : Hid ((l.map F).sum = S) := hS
  have hw1 : IntKind.i64.wrap (1 + (s.size : Int)) = 1 + (s.size : Int) := by rw [IntKind.wrap_i64] <;> omega
  rw [hb]
  clear hb0 hr1 hA hm IH hS
  go_enter Tryz.func13, Tryz.ntmps13
  go_upto_region 1 with fail
  rw [← hW0]
  clear hW0 hb
  go_wp2
  clear z0 z1 z2 z3 zf
  go_loopw [5, 6] (fun ck ci wr => ∃ i kk : Nat, (i ≤ m ∧ ((kk : Int) ≤ most → kk = 1 + s.size + ((l.take i).map F).sum) ∧ (most < (kk : Int) → most < ((1 + s.size + S : Nat) : Int)) ∧ (kk : Int) ≤ most + 140737488351233 ∧ Below W0.heap.size W0 wr) ∧ ck = .int .i64 (kk : Int) ∧ ci = .int .i64 (i : Int)) (fun _ ci _ => m - (intOf ci).toNat)
  case atStart => exact ⟨0, 1 + s.size, ⟨Nat.zero_le _, fun _ => by simp, fun h => by omega, by omega, Below.refl _ _⟩, by simp, rfl⟩
  case round =>
    obtain ⟨i, kk, ⟨hi, hk1, hk2, hk3, hbw⟩, rfl, rfl⟩ := hrel
    have HK1 : Hid ((kk : Int) ≤ most → kk = 1 + s.size + ((l.take i).map F).sum) := hk1
    have HK2 : Hid (most < (kk : Int) → most < ((1 + s.size + S : Nat) : Int)) := hk2
    clear hk1 hk2
    have HBW : Hid (Below W0.heap.size W0 wr) := hbw
    obtain ⟨z0, z1, z2, z3, zf⟩ := prow4 (keep_row HR1.out hbw)
    have HBX : Hid (Below b w wr) := HB0.out.trans (hbw.mono (Nat.le_of_lt (row_lt HR1.out)))
    clear hbw
    by_cases hlt : i < m
    · by_cases hmo : (kk : Int) ≤ most
      · have hix : i < l.length := by rw [HM.out]; exact hlt
        have hbx : Below w.heap.size w wr := HBB.out ▸ HBX.out
        have hA2 : RpB Q k (RpL Q k wr) wr (.slice P1 m c1) l := HA.out.keep (fun g hg hl => ⟨hg, hbx.block g hl⟩) (fun v t h => h.on hbx)
        obtain ⟨g1, o1, l1, hP1, d0, d1, d2, d3, d4⟩ := hA2.cell i hix
        have hsn := HSN.out i hix
        obtain ⟨X, hX⟩ : ∃ X, l[i] = X := ⟨_, rfl⟩
        have hxm : X ∈ l := by rw [← hX]; exact List.getElem_mem hix
        rw [hX] at d0 d1 d2 d4 hsn
        obtain ⟨LP1, lc1, hl1⟩ := d4.form
        subst hl1
        subst hP1
        have hke := HK1.out hmo
        have HSX : Hid (kk + F X = 1 + s.size + ((l.take (i + 1)).map F).sum) := by show _ = _; rw [hsn]; omega
        have HSY : Hid (kk + F X ≤ 1 + s.size + S) := by show _ ≤ _; have := HST.out (i + 1); have := HSX.out; omega
        clear hke
        have hwm : IntKind.i64.wrap (most - (kk : Int)) = most - (kk : Int) := by rw [IntKind.wrap_i64] <;> omega
        have HCC : Hid (∀ W, Below wr.heap.size wr W → Calls Tryz.prog 13 #[.agg #[.int .i64 X.kind, .string (strB X.text), .int .i64 X.n, .slice LP1 X.list.length lc1], .int .i64 (most - (kk : Int))] W fun e w' => (∃ z : Nat, e = .returned (.int .i64 (z : Int)) ∧ ((F X : Int) ≤ most - (kk : Int) → z = F X) ∧ (most - (kk : Int) < (F X : Int) → most - (kk : Int) < (z : Int)) ∧ (z : Int) ≤ most - (kk : Int) + 140737488351233) ∧ Below W.heap.size W w') := fun W hW => HIH.out X hxm _ W _ (by omega) (by omega) (d4.on hW)
        have hz0 : (0 : Int) ≤ (i : Int) := by omega
        have hz1 : (i : Int) < (m : Int) := by omega
        obtain ⟨XL, hXL⟩ : ∃ XL, X.list.length = XL := ⟨_, rfl⟩
        obtain ⟨XT, hXT⟩ : ∃ XT, strB X.text = XT := ⟨_, rfl⟩
        rw [hXL, hXT] at HCC
        rw [hXL] at d3
        rw [hXT] at d1
        clear hX hix hxm hA2 d4 hbx hXL hXT hsn
        have HCD : Hid _ := HCC.out wr (Below.refl _ _)
        go_wp2_with fail
        refine (show Calls _ _ _ _ _ from HCD.out).mono ?_
        rintro e w2 ⟨⟨zz, rfl, hz5, hz6, hz7⟩, hbx⟩
        have HB2 : Hid (Below W0.heap.size W0 w2) := HBW.out.trans (hbx.mono HBW.out.size)
        have hwz : IntKind.i64.wrap ((kk : Int) + (zz : Int)) = (kk : Int) + (zz : Int) := by rw [IntKind.wrap_i64] <;> omega
        have HZ : Hid ((((kk + zz : Nat) : Int) ≤ most → kk + zz = 1 + s.size + ((l.take (i + 1)).map F).sum) ∧ (most < ((kk + zz : Nat) : Int) → most < ((1 + s.size + S : Nat) : Int)) ∧ ((kk + zz : Nat) : Int) ≤ most + 140737488351233) := by
          have h1 := HSX.out
          have h2 := HSY.out
          by_cases hc : (F X : Int) ≤ most - (kk : Int)
          · have := hz5 hc
            exact ⟨fun _ => by omega, fun h => by omega, by omega⟩
          · have := hz6 (by omega)
            exact ⟨fun h => by omega, fun _ => by omega, by omega⟩
        clear hbx z0 z1 z2 z3 zf d0 d1 d2 d3 hz5 hz6
        go_wp2
        go_roundw
        case rel => exact ⟨i + 1, kk + zz, ⟨hlt, HZ.out.1, HZ.out.2.1, HZ.out.2.2, HB2.out⟩, by simp, rfl⟩
        case measure => simp [intOf]; omega
      · have HR : Hid ((((1 + s.size + S : Nat) : Int) ≤ most → kk = 1 + s.size + S) ∧ (most < ((1 + s.size + S : Nat) : Int) → most < (kk : Int)) ∧ (kk : Int) ≤ most + 140737488351233) := by
          have h1 := HK2.out (by omega)
          exact ⟨fun h => by omega, fun _ => by omega, hk3⟩
        go_wp2
        go_returns
        exact ⟨⟨kk, rfl, HR.out⟩, HBX.out⟩
    · have hin : i = m := by omega
      subst hin
      have htk : l.take i = l := List.take_of_length_le (by rw [HM.out]; exact Nat.le_refl _)
      have HR : Hid ((((1 + s.size + S : Nat) : Int) ≤ most → kk = 1 + s.size + S) ∧ (most < ((1 + s.size + S : Nat) : Int) → most < (kk : Int)) ∧ (kk : Int) ≤ most + 140737488351233) := by
        by_cases hc : (kk : Int) ≤ most
        · have h1 := HK1.out hc
          rw [htk, HSE.out] at h1
          exact ⟨fun _ => h1, fun h => by omega, hk3⟩
        · have h1 := HK2.out (by omega)
          exact ⟨fun h => by omega, fun _ => by omega, hk3⟩
      clear htk
      go_wp2
      go_returns
      exact ⟨⟨kk, rfl, HR.out⟩, HBX.out⟩
/-- what a machine can hold of a reply. -/
def Wz : (k : Nat) → Rn (Rp k) → Prop
  | 0, t => t.text.length ≤ 140737488351232
  | k + 1, t => t.text.length ≤ 140737488351232 ∧ List.length t.list ≤ 8796093022208 ∧ ∀ x : Rn (Rp k), List.Mem x (show List (Rn (Rp k)) from t.list) → Wz k x
theorem zsize_any : ∀ (k : Nat) (t : Rn (Rp k)) (Q : Nat → Prop) (v : Value) (most : Int) (w : World), Wz k t → 0 ≤ most → most ≤ 67108864 → RpL Q k w v t.list →
    Calls Tryz.prog 13 #[.agg #[.int .i64 t.kind, .string (strB t.text), .int .i64 t.n, v], .int .i64 most] w fun e w' => (∃ z : Nat, e = .returned (.int .i64 (z : Int)) ∧ ((bz k t : Int) ≤ most → z = bz k t) ∧ (most < (bz k t : Int) → most < (z : Int)) ∧ (z : Int) ≤ most + 140737488351233) ∧ Below w.heap.size w w'
  | 0, t, Q, v, most, w, hb, h0, h1, hA => by
    obtain ⟨P1, c1, rfl⟩ := hA
    have hb' : t.text.length ≤ 140737488351232 := hb
    have := zsize_one 0 t.kind t.n most (strB t.text) Q _ [] w (fun _ => 0) (by simp) (by rw [strB_size]; omega) h0 h1 ⟨P1, c1, rfl, fun i h => absurd h (Nat.not_lt_zero i)⟩ (fun X hX => by cases hX)
    rw [strB_size] at this
    exact this
  | k + 1, t, Q, v, most, w, hb, h0, h1, hA => by
    obtain ⟨b1, b2, b3⟩ := hb
    have := zsize_one k t.kind t.n most (strB t.text) Q v t.list w (bz k) b2 (by rw [strB_size]; omega) h0 h1 hA (fun X hX v W mo m0 m1 h => zsize_any k X Q v mo W (b3 X hX) m0 m1 h)
    rw [strB_size] at this
    exact this
set_option maxRecDepth 20000 in
theorem zgreat_any (k : Nat) (t : Rn (Rp k)) (Q : Nat → Prop) (P : Option Addr) (m c : Nat) (w : World) (hb : Wz k t) (hA : RpL Q k w (.slice P m c) t.list) :
    Calls Tryz.prog 5 #[.agg #[.int .i64 t.kind, .string (strB t.text), .int .i64 t.n, .slice P m c]] w fun e w' => e = .returned (.bool (decide (67108864 < bz k t))) ∧ Below w.heap.size w w' := by
  obtain ⟨s, hs⟩ : ∃ s, strB t.text = s := ⟨_, rfl⟩
  obtain ⟨kd, hkd⟩ : ∃ kd, t.kind = kd := ⟨_, rfl⟩
  obtain ⟨n, hn⟩ : ∃ n, t.n = n := ⟨_, rfl⟩
  rw [hs, hkd, hn]
  obtain ⟨W0, hW0⟩ : ∃ W, W = w.alloc (.cells #[.int .i64 kd, .string s, .int .i64 n, .slice P m c] 24) := ⟨_, rfl⟩
  have hb0 : Below w.heap.size w W0 := by rw [hW0]; exact (Below.refl _ _).alloc (Nat.le_refl _) _
  obtain ⟨b, hbb⟩ : ∃ b, w.heap.size = b := ⟨_, rfl⟩
  have hr1 : W0.heap[b]? = some (.cells #[.int .i64 kd, .string s, .int .i64 n, .slice P m c] 24) := by rw [hW0, ← hbb]; exact one_alloc _ _
  obtain ⟨z0, z1, z2, z3, zf⟩ := prow4 hr1
  obtain ⟨Z, hZ⟩ : ∃ Z, bz k t = Z := ⟨_, rfl⟩
  have HC : Hid (Calls Tryz.prog 13 #[.agg #[.int .i64 kd, .string s, .int .i64 n, .slice P m c], .int .i64 67108864] W0 fun e w' => (∃ z : Nat, e = .returned (.int .i64 (z : Int)) ∧ ((Z : Int) ≤ 67108864 → z = Z) ∧ (67108864 < (Z : Int) → 67108864 < (z : Int)) ∧ (z : Int) ≤ 67108864 + 140737488351233) ∧ Below W0.heap.size W0 w') := by
    have := zsize_any k t Q (.slice P m c) 67108864 W0 hb (by omega) (by omega) (hA.on hb0)
    rw [hs, hkd, hn, hZ] at this
    exact this
  have HB0 : Hid (Below w.heap.size w W0) := hb0
  have HBB : Hid (w.heap.size = b) := hbb
  rw [hZ]
  clear hb0 hbb hr1 hA hb hs hkd hn hZ
  by_cases hg : 67108864 < Z
  all_goals
    go_enter Tryz.func5, Tryz.ntmps5
    go_upto_region 1 with fail
    rw [← hW0, HBB.out]
    clear hW0
    go_wp2_with fail
    refine (show Calls _ _ _ _ _ from HC.out).mono ?_
    rintro e w1 ⟨⟨zz, rfl, h5, h6, h7⟩, hb1⟩
    have HB1 : Hid (Below w.heap.size w w1) := HB0.out.trans (hb1.mono HB0.out.size)
    have hdz : decide ((67108864 : Int) < (zz : Int)) = decide (67108864 < Z) := by
      by_cases hc : 67108864 < Z
      · rw [decide_eq_true hc]; exact decide_eq_true (h6 (by omega))
      · have := h5 (by omega)
        rw [decide_eq_false hc]; exact decide_eq_false (by omega)
    have HDZ : Hid (decide ((67108864 : Int) < (zz : Int)) = decide (67108864 < Z)) := hdz
    clear hb1 h5 h6 h7 z0 z1 z2 z3 zf hdz
    go_wp2
    go_returns
    exact ⟨by first | rfl | (rw [← HDZ.out]; rfl), HB1.out⟩
end Go.Proofs.YtgiicfgekicfcaaGreatDoor
