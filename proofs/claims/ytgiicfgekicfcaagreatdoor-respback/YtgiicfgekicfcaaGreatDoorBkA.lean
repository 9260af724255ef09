import Derived.Test.YtgiicfgekicfcaaGreatDoorDcL
import Derived.Test.YtgiicfgekicfcaaGreatDoorDtP
import Derived.Deep.RegionWith
namespace Go.Proofs.Vi
/-- how many replies and bytes there are in one. -/
def bz : (k : Nat) → Rn (Rp k) → Nat
  | 0, t => 1 + t.text.length
  | k + 1, t => 1 + t.text.length + (List.map (α := Rn (Rp k)) (bz k) t.list).sum
end Go.Proofs.Vi
namespace Go.Proofs.YtgiicfgekicfcaaGreatDoor
open Go.RowKit Vi
set_option linter.unusedVariables false
set_option linter.unusedSimpArgs false
theorem sum_step {α : Type} (l : List α) (f : α → Nat) (i : Nat) (h : i < l.length) : ((l.take (i + 1)).map f).sum = ((l.take i).map f).sum + f l[i] := by
  rw [List.take_add_one, List.getElem?_eq_getElem h, List.map_append, List.sum_append]; simp
theorem sum_take {α : Type} (l : List α) (f : α → Nat) (i : Nat) : ((l.take i).map f).sum ≤ (l.map f).sum := by
  have : (l.map f).sum = ((l.take i).map f).sum + ((l.drop i).map f).sum := by rw [← List.sum_append, ← List.map_append, List.take_append_drop]
  omega
set_option maxRecDepth 20000 in
set_option maxHeartbeats 8000000 in
theorem size_one (k : Nat) (kd n most : Int) (s : ByteArray) (Q : Nat → Prop) (v : Value) (l : List (Rn (Rp k))) (w : World) (F : Rn (Rp k) → Nat) (hx : l.length ≤ 1073741824) (hs : s.size ≤ 1048576) (hm0 : 0 ≤ most) (hm1 : most ≤ 67108864) (hF : 1 + s.size + (l.map F).sum ≤ 1048576) (hA : RpB Q k (RpL Q k w) w v l)
    (IH : ∀ X ∈ l, ∀ (v : Value) (W : World) (mo : Int), 0 ≤ mo → mo ≤ 67108864 → RpL Q k W v X.list → Calls Tryz.prog 13 #[.agg #[.int .i64 X.kind, .string (strB X.text), .int .i64 X.n, v], .int .i64 mo] W fun e w' => (∃ z : Nat, e = .returned (.int .i64 (z : Int)) ∧ z ≤ F X) ∧ Below W.heap.size W w') :
    Calls Tryz.prog 13 #[.agg #[.int .i64 kd, .string s, .int .i64 n, v], .int .i64 most] w fun e w' => (∃ z : Nat, e = .returned (.int .i64 (z : Int)) ∧ z ≤ 1 + s.size + (l.map F).sum) ∧ Below w.heap.size w w' := by
  obtain ⟨P1, c1, rfl⟩ : ∃ P c, v = .slice P l.length c := by obtain ⟨P, c, e, _⟩ := hA; exact ⟨P, c, e⟩
  obtain ⟨m, hm⟩ : ∃ m, l.length = m := ⟨_, rfl⟩
  have HM : Hid (l.length = m) := hm
  have HA : Hid (RpB Q k (RpL Q k w) w (.slice P1 m c1) l) := hm ▸ hA
  rw [hm] at hx ⊢
  have HIH : Hid _ := IH
  obtain ⟨W0, hW0⟩ : ∃ W, W = w.alloc (.cells #[.int .i64 kd, .string s, .int .i64 n, .slice P1 m c1] 24) := ⟨_, rfl⟩
  obtain ⟨b, hb⟩ : ∃ b, w.heap.size = b := ⟨_, rfl⟩
  have HBB : Hid (w.heap.size = b) := hb
  have hb0 : Below b w W0 := by rw [hW0, ← hb]; exact (Below.refl _ _).alloc (Nat.le_refl _) _
  have hr1 : W0.heap[b]? = some (.cells #[.int .i64 kd, .string s, .int .i64 n, .slice P1 m c1] 24) := by rw [hW0, ← hb]; exact one_alloc _ _
  have HB0 : Hid (Below b w W0) := hb0
  have HR1 : Hid _ := hr1
  obtain ⟨z0, z1, z2, z3, zf⟩ := prow4 hr1
  obtain ⟨S, hS⟩ : ∃ S, (l.map F).sum = S := ⟨_, rfl⟩
  have HSN : Hid (∀ i (hi : i < l.length), ((l.take (i + 1)).map F).sum = ((l.take i).map F).sum + F l[i]) := fun i hi => sum_step l F i hi
  have HST : Hid (∀ i, ((l.take i).map F).sum ≤ S) := fun i => by rw [← hS]; exact sum_take l F i
  rw [hS] at hF ⊢
  have hw1 : IntKind.i64.wrap (1 + (s.size : Int)) = 1 + (s.size : Int) := by rw [IntKind.wrap_i64] <;> omega
  rw [hb]
  clear hb0 hr1 hA hm IH hS
  go_enter Tryz.func13, Tryz.ntmps13
  go_upto_region 1 with fail
  rw [← hW0]
  clear hW0 hb
  go_wp2
  clear z0 z1 z2 z3 zf
  go_loopw [5, 6] (fun ck ci wr => ∃ i kk : Nat, (i ≤ m ∧ kk ≤ 1 + s.size + ((l.take i).map F).sum ∧ Below W0.heap.size W0 wr) ∧ ck = .int .i64 (kk : Int) ∧ ci = .int .i64 (i : Int)) (fun _ ci _ => m - (intOf ci).toNat)
  case atStart => exact ⟨0, 1 + s.size, ⟨Nat.zero_le _, by simp, Below.refl _ _⟩, by simp, rfl⟩
  case round =>
    obtain ⟨i, kk, ⟨hi, hkk, hbw⟩, rfl, rfl⟩ := hrel
    have HBW : Hid (Below W0.heap.size W0 wr) := hbw
    obtain ⟨z0, z1, z2, z3, zf⟩ := prow4 (keep_row HR1.out hbw)
    have HBX : Hid (Below b w wr) := HB0.out.trans (hbw.mono (Nat.le_of_lt (row_lt HR1.out)))
    have hkS : kk ≤ 1 + s.size + S := by have := HST.out i; omega
    clear hbw
    by_cases hlt : i < m
    · by_cases hmo : (kk : Int) ≤ most
      · have hix : i < l.length := by rw [HM.out]; exact hlt
        have hbx : Below w.heap.size w wr := HBB.out ▸ HBX.out
        have hA2 : RpB Q k (RpL Q k wr) wr (.slice P1 m c1) l := HA.out.keep (fun g hg hl => ⟨hg, hbx.block g hl⟩) (fun v t h => h.on hbx)
        obtain ⟨g1, o1, l1, hP1, d0, d1, d2, d3, d4⟩ := hA2.cell i hix
        have hsn := HSN.out i hix
        obtain ⟨X, hX⟩ : ∃ X, l[i] = X := ⟨_, rfl⟩
        have hxm : X ∈ l := by rw [← hX]; exact List.getElem_mem hix
        rw [hX] at d0 d1 d2 d4 hsn
        obtain ⟨LP1, lc1, hl1⟩ := d4.form
        subst hl1
        subst hP1
        have HSX : Hid (kk + F X ≤ 1 + s.size + ((l.take (i + 1)).map F).sum) := by show _ ≤ _; rw [hsn]; omega
        have HSY : Hid (1 + s.size + ((l.take (i + 1)).map F).sum ≤ 1048576) := by show _ ≤ _; have := HST.out (i + 1); omega
        have hwm : IntKind.i64.wrap (most - (kk : Int)) = most - (kk : Int) := by rw [IntKind.wrap_i64] <;> omega
        have HCC : Hid (∀ W, Below wr.heap.size wr W → Calls Tryz.prog 13 #[.agg #[.int .i64 X.kind, .string (strB X.text), .int .i64 X.n, .slice LP1 X.list.length lc1], .int .i64 (most - (kk : Int))] W fun e w' => (∃ z : Nat, e = .returned (.int .i64 (z : Int)) ∧ z ≤ F X) ∧ Below W.heap.size W w') := fun W hW => HIH.out X hxm _ W _ (by omega) (by omega) (d4.on hW)
        have hz0 : (0 : Int) ≤ (i : Int) := by omega
        have hz1 : (i : Int) < (m : Int) := by omega
        obtain ⟨XL, hXL⟩ : ∃ XL, X.list.length = XL := ⟨_, rfl⟩
        obtain ⟨XT, hXT⟩ : ∃ XT, strB X.text = XT := ⟨_, rfl⟩
        rw [hXL, hXT] at HCC
        rw [hXL] at d3
        rw [hXT] at d1
        clear hX hix hxm hA2 d4 hbx hXL hXT hsn
        have HCD : Hid _ := HCC.out wr (Below.refl _ _)
        go_wp2_with fail
        refine (show Calls _ _ _ _ _ from HCD.out).mono ?_
        rintro e w2 ⟨⟨zz, rfl, hzz⟩, hbx⟩
        have HB2 : Hid (Below W0.heap.size W0 w2) := HBW.out.trans (hbx.mono HBW.out.size)
        have hwz : IntKind.i64.wrap ((kk : Int) + (zz : Int)) = (kk : Int) + (zz : Int) := by have := HSX.out; have := HSY.out; rw [IntKind.wrap_i64] <;> omega
        have HZ : Hid (kk + zz ≤ 1 + s.size + ((l.take (i + 1)).map F).sum) := Nat.le_trans (Nat.add_le_add_left hzz _) HSX.out
        clear hbx z0 z1 z2 z3 zf d0 d1 d2 d3 hzz
        go_wp2
        go_roundw
        case rel => exact ⟨i + 1, kk + zz, ⟨hlt, HZ.out, HB2.out⟩, by simp, rfl⟩
        case measure => simp [intOf]; omega
      · go_wp2
        go_returns
        exact ⟨⟨kk, rfl, hkS⟩, HBX.out⟩
    · have hin : i = m := by omega
      subst hin
      go_wp2
      go_returns
      exact ⟨⟨kk, rfl, hkS⟩, HBX.out⟩
theorem bz_pos : ∀ (k : Nat) (t : Rn (Rp k)), 1 + t.text.length ≤ bz k t
  | 0, t => Nat.le_refl _
  | k + 1, t => Nat.le_add_right _ _
theorem len_sum {α : Type} (l : List α) (f : α → Nat) (h : ∀ x ∈ l, 1 ≤ f x) : l.length ≤ (l.map f).sum := by
  induction l with
  | nil => simp
  | cons x l ih => simp only [List.length_cons, List.map_cons, List.sum_cons]; have := ih (fun y hy => h y (List.mem_cons_of_mem _ hy)); have := h x (List.mem_cons_self); omega
theorem mem_sum {α : Type} {l : List α} (f : α → Nat) {x : α} (h : x ∈ l) : f x ≤ (l.map f).sum := by
  induction l with
  | nil => cases h
  | cons y l ih =>
    simp only [List.map_cons, List.sum_cons]
    rcases List.mem_cons.1 h with rfl | h
    · omega
    · have := ih h; omega
theorem bz_len (k : Nat) (t : Rn (Rp (k + 1))) : 1 + t.text.length + List.length t.list ≤ bz (k + 1) t :=
  Nat.add_le_add_left (len_sum (α := Rn (Rp k)) t.list (bz k) (fun x _ => by have := bz_pos k x; omega)) _
theorem bz_mem (k : Nat) (t : Rn (Rp (k + 1))) (x : Rn (Rp k)) (h : List.Mem x (show List (Rn (Rp k)) from t.list)) : bz k x ≤ bz (k + 1) t :=
  Nat.le_trans (mem_sum (bz k) h) (Nat.le_add_left _ _)
theorem size_any : ∀ (k : Nat) (t : Rn (Rp k)) (Q : Nat → Prop) (v : Value) (most : Int) (w : World), bz k t ≤ 1048576 → 0 ≤ most → most ≤ 67108864 → RpL Q k w v t.list →
    Calls Tryz.prog 13 #[.agg #[.int .i64 t.kind, .string (strB t.text), .int .i64 t.n, v], .int .i64 most] w fun e w' => (∃ z : Nat, e = .returned (.int .i64 (z : Int)) ∧ z ≤ bz k t) ∧ Below w.heap.size w w'
  | 0, t, Q, v, most, w, hb, h0, h1, hA => by
    obtain ⟨P1, c1, rfl⟩ := hA
    have hl := bz_pos 0 t
    have := size_one 0 t.kind t.n most (strB t.text) Q _ [] w (fun _ => 0) (by simp) (by rw [strB_size]; omega) h0 h1 (by rw [strB_size]; simp; omega) ⟨P1, c1, rfl, fun i h => absurd h (Nat.not_lt_zero i)⟩ (fun X hX => by cases hX)
    rw [strB_size] at this
    exact this
  | k + 1, t, Q, v, most, w, hb, h0, h1, hA => by
    have hl := bz_len k t
    have hb' : 1 + t.text.length + (List.map (α := Rn (Rp k)) (bz k) t.list).sum ≤ 1048576 := hb
    have h9 : List.length t.list ≤ 1073741824 := by omega
    have := size_one k t.kind t.n most (strB t.text) Q v t.list w (bz k) h9 (by rw [strB_size]; omega) h0 h1 (by rw [strB_size]; exact hb') hA (fun X hX v W mo m0 m1 h => size_any k X Q v mo W (Nat.le_trans (bz_mem k t X hX) hb) m0 m1 h)
    rw [strB_size] at this
    exact this
set_option maxRecDepth 20000 in
theorem great_any (k : Nat) (t : Rn (Rp k)) (Q : Nat → Prop) (P : Option Addr) (m c : Nat) (w : World) (hb : bz k t ≤ 1048576) (hA : RpL Q k w (.slice P m c) t.list) :
    Calls Tryz.prog 5 #[.agg #[.int .i64 t.kind, .string (strB t.text), .int .i64 t.n, .slice P m c]] w fun e w' => e = .returned (.bool false) ∧ Below w.heap.size w w' := by
  obtain ⟨s, hs⟩ : ∃ s, strB t.text = s := ⟨_, rfl⟩
  obtain ⟨kd, hkd⟩ : ∃ kd, t.kind = kd := ⟨_, rfl⟩
  obtain ⟨n, hn⟩ : ∃ n, t.n = n := ⟨_, rfl⟩
  rw [hs, hkd, hn]
  obtain ⟨W0, hW0⟩ : ∃ W, W = w.alloc (.cells #[.int .i64 kd, .string s, .int .i64 n, .slice P m c] 24) := ⟨_, rfl⟩
  have hb0 : Below w.heap.size w W0 := by rw [hW0]; exact (Below.refl _ _).alloc (Nat.le_refl _) _
  obtain ⟨b, hbb⟩ : ∃ b, w.heap.size = b := ⟨_, rfl⟩
  have hr1 : W0.heap[b]? = some (.cells #[.int .i64 kd, .string s, .int .i64 n, .slice P m c] 24) := by rw [hW0, ← hbb]; exact one_alloc _ _
  obtain ⟨z0, z1, z2, z3, zf⟩ := prow4 hr1
  have HC : Hid (Calls Tryz.prog 13 #[.agg #[.int .i64 kd, .string s, .int .i64 n, .slice P m c], .int .i64 67108864] W0 fun e w' => (∃ z : Nat, e = .returned (.int .i64 (z : Int)) ∧ z ≤ bz k t) ∧ Below W0.heap.size W0 w') := by
    have := size_any k t Q (.slice P m c) 67108864 W0 hb (by omega) (by omega) (hA.on hb0)
    rw [hs, hkd, hn] at this
    exact this
  have HB0 : Hid (Below w.heap.size w W0) := hb0
  have HBZ : Hid (bz k t ≤ 1048576) := hb
  have HBB : Hid (w.heap.size = b) := hbb
  clear hb0 hbb hr1 hA hb hs hkd hn
  go_enter Tryz.func5, Tryz.ntmps5
  go_upto_region 1 with fail
  rw [← hW0, HBB.out]
  clear hW0
  go_wp2_with fail
  refine (show Calls _ _ _ _ _ from HC.out).mono ?_
  rintro e w1 ⟨⟨zz, rfl, hzz⟩, hb1⟩
  have hz2 : (zz : Int) ≤ 67108864 := by have := HBZ.out; omega
  have HB1 : Hid (Below w.heap.size w w1) := HB0.out.trans (hb1.mono HB0.out.size)
  clear hb1 hzz z0 z1 z2 z3 zf
  have hdz : decide ((67108864 : Int) < (zz : Int)) = false := decide_eq_false (by omega)
  go_wp2
  go_returns
  exact ⟨rfl, HB1.out⟩
set_option maxRecDepth 20000 in
/-- pos: a place in a text that is not empty. -/
theorem pos_any (x : Int) (n : Nat) (hx0 : -9223372036854775808 ≤ x) (hx1 : x ≤ 9223372036854775807) (hn : 1 ≤ n) (hn2 : n ≤ 140737488351232) (w : World) :
    Calls Tryz.prog 12 #[.int .i64 x, .int .i64 (n : Int)] w fun e w' => (∃ j : Nat, e = .returned (.int .i64 (j : Int)) ∧ j < n) ∧ Below w.heap.size w w' := by
  have hnz : ((n : Int) == 0) = false := by simp; omega
  have hr : -(n : Int) < x.tmod (n : Int) ∧ x.tmod (n : Int) < (n : Int) := by
    by_cases h : 0 ≤ x
    · rw [Int.tmod_eq_emod_of_nonneg h]
      have h1 := Int.emod_nonneg x (b := (n : Int)) (by omega)
      have h2 := Int.emod_lt_of_pos x (b := (n : Int)) (by omega)
      omega
    · obtain ⟨y, rfl⟩ : ∃ y, x = -y := ⟨-x, by omega⟩
      rw [Int.neg_tmod, Int.tmod_eq_emod_of_nonneg (by omega)]
      have h1 := Int.emod_nonneg y (b := (n : Int)) (by omega)
      have h2 := Int.emod_lt_of_pos y (b := (n : Int)) (by omega)
      omega
  obtain ⟨r, hrr⟩ : ∃ r, x.tmod (n : Int) = r := ⟨_, rfl⟩
  rw [hrr] at hr
  have hw0 : IntKind.i64.wrap r = r := by rw [IntKind.wrap_i64] <;> omega
  have hw1 : IntKind.i64.wrap (r + (n : Int)) = r + (n : Int) := by rw [IntKind.wrap_i64] <;> omega
  by_cases h : r < 0
  · go_enter Tryz.func12, Tryz.ntmps12
    go_wp2
    go_returns
    exact ⟨⟨(r + (n : Int)).toNat, by rw [Int.toNat_of_nonneg (by omega)]; rfl, by omega⟩, Below.refl _ _⟩
  · go_enter Tryz.func12, Tryz.ntmps12
    go_wp2
    go_returns
    exact ⟨⟨r.toNat, by rw [Int.toNat_of_nonneg (by omega)]; rfl, by omega⟩, Below.refl _ _⟩
end Go.Proofs.YtgiicfgekicfcaaGreatDoor
