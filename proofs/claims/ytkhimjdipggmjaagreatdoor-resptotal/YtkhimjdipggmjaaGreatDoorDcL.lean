import Derived.Test.YtkhimjdipggmjaaGreatDoorHM
import Derived.Test.YtkhimjdipggmjaaGreatDoorHT
import Derived.Test.YtkhimjdipggmjaaGreatDoorHJ
namespace Go.Proofs.YtkhimjdipggmjaaGreatDoor
open Go.RowKit Vi
set_option linter.unusedVariables false
set_option linter.unusedSimpArgs false
theorem str_self (s : ByteArray) : (s.toList == s.toList) = true := by simp
theorem RpB.cell {Q : Nat → Prop} {k : Nat} {R : Value → List (Rp k) → Prop} {w : World} {P : Option Addr} {n c : Nat} {ts : List (Rn (Rp k))} (h : RpB Q k R w (.slice P n c) ts) (i : Nat) (hi : i < ts.length) : ∃ g o l2, P = some ⟨g, o, none⟩ ∧
      w.cell? ⟨g, o + i * 4, none⟩ = some (.int .i64 ts[i].kind) ∧ w.cell? ⟨g, o + i * 4 + 1, none⟩ = some (.string (strB ts[i].text)) ∧
      w.cell? ⟨g, o + i * 4 + 2, none⟩ = some (.int .i64 ts[i].n) ∧ w.cell? ⟨g, o + i * 4 + 3, none⟩ = some l2 ∧ R l2 ts[i].list := by
  obtain ⟨P', c', e, h2⟩ := h
  obtain ⟨g, o, l2, e1, _, e3, e4, e5, e6, e7⟩ := h2 i hi
  injection e with a1 a2 a3
  exact ⟨g, o, l2, by rw [a1, e1], e3, e4, e5, e6, e7⟩
set_option maxRecDepth 20000 in
set_option maxHeartbeats 8000000 in
/-- two replies that are one. -/
theorem sR_one (k : Nat) (kd n : Int) (tx : By) (Q1 Q2 : Nat → Prop) (va vb : Value) (l : List (Rn (Rp k))) (w : World) (hx : l.length ≤ 1073741824) (hA : RpB Q1 k (RpL Q1 k w) w va l) (hB : RpB Q2 k (RpL Q2 k w) w vb l)
    (IH : ∀ X ∈ l, ∀ (va vb : Value) (W : World), RpL Q1 k W va X.list → RpL Q2 k W vb X.list → Calls Tryz.prog 6 #[.agg #[.int .i64 X.kind, .string (strB X.text), .int .i64 X.n, va], .agg #[.int .i64 X.kind, .string (strB X.text), .int .i64 X.n, vb]] W fun e w' => e = .returned (.bool true) ∧ Below W.heap.size W w') :
    Calls Tryz.prog 6 #[.agg #[.int .i64 kd, .string (strB tx), .int .i64 n, va], .agg #[.int .i64 kd, .string (strB tx), .int .i64 n, vb]] w fun e w' => e = .returned (.bool true) ∧ Below w.heap.size w w' := by
  obtain ⟨P1, c1, rfl⟩ : ∃ P c, va = .slice P l.length c := by obtain ⟨P, c, e, _⟩ := hA; exact ⟨P, c, e⟩
  obtain ⟨P2, c2, rfl⟩ : ∃ P c, vb = .slice P l.length c := by obtain ⟨P, c, e, _⟩ := hB; exact ⟨P, c, e⟩
  obtain ⟨m, hm⟩ : ∃ m, l.length = m := ⟨_, rfl⟩
  obtain ⟨s, hs0⟩ : ∃ s, strB tx = s := ⟨_, rfl⟩
  have HM : Hid (l.length = m) := hm
  have HA : Hid (RpB Q1 k (RpL Q1 k w) w (.slice P1 m c1) l) := hm ▸ hA
  have HBV : Hid (RpB Q2 k (RpL Q2 k w) w (.slice P2 m c2) l) := hm ▸ hB
  rw [hm] at hx ⊢
  rw [hs0]
  have HIH : Hid _ := IH
  obtain ⟨W0, hW0⟩ : ∃ W, W = (w.alloc (.cells #[.int .i64 kd, .string s, .int .i64 n, .slice P1 m c1] 24)).alloc (.cells #[.int .i64 kd, .string s, .int .i64 n, .slice P2 m c2] 24) := ⟨_, rfl⟩
  obtain ⟨b, hb⟩ : ∃ b, w.heap.size = b := ⟨_, rfl⟩
  have HBB : Hid (w.heap.size = b) := hb
  have hb0 : Below b w W0 := by rw [hW0, ← hb]; exact ((Below.refl _ _).alloc (Nat.le_refl _) _).alloc (by simp) _
  have hr1 : W0.heap[b]? = some (.cells #[.int .i64 kd, .string s, .int .i64 n, .slice P1 m c1] 24) := by
    rw [hW0, ← hb]; exact keep_row (one_alloc _ _) ((Below.refl _ _).alloc (Nat.le_refl _) _)
  have hr2 : W0.heap[b + 1]? = some (.cells #[.int .i64 kd, .string s, .int .i64 n, .slice P2 m c2] 24) := by
    have h9 := one_alloc (w.alloc (.cells #[.int .i64 kd, .string s, .int .i64 n, .slice P1 m c1] 24)) (.cells #[.int .i64 kd, .string s, .int .i64 n, .slice P2 m c2] 24)
    rw [hW0, ← hb]; simpa using h9
  have HB0 : Hid (Below b w W0) := hb0
  have HR1 : Hid _ := hr1
  have HR2 : Hid _ := hr2
  obtain ⟨z0, z1, z2, z3, zf⟩ := prow4 hr1
  obtain ⟨y0, y1, y2, y3, yf⟩ := prow4 hr2
  have hs := str_self s
  rw [hb]
  clear hb0 hr1 hr2 hA hB hm IH
  go_enter Tryz.func6, Tryz.ntmps6
  go_upto_region 1 with fail
  rw [← hW0]
  clear hW0 hb
  go_wp2
  clear z0 z1 z2 z3 zf y0 y1 y2 y3 yf hs
  go_loopw [5] (fun ci wr => ∃ i : Nat, (i ≤ m ∧ Below W0.heap.size W0 wr) ∧ ci = .int .i64 (i : Int)) (fun ci _ => m - (intOf ci).toNat)
  case atStart => exact ⟨0, ⟨Nat.zero_le _, Below.refl _ _⟩, rfl⟩
  case round =>
    obtain ⟨i, ⟨hi, hbw⟩, rfl⟩ := hrel
    have HBW : Hid (Below W0.heap.size W0 wr) := hbw
    obtain ⟨z0, z1, z2, z3, zf⟩ := prow4 (keep_row HR1.out hbw)
    obtain ⟨y0, y1, y2, y3, yf⟩ := prow4 (keep_row HR2.out hbw)
    have HBX : Hid (Below b w wr) := HB0.out.trans (hbw.mono (Nat.le_of_lt (row_lt HR1.out)))
    clear hbw
    by_cases hlt : i < m
    · have hix : i < l.length := by rw [HM.out]; exact hlt
      have hbx : Below w.heap.size w wr := HBB.out ▸ HBX.out
      have hA2 : RpB Q1 k (RpL Q1 k wr) wr (.slice P1 m c1) l := HA.out.keep (fun g hg hl => ⟨hg, hbx.block g hl⟩) (fun v t h => h.on hbx)
      have hB2 : RpB Q2 k (RpL Q2 k wr) wr (.slice P2 m c2) l := HBV.out.keep (fun g hg hl => ⟨hg, hbx.block g hl⟩) (fun v t h => h.on hbx)
      obtain ⟨g1, o1, l1, hP1, d0, d1, d2, d3, d4⟩ := hA2.cell i hix
      obtain ⟨g2, o2, l2, hP2, e0, e1, e2, e3, e4⟩ := hB2.cell i hix
      obtain ⟨X, hX⟩ : ∃ X, l[i] = X := ⟨_, rfl⟩
      have hxm : X ∈ l := by rw [← hX]; exact List.getElem_mem hix
      rw [hX] at d0 d1 d2 d4 e0 e1 e2 e4
      obtain ⟨LP1, lc1, hl1⟩ := d4.form
      obtain ⟨LP2, lc2, hl2⟩ := e4.form
      subst hl1
      subst hl2
      subst hP1
      subst hP2
      have HCC : Hid (∀ W, Below wr.heap.size wr W → Calls Tryz.prog 6 #[.agg #[.int .i64 X.kind, .string (strB X.text), .int .i64 X.n, .slice LP1 X.list.length lc1], .agg #[.int .i64 X.kind, .string (strB X.text), .int .i64 X.n, .slice LP2 X.list.length lc2]] W fun e w' => e = .returned (.bool true) ∧ Below W.heap.size W w') := fun W hW =>
        HIH.out X hxm _ _ W (d4.on hW) (e4.on hW)
      have hz0 : (0 : Int) ≤ (i : Int) := by omega
      have hz1 : (i : Int) < (m : Int) := by omega
      obtain ⟨XL, hXL⟩ : ∃ XL, X.list.length = XL := ⟨_, rfl⟩
      obtain ⟨XT, hXT⟩ : ∃ XT, strB X.text = XT := ⟨_, rfl⟩
      rw [hXL, hXT] at HCC
      rw [hXL] at d3 e3
      rw [hXT] at d1 e1
      clear hX hix hxm hA2 hB2 d4 e4 hbx hXL hXT
      have HBD : Hid (Below wr.heap.size wr wr.drew) := below_dn (Below.refl _ _) 1
      have HCD : Hid _ := HCC.out wr.drew HBD.out
      have HWD : Hid (Below W0.heap.size W0 wr.drew) := below_dn HBW.out 1
      go_upto_region 6 with fail
      go_region_with (go_at_call 6; refine (show Calls _ _ _ _ _ from HCD.out).mono ?_; rintro e w2 ⟨rfl, hbx⟩; have HB2 : Hid (Below W0.heap.size W0 w2) := HWD.out.trans (hbx.mono HWD.out.size); clear hbx)
      all_goals
        clear z0 z1 z2 z3 zf y0 y1 y2 y3 yf d0 d1 d2 d3 e0 e1 e2 e3
        go_wp2
        go_roundw
        case rel => exact ⟨i + 1, ⟨hlt, HB2.out⟩, rfl⟩
        case measure => simp [intOf]; omega
    · have hin : i = m := by omega
      subst hin
      go_wp2
      go_returns
      exact ⟨rfl, HBX.out⟩
/-- no list in it is too long. -/
def Lim : (k : Nat) → List (Rp k) → Prop
  | 0, _ => True
  | k + 1, ts => List.length (α := Rn (Rp k)) ts ≤ 1073741824 ∧ ∀ t : Rn (Rp k), List.Mem t (show List (Rn (Rp k)) from ts) → Lim k t.list
theorem sR_any : ∀ (k : Nat) (kd n : Int) (tx : By) (Q1 Q2 : Nat → Prop) (va vb : Value) (l : List (Rp k)) (w : World), Lim k l → RpL Q1 k w va l → RpL Q2 k w vb l →
    Calls Tryz.prog 6 #[.agg #[.int .i64 kd, .string (strB tx), .int .i64 n, va], .agg #[.int .i64 kd, .string (strB tx), .int .i64 n, vb]] w fun e w' => e = .returned (.bool true) ∧ Below w.heap.size w w'
  | 0, kd, n, tx, Q1, Q2, va, vb, l, w, hl, hA, hB => by
    obtain ⟨P1, c1, rfl⟩ := hA
    obtain ⟨P2, c2, rfl⟩ := hB
    exact sR_one 0 kd n tx Q1 Q2 _ _ [] w (by simp) ⟨P1, c1, rfl, fun i h => absurd h (Nat.not_lt_zero i)⟩ ⟨P2, c2, rfl, fun i h => absurd h (Nat.not_lt_zero i)⟩ (fun X hX => by cases hX)
  | k + 1, kd, n, tx, Q1, Q2, va, vb, l, w, hl, hA, hB =>
    sR_one k kd n tx Q1 Q2 va vb l w hl.1 hA hB (fun X hX va vb W h1 h2 => sR_any k X.kind X.n X.text Q1 Q2 va vb X.list W (hl.2 X hX) h1 h2)
theorem list_many_le {a b c : Int} {deep : Bool} {r : By} {m : Nat} (hb : c ≤ 1048576) (h : (listH a b c deep r).many = some m) : m ≤ 2097152 := by
  unfold listH at h
  split at h
  · rename_i n z hz
    have h9 := nu_len hz
    have h8 : n ≤ 1048576 := by
      have := h9.2.2.2
      split at this <;> omega
    split at h
    · cases h
    · injection h with h
      split at h <;> omega
  · cases h
theorem hd_many_le (deep : Bool) (s : By) (m : Nat) (h : (hd deep s).many = some m) : m ≤ 2097152 := by
  match s, h with
  | [], h => cases h
  | c :: r, h =>
    have h0 : (hdM deep c r).many = some m := h
    by_cases hl : c = 42 ∨ c = 37 ∨ c = 126 ∨ c = 62
    · rw [hdM_list deep r hl] at h0
      exact list_many_le (by unfold mostK; split; omega; split <;> omega) h0
    · exfalso
      have : (hdM deep c r).many = none := by
        unfold hdM
        rw [if_neg (fun e => hl (Or.inl e)), if_neg (fun e => hl (Or.inr (Or.inl e))), if_neg (fun e => hl (Or.inr (Or.inr (Or.inl e)))), if_neg (fun e => hl (Or.inr (Or.inr (Or.inr e))))]
        split
        · unfold lineH; split; rfl; split <;> rfl
        split
        · unfold lineH; split; rfl; split <;> rfl
        split
        · unfold numH; split <;> rfl
        split
        · unfold bulkH bulkT; repeat' split
          all_goals rfl
        split
        · unfold nullH; split <;> rfl
        split
        · cases r with
          | nil => rfl
          | cons c r => rw [boolH]; split; split <;> rfl; rfl
        · rfl
      rw [this] at h0; cases h0
theorem many_mem {α : Type} {f : By → Except Nat (α × Nat)} : ∀ (n : Nat) (s : By) (ts : List α) (y : Nat), decMany f n s = .ok (ts, y) → ∀ t ∈ ts, ∃ s' z, f s' = .ok (t, z)
  | 0, s, ts, y, h, t, ht => by
    injection h with h
    injection h with h1 h2
    subst h1
    cases ht
  | n + 1, s, ts, y, h, t, ht => by
    rw [decMany] at h
    cases h1 : decMany f n s with
    | error e => rw [h1] at h; cases h
    | ok p =>
      obtain ⟨ts1, y1⟩ := p
      rw [h1] at h
      simp only at h
      cases h2 : f (s.drop y1) with
      | error e => rw [h2] at h; cases h
      | ok p =>
        obtain ⟨t2, z⟩ := p
        rw [h2] at h
        injection h with h
        injection h with h3 h4
        subst h3
        rcases List.mem_append.1 ht with h5 | h5
        · exact many_mem n s ts1 y1 h1 t h5
        · have : t = t2 := by simpa using h5
          subst this
          exact ⟨_, _, h2⟩
theorem dec_lim : ∀ (k : Nat) (s : By) (t : Rn (Rp k)) (z : Nat), dec k s = .ok (t, z) → Lim k t.list
  | 0, s, t, z, h => trivial
  | k + 1, s, t, z, h => by
    rw [dec] at h
    split at h
    · cases hm : (hd false s).many with
      | none =>
        rw [hm] at h
        injection h with h
        injection h with h1 h2
        subst h1
        exact ⟨Nat.zero_le _, fun t ht => by cases ht⟩
      | some c =>
        rw [hm] at h
        simp only at h
        cases h1 : decMany (dec k) c (s.drop (hd false s).size) with
        | error e => rw [h1] at h; cases h
        | ok p =>
          obtain ⟨ts, y⟩ := p
          rw [h1] at h
          injection h with h
          injection h with h2 h3
          subst h2
          have hc := hd_many_le false s c hm
          have hl := (decMany_len (fun s t z h => (dec_len k s t z h).2) c _ ts y h1).2
          refine ⟨by show ts.length ≤ _; omega, fun t ht => ?_⟩
          obtain ⟨s', z', h4⟩ := many_mem c _ ts y h1 t ht
          exact dec_lim k s' t z' h4
    · cases h
end Go.Proofs.YtkhimjdipggmjaaGreatDoor
