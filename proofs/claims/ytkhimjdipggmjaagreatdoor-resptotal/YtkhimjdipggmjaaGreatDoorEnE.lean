import Derived.Test.YtkhimjdipggmjaaGreatDoorEnC
import Derived.Test.YtkhimjdipggmjaaGreatDoorDtM
namespace Go.Proofs.YtkhimjdipggmjaaGreatDoor
open Go.RowKit Vi
set_option linter.unusedVariables false
set_option linter.unusedSimpArgs false
def markB (kd : Int) : UInt8 := if kd = 5 then 42 else if kd = 6 then 37 else if kd = 7 then 126 else 62
/-- list of a reply that can be written, in the third form. -/
theorem elist_cell {Q : Nat → Prop} {k : Nat} {R : Value → List (Rp k) → Prop} {w : World} {P : Option Addr} {n c : Nat} {ts : List (Rn (Rp k))} (h : RpB Q k R w (.slice P n c) ts) (i : Nat) (hi : i < ts.length) : ∃ g o l2, P = some ⟨g, o, none⟩ ∧
      w.cell? ⟨g, o + i * 4, none⟩ = some (.int .i64 ts[i].kind) ∧ w.cell? ⟨g, o + i * 4 + 1, none⟩ = some (.string (strB ts[i].text)) ∧
      w.cell? ⟨g, o + i * 4 + 2, none⟩ = some (.int .i64 ts[i].n) ∧ w.cell? ⟨g, o + i * 4 + 3, none⟩ = some l2 ∧ R l2 ts[i].list := by
  obtain ⟨P', c', e, h2⟩ := h
  obtain ⟨g, o, l2, e1, _, e3, e4, e5, e6, e7⟩ := h2 i hi
  injection e with a1 a2 a3
  exact ⟨g, o, l2, by rw [a1, e1], e3, e4, e5, e6, e7⟩
set_option maxRecDepth 20000 in
set_option maxHeartbeats 8000000 in
theorem elist_5 (k B b : Nat) (D : Int) (l : List UInt8) (lv : Value) (ts : List (Rn (Rp k))) (hn : ts.length ≤ 1073741824)
    (hD0 : 0 ≤ D) (hD : D ≤ 31) (w : World) (h : EnAt B b 3 l w) (hlen : l.length + (42 :: (Lib.itoa ((ts.length : Nat) : Int) ++ [13, 10]) ++ List.flatMap (enc k) ts).length ≤ 140737488355000) (hBw : B ≤ w.heap.size) (hL : ∀ W, Below B w W → Laid W) (hT : RpB (fun g => g < B) k (RpL (fun g => g < B) k w) w lv ts)
    (IH : ∀ X ∈ ts, ∀ (v : Value) (l' : List UInt8) (W : World), Below B w W → B ≤ W.heap.size → EnAt B b 3 l' W → l'.length + (enc k X).length ≤ 140737488355000 → RpL (fun g => g < B) k W v X.list → Calls Tryz.prog 14 #[.pointer (some ⟨b, 0, none⟩), .agg #[.int .i64 X.kind, .string (strB X.text), .int .i64 X.n, v], .int .i64 (D + 1)] W fun e w' => e = .returned (.bool true) ∧ EnAt B b 3 (l' ++ enc k X) w' ∧ BK B b W w') :
    Calls Tryz.prog 29 #[.pointer (some ⟨b, 0, none⟩), .agg #[.int .i64 5, .string ⟨#[]⟩, .int .i64 0, lv], .int .i64 D] w fun e w' => e = .returned (.bool true) ∧ EnAt B b 3 (l ++ (42 :: (Lib.itoa ((ts.length : Nat) : Int) ++ [13, 10]) ++ List.flatMap (enc k) ts)) w' ∧ BK B b w w' := by
  obtain ⟨P, c, rfl⟩ : ∃ P c, lv = .slice P ts.length c := by obtain ⟨P, c, e, _⟩ := hT; exact ⟨P, c, e⟩
  obtain ⟨m, hm⟩ : ∃ m, ts.length = m := ⟨_, rfl⟩
  have HM : Hid (ts.length = m) := hm
  have HT : Hid (RpB (fun g => g < B) k (RpL (fun g => g < B) k w) w (.slice P m c) ts) := hm ▸ hT
  rw [hm] at hn hlen ⊢
  obtain ⟨cnt, hcnt⟩ : ∃ cnt, cnt = m := ⟨_, rfl⟩
  rw [← hcnt] at hlen ⊢
  obtain ⟨hh, hhd⟩ : ∃ hh, 42 :: (Lib.itoa (cnt : Int) ++ [13, 10]) = hh := ⟨_, rfl⟩
  rw [hhd] at hlen ⊢
  have HE : Hid (EnAt B b 3 l w) := h
  have HL : Hid _ := hL
  have HIH : Hid _ := IH
  have HLEN : Hid _ := hlen
  obtain ⟨W0, hW0⟩ : ∃ W, W = w.alloc (.cells #[.int .i64 5, .string ⟨#[]⟩, .int .i64 0, .slice P m c] 24) := ⟨_, rfl⟩
  have hb0 : Below w.heap.size w W0 := by rw [hW0]; exact (Below.refl _ _).alloc (Nat.le_refl _) _
  obtain ⟨r4, hr4⟩ : ∃ r, w.heap.size = r := ⟨_, rfl⟩
  have hrow0 : W0.heap[r4]? = some (.cells #[.int .i64 5, .string ⟨#[]⟩, .int .i64 0, .slice P m c] 24) := by rw [hW0, ← hr4]; exact one_alloc _ _
  have HB0 : Hid (Below w.heap.size w W0) := hb0
  have HROW : Hid _ := hrow0
  have HR4 : Hid (w.heap.size = r4) := hr4
  have hrb : r4 ≠ b := by have := h.lt; omega
  have hpw : ∀ o, (w.alloc o).cell? ⟨b, 2, none⟩ = some (.int .i64 3) := fun o => cell_a1 h.proto o
  have hDn : (D == 32) = false := by simp; omega
  have hDw : IntKind.i64.wrap (D + 1) = D + 1 := by rw [IntKind.wrap_i64] <;> omega
  have hcb : cnt ≤ 1073741824 := by omega
  have HEI : Hid (Calls Tryz.prog 27 #[.pointer (some ⟨b, 0, none⟩), .string ⟨#[42]⟩, .string ⟨#[42]⟩] W0 fun e w' => e = .returned (.string ⟨#[42]⟩) ∧ w' = W0) := either_any B b 3 l ⟨#[42]⟩ ⟨#[42]⟩ W0 (h.on hb0)
  have HDG : Hid _ := digits_any (cnt : Int) (by omega) (by omega) W0 (hL W0 (hb0.mono hBw))
  have hil := Lib.itoa_length_le (cnt : Int) (by omega) (by omega)
  have hll : hh.length = (Lib.itoa (cnt : Int)).length + 3 := by rw [← hhd]; simp
  have hl0 : l.length ≤ 140737488355000 := by omega
  have HFL : Hid (∀ i (hi : i < ts.length), (List.flatMap (enc k) (ts.take i)).length + (enc k ts[i]).length ≤ (List.flatMap (enc k) ts).length) := fun i hi => by
    have e : ts = ts.take i ++ (ts[i] :: ts.drop (i + 1)) := by rw [← List.drop_eq_getElem_cons hi, List.take_append_drop]
    have e2 := congrArg (fun x => (List.flatMap (enc k) x).length) e
    simp only [List.flatMap_append, List.flatMap_cons, List.length_append] at e2
    omega
  have HSN : Hid (∀ i (hi : i < ts.length), List.flatMap (enc k) (ts.take (i + 1)) = List.flatMap (enc k) (ts.take i) ++ enc k ts[i]) := fun i hi => by
    rw [List.take_add_one, List.getElem?_eq_getElem hi, List.flatMap_append]; simp
  have hcm : m = cnt := hcnt.symm
  clear h hT hL IH hb0 hr4 hrow0 hm hlen hcnt
  subst hcm
  go_enter Tryz.func29, Tryz.ntmps29
  go_wp2_with fail
  rw [← hW0, HR4.out]
  clear hW0 hpw
  refine (show Calls _ _ _ _ _ from HEI.out).mono ?_
  rintro e w1 ⟨rfl, hw1⟩
  have hw1 := hw1.symm
  subst hw1
  go_wp2_with fail
  refine (show Calls _ _ _ _ _ from HDG.out).mono ?_
  rintro e w1 ⟨rfl, hb1⟩
  obtain ⟨W1, hW1⟩ : ∃ W, W = w1.alloc (.cells #[.string ⟨#[42]⟩, .string (itoaB (m : Int))] 9) := ⟨_, rfl⟩
  have hb2 : Below w.heap.size w W1 := by rw [hW1]; exact ((HB0.out.trans (hb1.mono HB0.out.size)).alloc (Nat.le_trans HB0.out.size hb1.size) _)
  have hr1 : W1.heap[w1.heap.size]? = some (.cells (strA [⟨#[42]⟩, itoaB (m : Int)]) 9) := by rw [hW1]; exact one_alloc _ _
  have HLN : Hid _ := line_out B b w1.heap.size 2 3 l [⟨#[42]⟩, itoaB (m : Int)] (by simp) W1 (HE.out.on hb2) (by simp only [catL, List.flatMap_cons, List.flatMap_nil, List.length_append, itoaB_list]; simp; omega) (Nat.le_trans hBw hb2.size) hr1
  have HB2 : Hid (BK B b w W1) := BK.of hb2 hBw
  have HRW : Hid (W1.heap[r4]? = some (.cells #[.int .i64 5, .string ⟨#[]⟩, .int .i64 0, .slice P m c] 24)) := by rw [hW1]; exact keep_row (keep_row HROW.out hb1) ((Below.refl _ _).alloc (Nat.le_refl _) _)
  clear hb1 hb2 hr1
  go_wp2_with fail
  rw [← hW1]
  clear hW1
  refine (show Calls _ _ _ _ _ from HLN.out).mono ?_
  rintro e w2 ⟨rfl, he2, hbk2⟩
  have HE2 : Hid (EnAt B b 3 (l ++ hh) w2) := by
    have e1 : l ++ catL [⟨#[42]⟩, itoaB (m : Int)] ++ [13, 10] = l ++ hh := by rw [← hhd]; simp [catL, itoaB_list]
    show EnAt _ _ _ _ _
    rw [← e1]; exact he2
  have HBK2 : Hid (BK B b w w2) := HB2.out.trans hbk2
  have hrw2 := hbk2.kept _ _ _ _ HRW.out hrb (by decide)
  obtain ⟨z0, z1, z2, z3, zf⟩ := prow4 hrw2
  clear he2 hbk2 hrw2
  go_wp2
  clear z0 z1 z2 z3 zf
  go_loopw [47] (fun ci wr => ∃ i : Nat, (i ≤ m ∧ EnAt B b 3 (l ++ hh ++ List.flatMap (enc k) (ts.take i)) wr ∧ BK B b w wr) ∧ ci = .int .i64 (i : Int)) (fun ci _ => m - (intOf ci).toNat)
  case atStart => exact ⟨0, ⟨Nat.zero_le _, by simpa using HE2.out, HBK2.out⟩, rfl⟩
  case round =>
    obtain ⟨i, ⟨hi, hen, hbk⟩, rfl⟩ := hrel
    have HEN : Hid (EnAt B b 3 (l ++ hh ++ List.flatMap (enc k) (ts.take i)) wr) := hen
    have HBK : Hid (BK B b w wr) := hbk
    clear hen hbk
    by_cases hlt : i < m
    · have hix : i < ts.length := by rw [HM.out]; exact hlt
      have hT2 : RpB (fun g => g < B) k (RpL (fun g => g < B) k wr) wr (.slice P m c) ts := HT.out.keep (fun g hg hl => ⟨hg, HBK.out.bel.block g hg⟩) (fun v t hh => hh.keep (fun g hg hl => ⟨hg, HBK.out.bel.block g hg⟩))
      obtain ⟨g, o, l2, hP, d0, d1, d2, d3, d4⟩ := elist_cell hT2 i hix
      have hfl := HFL.out i hix
      have hsn := HSN.out i hix
      obtain ⟨X, hX⟩ : ∃ X, ts[i] = X := ⟨_, rfl⟩
      have hxm : X ∈ ts := by rw [← hX]; exact List.getElem_mem hix
      rw [hX] at d0 d1 d2 d4 hfl hsn
      obtain ⟨LP, lc, hl2⟩ := d4.form
      subst hl2
      subst hP
      obtain ⟨XL, hXL⟩ : ∃ XL, X.list.length = XL := ⟨_, rfl⟩
      obtain ⟨XT, hXT⟩ : ∃ XT, strB X.text = XT := ⟨_, rfl⟩
      rw [hXL] at d3 d4
      rw [hXT] at d1
      have hz0 : (0 : Int) ≤ (i : Int) := by omega
      have hz1 : (i : Int) < (m : Int) := by omega
      obtain ⟨W4, hW4⟩ : ∃ W, W = wr.alloc (.cells #[.int .i64 X.kind, .string XT, .int .i64 X.n, .slice LP XL lc] 24) := ⟨_, rfl⟩
      have hb4 : Below wr.heap.size wr W4 := by rw [hW4]; exact (Below.refl _ _).alloc (Nat.le_refl _) _
      obtain ⟨pb, hpb⟩ : ∃ r, wr.heap.size = r := ⟨_, rfl⟩
      have hr4 : W4.heap[pb]? = some (.cells #[.int .i64 X.kind, .string XT, .int .i64 X.n, .slice LP XL lc] 24) := by rw [hW4, ← hpb]; exact one_alloc _ _
      have HPB : Hid (wr.heap.size = pb) := hpb
      have hBwr : B ≤ wr.heap.size := Nat.le_trans hBw HBK.out.size
      have HB4 : Hid (BK B b w W4) := HBK.out.trans (BK.of hb4 hBwr)
      have HCC : Hid (Calls Tryz.prog 14 #[.pointer (some ⟨b, 0, none⟩), .agg #[.int .i64 X.kind, .string XT, .int .i64 X.n, .slice LP XL lc], .int .i64 (D + 1)] W4 fun e w' => e = .returned (.bool true) ∧ EnAt B b 3 (l ++ hh ++ List.flatMap (enc k) (ts.take i) ++ enc k X) w' ∧ BK B b W4 w') := by
        have h9 := HIH.out X hxm (.slice LP XL lc) _ W4 HB4.out.bel (Nat.le_trans hBwr hb4.size) (HEN.out.on hb4) (by have := HLEN.out; simp only [List.length_append] at this ⊢; omega) (d4.on hb4)
        rw [hXT] at h9
        exact h9
      have HSX : Hid _ := hsn
      obtain ⟨y0, y1, y2, y3, yf⟩ := prow4 hr4
      clear hX hix hxm hT2 d4 hb4 hXL hXT hfl hsn hpb hr4
      go_upto_region 22 with fail
      rw [← hW4, HPB.out]
      clear hW4 d0 d1 d2 d3
      go_wp2_with fail
      refine (show Calls _ _ _ _ _ from HCC.out).mono ?_
      rintro e w5 ⟨rfl, he5, hbk5⟩
      have HE5 : Hid (EnAt B b 3 (l ++ hh ++ List.flatMap (enc k) (ts.take (i + 1))) w5) := by
        show EnAt _ _ _ _ _
        rw [HSX.out, ← List.append_assoc]; exact he5
      have HB5 : Hid (BK B b w w5) := HB4.out.trans hbk5
      clear he5 hbk5 y0 y1 y2 y3 yf
      go_wp2
      go_roundw
      case rel => exact ⟨i + 1, ⟨hlt, HE5.out, HB5.out⟩, rfl⟩
      case measure => simp [intOf]; omega
    · have hin : i = m := by omega
      subst hin
      have etk : ts.take i = ts := List.take_of_length_le (by rw [HM.out]; exact Nat.le_refl _)
      rw [etk] at HEN
      clear etk
      go_wp2
      go_returns
      exact ⟨rfl, by rw [← List.append_assoc]; exact HEN.out, HBK.out⟩
set_option maxRecDepth 20000 in
set_option maxHeartbeats 8000000 in
theorem elist_6 (k B b : Nat) (D : Int) (l : List UInt8) (lv : Value) (ts : List (Rn (Rp k))) (hev : ts.length % 2 = 0) (hn : ts.length ≤ 1073741824)
    (hD0 : 0 ≤ D) (hD : D ≤ 31) (w : World) (h : EnAt B b 3 l w) (hlen : l.length + (37 :: (Lib.itoa (((ts.length / 2) : Nat) : Int) ++ [13, 10]) ++ List.flatMap (enc k) ts).length ≤ 140737488355000) (hBw : B ≤ w.heap.size) (hL : ∀ W, Below B w W → Laid W) (hT : RpB (fun g => g < B) k (RpL (fun g => g < B) k w) w lv ts)
    (IH : ∀ X ∈ ts, ∀ (v : Value) (l' : List UInt8) (W : World), Below B w W → B ≤ W.heap.size → EnAt B b 3 l' W → l'.length + (enc k X).length ≤ 140737488355000 → RpL (fun g => g < B) k W v X.list → Calls Tryz.prog 14 #[.pointer (some ⟨b, 0, none⟩), .agg #[.int .i64 X.kind, .string (strB X.text), .int .i64 X.n, v], .int .i64 (D + 1)] W fun e w' => e = .returned (.bool true) ∧ EnAt B b 3 (l' ++ enc k X) w' ∧ BK B b W w') :
    Calls Tryz.prog 29 #[.pointer (some ⟨b, 0, none⟩), .agg #[.int .i64 6, .string ⟨#[]⟩, .int .i64 0, lv], .int .i64 D] w fun e w' => e = .returned (.bool true) ∧ EnAt B b 3 (l ++ (37 :: (Lib.itoa (((ts.length / 2) : Nat) : Int) ++ [13, 10]) ++ List.flatMap (enc k) ts)) w' ∧ BK B b w w' := by
  obtain ⟨P, c, rfl⟩ : ∃ P c, lv = .slice P ts.length c := by obtain ⟨P, c, e, _⟩ := hT; exact ⟨P, c, e⟩
  obtain ⟨m, hm⟩ : ∃ m, ts.length = m := ⟨_, rfl⟩
  have HM : Hid (ts.length = m) := hm
  have HT : Hid (RpB (fun g => g < B) k (RpL (fun g => g < B) k w) w (.slice P m c) ts) := hm ▸ hT
  rw [hm] at hev hn hlen ⊢
  obtain ⟨cnt, hcnt⟩ : ∃ cnt, cnt = m / 2 := ⟨_, rfl⟩
  rw [← hcnt] at hlen ⊢
  obtain ⟨hh, hhd⟩ : ∃ hh, 37 :: (Lib.itoa (cnt : Int) ++ [13, 10]) = hh := ⟨_, rfl⟩
  rw [hhd] at hlen ⊢
  have HE : Hid (EnAt B b 3 l w) := h
  have HL : Hid _ := hL
  have HIH : Hid _ := IH
  have HLEN : Hid _ := hlen
  obtain ⟨W0, hW0⟩ : ∃ W, W = w.alloc (.cells #[.int .i64 6, .string ⟨#[]⟩, .int .i64 0, .slice P m c] 24) := ⟨_, rfl⟩
  have hb0 : Below w.heap.size w W0 := by rw [hW0]; exact (Below.refl _ _).alloc (Nat.le_refl _) _
  obtain ⟨r4, hr4⟩ : ∃ r, w.heap.size = r := ⟨_, rfl⟩
  have hrow0 : W0.heap[r4]? = some (.cells #[.int .i64 6, .string ⟨#[]⟩, .int .i64 0, .slice P m c] 24) := by rw [hW0, ← hr4]; exact one_alloc _ _
  have HB0 : Hid (Below w.heap.size w W0) := hb0
  have HROW : Hid _ := hrow0
  have HR4 : Hid (w.heap.size = r4) := hr4
  have hrb : r4 ≠ b := by have := h.lt; omega
  have hpw : ∀ o, (w.alloc o).cell? ⟨b, 2, none⟩ = some (.int .i64 3) := fun o => cell_a1 h.proto o
  have hDn : (D == 32) = false := by simp; omega
  have hDw : IntKind.i64.wrap (D + 1) = D + 1 := by rw [IntKind.wrap_i64] <;> omega
  have hcb : cnt ≤ 1073741824 := by omega
  have HEI : Hid (Calls Tryz.prog 27 #[.pointer (some ⟨b, 0, none⟩), .string ⟨#[42]⟩, .string ⟨#[37]⟩] W0 fun e w' => e = .returned (.string ⟨#[37]⟩) ∧ w' = W0) := either_any B b 3 l ⟨#[42]⟩ ⟨#[37]⟩ W0 (h.on hb0)
  have HDG : Hid _ := digits_any (cnt : Int) (by omega) (by omega) W0 (hL W0 (hb0.mono hBw))
  have hil := Lib.itoa_length_le (cnt : Int) (by omega) (by omega)
  have hll : hh.length = (Lib.itoa (cnt : Int)).length + 3 := by rw [← hhd]; simp
  have hl0 : l.length ≤ 140737488355000 := by omega
  have HFL : Hid (∀ i (hi : i < ts.length), (List.flatMap (enc k) (ts.take i)).length + (enc k ts[i]).length ≤ (List.flatMap (enc k) ts).length) := fun i hi => by
    have e : ts = ts.take i ++ (ts[i] :: ts.drop (i + 1)) := by rw [← List.drop_eq_getElem_cons hi, List.take_append_drop]
    have e2 := congrArg (fun x => (List.flatMap (enc k) x).length) e
    simp only [List.flatMap_append, List.flatMap_cons, List.length_append] at e2
    omega
  have HSN : Hid (∀ i (hi : i < ts.length), List.flatMap (enc k) (ts.take (i + 1)) = List.flatMap (enc k) (ts.take i) ++ enc k ts[i]) := fun i hi => by
    rw [List.take_add_one, List.getElem?_eq_getElem hi, List.flatMap_append]; simp
  have hem : ((m : Int) % 2 != 0) = false := by
    have : (m : Int) % 2 = 0 := by omega
    rw [this]; rfl
  have hem2 : ((m : Int).tmod 2 != 0) = false := by rw [Int.tmod_eq_emod_of_nonneg (by omega)]; exact hem
  have hdm : (m : Int) / 2 = (cnt : Int) := by omega
  have hdm2 : (m : Int).tdiv 2 = (cnt : Int) := by rw [Int.tdiv_eq_ediv_of_nonneg (by omega)]; exact hdm
  clear h hT hL IH hb0 hr4 hrow0 hm hlen hev hcnt
  go_enter Tryz.func29, Tryz.ntmps29
  go_wp2_with fail
  rw [← hW0, HR4.out]
  clear hW0 hpw
  refine (show Calls _ _ _ _ _ from HEI.out).mono ?_
  rintro e w1 ⟨rfl, hw1⟩
  have hw1 := hw1.symm
  subst hw1
  go_wp2_with fail
  refine (show Calls _ _ _ _ _ from HDG.out).mono ?_
  rintro e w1 ⟨rfl, hb1⟩
  obtain ⟨W1, hW1⟩ : ∃ W, W = w1.alloc (.cells #[.string ⟨#[37]⟩, .string (itoaB (cnt : Int))] 9) := ⟨_, rfl⟩
  have hb2 : Below w.heap.size w W1 := by rw [hW1]; exact ((HB0.out.trans (hb1.mono HB0.out.size)).alloc (Nat.le_trans HB0.out.size hb1.size) _)
  have hr1 : W1.heap[w1.heap.size]? = some (.cells (strA [⟨#[37]⟩, itoaB (cnt : Int)]) 9) := by rw [hW1]; exact one_alloc _ _
  have HLN : Hid _ := line_out B b w1.heap.size 2 3 l [⟨#[37]⟩, itoaB (cnt : Int)] (by simp) W1 (HE.out.on hb2) (by simp only [catL, List.flatMap_cons, List.flatMap_nil, List.length_append, itoaB_list]; simp; omega) (Nat.le_trans hBw hb2.size) hr1
  have HB2 : Hid (BK B b w W1) := BK.of hb2 hBw
  have HRW : Hid (W1.heap[r4]? = some (.cells #[.int .i64 6, .string ⟨#[]⟩, .int .i64 0, .slice P m c] 24)) := by rw [hW1]; exact keep_row (keep_row HROW.out hb1) ((Below.refl _ _).alloc (Nat.le_refl _) _)
  clear hb1 hb2 hr1
  go_wp2_with fail
  rw [← hW1]
  clear hW1
  refine (show Calls _ _ _ _ _ from HLN.out).mono ?_
  rintro e w2 ⟨rfl, he2, hbk2⟩
  have HE2 : Hid (EnAt B b 3 (l ++ hh) w2) := by
    have e1 : l ++ catL [⟨#[37]⟩, itoaB (cnt : Int)] ++ [13, 10] = l ++ hh := by rw [← hhd]; simp [catL, itoaB_list]
    show EnAt _ _ _ _ _
    rw [← e1]; exact he2
  have HBK2 : Hid (BK B b w w2) := HB2.out.trans hbk2
  have hrw2 := hbk2.kept _ _ _ _ HRW.out hrb (by decide)
  obtain ⟨z0, z1, z2, z3, zf⟩ := prow4 hrw2
  clear he2 hbk2 hrw2
  go_wp2
  clear z0 z1 z2 z3 zf
  go_loopw [47] (fun ci wr => ∃ i : Nat, (i ≤ m ∧ EnAt B b 3 (l ++ hh ++ List.flatMap (enc k) (ts.take i)) wr ∧ BK B b w wr) ∧ ci = .int .i64 (i : Int)) (fun ci _ => m - (intOf ci).toNat)
  case atStart => exact ⟨0, ⟨Nat.zero_le _, by simpa using HE2.out, HBK2.out⟩, rfl⟩
  case round =>
    obtain ⟨i, ⟨hi, hen, hbk⟩, rfl⟩ := hrel
    have HEN : Hid (EnAt B b 3 (l ++ hh ++ List.flatMap (enc k) (ts.take i)) wr) := hen
    have HBK : Hid (BK B b w wr) := hbk
    clear hen hbk
    by_cases hlt : i < m
    · have hix : i < ts.length := by rw [HM.out]; exact hlt
      have hT2 : RpB (fun g => g < B) k (RpL (fun g => g < B) k wr) wr (.slice P m c) ts := HT.out.keep (fun g hg hl => ⟨hg, HBK.out.bel.block g hg⟩) (fun v t hh => hh.keep (fun g hg hl => ⟨hg, HBK.out.bel.block g hg⟩))
      obtain ⟨g, o, l2, hP, d0, d1, d2, d3, d4⟩ := elist_cell hT2 i hix
      have hfl := HFL.out i hix
      have hsn := HSN.out i hix
      obtain ⟨X, hX⟩ : ∃ X, ts[i] = X := ⟨_, rfl⟩
      have hxm : X ∈ ts := by rw [← hX]; exact List.getElem_mem hix
      rw [hX] at d0 d1 d2 d4 hfl hsn
      obtain ⟨LP, lc, hl2⟩ := d4.form
      subst hl2
      subst hP
      obtain ⟨XL, hXL⟩ : ∃ XL, X.list.length = XL := ⟨_, rfl⟩
      obtain ⟨XT, hXT⟩ : ∃ XT, strB X.text = XT := ⟨_, rfl⟩
      rw [hXL] at d3 d4
      rw [hXT] at d1
      have hz0 : (0 : Int) ≤ (i : Int) := by omega
      have hz1 : (i : Int) < (m : Int) := by omega
      obtain ⟨W4, hW4⟩ : ∃ W, W = wr.alloc (.cells #[.int .i64 X.kind, .string XT, .int .i64 X.n, .slice LP XL lc] 24) := ⟨_, rfl⟩
      have hb4 : Below wr.heap.size wr W4 := by rw [hW4]; exact (Below.refl _ _).alloc (Nat.le_refl _) _
      obtain ⟨pb, hpb⟩ : ∃ r, wr.heap.size = r := ⟨_, rfl⟩
      have hr4 : W4.heap[pb]? = some (.cells #[.int .i64 X.kind, .string XT, .int .i64 X.n, .slice LP XL lc] 24) := by rw [hW4, ← hpb]; exact one_alloc _ _
      have HPB : Hid (wr.heap.size = pb) := hpb
      have hBwr : B ≤ wr.heap.size := Nat.le_trans hBw HBK.out.size
      have HB4 : Hid (BK B b w W4) := HBK.out.trans (BK.of hb4 hBwr)
      have HCC : Hid (Calls Tryz.prog 14 #[.pointer (some ⟨b, 0, none⟩), .agg #[.int .i64 X.kind, .string XT, .int .i64 X.n, .slice LP XL lc], .int .i64 (D + 1)] W4 fun e w' => e = .returned (.bool true) ∧ EnAt B b 3 (l ++ hh ++ List.flatMap (enc k) (ts.take i) ++ enc k X) w' ∧ BK B b W4 w') := by
        have h9 := HIH.out X hxm (.slice LP XL lc) _ W4 HB4.out.bel (Nat.le_trans hBwr hb4.size) (HEN.out.on hb4) (by have := HLEN.out; simp only [List.length_append] at this ⊢; omega) (d4.on hb4)
        rw [hXT] at h9
        exact h9
      have HSX : Hid _ := hsn
      obtain ⟨y0, y1, y2, y3, yf⟩ := prow4 hr4
      clear hX hix hxm hT2 d4 hb4 hXL hXT hfl hsn hpb hr4
      go_upto_region 22 with fail
      rw [← hW4, HPB.out]
      clear hW4 d0 d1 d2 d3
      go_wp2_with fail
      refine (show Calls _ _ _ _ _ from HCC.out).mono ?_
      rintro e w5 ⟨rfl, he5, hbk5⟩
      have HE5 : Hid (EnAt B b 3 (l ++ hh ++ List.flatMap (enc k) (ts.take (i + 1))) w5) := by
        show EnAt _ _ _ _ _
        rw [HSX.out, ← List.append_assoc]; exact he5
      have HB5 : Hid (BK B b w w5) := HB4.out.trans hbk5
      clear he5 hbk5 y0 y1 y2 y3 yf
      go_wp2
      go_roundw
      case rel => exact ⟨i + 1, ⟨hlt, HE5.out, HB5.out⟩, rfl⟩
      case measure => simp [intOf]; omega
    · have hin : i = m := by omega
      subst hin
      have etk : ts.take i = ts := List.take_of_length_le (by rw [HM.out]; exact Nat.le_refl _)
      rw [etk] at HEN
      clear etk
      go_wp2
      go_returns
      exact ⟨rfl, by rw [← List.append_assoc]; exact HEN.out, HBK.out⟩
set_option maxRecDepth 20000 in
set_option maxHeartbeats 8000000 in
theorem elist_7 (k B b : Nat) (D : Int) (l : List UInt8) (lv : Value) (ts : List (Rn (Rp k))) (hn : ts.length ≤ 1073741824)
    (hD0 : 0 ≤ D) (hD : D ≤ 31) (w : World) (h : EnAt B b 3 l w) (hlen : l.length + (126 :: (Lib.itoa ((ts.length : Nat) : Int) ++ [13, 10]) ++ List.flatMap (enc k) ts).length ≤ 140737488355000) (hBw : B ≤ w.heap.size) (hL : ∀ W, Below B w W → Laid W) (hT : RpB (fun g => g < B) k (RpL (fun g => g < B) k w) w lv ts)
    (IH : ∀ X ∈ ts, ∀ (v : Value) (l' : List UInt8) (W : World), Below B w W → B ≤ W.heap.size → EnAt B b 3 l' W → l'.length + (enc k X).length ≤ 140737488355000 → RpL (fun g => g < B) k W v X.list → Calls Tryz.prog 14 #[.pointer (some ⟨b, 0, none⟩), .agg #[.int .i64 X.kind, .string (strB X.text), .int .i64 X.n, v], .int .i64 (D + 1)] W fun e w' => e = .returned (.bool true) ∧ EnAt B b 3 (l' ++ enc k X) w' ∧ BK B b W w') :
    Calls Tryz.prog 29 #[.pointer (some ⟨b, 0, none⟩), .agg #[.int .i64 7, .string ⟨#[]⟩, .int .i64 0, lv], .int .i64 D] w fun e w' => e = .returned (.bool true) ∧ EnAt B b 3 (l ++ (126 :: (Lib.itoa ((ts.length : Nat) : Int) ++ [13, 10]) ++ List.flatMap (enc k) ts)) w' ∧ BK B b w w' := by
  obtain ⟨P, c, rfl⟩ : ∃ P c, lv = .slice P ts.length c := by obtain ⟨P, c, e, _⟩ := hT; exact ⟨P, c, e⟩
  obtain ⟨m, hm⟩ : ∃ m, ts.length = m := ⟨_, rfl⟩
  have HM : Hid (ts.length = m) := hm
  have HT : Hid (RpB (fun g => g < B) k (RpL (fun g => g < B) k w) w (.slice P m c) ts) := hm ▸ hT
  rw [hm] at hn hlen ⊢
  obtain ⟨cnt, hcnt⟩ : ∃ cnt, cnt = m := ⟨_, rfl⟩
  rw [← hcnt] at hlen ⊢
  obtain ⟨hh, hhd⟩ : ∃ hh, 126 :: (Lib.itoa (cnt : Int) ++ [13, 10]) = hh := ⟨_, rfl⟩
  rw [hhd] at hlen ⊢
  have HE : Hid (EnAt B b 3 l w) := h
  have HL : Hid _ := hL
  have HIH : Hid _ := IH
  have HLEN : Hid _ := hlen
  obtain ⟨W0, hW0⟩ : ∃ W, W = w.alloc (.cells #[.int .i64 7, .string ⟨#[]⟩, .int .i64 0, .slice P m c] 24) := ⟨_, rfl⟩
  have hb0 : Below w.heap.size w W0 := by rw [hW0]; exact (Below.refl _ _).alloc (Nat.le_refl _) _
  obtain ⟨r4, hr4⟩ : ∃ r, w.heap.size = r := ⟨_, rfl⟩
  have hrow0 : W0.heap[r4]? = some (.cells #[.int .i64 7, .string ⟨#[]⟩, .int .i64 0, .slice P m c] 24) := by rw [hW0, ← hr4]; exact one_alloc _ _
  have HB0 : Hid (Below w.heap.size w W0) := hb0
  have HROW : Hid _ := hrow0
  have HR4 : Hid (w.heap.size = r4) := hr4
  have hrb : r4 ≠ b := by have := h.lt; omega
  have hpw : ∀ o, (w.alloc o).cell? ⟨b, 2, none⟩ = some (.int .i64 3) := fun o => cell_a1 h.proto o
  have hDn : (D == 32) = false := by simp; omega
  have hDw : IntKind.i64.wrap (D + 1) = D + 1 := by rw [IntKind.wrap_i64] <;> omega
  have hcb : cnt ≤ 1073741824 := by omega
  have HEI : Hid (Calls Tryz.prog 27 #[.pointer (some ⟨b, 0, none⟩), .string ⟨#[42]⟩, .string ⟨#[126]⟩] W0 fun e w' => e = .returned (.string ⟨#[126]⟩) ∧ w' = W0) := either_any B b 3 l ⟨#[42]⟩ ⟨#[126]⟩ W0 (h.on hb0)
  have HDG : Hid _ := digits_any (cnt : Int) (by omega) (by omega) W0 (hL W0 (hb0.mono hBw))
  have hil := Lib.itoa_length_le (cnt : Int) (by omega) (by omega)
  have hll : hh.length = (Lib.itoa (cnt : Int)).length + 3 := by rw [← hhd]; simp
  have hl0 : l.length ≤ 140737488355000 := by omega
  have HFL : Hid (∀ i (hi : i < ts.length), (List.flatMap (enc k) (ts.take i)).length + (enc k ts[i]).length ≤ (List.flatMap (enc k) ts).length) := fun i hi => by
    have e : ts = ts.take i ++ (ts[i] :: ts.drop (i + 1)) := by rw [← List.drop_eq_getElem_cons hi, List.take_append_drop]
    have e2 := congrArg (fun x => (List.flatMap (enc k) x).length) e
    simp only [List.flatMap_append, List.flatMap_cons, List.length_append] at e2
    omega
  have HSN : Hid (∀ i (hi : i < ts.length), List.flatMap (enc k) (ts.take (i + 1)) = List.flatMap (enc k) (ts.take i) ++ enc k ts[i]) := fun i hi => by
    rw [List.take_add_one, List.getElem?_eq_getElem hi, List.flatMap_append]; simp
  have hcm : m = cnt := hcnt.symm
  clear h hT hL IH hb0 hr4 hrow0 hm hlen hcnt
  subst hcm
  go_enter Tryz.func29, Tryz.ntmps29
  go_wp2_with fail
  rw [← hW0, HR4.out]
  clear hW0 hpw
  refine (show Calls _ _ _ _ _ from HEI.out).mono ?_
  rintro e w1 ⟨rfl, hw1⟩
  have hw1 := hw1.symm
  subst hw1
  go_wp2_with fail
  refine (show Calls _ _ _ _ _ from HDG.out).mono ?_
  rintro e w1 ⟨rfl, hb1⟩
  obtain ⟨W1, hW1⟩ : ∃ W, W = w1.alloc (.cells #[.string ⟨#[126]⟩, .string (itoaB (m : Int))] 9) := ⟨_, rfl⟩
  have hb2 : Below w.heap.size w W1 := by rw [hW1]; exact ((HB0.out.trans (hb1.mono HB0.out.size)).alloc (Nat.le_trans HB0.out.size hb1.size) _)
  have hr1 : W1.heap[w1.heap.size]? = some (.cells (strA [⟨#[126]⟩, itoaB (m : Int)]) 9) := by rw [hW1]; exact one_alloc _ _
  have HLN : Hid _ := line_out B b w1.heap.size 2 3 l [⟨#[126]⟩, itoaB (m : Int)] (by simp) W1 (HE.out.on hb2) (by simp only [catL, List.flatMap_cons, List.flatMap_nil, List.length_append, itoaB_list]; simp; omega) (Nat.le_trans hBw hb2.size) hr1
  have HB2 : Hid (BK B b w W1) := BK.of hb2 hBw
  have HRW : Hid (W1.heap[r4]? = some (.cells #[.int .i64 7, .string ⟨#[]⟩, .int .i64 0, .slice P m c] 24)) := by rw [hW1]; exact keep_row (keep_row HROW.out hb1) ((Below.refl _ _).alloc (Nat.le_refl _) _)
  clear hb1 hb2 hr1
  go_wp2_with fail
  rw [← hW1]
  clear hW1
  refine (show Calls _ _ _ _ _ from HLN.out).mono ?_
  rintro e w2 ⟨rfl, he2, hbk2⟩
  have HE2 : Hid (EnAt B b 3 (l ++ hh) w2) := by
    have e1 : l ++ catL [⟨#[126]⟩, itoaB (m : Int)] ++ [13, 10] = l ++ hh := by rw [← hhd]; simp [catL, itoaB_list]
    show EnAt _ _ _ _ _
    rw [← e1]; exact he2
  have HBK2 : Hid (BK B b w w2) := HB2.out.trans hbk2
  have hrw2 := hbk2.kept _ _ _ _ HRW.out hrb (by decide)
  obtain ⟨z0, z1, z2, z3, zf⟩ := prow4 hrw2
  clear he2 hbk2 hrw2
  go_wp2
  clear z0 z1 z2 z3 zf
  go_loopw [47] (fun ci wr => ∃ i : Nat, (i ≤ m ∧ EnAt B b 3 (l ++ hh ++ List.flatMap (enc k) (ts.take i)) wr ∧ BK B b w wr) ∧ ci = .int .i64 (i : Int)) (fun ci _ => m - (intOf ci).toNat)
  case atStart => exact ⟨0, ⟨Nat.zero_le _, by simpa using HE2.out, HBK2.out⟩, rfl⟩
  case round =>
    obtain ⟨i, ⟨hi, hen, hbk⟩, rfl⟩ := hrel
    have HEN : Hid (EnAt B b 3 (l ++ hh ++ List.flatMap (enc k) (ts.take i)) wr) := hen
    have HBK : Hid (BK B b w wr) := hbk
    clear hen hbk
    by_cases hlt : i < m
    · have hix : i < ts.length := by rw [HM.out]; exact hlt
      have hT2 : RpB (fun g => g < B) k (RpL (fun g => g < B) k wr) wr (.slice P m c) ts := HT.out.keep (fun g hg hl => ⟨hg, HBK.out.bel.block g hg⟩) (fun v t hh => hh.keep (fun g hg hl => ⟨hg, HBK.out.bel.block g hg⟩))
      obtain ⟨g, o, l2, hP, d0, d1, d2, d3, d4⟩ := elist_cell hT2 i hix
      have hfl := HFL.out i hix
      have hsn := HSN.out i hix
      obtain ⟨X, hX⟩ : ∃ X, ts[i] = X := ⟨_, rfl⟩
      have hxm : X ∈ ts := by rw [← hX]; exact List.getElem_mem hix
      rw [hX] at d0 d1 d2 d4 hfl hsn
      obtain ⟨LP, lc, hl2⟩ := d4.form
      subst hl2
      subst hP
      obtain ⟨XL, hXL⟩ : ∃ XL, X.list.length = XL := ⟨_, rfl⟩
      obtain ⟨XT, hXT⟩ : ∃ XT, strB X.text = XT := ⟨_, rfl⟩
      rw [hXL] at d3 d4
      rw [hXT] at d1
      have hz0 : (0 : Int) ≤ (i : Int) := by omega
      have hz1 : (i : Int) < (m : Int) := by omega
      obtain ⟨W4, hW4⟩ : ∃ W, W = wr.alloc (.cells #[.int .i64 X.kind, .string XT, .int .i64 X.n, .slice LP XL lc] 24) := ⟨_, rfl⟩
      have hb4 : Below wr.heap.size wr W4 := by rw [hW4]; exact (Below.refl _ _).alloc (Nat.le_refl _) _
      obtain ⟨pb, hpb⟩ : ∃ r, wr.heap.size = r := ⟨_, rfl⟩
      have hr4 : W4.heap[pb]? = some (.cells #[.int .i64 X.kind, .string XT, .int .i64 X.n, .slice LP XL lc] 24) := by rw [hW4, ← hpb]; exact one_alloc _ _
      have HPB : Hid (wr.heap.size = pb) := hpb
      have hBwr : B ≤ wr.heap.size := Nat.le_trans hBw HBK.out.size
      have HB4 : Hid (BK B b w W4) := HBK.out.trans (BK.of hb4 hBwr)
      have HCC : Hid (Calls Tryz.prog 14 #[.pointer (some ⟨b, 0, none⟩), .agg #[.int .i64 X.kind, .string XT, .int .i64 X.n, .slice LP XL lc], .int .i64 (D + 1)] W4 fun e w' => e = .returned (.bool true) ∧ EnAt B b 3 (l ++ hh ++ List.flatMap (enc k) (ts.take i) ++ enc k X) w' ∧ BK B b W4 w') := by
        have h9 := HIH.out X hxm (.slice LP XL lc) _ W4 HB4.out.bel (Nat.le_trans hBwr hb4.size) (HEN.out.on hb4) (by have := HLEN.out; simp only [List.length_append] at this ⊢; omega) (d4.on hb4)
        rw [hXT] at h9
        exact h9
      have HSX : Hid _ := hsn
      obtain ⟨y0, y1, y2, y3, yf⟩ := prow4 hr4
      clear hX hix hxm hT2 d4 hb4 hXL hXT hfl hsn hpb hr4
      go_upto_region 22 with fail
      rw [← hW4, HPB.out]
      clear hW4 d0 d1 d2 d3
      go_wp2_with fail
      refine (show Calls _ _ _ _ _ from HCC.out).mono ?_
      rintro e w5 ⟨rfl, he5, hbk5⟩
      have HE5 : Hid (EnAt B b 3 (l ++ hh ++ List.flatMap (enc k) (ts.take (i + 1))) w5) := by
        show EnAt _ _ _ _ _
        rw [HSX.out, ← List.append_assoc]; exact he5
      have HB5 : Hid (BK B b w w5) := HB4.out.trans hbk5
      clear he5 hbk5 y0 y1 y2 y3 yf
      go_wp2
      go_roundw
      case rel => exact ⟨i + 1, ⟨hlt, HE5.out, HB5.out⟩, rfl⟩
      case measure => simp [intOf]; omega
    · have hin : i = m := by omega
      subst hin
      have etk : ts.take i = ts := List.take_of_length_le (by rw [HM.out]; exact Nat.le_refl _)
      rw [etk] at HEN
      clear etk
      go_wp2
      go_returns
      exact ⟨rfl, by rw [← List.append_assoc]; exact HEN.out, HBK.out⟩
set_option maxRecDepth 20000 in
set_option maxHeartbeats 8000000 in
theorem elist_8 (k B b : Nat) (D : Int) (l : List UInt8) (lv : Value) (ts : List (Rn (Rp k))) (hn : ts.length ≤ 1073741824)
    (hD0 : 0 ≤ D) (hD : D ≤ 31) (w : World) (h : EnAt B b 3 l w) (hlen : l.length + (62 :: (Lib.itoa ((ts.length : Nat) : Int) ++ [13, 10]) ++ List.flatMap (enc k) ts).length ≤ 140737488355000) (hBw : B ≤ w.heap.size) (hL : ∀ W, Below B w W → Laid W) (hT : RpB (fun g => g < B) k (RpL (fun g => g < B) k w) w lv ts)
    (IH : ∀ X ∈ ts, ∀ (v : Value) (l' : List UInt8) (W : World), Below B w W → B ≤ W.heap.size → EnAt B b 3 l' W → l'.length + (enc k X).length ≤ 140737488355000 → RpL (fun g => g < B) k W v X.list → Calls Tryz.prog 14 #[.pointer (some ⟨b, 0, none⟩), .agg #[.int .i64 X.kind, .string (strB X.text), .int .i64 X.n, v], .int .i64 (D + 1)] W fun e w' => e = .returned (.bool true) ∧ EnAt B b 3 (l' ++ enc k X) w' ∧ BK B b W w') :
    Calls Tryz.prog 29 #[.pointer (some ⟨b, 0, none⟩), .agg #[.int .i64 8, .string ⟨#[]⟩, .int .i64 0, lv], .int .i64 D] w fun e w' => e = .returned (.bool true) ∧ EnAt B b 3 (l ++ (62 :: (Lib.itoa ((ts.length : Nat) : Int) ++ [13, 10]) ++ List.flatMap (enc k) ts)) w' ∧ BK B b w w' := by
  obtain ⟨P, c, rfl⟩ : ∃ P c, lv = .slice P ts.length c := by obtain ⟨P, c, e, _⟩ := hT; exact ⟨P, c, e⟩
  obtain ⟨m, hm⟩ : ∃ m, ts.length = m := ⟨_, rfl⟩
  have HM : Hid (ts.length = m) := hm
  have HT : Hid (RpB (fun g => g < B) k (RpL (fun g => g < B) k w) w (.slice P m c) ts) := hm ▸ hT
  rw [hm] at hn hlen ⊢
  obtain ⟨cnt, hcnt⟩ : ∃ cnt, cnt = m := ⟨_, rfl⟩
  rw [← hcnt] at hlen ⊢
  obtain ⟨hh, hhd⟩ : ∃ hh, 62 :: (Lib.itoa (cnt : Int) ++ [13, 10]) = hh := ⟨_, rfl⟩
  rw [hhd] at hlen ⊢
  have HE : Hid (EnAt B b 3 l w) := h
  have HL : Hid _ := hL
  have HIH : Hid _ := IH
  have HLEN : Hid _ := hlen
  obtain ⟨W0, hW0⟩ : ∃ W, W = w.alloc (.cells #[.int .i64 8, .string ⟨#[]⟩, .int .i64 0, .slice P m c] 24) := ⟨_, rfl⟩
  have hb0 : Below w.heap.size w W0 := by rw [hW0]; exact (Below.refl _ _).alloc (Nat.le_refl _) _
  obtain ⟨r4, hr4⟩ : ∃ r, w.heap.size = r := ⟨_, rfl⟩
  have hrow0 : W0.heap[r4]? = some (.cells #[.int .i64 8, .string ⟨#[]⟩, .int .i64 0, .slice P m c] 24) := by rw [hW0, ← hr4]; exact one_alloc _ _
  have HB0 : Hid (Below w.heap.size w W0) := hb0
  have HROW : Hid _ := hrow0
  have HR4 : Hid (w.heap.size = r4) := hr4
  have hrb : r4 ≠ b := by have := h.lt; omega
  have hpw : ∀ o, (w.alloc o).cell? ⟨b, 2, none⟩ = some (.int .i64 3) := fun o => cell_a1 h.proto o
  have hDn : (D == 32) = false := by simp; omega
  have hDw : IntKind.i64.wrap (D + 1) = D + 1 := by rw [IntKind.wrap_i64] <;> omega
  have hcb : cnt ≤ 1073741824 := by omega
  have HEI : Hid (Calls Tryz.prog 27 #[.pointer (some ⟨b, 0, none⟩), .string ⟨#[42]⟩, .string ⟨#[62]⟩] W0 fun e w' => e = .returned (.string ⟨#[62]⟩) ∧ w' = W0) := either_any B b 3 l ⟨#[42]⟩ ⟨#[62]⟩ W0 (h.on hb0)
  have HDG : Hid _ := digits_any (cnt : Int) (by omega) (by omega) W0 (hL W0 (hb0.mono hBw))
  have hil := Lib.itoa_length_le (cnt : Int) (by omega) (by omega)
  have hll : hh.length = (Lib.itoa (cnt : Int)).length + 3 := by rw [← hhd]; simp
  have hl0 : l.length ≤ 140737488355000 := by omega
  have HFL : Hid (∀ i (hi : i < ts.length), (List.flatMap (enc k) (ts.take i)).length + (enc k ts[i]).length ≤ (List.flatMap (enc k) ts).length) := fun i hi => by
    have e : ts = ts.take i ++ (ts[i] :: ts.drop (i + 1)) := by rw [← List.drop_eq_getElem_cons hi, List.take_append_drop]
    have e2 := congrArg (fun x => (List.flatMap (enc k) x).length) e
    simp only [List.flatMap_append, List.flatMap_cons, List.length_append] at e2
    omega
  have HSN : Hid (∀ i (hi : i < ts.length), List.flatMap (enc k) (ts.take (i + 1)) = List.flatMap (enc k) (ts.take i) ++ enc k ts[i]) := fun i hi => by
    rw [List.take_add_one, List.getElem?_eq_getElem hi, List.flatMap_append]; simp
  have hcm : m = cnt := hcnt.symm
  clear h hT hL IH hb0 hr4 hrow0 hm hlen hcnt
  subst hcm
  go_enter Tryz.func29, Tryz.ntmps29
  go_wp2_with fail
  rw [← hW0, HR4.out]
  clear hW0 hpw
  refine (show Calls _ _ _ _ _ from HEI.out).mono ?_
  rintro e w1 ⟨rfl, hw1⟩
  have hw1 := hw1.symm
  subst hw1
  go_wp2_with fail
  refine (show Calls _ _ _ _ _ from HDG.out).mono ?_
  rintro e w1 ⟨rfl, hb1⟩
  obtain ⟨W1, hW1⟩ : ∃ W, W = w1.alloc (.cells #[.string ⟨#[62]⟩, .string (itoaB (m : Int))] 9) := ⟨_, rfl⟩
  have hb2 : Below w.heap.size w W1 := by rw [hW1]; exact ((HB0.out.trans (hb1.mono HB0.out.size)).alloc (Nat.le_trans HB0.out.size hb1.size) _)
  have hr1 : W1.heap[w1.heap.size]? = some (.cells (strA [⟨#[62]⟩, itoaB (m : Int)]) 9) := by rw [hW1]; exact one_alloc _ _
  have HLN : Hid _ := line_out B b w1.heap.size 2 3 l [⟨#[62]⟩, itoaB (m : Int)] (by simp) W1 (HE.out.on hb2) (by simp only [catL, List.flatMap_cons, List.flatMap_nil, List.length_append, itoaB_list]; simp; omega) (Nat.le_trans hBw hb2.size) hr1
  have HB2 : Hid (BK B b w W1) := BK.of hb2 hBw
  have HRW : Hid (W1.heap[r4]? = some (.cells #[.int .i64 8, .string ⟨#[]⟩, .int .i64 0, .slice P m c] 24)) := by rw [hW1]; exact keep_row (keep_row HROW.out hb1) ((Below.refl _ _).alloc (Nat.le_refl _) _)
  clear hb1 hb2 hr1
  go_wp2_with fail
  rw [← hW1]
  clear hW1
  refine (show Calls _ _ _ _ _ from HLN.out).mono ?_
  rintro e w2 ⟨rfl, he2, hbk2⟩
  have HE2 : Hid (EnAt B b 3 (l ++ hh) w2) := by
    have e1 : l ++ catL [⟨#[62]⟩, itoaB (m : Int)] ++ [13, 10] = l ++ hh := by rw [← hhd]; simp [catL, itoaB_list]
    show EnAt _ _ _ _ _
    rw [← e1]; exact he2
  have HBK2 : Hid (BK B b w w2) := HB2.out.trans hbk2
  have hrw2 := hbk2.kept _ _ _ _ HRW.out hrb (by decide)
  obtain ⟨z0, z1, z2, z3, zf⟩ := prow4 hrw2
  clear he2 hbk2 hrw2
  go_wp2
  clear z0 z1 z2 z3 zf
  go_loopw [47] (fun ci wr => ∃ i : Nat, (i ≤ m ∧ EnAt B b 3 (l ++ hh ++ List.flatMap (enc k) (ts.take i)) wr ∧ BK B b w wr) ∧ ci = .int .i64 (i : Int)) (fun ci _ => m - (intOf ci).toNat)
  case atStart => exact ⟨0, ⟨Nat.zero_le _, by simpa using HE2.out, HBK2.out⟩, rfl⟩
  case round =>
    obtain ⟨i, ⟨hi, hen, hbk⟩, rfl⟩ := hrel
    have HEN : Hid (EnAt B b 3 (l ++ hh ++ List.flatMap (enc k) (ts.take i)) wr) := hen
    have HBK : Hid (BK B b w wr) := hbk
    clear hen hbk
    by_cases hlt : i < m
    · have hix : i < ts.length := by rw [HM.out]; exact hlt
      have hT2 : RpB (fun g => g < B) k (RpL (fun g => g < B) k wr) wr (.slice P m c) ts := HT.out.keep (fun g hg hl => ⟨hg, HBK.out.bel.block g hg⟩) (fun v t hh => hh.keep (fun g hg hl => ⟨hg, HBK.out.bel.block g hg⟩))
      obtain ⟨g, o, l2, hP, d0, d1, d2, d3, d4⟩ := elist_cell hT2 i hix
      have hfl := HFL.out i hix
      have hsn := HSN.out i hix
      obtain ⟨X, hX⟩ : ∃ X, ts[i] = X := ⟨_, rfl⟩
      have hxm : X ∈ ts := by rw [← hX]; exact List.getElem_mem hix
      rw [hX] at d0 d1 d2 d4 hfl hsn
      obtain ⟨LP, lc, hl2⟩ := d4.form
      subst hl2
      subst hP
      obtain ⟨XL, hXL⟩ : ∃ XL, X.list.length = XL := ⟨_, rfl⟩
      obtain ⟨XT, hXT⟩ : ∃ XT, strB X.text = XT := ⟨_, rfl⟩
      rw [hXL] at d3 d4
      rw [hXT] at d1
      have hz0 : (0 : Int) ≤ (i : Int) := by omega
      have hz1 : (i : Int) < (m : Int) := by omega
      obtain ⟨W4, hW4⟩ : ∃ W, W = wr.alloc (.cells #[.int .i64 X.kind, .string XT, .int .i64 X.n, .slice LP XL lc] 24) := ⟨_, rfl⟩
      have hb4 : Below wr.heap.size wr W4 := by rw [hW4]; exact (Below.refl _ _).alloc (Nat.le_refl _) _
      obtain ⟨pb, hpb⟩ : ∃ r, wr.heap.size = r := ⟨_, rfl⟩
      have hr4 : W4.heap[pb]? = some (.cells #[.int .i64 X.kind, .string XT, .int .i64 X.n, .slice LP XL lc] 24) := by rw [hW4, ← hpb]; exact one_alloc _ _
      have HPB : Hid (wr.heap.size = pb) := hpb
      have hBwr : B ≤ wr.heap.size := Nat.le_trans hBw HBK.out.size
      have HB4 : Hid (BK B b w W4) := HBK.out.trans (BK.of hb4 hBwr)
      have HCC : Hid (Calls Tryz.prog 14 #[.pointer (some ⟨b, 0, none⟩), .agg #[.int .i64 X.kind, .string XT, .int .i64 X.n, .slice LP XL lc], .int .i64 (D + 1)] W4 fun e w' => e = .returned (.bool true) ∧ EnAt B b 3 (l ++ hh ++ List.flatMap (enc k) (ts.take i) ++ enc k X) w' ∧ BK B b W4 w') := by
        have h9 := HIH.out X hxm (.slice LP XL lc) _ W4 HB4.out.bel (Nat.le_trans hBwr hb4.size) (HEN.out.on hb4) (by have := HLEN.out; simp only [List.length_append] at this ⊢; omega) (d4.on hb4)
        rw [hXT] at h9
        exact h9
      have HSX : Hid _ := hsn
      obtain ⟨y0, y1, y2, y3, yf⟩ := prow4 hr4
      clear hX hix hxm hT2 d4 hb4 hXL hXT hfl hsn hpb hr4
      go_upto_region 22 with fail
      rw [← hW4, HPB.out]
      clear hW4 d0 d1 d2 d3
      go_wp2_with fail
      refine (show Calls _ _ _ _ _ from HCC.out).mono ?_
      rintro e w5 ⟨rfl, he5, hbk5⟩
      have HE5 : Hid (EnAt B b 3 (l ++ hh ++ List.flatMap (enc k) (ts.take (i + 1))) w5) := by
        show EnAt _ _ _ _ _
        rw [HSX.out, ← List.append_assoc]; exact he5
      have HB5 : Hid (BK B b w w5) := HB4.out.trans hbk5
      clear he5 hbk5 y0 y1 y2 y3 yf
      go_wp2
      go_roundw
      case rel => exact ⟨i + 1, ⟨hlt, HE5.out, HB5.out⟩, rfl⟩
      case measure => simp [intOf]; omega
    · have hin : i = m := by omega
      subst hin
      have etk : ts.take i = ts := List.take_of_length_le (by rw [HM.out]; exact Nat.le_refl _)
      rw [etk] at HEN
      clear etk
      go_wp2
      go_returns
      exact ⟨rfl, by rw [← List.append_assoc]; exact HEN.out, HBK.out⟩
end Go.Proofs.YtkhimjdipggmjaaGreatDoor
