import Derived.Test.YtgiicfgekicfcaaGreatDoorEG
import Derived.Test.YtgiicfgekicfcaaGreatDoorEnE
import Derived.Test.YtgiicfgekicfcaaGreatDoorEJ
import Derived.Test.YtgiicfgekicfcaaGreatDoorBkD
import Derived.Test.YtgiicfgekicfcaaGreatDoorOS
namespace Go.Proofs.YtgiicfgekicfcaaGreatDoor
open Go.RowKit Vi
set_option linter.unusedVariables false
set_option linter.unusedSimpArgs false
set_option maxRecDepth 20000 in
set_option maxHeartbeats 8000000 in
theorem rlist2_5 (k B : Nat) (D n : Int) (s : ByteArray) (lv : Value) (ts : List (Rn (Rp k))) (f : Rn (Rp k) → Option By) (F : Rn (Rp k) → Nat) (hF : ∀ X ∈ ts, ∀ a, f X = some a → a.length ≤ F X) (hn : ts.length ≤ 1073741824)
    (hD0 : 1 ≤ D) (hD : D ≤ 32) (w : World) (hlen : 30 + (ts.map F).sum ≤ 70368744177000) (hBw : B ≤ w.heap.size) (hT : RpB (fun g => g < B) k (RpL (fun g => g < B) k w) w lv ts)
    (IH : ∀ X ∈ ts, ∀ (v : Value) (W : World), Below B w W → B ≤ W.heap.size → RpL (fun g => g < B) k W v X.list → Calls Tryz.prog 20 #[.agg #[.int .i64 X.kind, .string (strB X.text), .int .i64 X.n, v], .int .i64 2, .int .i64 (D + 1)] W fun e w' => EncIs (f X) W w' e) :
    Calls Tryz.prog 32 #[.agg #[.int .i64 5, .string s, .int .i64 n, lv], .bool false, .int .i64 D, .int .i64 2] w fun e w' => EncIs (behind (42 :: (Lib.itoa ((ts.length : Nat) : Int) ++ [13, 10])) (encAll f ts)) w w' e := by
  obtain ⟨P, c, rfl⟩ : ∃ P c, lv = .slice P ts.length c := by obtain ⟨P, c, e, _⟩ := hT; exact ⟨P, c, e⟩
  obtain ⟨m, hm⟩ : ∃ m, ts.length = m := ⟨_, rfl⟩
  have HM : Hid (ts.length = m) := hm
  have HT : Hid (RpB (fun g => g < B) k (RpL (fun g => g < B) k w) w (.slice P m c) ts) := hm ▸ hT
  rw [hm] at hn ⊢
  obtain ⟨cnt, hcnt⟩ : ∃ cnt, cnt = m := ⟨_, rfl⟩
  rw [← hcnt]
  obtain ⟨hh, hhd⟩ : ∃ hh, 42 :: (Lib.itoa (cnt : Int) ++ [13, 10]) = hh := ⟨_, rfl⟩
  rw [hhd]
  obtain ⟨OA, hOA⟩ : ∃ o, encAll f ts = o := ⟨_, rfl⟩
  rw [hOA]
  have HOA : Hid (encAll f ts = OA) := hOA
  have HIH : Hid _ := IH
  have HF : Hid (∀ X ∈ ts, ∀ a, f X = some a → a.length ≤ F X) := hF
  have HLEN : Hid (30 + (ts.map F).sum ≤ 70368744177000) := hlen
  obtain ⟨W0, hW0⟩ : ∃ W, W = w.alloc (.cells #[.int .i64 5, .string s, .int .i64 n, .slice P m c] 24) := ⟨_, rfl⟩
  have hb0 : Below w.heap.size w W0 := by rw [hW0]; exact (Below.refl _ _).alloc (Nat.le_refl _) _
  obtain ⟨r4, hr4⟩ : ∃ r, w.heap.size = r := ⟨_, rfl⟩
  have hrow0 : W0.heap[r4]? = some (.cells #[.int .i64 5, .string s, .int .i64 n, .slice P m c] 24) := by rw [hW0, ← hr4]; exact one_alloc _ _
  have HB0 : Hid (Below w.heap.size w W0) := hb0
  have HROW : Hid (W0.heap[r4]? = some (.cells #[.int .i64 5, .string s, .int .i64 n, .slice P m c] 24)) := hrow0
  have HR4 : Hid (w.heap.size = r4) := hr4
  obtain ⟨z0, z1, z2, z3, zf⟩ := prow4 hrow0
  have hDw : IntKind.i64.wrap (D + 1) = D + 1 := by rw [IntKind.wrap_i64] <;> omega
  have hDn : ¬ (32 < D) := by omega
  have hcb : cnt ≤ 1073741824 := by omega
  have hIs := itoaB_len (cnt : Int) (by omega) (by omega)
  obtain ⟨I, hI⟩ : ∃ I, itoaB (cnt : Int) = I := ⟨_, rfl⟩
  have HDG : Hid (Calls Tryz.prog 31 #[.int .i64 (cnt : Int)] W0 fun e w' => e = .returned (.string I) ∧ Below W0.heap.size W0 w') := hI ▸ refDigits_any (cnt : Int) (by omega) (by omega) W0
  have HV : Hid (((⟨#[42]⟩ : ByteArray) ++ I ++ ⟨#[13, 10]⟩).data.toList = hh) := by
    show _ = _
    rw [cat2, cat2, ← hI, itoaB_list, ← hhd]; simp
  rw [hI] at hIs
  have hil := Lib.itoa_length_le (cnt : Int) (by omega) (by omega)
  have HHL : Hid (hh.length ≤ 30) := by
    show _ ≤ _
    rw [← hhd]; simp only [List.length_cons, List.length_append, List.length_nil]; omega
  have HSN : Hid (∀ i (hi : i < ts.length), ((ts.take (i + 1)).map F).sum = ((ts.take i).map F).sum + F ts[i]) := fun i hi => sum_step ts F i hi
  have HST : Hid (∀ i, ((ts.take i).map F).sum ≤ (ts.map F).sum) := fun i => sum_take ts F i
  have hcm : m = cnt := hcnt.symm
  clear hT IH hb0 hr4 hrow0 hm hlen hcnt hOA hF hI hil hhd
  subst hcm
  go_enter Tryz.func32, Tryz.ntmps32
  go_upto_region 1 with fail
  rw [← hW0, HR4.out]
  clear hW0
  go_wp2_with fail
  refine (show Calls _ _ _ _ _ from HDG.out).mono ?_
  rintro e w1 ⟨rfl, hb1⟩
  have HB1 : Hid (Below W0.heap.size W0 w1) := hb1
  clear hb1 z0 z1 z2 z3 zf HDG
  go_wp2
  obtain ⟨X0, hX0⟩ : ∃ X, (⟨#[42]⟩ : ByteArray) ++ I ++ ⟨#[13, 10]⟩ = X := ⟨_, rfl⟩
  rw [hX0] at HV ⊢
  clear hX0
  go_loopw [12, 13] (fun cx ci wr => ∃ (i : Nat) (a : By) (x : ByteArray), (i ≤ m ∧ encAll f (ts.take i) = some a ∧ a.length ≤ ((ts.take i).map F).sum ∧ x.data.toList = hh ++ a ∧ Below W0.heap.size W0 wr) ∧ cx = .string x ∧ ci = .int .i64 (i : Int)) (fun _ ci _ => m - (intOf ci).toNat)
  case atStart => exact ⟨0, [], X0, ⟨Nat.zero_le _, rfl, Nat.zero_le _, by simpa using HV.out, HB1.out⟩, rfl, rfl⟩
  case round =>
    obtain ⟨i, a, x, ⟨hi, hea, hal, hxa, hbk⟩, rfl, rfl⟩ := hrel
    have HXA : Hid (x.data.toList = hh ++ a) := hxa
    have HBK : Hid (Below W0.heap.size W0 wr) := hbk
    have HBW : Hid (Below w.heap.size w wr) := HB0.out.trans (hbk.mono HB0.out.size)
    have HEA : Hid (encAll f (ts.take i) = some a) := hea
    have HAL : Hid (a.length ≤ ((ts.take i).map F).sum) := hal
    have hxs : x.size = hh.length + a.length := by rw [← list_len, hxa, List.length_append]
    have HXS : Hid (x.size = hh.length + a.length) := hxs
    obtain ⟨z0, z1, z2, z3, zf⟩ := prow4 (keep_row HROW.out HBK.out)
    clear hbk hea hal hxa hxs
    by_cases hlt : i < m
    · have hix : i < ts.length := by rw [HM.out]; exact hlt
      have hT2 : RpB (fun g => g < B) k (RpL (fun g => g < B) k wr) wr (.slice P m c) ts := HT.out.keep (fun g hg hl => ⟨hg, HBW.out.block g (Nat.lt_of_lt_of_le hg hBw)⟩) (fun v t hh => hh.keep (fun g hg hl => ⟨hg, HBW.out.block g (Nat.lt_of_lt_of_le hg hBw)⟩))
      obtain ⟨g, o, l2, hP, d0, d1, d2, d3, d4⟩ := elist_cell hT2 i hix
      have hsn := HSN.out i hix
      have hst := HST.out (i + 1)
      have hstp : ∀ b, f ts[i] = some b → encAll f (ts.take (i + 1)) = some (a ++ b) := fun b hb => encAll_step f ts i hix a b HEA.out hb
      have hnon : f ts[i] = none → encAll f ts = none := encAll_none f ts i hix
      obtain ⟨X, hX⟩ : ∃ X, ts[i] = X := ⟨_, rfl⟩
      have hxm : X ∈ ts := by rw [← hX]; exact List.getElem_mem hix
      rw [hX] at d0 d1 d2 d4 hsn hstp hnon
      have hfl := HF.out X hxm
      obtain ⟨LP, lc, hl2⟩ := d4.form
      subst hl2
      subst hP
      obtain ⟨XL, hXL⟩ : ∃ XL, X.list.length = XL := ⟨_, rfl⟩
      obtain ⟨XT, hXT⟩ : ∃ XT, strB X.text = XT := ⟨_, rfl⟩
      rw [hXL] at d3 d4
      rw [hXT] at d1
      have hz0 : (0 : Int) ≤ (i : Int) := by omega
      have hz1 : (i : Int) < (m : Int) := by omega
      have hBwr : B ≤ wr.heap.size := Nat.le_trans hBw HBW.out.size
      have HCC : Hid (Calls Tryz.prog 20 #[.agg #[.int .i64 X.kind, .string XT, .int .i64 X.n, .slice LP XL lc], .int .i64 2, .int .i64 (D + 1)] wr fun e w' => EncIs (f X) wr w' e) := by
        have h9 := HIH.out X hxm (.slice LP XL lc) wr (HBW.out.mono hBw) hBwr d4
        rw [hXT] at h9
        exact h9
      have HSN2 : Hid _ := hsn
      have HST2 : Hid (((ts.take (i + 1)).map F).sum ≤ (ts.map F).sum) := hst
      have HSTP : Hid (∀ b, f X = some b → encAll f (ts.take (i + 1)) = some (a ++ b)) := hstp
      have HNON : Hid (f X = none → encAll f ts = none) := hnon
      have HFL : Hid (∀ b, f X = some b → b.length ≤ F X) := hfl
      clear hX hix hxm hT2 d4 hXL hXT hfl hsn hst hstp hnon
      cases hfx : f X with
      | none =>
        rw [hfx] at HCC
        have HNO : Hid (OA = none) := by show _ = _; rw [← HOA.out]; exact HNON.out hfx
        clear hfx HNON HSTP HFL
        go_wp2_with fail
        refine (show Calls _ _ _ _ _ from HCC.out).mono ?_
        rintro e w5 ⟨rfl, hbk5⟩
        have HB5 : Hid (Below w.heap.size w w5) := HBW.out.trans (hbk5.mono HBW.out.size)
        clear hbk5 z0 z1 z2 z3 zf d0 d1 d2 d3
        go_wp2
        go_returns
        rw [HNO.out]
        exact ⟨rfl, HB5.out⟩
      | some q =>
        rw [hfx] at HCC
        have HQ1 : Hid (encAll f (ts.take (i + 1)) = some (a ++ q)) := HSTP.out q hfx
        have HQ2 : Hid ((a ++ q).length ≤ ((ts.take (i + 1)).map F).sum) := by
          show _ ≤ _
          have h1 := HFL.out q hfx
          have h2 := HSN2.out
          have h3 := HAL.out
          rw [List.length_append]; omega
        obtain ⟨Q, hQ⟩ : ∃ Q, strB q = Q := ⟨_, rfl⟩
        have hqs : Q.size = q.length := by rw [← hQ]; exact strB_size q
        have HQL : Hid (Q.data.toList = q) := by show _ = _; rw [← hQ]; exact strB_list q
        have hxq : x.size + Q.size ≤ 140737488354000 := by
          have h1 := HQ2.out
          have h2 := HST2.out
          have h3 := HLEN.out
          have h4 := HHL.out
          have h5 := HXS.out
          rw [List.length_append] at h1
          omega
        have HCC2 : Hid (Calls Tryz.prog 20 #[.agg #[.int .i64 X.kind, .string XT, .int .i64 X.n, .slice LP XL lc], .int .i64 2, .int .i64 (D + 1)] wr fun e w' => e = .returned (.tuple #[.string Q, .int .i64 0]) ∧ Below wr.heap.size wr w') := by
          have h9 := HCC.out
          subst hQ
          exact h9
        have HX2 : Hid ((x ++ Q).data.toList = hh ++ (a ++ q)) := by show _ = _; rw [cat2, HXA.out, HQL.out, List.append_assoc]
        clear hfx HNON HSTP HFL hQ HCC hqs
        go_wp2_with fail
        refine (show Calls _ _ _ _ _ from HCC2.out).mono ?_
        rintro e w5 ⟨rfl, hbk5⟩
        have HB5 : Hid (Below W0.heap.size W0 w5) := HBK.out.trans (hbk5.mono HBK.out.size)
        clear hbk5 z0 z1 z2 z3 zf d0 d1 d2 d3 HCC2
        go_wp2
        go_roundw
        case rel => exact ⟨i + 1, a ++ q, x ++ Q, ⟨hlt, HQ1.out, HQ2.out, HX2.out, HB5.out⟩, rfl, rfl⟩
        case measure => simp [intOf]; omega
    · have hin : i = m := by omega
      subst hin
      have etk : ts.take i = ts := List.take_of_length_le (by rw [HM.out]; exact Nat.le_refl _)
      have HYES : Hid (OA = some a) := by show _ = _; rw [← HOA.out, ← HEA.out, etk]
      clear etk
      go_wp2
      go_returns
      rw [HYES.out]
      exact ⟨by rw [as_strB HXA.out]; rfl, HBW.out⟩
set_option maxRecDepth 20000 in
set_option maxHeartbeats 8000000 in
theorem rlist2_6 (k B : Nat) (D n : Int) (s : ByteArray) (lv : Value) (ts : List (Rn (Rp k))) (f : Rn (Rp k) → Option By) (F : Rn (Rp k) → Nat) (hF : ∀ X ∈ ts, ∀ a, f X = some a → a.length ≤ F X) (hev : ts.length % 2 = 0) (hn : ts.length ≤ 1073741824)
    (hD0 : 1 ≤ D) (hD : D ≤ 32) (w : World) (hlen : 30 + (ts.map F).sum ≤ 70368744177000) (hBw : B ≤ w.heap.size) (hT : RpB (fun g => g < B) k (RpL (fun g => g < B) k w) w lv ts)
    (IH : ∀ X ∈ ts, ∀ (v : Value) (W : World), Below B w W → B ≤ W.heap.size → RpL (fun g => g < B) k W v X.list → Calls Tryz.prog 20 #[.agg #[.int .i64 X.kind, .string (strB X.text), .int .i64 X.n, v], .int .i64 2, .int .i64 (D + 1)] W fun e w' => EncIs (f X) W w' e) :
    Calls Tryz.prog 32 #[.agg #[.int .i64 6, .string s, .int .i64 n, lv], .bool false, .int .i64 D, .int .i64 2] w fun e w' => EncIs (behind (42 :: (Lib.itoa ((ts.length : Nat) : Int) ++ [13, 10])) (encAll f ts)) w w' e := by
  obtain ⟨P, c, rfl⟩ : ∃ P c, lv = .slice P ts.length c := by obtain ⟨P, c, e, _⟩ := hT; exact ⟨P, c, e⟩
  obtain ⟨m, hm⟩ : ∃ m, ts.length = m := ⟨_, rfl⟩
  have HM : Hid (ts.length = m) := hm
  have HT : Hid (RpB (fun g => g < B) k (RpL (fun g => g < B) k w) w (.slice P m c) ts) := hm ▸ hT
  rw [hm] at hev hn ⊢
  obtain ⟨cnt, hcnt⟩ : ∃ cnt, cnt = m := ⟨_, rfl⟩
  rw [← hcnt]
  obtain ⟨hh, hhd⟩ : ∃ hh, 42 :: (Lib.itoa (cnt : Int) ++ [13, 10]) = hh := ⟨_, rfl⟩
  rw [hhd]
  obtain ⟨OA, hOA⟩ : ∃ o, encAll f ts = o := ⟨_, rfl⟩
  rw [hOA]
  have HOA : Hid (encAll f ts = OA) := hOA
  have HIH : Hid _ := IH
  have HF : Hid (∀ X ∈ ts, ∀ a, f X = some a → a.length ≤ F X) := hF
  have HLEN : Hid (30 + (ts.map F).sum ≤ 70368744177000) := hlen
  obtain ⟨W0, hW0⟩ : ∃ W, W = w.alloc (.cells #[.int .i64 6, .string s, .int .i64 n, .slice P m c] 24) := ⟨_, rfl⟩
  have hb0 : Below w.heap.size w W0 := by rw [hW0]; exact (Below.refl _ _).alloc (Nat.le_refl _) _
  obtain ⟨r4, hr4⟩ : ∃ r, w.heap.size = r := ⟨_, rfl⟩
  have hrow0 : W0.heap[r4]? = some (.cells #[.int .i64 6, .string s, .int .i64 n, .slice P m c] 24) := by rw [hW0, ← hr4]; exact one_alloc _ _
  have HB0 : Hid (Below w.heap.size w W0) := hb0
  have HROW : Hid (W0.heap[r4]? = some (.cells #[.int .i64 6, .string s, .int .i64 n, .slice P m c] 24)) := hrow0
  have HR4 : Hid (w.heap.size = r4) := hr4
  obtain ⟨z0, z1, z2, z3, zf⟩ := prow4 hrow0
  have hDw : IntKind.i64.wrap (D + 1) = D + 1 := by rw [IntKind.wrap_i64] <;> omega
  have hDn : ¬ (32 < D) := by omega
  have hcb : cnt ≤ 1073741824 := by omega
  have hIs := itoaB_len (cnt : Int) (by omega) (by omega)
  obtain ⟨I, hI⟩ : ∃ I, itoaB (cnt : Int) = I := ⟨_, rfl⟩
  have HDG : Hid (Calls Tryz.prog 31 #[.int .i64 (cnt : Int)] W0 fun e w' => e = .returned (.string I) ∧ Below W0.heap.size W0 w') := hI ▸ refDigits_any (cnt : Int) (by omega) (by omega) W0
  have HV : Hid (((⟨#[42]⟩ : ByteArray) ++ I ++ ⟨#[13, 10]⟩).data.toList = hh) := by
    show _ = _
    rw [cat2, cat2, ← hI, itoaB_list, ← hhd]; simp
  rw [hI] at hIs
  have hil := Lib.itoa_length_le (cnt : Int) (by omega) (by omega)
  have HHL : Hid (hh.length ≤ 30) := by
    show _ ≤ _
    rw [← hhd]; simp only [List.length_cons, List.length_append, List.length_nil]; omega
  have HSN : Hid (∀ i (hi : i < ts.length), ((ts.take (i + 1)).map F).sum = ((ts.take i).map F).sum + F ts[i]) := fun i hi => sum_step ts F i hi
  have HST : Hid (∀ i, ((ts.take i).map F).sum ≤ (ts.map F).sum) := fun i => sum_take ts F i
  have hem : ((m : Int) % 2 != 0) = false := by
    have : (m : Int) % 2 = 0 := by omega
    rw [this]; rfl
  have hem2 : ((m : Int).tmod 2 != 0) = false := by rw [Int.tmod_eq_emod_of_nonneg (by omega)]; exact hem
  have hcm : m = cnt := hcnt.symm
  clear hT IH hb0 hr4 hrow0 hm hlen hcnt hOA hF hI hil hhd hev
  subst hcm
  go_enter Tryz.func32, Tryz.ntmps32
  go_upto_region 1 with fail
  rw [← hW0, HR4.out]
  clear hW0
  go_wp2_with fail
  refine (show Calls _ _ _ _ _ from HDG.out).mono ?_
  rintro e w1 ⟨rfl, hb1⟩
  have HB1 : Hid (Below W0.heap.size W0 w1) := hb1
  clear hb1 z0 z1 z2 z3 zf HDG
  go_wp2
  obtain ⟨X0, hX0⟩ : ∃ X, (⟨#[42]⟩ : ByteArray) ++ I ++ ⟨#[13, 10]⟩ = X := ⟨_, rfl⟩
  rw [hX0] at HV ⊢
  clear hX0
  go_loopw [12, 13] (fun cx ci wr => ∃ (i : Nat) (a : By) (x : ByteArray), (i ≤ m ∧ encAll f (ts.take i) = some a ∧ a.length ≤ ((ts.take i).map F).sum ∧ x.data.toList = hh ++ a ∧ Below W0.heap.size W0 wr) ∧ cx = .string x ∧ ci = .int .i64 (i : Int)) (fun _ ci _ => m - (intOf ci).toNat)
  case atStart => exact ⟨0, [], X0, ⟨Nat.zero_le _, rfl, Nat.zero_le _, by simpa using HV.out, HB1.out⟩, rfl, rfl⟩
  case round =>
    obtain ⟨i, a, x, ⟨hi, hea, hal, hxa, hbk⟩, rfl, rfl⟩ := hrel
    have HXA : Hid (x.data.toList = hh ++ a) := hxa
    have HBK : Hid (Below W0.heap.size W0 wr) := hbk
    have HBW : Hid (Below w.heap.size w wr) := HB0.out.trans (hbk.mono HB0.out.size)
    have HEA : Hid (encAll f (ts.take i) = some a) := hea
    have HAL : Hid (a.length ≤ ((ts.take i).map F).sum) := hal
    have hxs : x.size = hh.length + a.length := by rw [← list_len, hxa, List.length_append]
    have HXS : Hid (x.size = hh.length + a.length) := hxs
    obtain ⟨z0, z1, z2, z3, zf⟩ := prow4 (keep_row HROW.out HBK.out)
    clear hbk hea hal hxa hxs
    by_cases hlt : i < m
    · have hix : i < ts.length := by rw [HM.out]; exact hlt
      have hT2 : RpB (fun g => g < B) k (RpL (fun g => g < B) k wr) wr (.slice P m c) ts := HT.out.keep (fun g hg hl => ⟨hg, HBW.out.block g (Nat.lt_of_lt_of_le hg hBw)⟩) (fun v t hh => hh.keep (fun g hg hl => ⟨hg, HBW.out.block g (Nat.lt_of_lt_of_le hg hBw)⟩))
      obtain ⟨g, o, l2, hP, d0, d1, d2, d3, d4⟩ := elist_cell hT2 i hix
      have hsn := HSN.out i hix
      have hst := HST.out (i + 1)
      have hstp : ∀ b, f ts[i] = some b → encAll f (ts.take (i + 1)) = some (a ++ b) := fun b hb => encAll_step f ts i hix a b HEA.out hb
      have hnon : f ts[i] = none → encAll f ts = none := encAll_none f ts i hix
      obtain ⟨X, hX⟩ : ∃ X, ts[i] = X := ⟨_, rfl⟩
      have hxm : X ∈ ts := by rw [← hX]; exact List.getElem_mem hix
      rw [hX] at d0 d1 d2 d4 hsn hstp hnon
      have hfl := HF.out X hxm
      obtain ⟨LP, lc, hl2⟩ := d4.form
      subst hl2
      subst hP
      obtain ⟨XL, hXL⟩ : ∃ XL, X.list.length = XL := ⟨_, rfl⟩
      obtain ⟨XT, hXT⟩ : ∃ XT, strB X.text = XT := ⟨_, rfl⟩
      rw [hXL] at d3 d4
      rw [hXT] at d1
      have hz0 : (0 : Int) ≤ (i : Int) := by omega
      have hz1 : (i : Int) < (m : Int) := by omega
      have hBwr : B ≤ wr.heap.size := Nat.le_trans hBw HBW.out.size
      have HCC : Hid (Calls Tryz.prog 20 #[.agg #[.int .i64 X.kind, .string XT, .int .i64 X.n, .slice LP XL lc], .int .i64 2, .int .i64 (D + 1)] wr fun e w' => EncIs (f X) wr w' e) := by
        have h9 := HIH.out X hxm (.slice LP XL lc) wr (HBW.out.mono hBw) hBwr d4
        rw [hXT] at h9
        exact h9
      have HSN2 : Hid _ := hsn
      have HST2 : Hid (((ts.take (i + 1)).map F).sum ≤ (ts.map F).sum) := hst
      have HSTP : Hid (∀ b, f X = some b → encAll f (ts.take (i + 1)) = some (a ++ b)) := hstp
      have HNON : Hid (f X = none → encAll f ts = none) := hnon
      have HFL : Hid (∀ b, f X = some b → b.length ≤ F X) := hfl
      clear hX hix hxm hT2 d4 hXL hXT hfl hsn hst hstp hnon
      cases hfx : f X with
      | none =>
        rw [hfx] at HCC
        have HNO : Hid (OA = none) := by show _ = _; rw [← HOA.out]; exact HNON.out hfx
        clear hfx HNON HSTP HFL
        go_wp2_with fail
        refine (show Calls _ _ _ _ _ from HCC.out).mono ?_
        rintro e w5 ⟨rfl, hbk5⟩
        have HB5 : Hid (Below w.heap.size w w5) := HBW.out.trans (hbk5.mono HBW.out.size)
        clear hbk5 z0 z1 z2 z3 zf d0 d1 d2 d3
        go_wp2
        go_returns
        rw [HNO.out]
        exact ⟨rfl, HB5.out⟩
      | some q =>
        rw [hfx] at HCC
        have HQ1 : Hid (encAll f (ts.take (i + 1)) = some (a ++ q)) := HSTP.out q hfx
        have HQ2 : Hid ((a ++ q).length ≤ ((ts.take (i + 1)).map F).sum) := by
          show _ ≤ _
          have h1 := HFL.out q hfx
          have h2 := HSN2.out
          have h3 := HAL.out
          rw [List.length_append]; omega
        obtain ⟨Q, hQ⟩ : ∃ Q, strB q = Q := ⟨_, rfl⟩
        have hqs : Q.size = q.length := by rw [← hQ]; exact strB_size q
        have HQL : Hid (Q.data.toList = q) := by show _ = _; rw [← hQ]; exact strB_list q
        have hxq : x.size + Q.size ≤ 140737488354000 := by
          have h1 := HQ2.out
          have h2 := HST2.out
          have h3 := HLEN.out
          have h4 := HHL.out
          have h5 := HXS.out
          rw [List.length_append] at h1
          omega
        have HCC2 : Hid (Calls Tryz.prog 20 #[.agg #[.int .i64 X.kind, .string XT, .int .i64 X.n, .slice LP XL lc], .int .i64 2, .int .i64 (D + 1)] wr fun e w' => e = .returned (.tuple #[.string Q, .int .i64 0]) ∧ Below wr.heap.size wr w') := by
          have h9 := HCC.out
          subst hQ
          exact h9
        have HX2 : Hid ((x ++ Q).data.toList = hh ++ (a ++ q)) := by show _ = _; rw [cat2, HXA.out, HQL.out, List.append_assoc]
        clear hfx HNON HSTP HFL hQ HCC hqs
        go_wp2_with fail
        refine (show Calls _ _ _ _ _ from HCC2.out).mono ?_
        rintro e w5 ⟨rfl, hbk5⟩
        have HB5 : Hid (Below W0.heap.size W0 w5) := HBK.out.trans (hbk5.mono HBK.out.size)
        clear hbk5 z0 z1 z2 z3 zf d0 d1 d2 d3 HCC2
        go_wp2
        go_roundw
        case rel => exact ⟨i + 1, a ++ q, x ++ Q, ⟨hlt, HQ1.out, HQ2.out, HX2.out, HB5.out⟩, rfl, rfl⟩
        case measure => simp [intOf]; omega
    · have hin : i = m := by omega
      subst hin
      have etk : ts.take i = ts := List.take_of_length_le (by rw [HM.out]; exact Nat.le_refl _)
      have HYES : Hid (OA = some a) := by show _ = _; rw [← HOA.out, ← HEA.out, etk]
      clear etk
      go_wp2
      go_returns
      rw [HYES.out]
      exact ⟨by rw [as_strB HXA.out]; rfl, HBW.out⟩
set_option maxRecDepth 20000 in
set_option maxHeartbeats 8000000 in
theorem rlist2_7 (k B : Nat) (D n : Int) (s : ByteArray) (lv : Value) (ts : List (Rn (Rp k))) (f : Rn (Rp k) → Option By) (F : Rn (Rp k) → Nat) (hF : ∀ X ∈ ts, ∀ a, f X = some a → a.length ≤ F X) (hn : ts.length ≤ 1073741824)
    (hD0 : 1 ≤ D) (hD : D ≤ 32) (w : World) (hlen : 30 + (ts.map F).sum ≤ 70368744177000) (hBw : B ≤ w.heap.size) (hT : RpB (fun g => g < B) k (RpL (fun g => g < B) k w) w lv ts)
    (IH : ∀ X ∈ ts, ∀ (v : Value) (W : World), Below B w W → B ≤ W.heap.size → RpL (fun g => g < B) k W v X.list → Calls Tryz.prog 20 #[.agg #[.int .i64 X.kind, .string (strB X.text), .int .i64 X.n, v], .int .i64 2, .int .i64 (D + 1)] W fun e w' => EncIs (f X) W w' e) :
    Calls Tryz.prog 32 #[.agg #[.int .i64 7, .string s, .int .i64 n, lv], .bool false, .int .i64 D, .int .i64 2] w fun e w' => EncIs (behind (42 :: (Lib.itoa ((ts.length : Nat) : Int) ++ [13, 10])) (encAll f ts)) w w' e := by
  obtain ⟨P, c, rfl⟩ : ∃ P c, lv = .slice P ts.length c := by obtain ⟨P, c, e, _⟩ := hT; exact ⟨P, c, e⟩
  obtain ⟨m, hm⟩ : ∃ m, ts.length = m := ⟨_, rfl⟩
  have HM : Hid (ts.length = m) := hm
  have HT : Hid (RpB (fun g => g < B) k (RpL (fun g => g < B) k w) w (.slice P m c) ts) := hm ▸ hT
  rw [hm] at hn ⊢
  obtain ⟨cnt, hcnt⟩ : ∃ cnt, cnt = m := ⟨_, rfl⟩
  rw [← hcnt]
  obtain ⟨hh, hhd⟩ : ∃ hh, 42 :: (Lib.itoa (cnt : Int) ++ [13, 10]) = hh := ⟨_, rfl⟩
  rw [hhd]
  obtain ⟨OA, hOA⟩ : ∃ o, encAll f ts = o := ⟨_, rfl⟩
  rw [hOA]
  have HOA : Hid (encAll f ts = OA) := hOA
  have HIH : Hid _ := IH
  have HF : Hid (∀ X ∈ ts, ∀ a, f X = some a → a.length ≤ F X) := hF
  have HLEN : Hid (30 + (ts.map F).sum ≤ 70368744177000) := hlen
  obtain ⟨W0, hW0⟩ : ∃ W, W = w.alloc (.cells #[.int .i64 7, .string s, .int .i64 n, .slice P m c] 24) := ⟨_, rfl⟩
  have hb0 : Below w.heap.size w W0 := by rw [hW0]; exact (Below.refl _ _).alloc (Nat.le_refl _) _
  obtain ⟨r4, hr4⟩ : ∃ r, w.heap.size = r := ⟨_, rfl⟩
  have hrow0 : W0.heap[r4]? = some (.cells #[.int .i64 7, .string s, .int .i64 n, .slice P m c] 24) := by rw [hW0, ← hr4]; exact one_alloc _ _
  have HB0 : Hid (Below w.heap.size w W0) := hb0
  have HROW : Hid (W0.heap[r4]? = some (.cells #[.int .i64 7, .string s, .int .i64 n, .slice P m c] 24)) := hrow0
  have HR4 : Hid (w.heap.size = r4) := hr4
  obtain ⟨z0, z1, z2, z3, zf⟩ := prow4 hrow0
  have hDw : IntKind.i64.wrap (D + 1) = D + 1 := by rw [IntKind.wrap_i64] <;> omega
  have hDn : ¬ (32 < D) := by omega
  have hcb : cnt ≤ 1073741824 := by omega
  have hIs := itoaB_len (cnt : Int) (by omega) (by omega)
  obtain ⟨I, hI⟩ : ∃ I, itoaB (cnt : Int) = I := ⟨_, rfl⟩
  have HDG : Hid (Calls Tryz.prog 31 #[.int .i64 (cnt : Int)] W0 fun e w' => e = .returned (.string I) ∧ Below W0.heap.size W0 w') := hI ▸ refDigits_any (cnt : Int) (by omega) (by omega) W0
  have HV : Hid (((⟨#[42]⟩ : ByteArray) ++ I ++ ⟨#[13, 10]⟩).data.toList = hh) := by
    show _ = _
    rw [cat2, cat2, ← hI, itoaB_list, ← hhd]; simp
  rw [hI] at hIs
  have hil := Lib.itoa_length_le (cnt : Int) (by omega) (by omega)
  have HHL : Hid (hh.length ≤ 30) := by
    show _ ≤ _
    rw [← hhd]; simp only [List.length_cons, List.length_append, List.length_nil]; omega
  have HSN : Hid (∀ i (hi : i < ts.length), ((ts.take (i + 1)).map F).sum = ((ts.take i).map F).sum + F ts[i]) := fun i hi => sum_step ts F i hi
  have HST : Hid (∀ i, ((ts.take i).map F).sum ≤ (ts.map F).sum) := fun i => sum_take ts F i
  have hcm : m = cnt := hcnt.symm
  clear hT IH hb0 hr4 hrow0 hm hlen hcnt hOA hF hI hil hhd
  subst hcm
  go_enter Tryz.func32, Tryz.ntmps32
  go_upto_region 1 with fail
  rw [← hW0, HR4.out]
  clear hW0
  go_wp2_with fail
  refine (show Calls _ _ _ _ _ from HDG.out).mono ?_
  rintro e w1 ⟨rfl, hb1⟩
  have HB1 : Hid (Below W0.heap.size W0 w1) := hb1
  clear hb1 z0 z1 z2 z3 zf HDG
  go_wp2
  obtain ⟨X0, hX0⟩ : ∃ X, (⟨#[42]⟩ : ByteArray) ++ I ++ ⟨#[13, 10]⟩ = X := ⟨_, rfl⟩
  rw [hX0] at HV ⊢
  clear hX0
  go_loopw [12, 13] (fun cx ci wr => ∃ (i : Nat) (a : By) (x : ByteArray), (i ≤ m ∧ encAll f (ts.take i) = some a ∧ a.length ≤ ((ts.take i).map F).sum ∧ x.data.toList = hh ++ a ∧ Below W0.heap.size W0 wr) ∧ cx = .string x ∧ ci = .int .i64 (i : Int)) (fun _ ci _ => m - (intOf ci).toNat)
  case atStart => exact ⟨0, [], X0, ⟨Nat.zero_le _, rfl, Nat.zero_le _, by simpa using HV.out, HB1.out⟩, rfl, rfl⟩
  case round =>
    obtain ⟨i, a, x, ⟨hi, hea, hal, hxa, hbk⟩, rfl, rfl⟩ := hrel
    have HXA : Hid (x.data.toList = hh ++ a) := hxa
    have HBK : Hid (Below W0.heap.size W0 wr) := hbk
    have HBW : Hid (Below w.heap.size w wr) := HB0.out.trans (hbk.mono HB0.out.size)
    have HEA : Hid (encAll f (ts.take i) = some a) := hea
    have HAL : Hid (a.length ≤ ((ts.take i).map F).sum) := hal
    have hxs : x.size = hh.length + a.length := by rw [← list_len, hxa, List.length_append]
    have HXS : Hid (x.size = hh.length + a.length) := hxs
    obtain ⟨z0, z1, z2, z3, zf⟩ := prow4 (keep_row HROW.out HBK.out)
    clear hbk hea hal hxa hxs
    by_cases hlt : i < m
    · have hix : i < ts.length := by rw [HM.out]; exact hlt
      have hT2 : RpB (fun g => g < B) k (RpL (fun g => g < B) k wr) wr (.slice P m c) ts := HT.out.keep (fun g hg hl => ⟨hg, HBW.out.block g (Nat.lt_of_lt_of_le hg hBw)⟩) (fun v t hh => hh.keep (fun g hg hl => ⟨hg, HBW.out.block g (Nat.lt_of_lt_of_le hg hBw)⟩))
      obtain ⟨g, o, l2, hP, d0, d1, d2, d3, d4⟩ := elist_cell hT2 i hix
      have hsn := HSN.out i hix
      have hst := HST.out (i + 1)
      have hstp : ∀ b, f ts[i] = some b → encAll f (ts.take (i + 1)) = some (a ++ b) := fun b hb => encAll_step f ts i hix a b HEA.out hb
      have hnon : f ts[i] = none → encAll f ts = none := encAll_none f ts i hix
      obtain ⟨X, hX⟩ : ∃ X, ts[i] = X := ⟨_, rfl⟩
      have hxm : X ∈ ts := by rw [← hX]; exact List.getElem_mem hix
      rw [hX] at d0 d1 d2 d4 hsn hstp hnon
      have hfl := HF.out X hxm
      obtain ⟨LP, lc, hl2⟩ := d4.form
      subst hl2
      subst hP
      obtain ⟨XL, hXL⟩ : ∃ XL, X.list.length = XL := ⟨_, rfl⟩
      obtain ⟨XT, hXT⟩ : ∃ XT, strB X.text = XT := ⟨_, rfl⟩
      rw [hXL] at d3 d4
      rw [hXT] at d1
      have hz0 : (0 : Int) ≤ (i : Int) := by omega
      have hz1 : (i : Int) < (m : Int) := by omega
      have hBwr : B ≤ wr.heap.size := Nat.le_trans hBw HBW.out.size
      have HCC : Hid (Calls Tryz.prog 20 #[.agg #[.int .i64 X.kind, .string XT, .int .i64 X.n, .slice LP XL lc], .int .i64 2, .int .i64 (D + 1)] wr fun e w' => EncIs (f X) wr w' e) := by
        have h9 := HIH.out X hxm (.slice LP XL lc) wr (HBW.out.mono hBw) hBwr d4
        rw [hXT] at h9
        exact h9
      have HSN2 : Hid _ := hsn
      have HST2 : Hid (((ts.take (i + 1)).map F).sum ≤ (ts.map F).sum) := hst
      have HSTP : Hid (∀ b, f X = some b → encAll f (ts.take (i + 1)) = some (a ++ b)) := hstp
      have HNON : Hid (f X = none → encAll f ts = none) := hnon
      have HFL : Hid (∀ b, f X = some b → b.length ≤ F X) := hfl
      clear hX hix hxm hT2 d4 hXL hXT hfl hsn hst hstp hnon
      cases hfx : f X with
      | none =>
        rw [hfx] at HCC
        have HNO : Hid (OA = none) := by show _ = _; rw [← HOA.out]; exact HNON.out hfx
        clear hfx HNON HSTP HFL
        go_wp2_with fail
        refine (show Calls _ _ _ _ _ from HCC.out).mono ?_
        rintro e w5 ⟨rfl, hbk5⟩
        have HB5 : Hid (Below w.heap.size w w5) := HBW.out.trans (hbk5.mono HBW.out.size)
        clear hbk5 z0 z1 z2 z3 zf d0 d1 d2 d3
        go_wp2
        go_returns
        rw [HNO.out]
        exact ⟨rfl, HB5.out⟩
      | some q =>
        rw [hfx] at HCC
        have HQ1 : Hid (encAll f (ts.take (i + 1)) = some (a ++ q)) := HSTP.out q hfx
        have HQ2 : Hid ((a ++ q).length ≤ ((ts.take (i + 1)).map F).sum) := by
          show _ ≤ _
          have h1 := HFL.out q hfx
          have h2 := HSN2.out
          have h3 := HAL.out
          rw [List.length_append]; omega
        obtain ⟨Q, hQ⟩ : ∃ Q, strB q = Q := ⟨_, rfl⟩
        have hqs : Q.size = q.length := by rw [← hQ]; exact strB_size q
        have HQL : Hid (Q.data.toList = q) := by show _ = _; rw [← hQ]; exact strB_list q
        have hxq : x.size + Q.size ≤ 140737488354000 := by
          have h1 := HQ2.out
          have h2 := HST2.out
          have h3 := HLEN.out
          have h4 := HHL.out
          have h5 := HXS.out
          rw [List.length_append] at h1
          omega
        have HCC2 : Hid (Calls Tryz.prog 20 #[.agg #[.int .i64 X.kind, .string XT, .int .i64 X.n, .slice LP XL lc], .int .i64 2, .int .i64 (D + 1)] wr fun e w' => e = .returned (.tuple #[.string Q, .int .i64 0]) ∧ Below wr.heap.size wr w') := by
          have h9 := HCC.out
          subst hQ
          exact h9
        have HX2 : Hid ((x ++ Q).data.toList = hh ++ (a ++ q)) := by show _ = _; rw [cat2, HXA.out, HQL.out, List.append_assoc]
        clear hfx HNON HSTP HFL hQ HCC hqs
        go_wp2_with fail
        refine (show Calls _ _ _ _ _ from HCC2.out).mono ?_
        rintro e w5 ⟨rfl, hbk5⟩
        have HB5 : Hid (Below W0.heap.size W0 w5) := HBK.out.trans (hbk5.mono HBK.out.size)
        clear hbk5 z0 z1 z2 z3 zf d0 d1 d2 d3 HCC2
        go_wp2
        go_roundw
        case rel => exact ⟨i + 1, a ++ q, x ++ Q, ⟨hlt, HQ1.out, HQ2.out, HX2.out, HB5.out⟩, rfl, rfl⟩
        case measure => simp [intOf]; omega
    · have hin : i = m := by omega
      subst hin
      have etk : ts.take i = ts := List.take_of_length_le (by rw [HM.out]; exact Nat.le_refl _)
      have HYES : Hid (OA = some a) := by show _ = _; rw [← HOA.out, ← HEA.out, etk]
      clear etk
      go_wp2
      go_returns
      rw [HYES.out]
      exact ⟨by rw [as_strB HXA.out]; rfl, HBW.out⟩
set_option maxRecDepth 20000 in
set_option maxHeartbeats 8000000 in
theorem rlist2_8 (k B : Nat) (D n : Int) (s : ByteArray) (lv : Value) (ts : List (Rn (Rp k))) (f : Rn (Rp k) → Option By) (F : Rn (Rp k) → Nat) (hF : ∀ X ∈ ts, ∀ a, f X = some a → a.length ≤ F X) (hn : ts.length ≤ 1073741824)
    (hD0 : 1 ≤ D) (hD : D ≤ 32) (w : World) (hlen : 30 + (ts.map F).sum ≤ 70368744177000) (hBw : B ≤ w.heap.size) (hT : RpB (fun g => g < B) k (RpL (fun g => g < B) k w) w lv ts)
    (IH : ∀ X ∈ ts, ∀ (v : Value) (W : World), Below B w W → B ≤ W.heap.size → RpL (fun g => g < B) k W v X.list → Calls Tryz.prog 20 #[.agg #[.int .i64 X.kind, .string (strB X.text), .int .i64 X.n, v], .int .i64 2, .int .i64 (D + 1)] W fun e w' => EncIs (f X) W w' e) :
    Calls Tryz.prog 32 #[.agg #[.int .i64 8, .string s, .int .i64 n, lv], .bool false, .int .i64 D, .int .i64 2] w fun e w' => EncIs (behind (42 :: (Lib.itoa ((ts.length : Nat) : Int) ++ [13, 10])) (encAll f ts)) w w' e := by
  obtain ⟨P, c, rfl⟩ : ∃ P c, lv = .slice P ts.length c := by obtain ⟨P, c, e, _⟩ := hT; exact ⟨P, c, e⟩
  obtain ⟨m, hm⟩ : ∃ m, ts.length = m := ⟨_, rfl⟩
  have HM : Hid (ts.length = m) := hm
  have HT : Hid (RpB (fun g => g < B) k (RpL (fun g => g < B) k w) w (.slice P m c) ts) := hm ▸ hT
  rw [hm] at hn ⊢
  obtain ⟨cnt, hcnt⟩ : ∃ cnt, cnt = m := ⟨_, rfl⟩
  rw [← hcnt]
  obtain ⟨hh, hhd⟩ : ∃ hh, 42 :: (Lib.itoa (cnt : Int) ++ [13, 10]) = hh := ⟨_, rfl⟩
  rw [hhd]
  obtain ⟨OA, hOA⟩ : ∃ o, encAll f ts = o := ⟨_, rfl⟩
  rw [hOA]
  have HOA : Hid (encAll f ts = OA) := hOA
  have HIH : Hid _ := IH
  have HF : Hid (∀ X ∈ ts, ∀ a, f X = some a → a.length ≤ F X) := hF
  have HLEN : Hid (30 + (ts.map F).sum ≤ 70368744177000) := hlen
  obtain ⟨W0, hW0⟩ : ∃ W, W = w.alloc (.cells #[.int .i64 8, .string s, .int .i64 n, .slice P m c] 24) := ⟨_, rfl⟩
  have hb0 : Below w.heap.size w W0 := by rw [hW0]; exact (Below.refl _ _).alloc (Nat.le_refl _) _
  obtain ⟨r4, hr4⟩ : ∃ r, w.heap.size = r := ⟨_, rfl⟩
  have hrow0 : W0.heap[r4]? = some (.cells #[.int .i64 8, .string s, .int .i64 n, .slice P m c] 24) := by rw [hW0, ← hr4]; exact one_alloc _ _
  have HB0 : Hid (Below w.heap.size w W0) := hb0
  have HROW : Hid (W0.heap[r4]? = some (.cells #[.int .i64 8, .string s, .int .i64 n, .slice P m c] 24)) := hrow0
  have HR4 : Hid (w.heap.size = r4) := hr4
  obtain ⟨z0, z1, z2, z3, zf⟩ := prow4 hrow0
  have hDw : IntKind.i64.wrap (D + 1) = D + 1 := by rw [IntKind.wrap_i64] <;> omega
  have hDn : ¬ (32 < D) := by omega
  have hcb : cnt ≤ 1073741824 := by omega
  have hIs := itoaB_len (cnt : Int) (by omega) (by omega)
  obtain ⟨I, hI⟩ : ∃ I, itoaB (cnt : Int) = I := ⟨_, rfl⟩
  have HDG : Hid (Calls Tryz.prog 31 #[.int .i64 (cnt : Int)] W0 fun e w' => e = .returned (.string I) ∧ Below W0.heap.size W0 w') := hI ▸ refDigits_any (cnt : Int) (by omega) (by omega) W0
  have HV : Hid (((⟨#[42]⟩ : ByteArray) ++ I ++ ⟨#[13, 10]⟩).data.toList = hh) := by
    show _ = _
    rw [cat2, cat2, ← hI, itoaB_list, ← hhd]; simp
  rw [hI] at hIs
  have hil := Lib.itoa_length_le (cnt : Int) (by omega) (by omega)
  have HHL : Hid (hh.length ≤ 30) := by
    show _ ≤ _
    rw [← hhd]; simp only [List.length_cons, List.length_append, List.length_nil]; omega
  have HSN : Hid (∀ i (hi : i < ts.length), ((ts.take (i + 1)).map F).sum = ((ts.take i).map F).sum + F ts[i]) := fun i hi => sum_step ts F i hi
  have HST : Hid (∀ i, ((ts.take i).map F).sum ≤ (ts.map F).sum) := fun i => sum_take ts F i
  have hcm : m = cnt := hcnt.symm
  clear hT IH hb0 hr4 hrow0 hm hlen hcnt hOA hF hI hil hhd
  subst hcm
  go_enter Tryz.func32, Tryz.ntmps32
  go_upto_region 1 with fail
  rw [← hW0, HR4.out]
  clear hW0
  go_wp2_with fail
  refine (show Calls _ _ _ _ _ from HDG.out).mono ?_
  rintro e w1 ⟨rfl, hb1⟩
  have HB1 : Hid (Below W0.heap.size W0 w1) := hb1
  clear hb1 z0 z1 z2 z3 zf HDG
  go_wp2
  obtain ⟨X0, hX0⟩ : ∃ X, (⟨#[42]⟩ : ByteArray) ++ I ++ ⟨#[13, 10]⟩ = X := ⟨_, rfl⟩
  rw [hX0] at HV ⊢
  clear hX0
  go_loopw [12, 13] (fun cx ci wr => ∃ (i : Nat) (a : By) (x : ByteArray), (i ≤ m ∧ encAll f (ts.take i) = some a ∧ a.length ≤ ((ts.take i).map F).sum ∧ x.data.toList = hh ++ a ∧ Below W0.heap.size W0 wr) ∧ cx = .string x ∧ ci = .int .i64 (i : Int)) (fun _ ci _ => m - (intOf ci).toNat)
  case atStart => exact ⟨0, [], X0, ⟨Nat.zero_le _, rfl, Nat.zero_le _, by simpa using HV.out, HB1.out⟩, rfl, rfl⟩
  case round =>
    obtain ⟨i, a, x, ⟨hi, hea, hal, hxa, hbk⟩, rfl, rfl⟩ := hrel
    have HXA : Hid (x.data.toList = hh ++ a) := hxa
    have HBK : Hid (Below W0.heap.size W0 wr) := hbk
    have HBW : Hid (Below w.heap.size w wr) := HB0.out.trans (hbk.mono HB0.out.size)
    have HEA : Hid (encAll f (ts.take i) = some a) := hea
    have HAL : Hid (a.length ≤ ((ts.take i).map F).sum) := hal
    have hxs : x.size = hh.length + a.length := by rw [← list_len, hxa, List.length_append]
    have HXS : Hid (x.size = hh.length + a.length) := hxs
    obtain ⟨z0, z1, z2, z3, zf⟩ := prow4 (keep_row HROW.out HBK.out)
    clear hbk hea hal hxa hxs
    by_cases hlt : i < m
    · have hix : i < ts.length := by rw [HM.out]; exact hlt
      have hT2 : RpB (fun g => g < B) k (RpL (fun g => g < B) k wr) wr (.slice P m c) ts := HT.out.keep (fun g hg hl => ⟨hg, HBW.out.block g (Nat.lt_of_lt_of_le hg hBw)⟩) (fun v t hh => hh.keep (fun g hg hl => ⟨hg, HBW.out.block g (Nat.lt_of_lt_of_le hg hBw)⟩))
      obtain ⟨g, o, l2, hP, d0, d1, d2, d3, d4⟩ := elist_cell hT2 i hix
      have hsn := HSN.out i hix
      have hst := HST.out (i + 1)
      have hstp : ∀ b, f ts[i] = some b → encAll f (ts.take (i + 1)) = some (a ++ b) := fun b hb => encAll_step f ts i hix a b HEA.out hb
      have hnon : f ts[i] = none → encAll f ts = none := encAll_none f ts i hix
      obtain ⟨X, hX⟩ : ∃ X, ts[i] = X := ⟨_, rfl⟩
      have hxm : X ∈ ts := by rw [← hX]; exact List.getElem_mem hix
      rw [hX] at d0 d1 d2 d4 hsn hstp hnon
      have hfl := HF.out X hxm
      obtain ⟨LP, lc, hl2⟩ := d4.form
      subst hl2
      subst hP
      obtain ⟨XL, hXL⟩ : ∃ XL, X.list.length = XL := ⟨_, rfl⟩
      obtain ⟨XT, hXT⟩ : ∃ XT, strB X.text = XT := ⟨_, rfl⟩
      rw [hXL] at d3 d4
      rw [hXT] at d1
      have hz0 : (0 : Int) ≤ (i : Int) := by omega
      have hz1 : (i : Int) < (m : Int) := by omega
      have hBwr : B ≤ wr.heap.size := Nat.le_trans hBw HBW.out.size
      have HCC : Hid (Calls Tryz.prog 20 #[.agg #[.int .i64 X.kind, .string XT, .int .i64 X.n, .slice LP XL lc], .int .i64 2, .int .i64 (D + 1)] wr fun e w' => EncIs (f X) wr w' e) := by
        have h9 := HIH.out X hxm (.slice LP XL lc) wr (HBW.out.mono hBw) hBwr d4
        rw [hXT] at h9
        exact h9
      have HSN2 : Hid _ := hsn
      have HST2 : Hid (((ts.take (i + 1)).map F).sum ≤ (ts.map F).sum) := hst
      have HSTP : Hid (∀ b, f X = some b → encAll f (ts.take (i + 1)) = some (a ++ b)) := hstp
      have HNON : Hid (f X = none → encAll f ts = none) := hnon
      have HFL : Hid (∀ b, f X = some b → b.length ≤ F X) := hfl
      clear hX hix hxm hT2 d4 hXL hXT hfl hsn hst hstp hnon
      cases hfx : f X with
      | none =>
        rw [hfx] at HCC
        have HNO : Hid (OA = none) := by show _ = _; rw [← HOA.out]; exact HNON.out hfx
        clear hfx HNON HSTP HFL
        go_wp2_with fail
        refine (show Calls _ _ _ _ _ from HCC.out).mono ?_
        rintro e w5 ⟨rfl, hbk5⟩
        have HB5 : Hid (Below w.heap.size w w5) := HBW.out.trans (hbk5.mono HBW.out.size)
        clear hbk5 z0 z1 z2 z3 zf d0 d1 d2 d3
        go_wp2
        go_returns
        rw [HNO.out]
        exact ⟨rfl, HB5.out⟩
      | some q =>
        rw [hfx] at HCC
        have HQ1 : Hid (encAll f (ts.take (i + 1)) = some (a ++ q)) := HSTP.out q hfx
        have HQ2 : Hid ((a ++ q).length ≤ ((ts.take (i + 1)).map F).sum) := by
          show _ ≤ _
          have h1 := HFL.out q hfx
          have h2 := HSN2.out
          have h3 := HAL.out
          rw [List.length_append]; omega
        obtain ⟨Q, hQ⟩ : ∃ Q, strB q = Q := ⟨_, rfl⟩
        have hqs : Q.size = q.length := by rw [← hQ]; exact strB_size q
        have HQL : Hid (Q.data.toList = q) := by show _ = _; rw [← hQ]; exact strB_list q
        have hxq : x.size + Q.size ≤ 140737488354000 := by
          have h1 := HQ2.out
          have h2 := HST2.out
          have h3 := HLEN.out
          have h4 := HHL.out
          have h5 := HXS.out
          rw [List.length_append] at h1
          omega
        have HCC2 : Hid (Calls Tryz.prog 20 #[.agg #[.int .i64 X.kind, .string XT, .int .i64 X.n, .slice LP XL lc], .int .i64 2, .int .i64 (D + 1)] wr fun e w' => e = .returned (.tuple #[.string Q, .int .i64 0]) ∧ Below wr.heap.size wr w') := by
          have h9 := HCC.out
          subst hQ
          exact h9
        have HX2 : Hid ((x ++ Q).data.toList = hh ++ (a ++ q)) := by show _ = _; rw [cat2, HXA.out, HQL.out, List.append_assoc]
        clear hfx HNON HSTP HFL hQ HCC hqs
        go_wp2_with fail
        refine (show Calls _ _ _ _ _ from HCC2.out).mono ?_
        rintro e w5 ⟨rfl, hbk5⟩
        have HB5 : Hid (Below W0.heap.size W0 w5) := HBK.out.trans (hbk5.mono HBK.out.size)
        clear hbk5 z0 z1 z2 z3 zf d0 d1 d2 d3 HCC2
        go_wp2
        go_roundw
        case rel => exact ⟨i + 1, a ++ q, x ++ Q, ⟨hlt, HQ1.out, HQ2.out, HX2.out, HB5.out⟩, rfl, rfl⟩
        case measure => simp [intOf]; omega
    · have hin : i = m := by omega
      subst hin
      have etk : ts.take i = ts := List.take_of_length_le (by rw [HM.out]; exact Nat.le_refl _)
      have HYES : Hid (OA = some a) := by show _ = _; rw [← HOA.out, ← HEA.out, etk]
      clear etk
      go_wp2
      go_returns
      rw [HYES.out]
      exact ⟨by rw [as_strB HXA.out]; rfl, HBW.out⟩
end Go.Proofs.YtgiicfgekicfcaaGreatDoor
namespace Go.Proofs.YtgiicfgekicfcaaGreatDoor
open Go.RowKit Vi
set_option linter.unusedVariables false
set_option linter.unusedSimpArgs false
set_option maxRecDepth 20000 in
set_option maxHeartbeats 8000000 in
theorem rlist3_5 (k B : Nat) (D n : Int) (s : ByteArray) (lv : Value) (ts : List (Rn (Rp k))) (f : Rn (Rp k) → Option By) (F : Rn (Rp k) → Nat) (hF : ∀ X ∈ ts, ∀ a, f X = some a → a.length ≤ F X) (hn : ts.length ≤ 1073741824)
    (hD0 : 1 ≤ D) (hD : D ≤ 32) (w : World) (hlen : 30 + (ts.map F).sum ≤ 70368744177000) (hBw : B ≤ w.heap.size) (hT : RpB (fun g => g < B) k (RpL (fun g => g < B) k w) w lv ts)
    (IH : ∀ X ∈ ts, ∀ (v : Value) (W : World), Below B w W → B ≤ W.heap.size → RpL (fun g => g < B) k W v X.list → Calls Tryz.prog 20 #[.agg #[.int .i64 X.kind, .string (strB X.text), .int .i64 X.n, v], .int .i64 3, .int .i64 (D + 1)] W fun e w' => EncIs (f X) W w' e) :
    Calls Tryz.prog 32 #[.agg #[.int .i64 5, .string s, .int .i64 n, lv], .bool true, .int .i64 D, .int .i64 3] w fun e w' => EncIs (behind (42 :: (Lib.itoa ((ts.length : Nat) : Int) ++ [13, 10])) (encAll f ts)) w w' e := by
  obtain ⟨P, c, rfl⟩ : ∃ P c, lv = .slice P ts.length c := by obtain ⟨P, c, e, _⟩ := hT; exact ⟨P, c, e⟩
  obtain ⟨m, hm⟩ : ∃ m, ts.length = m := ⟨_, rfl⟩
  have HM : Hid (ts.length = m) := hm
  have HT : Hid (RpB (fun g => g < B) k (RpL (fun g => g < B) k w) w (.slice P m c) ts) := hm ▸ hT
  rw [hm] at hn ⊢
  obtain ⟨cnt, hcnt⟩ : ∃ cnt, cnt = m := ⟨_, rfl⟩
  rw [← hcnt]
  obtain ⟨hh, hhd⟩ : ∃ hh, 42 :: (Lib.itoa (cnt : Int) ++ [13, 10]) = hh := ⟨_, rfl⟩
  rw [hhd]
  obtain ⟨OA, hOA⟩ : ∃ o, encAll f ts = o := ⟨_, rfl⟩
  rw [hOA]
  have HOA : Hid (encAll f ts = OA) := hOA
  have HIH : Hid _ := IH
  have HF : Hid (∀ X ∈ ts, ∀ a, f X = some a → a.length ≤ F X) := hF
  have HLEN : Hid (30 + (ts.map F).sum ≤ 70368744177000) := hlen
  obtain ⟨W0, hW0⟩ : ∃ W, W = w.alloc (.cells #[.int .i64 5, .string s, .int .i64 n, .slice P m c] 24) := ⟨_, rfl⟩
  have hb0 : Below w.heap.size w W0 := by rw [hW0]; exact (Below.refl _ _).alloc (Nat.le_refl _) _
  obtain ⟨r4, hr4⟩ : ∃ r, w.heap.size = r := ⟨_, rfl⟩
  have hrow0 : W0.heap[r4]? = some (.cells #[.int .i64 5, .string s, .int .i64 n, .slice P m c] 24) := by rw [hW0, ← hr4]; exact one_alloc _ _
  have HB0 : Hid (Below w.heap.size w W0) := hb0
  have HROW : Hid (W0.heap[r4]? = some (.cells #[.int .i64 5, .string s, .int .i64 n, .slice P m c] 24)) := hrow0
  have HR4 : Hid (w.heap.size = r4) := hr4
  obtain ⟨z0, z1, z2, z3, zf⟩ := prow4 hrow0
  have hDw : IntKind.i64.wrap (D + 1) = D + 1 := by rw [IntKind.wrap_i64] <;> omega
  have hDn : ¬ (32 < D) := by omega
  have hcb : cnt ≤ 1073741824 := by omega
  have hIs := itoaB_len (cnt : Int) (by omega) (by omega)
  obtain ⟨I, hI⟩ : ∃ I, itoaB (cnt : Int) = I := ⟨_, rfl⟩
  have HDG : Hid (Calls Tryz.prog 31 #[.int .i64 (cnt : Int)] W0 fun e w' => e = .returned (.string I) ∧ Below W0.heap.size W0 w') := hI ▸ refDigits_any (cnt : Int) (by omega) (by omega) W0
  have HV : Hid (((⟨#[42]⟩ : ByteArray) ++ I ++ ⟨#[13, 10]⟩).data.toList = hh) := by
    show _ = _
    rw [cat2, cat2, ← hI, itoaB_list, ← hhd]; simp
  rw [hI] at hIs
  have hil := Lib.itoa_length_le (cnt : Int) (by omega) (by omega)
  have HHL : Hid (hh.length ≤ 30) := by
    show _ ≤ _
    rw [← hhd]; simp only [List.length_cons, List.length_append, List.length_nil]; omega
  have HSN : Hid (∀ i (hi : i < ts.length), ((ts.take (i + 1)).map F).sum = ((ts.take i).map F).sum + F ts[i]) := fun i hi => sum_step ts F i hi
  have HST : Hid (∀ i, ((ts.take i).map F).sum ≤ (ts.map F).sum) := fun i => sum_take ts F i
  have hcm : m = cnt := hcnt.symm
  clear hT IH hb0 hr4 hrow0 hm hlen hcnt hOA hF hI hil hhd
  subst hcm
  go_enter Tryz.func32, Tryz.ntmps32
  go_upto_region 1 with fail
  rw [← hW0, HR4.out]
  clear hW0
  go_wp2_with fail
  refine (show Calls _ _ _ _ _ from HDG.out).mono ?_
  rintro e w1 ⟨rfl, hb1⟩
  have HB1 : Hid (Below W0.heap.size W0 w1) := hb1
  clear hb1 z0 z1 z2 z3 zf HDG
  go_wp2
  obtain ⟨X0, hX0⟩ : ∃ X, (⟨#[42]⟩ : ByteArray) ++ I ++ ⟨#[13, 10]⟩ = X := ⟨_, rfl⟩
  rw [hX0] at HV ⊢
  clear hX0
  go_loopw [12, 13] (fun cx ci wr => ∃ (i : Nat) (a : By) (x : ByteArray), (i ≤ m ∧ encAll f (ts.take i) = some a ∧ a.length ≤ ((ts.take i).map F).sum ∧ x.data.toList = hh ++ a ∧ Below W0.heap.size W0 wr) ∧ cx = .string x ∧ ci = .int .i64 (i : Int)) (fun _ ci _ => m - (intOf ci).toNat)
  case atStart => exact ⟨0, [], X0, ⟨Nat.zero_le _, rfl, Nat.zero_le _, by simpa using HV.out, HB1.out⟩, rfl, rfl⟩
  case round =>
    obtain ⟨i, a, x, ⟨hi, hea, hal, hxa, hbk⟩, rfl, rfl⟩ := hrel
    have HXA : Hid (x.data.toList = hh ++ a) := hxa
    have HBK : Hid (Below W0.heap.size W0 wr) := hbk
    have HBW : Hid (Below w.heap.size w wr) := HB0.out.trans (hbk.mono HB0.out.size)
    have HEA : Hid (encAll f (ts.take i) = some a) := hea
    have HAL : Hid (a.length ≤ ((ts.take i).map F).sum) := hal
    have hxs : x.size = hh.length + a.length := by rw [← list_len, hxa, List.length_append]
    have HXS : Hid (x.size = hh.length + a.length) := hxs
    obtain ⟨z0, z1, z2, z3, zf⟩ := prow4 (keep_row HROW.out HBK.out)
    clear hbk hea hal hxa hxs
    by_cases hlt : i < m
    · have hix : i < ts.length := by rw [HM.out]; exact hlt
      have hT2 : RpB (fun g => g < B) k (RpL (fun g => g < B) k wr) wr (.slice P m c) ts := HT.out.keep (fun g hg hl => ⟨hg, HBW.out.block g (Nat.lt_of_lt_of_le hg hBw)⟩) (fun v t hh => hh.keep (fun g hg hl => ⟨hg, HBW.out.block g (Nat.lt_of_lt_of_le hg hBw)⟩))
      obtain ⟨g, o, l2, hP, d0, d1, d2, d3, d4⟩ := elist_cell hT2 i hix
      have hsn := HSN.out i hix
      have hst := HST.out (i + 1)
      have hstp : ∀ b, f ts[i] = some b → encAll f (ts.take (i + 1)) = some (a ++ b) := fun b hb => encAll_step f ts i hix a b HEA.out hb
      have hnon : f ts[i] = none → encAll f ts = none := encAll_none f ts i hix
      obtain ⟨X, hX⟩ : ∃ X, ts[i] = X := ⟨_, rfl⟩
      have hxm : X ∈ ts := by rw [← hX]; exact List.getElem_mem hix
      rw [hX] at d0 d1 d2 d4 hsn hstp hnon
      have hfl := HF.out X hxm
      obtain ⟨LP, lc, hl2⟩ := d4.form
      subst hl2
      subst hP
      obtain ⟨XL, hXL⟩ : ∃ XL, X.list.length = XL := ⟨_, rfl⟩
      obtain ⟨XT, hXT⟩ : ∃ XT, strB X.text = XT := ⟨_, rfl⟩
      rw [hXL] at d3 d4
      rw [hXT] at d1
      have hz0 : (0 : Int) ≤ (i : Int) := by omega
      have hz1 : (i : Int) < (m : Int) := by omega
      have hBwr : B ≤ wr.heap.size := Nat.le_trans hBw HBW.out.size
      have HCC : Hid (Calls Tryz.prog 20 #[.agg #[.int .i64 X.kind, .string XT, .int .i64 X.n, .slice LP XL lc], .int .i64 3, .int .i64 (D + 1)] wr fun e w' => EncIs (f X) wr w' e) := by
        have h9 := HIH.out X hxm (.slice LP XL lc) wr (HBW.out.mono hBw) hBwr d4
        rw [hXT] at h9
        exact h9
      have HSN2 : Hid _ := hsn
      have HST2 : Hid (((ts.take (i + 1)).map F).sum ≤ (ts.map F).sum) := hst
      have HSTP : Hid (∀ b, f X = some b → encAll f (ts.take (i + 1)) = some (a ++ b)) := hstp
      have HNON : Hid (f X = none → encAll f ts = none) := hnon
      have HFL : Hid (∀ b, f X = some b → b.length ≤ F X) := hfl
      clear hX hix hxm hT2 d4 hXL hXT hfl hsn hst hstp hnon
      cases hfx : f X with
      | none =>
        rw [hfx] at HCC
        have HNO : Hid (OA = none) := by show _ = _; rw [← HOA.out]; exact HNON.out hfx
        clear hfx HNON HSTP HFL
        go_wp2_with fail
        refine (show Calls _ _ _ _ _ from HCC.out).mono ?_
        rintro e w5 ⟨rfl, hbk5⟩
        have HB5 : Hid (Below w.heap.size w w5) := HBW.out.trans (hbk5.mono HBW.out.size)
        clear hbk5 z0 z1 z2 z3 zf d0 d1 d2 d3
        go_wp2
        go_returns
        rw [HNO.out]
        exact ⟨rfl, HB5.out⟩
      | some q =>
        rw [hfx] at HCC
        have HQ1 : Hid (encAll f (ts.take (i + 1)) = some (a ++ q)) := HSTP.out q hfx
        have HQ2 : Hid ((a ++ q).length ≤ ((ts.take (i + 1)).map F).sum) := by
          show _ ≤ _
          have h1 := HFL.out q hfx
          have h2 := HSN2.out
          have h3 := HAL.out
          rw [List.length_append]; omega
        obtain ⟨Q, hQ⟩ : ∃ Q, strB q = Q := ⟨_, rfl⟩
        have hqs : Q.size = q.length := by rw [← hQ]; exact strB_size q
        have HQL : Hid (Q.data.toList = q) := by show _ = _; rw [← hQ]; exact strB_list q
        have hxq : x.size + Q.size ≤ 140737488354000 := by
          have h1 := HQ2.out
          have h2 := HST2.out
          have h3 := HLEN.out
          have h4 := HHL.out
          have h5 := HXS.out
          rw [List.length_append] at h1
          omega
        have HCC2 : Hid (Calls Tryz.prog 20 #[.agg #[.int .i64 X.kind, .string XT, .int .i64 X.n, .slice LP XL lc], .int .i64 3, .int .i64 (D + 1)] wr fun e w' => e = .returned (.tuple #[.string Q, .int .i64 0]) ∧ Below wr.heap.size wr w') := by
          have h9 := HCC.out
          subst hQ
          exact h9
        have HX2 : Hid ((x ++ Q).data.toList = hh ++ (a ++ q)) := by show _ = _; rw [cat2, HXA.out, HQL.out, List.append_assoc]
        clear hfx HNON HSTP HFL hQ HCC hqs
        go_wp2_with fail
        refine (show Calls _ _ _ _ _ from HCC2.out).mono ?_
        rintro e w5 ⟨rfl, hbk5⟩
        have HB5 : Hid (Below W0.heap.size W0 w5) := HBK.out.trans (hbk5.mono HBK.out.size)
        clear hbk5 z0 z1 z2 z3 zf d0 d1 d2 d3 HCC2
        go_wp2
        go_roundw
        case rel => exact ⟨i + 1, a ++ q, x ++ Q, ⟨hlt, HQ1.out, HQ2.out, HX2.out, HB5.out⟩, rfl, rfl⟩
        case measure => simp [intOf]; omega
    · have hin : i = m := by omega
      subst hin
      have etk : ts.take i = ts := List.take_of_length_le (by rw [HM.out]; exact Nat.le_refl _)
      have HYES : Hid (OA = some a) := by show _ = _; rw [← HOA.out, ← HEA.out, etk]
      clear etk
      go_wp2
      go_returns
      rw [HYES.out]
      exact ⟨by rw [as_strB HXA.out]; rfl, HBW.out⟩
set_option maxRecDepth 20000 in
set_option maxHeartbeats 8000000 in
theorem rlist3_6 (k B : Nat) (D n : Int) (s : ByteArray) (lv : Value) (ts : List (Rn (Rp k))) (f : Rn (Rp k) → Option By) (F : Rn (Rp k) → Nat) (hF : ∀ X ∈ ts, ∀ a, f X = some a → a.length ≤ F X) (hev : ts.length % 2 = 0) (hn : ts.length ≤ 1073741824)
    (hD0 : 1 ≤ D) (hD : D ≤ 32) (w : World) (hlen : 30 + (ts.map F).sum ≤ 70368744177000) (hBw : B ≤ w.heap.size) (hT : RpB (fun g => g < B) k (RpL (fun g => g < B) k w) w lv ts)
    (IH : ∀ X ∈ ts, ∀ (v : Value) (W : World), Below B w W → B ≤ W.heap.size → RpL (fun g => g < B) k W v X.list → Calls Tryz.prog 20 #[.agg #[.int .i64 X.kind, .string (strB X.text), .int .i64 X.n, v], .int .i64 3, .int .i64 (D + 1)] W fun e w' => EncIs (f X) W w' e) :
    Calls Tryz.prog 32 #[.agg #[.int .i64 6, .string s, .int .i64 n, lv], .bool true, .int .i64 D, .int .i64 3] w fun e w' => EncIs (behind (37 :: (Lib.itoa (((ts.length / 2) : Nat) : Int) ++ [13, 10])) (encAll f ts)) w w' e := by
  obtain ⟨P, c, rfl⟩ : ∃ P c, lv = .slice P ts.length c := by obtain ⟨P, c, e, _⟩ := hT; exact ⟨P, c, e⟩
  obtain ⟨m, hm⟩ : ∃ m, ts.length = m := ⟨_, rfl⟩
  have HM : Hid (ts.length = m) := hm
  have HT : Hid (RpB (fun g => g < B) k (RpL (fun g => g < B) k w) w (.slice P m c) ts) := hm ▸ hT
  rw [hm] at hev hn ⊢
  obtain ⟨cnt, hcnt⟩ : ∃ cnt, cnt = m / 2 := ⟨_, rfl⟩
  rw [← hcnt]
  obtain ⟨hh, hhd⟩ : ∃ hh, 37 :: (Lib.itoa (cnt : Int) ++ [13, 10]) = hh := ⟨_, rfl⟩
  rw [hhd]
  obtain ⟨OA, hOA⟩ : ∃ o, encAll f ts = o := ⟨_, rfl⟩
  rw [hOA]
  have HOA : Hid (encAll f ts = OA) := hOA
  have HIH : Hid _ := IH
  have HF : Hid (∀ X ∈ ts, ∀ a, f X = some a → a.length ≤ F X) := hF
  have HLEN : Hid (30 + (ts.map F).sum ≤ 70368744177000) := hlen
  obtain ⟨W0, hW0⟩ : ∃ W, W = w.alloc (.cells #[.int .i64 6, .string s, .int .i64 n, .slice P m c] 24) := ⟨_, rfl⟩
  have hb0 : Below w.heap.size w W0 := by rw [hW0]; exact (Below.refl _ _).alloc (Nat.le_refl _) _
  obtain ⟨r4, hr4⟩ : ∃ r, w.heap.size = r := ⟨_, rfl⟩
  have hrow0 : W0.heap[r4]? = some (.cells #[.int .i64 6, .string s, .int .i64 n, .slice P m c] 24) := by rw [hW0, ← hr4]; exact one_alloc _ _
  have HB0 : Hid (Below w.heap.size w W0) := hb0
  have HROW : Hid (W0.heap[r4]? = some (.cells #[.int .i64 6, .string s, .int .i64 n, .slice P m c] 24)) := hrow0
  have HR4 : Hid (w.heap.size = r4) := hr4
  obtain ⟨z0, z1, z2, z3, zf⟩ := prow4 hrow0
  have hDw : IntKind.i64.wrap (D + 1) = D + 1 := by rw [IntKind.wrap_i64] <;> omega
  have hDn : ¬ (32 < D) := by omega
  have hcb : cnt ≤ 1073741824 := by omega
  have hIs := itoaB_len (cnt : Int) (by omega) (by omega)
  obtain ⟨I, hI⟩ : ∃ I, itoaB (cnt : Int) = I := ⟨_, rfl⟩
  have HDG : Hid (Calls Tryz.prog 31 #[.int .i64 (cnt : Int)] W0 fun e w' => e = .returned (.string I) ∧ Below W0.heap.size W0 w') := hI ▸ refDigits_any (cnt : Int) (by omega) (by omega) W0
  have HV : Hid (((⟨#[37]⟩ : ByteArray) ++ I ++ ⟨#[13, 10]⟩).data.toList = hh) := by
    show _ = _
    rw [cat2, cat2, ← hI, itoaB_list, ← hhd]; simp
  rw [hI] at hIs
  have hil := Lib.itoa_length_le (cnt : Int) (by omega) (by omega)
  have HHL : Hid (hh.length ≤ 30) := by
    show _ ≤ _
    rw [← hhd]; simp only [List.length_cons, List.length_append, List.length_nil]; omega
  have HSN : Hid (∀ i (hi : i < ts.length), ((ts.take (i + 1)).map F).sum = ((ts.take i).map F).sum + F ts[i]) := fun i hi => sum_step ts F i hi
  have HST : Hid (∀ i, ((ts.take i).map F).sum ≤ (ts.map F).sum) := fun i => sum_take ts F i
  have hem : ((m : Int) % 2 != 0) = false := by
    have : (m : Int) % 2 = 0 := by omega
    rw [this]; rfl
  have hem2 : ((m : Int).tmod 2 != 0) = false := by rw [Int.tmod_eq_emod_of_nonneg (by omega)]; exact hem
  have hdm : (m : Int) / 2 = (cnt : Int) := by omega
  have hdm2 : (m : Int).tdiv 2 = (cnt : Int) := by rw [Int.tdiv_eq_ediv_of_nonneg (by omega)]; exact hdm
  clear hT IH hb0 hr4 hrow0 hm hlen hev hcnt hOA hF hI hil hhd
  go_enter Tryz.func32, Tryz.ntmps32
  go_upto_region 1 with fail
  rw [← hW0, HR4.out]
  clear hW0
  go_wp2_with fail
  refine (show Calls _ _ _ _ _ from HDG.out).mono ?_
  rintro e w1 ⟨rfl, hb1⟩
  have HB1 : Hid (Below W0.heap.size W0 w1) := hb1
  clear hb1 z0 z1 z2 z3 zf HDG
  go_wp2
  obtain ⟨X0, hX0⟩ : ∃ X, (⟨#[37]⟩ : ByteArray) ++ I ++ ⟨#[13, 10]⟩ = X := ⟨_, rfl⟩
  rw [hX0] at HV ⊢
  clear hX0
  go_loopw [12, 13] (fun cx ci wr => ∃ (i : Nat) (a : By) (x : ByteArray), (i ≤ m ∧ encAll f (ts.take i) = some a ∧ a.length ≤ ((ts.take i).map F).sum ∧ x.data.toList = hh ++ a ∧ Below W0.heap.size W0 wr) ∧ cx = .string x ∧ ci = .int .i64 (i : Int)) (fun _ ci _ => m - (intOf ci).toNat)
  case atStart => exact ⟨0, [], X0, ⟨Nat.zero_le _, rfl, Nat.zero_le _, by simpa using HV.out, HB1.out⟩, rfl, rfl⟩
  case round =>
    obtain ⟨i, a, x, ⟨hi, hea, hal, hxa, hbk⟩, rfl, rfl⟩ := hrel
    have HXA : Hid (x.data.toList = hh ++ a) := hxa
    have HBK : Hid (Below W0.heap.size W0 wr) := hbk
    have HBW : Hid (Below w.heap.size w wr) := HB0.out.trans (hbk.mono HB0.out.size)
    have HEA : Hid (encAll f (ts.take i) = some a) := hea
    have HAL : Hid (a.length ≤ ((ts.take i).map F).sum) := hal
    have hxs : x.size = hh.length + a.length := by rw [← list_len, hxa, List.length_append]
    have HXS : Hid (x.size = hh.length + a.length) := hxs
    obtain ⟨z0, z1, z2, z3, zf⟩ := prow4 (keep_row HROW.out HBK.out)
    clear hbk hea hal hxa hxs
    by_cases hlt : i < m
    · have hix : i < ts.length := by rw [HM.out]; exact hlt
      have hT2 : RpB (fun g => g < B) k (RpL (fun g => g < B) k wr) wr (.slice P m c) ts := HT.out.keep (fun g hg hl => ⟨hg, HBW.out.block g (Nat.lt_of_lt_of_le hg hBw)⟩) (fun v t hh => hh.keep (fun g hg hl => ⟨hg, HBW.out.block g (Nat.lt_of_lt_of_le hg hBw)⟩))
      obtain ⟨g, o, l2, hP, d0, d1, d2, d3, d4⟩ := elist_cell hT2 i hix
      have hsn := HSN.out i hix
      have hst := HST.out (i + 1)
      have hstp : ∀ b, f ts[i] = some b → encAll f (ts.take (i + 1)) = some (a ++ b) := fun b hb => encAll_step f ts i hix a b HEA.out hb
      have hnon : f ts[i] = none → encAll f ts = none := encAll_none f ts i hix
      obtain ⟨X, hX⟩ : ∃ X, ts[i] = X := ⟨_, rfl⟩
      have hxm : X ∈ ts := by rw [← hX]; exact List.getElem_mem hix
      rw [hX] at d0 d1 d2 d4 hsn hstp hnon
      have hfl := HF.out X hxm
      obtain ⟨LP, lc, hl2⟩ := d4.form
      subst hl2
      subst hP
      obtain ⟨XL, hXL⟩ : ∃ XL, X.list.length = XL := ⟨_, rfl⟩
      obtain ⟨XT, hXT⟩ : ∃ XT, strB X.text = XT := ⟨_, rfl⟩
      rw [hXL] at d3 d4
      rw [hXT] at d1
      have hz0 : (0 : Int) ≤ (i : Int) := by omega
      have hz1 : (i : Int) < (m : Int) := by omega
      have hBwr : B ≤ wr.heap.size := Nat.le_trans hBw HBW.out.size
      have HCC : Hid (Calls Tryz.prog 20 #[.agg #[.int .i64 X.kind, .string XT, .int .i64 X.n, .slice LP XL lc], .int .i64 3, .int .i64 (D + 1)] wr fun e w' => EncIs (f X) wr w' e) := by
        have h9 := HIH.out X hxm (.slice LP XL lc) wr (HBW.out.mono hBw) hBwr d4
        rw [hXT] at h9
        exact h9
      have HSN2 : Hid _ := hsn
      have HST2 : Hid (((ts.take (i + 1)).map F).sum ≤ (ts.map F).sum) := hst
      have HSTP : Hid (∀ b, f X = some b → encAll f (ts.take (i + 1)) = some (a ++ b)) := hstp
      have HNON : Hid (f X = none → encAll f ts = none) := hnon
      have HFL : Hid (∀ b, f X = some b → b.length ≤ F X) := hfl
      clear hX hix hxm hT2 d4 hXL hXT hfl hsn hst hstp hnon
      cases hfx : f X with
      | none =>
        rw [hfx] at HCC
        have HNO : Hid (OA = none) := by show _ = _; rw [← HOA.out]; exact HNON.out hfx
        clear hfx HNON HSTP HFL
        go_wp2_with fail
        refine (show Calls _ _ _ _ _ from HCC.out).mono ?_
        rintro e w5 ⟨rfl, hbk5⟩
        have HB5 : Hid (Below w.heap.size w w5) := HBW.out.trans (hbk5.mono HBW.out.size)
        clear hbk5 z0 z1 z2 z3 zf d0 d1 d2 d3
        go_wp2
        go_returns
        rw [HNO.out]
        exact ⟨rfl, HB5.out⟩
      | some q =>
        rw [hfx] at HCC
        have HQ1 : Hid (encAll f (ts.take (i + 1)) = some (a ++ q)) := HSTP.out q hfx
        have HQ2 : Hid ((a ++ q).length ≤ ((ts.take (i + 1)).map F).sum) := by
          show _ ≤ _
          have h1 := HFL.out q hfx
          have h2 := HSN2.out
          have h3 := HAL.out
          rw [List.length_append]; omega
        obtain ⟨Q, hQ⟩ : ∃ Q, strB q = Q := ⟨_, rfl⟩
        have hqs : Q.size = q.length := by rw [← hQ]; exact strB_size q
        have HQL : Hid (Q.data.toList = q) := by show _ = _; rw [← hQ]; exact strB_list q
        have hxq : x.size + Q.size ≤ 140737488354000 := by
          have h1 := HQ2.out
          have h2 := HST2.out
          have h3 := HLEN.out
          have h4 := HHL.out
          have h5 := HXS.out
          rw [List.length_append] at h1
          omega
        have HCC2 : Hid (Calls Tryz.prog 20 #[.agg #[.int .i64 X.kind, .string XT, .int .i64 X.n, .slice LP XL lc], .int .i64 3, .int .i64 (D + 1)] wr fun e w' => e = .returned (.tuple #[.string Q, .int .i64 0]) ∧ Below wr.heap.size wr w') := by
          have h9 := HCC.out
          subst hQ
          exact h9
        have HX2 : Hid ((x ++ Q).data.toList = hh ++ (a ++ q)) := by show _ = _; rw [cat2, HXA.out, HQL.out, List.append_assoc]
        clear hfx HNON HSTP HFL hQ HCC hqs
        go_wp2_with fail
        refine (show Calls _ _ _ _ _ from HCC2.out).mono ?_
        rintro e w5 ⟨rfl, hbk5⟩
        have HB5 : Hid (Below W0.heap.size W0 w5) := HBK.out.trans (hbk5.mono HBK.out.size)
        clear hbk5 z0 z1 z2 z3 zf d0 d1 d2 d3 HCC2
        go_wp2
        go_roundw
        case rel => exact ⟨i + 1, a ++ q, x ++ Q, ⟨hlt, HQ1.out, HQ2.out, HX2.out, HB5.out⟩, rfl, rfl⟩
        case measure => simp [intOf]; omega
    · have hin : i = m := by omega
      subst hin
      have etk : ts.take i = ts := List.take_of_length_le (by rw [HM.out]; exact Nat.le_refl _)
      have HYES : Hid (OA = some a) := by show _ = _; rw [← HOA.out, ← HEA.out, etk]
      clear etk
      go_wp2
      go_returns
      rw [HYES.out]
      exact ⟨by rw [as_strB HXA.out]; rfl, HBW.out⟩
set_option maxRecDepth 20000 in
set_option maxHeartbeats 8000000 in
theorem rlist3_7 (k B : Nat) (D n : Int) (s : ByteArray) (lv : Value) (ts : List (Rn (Rp k))) (f : Rn (Rp k) → Option By) (F : Rn (Rp k) → Nat) (hF : ∀ X ∈ ts, ∀ a, f X = some a → a.length ≤ F X) (hn : ts.length ≤ 1073741824)
    (hD0 : 1 ≤ D) (hD : D ≤ 32) (w : World) (hlen : 30 + (ts.map F).sum ≤ 70368744177000) (hBw : B ≤ w.heap.size) (hT : RpB (fun g => g < B) k (RpL (fun g => g < B) k w) w lv ts)
    (IH : ∀ X ∈ ts, ∀ (v : Value) (W : World), Below B w W → B ≤ W.heap.size → RpL (fun g => g < B) k W v X.list → Calls Tryz.prog 20 #[.agg #[.int .i64 X.kind, .string (strB X.text), .int .i64 X.n, v], .int .i64 3, .int .i64 (D + 1)] W fun e w' => EncIs (f X) W w' e) :
    Calls Tryz.prog 32 #[.agg #[.int .i64 7, .string s, .int .i64 n, lv], .bool true, .int .i64 D, .int .i64 3] w fun e w' => EncIs (behind (126 :: (Lib.itoa ((ts.length : Nat) : Int) ++ [13, 10])) (encAll f ts)) w w' e := by
  obtain ⟨P, c, rfl⟩ : ∃ P c, lv = .slice P ts.length c := by obtain ⟨P, c, e, _⟩ := hT; exact ⟨P, c, e⟩
  obtain ⟨m, hm⟩ : ∃ m, ts.length = m := ⟨_, rfl⟩
  have HM : Hid (ts.length = m) := hm
  have HT : Hid (RpB (fun g => g < B) k (RpL (fun g => g < B) k w) w (.slice P m c) ts) := hm ▸ hT
  rw [hm] at hn ⊢
  obtain ⟨cnt, hcnt⟩ : ∃ cnt, cnt = m := ⟨_, rfl⟩
  rw [← hcnt]
  obtain ⟨hh, hhd⟩ : ∃ hh, 126 :: (Lib.itoa (cnt : Int) ++ [13, 10]) = hh := ⟨_, rfl⟩
  rw [hhd]
  obtain ⟨OA, hOA⟩ : ∃ o, encAll f ts = o := ⟨_, rfl⟩
  rw [hOA]
  have HOA : Hid (encAll f ts = OA) := hOA
  have HIH : Hid _ := IH
  have HF : Hid (∀ X ∈ ts, ∀ a, f X = some a → a.length ≤ F X) := hF
  have HLEN : Hid (30 + (ts.map F).sum ≤ 70368744177000) := hlen
  obtain ⟨W0, hW0⟩ : ∃ W, W = w.alloc (.cells #[.int .i64 7, .string s, .int .i64 n, .slice P m c] 24) := ⟨_, rfl⟩
  have hb0 : Below w.heap.size w W0 := by rw [hW0]; exact (Below.refl _ _).alloc (Nat.le_refl _) _
  obtain ⟨r4, hr4⟩ : ∃ r, w.heap.size = r := ⟨_, rfl⟩
  have hrow0 : W0.heap[r4]? = some (.cells #[.int .i64 7, .string s, .int .i64 n, .slice P m c] 24) := by rw [hW0, ← hr4]; exact one_alloc _ _
  have HB0 : Hid (Below w.heap.size w W0) := hb0
  have HROW : Hid (W0.heap[r4]? = some (.cells #[.int .i64 7, .string s, .int .i64 n, .slice P m c] 24)) := hrow0
  have HR4 : Hid (w.heap.size = r4) := hr4
  obtain ⟨z0, z1, z2, z3, zf⟩ := prow4 hrow0
  have hDw : IntKind.i64.wrap (D + 1) = D + 1 := by rw [IntKind.wrap_i64] <;> omega
  have hDn : ¬ (32 < D) := by omega
  have hcb : cnt ≤ 1073741824 := by omega
  have hIs := itoaB_len (cnt : Int) (by omega) (by omega)
  obtain ⟨I, hI⟩ : ∃ I, itoaB (cnt : Int) = I := ⟨_, rfl⟩
  have HDG : Hid (Calls Tryz.prog 31 #[.int .i64 (cnt : Int)] W0 fun e w' => e = .returned (.string I) ∧ Below W0.heap.size W0 w') := hI ▸ refDigits_any (cnt : Int) (by omega) (by omega) W0
  have HV : Hid (((⟨#[126]⟩ : ByteArray) ++ I ++ ⟨#[13, 10]⟩).data.toList = hh) := by
    show _ = _
    rw [cat2, cat2, ← hI, itoaB_list, ← hhd]; simp
  rw [hI] at hIs
  have hil := Lib.itoa_length_le (cnt : Int) (by omega) (by omega)
  have HHL : Hid (hh.length ≤ 30) := by
    show _ ≤ _
    rw [← hhd]; simp only [List.length_cons, List.length_append, List.length_nil]; omega
  have HSN : Hid (∀ i (hi : i < ts.length), ((ts.take (i + 1)).map F).sum = ((ts.take i).map F).sum + F ts[i]) := fun i hi => sum_step ts F i hi
  have HST : Hid (∀ i, ((ts.take i).map F).sum ≤ (ts.map F).sum) := fun i => sum_take ts F i
  have hcm : m = cnt := hcnt.symm
  clear hT IH hb0 hr4 hrow0 hm hlen hcnt hOA hF hI hil hhd
  subst hcm
  go_enter Tryz.func32, Tryz.ntmps32
  go_upto_region 1 with fail
  rw [← hW0, HR4.out]
  clear hW0
  go_wp2_with fail
  refine (show Calls _ _ _ _ _ from HDG.out).mono ?_
  rintro e w1 ⟨rfl, hb1⟩
  have HB1 : Hid (Below W0.heap.size W0 w1) := hb1
  clear hb1 z0 z1 z2 z3 zf HDG
  go_wp2
  obtain ⟨X0, hX0⟩ : ∃ X, (⟨#[126]⟩ : ByteArray) ++ I ++ ⟨#[13, 10]⟩ = X := ⟨_, rfl⟩
  rw [hX0] at HV ⊢
  clear hX0
  go_loopw [12, 13] (fun cx ci wr => ∃ (i : Nat) (a : By) (x : ByteArray), (i ≤ m ∧ encAll f (ts.take i) = some a ∧ a.length ≤ ((ts.take i).map F).sum ∧ x.data.toList = hh ++ a ∧ Below W0.heap.size W0 wr) ∧ cx = .string x ∧ ci = .int .i64 (i : Int)) (fun _ ci _ => m - (intOf ci).toNat)
  case atStart => exact ⟨0, [], X0, ⟨Nat.zero_le _, rfl, Nat.zero_le _, by simpa using HV.out, HB1.out⟩, rfl, rfl⟩
  case round =>
    obtain ⟨i, a, x, ⟨hi, hea, hal, hxa, hbk⟩, rfl, rfl⟩ := hrel
    have HXA : Hid (x.data.toList = hh ++ a) := hxa
    have HBK : Hid (Below W0.heap.size W0 wr) := hbk
    have HBW : Hid (Below w.heap.size w wr) := HB0.out.trans (hbk.mono HB0.out.size)
    have HEA : Hid (encAll f (ts.take i) = some a) := hea
    have HAL : Hid (a.length ≤ ((ts.take i).map F).sum) := hal
    have hxs : x.size = hh.length + a.length := by rw [← list_len, hxa, List.length_append]
    have HXS : Hid (x.size = hh.length + a.length) := hxs
    obtain ⟨z0, z1, z2, z3, zf⟩ := prow4 (keep_row HROW.out HBK.out)
    clear hbk hea hal hxa hxs
    by_cases hlt : i < m
    · have hix : i < ts.length := by rw [HM.out]; exact hlt
      have hT2 : RpB (fun g => g < B) k (RpL (fun g => g < B) k wr) wr (.slice P m c) ts := HT.out.keep (fun g hg hl => ⟨hg, HBW.out.block g (Nat.lt_of_lt_of_le hg hBw)⟩) (fun v t hh => hh.keep (fun g hg hl => ⟨hg, HBW.out.block g (Nat.lt_of_lt_of_le hg hBw)⟩))
      obtain ⟨g, o, l2, hP, d0, d1, d2, d3, d4⟩ := elist_cell hT2 i hix
      have hsn := HSN.out i hix
      have hst := HST.out (i + 1)
      have hstp : ∀ b, f ts[i] = some b → encAll f (ts.take (i + 1)) = some (a ++ b) := fun b hb => encAll_step f ts i hix a b HEA.out hb
      have hnon : f ts[i] = none → encAll f ts = none := encAll_none f ts i hix
      obtain ⟨X, hX⟩ : ∃ X, ts[i] = X := ⟨_, rfl⟩
      have hxm : X ∈ ts := by rw [← hX]; exact List.getElem_mem hix
      rw [hX] at d0 d1 d2 d4 hsn hstp hnon
      have hfl := HF.out X hxm
      obtain ⟨LP, lc, hl2⟩ := d4.form
      subst hl2
      subst hP
      obtain ⟨XL, hXL⟩ : ∃ XL, X.list.length = XL := ⟨_, rfl⟩
      obtain ⟨XT, hXT⟩ : ∃ XT, strB X.text = XT := ⟨_, rfl⟩
      rw [hXL] at d3 d4
      rw [hXT] at d1
      have hz0 : (0 : Int) ≤ (i : Int) := by omega
      have hz1 : (i : Int) < (m : Int) := by omega
      have hBwr : B ≤ wr.heap.size := Nat.le_trans hBw HBW.out.size
      have HCC : Hid (Calls Tryz.prog 20 #[.agg #[.int .i64 X.kind, .string XT, .int .i64 X.n, .slice LP XL lc], .int .i64 3, .int .i64 (D + 1)] wr fun e w' => EncIs (f X) wr w' e) := by
        have h9 := HIH.out X hxm (.slice LP XL lc) wr (HBW.out.mono hBw) hBwr d4
        rw [hXT] at h9
        exact h9
      have HSN2 : Hid _ := hsn
      have HST2 : Hid (((ts.take (i + 1)).map F).sum ≤ (ts.map F).sum) := hst
      have HSTP : Hid (∀ b, f X = some b → encAll f (ts.take (i + 1)) = some (a ++ b)) := hstp
      have HNON : Hid (f X = none → encAll f ts = none) := hnon
      have HFL : Hid (∀ b, f X = some b → b.length ≤ F X) := hfl
      clear hX hix hxm hT2 d4 hXL hXT hfl hsn hst hstp hnon
      cases hfx : f X with
      | none =>
        rw [hfx] at HCC
        have HNO : Hid (OA = none) := by show _ = _; rw [← HOA.out]; exact HNON.out hfx
        clear hfx HNON HSTP HFL
        go_wp2_with fail
        refine (show Calls _ _ _ _ _ from HCC.out).mono ?_
        rintro e w5 ⟨rfl, hbk5⟩
        have HB5 : Hid (Below w.heap.size w w5) := HBW.out.trans (hbk5.mono HBW.out.size)
        clear hbk5 z0 z1 z2 z3 zf d0 d1 d2 d3
        go_wp2
        go_returns
        rw [HNO.out]
        exact ⟨rfl, HB5.out⟩
      | some q =>
        rw [hfx] at HCC
        have HQ1 : Hid (encAll f (ts.take (i + 1)) = some (a ++ q)) := HSTP.out q hfx
        have HQ2 : Hid ((a ++ q).length ≤ ((ts.take (i + 1)).map F).sum) := by
          show _ ≤ _
          have h1 := HFL.out q hfx
          have h2 := HSN2.out
          have h3 := HAL.out
          rw [List.length_append]; omega
        obtain ⟨Q, hQ⟩ : ∃ Q, strB q = Q := ⟨_, rfl⟩
        have hqs : Q.size = q.length := by rw [← hQ]; exact strB_size q
        have HQL : Hid (Q.data.toList = q) := by show _ = _; rw [← hQ]; exact strB_list q
        have hxq : x.size + Q.size ≤ 140737488354000 := by
          have h1 := HQ2.out
          have h2 := HST2.out
          have h3 := HLEN.out
          have h4 := HHL.out
          have h5 := HXS.out
          rw [List.length_append] at h1
          omega
        have HCC2 : Hid (Calls Tryz.prog 20 #[.agg #[.int .i64 X.kind, .string XT, .int .i64 X.n, .slice LP XL lc], .int .i64 3, .int .i64 (D + 1)] wr fun e w' => e = .returned (.tuple #[.string Q, .int .i64 0]) ∧ Below wr.heap.size wr w') := by
          have h9 := HCC.out
          subst hQ
          exact h9
        have HX2 : Hid ((x ++ Q).data.toList = hh ++ (a ++ q)) := by show _ = _; rw [cat2, HXA.out, HQL.out, List.append_assoc]
        clear hfx HNON HSTP HFL hQ HCC hqs
        go_wp2_with fail
        refine (show Calls _ _ _ _ _ from HCC2.out).mono ?_
        rintro e w5 ⟨rfl, hbk5⟩
        have HB5 : Hid (Below W0.heap.size W0 w5) := HBK.out.trans (hbk5.mono HBK.out.size)
        clear hbk5 z0 z1 z2 z3 zf d0 d1 d2 d3 HCC2
        go_wp2
        go_roundw
        case rel => exact ⟨i + 1, a ++ q, x ++ Q, ⟨hlt, HQ1.out, HQ2.out, HX2.out, HB5.out⟩, rfl, rfl⟩
        case measure => simp [intOf]; omega
    · have hin : i = m := by omega
      subst hin
      have etk : ts.take i = ts := List.take_of_length_le (by rw [HM.out]; exact Nat.le_refl _)
      have HYES : Hid (OA = some a) := by show _ = _; rw [← HOA.out, ← HEA.out, etk]
      clear etk
      go_wp2
      go_returns
      rw [HYES.out]
      exact ⟨by rw [as_strB HXA.out]; rfl, HBW.out⟩
set_option maxRecDepth 20000 in
set_option maxHeartbeats 8000000 in
theorem rlist3_8 (k B : Nat) (D n : Int) (s : ByteArray) (lv : Value) (ts : List (Rn (Rp k))) (f : Rn (Rp k) → Option By) (F : Rn (Rp k) → Nat) (hF : ∀ X ∈ ts, ∀ a, f X = some a → a.length ≤ F X) (hn : ts.length ≤ 1073741824)
    (hD0 : 1 ≤ D) (hD : D ≤ 32) (w : World) (hlen : 30 + (ts.map F).sum ≤ 70368744177000) (hBw : B ≤ w.heap.size) (hT : RpB (fun g => g < B) k (RpL (fun g => g < B) k w) w lv ts)
    (IH : ∀ X ∈ ts, ∀ (v : Value) (W : World), Below B w W → B ≤ W.heap.size → RpL (fun g => g < B) k W v X.list → Calls Tryz.prog 20 #[.agg #[.int .i64 X.kind, .string (strB X.text), .int .i64 X.n, v], .int .i64 3, .int .i64 (D + 1)] W fun e w' => EncIs (f X) W w' e) :
    Calls Tryz.prog 32 #[.agg #[.int .i64 8, .string s, .int .i64 n, lv], .bool true, .int .i64 D, .int .i64 3] w fun e w' => EncIs (behind (62 :: (Lib.itoa ((ts.length : Nat) : Int) ++ [13, 10])) (encAll f ts)) w w' e := by
  obtain ⟨P, c, rfl⟩ : ∃ P c, lv = .slice P ts.length c := by obtain ⟨P, c, e, _⟩ := hT; exact ⟨P, c, e⟩
  obtain ⟨m, hm⟩ : ∃ m, ts.length = m := ⟨_, rfl⟩
  have HM : Hid (ts.length = m) := hm
  have HT : Hid (RpB (fun g => g < B) k (RpL (fun g => g < B) k w) w (.slice P m c) ts) := hm ▸ hT
  rw [hm] at hn ⊢
  obtain ⟨cnt, hcnt⟩ : ∃ cnt, cnt = m := ⟨_, rfl⟩
  rw [← hcnt]
  obtain ⟨hh, hhd⟩ : ∃ hh, 62 :: (Lib.itoa (cnt : Int) ++ [13, 10]) = hh := ⟨_, rfl⟩
  rw [hhd]
  obtain ⟨OA, hOA⟩ : ∃ o, encAll f ts = o := ⟨_, rfl⟩
  rw [hOA]
  have HOA : Hid (encAll f ts = OA) := hOA
  have HIH : Hid _ := IH
  have HF : Hid (∀ X ∈ ts, ∀ a, f X = some a → a.length ≤ F X) := hF
  have HLEN : Hid (30 + (ts.map F).sum ≤ 70368744177000) := hlen
  obtain ⟨W0, hW0⟩ : ∃ W, W = w.alloc (.cells #[.int .i64 8, .string s, .int .i64 n, .slice P m c] 24) := ⟨_, rfl⟩
  have hb0 : Below w.heap.size w W0 := by rw [hW0]; exact (Below.refl _ _).alloc (Nat.le_refl _) _
  obtain ⟨r4, hr4⟩ : ∃ r, w.heap.size = r := ⟨_, rfl⟩
  have hrow0 : W0.heap[r4]? = some (.cells #[.int .i64 8, .string s, .int .i64 n, .slice P m c] 24) := by rw [hW0, ← hr4]; exact one_alloc _ _
  have HB0 : Hid (Below w.heap.size w W0) := hb0
  have HROW : Hid (W0.heap[r4]? = some (.cells #[.int .i64 8, .string s, .int .i64 n, .slice P m c] 24)) := hrow0
  have HR4 : Hid (w.heap.size = r4) := hr4
  obtain ⟨z0, z1, z2, z3, zf⟩ := prow4 hrow0
  have hDw : IntKind.i64.wrap (D + 1) = D + 1 := by rw [IntKind.wrap_i64] <;> omega
  have hDn : ¬ (32 < D) := by omega
  have hcb : cnt ≤ 1073741824 := by omega
  have hIs := itoaB_len (cnt : Int) (by omega) (by omega)
  obtain ⟨I, hI⟩ : ∃ I, itoaB (cnt : Int) = I := ⟨_, rfl⟩
  have HDG : Hid (Calls Tryz.prog 31 #[.int .i64 (cnt : Int)] W0 fun e w' => e = .returned (.string I) ∧ Below W0.heap.size W0 w') := hI ▸ refDigits_any (cnt : Int) (by omega) (by omega) W0
  have HV : Hid (((⟨#[62]⟩ : ByteArray) ++ I ++ ⟨#[13, 10]⟩).data.toList = hh) := by
    show _ = _
    rw [cat2, cat2, ← hI, itoaB_list, ← hhd]; simp
  rw [hI] at hIs
  have hil := Lib.itoa_length_le (cnt : Int) (by omega) (by omega)
  have HHL : Hid (hh.length ≤ 30) := by
    show _ ≤ _
    rw [← hhd]; simp only [List.length_cons, List.length_append, List.length_nil]; omega
  have HSN : Hid (∀ i (hi : i < ts.length), ((ts.take (i + 1)).map F).sum = ((ts.take i).map F).sum + F ts[i]) := fun i hi => sum_step ts F i hi
  have HST : Hid (∀ i, ((ts.take i).map F).sum ≤ (ts.map F).sum) := fun i => sum_take ts F i
  have hcm : m = cnt := hcnt.symm
  clear hT IH hb0 hr4 hrow0 hm hlen hcnt hOA hF hI hil hhd
  subst hcm
  go_enter Tryz.func32, Tryz.ntmps32
  go_upto_region 1 with fail
  rw [← hW0, HR4.out]
  clear hW0
  go_wp2_with fail
  refine (show Calls _ _ _ _ _ from HDG.out).mono ?_
  rintro e w1 ⟨rfl, hb1⟩
  have HB1 : Hid (Below W0.heap.size W0 w1) := hb1
  clear hb1 z0 z1 z2 z3 zf HDG
  go_wp2
  obtain ⟨X0, hX0⟩ : ∃ X, (⟨#[62]⟩ : ByteArray) ++ I ++ ⟨#[13, 10]⟩ = X := ⟨_, rfl⟩
  rw [hX0] at HV ⊢
  clear hX0
  go_loopw [12, 13] (fun cx ci wr => ∃ (i : Nat) (a : By) (x : ByteArray), (i ≤ m ∧ encAll f (ts.take i) = some a ∧ a.length ≤ ((ts.take i).map F).sum ∧ x.data.toList = hh ++ a ∧ Below W0.heap.size W0 wr) ∧ cx = .string x ∧ ci = .int .i64 (i : Int)) (fun _ ci _ => m - (intOf ci).toNat)
  case atStart => exact ⟨0, [], X0, ⟨Nat.zero_le _, rfl, Nat.zero_le _, by simpa using HV.out, HB1.out⟩, rfl, rfl⟩
  case round =>
    obtain ⟨i, a, x, ⟨hi, hea, hal, hxa, hbk⟩, rfl, rfl⟩ := hrel
    have HXA : Hid (x.data.toList = hh ++ a) := hxa
    have HBK : Hid (Below W0.heap.size W0 wr) := hbk
    have HBW : Hid (Below w.heap.size w wr) := HB0.out.trans (hbk.mono HB0.out.size)
    have HEA : Hid (encAll f (ts.take i) = some a) := hea
    have HAL : Hid (a.length ≤ ((ts.take i).map F).sum) := hal
    have hxs : x.size = hh.length + a.length := by rw [← list_len, hxa, List.length_append]
    have HXS : Hid (x.size = hh.length + a.length) := hxs
    obtain ⟨z0, z1, z2, z3, zf⟩ := prow4 (keep_row HROW.out HBK.out)
    clear hbk hea hal hxa hxs
    by_cases hlt : i < m
    · have hix : i < ts.length := by rw [HM.out]; exact hlt
      have hT2 : RpB (fun g => g < B) k (RpL (fun g => g < B) k wr) wr (.slice P m c) ts := HT.out.keep (fun g hg hl => ⟨hg, HBW.out.block g (Nat.lt_of_lt_of_le hg hBw)⟩) (fun v t hh => hh.keep (fun g hg hl => ⟨hg, HBW.out.block g (Nat.lt_of_lt_of_le hg hBw)⟩))
      obtain ⟨g, o, l2, hP, d0, d1, d2, d3, d4⟩ := elist_cell hT2 i hix
      have hsn := HSN.out i hix
      have hst := HST.out (i + 1)
      have hstp : ∀ b, f ts[i] = some b → encAll f (ts.take (i + 1)) = some (a ++ b) := fun b hb => encAll_step f ts i hix a b HEA.out hb
      have hnon : f ts[i] = none → encAll f ts = none := encAll_none f ts i hix
      obtain ⟨X, hX⟩ : ∃ X, ts[i] = X := ⟨_, rfl⟩
      have hxm : X ∈ ts := by rw [← hX]; exact List.getElem_mem hix
      rw [hX] at d0 d1 d2 d4 hsn hstp hnon
      have hfl := HF.out X hxm
      obtain ⟨LP, lc, hl2⟩ := d4.form
      subst hl2
      subst hP
      obtain ⟨XL, hXL⟩ : ∃ XL, X.list.length = XL := ⟨_, rfl⟩
      obtain ⟨XT, hXT⟩ : ∃ XT, strB X.text = XT := ⟨_, rfl⟩
      rw [hXL] at d3 d4
      rw [hXT] at d1
      have hz0 : (0 : Int) ≤ (i : Int) := by omega
      have hz1 : (i : Int) < (m : Int) := by omega
      have hBwr : B ≤ wr.heap.size := Nat.le_trans hBw HBW.out.size
      have HCC : Hid (Calls Tryz.prog 20 #[.agg #[.int .i64 X.kind, .string XT, .int .i64 X.n, .slice LP XL lc], .int .i64 3, .int .i64 (D + 1)] wr fun e w' => EncIs (f X) wr w' e) := by
        have h9 := HIH.out X hxm (.slice LP XL lc) wr (HBW.out.mono hBw) hBwr d4
        rw [hXT] at h9
        exact h9
      have HSN2 : Hid _ := hsn
      have HST2 : Hid (((ts.take (i + 1)).map F).sum ≤ (ts.map F).sum) := hst
      have HSTP : Hid (∀ b, f X = some b → encAll f (ts.take (i + 1)) = some (a ++ b)) := hstp
      have HNON : Hid (f X = none → encAll f ts = none) := hnon
      have HFL : Hid (∀ b, f X = some b → b.length ≤ F X) := hfl
      clear hX hix hxm hT2 d4 hXL hXT hfl hsn hst hstp hnon
      cases hfx : f X with
      | none =>
        rw [hfx] at HCC
        have HNO : Hid (OA = none) := by show _ = _; rw [← HOA.out]; exact HNON.out hfx
        clear hfx HNON HSTP HFL
        go_wp2_with fail
        refine (show Calls _ _ _ _ _ from HCC.out).mono ?_
        rintro e w5 ⟨rfl, hbk5⟩
        have HB5 : Hid (Below w.heap.size w w5) := HBW.out.trans (hbk5.mono HBW.out.size)
        clear hbk5 z0 z1 z2 z3 zf d0 d1 d2 d3
        go_wp2
        go_returns
        rw [HNO.out]
        exact ⟨rfl, HB5.out⟩
      | some q =>
        rw [hfx] at HCC
        have HQ1 : Hid (encAll f (ts.take (i + 1)) = some (a ++ q)) := HSTP.out q hfx
        have HQ2 : Hid ((a ++ q).length ≤ ((ts.take (i + 1)).map F).sum) := by
          show _ ≤ _
          have h1 := HFL.out q hfx
          have h2 := HSN2.out
          have h3 := HAL.out
          rw [List.length_append]; omega
        obtain ⟨Q, hQ⟩ : ∃ Q, strB q = Q := ⟨_, rfl⟩
        have hqs : Q.size = q.length := by rw [← hQ]; exact strB_size q
        have HQL : Hid (Q.data.toList = q) := by show _ = _; rw [← hQ]; exact strB_list q
        have hxq : x.size + Q.size ≤ 140737488354000 := by
          have h1 := HQ2.out
          have h2 := HST2.out
          have h3 := HLEN.out
          have h4 := HHL.out
          have h5 := HXS.out
          rw [List.length_append] at h1
          omega
        have HCC2 : Hid (Calls Tryz.prog 20 #[.agg #[.int .i64 X.kind, .string XT, .int .i64 X.n, .slice LP XL lc], .int .i64 3, .int .i64 (D + 1)] wr fun e w' => e = .returned (.tuple #[.string Q, .int .i64 0]) ∧ Below wr.heap.size wr w') := by
          have h9 := HCC.out
          subst hQ
          exact h9
        have HX2 : Hid ((x ++ Q).data.toList = hh ++ (a ++ q)) := by show _ = _; rw [cat2, HXA.out, HQL.out, List.append_assoc]
        clear hfx HNON HSTP HFL hQ HCC hqs
        go_wp2_with fail
        refine (show Calls _ _ _ _ _ from HCC2.out).mono ?_
        rintro e w5 ⟨rfl, hbk5⟩
        have HB5 : Hid (Below W0.heap.size W0 w5) := HBK.out.trans (hbk5.mono HBK.out.size)
        clear hbk5 z0 z1 z2 z3 zf d0 d1 d2 d3 HCC2
        go_wp2
        go_roundw
        case rel => exact ⟨i + 1, a ++ q, x ++ Q, ⟨hlt, HQ1.out, HQ2.out, HX2.out, HB5.out⟩, rfl, rfl⟩
        case measure => simp [intOf]; omega
    · have hin : i = m := by omega
      subst hin
      have etk : ts.take i = ts := List.take_of_length_le (by rw [HM.out]; exact Nat.le_refl _)
      have HYES : Hid (OA = some a) := by show _ = _; rw [← HOA.out, ← HEA.out, etk]
      clear etk
      go_wp2
      go_returns
      rw [HYES.out]
      exact ⟨by rw [as_strB HXA.out]; rfl, HBW.out⟩
end Go.Proofs.YtgiicfgekicfcaaGreatDoor
namespace Go.Proofs.YtgiicfgekicfcaaGreatDoor
open Go.RowKit Vi
set_option linter.unusedVariables false
set_option linter.unusedSimpArgs false
set_option maxRecDepth 20000 in
set_option maxHeartbeats 2000000 in
/-- too deep. -/
theorem rlist_deep (m c : Nat) (P : Option Addr) (kd n D p : Int) (s : ByteArray) (t3 : Bool) (w : World) (hD : 32 < D) :
    Calls Tryz.prog 32 #[.agg #[.int .i64 kd, .string s, .int .i64 n, .slice P m c], .bool t3, .int .i64 D, .int .i64 p] w fun e w' => EncIs none w w' e := by
  obtain ⟨W0, hW0⟩ : ∃ W, W = w.alloc (.cells #[.int .i64 kd, .string s, .int .i64 n, .slice P m c] 24) := ⟨_, rfl⟩
  have HB0 : Hid (Below w.heap.size w W0) := by show Below _ _ _; rw [hW0]; exact (Below.refl _ _).alloc (Nat.le_refl _) _
  obtain ⟨b, hbb⟩ : ∃ b, w.heap.size = b := ⟨_, rfl⟩
  have hr1 : W0.heap[b]? = some (.cells #[.int .i64 kd, .string s, .int .i64 n, .slice P m c] 24) := by rw [hW0, ← hbb]; exact one_alloc _ _
  obtain ⟨z0, z1, z2, z3, zf⟩ := prow4 hr1
  have HBB : Hid (w.heap.size = b) := hbb
  clear hbb hr1
  go_enter Tryz.func32, Tryz.ntmps32
  go_upto_region 1 with fail
  rw [← hW0, HBB.out]
  clear hW0
  go_wp2
  go_returns
  exact ⟨rfl, HB0.out⟩
set_option maxRecDepth 20000 in
set_option maxHeartbeats 2000000 in
theorem rlist_low (m c : Nat) (P : Option Addr) (kd n D p : Int) (s : ByteArray) (t3 : Bool) (w : World) (hD : ¬ 32 < D) (hk : kd < 5) :
    Calls Tryz.prog 32 #[.agg #[.int .i64 kd, .string s, .int .i64 n, .slice P m c], .bool t3, .int .i64 D, .int .i64 p] w fun e w' => EncIs none w w' e := by
  obtain ⟨W0, hW0⟩ : ∃ W, W = w.alloc (.cells #[.int .i64 kd, .string s, .int .i64 n, .slice P m c] 24) := ⟨_, rfl⟩
  have HB0 : Hid (Below w.heap.size w W0) := by show Below _ _ _; rw [hW0]; exact (Below.refl _ _).alloc (Nat.le_refl _) _
  obtain ⟨b, hbb⟩ : ∃ b, w.heap.size = b := ⟨_, rfl⟩
  have hr1 : W0.heap[b]? = some (.cells #[.int .i64 kd, .string s, .int .i64 n, .slice P m c] 24) := by rw [hW0, ← hbb]; exact one_alloc _ _
  obtain ⟨z0, z1, z2, z3, zf⟩ := prow4 hr1
  have HBB : Hid (w.heap.size = b) := hbb
  clear hbb hr1
  go_enter Tryz.func32, Tryz.ntmps32
  go_upto_region 1 with fail
  rw [← hW0, HBB.out]
  clear hW0
  go_wp2
  go_returns
  exact ⟨rfl, HB0.out⟩
set_option maxRecDepth 20000 in
set_option maxHeartbeats 2000000 in
theorem rlist_high (m c : Nat) (P : Option Addr) (kd n D p : Int) (s : ByteArray) (t3 : Bool) (w : World) (hD : ¬ 32 < D) (hk5 : ¬ kd < 5) (hk : 8 < kd) :
    Calls Tryz.prog 32 #[.agg #[.int .i64 kd, .string s, .int .i64 n, .slice P m c], .bool t3, .int .i64 D, .int .i64 p] w fun e w' => EncIs none w w' e := by
  obtain ⟨W0, hW0⟩ : ∃ W, W = w.alloc (.cells #[.int .i64 kd, .string s, .int .i64 n, .slice P m c] 24) := ⟨_, rfl⟩
  have HB0 : Hid (Below w.heap.size w W0) := by show Below _ _ _; rw [hW0]; exact (Below.refl _ _).alloc (Nat.le_refl _) _
  obtain ⟨b, hbb⟩ : ∃ b, w.heap.size = b := ⟨_, rfl⟩
  have hr1 : W0.heap[b]? = some (.cells #[.int .i64 kd, .string s, .int .i64 n, .slice P m c] 24) := by rw [hW0, ← hbb]; exact one_alloc _ _
  obtain ⟨z0, z1, z2, z3, zf⟩ := prow4 hr1
  have HBB : Hid (w.heap.size = b) := hbb
  clear hbb hr1
  go_enter Tryz.func32, Tryz.ntmps32
  go_upto_region 1 with fail
  rw [← hW0, HBB.out]
  clear hW0
  go_wp2
  go_returns
  exact ⟨rfl, HB0.out⟩
set_option maxRecDepth 20000 in
set_option maxHeartbeats 2000000 in
theorem rlist_odd (m c : Nat) (P : Option Addr) (n D p : Int) (s : ByteArray) (t3 : Bool) (w : World) (hD : ¬ 32 < D) (hm : m % 2 ≠ 0) (hmx : m ≤ 1073741824) :
    Calls Tryz.prog 32 #[.agg #[.int .i64 6, .string s, .int .i64 n, .slice P m c], .bool t3, .int .i64 D, .int .i64 p] w fun e w' => EncIs none w w' e := by
  obtain ⟨W0, hW0⟩ : ∃ W, W = w.alloc (.cells #[.int .i64 6, .string s, .int .i64 n, .slice P m c] 24) := ⟨_, rfl⟩
  have HB0 : Hid (Below w.heap.size w W0) := by show Below _ _ _; rw [hW0]; exact (Below.refl _ _).alloc (Nat.le_refl _) _
  obtain ⟨b, hbb⟩ : ∃ b, w.heap.size = b := ⟨_, rfl⟩
  have hr1 : W0.heap[b]? = some (.cells #[.int .i64 6, .string s, .int .i64 n, .slice P m c] 24) := by rw [hW0, ← hbb]; exact one_alloc _ _
  obtain ⟨z0, z1, z2, z3, zf⟩ := prow4 hr1
  have HBB : Hid (w.heap.size = b) := hbb
  have hem : ((m : Int) % 2 != 0) = true := by
    have : (m : Int) % 2 = 1 := by omega
    rw [this]; rfl
  have hem2 : ((m : Int).tmod 2 != 0) = true := by rw [Int.tmod_eq_emod_of_nonneg (by omega)]; exact hem
  clear hbb hr1 hm
  go_enter Tryz.func32, Tryz.ntmps32
  go_upto_region 1 with fail
  rw [← hW0, HBB.out]
  clear hW0
  go_wp2
  go_returns
  exact ⟨rfl, HB0.out⟩
set_option maxRecDepth 20000 in
set_option maxHeartbeats 4000000 in
/-- what is no leaf is a list. -/
theorem redoc_list (m c : Nat) (P : Option Addr) (kd n D p : Int) (s : ByteArray) (p3 : Bool) (hp : p = if p3 then 3 else 2) (o : Option By) (w : World) (k1 : (kd == 1) = false) (k2 : (kd == 2) = false) (k3 : (kd == 3) = false) (k4 : (kd == 4) = false) (k0 : (kd == 0) = false) (k9 : (kd == 9) = false) (k11 : (kd == 11) = false)
    (hc : ∀ W, Below w.heap.size w W → Calls Tryz.prog 32 #[.agg #[.int .i64 kd, .string s, .int .i64 n, .slice P m c], .bool p3, .int .i64 D, .int .i64 p] W fun e w' => EncIs o W w' e) :
    Calls Tryz.prog 20 #[.agg #[.int .i64 kd, .string s, .int .i64 n, .slice P m c], .int .i64 p, .int .i64 D] w fun e w' => EncIs o w w' e := by
  obtain ⟨W0, hW0⟩ : ∃ W, W = w.alloc (.cells #[.int .i64 kd, .string s, .int .i64 n, .slice P m c] 24) := ⟨_, rfl⟩
  have hb0 : Below w.heap.size w W0 := by rw [hW0]; exact (Below.refl _ _).alloc (Nat.le_refl _) _
  obtain ⟨b, hbb⟩ : ∃ b, w.heap.size = b := ⟨_, rfl⟩
  have hr1 : W0.heap[b]? = some (.cells #[.int .i64 kd, .string s, .int .i64 n, .slice P m c] 24) := by rw [hW0, ← hbb]; exact one_alloc _ _
  obtain ⟨z0, z1, z2, z3, zf⟩ := prow4 hr1
  have HB0 : Hid (Below w.heap.size w W0) := hb0
  have HBB : Hid (w.heap.size = b) := hbb
  have HCC : Hid (Calls Tryz.prog 32 #[.agg #[.int .i64 kd, .string s, .int .i64 n, .slice P m c], .bool p3, .int .i64 D, .int .i64 p] W0 fun e w' => EncIs o W0 w' e) := hc W0 hb0
  clear hc hb0 hbb hr1
  cases p3 <;> (have hp' := hp; simp at hp'; subst hp'; clear hp)
  all_goals
    cases o with
    | none =>
      go_enter Tryz.func20, Tryz.ntmps20
      go_upto_region 1 with fail
      rw [← hW0, HBB.out]
      clear hW0
      go_wp2_with fail
      refine (show Calls _ _ _ _ _ from HCC.out).mono ?_
      rintro e w1 ⟨rfl, hb1⟩
      have HB1 : Hid (Below w.heap.size w w1) := HB0.out.trans (hb1.mono HB0.out.size)
      clear hb1 z0 z1 z2 z3 zf
      go_wp2
      go_returns
      exact ⟨rfl, HB1.out⟩
    | some a =>
      go_enter Tryz.func20, Tryz.ntmps20
      go_upto_region 1 with fail
      rw [← hW0, HBB.out]
      clear hW0
      go_wp2_with fail
      refine (show Calls _ _ _ _ _ from HCC.out).mono ?_
      rintro e w1 ⟨rfl, hb1⟩
      have HB1 : Hid (Below w.heap.size w w1) := HB0.out.trans (hb1.mono HB0.out.size)
      clear hb1 z0 z1 z2 z3 zf
      go_wp2
      go_returns
      exact ⟨rfl, HB1.out⟩
end Go.Proofs.YtgiicfgekicfcaaGreatDoor
namespace Go.Proofs.YtgiicfgekicfcaaGreatDoor
open Go.RowKit Vi
set_option linter.unusedVariables false
set_option linter.unusedSimpArgs false
theorem encis_of {o o' : Option By} {w w' : World} {e : Ending} (ho : o = o') (h : EncIs o w w' e) : EncIs o' w w' e := ho ▸ h
/-- a reply that is no list, as the document writes it. -/
theorem redoc_leaf (m c : Nat) (P : Option Addr) (D kind n p : Int) (text a : By) (w : World) (p3 : Bool) (hp : p = if p3 then 3 else 2) (hn : -9223372036854775808 ≤ n ∧ n ≤ 9223372036854775807) (ht : text.length ≤ 67108864) (ho : leafX p3 kind text n = some a) :
    Calls Tryz.prog 20 #[.agg #[.int .i64 kind, .string (strB text), .int .i64 n, .slice P m c], .int .i64 p, .int .i64 D] w fun e w' => EncIs (some a) w w' e := by
  have hz : (strB text).size = text.length := strB_size text
  have hli : (strB text).data.toList = text := strB_list text
  unfold leafX at ho
  split at ho
  · rename_i hk; subst hk
    exact (redoc_stat m c P n D p (strB text) w (by omega)).mono (fun e w' h => encis_of (by rw [hli]; exact ho) h)
  split at ho
  · rename_i _ hk; subst hk
    exact (redoc_erro m c P n D p (strB text) w (by omega)).mono (fun e w' h => encis_of (by rw [hli]; exact ho) h)
  split at ho
  · rename_i _ _ hk; subst hk
    exact (redoc_int m c P n D p (strB text) w hn.1 hn.2).mono (fun e w' h => encis_of ho h)
  split at ho
  · rename_i _ _ _ hk; subst hk
    exact (redoc_bulk m c P n D p (strB text) w (by omega)).mono (fun e w' h => encis_of (by rw [hli, hz]; exact ho) h)
  split at ho
  · rename_i _ _ _ _ hk; subst hk
    cases p3 <;> (have hp' := hp; simp at hp'; subst hp')
    · exact (redoc_null_2 m c P n D (strB text) w).mono (fun e w' h => encis_of ho h)
    · exact (redoc_null_3 m c P n D (strB text) w).mono (fun e w' h => encis_of ho h)
  split at ho
  · rename_i _ _ _ _ _ hk; subst hk
    cases p3 <;> (have hp' := hp; simp at hp'; subst hp')
    · exact (redoc_nulls_2 m c P n D (strB text) w).mono (fun e w' h => encis_of ho h)
    · exact (redoc_nulls_3 m c P n D (strB text) w).mono (fun e w' h => encis_of ho h)
  split at ho
  · rename_i _ _ _ _ _ _ hk; subst hk
    by_cases h0 : n = 0
    · subst h0
      cases p3 <;> (have hp' := hp; simp at hp'; subst hp')
      · exact (redoc_no_2 m c P D (strB text) w).mono (fun e w' h => encis_of ho h)
      · exact (redoc_no_3 m c P D (strB text) w).mono (fun e w' h => encis_of ho h)
    · have h1 : (n != 0) = true := by simpa using h0
      cases p3 <;> (have hp' := hp; simp at hp'; subst hp')
      · exact (redoc_yes_2 m c P n D (strB text) w h1).mono (fun e w' h => encis_of (by rw [← ho]; simp [h0]) h)
      · exact (redoc_yes_3 m c P n D (strB text) w h1).mono (fun e w' h => encis_of (by rw [← ho]; simp [h0]) h)
  · cases ho
theorem leaf_no7 {p3 : Bool} {kind n : Int} {text : By} (h : leafX p3 kind text n = none) : (kind == 1) = false ∧ (kind == 2) = false ∧ (kind == 3) = false ∧ (kind == 4) = false ∧ (kind == 0) = false ∧ (kind == 9) = false ∧ (kind == 11) = false := by
  unfold leafX at h
  repeat' split at h
  all_goals first | (cases h; done) | skip
  rename_i h1 h2 h3 h4 h0 h9 h11
  exact ⟨by simpa using h1, by simpa using h2, by simpa using h3, by simpa using h4, by simpa using h0, by simpa using h9, by simpa using h11⟩
theorem lk_range {kd : Int} (h : lk kd = false) : kd < 5 ∨ (¬ kd < 5 ∧ 8 < kd) := by
  obtain ⟨h5, h6, h7, h8⟩ := lk_no4 h
  simp at h5 h6 h7 h8
  omega
/-- any list, as the document writes it. -/
theorem rlist_any (p3 : Bool) (p : Int) (hp : p = if p3 then 3 else 2) (k B dep : Nat) (hdep : dep ≤ 32) (n kd : Int) (s : ByteArray) (lv : Value) (ts : List (Rn (Rp k))) (f : Rn (Rp k) → Option By) (F : Rn (Rp k) → Nat) (hF : ∀ X ∈ ts, ∀ a, f X = some a → a.length ≤ F X) (hn : ts.length ≤ 1073741824)
    (w : World) (hlen : 30 + (ts.map F).sum ≤ 70368744177000) (hBw : B ≤ w.heap.size) (hT : RpB (fun g => g < B) k (RpL (fun g => g < B) k w) w lv ts)
    (IH : dep < 32 → ∀ X ∈ ts, ∀ (v : Value) (W : World), Below B w W → B ≤ W.heap.size → RpL (fun g => g < B) k W v X.list → Calls Tryz.prog 20 #[.agg #[.int .i64 X.kind, .string (strB X.text), .int .i64 X.n, v], .int .i64 p, .int .i64 ((dep : Int) + 1 + 1)] W fun e w' => EncIs (f X) W w' e) :
    Calls Tryz.prog 32 #[.agg #[.int .i64 kd, .string s, .int .i64 n, lv], .bool p3, .int .i64 ((dep : Int) + 1), .int .i64 p] w fun e w' => EncIs (if okL kd ts.length dep = true then behind (headX p3 kd ts.length) (encAll f ts) else none) w w' e := by
  obtain ⟨P, c, hlv⟩ : ∃ P c, lv = .slice P ts.length c := by obtain ⟨P, c, e, _⟩ := hT; exact ⟨P, c, e⟩
  by_cases hd : dep = 32
  case pos =>
    subst hd
    have ho : okL kd ts.length 32 = false := by unfold okL; simp
    rw [ho, if_neg (by decide), hlv]
    exact rlist_deep ts.length c P kd n _ p s p3 w (by omega)
  have hd2 : dep < 32 := by omega
  have hD : ¬ 32 < ((dep : Int) + 1) := by omega
  by_cases hk : lk kd = true
  case neg =>
    have hkf : lk kd = false := by simpa using hk
    have ho : okL kd ts.length dep = false := by unfold okL; rw [hkf]; rfl
    rw [ho, if_neg (by decide), hlv]
    rcases lk_range hkf with h | ⟨h, h'⟩
    · exact rlist_low ts.length c P kd n _ p s p3 w hD h
    · exact rlist_high ts.length c P kd n _ p s p3 w hD h h'
  by_cases hodd : kd = 6 ∧ ts.length % 2 ≠ 0
  case pos =>
    obtain ⟨rfl, hod⟩ := hodd
    have ho : okL 6 ts.length dep = false := by unfold okL; simp [hod]
    rw [ho, if_neg (by decide), hlv]
    exact rlist_odd ts.length c P n _ p s p3 w hD hod hn
  have hev : kd = 6 → ts.length % 2 = 0 := fun e => by by_cases h0 : ts.length % 2 = 0; exact h0; exact absurd ⟨e, h0⟩ hodd
  have ho : okL kd ts.length dep = true := by
    unfold okL
    rw [hk]
    by_cases h6 : kd = 6
    · simp [h6, hev h6, hd2]
    · simp [h6, hd2]
  rw [ho, if_pos rfl]
  rcases lk_cases hk with rfl | rfl | rfl | rfl <;> cases p3 <;> (have hp' := hp; simp at hp'; subst hp')
  · exact rlist2_5 k B _ n s lv ts f F hF hn (by omega) (by omega) w hlen hBw hT (IH hd2)
  · exact rlist3_5 k B _ n s lv ts f F hF hn (by omega) (by omega) w hlen hBw hT (IH hd2)
  · exact rlist2_6 k B _ n s lv ts f F hF (hev rfl) hn (by omega) (by omega) w hlen hBw hT (IH hd2)
  · exact rlist3_6 k B _ n s lv ts f F hF (hev rfl) hn (by omega) (by omega) w hlen hBw hT (IH hd2)
  · exact rlist2_7 k B _ n s lv ts f F hF hn (by omega) (by omega) w hlen hBw hT (IH hd2)
  · exact rlist3_7 k B _ n s lv ts f F hF hn (by omega) (by omega) w hlen hBw hT (IH hd2)
  · exact rlist2_8 k B _ n s lv ts f F hF hn (by omega) (by omega) w hlen hBw hT (IH hd2)
  · exact rlist3_8 k B _ n s lv ts f F hF hn (by omega) (by omega) w hlen hBw hT (IH hd2)
/-- any reply, as the document writes it. -/
theorem redoc_any (p3 : Bool) (p : Int) (hp : p = if p3 then 3 else 2) (B : Nat) : ∀ (k dep : Nat) (t : Rn (Rp k)) (v : Value) (w : World), dep ≤ 32 → bz k t ≤ 67108864 → Rg k t → B ≤ w.heap.size → RpL (fun g => g < B) k w v t.list →
    Calls Tryz.prog 20 #[.agg #[.int .i64 t.kind, .string (strB t.text), .int .i64 t.n, v], .int .i64 p, .int .i64 ((dep : Int) + 1)] w fun e w' => EncIs (encX p3 k dep t) w w' e
  | 0, dep, t, v, w, hdep, hb, hr, hBw, hT => by
    obtain ⟨P, c, rfl⟩ := hT
    have hb1 : bz 0 t = 1 + t.text.length := rfl
    rw [encX]
    cases ho : leafX p3 t.kind t.text t.n with
    | some a => exact redoc_leaf 0 c P _ t.kind t.n p t.text a w p3 hp hr (by omega) ho
    | none =>
      obtain ⟨k1, k2, k3, k4, k0, k9, k11⟩ := leaf_no7 ho
      refine (redoc_list 0 c P t.kind t.n _ p (strB t.text) p3 hp _ w k1 k2 k3 k4 k0 k9 k11 (fun W hW => rlist_any p3 p hp 0 B dep hdep t.n t.kind (strB t.text) (.slice P 0 c) [] (fun _ => none) (fun _ => 0) (fun X hX => by cases hX) (by simp) W (by simp) (Nat.le_trans hBw hW.size) ⟨P, c, rfl, fun i h => absurd h (Nat.not_lt_zero i)⟩ (fun _ X hX => by cases hX))).mono (fun e w' h => ?_)
      have e0 : (if okL t.kind ([] : List (Rn (Rp 0))).length dep = true then behind (headX p3 t.kind ([] : List (Rn (Rp 0))).length) (encAll (fun _ => none) ([] : List (Rn (Rp 0)))) else none) = if okL t.kind 0 dep = true then some (headX p3 t.kind 0) else none := by
        show (if okL t.kind 0 dep = true then some (headX p3 t.kind 0 ++ []) else none) = _
        rw [List.append_nil]
      rw [e0] at h
      exact h
  | k + 1, dep, t, v, w, hdep, hb, hr, hBw, hT => by
    have hbl := bz_len k t
    have hb1 : bz (k + 1) t = 1 + t.text.length + (List.map (α := Rn (Rp k)) (bz k) t.list).sum := rfl
    have hs30 : (List.map (α := Rn (Rp k)) (fun x => 30 * bz k x) t.list).sum = 30 * (List.map (α := Rn (Rp k)) (bz k) t.list).sum := sum30 (bz k) t.list
    have h9 : List.length t.list ≤ 1073741824 := by omega
    obtain ⟨P, c, hv, _⟩ := id hT
    rw [encX]
    cases ho : leafX p3 t.kind t.text t.n with
    | some a =>
      rw [hv]
      exact redoc_leaf _ c P _ t.kind t.n p t.text a w p3 hp hr.1 (by omega) ho
    | none =>
      obtain ⟨k1, k2, k3, k4, k0, k9, k11⟩ := leaf_no7 ho
      have hX := fun W (hW : Below w.heap.size w W) => rlist_any p3 p hp k B dep hdep t.n t.kind (strB t.text) v t.list (encX p3 k (dep + 1)) (fun x => 30 * bz k x) (fun X hX a ha => encX_len p3 k (dep + 1) X a (Nat.le_trans (bz_mem k t X hX) hb) (hr.2 X hX) ha) h9 W (by omega) (Nat.le_trans hBw hW.size) (hT.on hW)
          (fun hd X hX v2 W2 h2 h3 h6 => redoc_any p3 p hp B k (dep + 1) X v2 W2 (by omega) (Nat.le_trans (bz_mem k t X hX) hb) (hr.2 X hX) h3 h6)
      rw [hv] at hX ⊢
      refine (redoc_list _ c P t.kind t.n _ p (strB t.text) p3 hp _ w k1 k2 k3 k4 k0 k9 k11 hX).mono (fun e w' h => ?_)
      have e0 : (if okL t.kind (List.length (α := Rn (Rp k)) t.list) dep = true then behind (headX p3 t.kind (List.length (α := Rn (Rp k)) t.list)) (encAll (α := Rn (Rp k)) (encX p3 k (dep + 1)) t.list) else none) = (if okL t.kind (List.length (α := Rn (Rp k)) t.list) dep = true then (match encAll (α := Rn (Rp k)) (encX p3 k (dep + 1)) t.list with
          | none => none
          | some b => some (headX p3 t.kind (List.length (α := Rn (Rp k)) t.list) ++ b)) else none) := by
        cases encAll (α := Rn (Rp k)) (encX p3 k (dep + 1)) t.list <;> rfl
      exact e0 ▸ h
end Go.Proofs.YtgiicfgekicfcaaGreatDoor
namespace Go.Proofs.YtgiicfgekicfcaaGreatDoor
open Go.RowKit Vi
set_option linter.unusedVariables false
set_option linter.unusedSimpArgs false
set_option maxRecDepth 20000 in
set_option maxHeartbeats 4000000 in
/-- the document's Encode in the forms 2 and 3. -/
theorem rEncode_form (p3 : Bool) (p : Int) (hp : p = if p3 then 3 else 2) (k : Nat) (t : Rn (Rp k)) (P : Option Addr) (m c : Nat) (w : World) (h10 : t.kind ≠ 10) (hb : bz k t ≤ 67108864) (hr : Rg k t) (hT : RpL (fun g => g < w.heap.size) k w (.slice P m c) t.list) :
    Calls Tryz.prog 8 #[.agg #[.int .i64 t.kind, .string (strB t.text), .int .i64 t.n, .slice P m c], .int .i64 p] w fun e w' => EncIs (encX p3 k 0 t) w w' e := by
  obtain ⟨XT, hXT⟩ : ∃ XT, strB t.text = XT := ⟨_, rfl⟩
  obtain ⟨kd, hkd⟩ : ∃ kd, t.kind = kd := ⟨_, rfl⟩
  obtain ⟨n, hn⟩ : ∃ n, t.n = n := ⟨_, rfl⟩
  obtain ⟨b, hbb⟩ : ∃ r, w.heap.size = r := ⟨_, rfl⟩
  obtain ⟨W0, hW0⟩ : ∃ W, W = w.alloc (.cells #[.int .i64 kd, .string XT, .int .i64 n, .slice P m c] 24) := ⟨_, rfl⟩
  have hb0 : Below w.heap.size w W0 := by rw [hW0]; exact (Below.refl _ _).alloc (Nat.le_refl _) _
  have hr1 : W0.heap[b]? = some (.cells #[.int .i64 kd, .string XT, .int .i64 n, .slice P m c] 24) := by rw [hW0, ← hbb]; exact one_alloc _ _
  obtain ⟨o, ho⟩ : ∃ o, encX p3 k 0 t = o := ⟨_, rfl⟩
  have HRP : Hid (Calls Tryz.prog 20 #[.agg #[.int .i64 kd, .string XT, .int .i64 n, .slice P m c], .int .i64 p, .int .i64 1] W0 fun e w' => EncIs o W0 w' e) := by
    have h9 := redoc_any p3 p hp w.heap.size k 0 t (.slice P m c) W0 (by omega) hb hr hb0.size (hT.on hb0)
    rw [hXT, hkd, hn, ho] at h9
    exact h9
  have HB0 : Hid (Below w.heap.size w W0) := hb0
  have HBB : Hid (w.heap.size = b) := hbb
  obtain ⟨z0, z1, z2, z3, zf⟩ := prow4 hr1
  have hk10 : (kd == 10) = false := by rw [← hkd]; simpa using h10
  rw [hXT, hkd, hn, ho]
  clear hb hr hT hb0 hr1 hbb h10 hXT hkd hn ho
  cases p3 <;> (have hp' := hp; simp at hp'; subst hp'; clear hp)
  all_goals
    cases o with
    | none =>
      go_enter Tryz.func8, Tryz.ntmps8
      go_upto_region 1 with fail
      rw [← hW0, HBB.out]
      clear hW0
      go_wp2_with fail
      refine (show Calls _ _ _ _ _ from HRP.out).mono ?_
      rintro e w1 ⟨rfl, hb1⟩
      have HB1 : Hid (Below w.heap.size w w1) := HB0.out.trans (hb1.mono HB0.out.size)
      clear hb1 z0 z1 z2 z3 zf
      go_wp2
      go_returns
      exact ⟨rfl, HB1.out⟩
    | some a =>
      go_enter Tryz.func8, Tryz.ntmps8
      go_upto_region 1 with fail
      rw [← hW0, HBB.out]
      clear hW0
      go_wp2_with fail
      refine (show Calls _ _ _ _ _ from HRP.out).mono ?_
      rintro e w1 ⟨rfl, hb1⟩
      have HB1 : Hid (Below w.heap.size w w1) := HB0.out.trans (hb1.mono HB0.out.size)
      clear hb1 z0 z1 z2 z3 zf
      go_wp2
      go_returns
      exact ⟨rfl, HB1.out⟩
set_option maxRecDepth 20000 in
set_option maxHeartbeats 4000000 in
theorem rEncode_ten (p3 : Bool) (p : Int) (hp : p = if p3 then 3 else 2) (n : Int) (s : ByteArray) (P : Option Addr) (m c : Nat) (w : World) :
    Calls Tryz.prog 8 #[.agg #[.int .i64 10, .string s, .int .i64 n, .slice P m c], .int .i64 p] w fun e w' => EncIs (some []) w w' e := by
  obtain ⟨b, hbb⟩ : ∃ r, w.heap.size = r := ⟨_, rfl⟩
  obtain ⟨W0, hW0⟩ : ∃ W, W = w.alloc (.cells #[.int .i64 10, .string s, .int .i64 n, .slice P m c] 24) := ⟨_, rfl⟩
  have hb0 : Below w.heap.size w W0 := by rw [hW0]; exact (Below.refl _ _).alloc (Nat.le_refl _) _
  have hr1 : W0.heap[b]? = some (.cells #[.int .i64 10, .string s, .int .i64 n, .slice P m c] 24) := by rw [hW0, ← hbb]; exact one_alloc _ _
  have HB0 : Hid (Below w.heap.size w W0) := hb0
  have HBB : Hid (w.heap.size = b) := hbb
  obtain ⟨z0, z1, z2, z3, zf⟩ := prow4 hr1
  clear hb0 hr1 hbb
  cases p3 <;> (have hp' := hp; simp at hp'; subst hp'; clear hp)
  all_goals
    go_enter Tryz.func8, Tryz.ntmps8
    go_upto_region 1 with fail
    rw [← hW0, HBB.out]
    clear hW0
    go_wp2
    go_returns
    exact ⟨rfl, HB0.out⟩
set_option maxRecDepth 20000 in
theorem rEncode_no (kd n p : Int) (s : ByteArray) (P : Option Addr) (m c : Nat) (w : World) (h2 : p ≠ 2) (h3 : p ≠ 3) :
    Calls Tryz.prog 8 #[.agg #[.int .i64 kd, .string s, .int .i64 n, .slice P m c], .int .i64 p] w fun e w' => EncIs none w w' e := by
  have hq2 : (p != 2) = true := by simpa using h2
  have hq3 : (p != 3) = true := by simpa using h3
  obtain ⟨W0, hW0⟩ : ∃ W, W = w.alloc (.cells #[.int .i64 kd, .string s, .int .i64 n, .slice P m c] 24) := ⟨_, rfl⟩
  have HB0 : Hid (Below w.heap.size w W0) := by show Below _ _ _; rw [hW0]; exact (Below.refl _ _).alloc (Nat.le_refl _) _
  clear h2 h3
  go_enter Tryz.func8, Tryz.ntmps8
  go_wp2
  rw [← hW0]
  clear hW0
  go_returns
  exact ⟨rfl, HB0.out⟩
/-- both Encodes of any reply: one answer. -/
theorem encode_both (k : Nat) (t : Rn (Rp k)) (P : Option Addr) (m c : Nat) (p : Int) (w : World) (hb : bz k t ≤ 67108864) (hr : Rg k t) (hL : Laid w) (hM : Lm w) (hA : RpL (fun _ => True) k w (.slice P m c) t.list) :
    ∃ o : Option By, (∀ W, Below w.heap.size w W → Calls Tryz.prog 7 #[.agg #[.int .i64 t.kind, .string (strB t.text), .int .i64 t.n, .slice P m c], .int .i64 p] W fun e w' => EncIs o W w' e) ∧ (∀ W, Below w.heap.size w W → Calls Tryz.prog 8 #[.agg #[.int .i64 t.kind, .string (strB t.text), .int .i64 t.n, .slice P m c], .int .i64 p] W fun e w' => EncIs o W w' e) := by
  have key : ∀ p3 : Bool, (p = if p3 then 3 else 2) → ∃ o : Option By, (∀ W, Below w.heap.size w W → Calls Tryz.prog 7 #[.agg #[.int .i64 t.kind, .string (strB t.text), .int .i64 t.n, .slice P m c], .int .i64 p] W fun e w' => EncIs o W w' e) ∧ (∀ W, Below w.heap.size w W → Calls Tryz.prog 8 #[.agg #[.int .i64 t.kind, .string (strB t.text), .int .i64 t.n, .slice P m c], .int .i64 p] W fun e w' => EncIs o W w' e) := by
    intro p3 hp
    by_cases h10 : t.kind = 10
    · rw [h10]
      exact ⟨some [], fun W hW => xencode_ten p3 p hp t.n (strB t.text) P m c W, fun W hW => rEncode_ten p3 p hp t.n (strB t.text) P m c W⟩
    · exact ⟨encX p3 k 0 t, fun W hW => xencode_form p3 p hp k t P m c W h10 hb hr (hL.on hW) (hM.on hW) ((hA.on hW).keep (fun g _ hl => ⟨hl, rfl⟩)), fun W hW => rEncode_form p3 p hp k t P m c W h10 hb hr ((hA.on hW).keep (fun g _ hl => ⟨hl, rfl⟩))⟩
  by_cases h3 : p = 3
  · exact key true (by simpa using h3)
  by_cases h2 : p = 2
  · exact key false (by simpa using h2)
  exact ⟨none, fun W hW => xencode_no t.kind t.n p (strB t.text) P m c W h2 h3, fun W hW => rEncode_no t.kind t.n p (strB t.text) P m c W h2 h3⟩
set_option maxHeartbeats 4000000 in
set_option maxRecDepth 20000 in
theorem encodes_walk (k : Nat) (t : Rn (Rp k)) (P : Option Addr) (m c : Nat) (p : Int) (hbz : Wz k t) (hR : Rg k t) (w : World) (hL : Laid w) (hM : Lm w) (hA : RpL (fun _ => True) k w (.slice P m c) t.list) :
    Calls Tryz.prog 3 #[.agg #[.int .i64 t.kind, .string (strB t.text), .int .i64 t.n, .slice P m c], .int .i64 p] w fun e w' => e = .returned (.bool true) ∧ Below w.heap.size w w' := by
  have HGR : Hid (∀ W, Below w.heap.size w W → Calls Tryz.prog 5 #[.agg #[.int .i64 t.kind, .string (strB t.text), .int .i64 t.n, .slice P m c]] W fun e w' => e = .returned (.bool (decide (67108864 < bz k t))) ∧ Below W.heap.size W w') := fun W hW => zgreat_any k t _ P m c W hbz (hA.on hW)
  by_cases hgt : 67108864 < bz k t
  · have HL : Hid (Laid w) := hL
    obtain ⟨s, hs⟩ : ∃ s, strB t.text = s := ⟨_, rfl⟩
    obtain ⟨kd, hkd⟩ : ∃ kd, t.kind = kd := ⟨_, rfl⟩
    obtain ⟨n, hn⟩ : ∃ n, t.n = n := ⟨_, rfl⟩
    rw [hs, hkd, hn, decide_eq_true hgt] at HGR
    rw [hs, hkd, hn]
    obtain ⟨W0, hW0⟩ : ∃ W, W = w.alloc (.cells #[.int .i64 kd, .string s, .int .i64 n, .slice P m c] 24) := ⟨_, rfl⟩
    have hb0 : Below w.heap.size w W0 := by rw [hW0]; exact (Below.refl _ _).alloc (Nat.le_refl _) _
    obtain ⟨r3, hr3⟩ : ∃ b, w.heap.size = b := ⟨_, rfl⟩
    have HA0 : Hid (W0.heap[r3]? = some (.cells #[.int .i64 kd, .string s, .int .i64 n, .slice P m c] 24)) := by rw [hW0, ← hr3]; exact one_alloc _ _
    have HB0 : Hid (Below w.heap.size w W0) := hb0
    have HR3 : Hid (w.heap.size = r3) := hr3
    have HCG : Hid _ := HGR.out W0 hb0
    obtain ⟨z0, z1, z2, z3, zf⟩ := prow4 HA0.out
    clear hb0 hr3 hA hL hM hs hkd hn hbz hR HGR hgt
    go_enter Tryz.func3, Tryz.ntmps3
    go_upto_region 1 with fail
    rw [← hW0, HR3.out]
    clear hW0
    go_wp2_with fail
    refine (show Calls _ _ _ _ _ from HCG.out).mono ?_
    rintro e w1 ⟨rfl, hb1⟩
    have HB1 : Hid (Below w.heap.size w w1) := HB0.out.trans (hb1.mono HB0.out.size)
    have HWK : Hid _ := works_any w1 (HL.out.on HB1.out)
    clear hb1 z0 z1 z2 z3 zf HCG HA0
    go_wp2_with fail
    refine (show Calls _ _ _ _ _ from HWK.out).mono ?_
    rintro e w4 ⟨rfl, hb4⟩
    have HB4 : Hid (Below w.heap.size w w4) := HB1.out.trans (hb4.mono HB1.out.size)
    clear hb4
    go_wp2
    go_returns
    exact ⟨rfl, HB4.out⟩
  have hle : bz k t ≤ 67108864 := by omega
  rw [decide_eq_false hgt] at HGR
  obtain ⟨o, hE1, hE2⟩ := encode_both k t P m c p w hle hR hL hM hA
  have HE1 : Hid (∀ W, Below w.heap.size w W → Calls Tryz.prog 7 #[.agg #[.int .i64 t.kind, .string (strB t.text), .int .i64 t.n, .slice P m c], .int .i64 p] W fun e w' => EncIs o W w' e) := hE1
  have HE2 : Hid (∀ W, Below w.heap.size w W → Calls Tryz.prog 8 #[.agg #[.int .i64 t.kind, .string (strB t.text), .int .i64 t.n, .slice P m c], .int .i64 p] W fun e w' => EncIs o W w' e) := hE2
  have HL : Hid (Laid w) := hL
  obtain ⟨s, hs⟩ : ∃ s, strB t.text = s := ⟨_, rfl⟩
  obtain ⟨kd, hkd⟩ : ∃ kd, t.kind = kd := ⟨_, rfl⟩
  obtain ⟨n, hn⟩ : ∃ n, t.n = n := ⟨_, rfl⟩
  rw [hs, hkd, hn] at HGR HE1 HE2 ⊢
  obtain ⟨W0, hW0⟩ : ∃ W, W = w.alloc (.cells #[.int .i64 kd, .string s, .int .i64 n, .slice P m c] 24) := ⟨_, rfl⟩
  have hb0 : Below w.heap.size w W0 := by rw [hW0]; exact (Below.refl _ _).alloc (Nat.le_refl _) _
  obtain ⟨r3, hr3⟩ : ∃ b, w.heap.size = b := ⟨_, rfl⟩
  have HA0 : Hid (W0.heap[r3]? = some (.cells #[.int .i64 kd, .string s, .int .i64 n, .slice P m c] 24)) := by rw [hW0, ← hr3]; exact one_alloc _ _
  have HB0 : Hid (Below w.heap.size w W0) := hb0
  have HR3 : Hid (w.heap.size = r3) := hr3
  have HCG : Hid _ := HGR.out W0 hb0
  obtain ⟨z0, z1, z2, z3, zf⟩ := prow4 HA0.out
  clear hb0 hr3 hA hL hM hs hkd hn hbz hR hE1 hE2 HGR hgt hle
  go_enter Tryz.func3, Tryz.ntmps3
  go_upto_region 1 with fail
  rw [← hW0, HR3.out]
  clear hW0
  go_wp2_with fail
  refine (show Calls _ _ _ _ _ from HCG.out).mono ?_
  rintro e w1 ⟨rfl, hb1⟩
  have HA1 : Hid (w1.heap[r3]? = some (.cells #[.int .i64 kd, .string s, .int .i64 n, .slice P m c] 24)) := keep_row HA0.out hb1
  have HB1 : Hid (Below w.heap.size w w1) := HB0.out.trans (hb1.mono HB0.out.size)
  have HC1 : Hid _ := HE1.out w1 HB1.out
  clear hb1 z0 z1 z2 z3 zf HCG HA0 HE1
  obtain ⟨z0, z1, z2, z3, zf⟩ := prow4 HA1.out
  cases o with
  | none =>
    go_wp2_with fail
    refine (show Calls _ _ _ _ _ from HC1.out).mono ?_
    rintro e w2 ⟨rfl, hb2⟩
    have HA2 : Hid (w2.heap[r3]? = some (.cells #[.int .i64 kd, .string s, .int .i64 n, .slice P m c] 24)) := keep_row HA1.out hb2
    have HB2 : Hid (Below w.heap.size w w2) := HB1.out.trans (hb2.mono HB1.out.size)
    have HC2 : Hid _ := HE2.out w2 HB2.out
    clear hb2 z0 z1 z2 z3 zf HC1 HA1 HE2
    obtain ⟨z0, z1, z2, z3, zf⟩ := prow4 HA2.out
    go_wp2_with fail
    refine (show Calls _ _ _ _ _ from HC2.out).mono ?_
    rintro e w3 ⟨rfl, hb3⟩
    have HB3 : Hid (Below w.heap.size w w3) := HB2.out.trans (hb3.mono HB2.out.size)
    have HWK : Hid _ := works_any w3 (HL.out.on HB3.out)
    clear hb3 z0 z1 z2 z3 zf HC2 HA2
    go_wp2_with fail
    refine (show Calls _ _ _ _ _ from HWK.out).mono ?_
    rintro e w4 ⟨rfl, hb4⟩
    have HB4 : Hid (Below w.heap.size w w4) := HB3.out.trans (hb4.mono HB3.out.size)
    clear hb4
    go_wp2
    go_returns
    exact ⟨rfl, HB4.out⟩
  | some a =>
    have HD1 : Hid (∃ E : ByteArray, strB a = E) := ⟨_, rfl⟩
    obtain ⟨E, hE⟩ := HD1.out
    have HC1' : Hid (Calls Tryz.prog 7 #[.agg #[.int .i64 kd, .string s, .int .i64 n, .slice P m c], .int .i64 p] w1 fun e w' => e = .returned (.tuple #[.string E, .int .i64 0]) ∧ Below w1.heap.size w1 w') := by
      have h9 := HC1.out
      subst hE
      exact h9
    have HE2' : Hid (∀ W, Below w.heap.size w W → Calls Tryz.prog 8 #[.agg #[.int .i64 kd, .string s, .int .i64 n, .slice P m c], .int .i64 p] W fun e w' => e = .returned (.tuple #[.string E, .int .i64 0]) ∧ Below W.heap.size W w') := by
      intro W hW
      have h9 := HE2.out W hW
      subst hE
      exact h9
    clear hE HD1 HC1 HE2
    go_wp2_with fail
    refine (show Calls _ _ _ _ _ from HC1'.out).mono ?_
    rintro e w2 ⟨rfl, hb2⟩
    have HA2 : Hid (w2.heap[r3]? = some (.cells #[.int .i64 kd, .string s, .int .i64 n, .slice P m c] 24)) := keep_row HA1.out hb2
    have HB2 : Hid (Below w.heap.size w w2) := HB1.out.trans (hb2.mono HB1.out.size)
    have HC2 : Hid _ := HE2'.out w2 HB2.out
    clear hb2 z0 z1 z2 z3 zf HC1' HA1 HE2'
    obtain ⟨z0, z1, z2, z3, zf⟩ := prow4 HA2.out
    go_wp2_with fail
    refine (show Calls _ _ _ _ _ from HC2.out).mono ?_
    rintro e w3 ⟨rfl, hb3⟩
    have HB3 : Hid (Below w.heap.size w w3) := HB2.out.trans (hb3.mono HB2.out.size)
    have HWK : Hid _ := works_any w3 (HL.out.on HB3.out)
    clear hb3 z0 z1 z2 z3 zf HC2 HA2
    go_wp2_with fail
    refine (show Calls _ _ _ _ _ from HWK.out).mono ?_
    rintro e w4 ⟨rfl, hb4⟩
    have HB4 : Hid (Below w.heap.size w w4) := HB3.out.trans (hb4.mono HB3.out.size)
    clear hb4
    go_wp2
    go_returns
    exact ⟨rfl, HB4.out⟩
end Go.Proofs.YtgiicfgekicfcaaGreatDoor
