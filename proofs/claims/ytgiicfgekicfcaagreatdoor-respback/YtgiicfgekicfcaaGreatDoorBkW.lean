import Derived.Test.YtgiicfgekicfcaaGreatDoorBkB
import Derived.Test.YtgiicfgekicfcaaGreatDoorEnF
import Derived.Test.YtgiicfgekicfcaaGreatDoorDcL
import Derived.Test.YtgiicfgekicfcaaGreatDoorDtN
import Derived.Test.YtgiicfgekicfcaaGreatDoorDtP
import Derived.Test.YtgiicfgekicfcaaGreatDoorHO
import Derived.Test.YtgiicfgekicfcaaGreatDoorBkD
import Derived.Test.YtgiicfgekicfcaaGreatDoorSzA
namespace Go.Proofs.YtgiicfgekicfcaaGreatDoor
open Go.RowKit Vi
set_option linter.unusedVariables false
set_option linter.unusedSimpArgs false
theorem joined (a b : ByteArray) : (a ++ b).data.toList = a.data.toList ++ b.data.toList := by simp
theorem joined_size (a b : ByteArray) : (a ++ b).size = a.size + b.size := by rw [← list_len, joined, List.length_append, list_len, list_len]
theorem taken (s : ByteArray) (j : Nat) : (s.extract 0 j).data.toList = s.data.toList.take j := by simp
theorem taken_size (s : ByteArray) (j : Nat) (h : j ≤ s.size) : (s.extract 0 j).size = j := by rw [← list_len, taken, List.length_take, list_len]; omega
theorem lim_of : ∀ (k : Nat) (t : Rn (Rp k)), bz k t ≤ 67108864 → Lim k t.list
  | 0, t, h => trivial
  | k + 1, t, h => ⟨by have h9 := bz_len k t; have h8 : List.length t.list ≤ 1073741824 := by omega
                       exact h8, fun x hx => lim_of k x (Nat.le_trans (bz_mem k t x hx) h)⟩
set_option maxHeartbeats 8000000 in
set_option maxRecDepth 20000 in
theorem back_walk (k : Nat) (t : Rn (Rp k)) (P : Option Addr) (m c : Nat) (B : ByteArray) (cut : Int) (hwz : Wz k t) (hB : B.size ≤ 140737488351232) (hR : Rg k t) (hc0 : -9223372036854775808 ≤ cut) (hc1 : cut ≤ 9223372036854775807) (w : World) (hL : Laid w) (hA : RpL (fun _ => True) k w (.slice P m c) t.list) :
    Calls Tryz.prog 4 #[.agg #[.int .i64 t.kind, .string (strB t.text), .int .i64 t.n, .slice P m c], .string B, .int .i64 cut] w fun e w' => e = .returned (.bool true) ∧ Below w.heap.size w w' := by
  by_cases hgt : 67108864 < bz k t
  · have HGR : Hid (∀ W, Below w.heap.size w W → Calls Tryz.prog 5 #[.agg #[.int .i64 t.kind, .string (strB t.text), .int .i64 t.n, .slice P m c]] W fun e w' => e = .returned (.bool true) ∧ Below W.heap.size W w') := fun W hW => by
      have h9 := zgreat_any k t _ P m c W hwz (hA.on hW)
      rw [decide_eq_true hgt] at h9; exact h9
    have HL : Hid (Laid w) := hL
    obtain ⟨s, hs⟩ : ∃ s, strB t.text = s := ⟨_, rfl⟩
    obtain ⟨kd, hkd⟩ : ∃ kd, t.kind = kd := ⟨_, rfl⟩
    obtain ⟨n, hn⟩ : ∃ n, t.n = n := ⟨_, rfl⟩
    rw [hs, hkd, hn] at HGR ⊢
    obtain ⟨W0, hW0⟩ : ∃ W, W = w.alloc (.cells #[.int .i64 kd, .string s, .int .i64 n, .slice P m c] 24) := ⟨_, rfl⟩
    have hb0 : Below w.heap.size w W0 := by rw [hW0]; exact (Below.refl _ _).alloc (Nat.le_refl _) _
    obtain ⟨r3, hr3⟩ : ∃ b, w.heap.size = b := ⟨_, rfl⟩
    have HA0 : Hid (W0.heap[r3]? = some (.cells #[.int .i64 kd, .string s, .int .i64 n, .slice P m c] 24)) := by rw [hW0, ← hr3]; exact one_alloc _ _
    have HB0 : Hid (Below w.heap.size w W0) := hb0
    have HR3 : Hid (w.heap.size = r3) := hr3
    have HWK : Hid _ := works_any W0 (HL.out.on HB0.out)
    clear hb0 hr3 hA hL hs hkd hn hwz hR hgt
    go_enter Tryz.func4, Tryz.ntmps4
    go_upto_region 1 with fail
    rw [← hW0, HR3.out]
    clear hW0
    go_wp2_with fail
    refine (show Calls _ _ _ _ _ from HWK.out).mono ?_
    rintro e w1 ⟨rfl, hb1⟩
    have HA1 : Hid (w1.heap[r3]? = some (.cells #[.int .i64 kd, .string s, .int .i64 n, .slice P m c] 24)) := keep_row HA0.out hb1
    have HB1 : Hid (Below w.heap.size w w1) := HB0.out.trans (hb1.mono HB0.out.size)
    have HCG : Hid _ := HGR.out w1 HB1.out
    obtain ⟨z0, z1, z2, z3, zf⟩ := prow4 HA1.out
    clear hb1 HWK HGR HA0
    go_wp2_with fail
    refine (show Calls _ _ _ _ _ from HCG.out).mono ?_
    rintro e w2 ⟨rfl, hb2⟩
    have HB2 : Hid (Below w.heap.size w w2) := HB1.out.trans (hb2.mono HB1.out.size)
    have HW2 : Hid _ := works_any w2 (HL.out.on HB2.out)
    clear z0 z1 z2 z3 zf hb2 HCG HA1
    go_wp2_with fail
    refine (show Calls _ _ _ _ _ from HW2.out).mono ?_
    rintro e w4 ⟨rfl, hb4⟩
    have HB4 : Hid (Below w.heap.size w w4) := HB2.out.trans (hb4.mono HB2.out.size)
    clear hb4
    go_wp2
    go_returns
    exact ⟨rfl, HB4.out⟩
  have hbz : bz k t ≤ 67108864 := by omega
  have HGR : Hid (∀ W, Below w.heap.size w W → Calls Tryz.prog 5 #[.agg #[.int .i64 t.kind, .string (strB t.text), .int .i64 t.n, .slice P m c]] W fun e w' => e = .returned (.bool false) ∧ Below W.heap.size W w') := fun W hW => by
    have h9 := zgreat_any k t _ P m c W hwz (hA.on hW)
    rw [decide_eq_false hgt] at h9; exact h9
  have HCL : Hid (∀ W, Below w.heap.size w W → Calls Tryz.prog 9 #[.agg #[.int .i64 t.kind, .string (strB t.text), .int .i64 t.n, .slice P m c], .int .i64 1] W fun e w' => ClPost (fun bb => bb = true → Cl k 1 t) e ∧ Below W.heap.size W w') := fun W hW => clean_any k t _ (.slice P m c) 1 W hbz hR (by omega) (by omega) (hA.on hW)
  have HMR : Hid (Cl k 1 t → ∃ (u : Rn (Rp 32)) (E : ByteArray), (∀ W, Below w.heap.size w W → Calls Tryz.prog 7 #[.agg #[.int .i64 t.kind, .string (strB t.text), .int .i64 t.n, .slice P m c], .int .i64 3] W fun e w' => e = .returned (.tuple #[.string E, .int .i64 0]) ∧ Below W.heap.size W w') ∧
      (1 ≤ E.size ∧ E.size ≤ 2013265920) ∧ (∀ W, Laid W → Calls Tryz.prog 10 #[.string (E ++ B)] W fun e w' => DeIs 32 (.ok (u, E.size)) W w' e) ∧ (∀ W j, Laid W → j < E.size → Calls Tryz.prog 10 #[.string (E.extract 0 j)] W fun e w' => DeIs 32 (.error 20) W w' e) ∧
      (∀ (Q : Nat → Prop) (va : Value) (W : World), Below w.heap.size w W → RpL Q 32 W va u.list → Calls Tryz.prog 11 #[.agg #[.int .i64 u.kind, .string (strB u.text), .int .i64 u.n, va], .agg #[.int .i64 t.kind, .string (strB t.text), .int .i64 t.n, .slice P m c]] W fun e w' => e = .returned (.bool true) ∧ Below W.heap.size W w')) := fun hcl => by
    obtain ⟨⟨hwf, hnul⟩, hbu, hrp⟩ := cl_wf k 32 t 1 (by omega) hcl
    obtain ⟨q1, q2, q3⟩ := dn_kind k 32 t
    obtain ⟨u, hu⟩ : ∃ u, dn k 32 t = u := ⟨_, rfl⟩
    rw [hu] at hwf hnul hbu hrp q1 q2 q3
    obtain ⟨hel, hne⟩ := enc_len 32 u hwf
    have hes : (strB (enc 32 u)).size = (enc 32 u).length := strB_size _
    have hnn := nn_same 32 u hnul
    have hpos : 1 ≤ (enc 32 u).length := List.length_pos_iff.2 hne
    refine ⟨u, strB (enc 32 u), ?_, ⟨by omega, by omega⟩, ?_, ?_, ?_⟩
    · intro W hW
      have h9 := encode_any u P m c W hwf hne (by omega) (hL.on hW) (((hrp _ _ _ hA).on hW).keep (fun g _ hl => ⟨hl, rfl⟩))
      rw [q1, q2, q3] at h9
      exact h9
    · intro W hW
      have h9 := decode_any (strB (enc 32 u) ++ B) (by rw [joined_size]; omega) W hW
      rw [joined, strB_list, dec_back 32 u B.data.toList hwf, hnn, ← hes] at h9
      exact h9
    · intro W j hW hj
      have h9 := decode_any ((strB (enc 32 u)).extract 0 j) (by rw [taken_size _ _ (by omega)]; omega) W hW
      rw [taken, strB_list, dec_pre 32 u ((enc 32 u).take j) ((enc 32 u).drop j) hwf (List.take_append_drop _ _).symm (fun e => by have := congrArg List.length e; rw [List.length_drop] at this; simp at this; omega)] at h9
      exact h9
    · intro Q va W hW hv
      have h9 := sR_any 32 u.kind u.n u.text Q (fun _ => True) va (.slice P m c) u.list W (lim_of 32 u (by omega)) hv ((hrp _ _ _ hA).on hW)
      rw [q1, q2, q3] at h9 ⊢
      exact h9
  have HL : Hid (Laid w) := hL
  obtain ⟨s, hs⟩ : ∃ s, strB t.text = s := ⟨_, rfl⟩
  obtain ⟨kd, hkd⟩ : ∃ kd, t.kind = kd := ⟨_, rfl⟩
  obtain ⟨n, hn⟩ : ∃ n, t.n = n := ⟨_, rfl⟩
  rw [hs, hkd, hn] at HGR HCL HMR ⊢
  obtain ⟨W0, hW0⟩ : ∃ W, W = w.alloc (.cells #[.int .i64 kd, .string s, .int .i64 n, .slice P m c] 24) := ⟨_, rfl⟩
  have hb0 : Below w.heap.size w W0 := by rw [hW0]; exact (Below.refl _ _).alloc (Nat.le_refl _) _
  obtain ⟨r3, hr3⟩ : ∃ b, w.heap.size = b := ⟨_, rfl⟩
  have HA0 : Hid (W0.heap[r3]? = some (.cells #[.int .i64 kd, .string s, .int .i64 n, .slice P m c] 24)) := by rw [hW0, ← hr3]; exact one_alloc _ _
  have HB0 : Hid (Below w.heap.size w W0) := hb0
  have HR3 : Hid (w.heap.size = r3) := hr3
  have HWK : Hid _ := works_any W0 (HL.out.on HB0.out)
  clear hb0 hr3 hA hL hs hkd hn hbz hR hwz hgt
  go_enter Tryz.func4, Tryz.ntmps4
  go_upto_region 1 with fail
  rw [← hW0, HR3.out]
  clear hW0
  go_wp2_with fail
  refine (show Calls _ _ _ _ _ from HWK.out).mono ?_
  rintro e w1 ⟨rfl, hb1⟩
  have HA1 : Hid (w1.heap[r3]? = some (.cells #[.int .i64 kd, .string s, .int .i64 n, .slice P m c] 24)) := keep_row HA0.out hb1
  have HB1 : Hid (Below w.heap.size w w1) := HB0.out.trans (hb1.mono HB0.out.size)
  have HCG : Hid _ := HGR.out w1 HB1.out
  obtain ⟨z0, z1, z2, z3, zf⟩ := prow4 HA1.out
  clear hb1 HWK HGR HA0
  go_wp2_with fail
  refine (show Calls _ _ _ _ _ from HCG.out).mono ?_
  rintro e w2 ⟨rfl, hb2⟩
  have HA2 : Hid (w2.heap[r3]? = some (.cells #[.int .i64 kd, .string s, .int .i64 n, .slice P m c] 24)) := keep_row HA1.out hb2
  have HB2 : Hid (Below w.heap.size w w2) := HB1.out.trans (hb2.mono HB1.out.size)
  have HCC : Hid _ := HCL.out w2 HB2.out
  clear z0 z1 z2 z3 zf hb2 HCG HCL HA1
  obtain ⟨z0, z1, z2, z3, zf⟩ := prow4 HA2.out
  go_wp2_with fail
  refine (show Calls _ _ _ _ _ from HCC.out).mono ?_
  rintro e w3 ⟨⟨bb, rfl, hbb⟩, hb3⟩
  have HA3 : Hid (w3.heap[r3]? = some (.cells #[.int .i64 kd, .string s, .int .i64 n, .slice P m c] 24)) := keep_row HA2.out hb3
  have HB3 : Hid (Below w.heap.size w w3) := HB2.out.trans (hb3.mono HB2.out.size)
  have HBB : Hid (bb = true → Cl k 1 t) := hbb
  clear z0 z1 z2 z3 zf hb3 hbb HCC HA2
  obtain ⟨z0, z1, z2, z3, zf⟩ := prow4 HA3.out
  cases bb
  · have HW3 : Hid _ := works_any w3 (HL.out.on HB3.out)
    go_wp2_with fail
    refine (show Calls _ _ _ _ _ from HW3.out).mono ?_
    rintro e w4 ⟨rfl, hb4⟩
    have HB4 : Hid (Below w.heap.size w w4) := HB3.out.trans (hb4.mono HB3.out.size)
    clear hb4
    go_wp2
    go_returns
    exact ⟨rfl, HB4.out⟩
  obtain ⟨u, E, hen, ⟨he1, he2⟩, hd1, hd2, hsr⟩ := HMR.out (HBB.out rfl)
  have HEN : Hid _ := hen w3 HB3.out
  have HD1 : Hid (∀ W, Laid W → Calls Tryz.prog 10 #[.string (E ++ B)] W fun e w' => DeIs 32 (.ok (u, E.size)) W w' e) := hd1
  have HD2 : Hid (∀ W j, Laid W → j < E.size → Calls Tryz.prog 10 #[.string (E.extract 0 j)] W fun e w' => DeIs 32 (.error 20) W w' e) := hd2
  have HSR : Hid (∀ (Q : Nat → Prop) (va : Value) (W : World), Below w.heap.size w W → RpL Q 32 W va u.list → Calls Tryz.prog 11 #[.agg #[.int .i64 u.kind, .string (strB u.text), .int .i64 u.n, va], .agg #[.int .i64 kd, .string s, .int .i64 n, .slice P m c]] W fun e w' => e = .returned (.bool true) ∧ Below W.heap.size W w') := hsr
  clear hen hd1 hd2 hsr HMR HBB
  go_wp2_with fail
  refine (show Calls _ _ _ _ _ from HEN.out).mono ?_
  rintro e w4 ⟨rfl, hb4⟩
  have HA4 : Hid (w4.heap[r3]? = some (.cells #[.int .i64 kd, .string s, .int .i64 n, .slice P m c] 24)) := keep_row HA3.out hb4
  have HB4 : Hid (Below w.heap.size w w4) := HB3.out.trans (hb4.mono HB3.out.size)
  have HCD : Hid (Calls Tryz.prog 10 #[.string (E ++ B)] w4 fun e w' => DeIs 32 (.ok (u, E.size)) w4 w' e) := HD1.out w4 (HL.out.on HB4.out)
  clear hb4 z0 z1 z2 z3 zf HEN HD1 HA3
  go_wp2_with fail
  refine (show Calls _ _ _ _ _ from HCD.out).mono ?_
  rintro e w5 ⟨P2, l2, c2, rfl, hb5, hp5⟩
  obtain ⟨T2, hT⟩ : ∃ T, strB u.text = T := ⟨_, rfl⟩
  obtain ⟨kd2, hkd⟩ : ∃ kd, u.kind = kd := ⟨_, rfl⟩
  obtain ⟨n2, hn⟩ : ∃ n, u.n = n := ⟨_, rfl⟩
  rw [hT, hkd, hn] at HSR
  rw [hT, hkd, hn]
  clear hT hkd hn
  obtain ⟨W5, hW5⟩ : ∃ W, W = w5.alloc (.cells #[.int .i64 kd2, .string T2, .int .i64 n2, .slice P2 l2 c2] 24) := ⟨_, rfl⟩
  have hc5 : Below w5.heap.size w5 W5 := by rw [hW5]; exact (Below.refl _ _).alloc (Nat.le_refl _) _
  obtain ⟨r9, hr9⟩ : ∃ r, w5.heap.size = r := ⟨_, rfl⟩
  have HC5 : Hid (W5.heap[r9]? = some (.cells #[.int .i64 kd2, .string T2, .int .i64 n2, .slice P2 l2 c2] 24)) := by rw [hW5, ← hr9]; exact one_alloc _ _
  have HA5 : Hid (W5.heap[r3]? = some (.cells #[.int .i64 kd, .string s, .int .i64 n, .slice P m c] 24)) := keep_row (keep_row HA4.out hb5) hc5
  have HB5 : Hid (Below w.heap.size w W5) := (HB4.out.trans (hb5.mono HB4.out.size)).trans (hc5.mono (Nat.le_trans HB4.out.size hb5.size))
  have HCS : Hid _ := HSR.out _ (.slice P2 l2 c2) W5 HB5.out (hp5.on hc5)
  have HR9 : Hid (w5.heap.size = r9) := hr9
  obtain ⟨z0, z1, z2, z3, zf⟩ := prow4 HA5.out
  obtain ⟨y0, y1, y2, y3, yf⟩ := prow4 HC5.out
  clear hb5 hc5 hr9 hp5 HCD HSR HA4
  go_upto_region 5 with fail
  rw [← hW5, HR9.out]
  clear hW5 HR9
  go_wp2_with fail
  refine (show Calls _ _ _ _ _ from HCS.out).mono ?_
  rintro e w6 ⟨rfl, hb6⟩
  have HB6 : Hid (Below w.heap.size w w6) := HB5.out.trans (hb6.mono HB5.out.size)
  have HPO : Hid _ := pos_any cut E.size hc0 hc1 he1 (by omega) w6
  clear hb6 z0 z1 z2 z3 zf y0 y1 y2 y3 yf HCS
  go_wp2_with fail
  refine (show Calls _ _ _ _ _ from HPO.out).mono ?_
  rintro e w7 ⟨⟨j, rfl, hj⟩, hb7⟩
  have HB7 : Hid (Below w.heap.size w w7) := HB6.out.trans (hb7.mono HB6.out.size)
  have HCE : Hid (Calls Tryz.prog 10 #[.string (E.extract 0 j)] w7 fun e w' => DeIs 32 (.error 20) w7 w' e) := HD2.out w7 j (HL.out.on HB7.out) hj
  have hj0 : (0 : Int) ≤ (j : Int) := by omega
  have hj1 : (j : Int) ≤ (E.size : Int) := by omega
  clear hb7 HPO HD2
  go_wp2_with fail
  refine (show Calls _ _ _ _ _ from HCE.out).mono ?_
  rintro e w8 ⟨hx0, hb8, rfl⟩
  obtain ⟨W8, hW8⟩ : ∃ W, W = w8.alloc (.cells #[.int .i64 0, .string ⟨#[]⟩, .int .i64 0, .slice none 0 0] 24) := ⟨_, rfl⟩
  have hc8 : Below w8.heap.size w8 W8 := by rw [hW8]; exact (Below.refl _ _).alloc (Nat.le_refl _) _
  obtain ⟨r12, hr12⟩ : ∃ r, w8.heap.size = r := ⟨_, rfl⟩
  have HC8 : Hid (W8.heap[r12]? = some (.cells #[.int .i64 0, .string ⟨#[]⟩, .int .i64 0, .slice none 0 0] 24)) := by rw [hW8, ← hr12]; exact one_alloc _ _
  have HB8 : Hid (Below w.heap.size w W8) := (HB7.out.trans (hb8.mono HB7.out.size)).trans (hc8.mono (Nat.le_trans HB7.out.size hb8.size))
  have HS8 : Hid (Calls Tryz.prog 11 #[.agg #[.int .i64 0, .string ⟨#[]⟩, .int .i64 0, .slice none 0 0], .agg #[.int .i64 0, .string ⟨#[]⟩, .int .i64 0, .slice none 0 0]] W8 fun e w' => e = .returned (.bool true) ∧ Below W8.heap.size W8 w') := sR_any 0 0 0 [] (fun _ => True) (fun _ => True) _ _ [] W8 trivial (RpL.nil _ _ 0) (RpL.nil _ _ 0)
  have HR12 : Hid (w8.heap.size = r12) := hr12
  obtain ⟨z0, z1, z2, z3, zf⟩ := prow4 HC8.out
  clear hb8 hc8 hr12 hx0 HCE
  go_upto_region 8 with fail
  rw [← hW8, HR12.out]
  clear hW8 HR12
  go_wp2_with fail
  refine (show Calls _ _ _ _ _ from HS8.out).mono ?_
  rintro e w9 ⟨rfl, hb9⟩
  have HB9 : Hid (Below w.heap.size w w9) := HB8.out.trans (hb9.mono HB8.out.size)
  clear hb9
  go_wp2
  go_returns
  exact ⟨rfl, HB9.out⟩
end Go.Proofs.YtgiicfgekicfcaaGreatDoor
