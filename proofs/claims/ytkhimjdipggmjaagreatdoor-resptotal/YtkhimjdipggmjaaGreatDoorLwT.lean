import Derived.Test.YtkhimjdipggmjaaGreatDoorDtA
import Derived.Test.YtkhimjdipggmjaaGreatDoorHO
namespace Go.Proofs.YtkhimjdipggmjaaGreatDoor
open Go.RowKit Vi
set_option linter.unusedVariables false
set_option linter.unusedSimpArgs false
set_option maxHeartbeats 4000000 in
set_option maxRecDepth 20000 in
theorem total_bad (s : ByteArray) (x : Nat) (hs : s.size ≤ 140737488351232) (w : World) (hL : Laid w) (ho : dec 32 s.data.toList = .error x) :
    Calls Tryz.prog 3 #[.string s] w fun e w' => e = .returned (.bool true) ∧ Below w.heap.size w w' := by
  have HD1 : Hid (Calls Tryz.prog 4 #[.string s] w fun e w' => DeIs 32 (dec 32 s.data.toList) w w' e) := decode_any s (by omega) w hL
  have HL : Hid (Laid w) := hL
  clear hL
  rw [ho] at HD1
  clear ho
  go_enter Tryz.func3, Tryz.ntmps3
  go_wp2_with fail
  refine (show Calls _ _ _ _ _ from HD1.out).mono ?_
  rintro e w1 ⟨hx0, hb1, rfl⟩
  have hxn : ((x : Int) != 0) = true := by simp; omega
  obtain ⟨xi, hxi⟩ : ∃ xi : Int, (x : Int) = xi := ⟨_, rfl⟩
  rw [hxi] at hxn ⊢
  obtain ⟨W1, hW1⟩ : ∃ W, W = w1.alloc (.cells #[.int .i64 0, .string ⟨#[]⟩, .int .i64 0, .slice none 0 0] 24) := ⟨_, rfl⟩
  have hc1 : Below w1.heap.size w1 W1 := by rw [hW1]; exact (Below.refl _ _).alloc (Nat.le_refl _) _
  obtain ⟨r3, hr3⟩ : ∃ r, w1.heap.size = r := ⟨_, rfl⟩
  have HA1 : Hid (W1.heap[r3]? = some (.cells #[.int .i64 0, .string ⟨#[]⟩, .int .i64 0, .slice none 0 0] 24)) := by rw [hW1, ← hr3]; exact one_alloc _ _
  have HB1 : Hid (Below w.heap.size w W1) := hb1.trans (hc1.mono hb1.size)
  have HR3 : Hid (w1.heap.size = r3) := hr3
  have HW : Hid _ := works_any W1 (HL.out.on HB1.out)
  clear hc1 hb1 hr3 hx0 hxi
  go_wp2_with fail
  rw [← hW1, HR3.out]
  clear hW1 HR3
  refine (show Calls _ _ _ _ _ from HW.out).mono ?_
  rintro e w3 ⟨rfl, hb3⟩
  obtain ⟨z0, z1, z2, z3, zf⟩ := prow4 (keep_row HA1.out hb3)
  have HB3 : Hid (Below w.heap.size w w3) := HB1.out.trans (hb3.mono HB1.out.size)
  have HSR : Hid (Calls Tryz.prog 6 #[.agg #[.int .i64 0, .string ⟨#[]⟩, .int .i64 0, .slice none 0 0], .agg #[.int .i64 0, .string ⟨#[]⟩, .int .i64 0, .slice none 0 0]] w3 fun e w' => e = .returned (.bool true) ∧ Below w3.heap.size w3 w') := sR_any 0 0 0 [] (fun _ => True) (fun _ => True) _ _ [] w3 trivial (RpL.nil _ _ 0) (RpL.nil _ _ 0)
  clear hb3
  go_wp2_with fail
  refine (show Calls _ _ _ _ _ from HSR.out).mono ?_
  rintro e w4 ⟨rfl, hb4⟩
  have HB4 : Hid (Below w.heap.size w w4) := HB3.out.trans (hb4.mono HB3.out.size)
  clear hb4
  go_wp2
  go_returns
  exact ⟨rfl, HB4.out⟩
set_option maxHeartbeats 4000000 in
set_option maxRecDepth 20000 in
theorem total_good (s : ByteArray) (t : Rn (Rp 32)) (z : Nat) (hs : s.size ≤ 140737488351232) (w : World) (hL : Laid w) (ho : dec 32 s.data.toList = .ok (t, z)) :
    Calls Tryz.prog 3 #[.string s] w fun e w' => e = .returned (.bool true) ∧ Below w.heap.size w w' := by
  have HD1 : Hid (Calls Tryz.prog 4 #[.string s] w fun e w' => DeIs 32 (dec 32 s.data.toList) w w' e) := decode_any s (by omega) w hL
  have HL : Hid (Laid w) := hL
  have HLT : Hid (Lim 32 t.list) := dec_lim 32 _ t z ho
  obtain ⟨⟨hwf, hne⟩, hle⟩ := dec_wf 32 _ t z ho
  have hzz := dec_len 32 _ t z ho
  rw [list_len] at hzz
  have hk9 : (t.kind == 10) = false := by simpa using wf_kind32 hwf
  obtain ⟨E, hE⟩ : ∃ E, strB (enc 32 t) = E := ⟨_, rfl⟩
  have hEs : (enc 32 t).length = E.size := by rw [← hE, strB_size]
  obtain ⟨u, hu⟩ : ∃ u, nn 32 t = u := ⟨_, rfl⟩
  have hEd : dec 32 E.data.toList = .ok (u, E.size) := by
    have h9 := dec_back 32 t [] hwf
    rw [List.append_nil, hu, hEs] at h9
    have h8 : E.data.toList = enc 32 t := by rw [← hE, strB_list]
    rw [h8, h9]
  have HDE : Hid (∀ W, Laid W → Calls Tryz.prog 4 #[.string E] W fun e w' => DeIs 32 (.ok (u, E.size)) W w' e) := fun W hW => by
    rw [← hEd]; exact decode_any E (by omega) W hW
  have HEN : Hid (∀ (P : Option Addr) (m c : Nat) (W : World), Laid W → RpL (fun g => g < W.heap.size) 32 W (.slice P m c) t.list → Calls Tryz.prog 7 #[.agg #[.int .i64 t.kind, .string (strB t.text), .int .i64 t.n, .slice P m c], .int .i64 3] W fun e w' => e = .returned (.tuple #[.string E, .int .i64 0]) ∧ Below W.heap.size W w') := fun P m c W hW hT => by
    rw [← hE]; exact encode_any t P m c W hwf hne (by omega) hW hT
  have HSR : Hid (∀ (Q1 Q2 : Nat → Prop) (va vb : Value) (W : World), RpL Q1 32 W va u.list → RpL Q2 32 W vb t.list → Calls Tryz.prog 6 #[.agg #[.int .i64 u.kind, .string (strB u.text), .int .i64 u.n, va], .agg #[.int .i64 t.kind, .string (strB t.text), .int .i64 t.n, vb]] W fun e w' => (∃ b, e = .returned (.bool b) ∧ (b = false → nulT 32 t = true)) ∧ Below W.heap.size W w') := fun Q1 Q2 va vb W h1 h2 => by
    cases hn : nulT 32 t with
    | true =>
      subst hu
      exact (sR_nn 32 t Q1 Q2 va vb W HLT.out h1 h2).mono (fun e w' ⟨⟨b, hb⟩, hB⟩ => ⟨⟨b, hb, fun _ => rfl⟩, hB⟩)
    | false =>
      rw [nn_same 32 t hn] at hu
      subst hu
      exact (sR_any 32 t.kind t.n t.text Q1 Q2 va vb t.list W HLT.out h1 h2).mono (fun e w' ⟨hb, hB⟩ => ⟨⟨true, hb, fun h => by cases h⟩, hB⟩)
  have HNU : Hid (∀ (Q : Nat → Prop) (v : Value) (W : World), RpL Q 32 W v t.list → Calls Tryz.prog 8 #[.agg #[.int .i64 t.kind, .string (strB t.text), .int .i64 t.n, v]] W fun e w' => e = .returned (.bool (nulT 32 t)) ∧ Below W.heap.size W w') := fun Q v W h => nul_any 32 t Q v W HLT.out h
  have hz1 : (1 : Int) ≤ (z : Int) := by omega
  have hz2 : (z : Int) ≤ (s.size : Int) := by omega
  rw [ho] at HD1
  clear hL ho hwf hne hle hzz hE hEs hEd hu
  go_enter Tryz.func3, Tryz.ntmps3
  go_wp2_with fail
  refine (show Calls _ _ _ _ _ from HD1.out).mono ?_
  rintro e w1 ⟨P1, l1, c1, rfl, hb1, hp1⟩
  obtain ⟨T, hT⟩ : ∃ T, strB t.text = T := ⟨_, rfl⟩
  obtain ⟨kd, hkd⟩ : ∃ kd, t.kind = kd := ⟨_, rfl⟩
  obtain ⟨n, hn⟩ : ∃ n, t.n = n := ⟨_, rfl⟩
  rw [hT, hkd, hn] at HEN HSR HNU
  rw [hT, hkd, hn]
  rw [hkd] at hk9
  clear hT hkd hn
  obtain ⟨W1, hW1⟩ : ∃ W, W = w1.alloc (.cells #[.int .i64 kd, .string T, .int .i64 n, .slice P1 l1 c1] 24) := ⟨_, rfl⟩
  have hc1 : Below w1.heap.size w1 W1 := by rw [hW1]; exact (Below.refl _ _).alloc (Nat.le_refl _) _
  obtain ⟨r3, hr3⟩ : ∃ r, w1.heap.size = r := ⟨_, rfl⟩
  have HA1 : Hid (W1.heap[r3]? = some (.cells #[.int .i64 kd, .string T, .int .i64 n, .slice P1 l1 c1] 24)) := by rw [hW1, ← hr3]; exact one_alloc _ _
  have HB1 : Hid (Below w.heap.size w W1) := hb1.trans (hc1.mono hb1.size)
  have HP1 : Hid (RpL (fun g => g < W1.heap.size) 32 W1 (.slice P1 l1 c1) t.list) := hp1.keep (fun g hg hl => ⟨Nat.lt_of_lt_of_le hl hc1.size, hc1.block g hl⟩)
  have HCE : Hid _ := HEN.out P1 l1 c1 W1 (HL.out.on HB1.out) HP1.out
  have HR3 : Hid (w1.heap.size = r3) := hr3
  obtain ⟨z0, z1, z2, z3, zf⟩ := prow4 HA1.out
  clear hc1 hb1 hr3 hp1 HD1 HEN
  go_upto_region 2 with fail
  rw [← hW1, HR3.out]
  clear hW1 HR3
  go_wp2_with fail
  refine (show Calls _ _ _ _ _ from HCE.out).mono ?_
  rintro e w2 ⟨rfl, hb2⟩
  have HB2 : Hid (Below w.heap.size w w2) := HB1.out.trans (hb2.mono HB1.out.size)
  have HA2 : Hid (w2.heap[r3]? = some (.cells #[.int .i64 kd, .string T, .int .i64 n, .slice P1 l1 c1] 24)) := keep_row HA1.out hb2
  have HP2 : Hid (RpL (fun g => g < W1.heap.size) 32 w2 (.slice P1 l1 c1) t.list) := HP1.out.on hb2
  have HCD : Hid (Calls Tryz.prog 4 #[.string E] w2 fun e w' => DeIs 32 (.ok (u, E.size)) w2 w' e) := HDE.out w2 (HL.out.on HB2.out)
  clear hb2 z0 z1 z2 z3 zf HDE HCE
  go_wp2_with fail
  refine (show Calls _ _ _ _ _ from HCD.out).mono ?_
  rintro e w3 ⟨P2, l2, c2, rfl, hb3, hp3⟩
  obtain ⟨T2, hT⟩ : ∃ T, strB u.text = T := ⟨_, rfl⟩
  obtain ⟨kd2, hkd⟩ : ∃ kd, u.kind = kd := ⟨_, rfl⟩
  obtain ⟨n2, hn⟩ : ∃ n, u.n = n := ⟨_, rfl⟩
  rw [hT, hkd, hn] at HSR
  rw [hT, hkd, hn]
  clear hT hkd hn
  obtain ⟨W3, hW3⟩ : ∃ W, W = w3.alloc (.cells #[.int .i64 kd2, .string T2, .int .i64 n2, .slice P2 l2 c2] 24) := ⟨_, rfl⟩
  have hc3 : Below w3.heap.size w3 W3 := by rw [hW3]; exact (Below.refl _ _).alloc (Nat.le_refl _) _
  obtain ⟨r8, hr8⟩ : ∃ r, w3.heap.size = r := ⟨_, rfl⟩
  have HC3 : Hid (W3.heap[r8]? = some (.cells #[.int .i64 kd2, .string T2, .int .i64 n2, .slice P2 l2 c2] 24)) := by rw [hW3, ← hr8]; exact one_alloc _ _
  have HA3 : Hid (W3.heap[r3]? = some (.cells #[.int .i64 kd, .string T, .int .i64 n, .slice P1 l1 c1] 24)) := keep_row (keep_row HA2.out hb3) hc3
  have HB3 : Hid (Below w.heap.size w W3) := (HB2.out.trans (hb3.mono HB2.out.size)).trans (hc3.mono (Nat.le_trans HB2.out.size hb3.size))
  have HP3 : Hid (RpL (fun g => g < W1.heap.size) 32 W3 (.slice P1 l1 c1) t.list) := (HP2.out.on hb3).on hc3
  have HU3 : Hid (RpL (fun g => w2.heap.size ≤ g) 32 W3 (.slice P2 l2 c2) u.list) := hp3.on hc3
  have HR8 : Hid (w3.heap.size = r8) := hr8
  have HW : Hid _ := works_any W3 (HL.out.on HB3.out)
  clear hb3 hc3 hr8 hp3 HCD HA2 HP2 HA1 HP1
  go_wp2_with fail
  rw [← hW3, HR8.out]
  clear hW3 HR8
  refine (show Calls _ _ _ _ _ from HW.out).mono ?_
  rintro e w4 ⟨rfl, hb4⟩
  obtain ⟨z0, z1, z2, z3, zf⟩ := prow4 (keep_row HA3.out hb4)
  obtain ⟨y0, y1, y2, y3, yf⟩ := prow4 (keep_row HC3.out hb4)
  have HB4 : Hid (Below w.heap.size w w4) := HB3.out.trans (hb4.mono HB3.out.size)
  have HP4 : Hid (RpL (fun g => g < W1.heap.size) 32 w4 (.slice P1 l1 c1) t.list) := HP3.out.on hb4
  have HCS : Hid _ := HSR.out _ _ _ _ w4 (HU3.out.on hb4) HP4.out
  have HA4 : Hid (w4.heap[r3]? = some (.cells #[.int .i64 kd, .string T, .int .i64 n, .slice P1 l1 c1] 24)) := keep_row HA3.out hb4
  clear hb4
  go_wp2_with fail
  refine (show Calls _ _ _ _ _ from HCS.out).mono ?_
  rintro e w5 ⟨⟨b, rfl, hbn⟩, hb5⟩
  have HB5 : Hid (Below w.heap.size w w5) := HB4.out.trans (hb5.mono HB4.out.size)
  have HBN : Hid _ := hbn
  clear z0 z1 z2 z3 zf y0 y1 y2 y3 yf hbn
  obtain ⟨z0, z1, z2, z3, zf⟩ := prow4 (keep_row HA4.out hb5)
  have HCN : Hid _ := HNU.out _ _ w5 (HP4.out.on hb5)
  clear hb5
  cases b
  · rw [HBN.out rfl] at HCN
    go_wp2_with fail
    refine (show Calls _ _ _ _ _ from HCN.out).mono ?_
    rintro e w6 ⟨rfl, hb6⟩
    have HB6 : Hid (Below w.heap.size w w6) := HB5.out.trans (hb6.mono HB5.out.size)
    clear hb6
    go_wp2
    go_returns
    exact ⟨rfl, HB6.out⟩
  · go_wp2
    go_returns
    exact ⟨rfl, HB5.out⟩
theorem RespTotal_walk (a0 : ByteArray) (z0 : a0.size ≤ 140737488351232) (w : World) (hL : Laid w) : Calls Tryz.prog 3 #[.string a0] w fun e w' => e = .returned (.bool true) ∧ Below w.heap.size w w' := by
  cases ho : dec 32 a0.data.toList with
  | error x => exact total_bad a0 x z0 w hL ho
  | ok p => exact total_good a0 p.1 p.2 z0 w hL ho
end Go.Proofs.YtkhimjdipggmjaaGreatDoor
