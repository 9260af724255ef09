import Derived.Test.YtgiicfgekicfcaaGreatDoorEI
import Derived.Test.YtgiicfgekicfcaaGreatDoorEJ
import Derived.Test.YtgiicfgekicfcaaGreatDoorBkD
namespace Go.Proofs.YtgiicfgekicfcaaGreatDoor
open Go.RowKit Vi
set_option linter.unusedVariables false
set_option linter.unusedSimpArgs false
set_option maxRecDepth 20000 in
set_option maxHeartbeats 4000000 in
/-- the document's Encode in the forms 2 and 3. -/
theorem rEncode_form (p3 : Bool) (p : Int) (hp : p = if p3 then 3 else 2) (k : Nat) (t : Rn (Rp k)) (P : Option Addr) (m c : Nat) (w : World) (h10 : t.kind ≠ 10) (hb : bz k t ≤ 1048576) (hr : Rg k t) (hT : RpL (fun g => g < w.heap.size) k w (.slice P m c) t.list) :
    Calls Tryz.prog 8 #[.agg #[.int .i64 t.kind, .string (strB t.text), .int .i64 t.n, .slice P m c], .int .i64 p] w fun e w' => EncIs (encX p3 k 0 t) w w' e := by
  obtain ⟨XT, hXT⟩ : ∃ XT, strB t.text = XT := ⟨_, rfl⟩
  obtain ⟨kd, hkd⟩ : ∃ kd, t.kind = kd := ⟨_, rfl⟩
  obtain ⟨n, hn⟩ : ∃ n, t.n = n := ⟨_, rfl⟩
  obtain ⟨b, hbb⟩ : ∃ r, w.heap.size = r := ⟨_, rfl⟩
  obtain ⟨W0, hW0⟩ : ∃ W, W = w.alloc (.cells #[.int .i64 kd, .string XT, .int .i64 n, .slice P m c] 24) := ⟨_, rfl⟩
  have hb0 : Below w.heap.size w W0 := by rw [hW0]; exact (Below.refl _ _).alloc (Nat.le_refl _) _
  have hr1 : W0.heap[b]? = some (.cells #[.int .i64 kd, .string XT, .int .i64 n, .slice P m c] 24) := by rw [hW0, ← hbb]; exact one_alloc _ _
  obtain ⟨o, ho⟩ : ∃ o, encX p3 k 0 t = o := ⟨_, rfl⟩
  have HRP : Hid (Calls Tryz.prog 20 #[.agg #[.int .i64 kd, .string XT, .int .i64 n, .slice P m c], .int .i64 p, .int .i64 1] W0 fun e w' => EncIs o W0 w' e) := by
    have h9 := redoc_any p3 p hp w.heap.size k 0 t (.slice P m c) W0 (by omega) hb hr hb0.size (hT.on hb0)
    rw [hXT, hkd, hn, ho] at h9
    exact h9
  have HB0 : Hid (Below w.heap.size w W0) := hb0
  have HBB : Hid (w.heap.size = b) := hbb
  obtain ⟨z0, z1, z2, z3, zf⟩ := prow4 hr1
  have hk10 : (kd == 10) = false := by rw [← hkd]; simpa using h10
  rw [hXT, hkd, hn, ho]
  clear hb hr hT hb0 hr1 hbb h10 hXT hkd hn ho
  cases p3 <;> (have hp' := hp; simp at hp'; subst hp'; clear hp)
  all_goals
    cases o with
    | none =>
      go_enter Tryz.func8, Tryz.ntmps8
      go_upto_region 1 with fail
      rw [← hW0, HBB.out]
      clear hW0
      go_wp2_with fail
      refine (show Calls _ _ _ _ _ from HRP.out).mono ?_
      rintro e w1 ⟨rfl, hb1⟩
      have HB1 : Hid (Below w.heap.size w w1) := HB0.out.trans (hb1.mono HB0.out.size)
      clear hb1 z0 z1 z2 z3 zf
      go_wp2
      go_returns
      exact ⟨rfl, HB1.out⟩
    | some a =>
      go_enter Tryz.func8, Tryz.ntmps8
      go_upto_region 1 with fail
      rw [← hW0, HBB.out]
      clear hW0
      go_wp2_with fail
      refine (show Calls _ _ _ _ _ from HRP.out).mono ?_
      rintro e w1 ⟨rfl, hb1⟩
      have HB1 : Hid (Below w.heap.size w w1) := HB0.out.trans (hb1.mono HB0.out.size)
      clear hb1 z0 z1 z2 z3 zf
      go_wp2
      go_returns
      exact ⟨rfl, HB1.out⟩
set_option maxRecDepth 20000 in
set_option maxHeartbeats 4000000 in
theorem rEncode_ten (p3 : Bool) (p : Int) (hp : p = if p3 then 3 else 2) (n : Int) (s : ByteArray) (P : Option Addr) (m c : Nat) (w : World) :
    Calls Tryz.prog 8 #[.agg #[.int .i64 10, .string s, .int .i64 n, .slice P m c], .int .i64 p] w fun e w' => EncIs (some []) w w' e := by
  obtain ⟨b, hbb⟩ : ∃ r, w.heap.size = r := ⟨_, rfl⟩
  obtain ⟨W0, hW0⟩ : ∃ W, W = w.alloc (.cells #[.int .i64 10, .string s, .int .i64 n, .slice P m c] 24) := ⟨_, rfl⟩
  have hb0 : Below w.heap.size w W0 := by rw [hW0]; exact (Below.refl _ _).alloc (Nat.le_refl _) _
  have hr1 : W0.heap[b]? = some (.cells #[.int .i64 10, .string s, .int .i64 n, .slice P m c] 24) := by rw [hW0, ← hbb]; exact one_alloc _ _
  have HB0 : Hid (Below w.heap.size w W0) := hb0
  have HBB : Hid (w.heap.size = b) := hbb
  obtain ⟨z0, z1, z2, z3, zf⟩ := prow4 hr1
  clear hb0 hr1 hbb
  cases p3 <;> (have hp' := hp; simp at hp'; subst hp'; clear hp)
  all_goals
    go_enter Tryz.func8, Tryz.ntmps8
    go_upto_region 1 with fail
    rw [← hW0, HBB.out]
    clear hW0
    go_wp2
    go_returns
    exact ⟨rfl, HB0.out⟩
set_option maxRecDepth 20000 in
theorem rEncode_no (kd n p : Int) (s : ByteArray) (P : Option Addr) (m c : Nat) (w : World) (h2 : p ≠ 2) (h3 : p ≠ 3) :
    Calls Tryz.prog 8 #[.agg #[.int .i64 kd, .string s, .int .i64 n, .slice P m c], .int .i64 p] w fun e w' => EncIs none w w' e := by
  have hq2 : (p != 2) = true := by simpa using h2
  have hq3 : (p != 3) = true := by simpa using h3
  obtain ⟨W0, hW0⟩ : ∃ W, W = w.alloc (.cells #[.int .i64 kd, .string s, .int .i64 n, .slice P m c] 24) := ⟨_, rfl⟩
  have HB0 : Hid (Below w.heap.size w W0) := by show Below _ _ _; rw [hW0]; exact (Below.refl _ _).alloc (Nat.le_refl _) _
  clear h2 h3
  go_enter Tryz.func8, Tryz.ntmps8
  go_wp2
  rw [← hW0]
  clear hW0
  go_returns
  exact ⟨rfl, HB0.out⟩
/-- both Encodes of any reply: one answer. -/
theorem encode_both (k : Nat) (t : Rn (Rp k)) (P : Option Addr) (m c : Nat) (p : Int) (w : World) (hb : bz k t ≤ 1048576) (hr : Rg k t) (hL : Laid w) (hM : Lm w) (hA : RpL (fun _ => True) k w (.slice P m c) t.list) :
    ∃ o : Option By, (∀ W, Below w.heap.size w W → Calls Tryz.prog 7 #[.agg #[.int .i64 t.kind, .string (strB t.text), .int .i64 t.n, .slice P m c], .int .i64 p] W fun e w' => EncIs o W w' e) ∧ (∀ W, Below w.heap.size w W → Calls Tryz.prog 8 #[.agg #[.int .i64 t.kind, .string (strB t.text), .int .i64 t.n, .slice P m c], .int .i64 p] W fun e w' => EncIs o W w' e) := by
  have key : ∀ p3 : Bool, (p = if p3 then 3 else 2) → ∃ o : Option By, (∀ W, Below w.heap.size w W → Calls Tryz.prog 7 #[.agg #[.int .i64 t.kind, .string (strB t.text), .int .i64 t.n, .slice P m c], .int .i64 p] W fun e w' => EncIs o W w' e) ∧ (∀ W, Below w.heap.size w W → Calls Tryz.prog 8 #[.agg #[.int .i64 t.kind, .string (strB t.text), .int .i64 t.n, .slice P m c], .int .i64 p] W fun e w' => EncIs o W w' e) := by
    intro p3 hp
    by_cases h10 : t.kind = 10
    · rw [h10]
      exact ⟨some [], fun W hW => xencode_ten p3 p hp t.n (strB t.text) P m c W, fun W hW => rEncode_ten p3 p hp t.n (strB t.text) P m c W⟩
    · exact ⟨encX p3 k 0 t, fun W hW => xencode_form p3 p hp k t P m c W h10 hb hr (hL.on hW) (hM.on hW) ((hA.on hW).keep (fun g _ hl => ⟨hl, rfl⟩)), fun W hW => rEncode_form p3 p hp k t P m c W h10 hb hr ((hA.on hW).keep (fun g _ hl => ⟨hl, rfl⟩))⟩
  by_cases h3 : p = 3
  · exact key true (by simpa using h3)
  by_cases h2 : p = 2
  · exact key false (by simpa using h2)
  exact ⟨none, fun W hW => xencode_no t.kind t.n p (strB t.text) P m c W h2 h3, fun W hW => rEncode_no t.kind t.n p (strB t.text) P m c W h2 h3⟩
set_option maxHeartbeats 4000000 in
set_option maxRecDepth 20000 in
theorem encodes_walk (k : Nat) (t : Rn (Rp k)) (P : Option Addr) (m c : Nat) (p : Int) (hbz : bz k t ≤ 1048576) (hR : Rg k t) (w : World) (hL : Laid w) (hM : Lm w) (hA : RpL (fun _ => True) k w (.slice P m c) t.list) :
    Calls Tryz.prog 3 #[.agg #[.int .i64 t.kind, .string (strB t.text), .int .i64 t.n, .slice P m c], .int .i64 p] w fun e w' => e = .returned (.bool true) ∧ Below w.heap.size w w' := by
  have HGR : Hid (∀ W, Below w.heap.size w W → Calls Tryz.prog 5 #[.agg #[.int .i64 t.kind, .string (strB t.text), .int .i64 t.n, .slice P m c]] W fun e w' => e = .returned (.bool false) ∧ Below W.heap.size W w') := fun W hW => great_any k t _ P m c W hbz (hA.on hW)
  obtain ⟨o, hE1, hE2⟩ := encode_both k t P m c p w hbz hR hL hM hA
  have HE1 : Hid (∀ W, Below w.heap.size w W → Calls Tryz.prog 7 #[.agg #[.int .i64 t.kind, .string (strB t.text), .int .i64 t.n, .slice P m c], .int .i64 p] W fun e w' => EncIs o W w' e) := hE1
  have HE2 : Hid (∀ W, Below w.heap.size w W → Calls Tryz.prog 8 #[.agg #[.int .i64 t.kind, .string (strB t.text), .int .i64 t.n, .slice P m c], .int .i64 p] W fun e w' => EncIs o W w' e) := hE2
  have HL : Hid (Laid w) := hL
  obtain ⟨s, hs⟩ : ∃ s, strB t.text = s := ⟨_, rfl⟩
  obtain ⟨kd, hkd⟩ : ∃ kd, t.kind = kd := ⟨_, rfl⟩
  obtain ⟨n, hn⟩ : ∃ n, t.n = n := ⟨_, rfl⟩
  rw [hs, hkd, hn] at HGR HE1 HE2 ⊢
  obtain ⟨W0, hW0⟩ : ∃ W, W = w.alloc (.cells #[.int .i64 kd, .string s, .int .i64 n, .slice P m c] 24) := ⟨_, rfl⟩
  have hb0 : Below w.heap.size w W0 := by rw [hW0]; exact (Below.refl _ _).alloc (Nat.le_refl _) _
  obtain ⟨r3, hr3⟩ : ∃ b, w.heap.size = b := ⟨_, rfl⟩
  have HA0 : Hid (W0.heap[r3]? = some (.cells #[.int .i64 kd, .string s, .int .i64 n, .slice P m c] 24)) := by rw [hW0, ← hr3]; exact one_alloc _ _
  have HB0 : Hid (Below w.heap.size w W0) := hb0
  have HR3 : Hid (w.heap.size = r3) := hr3
  have HCG : Hid _ := HGR.out W0 hb0
  obtain ⟨z0, z1, z2, z3, zf⟩ := prow4 HA0.out
  clear hb0 hr3 hA hL hM hs hkd hn hbz hR hE1 hE2 HGR
  go_enter Tryz.func3, Tryz.ntmps3
  go_upto_region 1 with fail
  rw [← hW0, HR3.out]
  clear hW0
  go_wp2_with fail
  refine (show Calls _ _ _ _ _ from HCG.out).mono ?_
  rintro e w1 ⟨rfl, hb1⟩
  have HA1 : Hid (w1.heap[r3]? = some (.cells #[.int .i64 kd, .string s, .int .i64 n, .slice P m c] 24)) := keep_row HA0.out hb1
  have HB1 : Hid (Below w.heap.size w w1) := HB0.out.trans (hb1.mono HB0.out.size)
  have HC1 : Hid _ := HE1.out w1 HB1.out
  clear hb1 z0 z1 z2 z3 zf HCG HA0 HE1
  obtain ⟨z0, z1, z2, z3, zf⟩ := prow4 HA1.out
  cases o with
  | none =>
    go_wp2_with fail
    refine (show Calls _ _ _ _ _ from HC1.out).mono ?_
    rintro e w2 ⟨rfl, hb2⟩
    have HA2 : Hid (w2.heap[r3]? = some (.cells #[.int .i64 kd, .string s, .int .i64 n, .slice P m c] 24)) := keep_row HA1.out hb2
    have HB2 : Hid (Below w.heap.size w w2) := HB1.out.trans (hb2.mono HB1.out.size)
    have HC2 : Hid _ := HE2.out w2 HB2.out
    clear hb2 z0 z1 z2 z3 zf HC1 HA1 HE2
    obtain ⟨z0, z1, z2, z3, zf⟩ := prow4 HA2.out
    go_wp2_with fail
    refine (show Calls _ _ _ _ _ from HC2.out).mono ?_
    rintro e w3 ⟨rfl, hb3⟩
    have HB3 : Hid (Below w.heap.size w w3) := HB2.out.trans (hb3.mono HB2.out.size)
    have HWK : Hid _ := works_any w3 (HL.out.on HB3.out)
    clear hb3 z0 z1 z2 z3 zf HC2 HA2
    go_wp2_with fail
    refine (show Calls _ _ _ _ _ from HWK.out).mono ?_
    rintro e w4 ⟨rfl, hb4⟩
    have HB4 : Hid (Below w.heap.size w w4) := HB3.out.trans (hb4.mono HB3.out.size)
    clear hb4
    go_wp2
    go_returns
    exact ⟨rfl, HB4.out⟩
  | some a =>
    have HD1 : Hid (∃ E : ByteArray, strB a = E) := ⟨_, rfl⟩
    obtain ⟨E, hE⟩ := HD1.out
    have HC1' : Hid (Calls Tryz.prog 7 #[.agg #[.int .i64 kd, .string s, .int .i64 n, .slice P m c], .int .i64 p] w1 fun e w' => e = .returned (.tuple #[.string E, .int .i64 0]) ∧ Below w1.heap.size w1 w') := by
      have h9 := HC1.out
      subst hE
      exact h9
    have HE2' : Hid (∀ W, Below w.heap.size w W → Calls Tryz.prog 8 #[.agg #[.int .i64 kd, .string s, .int .i64 n, .slice P m c], .int .i64 p] W fun e w' => e = .returned (.tuple #[.string E, .int .i64 0]) ∧ Below W.heap.size W w') := by
      intro W hW
      have h9 := HE2.out W hW
      subst hE
      exact h9
    clear hE HD1 HC1 HE2
    go_wp2_with fail
    refine (show Calls _ _ _ _ _ from HC1'.out).mono ?_
    rintro e w2 ⟨rfl, hb2⟩
    have HA2 : Hid (w2.heap[r3]? = some (.cells #[.int .i64 kd, .string s, .int .i64 n, .slice P m c] 24)) := keep_row HA1.out hb2
    have HB2 : Hid (Below w.heap.size w w2) := HB1.out.trans (hb2.mono HB1.out.size)
    have HC2 : Hid _ := HE2'.out w2 HB2.out
    clear hb2 z0 z1 z2 z3 zf HC1' HA1 HE2'
    obtain ⟨z0, z1, z2, z3, zf⟩ := prow4 HA2.out
    go_wp2_with fail
    refine (show Calls _ _ _ _ _ from HC2.out).mono ?_
    rintro e w3 ⟨rfl, hb3⟩
    have HB3 : Hid (Below w.heap.size w w3) := HB2.out.trans (hb3.mono HB2.out.size)
    have HWK : Hid _ := works_any w3 (HL.out.on HB3.out)
    clear hb3 z0 z1 z2 z3 zf HC2 HA2
    go_wp2_with fail
    refine (show Calls _ _ _ _ _ from HWK.out).mono ?_
    rintro e w4 ⟨rfl, hb4⟩
    have HB4 : Hid (Below w.heap.size w w4) := HB3.out.trans (hb4.mono HB3.out.size)
    clear hb4
    go_wp2
    go_returns
    exact ⟨rfl, HB4.out⟩
end Go.Proofs.YtgiicfgekicfcaaGreatDoor
