import Derived.Test.YtnfbaeajalnmmaaGreatDoorHN
namespace Go.Proofs.YtnfbaeajalnmmaaGreatDoor
open Go.RowKit Vi
set_option linter.unusedVariables false
set_option linter.unusedSimpArgs false
def oH : (k : Nat) → HdR → By → Except Nat (Rn (Rp k) × Nat)
  | 0, h, _ => if h.e = 0 then .ok (⟨h.kind, h.text, h.n, []⟩, h.size) else .error h.e
  | k + 1, h, S => decH k h S
theorem dec_oH : ∀ (k : Nat) (S : By), dec k S = oH k (hd (k == 0) S) S
  | 0, S => rfl
  | k + 1, S => rfl
theorem ry_any {k : Nat} {h : HdR} {S : By} {q : Nat} {s : ByteArray} {p : Nat} {w w' : World} {e : Ending} (hl : LfIs h q s p w w' e) (hm : h.many = none) : RyIs k (oH k h S) q s p w w' e := by
  cases k with
  | zero => exact ry_lf0 hl
  | succ k => exact ry_lf hl hm
theorem ry_form {k : Nat} {o : Except Nat (Rn (Rp k) × Nat)} {q : Nat} {s : ByteArray} {p : Nat} {w w' : World} {e : Ending} (h : RyIs k o q s p w w' e) : ∃ k0 t0 n0 P l c x, e = .returned (.tuple #[.agg #[.int .i64 k0, .string t0, .int .i64 n0, .slice P l c], .int .i64 x]) := by
  rcases o with x | ⟨t, z⟩
  · obtain ⟨_, _, k0, t0, n0, P, l, c, rfl⟩ := h
    exact ⟨k0, t0, n0, P, l, c, _, rfl⟩
  · obtain ⟨P, l, c, rfl, _⟩ := h
    exact ⟨_, _, _, P, l, c, _, rfl⟩
theorem ry_fin {k : Nat} {o : Except Nat (Rn (Rp k) × Nat)} {q rb : Nat} {s : ByteArray} {p : Nat} {w W1 w2 w' : World} {e : Ending} (h : RyIs k o q s p W1 w2 e) (hd : Dx q w W1) (ho : Only w2 w' rb) (h1 : w.heap.size ≤ rb) (h2 : rb < W1.heap.size) (hq : rb ≠ q) : RyIs k o q s p w w' e := by
  rcases o with x | ⟨t, z⟩
  · obtain ⟨a1, a2, a3⟩ := h
    exact ⟨a1, (hd.trans a2).set ho h1, a3⟩
  · obtain ⟨P, l, c, rfl, a2, a3, a4⟩ := h
    refine ⟨P, l, c, rfl, (hd.trans a2).set ho h1, ?_, a4.to ho hq rfl⟩
    exact a3.keep (fun g hg _ => ⟨by have := hd.size; omega, ho.other g (by omega)⟩)
theorem line_many (a : Int) (r : By) : (lineH a r).many = none := by
  unfold lineH
  split
  · rfl
  · split <;> rfl
theorem bulk_many (r : By) : (bulkH r).many = none := by
  unfold bulkH bulkT
  repeat' split
  all_goals rfl
theorem bool_many (r : By) : (boolH r).many = none := by
  cases r with
  | nil => rfl
  | cons c r => rw [boolH]; split; split <;> rfl; rfl
theorem ry_dx {k : Nat} {o : Except Nat (Rn (Rp k) × Nat)} {q : Nat} {s : ByteArray} {p : Nat} {w w' : World} {e : Ending} (h : RyIs k o q s p w w' e) : Dx q w w' := by
  rcases o with x | ⟨t, z⟩
  · exact h.2.1
  · obtain ⟨P, l, c, _, a2, _⟩ := h
    exact a2
set_option maxHeartbeats 4000000 in
set_option maxRecDepth 20000 in
theorem drep_stat (k q : Nat) (s : ByteArray) (p : Nat) (D : Int) (hs : s.size ≤ 281474976710656) (hi : p ≤ s.size) (w : World) (h : DkR w q s p) (hL : ∀ W, Dx q w W → Laid W) (hlt : p < s.size) (hm : s[p] = 43) :
    Calls Tryz.prog 11 #[.pointer (some ⟨q, 0, none⟩), .int .i64 D] w fun e w' => RyIs k (oH k (lineH 1 (s.data.toList.drop (p + 1))) (s.data.toList.drop p)) q s p w w' e := by
  obtain ⟨rb, hrb⟩ : ∃ rb, w.heap.size = rb := ⟨_, rfl⟩
  obtain ⟨W0, hW0⟩ : ∃ W, W = w.alloc (.cells #[.int .i64 0, .string ⟨#[]⟩, .int .i64 0, .slice none 0 0] 24) := ⟨_, rfl⟩
  have hb0 : Below w.heap.size w W0 := by rw [hW0]; exact (Below.refl _ _).alloc (Nat.le_refl _) _
  have hr0 : W0.heap[rb]? = some (.cells #[.int .i64 0, .string ⟨#[]⟩, .int .i64 0, .slice none 0 0] 24) := by rw [hW0, ← hrb]; exact one_alloc _ _
  have HD0 : Hid (Dx q w W0) := Dx.of hb0
  have HR0 : Hid _ := hr0
  have HK0 : Hid (DkR W0 q s p) := h.on hb0
  have hqr : rb ≠ q := by have := h.lt; omega
  have HRW : Hid (w.heap.size ≤ rb) := Nat.le_of_eq hrb
  have HLL : Hid _ := hL
  obtain ⟨c0, c1, cf⟩ := HK0.out.cells
  have hne : ((p : Int) == (s.size : Int)) = false := by simp; omega
  have hz0 : (0 : Int) ≤ (p : Int) := by omega
  have hz1 : (p : Int) < (s.size : Int) := by omega
  have hmm : (s[p].toNat : Int) = 43 := by rw [hm]; rfl
  have hiw : IntKind.i64.wrap ((p : Int) + 1) = (p : Int) + 1 := by rw [IntKind.wrap_i64] <;> omega
  clear h hb0 hr0 hL hm
  go_enter Tryz.func11, Tryz.ntmps11
  go_upto_region 1 with fail
  rw [← hW0]
  clear hW0 hrb
  go_quiet (fail)
  obtain ⟨W1, hW1⟩ : ∃ W1, W0.drewN nq = W1 := ⟨_, rfl⟩
  have HK1 : Hid (DkR W1 q s p) := by rw [← hW1]; exact HK0.out.dn nq
  have HR1 : Hid (W1.heap[rb]? = some (.cells #[.int .i64 0, .string ⟨#[]⟩, .int .i64 0, .slice none 0 0] 24)) := by rw [← hW1]; exact HR0.out
  have HD1 : Hid (Dx q w W1) := by rw [← hW1]; exact HD0.out.dn nq
  rw [hW1]
  clear hW1 c0 c1 cf HK0 HR0 HD0
  obtain ⟨d0, d1, df⟩ := HK1.out.cells
  go_upto_region 3 with fail
  go_quiet (fail)
  obtain ⟨W2, hW2⟩ : ∃ W2, W1.drewN nq = W2 := ⟨_, rfl⟩
  have HK2 : Hid (DkR W2 q s p) := by rw [← hW2]; exact HK1.out.dn nq
  have HR2 : Hid (W2.heap[rb]? = some (.cells #[.int .i64 0, .string ⟨#[]⟩, .int .i64 0, .slice none 0 0] 24)) := by rw [← hW2]; exact HR1.out
  have HD2 : Hid (Dx q w W2) := by rw [← hW2]; exact HD1.out.dn nq
  rw [hW2]
  clear hW2 d0 d1 df HK1 HR1 HD1
  obtain ⟨d0, d1, df⟩ := HK2.out.cells
  have hs3 := HK2.out.set (p + 1)
  rw [show ((p + 1 : Nat) : Int) = (p : Int) + 1 by omega] at hs3
  obtain ⟨W3, hW3⟩ : ∃ W3, W3 = W2.setCell ⟨q, 1, none⟩ (.int .i64 ((p : Int) + 1)) := ⟨_, rfl⟩
  rw [← hW3] at hs3
  have HK3 : Hid (DkR W3 q s (p + 1)) := hs3.1
  have HR3 : Hid (W3.heap[rb]? = some (.cells #[.int .i64 0, .string ⟨#[]⟩, .int .i64 0, .slice none 0 0] 24)) := (hs3.2.other rb hqr).trans HR2.out
  have HD3 : Hid (Dx q w W3) := HD2.out.trans (Dx.only hs3.2)
  have HLT : Hid (rb < W3.heap.size) := row_lt HR3.out
  clear hs3
  go_upto_region 5 with fail
  rw [← hW3]
  clear hW3 d0 d1 df HK2 HR2 HD2
  have HCC : Hid (Calls Tryz.prog 19 #[.pointer (some ⟨q, 0, none⟩), .int .i64 1] W3 fun e w' => RyIs k (oH k (lineH 1 (s.data.toList.drop (p + 1))) (s.data.toList.drop p)) q s p W3 w' e) := (dline_any q s p 1 hs (by omega) W3 HK3.out).mono (fun e w' hl => ry_any hl (line_many _ _))
  go_wp2_with fail
  refine (show Calls _ _ _ _ _ from HCC.out).mono ?_
  rintro e w4 hry
  obtain ⟨k0, t0, n0, P, l, c, x, rfl⟩ := ry_form hry
  have HRY : Hid _ := hry
  have HR4 : Hid (w4.heap[rb]? = some (.cells #[.int .i64 0, .string ⟨#[]⟩, .int .i64 0, .slice none 0 0] 24)) := (ry_dx hry).row HR3.out hqr
  obtain ⟨z0, z1, z2, z3, zf⟩ := prow4 HR4.out
  clear hry
  go_wp2
  exact rp2_fin _ 4 5 Tryz.results11 HR4.out _ _ _ _ _ _ (fun w' ho => ry_fin HRY.out HD3.out ho HRW.out HLT.out hqr) _ rfl rfl rfl
set_option maxHeartbeats 4000000 in
set_option maxRecDepth 20000 in
theorem drep_erro (k q : Nat) (s : ByteArray) (p : Nat) (D : Int) (hs : s.size ≤ 281474976710656) (hi : p ≤ s.size) (w : World) (h : DkR w q s p) (hL : ∀ W, Dx q w W → Laid W) (hlt : p < s.size) (hm : s[p] = 45) :
    Calls Tryz.prog 11 #[.pointer (some ⟨q, 0, none⟩), .int .i64 D] w fun e w' => RyIs k (oH k (lineH 2 (s.data.toList.drop (p + 1))) (s.data.toList.drop p)) q s p w w' e := by
  obtain ⟨rb, hrb⟩ : ∃ rb, w.heap.size = rb := ⟨_, rfl⟩
  obtain ⟨W0, hW0⟩ : ∃ W, W = w.alloc (.cells #[.int .i64 0, .string ⟨#[]⟩, .int .i64 0, .slice none 0 0] 24) := ⟨_, rfl⟩
  have hb0 : Below w.heap.size w W0 := by rw [hW0]; exact (Below.refl _ _).alloc (Nat.le_refl _) _
  have hr0 : W0.heap[rb]? = some (.cells #[.int .i64 0, .string ⟨#[]⟩, .int .i64 0, .slice none 0 0] 24) := by rw [hW0, ← hrb]; exact one_alloc _ _
  have HD0 : Hid (Dx q w W0) := Dx.of hb0
  have HR0 : Hid _ := hr0
  have HK0 : Hid (DkR W0 q s p) := h.on hb0
  have hqr : rb ≠ q := by have := h.lt; omega
  have HRW : Hid (w.heap.size ≤ rb) := Nat.le_of_eq hrb
  have HLL : Hid _ := hL
  obtain ⟨c0, c1, cf⟩ := HK0.out.cells
  have hne : ((p : Int) == (s.size : Int)) = false := by simp; omega
  have hz0 : (0 : Int) ≤ (p : Int) := by omega
  have hz1 : (p : Int) < (s.size : Int) := by omega
  have hmm : (s[p].toNat : Int) = 45 := by rw [hm]; rfl
  have hiw : IntKind.i64.wrap ((p : Int) + 1) = (p : Int) + 1 := by rw [IntKind.wrap_i64] <;> omega
  clear h hb0 hr0 hL hm
  go_enter Tryz.func11, Tryz.ntmps11
  go_upto_region 1 with fail
  rw [← hW0]
  clear hW0 hrb
  go_quiet (fail)
  obtain ⟨W1, hW1⟩ : ∃ W1, W0.drewN nq = W1 := ⟨_, rfl⟩
  have HK1 : Hid (DkR W1 q s p) := by rw [← hW1]; exact HK0.out.dn nq
  have HR1 : Hid (W1.heap[rb]? = some (.cells #[.int .i64 0, .string ⟨#[]⟩, .int .i64 0, .slice none 0 0] 24)) := by rw [← hW1]; exact HR0.out
  have HD1 : Hid (Dx q w W1) := by rw [← hW1]; exact HD0.out.dn nq
  rw [hW1]
  clear hW1 c0 c1 cf HK0 HR0 HD0
  obtain ⟨d0, d1, df⟩ := HK1.out.cells
  go_upto_region 3 with fail
  go_quiet (fail)
  obtain ⟨W2, hW2⟩ : ∃ W2, W1.drewN nq = W2 := ⟨_, rfl⟩
  have HK2 : Hid (DkR W2 q s p) := by rw [← hW2]; exact HK1.out.dn nq
  have HR2 : Hid (W2.heap[rb]? = some (.cells #[.int .i64 0, .string ⟨#[]⟩, .int .i64 0, .slice none 0 0] 24)) := by rw [← hW2]; exact HR1.out
  have HD2 : Hid (Dx q w W2) := by rw [← hW2]; exact HD1.out.dn nq
  rw [hW2]
  clear hW2 d0 d1 df HK1 HR1 HD1
  obtain ⟨d0, d1, df⟩ := HK2.out.cells
  have hs3 := HK2.out.set (p + 1)
  rw [show ((p + 1 : Nat) : Int) = (p : Int) + 1 by omega] at hs3
  obtain ⟨W3, hW3⟩ : ∃ W3, W3 = W2.setCell ⟨q, 1, none⟩ (.int .i64 ((p : Int) + 1)) := ⟨_, rfl⟩
  rw [← hW3] at hs3
  have HK3 : Hid (DkR W3 q s (p + 1)) := hs3.1
  have HR3 : Hid (W3.heap[rb]? = some (.cells #[.int .i64 0, .string ⟨#[]⟩, .int .i64 0, .slice none 0 0] 24)) := (hs3.2.other rb hqr).trans HR2.out
  have HD3 : Hid (Dx q w W3) := HD2.out.trans (Dx.only hs3.2)
  have HLT : Hid (rb < W3.heap.size) := row_lt HR3.out
  clear hs3
  go_upto_region 5 with fail
  rw [← hW3]
  clear hW3 d0 d1 df HK2 HR2 HD2
  have HCC : Hid (Calls Tryz.prog 19 #[.pointer (some ⟨q, 0, none⟩), .int .i64 2] W3 fun e w' => RyIs k (oH k (lineH 2 (s.data.toList.drop (p + 1))) (s.data.toList.drop p)) q s p W3 w' e) := (dline_any q s p 2 hs (by omega) W3 HK3.out).mono (fun e w' hl => ry_any hl (line_many _ _))
  go_wp2_with fail
  refine (show Calls _ _ _ _ _ from HCC.out).mono ?_
  rintro e w4 hry
  obtain ⟨k0, t0, n0, P, l, c, x, rfl⟩ := ry_form hry
  have HRY : Hid _ := hry
  have HR4 : Hid (w4.heap[rb]? = some (.cells #[.int .i64 0, .string ⟨#[]⟩, .int .i64 0, .slice none 0 0] 24)) := (ry_dx hry).row HR3.out hqr
  obtain ⟨z0, z1, z2, z3, zf⟩ := prow4 HR4.out
  clear hry
  go_wp2
  exact rp2_fin _ 4 5 Tryz.results11 HR4.out _ _ _ _ _ _ (fun w' ho => ry_fin HRY.out HD3.out ho HRW.out HLT.out hqr) _ rfl rfl rfl
set_option maxHeartbeats 4000000 in
set_option maxRecDepth 20000 in
theorem drep_bulk (k q : Nat) (s : ByteArray) (p : Nat) (D : Int) (hs : s.size ≤ 281474976710656) (hi : p ≤ s.size) (w : World) (h : DkR w q s p) (hL : ∀ W, Dx q w W → Laid W) (hlt : p < s.size) (hm : s[p] = 36) :
    Calls Tryz.prog 11 #[.pointer (some ⟨q, 0, none⟩), .int .i64 D] w fun e w' => RyIs k (oH k (bulkH (s.data.toList.drop (p + 1))) (s.data.toList.drop p)) q s p w w' e := by
  obtain ⟨rb, hrb⟩ : ∃ rb, w.heap.size = rb := ⟨_, rfl⟩
  obtain ⟨W0, hW0⟩ : ∃ W, W = w.alloc (.cells #[.int .i64 0, .string ⟨#[]⟩, .int .i64 0, .slice none 0 0] 24) := ⟨_, rfl⟩
  have hb0 : Below w.heap.size w W0 := by rw [hW0]; exact (Below.refl _ _).alloc (Nat.le_refl _) _
  have hr0 : W0.heap[rb]? = some (.cells #[.int .i64 0, .string ⟨#[]⟩, .int .i64 0, .slice none 0 0] 24) := by rw [hW0, ← hrb]; exact one_alloc _ _
  have HD0 : Hid (Dx q w W0) := Dx.of hb0
  have HR0 : Hid _ := hr0
  have HK0 : Hid (DkR W0 q s p) := h.on hb0
  have hqr : rb ≠ q := by have := h.lt; omega
  have HRW : Hid (w.heap.size ≤ rb) := Nat.le_of_eq hrb
  have HLL : Hid _ := hL
  obtain ⟨c0, c1, cf⟩ := HK0.out.cells
  have hne : ((p : Int) == (s.size : Int)) = false := by simp; omega
  have hz0 : (0 : Int) ≤ (p : Int) := by omega
  have hz1 : (p : Int) < (s.size : Int) := by omega
  have hmm : (s[p].toNat : Int) = 36 := by rw [hm]; rfl
  have hiw : IntKind.i64.wrap ((p : Int) + 1) = (p : Int) + 1 := by rw [IntKind.wrap_i64] <;> omega
  clear h hb0 hr0 hL hm
  go_enter Tryz.func11, Tryz.ntmps11
  go_upto_region 1 with fail
  rw [← hW0]
  clear hW0 hrb
  go_quiet (fail)
  obtain ⟨W1, hW1⟩ : ∃ W1, W0.drewN nq = W1 := ⟨_, rfl⟩
  have HK1 : Hid (DkR W1 q s p) := by rw [← hW1]; exact HK0.out.dn nq
  have HR1 : Hid (W1.heap[rb]? = some (.cells #[.int .i64 0, .string ⟨#[]⟩, .int .i64 0, .slice none 0 0] 24)) := by rw [← hW1]; exact HR0.out
  have HD1 : Hid (Dx q w W1) := by rw [← hW1]; exact HD0.out.dn nq
  rw [hW1]
  clear hW1 c0 c1 cf HK0 HR0 HD0
  obtain ⟨d0, d1, df⟩ := HK1.out.cells
  go_upto_region 3 with fail
  go_quiet (fail)
  obtain ⟨W2, hW2⟩ : ∃ W2, W1.drewN nq = W2 := ⟨_, rfl⟩
  have HK2 : Hid (DkR W2 q s p) := by rw [← hW2]; exact HK1.out.dn nq
  have HR2 : Hid (W2.heap[rb]? = some (.cells #[.int .i64 0, .string ⟨#[]⟩, .int .i64 0, .slice none 0 0] 24)) := by rw [← hW2]; exact HR1.out
  have HD2 : Hid (Dx q w W2) := by rw [← hW2]; exact HD1.out.dn nq
  rw [hW2]
  clear hW2 d0 d1 df HK1 HR1 HD1
  obtain ⟨d0, d1, df⟩ := HK2.out.cells
  have hs3 := HK2.out.set (p + 1)
  rw [show ((p + 1 : Nat) : Int) = (p : Int) + 1 by omega] at hs3
  obtain ⟨W3, hW3⟩ : ∃ W3, W3 = W2.setCell ⟨q, 1, none⟩ (.int .i64 ((p : Int) + 1)) := ⟨_, rfl⟩
  rw [← hW3] at hs3
  have HK3 : Hid (DkR W3 q s (p + 1)) := hs3.1
  have HR3 : Hid (W3.heap[rb]? = some (.cells #[.int .i64 0, .string ⟨#[]⟩, .int .i64 0, .slice none 0 0] 24)) := (hs3.2.other rb hqr).trans HR2.out
  have HD3 : Hid (Dx q w W3) := HD2.out.trans (Dx.only hs3.2)
  have HLT : Hid (rb < W3.heap.size) := row_lt HR3.out
  clear hs3
  go_upto_region 5 with fail
  rw [← hW3]
  clear hW3 d0 d1 df HK2 HR2 HD2
  have HCC : Hid (Calls Tryz.prog 21 #[.pointer (some ⟨q, 0, none⟩)] W3 fun e w' => RyIs k (oH k (bulkH (s.data.toList.drop (p + 1))) (s.data.toList.drop p)) q s p W3 w' e) := (dbulk_any q s p hs (by omega) W3 HK3.out (HLL.out W3 HD3.out)).mono (fun e w' hl => ry_any hl (bulk_many _))
  go_wp2_with fail
  refine (show Calls _ _ _ _ _ from HCC.out).mono ?_
  rintro e w4 hry
  obtain ⟨k0, t0, n0, P, l, c, x, rfl⟩ := ry_form hry
  have HRY : Hid _ := hry
  have HR4 : Hid (w4.heap[rb]? = some (.cells #[.int .i64 0, .string ⟨#[]⟩, .int .i64 0, .slice none 0 0] 24)) := (ry_dx hry).row HR3.out hqr
  obtain ⟨z0, z1, z2, z3, zf⟩ := prow4 HR4.out
  clear hry
  go_wp2
  exact rp2_fin _ 4 5 Tryz.results11 HR4.out _ _ _ _ _ _ (fun w' ho => ry_fin HRY.out HD3.out ho HRW.out HLT.out hqr) _ rfl rfl rfl
set_option maxHeartbeats 4000000 in
set_option maxRecDepth 20000 in
theorem drep_bool (k q : Nat) (s : ByteArray) (p : Nat) (D : Int) (hs : s.size ≤ 281474976710656) (hi : p ≤ s.size) (w : World) (h : DkR w q s p) (hL : ∀ W, Dx q w W → Laid W) (hlt : p < s.size) (hm : s[p] = 35) :
    Calls Tryz.prog 11 #[.pointer (some ⟨q, 0, none⟩), .int .i64 D] w fun e w' => RyIs k (oH k (boolH (s.data.toList.drop (p + 1))) (s.data.toList.drop p)) q s p w w' e := by
  obtain ⟨rb, hrb⟩ : ∃ rb, w.heap.size = rb := ⟨_, rfl⟩
  obtain ⟨W0, hW0⟩ : ∃ W, W = w.alloc (.cells #[.int .i64 0, .string ⟨#[]⟩, .int .i64 0, .slice none 0 0] 24) := ⟨_, rfl⟩
  have hb0 : Below w.heap.size w W0 := by rw [hW0]; exact (Below.refl _ _).alloc (Nat.le_refl _) _
  have hr0 : W0.heap[rb]? = some (.cells #[.int .i64 0, .string ⟨#[]⟩, .int .i64 0, .slice none 0 0] 24) := by rw [hW0, ← hrb]; exact one_alloc _ _
  have HD0 : Hid (Dx q w W0) := Dx.of hb0
  have HR0 : Hid _ := hr0
  have HK0 : Hid (DkR W0 q s p) := h.on hb0
  have hqr : rb ≠ q := by have := h.lt; omega
  have HRW : Hid (w.heap.size ≤ rb) := Nat.le_of_eq hrb
  have HLL : Hid _ := hL
  obtain ⟨c0, c1, cf⟩ := HK0.out.cells
  have hne : ((p : Int) == (s.size : Int)) = false := by simp; omega
  have hz0 : (0 : Int) ≤ (p : Int) := by omega
  have hz1 : (p : Int) < (s.size : Int) := by omega
  have hmm : (s[p].toNat : Int) = 35 := by rw [hm]; rfl
  have hiw : IntKind.i64.wrap ((p : Int) + 1) = (p : Int) + 1 := by rw [IntKind.wrap_i64] <;> omega
  clear h hb0 hr0 hL hm
  go_enter Tryz.func11, Tryz.ntmps11
  go_upto_region 1 with fail
  rw [← hW0]
  clear hW0 hrb
  go_quiet (fail)
  obtain ⟨W1, hW1⟩ : ∃ W1, W0.drewN nq = W1 := ⟨_, rfl⟩
  have HK1 : Hid (DkR W1 q s p) := by rw [← hW1]; exact HK0.out.dn nq
  have HR1 : Hid (W1.heap[rb]? = some (.cells #[.int .i64 0, .string ⟨#[]⟩, .int .i64 0, .slice none 0 0] 24)) := by rw [← hW1]; exact HR0.out
  have HD1 : Hid (Dx q w W1) := by rw [← hW1]; exact HD0.out.dn nq
  rw [hW1]
  clear hW1 c0 c1 cf HK0 HR0 HD0
  obtain ⟨d0, d1, df⟩ := HK1.out.cells
  go_upto_region 3 with fail
  go_quiet (fail)
  obtain ⟨W2, hW2⟩ : ∃ W2, W1.drewN nq = W2 := ⟨_, rfl⟩
  have HK2 : Hid (DkR W2 q s p) := by rw [← hW2]; exact HK1.out.dn nq
  have HR2 : Hid (W2.heap[rb]? = some (.cells #[.int .i64 0, .string ⟨#[]⟩, .int .i64 0, .slice none 0 0] 24)) := by rw [← hW2]; exact HR1.out
  have HD2 : Hid (Dx q w W2) := by rw [← hW2]; exact HD1.out.dn nq
  rw [hW2]
  clear hW2 d0 d1 df HK1 HR1 HD1
  obtain ⟨d0, d1, df⟩ := HK2.out.cells
  have hs3 := HK2.out.set (p + 1)
  rw [show ((p + 1 : Nat) : Int) = (p : Int) + 1 by omega] at hs3
  obtain ⟨W3, hW3⟩ : ∃ W3, W3 = W2.setCell ⟨q, 1, none⟩ (.int .i64 ((p : Int) + 1)) := ⟨_, rfl⟩
  rw [← hW3] at hs3
  have HK3 : Hid (DkR W3 q s (p + 1)) := hs3.1
  have HR3 : Hid (W3.heap[rb]? = some (.cells #[.int .i64 0, .string ⟨#[]⟩, .int .i64 0, .slice none 0 0] 24)) := (hs3.2.other rb hqr).trans HR2.out
  have HD3 : Hid (Dx q w W3) := HD2.out.trans (Dx.only hs3.2)
  have HLT : Hid (rb < W3.heap.size) := row_lt HR3.out
  clear hs3
  go_upto_region 5 with fail
  rw [← hW3]
  clear hW3 d0 d1 df HK2 HR2 HD2
  have HCC : Hid (Calls Tryz.prog 23 #[.pointer (some ⟨q, 0, none⟩)] W3 fun e w' => RyIs k (oH k (boolH (s.data.toList.drop (p + 1))) (s.data.toList.drop p)) q s p W3 w' e) := (dbool_any q s p hs (by omega) W3 HK3.out).mono (fun e w' hl => ry_any hl (bool_many _))
  go_wp2_with fail
  refine (show Calls _ _ _ _ _ from HCC.out).mono ?_
  rintro e w4 hry
  obtain ⟨k0, t0, n0, P, l, c, x, rfl⟩ := ry_form hry
  have HRY : Hid _ := hry
  have HR4 : Hid (w4.heap[rb]? = some (.cells #[.int .i64 0, .string ⟨#[]⟩, .int .i64 0, .slice none 0 0] 24)) := (ry_dx hry).row HR3.out hqr
  obtain ⟨z0, z1, z2, z3, zf⟩ := prow4 HR4.out
  clear hry
  go_wp2
  exact rp2_fin _ 4 5 Tryz.results11 HR4.out _ _ _ _ _ _ (fun w' ho => ry_fin HRY.out HD3.out ho HRW.out HLT.out hqr) _ rfl rfl rfl
set_option maxHeartbeats 4000000 in
set_option maxRecDepth 20000 in
theorem drep_arr (k q : Nat) (s : ByteArray) (p : Nat) (D : Int) (deep : Bool) (hs : s.size ≤ 281474976710656) (hi : p ≤ s.size) (w : World) (h : DkR w q s p) (hL : ∀ W, Dx q w W → Laid W) (hlt : p < s.size) (hm : s[p] = 42) (HLS : ∀ W, Dx q w W → DkR W q s (p + 1) → Calls Tryz.prog 24 #[.pointer (some ⟨q, 0, none⟩), .int .i64 5, .int .i64 (-1), .int .i64 1048576, .int .i64 D] W fun e w' => RyIs k (oH k (listH 5 (-1) 1048576 deep (s.data.toList.drop (p + 1))) (s.data.toList.drop p)) q s p W w' e) :
    Calls Tryz.prog 11 #[.pointer (some ⟨q, 0, none⟩), .int .i64 D] w fun e w' => RyIs k (oH k (listH 5 (-1) 1048576 deep (s.data.toList.drop (p + 1))) (s.data.toList.drop p)) q s p w w' e := by
  obtain ⟨rb, hrb⟩ : ∃ rb, w.heap.size = rb := ⟨_, rfl⟩
  obtain ⟨W0, hW0⟩ : ∃ W, W = w.alloc (.cells #[.int .i64 0, .string ⟨#[]⟩, .int .i64 0, .slice none 0 0] 24) := ⟨_, rfl⟩
  have hb0 : Below w.heap.size w W0 := by rw [hW0]; exact (Below.refl _ _).alloc (Nat.le_refl _) _
  have hr0 : W0.heap[rb]? = some (.cells #[.int .i64 0, .string ⟨#[]⟩, .int .i64 0, .slice none 0 0] 24) := by rw [hW0, ← hrb]; exact one_alloc _ _
  have HD0 : Hid (Dx q w W0) := Dx.of hb0
  have HR0 : Hid _ := hr0
  have HK0 : Hid (DkR W0 q s p) := h.on hb0
  have hqr : rb ≠ q := by have := h.lt; omega
  have HRW : Hid (w.heap.size ≤ rb) := Nat.le_of_eq hrb
  have HLL : Hid _ := hL
  obtain ⟨c0, c1, cf⟩ := HK0.out.cells
  have hne : ((p : Int) == (s.size : Int)) = false := by simp; omega
  have hz0 : (0 : Int) ≤ (p : Int) := by omega
  have hz1 : (p : Int) < (s.size : Int) := by omega
  have hmm : (s[p].toNat : Int) = 42 := by rw [hm]; rfl
  have hiw : IntKind.i64.wrap ((p : Int) + 1) = (p : Int) + 1 := by rw [IntKind.wrap_i64] <;> omega
  clear h hb0 hr0 hL hm
  go_enter Tryz.func11, Tryz.ntmps11
  go_upto_region 1 with fail
  rw [← hW0]
  clear hW0 hrb
  go_quiet (fail)
  obtain ⟨W1, hW1⟩ : ∃ W1, W0.drewN nq = W1 := ⟨_, rfl⟩
  have HK1 : Hid (DkR W1 q s p) := by rw [← hW1]; exact HK0.out.dn nq
  have HR1 : Hid (W1.heap[rb]? = some (.cells #[.int .i64 0, .string ⟨#[]⟩, .int .i64 0, .slice none 0 0] 24)) := by rw [← hW1]; exact HR0.out
  have HD1 : Hid (Dx q w W1) := by rw [← hW1]; exact HD0.out.dn nq
  rw [hW1]
  clear hW1 c0 c1 cf HK0 HR0 HD0
  obtain ⟨d0, d1, df⟩ := HK1.out.cells
  go_upto_region 3 with fail
  go_quiet (fail)
  obtain ⟨W2, hW2⟩ : ∃ W2, W1.drewN nq = W2 := ⟨_, rfl⟩
  have HK2 : Hid (DkR W2 q s p) := by rw [← hW2]; exact HK1.out.dn nq
  have HR2 : Hid (W2.heap[rb]? = some (.cells #[.int .i64 0, .string ⟨#[]⟩, .int .i64 0, .slice none 0 0] 24)) := by rw [← hW2]; exact HR1.out
  have HD2 : Hid (Dx q w W2) := by rw [← hW2]; exact HD1.out.dn nq
  rw [hW2]
  clear hW2 d0 d1 df HK1 HR1 HD1
  obtain ⟨d0, d1, df⟩ := HK2.out.cells
  have hs3 := HK2.out.set (p + 1)
  rw [show ((p + 1 : Nat) : Int) = (p : Int) + 1 by omega] at hs3
  obtain ⟨W3, hW3⟩ : ∃ W3, W3 = W2.setCell ⟨q, 1, none⟩ (.int .i64 ((p : Int) + 1)) := ⟨_, rfl⟩
  rw [← hW3] at hs3
  have HK3 : Hid (DkR W3 q s (p + 1)) := hs3.1
  have HR3 : Hid (W3.heap[rb]? = some (.cells #[.int .i64 0, .string ⟨#[]⟩, .int .i64 0, .slice none 0 0] 24)) := (hs3.2.other rb hqr).trans HR2.out
  have HD3 : Hid (Dx q w W3) := HD2.out.trans (Dx.only hs3.2)
  have HLT : Hid (rb < W3.heap.size) := row_lt HR3.out
  clear hs3
  go_upto_region 5 with fail
  rw [← hW3]
  clear hW3 d0 d1 df HK2 HR2 HD2
  have HCC : Hid (Calls Tryz.prog 24 #[.pointer (some ⟨q, 0, none⟩), .int .i64 5, .int .i64 (-1), .int .i64 1048576, .int .i64 D] W3 fun e w' => RyIs k (oH k (listH 5 (-1) 1048576 deep (s.data.toList.drop (p + 1))) (s.data.toList.drop p)) q s p W3 w' e) := HLS W3 HD3.out HK3.out
  go_wp2_with fail
  refine (show Calls _ _ _ _ _ from HCC.out).mono ?_
  rintro e w4 hry
  obtain ⟨k0, t0, n0, P, l, c, x, rfl⟩ := ry_form hry
  have HRY : Hid _ := hry
  have HR4 : Hid (w4.heap[rb]? = some (.cells #[.int .i64 0, .string ⟨#[]⟩, .int .i64 0, .slice none 0 0] 24)) := (ry_dx hry).row HR3.out hqr
  obtain ⟨z0, z1, z2, z3, zf⟩ := prow4 HR4.out
  clear hry
  go_wp2
  exact rp2_fin _ 4 5 Tryz.results11 HR4.out _ _ _ _ _ _ (fun w' ho => ry_fin HRY.out HD3.out ho HRW.out HLT.out hqr) _ rfl rfl rfl
set_option maxHeartbeats 4000000 in
set_option maxRecDepth 20000 in
theorem drep_map (k q : Nat) (s : ByteArray) (p : Nat) (D : Int) (deep : Bool) (hs : s.size ≤ 281474976710656) (hi : p ≤ s.size) (w : World) (h : DkR w q s p) (hL : ∀ W, Dx q w W → Laid W) (hlt : p < s.size) (hm : s[p] = 37) (HLS : ∀ W, Dx q w W → DkR W q s (p + 1) → Calls Tryz.prog 24 #[.pointer (some ⟨q, 0, none⟩), .int .i64 6, .int .i64 (0), .int .i64 524288, .int .i64 D] W fun e w' => RyIs k (oH k (listH 6 (0) 524288 deep (s.data.toList.drop (p + 1))) (s.data.toList.drop p)) q s p W w' e) :
    Calls Tryz.prog 11 #[.pointer (some ⟨q, 0, none⟩), .int .i64 D] w fun e w' => RyIs k (oH k (listH 6 (0) 524288 deep (s.data.toList.drop (p + 1))) (s.data.toList.drop p)) q s p w w' e := by
  obtain ⟨rb, hrb⟩ : ∃ rb, w.heap.size = rb := ⟨_, rfl⟩
  obtain ⟨W0, hW0⟩ : ∃ W, W = w.alloc (.cells #[.int .i64 0, .string ⟨#[]⟩, .int .i64 0, .slice none 0 0] 24) := ⟨_, rfl⟩
  have hb0 : Below w.heap.size w W0 := by rw [hW0]; exact (Below.refl _ _).alloc (Nat.le_refl _) _
  have hr0 : W0.heap[rb]? = some (.cells #[.int .i64 0, .string ⟨#[]⟩, .int .i64 0, .slice none 0 0] 24) := by rw [hW0, ← hrb]; exact one_alloc _ _
  have HD0 : Hid (Dx q w W0) := Dx.of hb0
  have HR0 : Hid _ := hr0
  have HK0 : Hid (DkR W0 q s p) := h.on hb0
  have hqr : rb ≠ q := by have := h.lt; omega
  have HRW : Hid (w.heap.size ≤ rb) := Nat.le_of_eq hrb
  have HLL : Hid _ := hL
  obtain ⟨c0, c1, cf⟩ := HK0.out.cells
  have hne : ((p : Int) == (s.size : Int)) = false := by simp; omega
  have hz0 : (0 : Int) ≤ (p : Int) := by omega
  have hz1 : (p : Int) < (s.size : Int) := by omega
  have hmm : (s[p].toNat : Int) = 37 := by rw [hm]; rfl
  have hiw : IntKind.i64.wrap ((p : Int) + 1) = (p : Int) + 1 := by rw [IntKind.wrap_i64] <;> omega
  clear h hb0 hr0 hL hm
  go_enter Tryz.func11, Tryz.ntmps11
  go_upto_region 1 with fail
  rw [← hW0]
  clear hW0 hrb
  go_quiet (fail)
  obtain ⟨W1, hW1⟩ : ∃ W1, W0.drewN nq = W1 := ⟨_, rfl⟩
  have HK1 : Hid (DkR W1 q s p) := by rw [← hW1]; exact HK0.out.dn nq
  have HR1 : Hid (W1.heap[rb]? = some (.cells #[.int .i64 0, .string ⟨#[]⟩, .int .i64 0, .slice none 0 0] 24)) := by rw [← hW1]; exact HR0.out
  have HD1 : Hid (Dx q w W1) := by rw [← hW1]; exact HD0.out.dn nq
  rw [hW1]
  clear hW1 c0 c1 cf HK0 HR0 HD0
  obtain ⟨d0, d1, df⟩ := HK1.out.cells
  go_upto_region 3 with fail
  go_quiet (fail)
  obtain ⟨W2, hW2⟩ : ∃ W2, W1.drewN nq = W2 := ⟨_, rfl⟩
  have HK2 : Hid (DkR W2 q s p) := by rw [← hW2]; exact HK1.out.dn nq
  have HR2 : Hid (W2.heap[rb]? = some (.cells #[.int .i64 0, .string ⟨#[]⟩, .int .i64 0, .slice none 0 0] 24)) := by rw [← hW2]; exact HR1.out
  have HD2 : Hid (Dx q w W2) := by rw [← hW2]; exact HD1.out.dn nq
  rw [hW2]
  clear hW2 d0 d1 df HK1 HR1 HD1
  obtain ⟨d0, d1, df⟩ := HK2.out.cells
  have hs3 := HK2.out.set (p + 1)
  rw [show ((p + 1 : Nat) : Int) = (p : Int) + 1 by omega] at hs3
  obtain ⟨W3, hW3⟩ : ∃ W3, W3 = W2.setCell ⟨q, 1, none⟩ (.int .i64 ((p : Int) + 1)) := ⟨_, rfl⟩
  rw [← hW3] at hs3
  have HK3 : Hid (DkR W3 q s (p + 1)) := hs3.1
  have HR3 : Hid (W3.heap[rb]? = some (.cells #[.int .i64 0, .string ⟨#[]⟩, .int .i64 0, .slice none 0 0] 24)) := (hs3.2.other rb hqr).trans HR2.out
  have HD3 : Hid (Dx q w W3) := HD2.out.trans (Dx.only hs3.2)
  have HLT : Hid (rb < W3.heap.size) := row_lt HR3.out
  clear hs3
  go_upto_region 5 with fail
  rw [← hW3]
  clear hW3 d0 d1 df HK2 HR2 HD2
  have HCC : Hid (Calls Tryz.prog 24 #[.pointer (some ⟨q, 0, none⟩), .int .i64 6, .int .i64 (0), .int .i64 524288, .int .i64 D] W3 fun e w' => RyIs k (oH k (listH 6 (0) 524288 deep (s.data.toList.drop (p + 1))) (s.data.toList.drop p)) q s p W3 w' e) := HLS W3 HD3.out HK3.out
  go_wp2_with fail
  refine (show Calls _ _ _ _ _ from HCC.out).mono ?_
  rintro e w4 hry
  obtain ⟨k0, t0, n0, P, l, c, x, rfl⟩ := ry_form hry
  have HRY : Hid _ := hry
  have HR4 : Hid (w4.heap[rb]? = some (.cells #[.int .i64 0, .string ⟨#[]⟩, .int .i64 0, .slice none 0 0] 24)) := (ry_dx hry).row HR3.out hqr
  obtain ⟨z0, z1, z2, z3, zf⟩ := prow4 HR4.out
  clear hry
  go_wp2
  exact rp2_fin _ 4 5 Tryz.results11 HR4.out _ _ _ _ _ _ (fun w' ho => ry_fin HRY.out HD3.out ho HRW.out HLT.out hqr) _ rfl rfl rfl
set_option maxHeartbeats 4000000 in
set_option maxRecDepth 20000 in
theorem drep_set (k q : Nat) (s : ByteArray) (p : Nat) (D : Int) (deep : Bool) (hs : s.size ≤ 281474976710656) (hi : p ≤ s.size) (w : World) (h : DkR w q s p) (hL : ∀ W, Dx q w W → Laid W) (hlt : p < s.size) (hm : s[p] = 126) (HLS : ∀ W, Dx q w W → DkR W q s (p + 1) → Calls Tryz.prog 24 #[.pointer (some ⟨q, 0, none⟩), .int .i64 7, .int .i64 (0), .int .i64 1048576, .int .i64 D] W fun e w' => RyIs k (oH k (listH 7 (0) 1048576 deep (s.data.toList.drop (p + 1))) (s.data.toList.drop p)) q s p W w' e) :
    Calls Tryz.prog 11 #[.pointer (some ⟨q, 0, none⟩), .int .i64 D] w fun e w' => RyIs k (oH k (listH 7 (0) 1048576 deep (s.data.toList.drop (p + 1))) (s.data.toList.drop p)) q s p w w' e := by
  obtain ⟨rb, hrb⟩ : ∃ rb, w.heap.size = rb := ⟨_, rfl⟩
  obtain ⟨W0, hW0⟩ : ∃ W, W = w.alloc (.cells #[.int .i64 0, .string ⟨#[]⟩, .int .i64 0, .slice none 0 0] 24) := ⟨_, rfl⟩
  have hb0 : Below w.heap.size w W0 := by rw [hW0]; exact (Below.refl _ _).alloc (Nat.le_refl _) _
  have hr0 : W0.heap[rb]? = some (.cells #[.int .i64 0, .string ⟨#[]⟩, .int .i64 0, .slice none 0 0] 24) := by rw [hW0, ← hrb]; exact one_alloc _ _
  have HD0 : Hid (Dx q w W0) := Dx.of hb0
  have HR0 : Hid _ := hr0
  have HK0 : Hid (DkR W0 q s p) := h.on hb0
  have hqr : rb ≠ q := by have := h.lt; omega
  have HRW : Hid (w.heap.size ≤ rb) := Nat.le_of_eq hrb
  have HLL : Hid _ := hL
  obtain ⟨c0, c1, cf⟩ := HK0.out.cells
  have hne : ((p : Int) == (s.size : Int)) = false := by simp; omega
  have hz0 : (0 : Int) ≤ (p : Int) := by omega
  have hz1 : (p : Int) < (s.size : Int) := by omega
  have hmm : (s[p].toNat : Int) = 126 := by rw [hm]; rfl
  have hiw : IntKind.i64.wrap ((p : Int) + 1) = (p : Int) + 1 := by rw [IntKind.wrap_i64] <;> omega
  clear h hb0 hr0 hL hm
  go_enter Tryz.func11, Tryz.ntmps11
  go_upto_region 1 with fail
  rw [← hW0]
  clear hW0 hrb
  go_quiet (fail)
  obtain ⟨W1, hW1⟩ : ∃ W1, W0.drewN nq = W1 := ⟨_, rfl⟩
  have HK1 : Hid (DkR W1 q s p) := by rw [← hW1]; exact HK0.out.dn nq
  have HR1 : Hid (W1.heap[rb]? = some (.cells #[.int .i64 0, .string ⟨#[]⟩, .int .i64 0, .slice none 0 0] 24)) := by rw [← hW1]; exact HR0.out
  have HD1 : Hid (Dx q w W1) := by rw [← hW1]; exact HD0.out.dn nq
  rw [hW1]
  clear hW1 c0 c1 cf HK0 HR0 HD0
  obtain ⟨d0, d1, df⟩ := HK1.out.cells
  go_upto_region 3 with fail
  go_quiet (fail)
  obtain ⟨W2, hW2⟩ : ∃ W2, W1.drewN nq = W2 := ⟨_, rfl⟩
  have HK2 : Hid (DkR W2 q s p) := by rw [← hW2]; exact HK1.out.dn nq
  have HR2 : Hid (W2.heap[rb]? = some (.cells #[.int .i64 0, .string ⟨#[]⟩, .int .i64 0, .slice none 0 0] 24)) := by rw [← hW2]; exact HR1.out
  have HD2 : Hid (Dx q w W2) := by rw [← hW2]; exact HD1.out.dn nq
  rw [hW2]
  clear hW2 d0 d1 df HK1 HR1 HD1
  obtain ⟨d0, d1, df⟩ := HK2.out.cells
  have hs3 := HK2.out.set (p + 1)
  rw [show ((p + 1 : Nat) : Int) = (p : Int) + 1 by omega] at hs3
  obtain ⟨W3, hW3⟩ : ∃ W3, W3 = W2.setCell ⟨q, 1, none⟩ (.int .i64 ((p : Int) + 1)) := ⟨_, rfl⟩
  rw [← hW3] at hs3
  have HK3 : Hid (DkR W3 q s (p + 1)) := hs3.1
  have HR3 : Hid (W3.heap[rb]? = some (.cells #[.int .i64 0, .string ⟨#[]⟩, .int .i64 0, .slice none 0 0] 24)) := (hs3.2.other rb hqr).trans HR2.out
  have HD3 : Hid (Dx q w W3) := HD2.out.trans (Dx.only hs3.2)
  have HLT : Hid (rb < W3.heap.size) := row_lt HR3.out
  clear hs3
  go_upto_region 5 with fail
  rw [← hW3]
  clear hW3 d0 d1 df HK2 HR2 HD2
  have HCC : Hid (Calls Tryz.prog 24 #[.pointer (some ⟨q, 0, none⟩), .int .i64 7, .int .i64 (0), .int .i64 1048576, .int .i64 D] W3 fun e w' => RyIs k (oH k (listH 7 (0) 1048576 deep (s.data.toList.drop (p + 1))) (s.data.toList.drop p)) q s p W3 w' e) := HLS W3 HD3.out HK3.out
  go_wp2_with fail
  refine (show Calls _ _ _ _ _ from HCC.out).mono ?_
  rintro e w4 hry
  obtain ⟨k0, t0, n0, P, l, c, x, rfl⟩ := ry_form hry
  have HRY : Hid _ := hry
  have HR4 : Hid (w4.heap[rb]? = some (.cells #[.int .i64 0, .string ⟨#[]⟩, .int .i64 0, .slice none 0 0] 24)) := (ry_dx hry).row HR3.out hqr
  obtain ⟨z0, z1, z2, z3, zf⟩ := prow4 HR4.out
  clear hry
  go_wp2
  exact rp2_fin _ 4 5 Tryz.results11 HR4.out _ _ _ _ _ _ (fun w' ho => ry_fin HRY.out HD3.out ho HRW.out HLT.out hqr) _ rfl rfl rfl
set_option maxHeartbeats 4000000 in
set_option maxRecDepth 20000 in
theorem drep_push (k q : Nat) (s : ByteArray) (p : Nat) (D : Int) (deep : Bool) (hs : s.size ≤ 281474976710656) (hi : p ≤ s.size) (w : World) (h : DkR w q s p) (hL : ∀ W, Dx q w W → Laid W) (hlt : p < s.size) (hm : s[p] = 62) (HLS : ∀ W, Dx q w W → DkR W q s (p + 1) → Calls Tryz.prog 24 #[.pointer (some ⟨q, 0, none⟩), .int .i64 8, .int .i64 (0), .int .i64 1048576, .int .i64 D] W fun e w' => RyIs k (oH k (listH 8 (0) 1048576 deep (s.data.toList.drop (p + 1))) (s.data.toList.drop p)) q s p W w' e) :
    Calls Tryz.prog 11 #[.pointer (some ⟨q, 0, none⟩), .int .i64 D] w fun e w' => RyIs k (oH k (listH 8 (0) 1048576 deep (s.data.toList.drop (p + 1))) (s.data.toList.drop p)) q s p w w' e := by
  obtain ⟨rb, hrb⟩ : ∃ rb, w.heap.size = rb := ⟨_, rfl⟩
  obtain ⟨W0, hW0⟩ : ∃ W, W = w.alloc (.cells #[.int .i64 0, .string ⟨#[]⟩, .int .i64 0, .slice none 0 0] 24) := ⟨_, rfl⟩
  have hb0 : Below w.heap.size w W0 := by rw [hW0]; exact (Below.refl _ _).alloc (Nat.le_refl _) _
  have hr0 : W0.heap[rb]? = some (.cells #[.int .i64 0, .string ⟨#[]⟩, .int .i64 0, .slice none 0 0] 24) := by rw [hW0, ← hrb]; exact one_alloc _ _
  have HD0 : Hid (Dx q w W0) := Dx.of hb0
  have HR0 : Hid _ := hr0
  have HK0 : Hid (DkR W0 q s p) := h.on hb0
  have hqr : rb ≠ q := by have := h.lt; omega
  have HRW : Hid (w.heap.size ≤ rb) := Nat.le_of_eq hrb
  have HLL : Hid _ := hL
  obtain ⟨c0, c1, cf⟩ := HK0.out.cells
  have hne : ((p : Int) == (s.size : Int)) = false := by simp; omega
  have hz0 : (0 : Int) ≤ (p : Int) := by omega
  have hz1 : (p : Int) < (s.size : Int) := by omega
  have hmm : (s[p].toNat : Int) = 62 := by rw [hm]; rfl
  have hiw : IntKind.i64.wrap ((p : Int) + 1) = (p : Int) + 1 := by rw [IntKind.wrap_i64] <;> omega
  clear h hb0 hr0 hL hm
  go_enter Tryz.func11, Tryz.ntmps11
  go_upto_region 1 with fail
  rw [← hW0]
  clear hW0 hrb
  go_quiet (fail)
  obtain ⟨W1, hW1⟩ : ∃ W1, W0.drewN nq = W1 := ⟨_, rfl⟩
  have HK1 : Hid (DkR W1 q s p) := by rw [← hW1]; exact HK0.out.dn nq
  have HR1 : Hid (W1.heap[rb]? = some (.cells #[.int .i64 0, .string ⟨#[]⟩, .int .i64 0, .slice none 0 0] 24)) := by rw [← hW1]; exact HR0.out
  have HD1 : Hid (Dx q w W1) := by rw [← hW1]; exact HD0.out.dn nq
  rw [hW1]
  clear hW1 c0 c1 cf HK0 HR0 HD0
  obtain ⟨d0, d1, df⟩ := HK1.out.cells
  go_upto_region 3 with fail
  go_quiet (fail)
  obtain ⟨W2, hW2⟩ : ∃ W2, W1.drewN nq = W2 := ⟨_, rfl⟩
  have HK2 : Hid (DkR W2 q s p) := by rw [← hW2]; exact HK1.out.dn nq
  have HR2 : Hid (W2.heap[rb]? = some (.cells #[.int .i64 0, .string ⟨#[]⟩, .int .i64 0, .slice none 0 0] 24)) := by rw [← hW2]; exact HR1.out
  have HD2 : Hid (Dx q w W2) := by rw [← hW2]; exact HD1.out.dn nq
  rw [hW2]
  clear hW2 d0 d1 df HK1 HR1 HD1
  obtain ⟨d0, d1, df⟩ := HK2.out.cells
  have hs3 := HK2.out.set (p + 1)
  rw [show ((p + 1 : Nat) : Int) = (p : Int) + 1 by omega] at hs3
  obtain ⟨W3, hW3⟩ : ∃ W3, W3 = W2.setCell ⟨q, 1, none⟩ (.int .i64 ((p : Int) + 1)) := ⟨_, rfl⟩
  rw [← hW3] at hs3
  have HK3 : Hid (DkR W3 q s (p + 1)) := hs3.1
  have HR3 : Hid (W3.heap[rb]? = some (.cells #[.int .i64 0, .string ⟨#[]⟩, .int .i64 0, .slice none 0 0] 24)) := (hs3.2.other rb hqr).trans HR2.out
  have HD3 : Hid (Dx q w W3) := HD2.out.trans (Dx.only hs3.2)
  have HLT : Hid (rb < W3.heap.size) := row_lt HR3.out
  clear hs3
  go_upto_region 5 with fail
  rw [← hW3]
  clear hW3 d0 d1 df HK2 HR2 HD2
  have HCC : Hid (Calls Tryz.prog 24 #[.pointer (some ⟨q, 0, none⟩), .int .i64 8, .int .i64 (0), .int .i64 1048576, .int .i64 D] W3 fun e w' => RyIs k (oH k (listH 8 (0) 1048576 deep (s.data.toList.drop (p + 1))) (s.data.toList.drop p)) q s p W3 w' e) := HLS W3 HD3.out HK3.out
  go_wp2_with fail
  refine (show Calls _ _ _ _ _ from HCC.out).mono ?_
  rintro e w4 hry
  obtain ⟨k0, t0, n0, P, l, c, x, rfl⟩ := ry_form hry
  have HRY : Hid _ := hry
  have HR4 : Hid (w4.heap[rb]? = some (.cells #[.int .i64 0, .string ⟨#[]⟩, .int .i64 0, .slice none 0 0] 24)) := (ry_dx hry).row HR3.out hqr
  obtain ⟨z0, z1, z2, z3, zf⟩ := prow4 HR4.out
  clear hry
  go_wp2
  exact rp2_fin _ 4 5 Tryz.results11 HR4.out _ _ _ _ _ _ (fun w' ho => ry_fin HRY.out HD3.out ho HRW.out HLT.out hqr) _ rfl rfl rfl
end Go.Proofs.YtnfbaeajalnmmaaGreatDoor
namespace Go.Proofs.YtnfbaeajalnmmaaGreatDoor
open Go.RowKit Vi
set_option linter.unusedVariables false
set_option linter.unusedSimpArgs false
theorem num_many (r : By) : (numH r).many = none := by
  unfold numH
  split <;> rfl
theorem null_many (r : By) : (nullH r).many = none := by
  unfold nullH
  split <;> rfl
set_option maxHeartbeats 4000000 in
set_option maxRecDepth 20000 in
theorem drep_num (k q : Nat) (s : ByteArray) (p : Nat) (D : Int) (hs : s.size ≤ 281474976710656) (hi : p ≤ s.size) (w : World) (h : DkR w q s p) (hL : ∀ W, Dx q w W → Laid W) (hlt : p < s.size) (hm : s[p] = 58) :
    Calls Tryz.prog 11 #[.pointer (some ⟨q, 0, none⟩), .int .i64 D] w fun e w' => RyIs k (oH k (numH (s.data.toList.drop (p + 1))) (s.data.toList.drop p)) q s p w w' e := by
  obtain ⟨rb, hrb⟩ : ∃ rb, w.heap.size = rb := ⟨_, rfl⟩
  obtain ⟨W0, hW0⟩ : ∃ W, W = w.alloc (.cells #[.int .i64 0, .string ⟨#[]⟩, .int .i64 0, .slice none 0 0] 24) := ⟨_, rfl⟩
  have hb0 : Below w.heap.size w W0 := by rw [hW0]; exact (Below.refl _ _).alloc (Nat.le_refl _) _
  have hr0 : W0.heap[rb]? = some (.cells #[.int .i64 0, .string ⟨#[]⟩, .int .i64 0, .slice none 0 0] 24) := by rw [hW0, ← hrb]; exact one_alloc _ _
  have HD0 : Hid (Dx q w W0) := Dx.of hb0
  have HR0 : Hid _ := hr0
  have HK0 : Hid (DkR W0 q s p) := h.on hb0
  have hqr : rb ≠ q := by have := h.lt; omega
  have HRW : Hid (w.heap.size ≤ rb) := Nat.le_of_eq hrb
  have HLL : Hid _ := hL
  obtain ⟨c0, c1, cf⟩ := HK0.out.cells
  have hne : ((p : Int) == (s.size : Int)) = false := by simp; omega
  have hz0 : (0 : Int) ≤ (p : Int) := by omega
  have hz1 : (p : Int) < (s.size : Int) := by omega
  have hmm : (s[p].toNat : Int) = 58 := by rw [hm]; rfl
  have hiw : IntKind.i64.wrap ((p : Int) + 1) = (p : Int) + 1 := by rw [IntKind.wrap_i64] <;> omega
  clear h hb0 hr0 hL hm
  go_enter Tryz.func11, Tryz.ntmps11
  go_upto_region 1 with fail
  rw [← hW0]
  clear hW0 hrb
  go_quiet (fail)
  obtain ⟨W1, hW1⟩ : ∃ W1, W0.drewN nq = W1 := ⟨_, rfl⟩
  have HK1 : Hid (DkR W1 q s p) := by rw [← hW1]; exact HK0.out.dn nq
  have HR1 : Hid (W1.heap[rb]? = some (.cells #[.int .i64 0, .string ⟨#[]⟩, .int .i64 0, .slice none 0 0] 24)) := by rw [← hW1]; exact HR0.out
  have HD1 : Hid (Dx q w W1) := by rw [← hW1]; exact HD0.out.dn nq
  rw [hW1]
  clear hW1 c0 c1 cf HK0 HR0 HD0
  obtain ⟨d0, d1, df⟩ := HK1.out.cells
  go_upto_region 3 with fail
  go_quiet (fail)
  obtain ⟨W2, hW2⟩ : ∃ W2, W1.drewN nq = W2 := ⟨_, rfl⟩
  have HK2 : Hid (DkR W2 q s p) := by rw [← hW2]; exact HK1.out.dn nq
  have HR2 : Hid (W2.heap[rb]? = some (.cells #[.int .i64 0, .string ⟨#[]⟩, .int .i64 0, .slice none 0 0] 24)) := by rw [← hW2]; exact HR1.out
  have HD2 : Hid (Dx q w W2) := by rw [← hW2]; exact HD1.out.dn nq
  rw [hW2]
  clear hW2 d0 d1 df HK1 HR1 HD1
  obtain ⟨d0, d1, df⟩ := HK2.out.cells
  have hs3 := HK2.out.set (p + 1)
  rw [show ((p + 1 : Nat) : Int) = (p : Int) + 1 by omega] at hs3
  obtain ⟨W3, hW3⟩ : ∃ W3, W3 = W2.setCell ⟨q, 1, none⟩ (.int .i64 ((p : Int) + 1)) := ⟨_, rfl⟩
  rw [← hW3] at hs3
  have HK3 : Hid (DkR W3 q s (p + 1)) := hs3.1
  have HR3 : Hid (W3.heap[rb]? = some (.cells #[.int .i64 0, .string ⟨#[]⟩, .int .i64 0, .slice none 0 0] 24)) := (hs3.2.other rb hqr).trans HR2.out
  have HD3 : Hid (Dx q w W3) := HD2.out.trans (Dx.only hs3.2)
  have HLT : Hid (rb < W3.heap.size) := row_lt HR3.out
  clear hs3
  go_upto_region 5 with fail
  rw [← hW3]
  clear hW3 d0 d1 df HK2 HR2 HD2
  obtain ⟨x, hx⟩ : ∃ x, (nuE (s.data.toList.drop (p + 1)) (-9223372036854775808) 9223372036854775807).1 = x := ⟨_, rfl⟩
  by_cases hx0 : x = 0
  · obtain ⟨n, z, hnz⟩ : ∃ n z, nuE (s.data.toList.drop (p + 1)) (-9223372036854775808) 9223372036854775807 = (0, n, z) := by
      rcases hh : nuE (s.data.toList.drop (p + 1)) (-9223372036854775808) 9223372036854775807 with ⟨a1, b1, c1⟩
      rw [hh] at hx
      exact ⟨b1, c1, by rw [show a1 = 0 from hx.trans hx0]⟩
    have HNU : Hid _ := dnum_ok q s (p + 1) (-9223372036854775808) 9223372036854775807 n z (by omega) (by omega) W3 HK3.out (HLL.out W3 HD3.out) hnz
    have HH : Hid (numH (s.data.toList.drop (p + 1)) = { e := 0, kind := 3, n := n, size := z + 1 }) := by show _ = _; unfold numH; rw [hnz]; rfl
    clear hx hx0 hnz
    go_wp2_with fail
    refine (show Calls _ _ _ _ _ from HNU.out).mono ?_
    rintro e w4 ⟨rfl, hd4, hk4⟩
    have HR4 : Hid (w4.heap[rb]? = some (.cells #[.int .i64 0, .string ⟨#[]⟩, .int .i64 0, .slice none 0 0] 24)) := hd4.row HR3.out hqr
    have HD4 : Hid (Dx q w w4) := HD3.out.trans hd4
    have HK4 : Hid (DkR w4 q s (p + 1 + z)) := hk4
    obtain ⟨z0, z1, z2, z3, zf⟩ := prow4 HR4.out
    clear hd4 hk4
    go_wp2
    refine rp2_fin _ 4 5 Tryz.results11 HR4.out _ _ _ _ _ _ (fun w' ho => ?_) _ rfl rfl rfl
    rw [HH.out]
    refine ry_any ⟨_, _, _, rfl, HD4.out.set ho HRW.out, fun e => ⟨rfl, rfl, rfl, ?_⟩⟩ rfl
    exact HK4.out.to ho hqr (by show p + 1 + z = p + (z + 1); omega)
  · have HNU : Hid _ := dnum_err q s (p + 1) (-9223372036854775808) 9223372036854775807 x (by omega) (by omega) W3 HK3.out (HLL.out W3 HD3.out) hx
    have HH : Hid ((numH (s.data.toList.drop (p + 1))).e = x) := by show _ = _; rw [numH_e, hx]
    clear hx
    go_wp2_with fail
    refine (show Calls _ _ _ _ _ from HNU.out).mono ?_
    rintro e w4 ⟨⟨n', rfl⟩, hd4⟩
    have HR4 : Hid (w4.heap[rb]? = some (.cells #[.int .i64 0, .string ⟨#[]⟩, .int .i64 0, .slice none 0 0] 24)) := hd4.row HR3.out hqr
    have HD4 : Hid (Dx q w w4) := HD3.out.trans hd4
    obtain ⟨z0, z1, z2, z3, zf⟩ := prow4 HR4.out
    clear hd4
    go_wp2
    exact rp2_fin _ 4 5 Tryz.results11 HR4.out _ _ _ _ _ _ (fun w' ho => ry_any (lf_err _ _ _ x HH.out hx0 (HD4.out.set ho HRW.out)) (num_many _)) _ rfl rfl rfl
set_option maxHeartbeats 4000000 in
set_option maxRecDepth 20000 in
theorem drep_null (k q : Nat) (s : ByteArray) (p : Nat) (D : Int) (hs : s.size ≤ 281474976710656) (hi : p ≤ s.size) (w : World) (h : DkR w q s p) (hL : ∀ W, Dx q w W → Laid W) (hlt : p < s.size) (hm : s[p] = 95) :
    Calls Tryz.prog 11 #[.pointer (some ⟨q, 0, none⟩), .int .i64 D] w fun e w' => RyIs k (oH k (nullH (s.data.toList.drop (p + 1))) (s.data.toList.drop p)) q s p w w' e := by
  obtain ⟨rb, hrb⟩ : ∃ rb, w.heap.size = rb := ⟨_, rfl⟩
  obtain ⟨W0, hW0⟩ : ∃ W, W = w.alloc (.cells #[.int .i64 0, .string ⟨#[]⟩, .int .i64 0, .slice none 0 0] 24) := ⟨_, rfl⟩
  have hb0 : Below w.heap.size w W0 := by rw [hW0]; exact (Below.refl _ _).alloc (Nat.le_refl _) _
  have hr0 : W0.heap[rb]? = some (.cells #[.int .i64 0, .string ⟨#[]⟩, .int .i64 0, .slice none 0 0] 24) := by rw [hW0, ← hrb]; exact one_alloc _ _
  have HD0 : Hid (Dx q w W0) := Dx.of hb0
  have HR0 : Hid _ := hr0
  have HK0 : Hid (DkR W0 q s p) := h.on hb0
  have hqr : rb ≠ q := by have := h.lt; omega
  have HRW : Hid (w.heap.size ≤ rb) := Nat.le_of_eq hrb
  have HLL : Hid _ := hL
  obtain ⟨c0, c1, cf⟩ := HK0.out.cells
  have hne : ((p : Int) == (s.size : Int)) = false := by simp; omega
  have hz0 : (0 : Int) ≤ (p : Int) := by omega
  have hz1 : (p : Int) < (s.size : Int) := by omega
  have hmm : (s[p].toNat : Int) = 95 := by rw [hm]; rfl
  have hiw : IntKind.i64.wrap ((p : Int) + 1) = (p : Int) + 1 := by rw [IntKind.wrap_i64] <;> omega
  clear h hb0 hr0 hL hm
  go_enter Tryz.func11, Tryz.ntmps11
  go_upto_region 1 with fail
  rw [← hW0]
  clear hW0 hrb
  go_quiet (fail)
  obtain ⟨W1, hW1⟩ : ∃ W1, W0.drewN nq = W1 := ⟨_, rfl⟩
  have HK1 : Hid (DkR W1 q s p) := by rw [← hW1]; exact HK0.out.dn nq
  have HR1 : Hid (W1.heap[rb]? = some (.cells #[.int .i64 0, .string ⟨#[]⟩, .int .i64 0, .slice none 0 0] 24)) := by rw [← hW1]; exact HR0.out
  have HD1 : Hid (Dx q w W1) := by rw [← hW1]; exact HD0.out.dn nq
  rw [hW1]
  clear hW1 c0 c1 cf HK0 HR0 HD0
  obtain ⟨d0, d1, df⟩ := HK1.out.cells
  go_upto_region 3 with fail
  go_quiet (fail)
  obtain ⟨W2, hW2⟩ : ∃ W2, W1.drewN nq = W2 := ⟨_, rfl⟩
  have HK2 : Hid (DkR W2 q s p) := by rw [← hW2]; exact HK1.out.dn nq
  have HR2 : Hid (W2.heap[rb]? = some (.cells #[.int .i64 0, .string ⟨#[]⟩, .int .i64 0, .slice none 0 0] 24)) := by rw [← hW2]; exact HR1.out
  have HD2 : Hid (Dx q w W2) := by rw [← hW2]; exact HD1.out.dn nq
  rw [hW2]
  clear hW2 d0 d1 df HK1 HR1 HD1
  obtain ⟨d0, d1, df⟩ := HK2.out.cells
  have hs3 := HK2.out.set (p + 1)
  rw [show ((p + 1 : Nat) : Int) = (p : Int) + 1 by omega] at hs3
  obtain ⟨W3, hW3⟩ : ∃ W3, W3 = W2.setCell ⟨q, 1, none⟩ (.int .i64 ((p : Int) + 1)) := ⟨_, rfl⟩
  rw [← hW3] at hs3
  have HK3 : Hid (DkR W3 q s (p + 1)) := hs3.1
  have HR3 : Hid (W3.heap[rb]? = some (.cells #[.int .i64 0, .string ⟨#[]⟩, .int .i64 0, .slice none 0 0] 24)) := (hs3.2.other rb hqr).trans HR2.out
  have HD3 : Hid (Dx q w W3) := HD2.out.trans (Dx.only hs3.2)
  have HLT : Hid (rb < W3.heap.size) := row_lt HR3.out
  clear hs3
  go_upto_region 5 with fail
  rw [← hW3]
  clear hW3 d0 d1 df HK2 HR2 HD2
  obtain ⟨x, hx⟩ : ∃ x, endE (s.data.toList.drop (p + 1)) = x := ⟨_, rfl⟩
  have HEN : Hid (Calls Tryz.prog 22 #[.pointer (some ⟨q, 0, none⟩)] W3 fun e w' => e = .returned (.int .i64 (x : Int)) ∧ Dx q W3 w' ∧ (x = 0 → DkR w' q s (p + 1 + 2))) := by
    have := end_any q s (p + 1) (by omega) (by omega) W3 HK3.out
    rw [hx] at this
    exact this
  have HH : Hid ((nullH (s.data.toList.drop (p + 1))).e = x ∧ (x = 0 → nullH (s.data.toList.drop (p + 1)) = { e := 0, size := 3 })) := by
    show _ ∧ _
    unfold nullH
    rw [hx]
    constructor
    · split
      · rename_i h0; rw [h0]
      · rfl
    · intro h0; rw [if_pos h0]
  clear hx
  go_wp2_with fail
  refine (show Calls _ _ _ _ _ from HEN.out).mono ?_
  rintro e w4 ⟨rfl, hd4, hk4⟩
  have HR4 : Hid (w4.heap[rb]? = some (.cells #[.int .i64 0, .string ⟨#[]⟩, .int .i64 0, .slice none 0 0] 24)) := hd4.row HR3.out hqr
  have HD4 : Hid (Dx q w w4) := HD3.out.trans hd4
  have HK4 : Hid _ := hk4
  obtain ⟨z0, z1, z2, z3, zf⟩ := prow4 HR4.out
  clear hd4 hk4
  go_wp2
  refine rp2_fin _ 4 5 Tryz.results11 HR4.out _ _ _ _ _ _ (fun w' ho => ?_) _ rfl rfl rfl
  refine ry_any ⟨_, _, _, by rw [HH.out.1]; rfl, HD4.out.set ho HRW.out, fun e => ?_⟩ (null_many _)
  rw [HH.out.1] at e
  rw [HH.out.2 e]
  exact ⟨rfl, rfl, rfl, (HK4.out e).to ho hqr (by show p + 1 + 2 = p + 3; omega)⟩
theorem mark_no {c m : UInt8} {n : Int} (h : c ≠ m) (hn : (m.toNat : Int) = n) : ((c.toNat : Int) == n) = false := by
  simp only [beq_eq_false_iff_ne, ne_eq]
  intro e
  exact h (UInt8.toNat_inj.1 (by omega))
set_option maxHeartbeats 4000000 in
set_option maxRecDepth 20000 in
theorem drep_none (k q : Nat) (s : ByteArray) (p : Nat) (D : Int) (hs : s.size ≤ 281474976710656) (hi : p ≤ s.size) (w : World) (h : DkR w q s p) (hL : ∀ W, Dx q w W → Laid W) (hlt : p < s.size) (c : UInt8) (hm : s[p] = c) (h43 : c ≠ 43) (h45 : c ≠ 45) (h58 : c ≠ 58) (h36 : c ≠ 36) (h95 : c ≠ 95) (h35 : c ≠ 35) (h42 : c ≠ 42) (h37 : c ≠ 37) (h126 : c ≠ 126) (h62 : c ≠ 62) :
    Calls Tryz.prog 11 #[.pointer (some ⟨q, 0, none⟩), .int .i64 D] w fun e w' => RyIs k (oH k ({ e := 120 }) (s.data.toList.drop p)) q s p w w' e := by
  obtain ⟨rb, hrb⟩ : ∃ rb, w.heap.size = rb := ⟨_, rfl⟩
  obtain ⟨W0, hW0⟩ : ∃ W, W = w.alloc (.cells #[.int .i64 0, .string ⟨#[]⟩, .int .i64 0, .slice none 0 0] 24) := ⟨_, rfl⟩
  have hb0 : Below w.heap.size w W0 := by rw [hW0]; exact (Below.refl _ _).alloc (Nat.le_refl _) _
  have hr0 : W0.heap[rb]? = some (.cells #[.int .i64 0, .string ⟨#[]⟩, .int .i64 0, .slice none 0 0] 24) := by rw [hW0, ← hrb]; exact one_alloc _ _
  have HD0 : Hid (Dx q w W0) := Dx.of hb0
  have HR0 : Hid _ := hr0
  have HK0 : Hid (DkR W0 q s p) := h.on hb0
  have hqr : rb ≠ q := by have := h.lt; omega
  have HRW : Hid (w.heap.size ≤ rb) := Nat.le_of_eq hrb
  have HLL : Hid _ := hL
  obtain ⟨c0, c1, cf⟩ := HK0.out.cells
  have hne : ((p : Int) == (s.size : Int)) = false := by simp; omega
  have hz0 : (0 : Int) ≤ (p : Int) := by omega
  have hz1 : (p : Int) < (s.size : Int) := by omega
  have hmm : (s[p].toNat : Int) = (c.toNat : Int) := by rw [hm]
  have hiw : IntKind.i64.wrap ((p : Int) + 1) = (p : Int) + 1 := by rw [IntKind.wrap_i64] <;> omega
  have g43 : ((c.toNat : Int) == 43) = false := mark_no h43 rfl
  have g45 : ((c.toNat : Int) == 45) = false := mark_no h45 rfl
  have g58 : ((c.toNat : Int) == 58) = false := mark_no h58 rfl
  have g36 : ((c.toNat : Int) == 36) = false := mark_no h36 rfl
  have g95 : ((c.toNat : Int) == 95) = false := mark_no h95 rfl
  have g35 : ((c.toNat : Int) == 35) = false := mark_no h35 rfl
  have g42 : ((c.toNat : Int) == 42) = false := mark_no h42 rfl
  have g37 : ((c.toNat : Int) == 37) = false := mark_no h37 rfl
  have g126 : ((c.toNat : Int) == 126) = false := mark_no h126 rfl
  have g62 : ((c.toNat : Int) == 62) = false := mark_no h62 rfl
  clear h hb0 hr0 hL hm
  go_enter Tryz.func11, Tryz.ntmps11
  go_upto_region 1 with fail
  rw [← hW0]
  clear hW0 hrb
  go_quiet (fail)
  obtain ⟨W1, hW1⟩ : ∃ W1, W0.drewN nq = W1 := ⟨_, rfl⟩
  have HK1 : Hid (DkR W1 q s p) := by rw [← hW1]; exact HK0.out.dn nq
  have HR1 : Hid (W1.heap[rb]? = some (.cells #[.int .i64 0, .string ⟨#[]⟩, .int .i64 0, .slice none 0 0] 24)) := by rw [← hW1]; exact HR0.out
  have HD1 : Hid (Dx q w W1) := by rw [← hW1]; exact HD0.out.dn nq
  rw [hW1]
  clear hW1 c0 c1 cf HK0 HR0 HD0
  obtain ⟨d0, d1, df⟩ := HK1.out.cells
  go_upto_region 3 with fail
  go_quiet (fail)
  obtain ⟨W2, hW2⟩ : ∃ W2, W1.drewN nq = W2 := ⟨_, rfl⟩
  have HK2 : Hid (DkR W2 q s p) := by rw [← hW2]; exact HK1.out.dn nq
  have HR2 : Hid (W2.heap[rb]? = some (.cells #[.int .i64 0, .string ⟨#[]⟩, .int .i64 0, .slice none 0 0] 24)) := by rw [← hW2]; exact HR1.out
  have HD2 : Hid (Dx q w W2) := by rw [← hW2]; exact HD1.out.dn nq
  rw [hW2]
  clear hW2 d0 d1 df HK1 HR1 HD1
  obtain ⟨d0, d1, df⟩ := HK2.out.cells
  have hs3 := HK2.out.set (p + 1)
  rw [show ((p + 1 : Nat) : Int) = (p : Int) + 1 by omega] at hs3
  obtain ⟨W3, hW3⟩ : ∃ W3, W3 = W2.setCell ⟨q, 1, none⟩ (.int .i64 ((p : Int) + 1)) := ⟨_, rfl⟩
  rw [← hW3] at hs3
  have HK3 : Hid (DkR W3 q s (p + 1)) := hs3.1
  have HR3 : Hid (W3.heap[rb]? = some (.cells #[.int .i64 0, .string ⟨#[]⟩, .int .i64 0, .slice none 0 0] 24)) := (hs3.2.other rb hqr).trans HR2.out
  have HD3 : Hid (Dx q w W3) := HD2.out.trans (Dx.only hs3.2)
  have HLT : Hid (rb < W3.heap.size) := row_lt HR3.out
  clear hs3
  go_upto_region 5 with fail
  rw [← hW3]
  clear hW3 d0 d1 df HK2 HR2 HD2
  obtain ⟨z0, z1, z2, z3, zf⟩ := prow4 HR3.out
  go_wp2
  exact rp2_fin _ 4 5 Tryz.results11 HR3.out _ _ _ _ _ _ (fun w' ho => ry_any (lf_err _ _ _ 120 rfl (by decide) (HD3.out.set ho HRW.out)) rfl) _ rfl rfl rfl
set_option maxHeartbeats 4000000 in
set_option maxRecDepth 20000 in
theorem drep_end (k q : Nat) (s : ByteArray) (p : Nat) (D : Int) (hs : s.size ≤ 281474976710656) (hi : p ≤ s.size) (w : World) (h : DkR w q s p) (hL : ∀ W, Dx q w W → Laid W) (hpe : p = s.size) :
    Calls Tryz.prog 11 #[.pointer (some ⟨q, 0, none⟩), .int .i64 D] w fun e w' => RyIs k (oH k ({ e := 20 }) (s.data.toList.drop p)) q s p w w' e := by
  obtain ⟨rb, hrb⟩ : ∃ rb, w.heap.size = rb := ⟨_, rfl⟩
  obtain ⟨W0, hW0⟩ : ∃ W, W = w.alloc (.cells #[.int .i64 0, .string ⟨#[]⟩, .int .i64 0, .slice none 0 0] 24) := ⟨_, rfl⟩
  have hb0 : Below w.heap.size w W0 := by rw [hW0]; exact (Below.refl _ _).alloc (Nat.le_refl _) _
  have hr0 : W0.heap[rb]? = some (.cells #[.int .i64 0, .string ⟨#[]⟩, .int .i64 0, .slice none 0 0] 24) := by rw [hW0, ← hrb]; exact one_alloc _ _
  have HD0 : Hid (Dx q w W0) := Dx.of hb0
  have HR0 : Hid _ := hr0
  have HK0 : Hid (DkR W0 q s p) := h.on hb0
  have hqr : rb ≠ q := by have := h.lt; omega
  have HRW : Hid (w.heap.size ≤ rb) := Nat.le_of_eq hrb
  have HLL : Hid _ := hL
  obtain ⟨c0, c1, cf⟩ := HK0.out.cells
  have hne : ((p : Int) == (s.size : Int)) = true := by simp; omega
  clear h hb0 hr0 hL
  go_enter Tryz.func11, Tryz.ntmps11
  go_upto_region 1 with fail
  rw [← hW0]
  clear hW0 hrb
  go_quiet (fail)
  obtain ⟨z0, z1, z2, z3, zf⟩ := prow4 (w := W0.drewN nq) HR0.out
  go_wp2
  exact rp2_fin _ 4 5 Tryz.results11 (W := W0.drewN nq) HR0.out _ _ _ _ _ _ (fun w' ho => ry_any (lf_err _ _ _ 20 rfl (by decide) ((HD0.out.dn nq).set ho HRW.out)) rfl) _ rfl rfl rfl
/-- reply, where its lists are read. -/
theorem drep_of (k q : Nat) (s : ByteArray) (p : Nat) (D : Int) (hs : s.size ≤ 281474976710656) (hi : p ≤ s.size) (w : World) (h : DkR w q s p) (hL : ∀ W, Dx q w W → Laid W)
    (HLS : ∀ W (kd a b : Int), (a = -1 ∨ a = 0) → (0 ≤ b ∧ b ≤ 1048576) → p + 1 ≤ s.size → Dx q w W → DkR W q s (p + 1) → Calls Tryz.prog 24 #[.pointer (some ⟨q, 0, none⟩), .int .i64 kd, .int .i64 a, .int .i64 b, .int .i64 D] W fun e w' => RyIs k (oH k (listH kd a b (k == 0) (s.data.toList.drop (p + 1))) (s.data.toList.drop p)) q s p W w' e) :
    Calls Tryz.prog 11 #[.pointer (some ⟨q, 0, none⟩), .int .i64 D] w fun e w' => RyIs k (dec k (s.data.toList.drop p)) q s p w w' e := by
  rw [dec_oH]
  by_cases hpe : p = s.size
  · have : hd (k == 0) (s.data.toList.drop p) = { e := 20 } := by rw [List.drop_eq_nil_of_le (by rw [list_len]; omega)]; rfl
    rw [this]
    exact drep_end k q s p D hs hi w h hL hpe
  have hlt : p < s.size := by omega
  have hd1 : hd (k == 0) (s.data.toList.drop p) = hdM (k == 0) s[p] (s.data.toList.drop (p + 1)) := by
    conv => lhs; rw [drop_at s p hlt]
    rfl
  rw [hd1]
  obtain ⟨c, hc⟩ : ∃ c, s[p] = c := ⟨_, rfl⟩
  rw [hc]
  by_cases h43 : c = 43
  · subst h43; exact drep_stat k q s p D hs hi w h hL hlt hc
  by_cases h45 : c = 45
  · subst h45; exact drep_erro k q s p D hs hi w h hL hlt hc
  by_cases h58 : c = 58
  · subst h58; exact drep_num k q s p D hs hi w h hL hlt hc
  by_cases h36 : c = 36
  · subst h36; exact drep_bulk k q s p D hs hi w h hL hlt hc
  by_cases h95 : c = 95
  · subst h95; exact drep_null k q s p D hs hi w h hL hlt hc
  by_cases h35 : c = 35
  · subst h35; exact drep_bool k q s p D hs hi w h hL hlt hc
  by_cases h42 : c = 42
  · subst h42; exact drep_arr k q s p D (k == 0) hs hi w h hL hlt hc (fun W hd hk => HLS W 5 (-1) 1048576 (Or.inl rfl) (by omega) (by omega) hd hk)
  by_cases h37 : c = 37
  · subst h37; exact drep_map k q s p D (k == 0) hs hi w h hL hlt hc (fun W hd hk => HLS W 6 0 524288 (Or.inr rfl) (by omega) (by omega) hd hk)
  by_cases h126 : c = 126
  · subst h126; exact drep_set k q s p D (k == 0) hs hi w h hL hlt hc (fun W hd hk => HLS W 7 0 1048576 (Or.inr rfl) (by omega) (by omega) hd hk)
  by_cases h62 : c = 62
  · subst h62; exact drep_push k q s p D (k == 0) hs hi w h hL hlt hc (fun W hd hk => HLS W 8 0 1048576 (Or.inr rfl) (by omega) (by omega) hd hk)
  have : hdM (k == 0) c (s.data.toList.drop (p + 1)) = { e := 120 } := by
    unfold hdM
    rw [if_neg h43, if_neg h45, if_neg h58, if_neg h36, if_neg h95, if_neg h35, if_neg h42, if_neg h37, if_neg h126, if_neg h62]
  rw [this]
  exact drep_none k q s p D hs hi w h hL hlt c hc h43 h45 h58 h36 h95 h35 h42 h37 h126 h62
theorem many_line (kd a b : Int) (r : By) (h : True) : (listH kd a b true r).many = none := by
  unfold listH
  split
  · rename_i n z hz
    have := nu_neg hz
    rw [if_pos this]
  · rfl
/-- reply, whole. -/
theorem drep_any : ∀ (k q : Nat) (s : ByteArray) (p : Nat) (hk : k ≤ 32) (hs : s.size ≤ 281474976710656) (hi : p ≤ s.size) (w : World) (h : DkR w q s p) (hL : ∀ W, Dx q w W → Laid W),
    Calls Tryz.prog 11 #[.pointer (some ⟨q, 0, none⟩), .int .i64 (32 - (k : Int))] w fun e w' => RyIs k (dec k (s.data.toList.drop p)) q s p w w' e
  | 0, q, s, p, hk, hs, hi, w, h, hL => drep_of 0 q s p _ hs hi w h hL (fun W kd a b ha hb hp hd hk => (dlist_deep q s p kd a b hs hp W hk (hL W hd)).mono (fun e w' hl => ry_any hl (many_line _ _ _ _ trivial)))
  | k + 1, q, s, p, hk, hs, hi, w, h, hL => drep_of (k + 1) q s p _ hs hi w h hL (fun W kd a b ha hb hp hd hkk => by
    refine dlist_any k q s p kd a b (32 - ((k + 1 : Nat) : Int)) ha hb (by omega) (by omega) hs hp W hkk (hL W hd) (fun W' p' hd' hk' hp' => ?_)
    have := drep_any k q s p' (by omega) hs hp' W' hk' (fun W2 h2 => hL W2 ((hd.trans hd').trans h2))
    rw [show (32 : Int) - ((k + 1 : Nat) : Int) + 1 = 32 - (k : Int) by omega]
    exact this)
end Go.Proofs.YtnfbaeajalnmmaaGreatDoor
namespace Go.Proofs.YtnfbaeajalnmmaaGreatDoor
open Go.RowKit Vi
set_option linter.unusedVariables false
set_option linter.unusedSimpArgs false
/-- what both Decodes answer: a reply, its size, the error. -/
def DeIs (k : Nat) (o : Except Nat (Rn (Rp k) × Nat)) (w w' : World) (e : Ending) : Prop := match o with
  | .error x => x ≠ 0 ∧ Below w.heap.size w w' ∧ e = .returned (.tuple #[.agg #[.int .i64 0, .string ⟨#[]⟩, .int .i64 0, .slice none 0 0], .int .i64 0, .int .i64 (x : Int)])
  | .ok (t, z) => ∃ P l c, e = .returned (.tuple #[.agg #[.int .i64 t.kind, .string (strB t.text), .int .i64 t.n, .slice P l c], .int .i64 (z : Int), .int .i64 0]) ∧ Below w.heap.size w w' ∧ RpL (fun g => w.heap.size ≤ g) k w' (.slice P l c) t.list
/-- a reply that is stored as the first answer, two numbers behind it, and the return. -/
theorem rp3_fin (f : Func) (k k2 k3 : Nat) (hres : f.results = #[.cell k 24, .tmp k2, .tmp k3]) {W : World} {rb : Nat} {x0 x1 x2 x3 : Value} (hr : W.heap[rb]? = some (.cells #[x0, x1, x2, x3] 24)) (v0 v1 v2 v3 ev ev3 : Value) (post : Ending → World → Prop)
    (hpost : ∀ w', Only W w' rb → post (.returned (.tuple #[.agg #[v0, v1, v2, v3], ev, ev3])) w')
    (a : Act) (hdf : a.defers = []) (h2 : a.tmps.getD k undef = .pointer (some ⟨rb, 0, none⟩)) (h3 : a.tmps.getD k2 undef = ev) (h4 : a.tmps.getD k3 undef = ev3) :
    bodyPost Tryz.prog f post .ret a ((((W.setCell ⟨rb, 0, none⟩ v0).setCell ⟨rb, 1, none⟩ v1).setCell ⟨rb, 2, none⟩ v2).setCell ⟨rb, 3, none⟩ v3) := by
  obtain ⟨hr9, ho9⟩ := heap_set4 W rb 24 _ _ _ _ v0 v1 v2 v3 hr
  obtain ⟨y0, y1, y2, y3, yf⟩ := prow4 hr9
  generalize (((W.setCell ⟨rb, 0, none⟩ v0).setCell ⟨rb, 1, none⟩ v1).setCell ⟨rb, 2, none⟩ v2).setCell ⟨rb, 3, none⟩ v3 = W9 at *
  refine bodyPost_ret (v := .tuple #[.agg #[v0, v1, v2, v3], ev, ev3]) ?_ hdf (hpost W9 ho9)
  rw [Array.getD_eq_getD_getElem?] at h2 h3 h4
  simp [results, hres, go_sem, y0, y1, y2, y3, h2, h3, h4]
set_option maxHeartbeats 4000000 in
set_option maxRecDepth 20000 in
/-- the program's Decode. -/
theorem decode_any (s : ByteArray) (hs : s.size ≤ 281474976710656) (w : World) (hL : Laid w) :
    Calls Tryz.prog 5 #[.string s] w fun e w' => DeIs 32 (dec 32 s.data.toList) w w' e := by
  obtain ⟨rb, hrb⟩ : ∃ rb, w.heap.size = rb := ⟨_, rfl⟩
  obtain ⟨W0, hW0⟩ : ∃ W, W = (w.alloc (.cells #[.int .i64 0, .string ⟨#[]⟩, .int .i64 0, .slice none 0 0] 24)).alloc (.cells #[.string s, .int .i64 0] 37) := ⟨_, rfl⟩
  have hb0 : Below w.heap.size w W0 := by rw [hW0]; exact ((Below.refl _ _).alloc (Nat.le_refl _) _).alloc (by simp) _
  have hr0 : W0.heap[rb]? = some (.cells #[.int .i64 0, .string ⟨#[]⟩, .int .i64 0, .slice none 0 0] 24) := by
    rw [hW0, ← hrb]; exact keep_row (one_alloc _ _) ((Below.refl _ _).alloc (Nat.le_refl _) _)
  have hk0 : DkR W0 (rb + 1) s 0 := by
    have h9 := one_alloc (w.alloc (.cells #[.int .i64 0, .string ⟨#[]⟩, .int .i64 0, .slice none 0 0] 24)) (.cells #[.string s, .int .i64 0] 37)
    unfold DkR
    rw [hW0, ← hrb]; simpa using h9
  have hqr : rb ≠ rb + 1 := by omega
  have hbel : ∀ W, Dx (rb + 1) W0 W → Below w.heap.size w W := fun W h => hb0.trans (h.below (by omega) hb0.size)
  have HCC : Hid (Calls Tryz.prog 11 #[.pointer (some ⟨rb + 1, 0, none⟩), .int .i64 0] W0 fun e w' => RyIs 32 (dec 32 s.data.toList) (rb + 1) s 0 W0 w' e) := by
    have := drep_any 32 (rb + 1) s 0 (by omega) hs (by omega) W0 hk0 (fun W h => hL.on (hbel W h))
    rw [List.drop_zero] at this
    exact this
  have HBL : Hid _ := hbel
  have HR0 : Hid _ := hr0
  have HWS : Hid (w.heap.size ≤ W0.heap.size) := hb0.size
  have HRB : Hid (w.heap.size = rb) := hrb
  have HLT : Hid (rb + 1 < W0.heap.size) := hk0.lt
  clear hb0 hr0 hk0 hbel hL
  rcases ho : dec 32 s.data.toList with x | ⟨t, z⟩
  · rw [ho] at HCC
    clear ho
    go_enter Tryz.func5, Tryz.ntmps5
    go_wp2_with fail
    rw [← hW0]
    clear hW0 hrb
    refine (show Calls _ _ _ _ _ from HCC.out).mono ?_
    rintro e w1 ⟨hx0, hd1, k0, t0, n0, P, l, c, rfl⟩
    have hxn : ((x : Int) != 0) = true := by simpa using hx0
    obtain ⟨W2, hW2⟩ : ∃ W2, W2 = w1.alloc (.cells #[.int .i64 k0, .string t0, .int .i64 n0, .slice P l c] 24) := ⟨_, rfl⟩
    have hb2 : Below w1.heap.size w1 W2 := by rw [hW2]; exact (Below.refl _ _).alloc (Nat.le_refl _) _
    have HR2 : Hid (W2.heap[rb]? = some (.cells #[.int .i64 0, .string ⟨#[]⟩, .int .i64 0, .slice none 0 0] 24)) := keep_row (hd1.row HR0.out hqr) hb2
    have HB2 : Hid (Below w.heap.size w W2) := HBL.out W2 (hd1.trans (Dx.of hb2))
    obtain ⟨z0, z1, z2, z3, zf⟩ := prow4 HR2.out
    clear hd1 hb2
    go_upto_region 4 with fail
    rw [← hW2]
    clear hW2
    go_wp2
    exact rp3_fin _ 2 3 4 Tryz.results5 HR2.out _ _ _ _ _ _ _ (fun w' ho => ⟨hx0, HB2.out.trans (ho.below (Nat.le_of_eq HRB.out)), rfl⟩) _ rfl rfl rfl rfl
  · rw [ho] at HCC
    clear ho
    go_enter Tryz.func5, Tryz.ntmps5
    go_wp2_with fail
    rw [← hW0]
    clear hW0 hrb
    refine (show Calls _ _ _ _ _ from HCC.out).mono ?_
    rintro e w1 ⟨P, l, c, rfl, hd1, hrp1, hk1⟩
    obtain ⟨W2, hW2⟩ : ∃ W2, W2 = w1.alloc (.cells #[.int .i64 t.kind, .string (strB t.text), .int .i64 t.n, .slice P l c] 24) := ⟨_, rfl⟩
    have hb2 : Below w1.heap.size w1 W2 := by rw [hW2]; exact (Below.refl _ _).alloc (Nat.le_refl _) _
    have HR2 : Hid (W2.heap[rb]? = some (.cells #[.int .i64 0, .string ⟨#[]⟩, .int .i64 0, .slice none 0 0] 24)) := keep_row (hd1.row HR0.out hqr) hb2
    have HB2 : Hid (Below w.heap.size w W2) := HBL.out W2 (hd1.trans (Dx.of hb2))
    have HK2 : Hid (DkR W2 (rb + 1) s (0 + z)) := hk1.on hb2
    have HRP : Hid (RpL (fun g => W0.heap.size ≤ g) 32 W2 (.slice P l c) t.list) := hrp1.on hb2
    obtain ⟨qb, hqb⟩ : ∃ qb, w1.heap.size = qb := ⟨_, rfl⟩
    have HQB : Hid (w1.heap.size = qb) := hqb
    have HQ2 : Hid (W2.heap[qb]? = some (.cells #[.int .i64 t.kind, .string (strB t.text), .int .i64 t.n, .slice P l c] 24)) := by rw [hW2, ← hqb]; exact one_alloc _ _
    clear hd1 hb2 hrp1 hk1 hqb
    go_upto_region 5 with fail
    rw [← hW2, HQB.out]
    clear hW2 HQB
    obtain ⟨z0, z1, z2, z3, zf⟩ := prow4 HR2.out
    obtain ⟨y0, y1, y2, y3, yf⟩ := prow4 HQ2.out
    obtain ⟨d0, d1, df⟩ := HK2.out.cells
    rw [Nat.zero_add] at d1
    have d2 : W2.drew.cell? ⟨rb + 1, 1, none⟩ = some (.int .i64 (z : Int)) := d1
    go_region
    all_goals
      go_wp2
      refine rp3_fin _ 2 3 4 Tryz.results5 (W := W2.drew) HR2.out _ _ _ _ _ _ _ (fun w' ho => ?_) _ rfl rfl rfl rfl
      refine ⟨P, l, c, rfl, (HB2.out.trans (Below.refl _ _).drew).trans (ho.below (Nat.le_of_eq HRB.out)), ?_⟩
      exact HRP.out.keep (fun g hg _ => ⟨Nat.le_trans HWS.out hg, ho.other g (by have := HLT.out; omega)⟩)
end Go.Proofs.YtnfbaeajalnmmaaGreatDoor
