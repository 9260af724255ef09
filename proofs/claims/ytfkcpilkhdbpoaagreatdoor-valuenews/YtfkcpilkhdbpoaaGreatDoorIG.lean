import Derived.Test.YtfkcpilkhdbpoaaGreatDoorIB
import Derived.Deep.RegionHeld3
import Derived.Deep.Cut
namespace Go.Proofs.YtfkcpilkhdbpoaaGreatDoor.V
open Go.RowKit
set_option linter.unusedVariables false
set_option linter.unusedSimpArgs false
theorem st_nil (p q : Option Addr) (c d : Nat) (w : World) : Calls Tryz.prog 34 #[.slice p 0 c, .slice q 0 d] w fun e w' => e = .returned (.bool true) ∧ Below w.heap.size w w' := by
  go_enter Tryz.func34, Tryz.ntmps34
  go_wp2
  go_rounds 1
  go_wp2
  go_returns
  exact ⟨rfl, Below.refl _ _⟩
set_option maxHeartbeats 1000000 in
theorem st_one (g o h u : Nat) (c d : Nat) (X : ByteArray) (w : World) (h1 : w.cell? ⟨g, o, none⟩ = some (.string X)) (h2 : w.cell? ⟨h, u, none⟩ = some (.string X)) : Calls Tryz.prog 34 #[.slice (some ⟨g, o, none⟩) 1 c, .slice (some ⟨h, u, none⟩) 1 d] w fun e w' => e = .returned (.bool true) ∧ Below w.heap.size w w' := by
  have hx : (X.toList == X.toList) = true := by simp
  go_enter Tryz.func34, Tryz.ntmps34
  go_wp2
  go_loopw [5] (fun ci wr => (∃ k, wr = w.drewN k) ∧ (ci = .int .i64 0 ∨ ci = .int .i64 1)) (fun ci _ => 1 - (intOf ci).toNat)
  case atStart => exact ⟨⟨0, rfl⟩, Or.inl rfl⟩
  case round =>
    obtain ⟨⟨kk, hwr⟩, hci⟩ := hrel
    have HWR : Hid (wr = w.drewN kk) := hwr
    have k1 : wr.cell? ⟨g, o, none⟩ = some (.string X) := by rw [hwr]; exact h1
    have k2 : wr.cell? ⟨h, u, none⟩ = some (.string X) := by rw [hwr]; exact h2
    clear hwr
    rcases hci with rfl | rfl
    · go_wp2
      go_quiet (fail)
      go_wp2
      go_roundw
      case rel => exact ⟨⟨kk + nq, by rw [HWR.out, World.drewN_drewN]⟩, Or.inr rfl⟩
      case measure => simp [intOf]
    · go_wp2
      go_returns
      refine ⟨rfl, ?_⟩
      rw [HWR.out]
      exact below_dn (Below.refl _ _) kk
theorem sf_nil (p q : Option Addr) (c d : Nat) (w : World) : Calls Tryz.prog 61 #[.slice p 0 c, .slice q 0 d] w fun e w' => e = .returned (.bool true) ∧ Below w.heap.size w w' := by
  go_enter Tryz.func61, Tryz.ntmps61
  go_wp2
  go_rounds 1
  go_wp2
  go_returns
  exact ⟨rfl, Below.refl _ _⟩
theorem ss_nil (p q : Option Addr) (c d : Nat) (w : World) : Calls Tryz.prog 125 #[.slice p 0 c, .slice q 0 d] w fun e w' => e = .returned (.bool true) ∧ Below w.heap.size w w' := by
  go_enter Tryz.func125, Tryz.ntmps125
  go_wp2
  go_rounds 1
  go_wp2
  go_returns
  exact ⟨rfl, Below.refl _ _⟩
theorem st_row (ts : List ByteArray) (ht : ts.length ≤ 1) (v1 v2 : Value) (w : World) (h1 : SRow w v1 ts) (h2 : SRow w v2 ts) : Calls Tryz.prog 34 #[v1, v2] w fun e w' => e = .returned (.bool true) ∧ Below w.heap.size w w' := by
  rcases ts with _ | ⟨X, _ | ⟨Y, ts⟩⟩
  · obtain ⟨p, c, rfl⟩ := h1.form
    obtain ⟨q, d, rfl⟩ := h2.form
    exact st_nil p q c d w
  · obtain ⟨p, c, rfl⟩ := h1.form
    obtain ⟨q, d, rfl⟩ := h2.form
    obtain ⟨g, o, rfl, hc⟩ := h1.cell 0 (by simp)
    obtain ⟨h, u, rfl, hd⟩ := h2.cell 0 (by simp)
    exact st_one g o h u c d X w hc hd
  · simp at ht
theorem arr25 {C : Array Value} (h : C.size = 25) : ∃ v0 v1 v2 v3 v4 v5 v6 v7 v8 v9 v10 v11 v12 v13 v14 v15 v16 v17 v18 v19 v20 v21 v22 v23 v24, C = #[v0, v1, v2, v3, v4, v5, v6, v7, v8, v9, v10, v11, v12, v13, v14, v15, v16, v17, v18, v19, v20, v21, v22, v23, v24] := by
  obtain ⟨l⟩ := C
  simp only [List.size_toArray] at h
  rcases l with _ | ⟨v0, l⟩; · simp at h
  rcases l with _ | ⟨v1, l⟩; · simp at h
  rcases l with _ | ⟨v2, l⟩; · simp at h
  rcases l with _ | ⟨v3, l⟩; · simp at h
  rcases l with _ | ⟨v4, l⟩; · simp at h
  rcases l with _ | ⟨v5, l⟩; · simp at h
  rcases l with _ | ⟨v6, l⟩; · simp at h
  rcases l with _ | ⟨v7, l⟩; · simp at h
  rcases l with _ | ⟨v8, l⟩; · simp at h
  rcases l with _ | ⟨v9, l⟩; · simp at h
  rcases l with _ | ⟨v10, l⟩; · simp at h
  rcases l with _ | ⟨v11, l⟩; · simp at h
  rcases l with _ | ⟨v12, l⟩; · simp at h
  rcases l with _ | ⟨v13, l⟩; · simp at h
  rcases l with _ | ⟨v14, l⟩; · simp at h
  rcases l with _ | ⟨v15, l⟩; · simp at h
  rcases l with _ | ⟨v16, l⟩; · simp at h
  rcases l with _ | ⟨v17, l⟩; · simp at h
  rcases l with _ | ⟨v18, l⟩; · simp at h
  rcases l with _ | ⟨v19, l⟩; · simp at h
  rcases l with _ | ⟨v20, l⟩; · simp at h
  rcases l with _ | ⟨v21, l⟩; · simp at h
  rcases l with _ | ⟨v22, l⟩; · simp at h
  rcases l with _ | ⟨v23, l⟩; · simp at h
  rcases l with _ | ⟨v24, l⟩; · simp at h
  rcases l with _ | ⟨v25, l⟩
  · exact ⟨v0, v1, v2, v3, v4, v5, v6, v7, v8, v9, v10, v11, v12, v13, v14, v15, v16, v17, v18, v19, v20, v21, v22, v23, v24, rfl⟩
  · simp at h
theorem yl53 {ops : Array Oper} {S : World → Prop} {op : Oper} {a : Act} (C : Array Value) (r : Nat) (x : Operand) (ho : op.op = .load 53 x) (hx : a.eval x = .pointer (some ⟨r, 0, none⟩)) (hS : ∀ w, S w → w.rangeAt r 0 C.toList) (h25 : C.size = 25) (hw : Region.wanted op (yielded ops a.tmps) = true := by rfl) : YieldsIf Tryz.prog ops S op (.agg C) a := by
  have := yieldsIf_load_mid (P := Tryz.prog) (ops := ops) (S := S) (a := a) hw 53 x ho r 0 hx C.toList _ hS Tryz.underlying53 rfl (by rw [Array.length_toList, h25]; exact i53)
  rw [Array.toArray_toList] at this
  exact this
/-- What both tell of themselves. -/
def Ans (f : Nat) (xs : Array Value) (v : Value) (w : World) : Prop := ∀ W, Below w.heap.size w W → Calls Tryz.prog f xs W fun e w' => e = .returned v ∧ Below W.heap.size W w'
def AnsT (f : Nat) (xs : Array Value) (ts : List ByteArray) (w : World) : Prop := ∀ W, Below w.heap.size w W → Calls Tryz.prog f xs W fun e w' => ∃ v, e = .returned v ∧ SRow w' v ts ∧ Below W.heap.size W w'
set_option maxHeartbeats 4000000 in
set_option maxRecDepth 20000 in
theorem as_ok (bv : Nat) (C : Array Value) (k a b : Int) (en0 it en : ByteArray) (ts : List ByteArray) (ht : ts.length ≤ 1) (hC : RV C k a b en0 it) (w : World)
    (hK : Ans 42 #[.pointer (some ⟨bv, 0, none⟩)] (.int .i64 k) w) (hE : Ans 24 #[.pointer (some ⟨bv, 0, none⟩)] (.string en) w) (hL : Ans 25 #[.pointer (some ⟨bv, 0, none⟩)] (.int .i64 0) w) (hS : Ans 45 #[.pointer (some ⟨bv, 0, none⟩)] (.int .i64 48) w) (hR : AnsT 47 #[.pointer (some ⟨bv, 0, none⟩)] ts w)
    (hE' : Ans 43 #[.agg C] (.string en) w) (hL' : Ans 44 #[.agg C] (.int .i64 0) w) (hS' : Ans 46 #[.agg C] (.int .i64 48) w) (hR' : AnsT 48 #[.agg C] ts w) :
    Calls Tryz.prog 12 #[.pointer (some ⟨bv, 0, none⟩), .agg C] w fun e w' => e = .returned (.bool true) ∧ Below w.heap.size w w' := by
  have HK : Hid _ := hK
  have HE : Hid _ := hE
  have HL : Hid _ := hL
  have HS : Hid _ := hS
  have HRw : Hid _ := hR
  have HE' : Hid _ := hE'
  have HL' : Hid _ := hL'
  have HS' : Hid _ := hS'
  have HRw' : Hid _ := hR'
  have hen : (en.toList == en.toList) = true := by simp
  clear hK hE hL hS hR hE' hL' hS' hR'
  obtain ⟨W1, hW1⟩ : ∃ W1, W1 = w.alloc (.cells C 53) := ⟨_, rfl⟩
  obtain ⟨r, hr⟩ : ∃ r, w.heap.size = r := ⟨_, rfl⟩
  have HB : Hid (Below w.heap.size w W1) := by rw [hW1]; exact (Below.refl _ _).alloc (Nat.le_refl _) _
  have HR : Hid (W1.heap[r]? = some (.cells C 53)) := by rw [hW1, ← hr]; exact one_alloc _ _
  have HRR : Hid (w.heap.size = r) := hr
  have HC : Hid (RV C k a b en0 it) := hC
  clear hr hC
  go_enter Tryz.func12, Tryz.ntmps12
  go_upto_region 1 with fail
  rw [← hW1, HRR.out]
  clear hW1
  have h25 : C.size = 25 := HC.out.1
  have HKS : Hid (∀ W, Below W1.heap.size W1 W → W.cell? ⟨r, 0, none⟩ = some (.int .i64 k) ∧ W.rangeAt r 0 C.toList ∧ True) := fun W hW => by
    obtain ⟨c0, c10, c11, c14, c15, c16, c17, c18, l1, l2, l3, l4, FF⟩ := facts HC.out (keep_row HR.out hW)
    exact ⟨c0, FF.1, trivial⟩
  have HUP : Hid (∀ W, Below W1.heap.size W1 W → Below w.heap.size w W) := fun W hW => HB.out.trans (hW.mono HB.out.size)
  have hcur : Below W1.heap.size W1 W1.drew := (Below.refl _ W1).drew
  refine wp_region_held_drew (S := fun W : World => W.cell? ⟨r, 0, none⟩ = some (.int .i64 k) ∧ W.rangeAt r 0 C.toList ∧ True) (by kernel_rfl) (HKS.out _ hcur) (fun hHeld => ?_)
  refine wpAnyH_take (i := 0) (oi := { dst := some 5, op := Op.move (Operand.tmp 0), type := 41, pos := "law.go:231", after := #[], guard := none }) (v := .pointer (some ⟨bv, 0, none⟩)) rfl (by kernel_rfl) (by kernel_rfl) (by kernel_rfl) (fun _ _ _ h => h) (Or.inl ⟨by rfl, ?y0⟩) (by assumption) ?z0
  case y0 =>
    intro w hSw
    (try dsimp only at hSw)
    first | (go_simp; done) | (go_simp; with_reducible rfl) | (go_simp; rfl)
  try simp only [Act.put, List.setIfInBounds_toArray, List.set_cons_zero, List.set_cons_succ]
  refine wpAnyH_take (i := 2) (oi := { dst := some 7, op := Op.fieldAddr 53 (Operand.tmp 3) 0, type := 0, pos := "law.go:231", after := #[], guard := none }) (v := .pointer (some ⟨r, 0, none⟩)) rfl (by kernel_rfl) (by kernel_rfl) (by kernel_rfl) (fun _ _ _ h => h) (Or.inl ⟨by rfl, ?y2⟩) (by assumption) ?z2
  case y2 =>
    intro w hSw
    (try dsimp only at hSw)
    first | (go_simp; done) | (go_simp; with_reducible rfl) | (go_simp; rfl)
  try simp only [Act.put, List.setIfInBounds_toArray, List.set_cons_zero, List.set_cons_succ]
  refine wpAnyH_take (i := 3) (oi := { dst := some 8, op := Op.load 3 (Operand.tmp 7), type := 3, pos := "law.go:231", after := #[{ on := 2, ground := Ground.data }], guard := none }) (v := .int .i64 k) rfl (by kernel_rfl) (by kernel_rfl) (by kernel_rfl) (fun _ _ _ h => h) (Or.inl ⟨by rfl, ?y3⟩) (by assumption) ?z3
  case y3 =>
    intro w hSw
    (try dsimp only at hSw)
    first | (go_simp; done) | (go_simp; with_reducible rfl) | (go_simp; rfl)
  try simp only [Act.put, List.setIfInBounds_toArray, List.set_cons_zero, List.set_cons_succ]
  refine wpAnyH_ready (rs := [1]) (by kernel_rfl) (by simp) ?_
  refine AllReadyH.cons (o := { dst := some 6, op := Op.call { callee := Callee.value (Operand.func 42), args := #[Operand.tmp 5], argTypes := #[41] }, type := 3, pos := "law.go:231", after := #[{ on := 0, ground := Ground.data }], guard := none }) rfl (fun K hK => ?_) AllReadyH.nil
  first | (go_at_call 42; refine (show Calls _ _ _ _ _ from HK.out _ (HUP.out _ hcur)).mono ?_; rintro e a1 ⟨rfl, hb1⟩; have hcur := hcur.trans (hb1.mono hcur.size)) | (go_simp; go_at_call 42; refine (show Calls _ _ _ _ _ from HK.out _ (HUP.out _ hcur)).mono ?_; rintro e a1 ⟨rfl, hb1⟩; have hcur := hcur.trans (hb1.mono hcur.size))
  refine hK.out _ _ (HKS.out _ hcur) (fun hHeld => ?_)
  clear hK K
  try simp only [Act.put, List.setIfInBounds_toArray, List.set_cons_zero, List.set_cons_succ]
  refine wpAnyH_take (i := 4) (oi := { dst := some 9, op := Op.binOp BinOp.eql 3 (Operand.tmp 6) (Operand.tmp 8) 3, type := 4, pos := "law.go:231", after := #[{ on := 1, ground := Ground.data }, { on := 3, ground := Ground.data }], guard := none }) (v := .bool true) rfl (by kernel_rfl) (by kernel_rfl) (by kernel_rfl) (fun _ _ _ h => h) (Or.inl ⟨by rfl, ?y4⟩) (by assumption) ?z4
  case y4 =>
    intro w hSw
    (try dsimp only at hSw)
    first | (go_simp; done) | (go_simp; with_reducible rfl) | (go_simp; rfl)
  try simp only [Act.put, List.setIfInBounds_toArray, List.set_cons_zero, List.set_cons_succ]
  refine wpAnyH_take (i := 5) (oi := { dst := some 10, op := Op.move (Operand.tmp 9), type := 4, pos := "law.go:231", after := #[{ on := 4, ground := Ground.data }, { on := 1, ground := Ground.chain }], guard := none }) (v := .bool true) rfl (by kernel_rfl) (by kernel_rfl) (by kernel_rfl) (fun _ _ _ h => h) (Or.inl ⟨by rfl, ?y5⟩) (by assumption) ?z5
  case y5 =>
    intro w hSw
    (try dsimp only at hSw)
    first | (go_simp; done) | (go_simp; with_reducible rfl) | (go_simp; rfl)
  try simp only [Act.put, List.setIfInBounds_toArray, List.set_cons_zero, List.set_cons_succ]
  refine wpAnyH_take (i := 6) (oi := { dst := some 11, op := Op.move (Operand.tmp 0), type := 41, pos := "law.go:231", after := #[{ on := 5, ground := Ground.guard }], guard := some (5, true) }) (v := .pointer (some ⟨bv, 0, none⟩)) rfl (by kernel_rfl) (by kernel_rfl) (by kernel_rfl) (fun _ _ _ h => h) (Or.inl ⟨by rfl, ?y6⟩) (by assumption) ?z6
  case y6 =>
    intro w hSw
    (try dsimp only at hSw)
    first | (go_simp; done) | (go_simp; with_reducible rfl) | (go_simp; rfl)
  try simp only [Act.put, List.setIfInBounds_toArray, List.set_cons_zero, List.set_cons_succ]
  refine wpAnyH_take (i := 8) (oi := { dst := some 13, op := Op.load 53 (Operand.tmp 3), type := 53, pos := "law.go:231", after := #[{ on := 5, ground := Ground.guard }], guard := some (5, true) }) (v := .agg C) rfl (by kernel_rfl) (by kernel_rfl) (by kernel_rfl) (fun _ _ _ h => h) (yl53 C r _ rfl rfl (fun _ h => h.2.1) h25) (by assumption) ?z8
  try simp only [Act.put, List.setIfInBounds_toArray, List.set_cons_zero, List.set_cons_succ]
  refine wpAnyH_ready (rs := [7]) (by kernel_rfl) (by simp) ?_
  refine AllReadyH.cons (o := { dst := some 12, op := Op.call { callee := Callee.value (Operand.func 24), args := #[Operand.tmp 11], argTypes := #[41] }, type := 9, pos := "law.go:231", after := #[{ on := 6, ground := Ground.data }, { on := 5, ground := Ground.chain }, { on := 5, ground := Ground.guard }], guard := some (5, true) }) rfl (fun K hK => ?_) AllReadyH.nil
  first | (go_at_call 24; refine (show Calls _ _ _ _ _ from HE.out _ (HUP.out _ hcur)).mono ?_; rintro e a1 ⟨rfl, hb1⟩; have hcur := hcur.trans (hb1.mono hcur.size)) | (go_simp; go_at_call 24; refine (show Calls _ _ _ _ _ from HE.out _ (HUP.out _ hcur)).mono ?_; rintro e a1 ⟨rfl, hb1⟩; have hcur := hcur.trans (hb1.mono hcur.size))
  refine hK.out _ _ (HKS.out _ hcur) (fun hHeld => ?_)
  clear hK K
  try simp only [Act.put, List.setIfInBounds_toArray, List.set_cons_zero, List.set_cons_succ]
  refine wpAnyH_ready (rs := [9]) (by kernel_rfl) (by simp) ?_
  refine AllReadyH.cons (o := { dst := some 14, op := Op.call { callee := Callee.value (Operand.func 43), args := #[Operand.tmp 13], argTypes := #[53] }, type := 9, pos := "law.go:231", after := #[{ on := 8, ground := Ground.data }, { on := 7, ground := Ground.chain }, { on := 5, ground := Ground.guard }], guard := some (5, true) }) rfl (fun K hK => ?_) AllReadyH.nil
  first | (go_at_call 43; refine (show Calls _ _ _ _ _ from HE'.out _ (HUP.out _ hcur)).mono ?_; rintro e a1 ⟨rfl, hb1⟩; have hcur := hcur.trans (hb1.mono hcur.size)) | (go_simp; go_at_call 43; refine (show Calls _ _ _ _ _ from HE'.out _ (HUP.out _ hcur)).mono ?_; rintro e a1 ⟨rfl, hb1⟩; have hcur := hcur.trans (hb1.mono hcur.size))
  refine hK.out _ _ (HKS.out _ hcur) (fun hHeld => ?_)
  clear hK K
  try simp only [Act.put, List.setIfInBounds_toArray, List.set_cons_zero, List.set_cons_succ]
  refine wpAnyH_take (i := 10) (oi := { dst := some 15, op := Op.binOp BinOp.eql 9 (Operand.tmp 12) (Operand.tmp 14) 9, type := 4, pos := "law.go:231", after := #[{ on := 7, ground := Ground.data }, { on := 9, ground := Ground.data }, { on := 5, ground := Ground.guard }], guard := some (5, true) }) (v := .bool true) rfl (by kernel_rfl) (by kernel_rfl) (by kernel_rfl) (fun _ _ _ h => h) (Or.inl ⟨by rfl, ?y10⟩) (by assumption) ?z10
  case y10 =>
    intro w hSw
    (try dsimp only at hSw)
    first | (go_simp; done) | (go_simp; with_reducible rfl) | (go_simp; rfl)
  try simp only [Act.put, List.setIfInBounds_toArray, List.set_cons_zero, List.set_cons_succ]
  refine wpAnyH_take (i := 11) (oi := { dst := some 16, op := Op.pick (Operand.tmp 10) (Operand.tmp 15) (Operand.const (Value.bool false)), type := 4, pos := "law.go:231", after := #[{ on := 5, ground := Ground.data }, { on := 10, ground := Ground.data }], guard := none }) (v := .bool true) rfl (by kernel_rfl) (by kernel_rfl) (by kernel_rfl) (fun _ _ _ h => h) (Or.inl ⟨by rfl, ?y11⟩) (by assumption) ?z11
  case y11 =>
    intro w hSw
    (try dsimp only at hSw)
    first | (go_simp; done) | (go_simp; with_reducible rfl) | (go_simp; rfl)
  try simp only [Act.put, List.setIfInBounds_toArray, List.set_cons_zero, List.set_cons_succ]
  refine wpAnyH_take (i := 12) (oi := { dst := some 17, op := Op.move (Operand.tmp 16), type := 4, pos := "law.go:231", after := #[{ on := 11, ground := Ground.data }, { on := 9, ground := Ground.chain }], guard := none }) (v := .bool true) rfl (by kernel_rfl) (by kernel_rfl) (by kernel_rfl) (fun _ _ _ h => h) (Or.inl ⟨by rfl, ?y12⟩) (by assumption) ?z12
  case y12 =>
    intro w hSw
    (try dsimp only at hSw)
    first | (go_simp; done) | (go_simp; with_reducible rfl) | (go_simp; rfl)
  try simp only [Act.put, List.setIfInBounds_toArray, List.set_cons_zero, List.set_cons_succ]
  refine wpAnyH_take (i := 13) (oi := { dst := some 18, op := Op.move (Operand.tmp 0), type := 41, pos := "law.go:231", after := #[{ on := 12, ground := Ground.guard }], guard := some (12, true) }) (v := .pointer (some ⟨bv, 0, none⟩)) rfl (by kernel_rfl) (by kernel_rfl) (by kernel_rfl) (fun _ _ _ h => h) (Or.inl ⟨by rfl, ?y13⟩) (by assumption) ?z13
  case y13 =>
    intro w hSw
    (try dsimp only at hSw)
    first | (go_simp; done) | (go_simp; with_reducible rfl) | (go_simp; rfl)
  try simp only [Act.put, List.setIfInBounds_toArray, List.set_cons_zero, List.set_cons_succ]
  refine wpAnyH_take (i := 15) (oi := { dst := some 20, op := Op.load 53 (Operand.tmp 3), type := 53, pos := "law.go:231", after := #[{ on := 12, ground := Ground.guard }], guard := some (12, true) }) (v := .agg C) rfl (by kernel_rfl) (by kernel_rfl) (by kernel_rfl) (fun _ _ _ h => h) (yl53 C r _ rfl rfl (fun _ h => h.2.1) h25) (by assumption) ?z15
  try simp only [Act.put, List.setIfInBounds_toArray, List.set_cons_zero, List.set_cons_succ]
  refine wpAnyH_ready (rs := [14]) (by kernel_rfl) (by simp) ?_
  refine AllReadyH.cons (o := { dst := some 19, op := Op.call { callee := Callee.value (Operand.func 25), args := #[Operand.tmp 18], argTypes := #[41] }, type := 3, pos := "law.go:231", after := #[{ on := 13, ground := Ground.data }, { on := 12, ground := Ground.chain }, { on := 12, ground := Ground.guard }], guard := some (12, true) }) rfl (fun K hK => ?_) AllReadyH.nil
  first | (go_at_call 25; refine (show Calls _ _ _ _ _ from HL.out _ (HUP.out _ hcur)).mono ?_; rintro e a1 ⟨rfl, hb1⟩; have hcur := hcur.trans (hb1.mono hcur.size)) | (go_simp; go_at_call 25; refine (show Calls _ _ _ _ _ from HL.out _ (HUP.out _ hcur)).mono ?_; rintro e a1 ⟨rfl, hb1⟩; have hcur := hcur.trans (hb1.mono hcur.size))
  refine hK.out _ _ (HKS.out _ hcur) (fun hHeld => ?_)
  clear hK K
  try simp only [Act.put, List.setIfInBounds_toArray, List.set_cons_zero, List.set_cons_succ]
  refine wpAnyH_ready (rs := [16]) (by kernel_rfl) (by simp) ?_
  refine AllReadyH.cons (o := { dst := some 21, op := Op.call { callee := Callee.value (Operand.func 44), args := #[Operand.tmp 20], argTypes := #[53] }, type := 3, pos := "law.go:231", after := #[{ on := 15, ground := Ground.data }, { on := 14, ground := Ground.chain }, { on := 12, ground := Ground.guard }], guard := some (12, true) }) rfl (fun K hK => ?_) AllReadyH.nil
  first | (go_at_call 44; refine (show Calls _ _ _ _ _ from HL'.out _ (HUP.out _ hcur)).mono ?_; rintro e a1 ⟨rfl, hb1⟩; have hcur := hcur.trans (hb1.mono hcur.size)) | (go_simp; go_at_call 44; refine (show Calls _ _ _ _ _ from HL'.out _ (HUP.out _ hcur)).mono ?_; rintro e a1 ⟨rfl, hb1⟩; have hcur := hcur.trans (hb1.mono hcur.size))
  refine hK.out _ _ (HKS.out _ hcur) (fun hHeld => ?_)
  clear hK K
  try simp only [Act.put, List.setIfInBounds_toArray, List.set_cons_zero, List.set_cons_succ]
  refine wpAnyH_take (i := 17) (oi := { dst := some 22, op := Op.binOp BinOp.eql 3 (Operand.tmp 19) (Operand.tmp 21) 3, type := 4, pos := "law.go:231", after := #[{ on := 14, ground := Ground.data }, { on := 16, ground := Ground.data }, { on := 12, ground := Ground.guard }], guard := some (12, true) }) (v := .bool true) rfl (by kernel_rfl) (by kernel_rfl) (by kernel_rfl) (fun _ _ _ h => h) (Or.inl ⟨by rfl, ?y17⟩) (by assumption) ?z17
  case y17 =>
    intro w hSw
    (try dsimp only at hSw)
    first | (go_simp; done) | (go_simp; with_reducible rfl) | (go_simp; rfl)
  try simp only [Act.put, List.setIfInBounds_toArray, List.set_cons_zero, List.set_cons_succ]
  refine wpAnyH_take (i := 18) (oi := { dst := some 23, op := Op.pick (Operand.tmp 17) (Operand.tmp 22) (Operand.const (Value.bool false)), type := 4, pos := "law.go:231", after := #[{ on := 12, ground := Ground.data }, { on := 17, ground := Ground.data }], guard := none }) (v := .bool true) rfl (by kernel_rfl) (by kernel_rfl) (by kernel_rfl) (fun _ _ _ h => h) (Or.inl ⟨by rfl, ?y18⟩) (by assumption) ?z18
  case y18 =>
    intro w hSw
    (try dsimp only at hSw)
    first | (go_simp; done) | (go_simp; with_reducible rfl) | (go_simp; rfl)
  try simp only [Act.put, List.setIfInBounds_toArray, List.set_cons_zero, List.set_cons_succ]
  refine wpAnyH_take (i := 19) (oi := { dst := some 24, op := Op.move (Operand.tmp 23), type := 4, pos := "law.go:231", after := #[{ on := 18, ground := Ground.data }, { on := 16, ground := Ground.chain }], guard := none }) (v := .bool true) rfl (by kernel_rfl) (by kernel_rfl) (by kernel_rfl) (fun _ _ _ h => h) (Or.inl ⟨by rfl, ?y19⟩) (by assumption) ?z19
  case y19 =>
    intro w hSw
    (try dsimp only at hSw)
    first | (go_simp; done) | (go_simp; with_reducible rfl) | (go_simp; rfl)
  try simp only [Act.put, List.setIfInBounds_toArray, List.set_cons_zero, List.set_cons_succ]
  refine wpAnyH_take (i := 20) (oi := { dst := some 25, op := Op.move (Operand.tmp 0), type := 41, pos := "law.go:231", after := #[{ on := 19, ground := Ground.guard }], guard := some (19, true) }) (v := .pointer (some ⟨bv, 0, none⟩)) rfl (by kernel_rfl) (by kernel_rfl) (by kernel_rfl) (fun _ _ _ h => h) (Or.inl ⟨by rfl, ?y20⟩) (by assumption) ?z20
  case y20 =>
    intro w hSw
    (try dsimp only at hSw)
    first | (go_simp; done) | (go_simp; with_reducible rfl) | (go_simp; rfl)
  try simp only [Act.put, List.setIfInBounds_toArray, List.set_cons_zero, List.set_cons_succ]
  refine wpAnyH_take (i := 22) (oi := { dst := some 27, op := Op.load 53 (Operand.tmp 3), type := 53, pos := "law.go:231", after := #[{ on := 19, ground := Ground.guard }], guard := some (19, true) }) (v := .agg C) rfl (by kernel_rfl) (by kernel_rfl) (by kernel_rfl) (fun _ _ _ h => h) (yl53 C r _ rfl rfl (fun _ h => h.2.1) h25) (by assumption) ?z22
  try simp only [Act.put, List.setIfInBounds_toArray, List.set_cons_zero, List.set_cons_succ]
  refine wpAnyH_ready (rs := [21]) (by kernel_rfl) (by simp) ?_
  refine AllReadyH.cons (o := { dst := some 26, op := Op.call { callee := Callee.value (Operand.func 45), args := #[Operand.tmp 25], argTypes := #[41] }, type := 3, pos := "law.go:231", after := #[{ on := 20, ground := Ground.data }, { on := 19, ground := Ground.chain }, { on := 19, ground := Ground.guard }], guard := some (19, true) }) rfl (fun K hK => ?_) AllReadyH.nil
  first | (go_at_call 45; refine (show Calls _ _ _ _ _ from HS.out _ (HUP.out _ hcur)).mono ?_; rintro e a1 ⟨rfl, hb1⟩; have hcur := hcur.trans (hb1.mono hcur.size)) | (go_simp; go_at_call 45; refine (show Calls _ _ _ _ _ from HS.out _ (HUP.out _ hcur)).mono ?_; rintro e a1 ⟨rfl, hb1⟩; have hcur := hcur.trans (hb1.mono hcur.size))
  refine hK.out _ _ (HKS.out _ hcur) (fun hHeld => ?_)
  clear hK K
  try simp only [Act.put, List.setIfInBounds_toArray, List.set_cons_zero, List.set_cons_succ]
  refine wpAnyH_ready (rs := [23]) (by kernel_rfl) (by simp) ?_
  refine AllReadyH.cons (o := { dst := some 28, op := Op.call { callee := Callee.value (Operand.func 46), args := #[Operand.tmp 27], argTypes := #[53] }, type := 3, pos := "law.go:231", after := #[{ on := 22, ground := Ground.data }, { on := 21, ground := Ground.chain }, { on := 19, ground := Ground.guard }], guard := some (19, true) }) rfl (fun K hK => ?_) AllReadyH.nil
  first | (go_at_call 46; refine (show Calls _ _ _ _ _ from HS'.out _ (HUP.out _ hcur)).mono ?_; rintro e a1 ⟨rfl, hb1⟩; have hcur := hcur.trans (hb1.mono hcur.size)) | (go_simp; go_at_call 46; refine (show Calls _ _ _ _ _ from HS'.out _ (HUP.out _ hcur)).mono ?_; rintro e a1 ⟨rfl, hb1⟩; have hcur := hcur.trans (hb1.mono hcur.size))
  refine hK.out _ _ (HKS.out _ hcur) (fun hHeld => ?_)
  clear hK K
  try simp only [Act.put, List.setIfInBounds_toArray, List.set_cons_zero, List.set_cons_succ]
  refine wpAnyH_take (i := 24) (oi := { dst := some 29, op := Op.binOp BinOp.eql 3 (Operand.tmp 26) (Operand.tmp 28) 3, type := 4, pos := "law.go:231", after := #[{ on := 21, ground := Ground.data }, { on := 23, ground := Ground.data }, { on := 19, ground := Ground.guard }], guard := some (19, true) }) (v := .bool true) rfl (by kernel_rfl) (by kernel_rfl) (by kernel_rfl) (fun _ _ _ h => h) (Or.inl ⟨by rfl, ?y24⟩) (by assumption) ?z24
  case y24 =>
    intro w hSw
    (try dsimp only at hSw)
    first | (go_simp; done) | (go_simp; with_reducible rfl) | (go_simp; rfl)
  try simp only [Act.put, List.setIfInBounds_toArray, List.set_cons_zero, List.set_cons_succ]
  refine wpAnyH_take (i := 25) (oi := { dst := some 30, op := Op.pick (Operand.tmp 24) (Operand.tmp 29) (Operand.const (Value.bool false)), type := 4, pos := "law.go:231", after := #[{ on := 19, ground := Ground.data }, { on := 24, ground := Ground.data }], guard := none }) (v := .bool true) rfl (by kernel_rfl) (by kernel_rfl) (by kernel_rfl) (fun _ _ _ h => h) (Or.inl ⟨by rfl, ?y25⟩) (by assumption) ?z25
  case y25 =>
    intro w hSw
    (try dsimp only at hSw)
    first | (go_simp; done) | (go_simp; with_reducible rfl) | (go_simp; rfl)
  try simp only [Act.put, List.setIfInBounds_toArray, List.set_cons_zero, List.set_cons_succ]
  refine wpAnyH_take (i := 26) (oi := { dst := some 31, op := Op.move (Operand.tmp 30), type := 4, pos := "law.go:231", after := #[{ on := 25, ground := Ground.data }, { on := 23, ground := Ground.chain }], guard := none }) (v := .bool true) rfl (by kernel_rfl) (by kernel_rfl) (by kernel_rfl) (fun _ _ _ h => h) (Or.inl ⟨by rfl, ?y26⟩) (by assumption) ?z26
  case y26 =>
    intro w hSw
    (try dsimp only at hSw)
    first | (go_simp; done) | (go_simp; with_reducible rfl) | (go_simp; rfl)
  try simp only [Act.put, List.setIfInBounds_toArray, List.set_cons_zero, List.set_cons_succ]
  refine wpAnyH_take (i := 27) (oi := { dst := some 32, op := Op.move (Operand.tmp 0), type := 41, pos := "law.go:231", after := #[{ on := 26, ground := Ground.guard }], guard := some (26, true) }) (v := .pointer (some ⟨bv, 0, none⟩)) rfl (by kernel_rfl) (by kernel_rfl) (by kernel_rfl) (fun _ _ _ h => h) (Or.inl ⟨by rfl, ?y27⟩) (by assumption) ?z27
  case y27 =>
    intro w hSw
    (try dsimp only at hSw)
    first | (go_simp; done) | (go_simp; with_reducible rfl) | (go_simp; rfl)
  try simp only [Act.put, List.setIfInBounds_toArray, List.set_cons_zero, List.set_cons_succ]
  refine wpAnyH_take (i := 29) (oi := { dst := some 34, op := Op.load 53 (Operand.tmp 3), type := 53, pos := "law.go:231", after := #[{ on := 26, ground := Ground.guard }], guard := some (26, true) }) (v := .agg C) rfl (by kernel_rfl) (by kernel_rfl) (by kernel_rfl) (fun _ _ _ h => h) (yl53 C r _ rfl rfl (fun _ h => h.2.1) h25) (by assumption) ?z29
  try simp only [Act.put, List.setIfInBounds_toArray, List.set_cons_zero, List.set_cons_succ]
  refine wpAnyH_ready (rs := [28]) (by kernel_rfl) (by simp) ?_
  refine AllReadyH.cons (o := { dst := some 33, op := Op.call { callee := Callee.value (Operand.func 47), args := #[Operand.tmp 32], argTypes := #[41] }, type := 28, pos := "law.go:231", after := #[{ on := 27, ground := Ground.data }, { on := 26, ground := Ground.chain }, { on := 26, ground := Ground.guard }], guard := some (26, true) }) rfl (fun K hK => ?_) AllReadyH.nil
  first | (go_at_call 47; refine (show Calls _ _ _ _ _ from HRw.out _ (HUP.out _ hcur)).mono ?_; rintro e a1 ⟨v1, rfl, hs1, hb1⟩; have hcur := hcur.trans (hb1.mono hcur.size)) | (go_simp; go_at_call 47; refine (show Calls _ _ _ _ _ from HRw.out _ (HUP.out _ hcur)).mono ?_; rintro e a1 ⟨v1, rfl, hs1, hb1⟩; have hcur := hcur.trans (hb1.mono hcur.size))
  refine hK.out _ _ (HKS.out _ hcur) (fun hHeld => ?_)
  clear hK K
  try simp only [Act.put, List.setIfInBounds_toArray, List.set_cons_zero, List.set_cons_succ]
  refine wpAnyH_ready (rs := [30]) (by kernel_rfl) (by simp) ?_
  refine AllReadyH.cons (o := { dst := some 35, op := Op.call { callee := Callee.value (Operand.func 48), args := #[Operand.tmp 34], argTypes := #[53] }, type := 28, pos := "law.go:231", after := #[{ on := 29, ground := Ground.data }, { on := 28, ground := Ground.chain }, { on := 26, ground := Ground.guard }], guard := some (26, true) }) rfl (fun K hK => ?_) AllReadyH.nil
  first | (go_at_call 48; refine (show Calls _ _ _ _ _ from HRw'.out _ (HUP.out _ hcur)).mono ?_; rintro e a1 ⟨v2, rfl, hs2, hb1⟩; have hs1 := hs1.on hb1; have hcur := hcur.trans (hb1.mono hcur.size)) | (go_simp; go_at_call 48; refine (show Calls _ _ _ _ _ from HRw'.out _ (HUP.out _ hcur)).mono ?_; rintro e a1 ⟨v2, rfl, hs2, hb1⟩; have hs1 := hs1.on hb1; have hcur := hcur.trans (hb1.mono hcur.size))
  refine hK.out _ _ (HKS.out _ hcur) (fun hHeld => ?_)
  clear hK K
  try simp only [Act.put, List.setIfInBounds_toArray, List.set_cons_zero, List.set_cons_succ]
  refine wpAnyH_ready (rs := [31]) (by kernel_rfl) (by simp) ?_
  refine AllReadyH.cons (o := { dst := some 36, op := Op.call { callee := Callee.value (Operand.func 34), args := #[Operand.tmp 33, Operand.tmp 35], argTypes := #[28, 28] }, type := 4, pos := "law.go:231", after := #[{ on := 28, ground := Ground.data }, { on := 30, ground := Ground.data }, { on := 30, ground := Ground.chain }, { on := 26, ground := Ground.guard }], guard := some (26, true) }) rfl (fun K hK => ?_) AllReadyH.nil
  first | (go_at_call 34; refine (show Calls _ _ _ _ _ from st_row ts ht _ _ _ hs1 hs2).mono ?_; rintro e a1 ⟨rfl, hb1⟩; have hcur := hcur.trans (hb1.mono hcur.size)) | (go_simp; go_at_call 34; refine (show Calls _ _ _ _ _ from st_row ts ht _ _ _ hs1 hs2).mono ?_; rintro e a1 ⟨rfl, hb1⟩; have hcur := hcur.trans (hb1.mono hcur.size))
  refine hK.out _ _ (HKS.out _ hcur) (fun hHeld => ?_)
  clear hK K
  try simp only [Act.put, List.setIfInBounds_toArray, List.set_cons_zero, List.set_cons_succ]
  refine wpAnyH_take (i := 32) (oi := { dst := some 37, op := Op.pick (Operand.tmp 31) (Operand.tmp 36) (Operand.const (Value.bool false)), type := 4, pos := "law.go:231", after := #[{ on := 26, ground := Ground.data }, { on := 31, ground := Ground.data }], guard := none }) (v := .bool true) rfl (by kernel_rfl) (by kernel_rfl) (by kernel_rfl) (fun _ _ _ h => h) (Or.inl ⟨by rfl, ?y32⟩) (by assumption) ?z32
  case y32 =>
    intro w hSw
    (try dsimp only at hSw)
    first | (go_simp; done) | (go_simp; with_reducible rfl) | (go_simp; rfl)
  try simp only [Act.put, List.setIfInBounds_toArray, List.set_cons_zero, List.set_cons_succ]
  refine wpAnyH_take (i := 33) (oi := { dst := some 4, op := Op.assign (Operand.tmp 37), type := 4, pos := "law.go:231", after := #[{ on := 32, ground := Ground.data }, { on := 31, ground := Ground.chain }, { on := 0, ground := Ground.phase }, { on := 1, ground := Ground.phase }, { on := 2, ground := Ground.phase }, { on := 3, ground := Ground.phase }, { on := 4, ground := Ground.phase }, { on := 5, ground := Ground.phase }, { on := 6, ground := Ground.phase }, { on := 7, ground := Ground.phase }, { on := 8, ground := Ground.phase }, { on := 9, ground := Ground.phase }, { on := 10, ground := Ground.phase }, { on := 11, ground := Ground.phase }, { on := 12, ground := Ground.phase }, { on := 13, ground := Ground.phase }, { on := 14, ground := Ground.phase }, { on := 15, ground := Ground.phase }, { on := 16, ground := Ground.phase }, { on := 17, ground := Ground.phase }, { on := 18, ground := Ground.phase }, { on := 19, ground := Ground.phase }, { on := 20, ground := Ground.phase }, { on := 21, ground := Ground.phase }, { on := 22, ground := Ground.phase }, { on := 23, ground := Ground.phase }, { on := 24, ground := Ground.phase }, { on := 25, ground := Ground.phase }, { on := 26, ground := Ground.phase }, { on := 27, ground := Ground.phase }, { on := 28, ground := Ground.phase }, { on := 29, ground := Ground.phase }, { on := 30, ground := Ground.phase }, { on := 31, ground := Ground.phase }, { on := 32, ground := Ground.phase }], guard := none }) (v := .bool true) rfl (by kernel_rfl) (by kernel_rfl) (by kernel_rfl) (fun _ _ _ h => h) (Or.inl ⟨by rfl, ?y33⟩) (by assumption) ?z33
  case y33 =>
    intro w hSw
    (try dsimp only at hSw)
    first | (go_simp; done) | (go_simp; with_reducible rfl) | (go_simp; rfl)
  try simp only [Act.put, List.setIfInBounds_toArray, List.set_cons_zero, List.set_cons_succ]
  refine wpAnyH_done (by kernel_rfl) ?_ _
  go_wp2
  go_ret
  exact ⟨rfl, HUP.out _ hcur⟩
end Go.Proofs.YtfkcpilkhdbpoaaGreatDoor.V
namespace Go.Proofs.YtfkcpilkhdbpoaaGreatDoor.V
open Go.RowKit
set_option linter.unusedVariables false
set_option linter.unusedSimpArgs false
/-- The one step of the script: its cells. -/
def OPC (O : Array Value) : Prop := O.size = 19 ∧ O[0]? = some (.int .i64 13) ∧ O[1]? = some (.slice none 0 0) ∧ O[4]? = some (.int .i64 0) ∧ O[5]? = some (.int .i64 5) ∧ O[6]? = some (.bool false) ∧ O[7]? = some (.int .i64 0) ∧ O[8]? = some (.int .i64 0) ∧ O[9]? = some (.bool false) ∧ O[10]? = some (.int .i64 0) ∧ O[11]? = some (.int .i64 0) ∧ O[12]? = some (.bool false) ∧ O[13]? = some (.string ⟨#[]⟩) ∧ O[14]? = some (.int .i64 0) ∧ O[15]? = some (.bool false) ∧ O[16]? = some (.string ⟨#[]⟩) ∧ O[17]? = some (.int .i64 0) ∧ O[18]? = some (.bool false)
theorem i36 : (Tryz.prog.info? 36).map (·.size) = some 19 := by kernel_rfl
def AnsV (f : Nat) (xs : Array Value) (mk : Option Addr → Nat → Value) (w : World) : Prop := ∀ W, Below w.heap.size w W → Calls Tryz.prog f xs W fun e w' => ∃ q c, e = .returned (mk q c) ∧ Below W.heap.size W w'
theorem Ans.v {f : Nat} {xs : Array Value} {mk : Option Addr → Nat → Value} {w : World} (q : Option Addr) (c : Nat) (h : Ans f xs (mk q c) w) : AnsV f xs mk w := fun W hW => (h W hW).mono (by
  rintro e w' ⟨rfl, hb⟩
  exact ⟨q, c, rfl, hb⟩)
theorem Ans.on {f : Nat} {xs : Array Value} {v : Value} {w w' : World} (h : Ans f xs v w) (hb : Below w.heap.size w w') : Ans f xs v w' := fun W hW => h W (hb.trans (hW.mono hb.size))
theorem AnsV.on {f : Nat} {xs : Array Value} {v : Option Addr → Nat → Value} {w w' : World} (h : AnsV f xs v w) (hb : Below w.heap.size w w') : AnsV f xs v w' := fun W hW => h W (hb.trans (hW.mono hb.size))
theorem AnsT.on {f : Nat} {xs : Array Value} {v : List ByteArray} {w w' : World} (h : AnsT f xs v w) (hb : Below w.heap.size w w') : AnsT f xs v w' := fun W hW => h W (hb.trans (hW.mono hb.size))
theorem one_nil (w : World) : Calls Tryz.prog 28 #[.slice none 0 0] w fun e w' => e = .returned (.string ⟨#[]⟩) ∧ Below w.heap.size w w' := by
  go_enter Tryz.func28, Tryz.ntmps28
  go_wp2
  go_returns
  exact ⟨rfl, Below.refl _ _⟩
theorem ldR {ops : Array Oper} {rest : List Oper} {op : Oper} {a : Act} {w : World} {Q : Exit → Act → World → Prop} (C : Array Value) (r : Nat) (x : Operand) (hw : Region.wanted op (yielded ops a.tmps) = true) (ho : op.op = .load 53 x) (hx : a.eval x = .pointer (some ⟨r, 0, none⟩)) (hc : w.rangeAt r 0 C.toList) (h25 : C.size = 25) (h : wpList Tryz.prog ops Q rest (a.put op.dst (.agg C)) w) : wpList Tryz.prog ops Q (op :: rest) a w :=
  BigFrame.wpList_want hw fun K hK => wp_load_mid _ x ho r 0 hx C.toList _ hc Tryz.underlying53 rfl (by rw [Array.length_toList, h25]; exact i53) (by rw [Array.toArray_toList]; exact hK _ _ h)
theorem ldO {ops : Array Oper} {rest : List Oper} {op : Oper} {a : Act} {w : World} {Q : Exit → Act → World → Prop} (C : Array Value) (r : Nat) (x : Operand) (hw : Region.wanted op (yielded ops a.tmps) = true) (ho : op.op = .load 36 x) (hx : a.eval x = .pointer (some ⟨r, 0, none⟩)) (hc : w.rangeAt r 0 C.toList) (h19 : C.size = 19) (h : wpList Tryz.prog ops Q rest (a.put op.dst (.agg C)) w) : wpList Tryz.prog ops Q (op :: rest) a w :=
  BigFrame.wpList_want hw fun K hK => wp_load_mid _ x ho r 0 hx C.toList _ hc Tryz.underlying36 rfl (by rw [Array.length_toList, h19]; exact i36) (by rw [Array.toArray_toList]; exact hK _ _ h)
/-- What a value answers: the program's (P), the document's (D). -/
structure PA (bv : Nat) (eT eA eR eS eH eZ eG : Int) (w : World) : Prop where
  qText : Ans 49 #[.pointer (some ⟨bv, 0, none⟩)] (.tuple #[.string ⟨#[]⟩, .int .i64 eT]) w
  qAt : Ans 51 #[.pointer (some ⟨bv, 0, none⟩), .int .i64 0] (.tuple #[.string ⟨#[]⟩, .int .i64 eA]) w
  qRange : AnsV 53 #[.pointer (some ⟨bv, 0, none⟩), .int .i64 0, .int .i64 5] (fun q c => .tuple #[.slice q 0 c, .int .i64 eR]) w
  qHas : Ans 21 #[.pointer (some ⟨bv, 0, none⟩), .string ⟨#[]⟩] (.tuple #[.bool false, .int .i64 eS]) w
  qMembers : AnsV 56 #[.pointer (some ⟨bv, 0, none⟩)] (fun q c => .tuple #[.slice q 0 c, .int .i64 eS]) w
  qField : Ans 23 #[.pointer (some ⟨bv, 0, none⟩), .string ⟨#[]⟩] (.tuple #[.string ⟨#[]⟩, .bool false, .int .i64 eH]) w
  qFields : AnsV 59 #[.pointer (some ⟨bv, 0, none⟩)] (fun q c => .tuple #[.slice q 0 c, .int .i64 eH]) w
  qScore : Ans 119 #[.pointer (some ⟨bv, 0, none⟩), .string ⟨#[]⟩] (.tuple #[.int .i64 0, .bool false, .int .i64 eZ]) w
  qRank : Ans 121 #[.pointer (some ⟨bv, 0, none⟩), .string ⟨#[]⟩, .bool false] (.tuple #[.int .i64 0, .bool false, .int .i64 eZ]) w
  qByRank : AnsV 123 #[.pointer (some ⟨bv, 0, none⟩), .int .i64 0, .int .i64 5, .bool false] (fun q c => .tuple #[.slice q 0 c, .int .i64 eZ]) w
  qByScore : AnsV 126 #[.pointer (some ⟨bv, 0, none⟩), .agg #[.int .i64 0, .int .i64 0, .bool false], .agg #[.int .i64 0, .int .i64 0, .bool false], .bool false, .int .i64 0, .int .i64 5] (fun q c => .tuple #[.slice q 0 c, .int .i64 eZ]) w
  qByLex : AnsV 128 #[.pointer (some ⟨bv, 0, none⟩), .agg #[.string ⟨#[]⟩, .int .i64 0, .bool false], .agg #[.string ⟨#[]⟩, .int .i64 0, .bool false], .bool false, .int .i64 0, .int .i64 5] (fun q c => .tuple #[.slice q 0 c, .int .i64 eZ]) w
  qScan : AnsV 130 #[.pointer (some ⟨bv, 0, none⟩), .int .i64 0, .int .i64 5] (fun q c => .tuple #[.slice q 0 c, .int .i64 0, .int .i64 eG]) w
structure DA (C : Array Value) (eT eA eR eS eH eZ eG : Int) (w : World) : Prop where
  qText : Ans 50 #[.agg C] (.tuple #[.string ⟨#[]⟩, .int .i64 eT]) w
  qAt : Ans 52 #[.agg C, .int .i64 0] (.tuple #[.string ⟨#[]⟩, .int .i64 eA]) w
  qRange : AnsV 54 #[.agg C, .int .i64 0, .int .i64 5] (fun q c => .tuple #[.slice q 0 c, .int .i64 eR]) w
  qHas : Ans 55 #[.agg C, .string ⟨#[]⟩] (.tuple #[.bool false, .int .i64 eS]) w
  qMembers : AnsV 57 #[.agg C] (fun q c => .tuple #[.slice q 0 c, .int .i64 eS]) w
  qField : Ans 58 #[.agg C, .string ⟨#[]⟩] (.tuple #[.string ⟨#[]⟩, .bool false, .int .i64 eH]) w
  qFields : AnsV 60 #[.agg C] (fun q c => .tuple #[.slice q 0 c, .int .i64 eH]) w
  qScore : Ans 120 #[.agg C, .string ⟨#[]⟩] (.tuple #[.int .i64 0, .bool false, .int .i64 eZ]) w
  qRank : Ans 122 #[.agg C, .string ⟨#[]⟩, .bool false] (.tuple #[.int .i64 0, .bool false, .int .i64 eZ]) w
  qByRank : AnsV 124 #[.agg C, .int .i64 0, .int .i64 5, .bool false] (fun q c => .tuple #[.slice q 0 c, .int .i64 eZ]) w
  qByScore : AnsV 127 #[.agg C, .agg #[.int .i64 0, .int .i64 0, .bool false], .agg #[.int .i64 0, .int .i64 0, .bool false], .bool false, .int .i64 0, .int .i64 5] (fun q c => .tuple #[.slice q 0 c, .int .i64 eZ]) w
  qByLex : AnsV 129 #[.agg C, .agg #[.string ⟨#[]⟩, .int .i64 0, .bool false], .agg #[.string ⟨#[]⟩, .int .i64 0, .bool false], .bool false, .int .i64 0, .int .i64 5] (fun q c => .tuple #[.slice q 0 c, .int .i64 eZ]) w
  qScan : AnsV 131 #[.agg C, .int .i64 0, .int .i64 5] (fun q c => .tuple #[.slice q 0 c, .int .i64 0, .int .i64 eG]) w
theorem PA.on {bv : Nat} {eT eA eR eS eH eZ eG : Int} {w w' : World} (h : PA bv eT eA eR eS eH eZ eG w) (hb : Below w.heap.size w w') : PA bv eT eA eR eS eH eZ eG w' := ⟨h.qText.on hb, h.qAt.on hb, h.qRange.on hb, h.qHas.on hb, h.qMembers.on hb, h.qField.on hb, h.qFields.on hb, h.qScore.on hb, h.qRank.on hb, h.qByRank.on hb, h.qByScore.on hb, h.qByLex.on hb, h.qScan.on hb⟩
theorem DA.on {C : Array Value} {eT eA eR eS eH eZ eG : Int} {w w' : World} (h : DA C eT eA eR eS eH eZ eG w) (hb : Below w.heap.size w w') : DA C eT eA eR eS eH eZ eG w' := ⟨h.qText.on hb, h.qAt.on hb, h.qRange.on hb, h.qHas.on hb, h.qMembers.on hb, h.qField.on hb, h.qFields.on hb, h.qScore.on hb, h.qRank.on hb, h.qByRank.on hb, h.qByScore.on hb, h.qByLex.on hb, h.qScan.on hb⟩
set_option maxHeartbeats 8000000 in
set_option maxRecDepth 20000 in
theorem ordered_ok (bv : Nat) (C O : Array Value) (eT eA eR eS eH eZ eG : Int) (h25 : C.size = 25) (hO : OPC O) (w : World) (hp : PA bv eT eA eR eS eH eZ eG w) (hd : DA C eT eA eR eS eH eZ eG w) :
    Calls Tryz.prog 62 #[.pointer (some ⟨bv, 0, none⟩), .agg C, .agg O] w fun e w' => e = .returned (.bool true) ∧ Below w.heap.size w w' := by
  have HP : Hid _ := hp
  have HD : Hid _ := hd
  obtain ⟨W1, hW1⟩ : ∃ W1, W1 = (w.alloc (.cells C 53)).alloc (.cells O 36) := ⟨_, rfl⟩
  obtain ⟨r, hr⟩ : ∃ r, w.heap.size = r := ⟨_, rfl⟩
  obtain ⟨ro, hro⟩ : ∃ ro, w.heap.size + 1 = ro := ⟨_, rfl⟩
  have h19 : O.size = 19 := hO.1
  have HUP : Hid (∀ W, Below W1.heap.size W1 W → Below w.heap.size w W) := fun W hW => by
    have h1 : Below w.heap.size w W1 := by rw [hW1]; exact (two_rows (Below.refl _ _)).1
    exact h1.trans (hW.mono h1.size)
  have HF : Hid (∀ W, Below W1.heap.size W1 W → W.rangeAt r 0 C.toList ∧ W.rangeAt ro 0 O.toList ∧ W.cell? ⟨ro, 1, none⟩ = some (.slice none 0 0) ∧ W.cell? ⟨ro, 4, none⟩ = some (.int .i64 0) ∧ W.cell? ⟨ro, 5, none⟩ = some (.int .i64 5) ∧ W.cell? ⟨ro, 6, none⟩ = some (.bool false) ∧ W.cell? ⟨ro, 7, none⟩ = some (.int .i64 0) ∧ W.cell? ⟨ro, 8, none⟩ = some (.int .i64 0) ∧ W.cell? ⟨ro, 9, none⟩ = some (.bool false) ∧ W.cell? ⟨ro, 10, none⟩ = some (.int .i64 0) ∧ W.cell? ⟨ro, 11, none⟩ = some (.int .i64 0) ∧ W.cell? ⟨ro, 12, none⟩ = some (.bool false) ∧ W.cell? ⟨ro, 13, none⟩ = some (.string ⟨#[]⟩) ∧ W.cell? ⟨ro, 14, none⟩ = some (.int .i64 0) ∧ W.cell? ⟨ro, 15, none⟩ = some (.bool false) ∧ W.cell? ⟨ro, 16, none⟩ = some (.string ⟨#[]⟩) ∧ W.cell? ⟨ro, 17, none⟩ = some (.int .i64 0) ∧ W.cell? ⟨ro, 18, none⟩ = some (.bool false)) := fun W hW => by
    have hk : W1.heap[r]? = some (.cells C 53) ∧ W1.heap[ro]? = some (.cells O 36) := by rw [hW1, ← hr, ← hro]; exact (two_rows (Below.refl _ _)).2
    have k1 := keep_row hk.1 hW
    have k2 := keep_row hk.2 hW
    obtain ⟨_, _, g1, g4, g5, g6, g7, g8, g9, g10, g11, g12, g13, g14, g15, g16, g17, g18⟩ := hO
    exact ⟨fun j v hv => by rw [cellC k1]; simpa using hv, fun j v hv => by rw [cellC k2]; simpa using hv, (cellC k2).trans g1, (cellC k2).trans g4, (cellC k2).trans g5, (cellC k2).trans g6, (cellC k2).trans g7, (cellC k2).trans g8, (cellC k2).trans g9, (cellC k2).trans g10, (cellC k2).trans g11, (cellC k2).trans g12, (cellC k2).trans g13, (cellC k2).trans g14, (cellC k2).trans g15, (cellC k2).trans g16, (cellC k2).trans g17, (cellC k2).trans g18⟩
  have HRR : Hid (w.heap.size = r ∧ w.heap.size + 1 = ro) := ⟨hr, hro⟩
  have HB0 : Hid (Below W1.heap.size W1 W1) := Below.refl _ _
  clear hp hd hO hr hro
  go_enter Tryz.func62, Tryz.ntmps62
  go_upto_region 1 with fail
  rw [← hW1, HRR.out.2, HRR.out.1]
  clear hW1
  obtain ⟨hr, ho, o1, o4, o5, o6, o7, o8, o9, o10, o11, o12, o13, o14, o15, o16, o17, o18⟩ := HF.out _ HB0.out
  go_wp2_with (first | refine ldR C r _ (by rfl) rfl rfl hr h25 ?_ | refine ldO O ro _ (by rfl) rfl rfl ho h19 ?_)
  refine (show Calls _ _ _ _ _ from one_nil _).mono ?_
  rintro e w1 ⟨rfl, hb⟩
  have HB1 : Hid (Below W1.heap.size W1 w1) := HB0.out.trans (hb.mono HB0.out.size)
  clear hb hr ho o1 o4 o5 o6 o7 o8 o9 o10 o11 o12 o13 o14 o15 o16 o17 o18
  obtain ⟨hr, ho, o1, o4, o5, o6, o7, o8, o9, o10, o11, o12, o13, o14, o15, o16, o17, o18⟩ := HF.out _ HB1.out
  go_wp2_with (first | refine ldR C r _ (by rfl) rfl rfl hr h25 ?_ | refine ldO O ro _ (by rfl) rfl rfl ho h19 ?_)
  refine (show Calls _ _ _ _ _ from HP.out.qScore _ (HUP.out _ HB1.out)).mono ?_
  rintro e w2 ⟨rfl, hb⟩
  have HB2 : Hid (Below W1.heap.size W1 w2) := HB1.out.trans (hb.mono HB1.out.size)
  clear hb hr ho o1 o4 o5 o6 o7 o8 o9 o10 o11 o12 o13 o14 o15 o16 o17 o18
  obtain ⟨hr, ho, o1, o4, o5, o6, o7, o8, o9, o10, o11, o12, o13, o14, o15, o16, o17, o18⟩ := HF.out _ HB2.out
  go_wp2_with (first | refine ldR C r _ (by rfl) rfl rfl hr h25 ?_ | refine ldO O ro _ (by rfl) rfl rfl ho h19 ?_)
  refine (show Calls _ _ _ _ _ from HD.out.qScore _ (HUP.out _ HB2.out)).mono ?_
  rintro e w3 ⟨rfl, hb⟩
  have HB3 : Hid (Below W1.heap.size W1 w3) := HB2.out.trans (hb.mono HB2.out.size)
  clear hb hr ho o1 o4 o5 o6 o7 o8 o9 o10 o11 o12 o13 o14 o15 o16 o17 o18
  obtain ⟨hr, ho, o1, o4, o5, o6, o7, o8, o9, o10, o11, o12, o13, o14, o15, o16, o17, o18⟩ := HF.out _ HB3.out
  go_wp2_with (first | refine ldR C r _ (by rfl) rfl rfl hr h25 ?_ | refine ldO O ro _ (by rfl) rfl rfl ho h19 ?_)
  refine (show Calls _ _ _ _ _ from HP.out.qRank _ (HUP.out _ HB3.out)).mono ?_
  rintro e w4 ⟨rfl, hb⟩
  have HB4 : Hid (Below W1.heap.size W1 w4) := HB3.out.trans (hb.mono HB3.out.size)
  clear hb hr ho o1 o4 o5 o6 o7 o8 o9 o10 o11 o12 o13 o14 o15 o16 o17 o18
  obtain ⟨hr, ho, o1, o4, o5, o6, o7, o8, o9, o10, o11, o12, o13, o14, o15, o16, o17, o18⟩ := HF.out _ HB4.out
  go_wp2_with (first | refine ldR C r _ (by rfl) rfl rfl hr h25 ?_ | refine ldO O ro _ (by rfl) rfl rfl ho h19 ?_)
  refine (show Calls _ _ _ _ _ from HD.out.qRank _ (HUP.out _ HB4.out)).mono ?_
  rintro e w5 ⟨rfl, hb⟩
  have HB5 : Hid (Below W1.heap.size W1 w5) := HB4.out.trans (hb.mono HB4.out.size)
  clear hb hr ho o1 o4 o5 o6 o7 o8 o9 o10 o11 o12 o13 o14 o15 o16 o17 o18
  obtain ⟨hr, ho, o1, o4, o5, o6, o7, o8, o9, o10, o11, o12, o13, o14, o15, o16, o17, o18⟩ := HF.out _ HB5.out
  go_wp2_with (first | refine ldR C r _ (by rfl) rfl rfl hr h25 ?_ | refine ldO O ro _ (by rfl) rfl rfl ho h19 ?_)
  refine (show Calls _ _ _ _ _ from HP.out.qByRank _ (HUP.out _ HB5.out)).mono ?_
  rintro e w6 ⟨q19, c19, rfl, hb⟩
  have HB6 : Hid (Below W1.heap.size W1 w6) := HB5.out.trans (hb.mono HB5.out.size)
  clear hb hr ho o1 o4 o5 o6 o7 o8 o9 o10 o11 o12 o13 o14 o15 o16 o17 o18
  obtain ⟨hr, ho, o1, o4, o5, o6, o7, o8, o9, o10, o11, o12, o13, o14, o15, o16, o17, o18⟩ := HF.out _ HB6.out
  go_wp2_with (first | refine ldR C r _ (by rfl) rfl rfl hr h25 ?_ | refine ldO O ro _ (by rfl) rfl rfl ho h19 ?_)
  refine (show Calls _ _ _ _ _ from HD.out.qByRank _ (HUP.out _ HB6.out)).mono ?_
  rintro e w7 ⟨q20, c20, rfl, hb⟩
  have HB7 : Hid (Below W1.heap.size W1 w7) := HB6.out.trans (hb.mono HB6.out.size)
  clear hb hr ho o1 o4 o5 o6 o7 o8 o9 o10 o11 o12 o13 o14 o15 o16 o17 o18
  obtain ⟨hr, ho, o1, o4, o5, o6, o7, o8, o9, o10, o11, o12, o13, o14, o15, o16, o17, o18⟩ := HF.out _ HB7.out
  go_wp2_with (first | refine ldR C r _ (by rfl) rfl rfl hr h25 ?_ | refine ldO O ro _ (by rfl) rfl rfl ho h19 ?_)
  refine (show Calls _ _ _ _ _ from ss_nil _ _ _ _ _).mono ?_
  rintro e w8 ⟨rfl, hb⟩
  have HB8 : Hid (Below W1.heap.size W1 w8) := HB7.out.trans (hb.mono HB7.out.size)
  clear hb hr ho o1 o4 o5 o6 o7 o8 o9 o10 o11 o12 o13 o14 o15 o16 o17 o18
  obtain ⟨hr, ho, o1, o4, o5, o6, o7, o8, o9, o10, o11, o12, o13, o14, o15, o16, o17, o18⟩ := HF.out _ HB8.out
  go_wp2_with (first | refine ldR C r _ (by rfl) rfl rfl hr h25 ?_ | refine ldO O ro _ (by rfl) rfl rfl ho h19 ?_)
  refine (show Calls _ _ _ _ _ from HP.out.qByScore _ (HUP.out _ HB8.out)).mono ?_
  rintro e w9 ⟨q21, c21, rfl, hb⟩
  have HB9 : Hid (Below W1.heap.size W1 w9) := HB8.out.trans (hb.mono HB8.out.size)
  clear hb hr ho o1 o4 o5 o6 o7 o8 o9 o10 o11 o12 o13 o14 o15 o16 o17 o18
  obtain ⟨hr, ho, o1, o4, o5, o6, o7, o8, o9, o10, o11, o12, o13, o14, o15, o16, o17, o18⟩ := HF.out _ HB9.out
  go_wp2_with (first | refine ldR C r _ (by rfl) rfl rfl hr h25 ?_ | refine ldO O ro _ (by rfl) rfl rfl ho h19 ?_)
  refine (show Calls _ _ _ _ _ from HD.out.qByScore _ (HUP.out _ HB9.out)).mono ?_
  rintro e w10 ⟨q22, c22, rfl, hb⟩
  have HB10 : Hid (Below W1.heap.size W1 w10) := HB9.out.trans (hb.mono HB9.out.size)
  clear hb hr ho o1 o4 o5 o6 o7 o8 o9 o10 o11 o12 o13 o14 o15 o16 o17 o18
  obtain ⟨hr, ho, o1, o4, o5, o6, o7, o8, o9, o10, o11, o12, o13, o14, o15, o16, o17, o18⟩ := HF.out _ HB10.out
  go_wp2_with (first | refine ldR C r _ (by rfl) rfl rfl hr h25 ?_ | refine ldO O ro _ (by rfl) rfl rfl ho h19 ?_)
  refine (show Calls _ _ _ _ _ from ss_nil _ _ _ _ _).mono ?_
  rintro e w11 ⟨rfl, hb⟩
  have HB11 : Hid (Below W1.heap.size W1 w11) := HB10.out.trans (hb.mono HB10.out.size)
  clear hb hr ho o1 o4 o5 o6 o7 o8 o9 o10 o11 o12 o13 o14 o15 o16 o17 o18
  obtain ⟨hr, ho, o1, o4, o5, o6, o7, o8, o9, o10, o11, o12, o13, o14, o15, o16, o17, o18⟩ := HF.out _ HB11.out
  go_wp2_with (first | refine ldR C r _ (by rfl) rfl rfl hr h25 ?_ | refine ldO O ro _ (by rfl) rfl rfl ho h19 ?_)
  refine (show Calls _ _ _ _ _ from HP.out.qByLex _ (HUP.out _ HB11.out)).mono ?_
  rintro e w12 ⟨q23, c23, rfl, hb⟩
  have HB12 : Hid (Below W1.heap.size W1 w12) := HB11.out.trans (hb.mono HB11.out.size)
  clear hb hr ho o1 o4 o5 o6 o7 o8 o9 o10 o11 o12 o13 o14 o15 o16 o17 o18
  obtain ⟨hr, ho, o1, o4, o5, o6, o7, o8, o9, o10, o11, o12, o13, o14, o15, o16, o17, o18⟩ := HF.out _ HB12.out
  go_wp2_with (first | refine ldR C r _ (by rfl) rfl rfl hr h25 ?_ | refine ldO O ro _ (by rfl) rfl rfl ho h19 ?_)
  refine (show Calls _ _ _ _ _ from HD.out.qByLex _ (HUP.out _ HB12.out)).mono ?_
  rintro e w13 ⟨q24, c24, rfl, hb⟩
  have HB13 : Hid (Below W1.heap.size W1 w13) := HB12.out.trans (hb.mono HB12.out.size)
  clear hb hr ho o1 o4 o5 o6 o7 o8 o9 o10 o11 o12 o13 o14 o15 o16 o17 o18
  obtain ⟨hr, ho, o1, o4, o5, o6, o7, o8, o9, o10, o11, o12, o13, o14, o15, o16, o17, o18⟩ := HF.out _ HB13.out
  go_wp2_with (first | refine ldR C r _ (by rfl) rfl rfl hr h25 ?_ | refine ldO O ro _ (by rfl) rfl rfl ho h19 ?_)
  refine (show Calls _ _ _ _ _ from HP.out.qScan _ (HUP.out _ HB13.out)).mono ?_
  rintro e w14 ⟨q25, c25, rfl, hb⟩
  have HB14 : Hid (Below W1.heap.size W1 w14) := HB13.out.trans (hb.mono HB13.out.size)
  clear hb hr ho o1 o4 o5 o6 o7 o8 o9 o10 o11 o12 o13 o14 o15 o16 o17 o18
  obtain ⟨hr, ho, o1, o4, o5, o6, o7, o8, o9, o10, o11, o12, o13, o14, o15, o16, o17, o18⟩ := HF.out _ HB14.out
  go_wp2_with (first | refine ldR C r _ (by rfl) rfl rfl hr h25 ?_ | refine ldO O ro _ (by rfl) rfl rfl ho h19 ?_)
  refine (show Calls _ _ _ _ _ from HD.out.qScan _ (HUP.out _ HB14.out)).mono ?_
  rintro e w15 ⟨q26, c26, rfl, hb⟩
  have HB15 : Hid (Below W1.heap.size W1 w15) := HB14.out.trans (hb.mono HB14.out.size)
  clear hb hr ho o1 o4 o5 o6 o7 o8 o9 o10 o11 o12 o13 o14 o15 o16 o17 o18
  obtain ⟨hr, ho, o1, o4, o5, o6, o7, o8, o9, o10, o11, o12, o13, o14, o15, o16, o17, o18⟩ := HF.out _ HB15.out
  go_wp2_with (first | refine ldR C r _ (by rfl) rfl rfl hr h25 ?_ | refine ldO O ro _ (by rfl) rfl rfl ho h19 ?_)
  refine (show Calls _ _ _ _ _ from ss_nil _ _ _ _ _).mono ?_
  rintro e w16 ⟨rfl, hb⟩
  have HB16 : Hid (Below W1.heap.size W1 w16) := HB15.out.trans (hb.mono HB15.out.size)
  clear hb hr ho o1 o4 o5 o6 o7 o8 o9 o10 o11 o12 o13 o14 o15 o16 o17 o18
  obtain ⟨hr, ho, o1, o4, o5, o6, o7, o8, o9, o10, o11, o12, o13, o14, o15, o16, o17, o18⟩ := HF.out _ HB16.out
  go_wp2_with (first | refine ldR C r _ (by rfl) rfl rfl hr h25 ?_ | refine ldO O ro _ (by rfl) rfl rfl ho h19 ?_)
  refine (show Calls _ _ _ _ _ from st_nil _ _ _ _ _).mono ?_
  rintro e w17 ⟨rfl, hb⟩
  have HB17 : Hid (Below W1.heap.size W1 w17) := HB16.out.trans (hb.mono HB16.out.size)
  clear hb hr ho o1 o4 o5 o6 o7 o8 o9 o10 o11 o12 o13 o14 o15 o16 o17 o18
  obtain ⟨hr, ho, o1, o4, o5, o6, o7, o8, o9, o10, o11, o12, o13, o14, o15, o16, o17, o18⟩ := HF.out _ HB17.out
  go_wp2
  go_ret
  exact ⟨rfl, HUP.out _ HB17.out⟩
end Go.Proofs.YtfkcpilkhdbpoaaGreatDoor.V
namespace Go.Proofs.YtfkcpilkhdbpoaaGreatDoor.V
open Go.RowKit
set_option linter.unusedVariables false
set_option linter.unusedSimpArgs false
set_option maxHeartbeats 8000000 in
set_option maxRecDepth 20000 in
theorem asked_ok (bv : Nat) (C O : Array Value) (eT eA eR eS eH eZ eG : Int) (h25 : C.size = 25) (hO : OPC O) (w : World) (hp : PA bv eT eA eR eS eH eZ eG w) (hd : DA C eT eA eR eS eH eZ eG w) :
    Calls Tryz.prog 13 #[.pointer (some ⟨bv, 0, none⟩), .agg C, .agg O] w fun e w' => e = .returned (.bool true) ∧ Below w.heap.size w w' := by
  have HP : Hid _ := hp
  have HD : Hid _ := hd
  have HOR : Hid (∀ W, Below w.heap.size w W → Calls Tryz.prog 62 #[.pointer (some ⟨bv, 0, none⟩), .agg C, .agg O] W fun e w' => e = .returned (.bool true) ∧ Below W.heap.size W w') := fun W hW => ordered_ok bv C O eT eA eR eS eH eZ eG h25 hO W (hp.on hW) (hd.on hW)
  obtain ⟨W1, hW1⟩ : ∃ W1, W1 = (w.alloc (.cells C 53)).alloc (.cells O 36) := ⟨_, rfl⟩
  obtain ⟨r, hr⟩ : ∃ r, w.heap.size = r := ⟨_, rfl⟩
  obtain ⟨ro, hro⟩ : ∃ ro, w.heap.size + 1 = ro := ⟨_, rfl⟩
  have h19 : O.size = 19 := hO.1
  have HUP : Hid (∀ W, Below W1.heap.size W1 W → Below w.heap.size w W) := fun W hW => by
    have h1 : Below w.heap.size w W1 := by rw [hW1]; exact (two_rows (Below.refl _ _)).1
    exact h1.trans (hW.mono h1.size)
  have HF : Hid (∀ W, Below W1.heap.size W1 W → W.rangeAt r 0 C.toList ∧ W.rangeAt ro 0 O.toList ∧ W.cell? ⟨ro, 1, none⟩ = some (.slice none 0 0) ∧ W.cell? ⟨ro, 4, none⟩ = some (.int .i64 0) ∧ W.cell? ⟨ro, 5, none⟩ = some (.int .i64 5) ∧ W.cell? ⟨ro, 6, none⟩ = some (.bool false) ∧ W.cell? ⟨ro, 7, none⟩ = some (.int .i64 0) ∧ W.cell? ⟨ro, 8, none⟩ = some (.int .i64 0) ∧ W.cell? ⟨ro, 9, none⟩ = some (.bool false) ∧ W.cell? ⟨ro, 10, none⟩ = some (.int .i64 0) ∧ W.cell? ⟨ro, 11, none⟩ = some (.int .i64 0) ∧ W.cell? ⟨ro, 12, none⟩ = some (.bool false) ∧ W.cell? ⟨ro, 13, none⟩ = some (.string ⟨#[]⟩) ∧ W.cell? ⟨ro, 14, none⟩ = some (.int .i64 0) ∧ W.cell? ⟨ro, 15, none⟩ = some (.bool false) ∧ W.cell? ⟨ro, 16, none⟩ = some (.string ⟨#[]⟩) ∧ W.cell? ⟨ro, 17, none⟩ = some (.int .i64 0) ∧ W.cell? ⟨ro, 18, none⟩ = some (.bool false)) := fun W hW => by
    have hk : W1.heap[r]? = some (.cells C 53) ∧ W1.heap[ro]? = some (.cells O 36) := by rw [hW1, ← hr, ← hro]; exact (two_rows (Below.refl _ _)).2
    have k1 := keep_row hk.1 hW
    have k2 := keep_row hk.2 hW
    obtain ⟨_, _, g1, g4, g5, g6, g7, g8, g9, g10, g11, g12, g13, g14, g15, g16, g17, g18⟩ := hO
    exact ⟨fun j v hv => by rw [cellC k1]; simpa using hv, fun j v hv => by rw [cellC k2]; simpa using hv, (cellC k2).trans g1, (cellC k2).trans g4, (cellC k2).trans g5, (cellC k2).trans g6, (cellC k2).trans g7, (cellC k2).trans g8, (cellC k2).trans g9, (cellC k2).trans g10, (cellC k2).trans g11, (cellC k2).trans g12, (cellC k2).trans g13, (cellC k2).trans g14, (cellC k2).trans g15, (cellC k2).trans g16, (cellC k2).trans g17, (cellC k2).trans g18⟩
  have HRR : Hid (w.heap.size = r ∧ w.heap.size + 1 = ro) := ⟨hr, hro⟩
  have HB0 : Hid (Below W1.heap.size W1 W1) := Below.refl _ _
  clear hp hd hO hr hro
  go_enter Tryz.func13, Tryz.ntmps13
  go_upto_region 1 with fail
  rw [← hW1, HRR.out.2, HRR.out.1]
  clear hW1
  obtain ⟨hr, ho, o1, o4, o5, o6, o7, o8, o9, o10, o11, o12, o13, o14, o15, o16, o17, o18⟩ := HF.out _ HB0.out
  go_wp2_with (first | refine ldR C r _ (by rfl) rfl rfl hr h25 ?_ | refine ldO O ro _ (by rfl) rfl rfl ho h19 ?_)
  refine (show Calls _ _ _ _ _ from one_nil _).mono ?_
  rintro e w1 ⟨rfl, hb⟩
  have HB1 : Hid (Below W1.heap.size W1 w1) := HB0.out.trans (hb.mono HB0.out.size)
  clear hb hr ho o1 o4 o5 o6 o7 o8 o9 o10 o11 o12 o13 o14 o15 o16 o17 o18
  obtain ⟨hr, ho, o1, o4, o5, o6, o7, o8, o9, o10, o11, o12, o13, o14, o15, o16, o17, o18⟩ := HF.out _ HB1.out
  go_wp2_with (first | refine ldR C r _ (by rfl) rfl rfl hr h25 ?_ | refine ldO O ro _ (by rfl) rfl rfl ho h19 ?_)
  refine (show Calls _ _ _ _ _ from HP.out.qText _ (HUP.out _ HB1.out)).mono ?_
  rintro e w2 ⟨rfl, hb⟩
  have HB2 : Hid (Below W1.heap.size W1 w2) := HB1.out.trans (hb.mono HB1.out.size)
  clear hb hr ho o1 o4 o5 o6 o7 o8 o9 o10 o11 o12 o13 o14 o15 o16 o17 o18
  obtain ⟨hr, ho, o1, o4, o5, o6, o7, o8, o9, o10, o11, o12, o13, o14, o15, o16, o17, o18⟩ := HF.out _ HB2.out
  go_wp2_with (first | refine ldR C r _ (by rfl) rfl rfl hr h25 ?_ | refine ldO O ro _ (by rfl) rfl rfl ho h19 ?_)
  refine (show Calls _ _ _ _ _ from HD.out.qText _ (HUP.out _ HB2.out)).mono ?_
  rintro e w3 ⟨rfl, hb⟩
  have HB3 : Hid (Below W1.heap.size W1 w3) := HB2.out.trans (hb.mono HB2.out.size)
  clear hb hr ho o1 o4 o5 o6 o7 o8 o9 o10 o11 o12 o13 o14 o15 o16 o17 o18
  obtain ⟨hr, ho, o1, o4, o5, o6, o7, o8, o9, o10, o11, o12, o13, o14, o15, o16, o17, o18⟩ := HF.out _ HB3.out
  go_wp2_with (first | refine ldR C r _ (by rfl) rfl rfl hr h25 ?_ | refine ldO O ro _ (by rfl) rfl rfl ho h19 ?_)
  refine (show Calls _ _ _ _ _ from HP.out.qAt _ (HUP.out _ HB3.out)).mono ?_
  rintro e w4 ⟨rfl, hb⟩
  have HB4 : Hid (Below W1.heap.size W1 w4) := HB3.out.trans (hb.mono HB3.out.size)
  clear hb hr ho o1 o4 o5 o6 o7 o8 o9 o10 o11 o12 o13 o14 o15 o16 o17 o18
  obtain ⟨hr, ho, o1, o4, o5, o6, o7, o8, o9, o10, o11, o12, o13, o14, o15, o16, o17, o18⟩ := HF.out _ HB4.out
  go_wp2_with (first | refine ldR C r _ (by rfl) rfl rfl hr h25 ?_ | refine ldO O ro _ (by rfl) rfl rfl ho h19 ?_)
  refine (show Calls _ _ _ _ _ from HD.out.qAt _ (HUP.out _ HB4.out)).mono ?_
  rintro e w5 ⟨rfl, hb⟩
  have HB5 : Hid (Below W1.heap.size W1 w5) := HB4.out.trans (hb.mono HB4.out.size)
  clear hb hr ho o1 o4 o5 o6 o7 o8 o9 o10 o11 o12 o13 o14 o15 o16 o17 o18
  obtain ⟨hr, ho, o1, o4, o5, o6, o7, o8, o9, o10, o11, o12, o13, o14, o15, o16, o17, o18⟩ := HF.out _ HB5.out
  go_wp2_with (first | refine ldR C r _ (by rfl) rfl rfl hr h25 ?_ | refine ldO O ro _ (by rfl) rfl rfl ho h19 ?_)
  refine (show Calls _ _ _ _ _ from HP.out.qRange _ (HUP.out _ HB5.out)).mono ?_
  rintro e w6 ⟨q5, c5, rfl, hb⟩
  have HB6 : Hid (Below W1.heap.size W1 w6) := HB5.out.trans (hb.mono HB5.out.size)
  clear hb hr ho o1 o4 o5 o6 o7 o8 o9 o10 o11 o12 o13 o14 o15 o16 o17 o18
  obtain ⟨hr, ho, o1, o4, o5, o6, o7, o8, o9, o10, o11, o12, o13, o14, o15, o16, o17, o18⟩ := HF.out _ HB6.out
  go_wp2_with (first | refine ldR C r _ (by rfl) rfl rfl hr h25 ?_ | refine ldO O ro _ (by rfl) rfl rfl ho h19 ?_)
  refine (show Calls _ _ _ _ _ from HD.out.qRange _ (HUP.out _ HB6.out)).mono ?_
  rintro e w7 ⟨q6, c6, rfl, hb⟩
  have HB7 : Hid (Below W1.heap.size W1 w7) := HB6.out.trans (hb.mono HB6.out.size)
  clear hb hr ho o1 o4 o5 o6 o7 o8 o9 o10 o11 o12 o13 o14 o15 o16 o17 o18
  obtain ⟨hr, ho, o1, o4, o5, o6, o7, o8, o9, o10, o11, o12, o13, o14, o15, o16, o17, o18⟩ := HF.out _ HB7.out
  go_wp2_with (first | refine ldR C r _ (by rfl) rfl rfl hr h25 ?_ | refine ldO O ro _ (by rfl) rfl rfl ho h19 ?_)
  refine (show Calls _ _ _ _ _ from st_nil _ _ _ _ _).mono ?_
  rintro e w8 ⟨rfl, hb⟩
  have HB8 : Hid (Below W1.heap.size W1 w8) := HB7.out.trans (hb.mono HB7.out.size)
  clear hb hr ho o1 o4 o5 o6 o7 o8 o9 o10 o11 o12 o13 o14 o15 o16 o17 o18
  obtain ⟨hr, ho, o1, o4, o5, o6, o7, o8, o9, o10, o11, o12, o13, o14, o15, o16, o17, o18⟩ := HF.out _ HB8.out
  go_wp2_with (first | refine ldR C r _ (by rfl) rfl rfl hr h25 ?_ | refine ldO O ro _ (by rfl) rfl rfl ho h19 ?_)
  refine (show Calls _ _ _ _ _ from HP.out.qHas _ (HUP.out _ HB8.out)).mono ?_
  rintro e w9 ⟨rfl, hb⟩
  have HB9 : Hid (Below W1.heap.size W1 w9) := HB8.out.trans (hb.mono HB8.out.size)
  clear hb hr ho o1 o4 o5 o6 o7 o8 o9 o10 o11 o12 o13 o14 o15 o16 o17 o18
  obtain ⟨hr, ho, o1, o4, o5, o6, o7, o8, o9, o10, o11, o12, o13, o14, o15, o16, o17, o18⟩ := HF.out _ HB9.out
  go_wp2_with (first | refine ldR C r _ (by rfl) rfl rfl hr h25 ?_ | refine ldO O ro _ (by rfl) rfl rfl ho h19 ?_)
  refine (show Calls _ _ _ _ _ from HD.out.qHas _ (HUP.out _ HB9.out)).mono ?_
  rintro e w10 ⟨rfl, hb⟩
  have HB10 : Hid (Below W1.heap.size W1 w10) := HB9.out.trans (hb.mono HB9.out.size)
  clear hb hr ho o1 o4 o5 o6 o7 o8 o9 o10 o11 o12 o13 o14 o15 o16 o17 o18
  obtain ⟨hr, ho, o1, o4, o5, o6, o7, o8, o9, o10, o11, o12, o13, o14, o15, o16, o17, o18⟩ := HF.out _ HB10.out
  go_wp2_with (first | refine ldR C r _ (by rfl) rfl rfl hr h25 ?_ | refine ldO O ro _ (by rfl) rfl rfl ho h19 ?_)
  refine (show Calls _ _ _ _ _ from HP.out.qMembers _ (HUP.out _ HB10.out)).mono ?_
  rintro e w11 ⟨q9, c9, rfl, hb⟩
  have HB11 : Hid (Below W1.heap.size W1 w11) := HB10.out.trans (hb.mono HB10.out.size)
  clear hb hr ho o1 o4 o5 o6 o7 o8 o9 o10 o11 o12 o13 o14 o15 o16 o17 o18
  obtain ⟨hr, ho, o1, o4, o5, o6, o7, o8, o9, o10, o11, o12, o13, o14, o15, o16, o17, o18⟩ := HF.out _ HB11.out
  go_wp2_with (first | refine ldR C r _ (by rfl) rfl rfl hr h25 ?_ | refine ldO O ro _ (by rfl) rfl rfl ho h19 ?_)
  refine (show Calls _ _ _ _ _ from HD.out.qMembers _ (HUP.out _ HB11.out)).mono ?_
  rintro e w12 ⟨q10, c10, rfl, hb⟩
  have HB12 : Hid (Below W1.heap.size W1 w12) := HB11.out.trans (hb.mono HB11.out.size)
  clear hb hr ho o1 o4 o5 o6 o7 o8 o9 o10 o11 o12 o13 o14 o15 o16 o17 o18
  obtain ⟨hr, ho, o1, o4, o5, o6, o7, o8, o9, o10, o11, o12, o13, o14, o15, o16, o17, o18⟩ := HF.out _ HB12.out
  go_wp2_with (first | refine ldR C r _ (by rfl) rfl rfl hr h25 ?_ | refine ldO O ro _ (by rfl) rfl rfl ho h19 ?_)
  refine (show Calls _ _ _ _ _ from st_nil _ _ _ _ _).mono ?_
  rintro e w13 ⟨rfl, hb⟩
  have HB13 : Hid (Below W1.heap.size W1 w13) := HB12.out.trans (hb.mono HB12.out.size)
  clear hb hr ho o1 o4 o5 o6 o7 o8 o9 o10 o11 o12 o13 o14 o15 o16 o17 o18
  obtain ⟨hr, ho, o1, o4, o5, o6, o7, o8, o9, o10, o11, o12, o13, o14, o15, o16, o17, o18⟩ := HF.out _ HB13.out
  go_wp2_with (first | refine ldR C r _ (by rfl) rfl rfl hr h25 ?_ | refine ldO O ro _ (by rfl) rfl rfl ho h19 ?_)
  refine (show Calls _ _ _ _ _ from HP.out.qField _ (HUP.out _ HB13.out)).mono ?_
  rintro e w14 ⟨rfl, hb⟩
  have HB14 : Hid (Below W1.heap.size W1 w14) := HB13.out.trans (hb.mono HB13.out.size)
  clear hb hr ho o1 o4 o5 o6 o7 o8 o9 o10 o11 o12 o13 o14 o15 o16 o17 o18
  obtain ⟨hr, ho, o1, o4, o5, o6, o7, o8, o9, o10, o11, o12, o13, o14, o15, o16, o17, o18⟩ := HF.out _ HB14.out
  go_wp2_with (first | refine ldR C r _ (by rfl) rfl rfl hr h25 ?_ | refine ldO O ro _ (by rfl) rfl rfl ho h19 ?_)
  refine (show Calls _ _ _ _ _ from HD.out.qField _ (HUP.out _ HB14.out)).mono ?_
  rintro e w15 ⟨rfl, hb⟩
  have HB15 : Hid (Below W1.heap.size W1 w15) := HB14.out.trans (hb.mono HB14.out.size)
  clear hb hr ho o1 o4 o5 o6 o7 o8 o9 o10 o11 o12 o13 o14 o15 o16 o17 o18
  obtain ⟨hr, ho, o1, o4, o5, o6, o7, o8, o9, o10, o11, o12, o13, o14, o15, o16, o17, o18⟩ := HF.out _ HB15.out
  go_wp2_with (first | refine ldR C r _ (by rfl) rfl rfl hr h25 ?_ | refine ldO O ro _ (by rfl) rfl rfl ho h19 ?_)
  refine (show Calls _ _ _ _ _ from HP.out.qFields _ (HUP.out _ HB15.out)).mono ?_
  rintro e w16 ⟨q13, c13, rfl, hb⟩
  have HB16 : Hid (Below W1.heap.size W1 w16) := HB15.out.trans (hb.mono HB15.out.size)
  clear hb hr ho o1 o4 o5 o6 o7 o8 o9 o10 o11 o12 o13 o14 o15 o16 o17 o18
  obtain ⟨hr, ho, o1, o4, o5, o6, o7, o8, o9, o10, o11, o12, o13, o14, o15, o16, o17, o18⟩ := HF.out _ HB16.out
  go_wp2_with (first | refine ldR C r _ (by rfl) rfl rfl hr h25 ?_ | refine ldO O ro _ (by rfl) rfl rfl ho h19 ?_)
  refine (show Calls _ _ _ _ _ from HD.out.qFields _ (HUP.out _ HB16.out)).mono ?_
  rintro e w17 ⟨q14, c14, rfl, hb⟩
  have HB17 : Hid (Below W1.heap.size W1 w17) := HB16.out.trans (hb.mono HB16.out.size)
  clear hb hr ho o1 o4 o5 o6 o7 o8 o9 o10 o11 o12 o13 o14 o15 o16 o17 o18
  obtain ⟨hr, ho, o1, o4, o5, o6, o7, o8, o9, o10, o11, o12, o13, o14, o15, o16, o17, o18⟩ := HF.out _ HB17.out
  go_wp2_with (first | refine ldR C r _ (by rfl) rfl rfl hr h25 ?_ | refine ldO O ro _ (by rfl) rfl rfl ho h19 ?_)
  refine (show Calls _ _ _ _ _ from sf_nil _ _ _ _ _).mono ?_
  rintro e w18 ⟨rfl, hb⟩
  have HB18 : Hid (Below W1.heap.size W1 w18) := HB17.out.trans (hb.mono HB17.out.size)
  clear hb hr ho o1 o4 o5 o6 o7 o8 o9 o10 o11 o12 o13 o14 o15 o16 o17 o18
  obtain ⟨hr, ho, o1, o4, o5, o6, o7, o8, o9, o10, o11, o12, o13, o14, o15, o16, o17, o18⟩ := HF.out _ HB18.out
  go_wp2_with (first | refine ldR C r _ (by rfl) rfl rfl hr h25 ?_ | refine ldO O ro _ (by rfl) rfl rfl ho h19 ?_)
  refine (show Calls _ _ _ _ _ from HOR.out _ (HUP.out _ HB18.out)).mono ?_
  rintro e w19 ⟨rfl, hb⟩
  have HB19 : Hid (Below W1.heap.size W1 w19) := HB18.out.trans (hb.mono HB18.out.size)
  clear hb hr ho o1 o4 o5 o6 o7 o8 o9 o10 o11 o12 o13 o14 o15 o16 o17 o18
  obtain ⟨hr, ho, o1, o4, o5, o6, o7, o8, o9, o10, o11, o12, o13, o14, o15, o16, o17, o18⟩ := HF.out _ HB19.out
  go_wp2
  go_ret
  exact ⟨rfl, HUP.out _ HB19.out⟩
end Go.Proofs.YtfkcpilkhdbpoaaGreatDoor.V
namespace Go.Proofs.YtfkcpilkhdbpoaaGreatDoor.V
open Go.RowKit
open S6 (Laid Lay)
set_option linter.unusedVariables false
set_option linter.unusedSimpArgs false
/-- Both tell of themselves the same, and answer alike. -/
def Emp (bv : Nat) (C : Array Value) (w : World) : Prop := ∃ k a b en0 it en ts eT eA eR eS eH eZ eG, RV C k a b en0 it ∧ C.all (·.oneCell') = true ∧ List.length ts ≤ 1
  ∧ Ans 42 #[.pointer (some ⟨bv, 0, none⟩)] (.int .i64 k) w ∧ Ans 24 #[.pointer (some ⟨bv, 0, none⟩)] (.string en) w ∧ Ans 25 #[.pointer (some ⟨bv, 0, none⟩)] (.int .i64 0) w ∧ Ans 45 #[.pointer (some ⟨bv, 0, none⟩)] (.int .i64 48) w ∧ AnsT 47 #[.pointer (some ⟨bv, 0, none⟩)] ts w
  ∧ Ans 43 #[.agg C] (.string en) w ∧ Ans 44 #[.agg C] (.int .i64 0) w ∧ Ans 46 #[.agg C] (.int .i64 48) w ∧ AnsT 48 #[.agg C] ts w
  ∧ PA bv eT eA eR eS eH eZ eG w ∧ DA C eT eA eR eS eH eZ eG w
theorem Emp.on {bv : Nat} {C : Array Value} {w w' : World} (h : Emp bv C w) (hb : Below w.heap.size w w') : Emp bv C w' := by
  obtain ⟨k, a, b, en0, it, en, ts, eT, eA, eR, eS, eH, eZ, eG, h1, h2, h3, h4, h5, h6, h7, h8, h9, h10, h11, h12, h13, h14⟩ := h
  exact ⟨k, a, b, en0, it, en, ts, eT, eA, eR, eS, eH, eZ, eG, h1, h2, h3, h4.on hb, h5.on hb, h6.on hb, h7.on hb, h8.on hb, h9.on hb, h10.on hb, h11.on hb, h12.on hb, h13.on hb, h14.on hb⟩
theorem Emp.as {bv : Nat} {C : Array Value} {w : World} (h : Emp bv C w) : Calls Tryz.prog 12 #[.pointer (some ⟨bv, 0, none⟩), .agg C] w fun e w' => e = .returned (.bool true) ∧ Below w.heap.size w w' := by
  obtain ⟨k, a, b, en0, it, en, ts, eT, eA, eR, eS, eH, eZ, eG, h1, h2, h3, h4, h5, h6, h7, h8, h9, h10, h11, h12, h13, h14⟩ := h
  exact as_ok bv C k a b en0 it en ts h3 h1 w h4 h5 h6 h7 h8 h9 h10 h11 h12
theorem Emp.asked {bv : Nat} {C O : Array Value} {w : World} (h : Emp bv C w) (hO : OPC O) : Calls Tryz.prog 13 #[.pointer (some ⟨bv, 0, none⟩), .agg C, .agg O] w fun e w' => e = .returned (.bool true) ∧ Below w.heap.size w w' := by
  obtain ⟨k, a, b, en0, it, en, ts, eT, eA, eR, eS, eH, eZ, eG, h1, h2, h3, h4, h5, h6, h7, h8, h9, h10, h11, h12, h13, h14⟩ := h
  exact asked_ok bv C O eT eA eR eS eH eZ eG h1.1 hO w h13 h14
theorem Emp.size {bv : Nat} {C : Array Value} {w : World} (h : Emp bv C w) : C.size = 25 ∧ C.all (·.oneCell') = true := by
  obtain ⟨k, a, b, en0, it, en, ts, eT, eA, eR, eS, eH, eZ, eG, h1, h2, h3, h4, h5, h6, h7, h8, h9, h10, h11, h12, h13, h14⟩ := h
  exact ⟨h1.1, h2⟩
def zC : Array Value := #[.int .i64 0, .int .i64 0, .int .i64 0, .int .i64 0, .int .i64 0, .int .i64 0, .int .i64 0, .int .i64 0, .int .i64 0, .int .i64 0, .string ⟨#[]⟩, .string ⟨#[]⟩, .int .i64 0, .int .i64 0, .slice none 0 0, .string ⟨#[]⟩, .slice none 0 0, .slice none 0 0, .slice none 0 0, .int .i64 0, .int .i64 0, .slice none 0 0, .int .i64 0, .slice none 0 0, .int .i64 0]
theorem alR {ops : Array Oper} {rest : List Oper} {op : Oper} {a : Act} {w : World} {Q : Exit → Act → World → Prop} (hg : op.guard = none) (ho : op.op = .alloc 53) (Z : Array Value) (hZ : Z = zC) (h : wpList Tryz.prog ops Q rest (a.put op.dst (.pointer (some ⟨w.heap.size, 0, none⟩))) (w.alloc (.cells Z 53))) : wpList Tryz.prog ops Q (op :: rest) a w := by
  subst hZ
  refine wpList_val hg ?_ h
  unfold execOp
  rw [ho]
  kernel_rfl
theorem stR {ops : Array Oper} {rest : List Oper} {op : Oper} {a : Act} {w : World} {Q : Exit → Act → World → Prop} (hg : op.guard = none) (x y : Operand) (ho : op.op = .store 53 x y) (g : Nat) (C Z : Array Value) (hx : a.eval x = .pointer (some ⟨g, 0, none⟩)) (hy : a.eval y = .agg C) (h25 : C.size = 25) (h1 : C.all (·.oneCell') = true) (hZ : Z.size = 25) (hr : w.heap[g]? = some (.cells Z 53)) (h : ∀ W, W.heap[g]? = some (.cells C 53) → Mod g w W → wpList Tryz.prog ops Q rest (a.put op.dst undef) W) : wpList Tryz.prog ops Q (op :: rest) a w := by
  refine wpList_store_mid hg 53 x y ho g 0 C hx hy ?_ (by rw [h25]; exact i53) h1 ?_
  · intro j hj
    rw [h25] at hj
    refine ⟨?_, frozen_of_row _ _ _ _ _ hr⟩
    rw [cell_of_row _ _ _ _ _ _ hr]
    simp; omega
  have h3 := setCells_pre g 53 C.toList [] Z.toList w (by simp [h25, hZ]) (by simpa using hr)
  rw [List.length_nil] at h3
  simp only [List.nil_append, Array.toArray_toList] at h3
  exact h _ h3.1 (Mod.only h3.2)
theorem yl36 {ops : Array Oper} {S : World → Prop} {op : Oper} {a : Act} (C : Array Value) (r : Nat) (x : Operand) (ho : op.op = .load 36 x) (hx : a.eval x = .pointer (some ⟨r, 0, none⟩)) (hS : ∀ w, S w → w.rangeAt r 0 C.toList) (h19 : C.size = 19) (hw : Region.wanted op (yielded ops a.tmps) = true := by rfl) : YieldsIf Tryz.prog ops S op (.agg C) a := by
  have := yieldsIf_load_mid (P := Tryz.prog) (ops := ops) (S := S) (a := a) hw 36 x ho r 0 hx C.toList _ hS Tryz.underlying36 rfl (by rw [Array.length_toList, h19]; exact i36)
  rw [Array.toArray_toList] at this
  exact this
set_option maxHeartbeats 8000000 in
set_option maxRecDepth 20000 in
theorem plays_ref (k : Int) (t : TH) (C : Array Value) (p : Option Addr) (h25 : C.size = 25) (h1 : C.all (·.oneCell') = true) (w : World) (hL : Lay w)
    (hN : ∀ W, Below w.heap.size w W → Calls Tryz.prog 7 #[.int .i64 k, thV t] W fun e w' => e = .returned (.tuple #[.pointer none, .int .i64 1]) ∧ Below W.heap.size W w')
    (hD : ∀ W, Calls Tryz.prog 8 #[.int .i64 k, thV t] W fun e w' => e = .returned (.tuple #[.agg C, .int .i64 1]) ∧ Below W.heap.size W w') :
    Calls Tryz.prog 6 #[.int .i64 k, thV t, .slice p 1 1] w fun e w' => e = .returned (.bool true) ∧ Below w.heap.size w w' := by
  have HN : Hid _ := hN
  have HD : Hid _ := hD
  have HL : Hid _ := hL
  have h1c : Hid _ := h1
  clear hN hD hL h1
  obtain ⟨a, b, c, d, e, f, g, h, i⟩ := t
  unfold thV at *
  simp only [] at *
  obtain ⟨W1, hW1⟩ : ∃ W, W = w.alloc (.cells #[.int .i64 a, .int .i64 b, .int .i64 c, .int .i64 d, .int .i64 e, .int .i64 f, .int .i64 g, .int .i64 h, .int .i64 i] 23) := ⟨_, rfl⟩
  obtain ⟨r, hr⟩ : ∃ r, w.heap.size = r := ⟨_, rfl⟩
  have HA : Hid (W1.heap[r]? = some (.cells #[.int .i64 a, .int .i64 b, .int .i64 c, .int .i64 d, .int .i64 e, .int .i64 f, .int .i64 g, .int .i64 h, .int .i64 i] 23)) := by rw [hW1, ← hr]; exact one_alloc _ _
  have HB1 : Hid (Below w.heap.size w W1) := by rw [hW1]; exact (Below.refl _ _).alloc (Nat.le_refl _) _
  have HRR : Hid (w.heap.size = r) := hr
  clear hr
  go_enter Tryz.func6, Tryz.ntmps6
  go_upto_region 1 with fail
  rw [← hW1, HRR.out]
  clear hW1
  obtain ⟨x0, x1, x2, x3, x4, x5, x6, x7, x8, xf⟩ := row9 HA.out
  go_wp2_with fail
  refine (show Calls _ _ _ _ _ from HN.out _ HB1.out).mono ?_
  rintro e w2 ⟨rfl, hb2⟩
  have HB2 : Hid (Below w.heap.size w w2) := HB1.out.trans (hb2.mono HB1.out.size)
  have HA2 : Hid _ := keep_row HA.out hb2
  clear x0 x1 x2 x3 x4 x5 x6 x7 x8 xf hb2
  obtain ⟨x0, x1, x2, x3, x4, x5, x6, x7, x8, xf⟩ := row9 HA2.out
  go_wp2_with fail
  refine (show Calls _ _ _ _ _ from HD.out _).mono ?_
  rintro e w3 ⟨rfl, hb3⟩
  have HB3 : Hid (Below w.heap.size w w3) := HB2.out.trans (hb3.mono HB2.out.size)
  clear x0 x1 x2 x3 x4 x5 x6 x7 x8 xf hb3
  obtain ⟨Z, hZ⟩ : ∃ Z, Z = zC := ⟨_, rfl⟩
  have HZZ : Hid (Z = zC) := hZ
  have HZS : Hid (Z.size = 25) := by rw [hZ]; rfl
  clear hZ
  go_wp2_with (first | refine alR rfl rfl Z HZZ.out ?_ | (refine stR rfl _ _ rfl w3.heap.size C Z rfl rfl h25 h1c.out HZS.out (one_alloc _ _) ?_; intro W4 hr4 hm4))
  have HB34 : Hid (Below w3.heap.size w3 W4) := ((Below.refl _ _).alloc (Nat.le_refl _) _).trans (hm4.below (Nat.le_refl _) (by simp))
  have HB4 : Hid (Below w.heap.size w W4) := HB3.out.trans (HB34.out.mono HB3.out.size)
  clear hr4 hm4
  refine (show Calls _ _ _ _ _ from works_any _ (HL.out.on HB4.out)).mono ?_
  rintro e w5 ⟨rfl, hb5⟩
  have HB5 : Hid (Below w.heap.size w w5) := HB4.out.trans (hb5.mono HB4.out.size)
  clear hb5
  go_wp2
  go_rounds 1
  go_wp2
  go_returns
  exact ⟨rfl, HB5.out⟩
set_option maxHeartbeats 8000000 in
set_option maxRecDepth 20000 in
theorem plays_ok (k : Int) (t : TH) (C O : Array Value) (go : Nat) (w : World) (hL : Lay w) (hO : OPC O) (hgo : w.heap[go]? = some (.cells O 36))
    (hN : ∀ W, Below w.heap.size w W → Calls Tryz.prog 7 #[.int .i64 k, thV t] W fun e w' => ∃ bv, e = .returned (.tuple #[.pointer (some ⟨bv, 0, none⟩), .int .i64 0]) ∧ Emp bv C w' ∧ Below W.heap.size W w')
    (hD : ∀ W, Calls Tryz.prog 8 #[.int .i64 k, thV t] W fun e w' => e = .returned (.tuple #[.agg C, .int .i64 0]) ∧ Below W.heap.size W w') :
    Calls Tryz.prog 6 #[.int .i64 k, thV t, .slice (some ⟨go, 0, none⟩) 1 1] w fun e w' => e = .returned (.bool true) ∧ Below w.heap.size w w' := by
  have HN : Hid _ := hN
  have HD : Hid _ := hD
  have HL : Hid _ := hL
  have HOP : Hid _ := hO
  have HGO : Hid _ := hgo
  have h19 : O.size = 19 := hO.1
  have ho0 : Hid (O[0]? = some (.int .i64 13)) := hO.2.1
  clear hN hD hL hO hgo
  obtain ⟨a, b, c, d, e, f, g, h, i⟩ := t
  unfold thV at *
  simp only [] at *
  obtain ⟨W1, hW1⟩ : ∃ W, W = w.alloc (.cells #[.int .i64 a, .int .i64 b, .int .i64 c, .int .i64 d, .int .i64 e, .int .i64 f, .int .i64 g, .int .i64 h, .int .i64 i] 23) := ⟨_, rfl⟩
  obtain ⟨r, hr⟩ : ∃ r, w.heap.size = r := ⟨_, rfl⟩
  have HA : Hid (W1.heap[r]? = some (.cells #[.int .i64 a, .int .i64 b, .int .i64 c, .int .i64 d, .int .i64 e, .int .i64 f, .int .i64 g, .int .i64 h, .int .i64 i] 23)) := by rw [hW1, ← hr]; exact one_alloc _ _
  have HB1 : Hid (Below w.heap.size w W1) := by rw [hW1]; exact (Below.refl _ _).alloc (Nat.le_refl _) _
  have HRR : Hid (w.heap.size = r) := hr
  clear hr
  go_enter Tryz.func6, Tryz.ntmps6
  go_upto_region 1 with fail
  rw [← hW1, HRR.out]
  clear hW1
  obtain ⟨x0, x1, x2, x3, x4, x5, x6, x7, x8, xf⟩ := row9 HA.out
  go_wp2_with fail
  refine (show Calls _ _ _ _ _ from HN.out _ HB1.out).mono ?_
  rintro e w2 ⟨bv, rfl, he2, hb2⟩
  have HB2 : Hid (Below w.heap.size w w2) := HB1.out.trans (hb2.mono HB1.out.size)
  have HE2 : Hid (Emp bv C w2) := he2
  have HA2 : Hid _ := keep_row HA.out hb2
  clear x0 x1 x2 x3 x4 x5 x6 x7 x8 xf hb2 he2
  obtain ⟨x0, x1, x2, x3, x4, x5, x6, x7, x8, xf⟩ := row9 HA2.out
  go_wp2_with fail
  refine (show Calls _ _ _ _ _ from HD.out _).mono ?_
  rintro e w3 ⟨rfl, hb3⟩
  have HB3 : Hid (Below w.heap.size w w3) := HB2.out.trans (hb3.mono HB2.out.size)
  have HE3 : Hid (Emp bv C w3) := HE2.out.on hb3
  have h25 : C.size = 25 := HE3.out.size.1
  have h1c : Hid _ := HE3.out.size.2
  clear x0 x1 x2 x3 x4 x5 x6 x7 x8 xf hb3
  obtain ⟨Z, hZ⟩ : ∃ Z, Z = zC := ⟨_, rfl⟩
  have HZZ : Hid (Z = zC) := hZ
  have HZS : Hid (Z.size = 25) := by rw [hZ]; rfl
  clear hZ
  go_wp2_with (first | refine alR rfl rfl Z HZZ.out ?_ | (refine stR rfl _ _ rfl w3.heap.size C Z rfl rfl h25 h1c.out HZS.out (one_alloc _ _) ?_; intro W4 hr4 hm4))
  obtain ⟨rv, hrv⟩ : ∃ rv, w3.heap.size = rv := ⟨_, rfl⟩
  rw [hrv]
  have HB34 : Hid (Below w3.heap.size w3 W4) := ((Below.refl _ _).alloc (Nat.le_refl _) _).trans (hm4.below (Nat.le_refl _) (by simp))
  have HR4 : Hid (W4.heap[rv]? = some (.cells C 53)) := by rw [← hrv]; exact hr4
  have HB4 : Hid (Below w.heap.size w W4) := HB3.out.trans (HB34.out.mono HB3.out.size)
  have HE4 : Hid (Emp bv C W4) := HE3.out.on HB34.out
  clear hrv hr4 hm4
  refine (show Calls _ _ _ _ _ from works_any _ (HL.out.on HB4.out)).mono ?_
  rintro e w5 ⟨rfl, hb5⟩
  have HB5 : Hid (Below w.heap.size w w5) := HB4.out.trans (hb5.mono HB4.out.size)
  have HEM : Hid (∀ W, Below w5.heap.size w5 W → Emp bv C W) := fun W hW => (HE4.out.on hb5).on hW
  have HR5 : Hid (w5.heap[rv]? = some (.cells C 53)) := keep_row HR4.out hb5
  have HG5 : Hid (w5.heap[go]? = some (.cells O 36)) := keep_row HGO.out HB5.out
  have HKS : Hid (∀ W, Below w5.heap.size w5 W → W.rangeAt rv 0 C.toList ∧ W.rangeAt go 0 O.toList) := fun W hW => ⟨fun j v hv => by rw [cellC (keep_row HR5.out hW)]; simpa using hv, fun j v hv => by rw [cellC (keep_row HG5.out hW)]; simpa using hv⟩
  have o0 : w5.cell? ⟨go, 0, none⟩ = some (.int .i64 13) := (cellC HG5.out).trans ho0.out
  clear hb5
  go_wp2
  go_rounds 2
  go_wp2_with fail
  have hcur : Below w5.heap.size w5 w5.drew := (Below.refl _ w5).drew
  refine wp_region_held_drew (S := fun W : World => W.rangeAt rv 0 C.toList ∧ W.rangeAt go 0 O.toList) (by kernel_rfl) (HKS.out _ hcur) (fun hHeld => ?_)
  refine wpAnyH_take (i := 0) (oi := { dst := some 75, op := Op.move (Operand.tmp 12), type := 4, pos := "law.go:249", after := #[], guard := none }) (v := .bool true) rfl (by kernel_rfl) (by kernel_rfl) (by kernel_rfl) (fun _ _ _ h => h) (Or.inl ⟨by rfl, ?y0⟩) (by assumption) ?z0
  case y0 =>
    intro w hSw
    (try dsimp only at hSw)
    first | (go_simp; done) | (go_simp; with_reducible rfl) | (go_simp; rfl)
  try simp only [Act.put, List.setIfInBounds_toArray, List.set_cons_zero, List.set_cons_succ]
  refine wpAnyH_take (i := 1) (oi := { dst := some 76, op := Op.unOp UnOp.not 4 (Operand.tmp 75), type := 4, pos := "law.go:249", after := #[{ on := 0, ground := Ground.data }], guard := none }) (v := .bool false) rfl (by kernel_rfl) (by kernel_rfl) (by kernel_rfl) (fun _ _ _ h => h) (Or.inl ⟨by rfl, ?y1⟩) (by assumption) ?z1
  case y1 =>
    intro w hSw
    (try dsimp only at hSw)
    first | (go_simp; done) | (go_simp; with_reducible rfl) | (go_simp; rfl)
  try simp only [Act.put, List.setIfInBounds_toArray, List.set_cons_zero, List.set_cons_succ]
  refine wpAnyH_take (i := 2) (oi := { dst := some 77, op := Op.move (Operand.tmp 76), type := 4, pos := "law.go:249", after := #[{ on := 1, ground := Ground.data }], guard := none }) (v := .bool false) rfl (by kernel_rfl) (by kernel_rfl) (by kernel_rfl) (fun _ _ _ h => h) (Or.inl ⟨by rfl, ?y2⟩) (by assumption) ?z2
  case y2 =>
    intro w hSw
    (try dsimp only at hSw)
    first | (go_simp; done) | (go_simp; with_reducible rfl) | (go_simp; rfl)
  try simp only [Act.put, List.setIfInBounds_toArray, List.set_cons_zero, List.set_cons_succ]
  refine wpAnyH_take (i := 3) (oi := { dst := some 78, op := Op.move (Operand.tmp 7), type := 41, pos := "law.go:249", after := #[{ on := 2, ground := Ground.guard }], guard := some (2, false) }) (v := .pointer (some ⟨bv, 0, none⟩)) rfl (by kernel_rfl) (by kernel_rfl) (by kernel_rfl) (fun _ _ _ h => h) (Or.inl ⟨by rfl, ?y3⟩) (by assumption) ?z3
  case y3 =>
    intro w hSw
    (try dsimp only at hSw)
    first | (go_simp; done) | (go_simp; with_reducible rfl) | (go_simp; rfl)
  try simp only [Act.put, List.setIfInBounds_toArray, List.set_cons_zero, List.set_cons_succ]
  refine wpAnyH_take (i := 4) (oi := { dst := some 79, op := Op.load 53 (Operand.tmp 9), type := 53, pos := "law.go:249", after := #[{ on := 2, ground := Ground.guard }], guard := some (2, false) }) (v := .agg C) rfl (by kernel_rfl) (by kernel_rfl) (by kernel_rfl) (fun _ _ _ h => h) (yl53 C rv _ rfl rfl (fun _ h => h.1) h25) (by assumption) ?z4
  try simp only [Act.put, List.setIfInBounds_toArray, List.set_cons_zero, List.set_cons_succ]
  refine wpAnyH_ready (rs := [5]) (by kernel_rfl) (by simp) ?_
  refine AllReadyH.cons (o := { dst := some 80, op := Op.call { callee := Callee.value (Operand.func 12), args := #[Operand.tmp 78, Operand.tmp 79], argTypes := #[41, 53] }, type := 4, pos := "law.go:249", after := #[{ on := 3, ground := Ground.data }, { on := 4, ground := Ground.data }, { on := 2, ground := Ground.chain }, { on := 2, ground := Ground.guard }], guard := some (2, false) }) rfl (fun K hK => ?_) AllReadyH.nil
  first | (go_at_call 12; refine (show Calls _ _ _ _ _ from (HEM.out _ hcur).as).mono ?_; rintro e a1 ⟨rfl, hb1⟩; have hcur := hcur.trans (hb1.mono hcur.size)) | (go_simp; go_at_call 12; refine (show Calls _ _ _ _ _ from (HEM.out _ hcur).as).mono ?_; rintro e a1 ⟨rfl, hb1⟩; have hcur := hcur.trans (hb1.mono hcur.size))
  refine hK.out _ _ (HKS.out _ hcur) (fun hHeld => ?_)
  clear hK K
  try simp only [Act.put, List.setIfInBounds_toArray, List.set_cons_zero, List.set_cons_succ]
  refine wpAnyH_take (i := 6) (oi := { dst := some 81, op := Op.unOp UnOp.not 4 (Operand.tmp 80), type := 4, pos := "law.go:249", after := #[{ on := 5, ground := Ground.data }, { on := 2, ground := Ground.guard }], guard := some (2, false) }) (v := .bool false) rfl (by kernel_rfl) (by kernel_rfl) (by kernel_rfl) (fun _ _ _ h => h) (Or.inl ⟨by rfl, ?y6⟩) (by assumption) ?z6
  case y6 =>
    intro w hSw
    (try dsimp only at hSw)
    first | (go_simp; done) | (go_simp; with_reducible rfl) | (go_simp; rfl)
  try simp only [Act.put, List.setIfInBounds_toArray, List.set_cons_zero, List.set_cons_succ]
  refine wpAnyH_take (i := 7) (oi := { dst := some 82, op := Op.pick (Operand.tmp 77) (Operand.const (Value.bool true)) (Operand.tmp 81), type := 4, pos := "law.go:249", after := #[{ on := 2, ground := Ground.data }, { on := 6, ground := Ground.data }], guard := none }) (v := .bool false) rfl (by kernel_rfl) (by kernel_rfl) (by kernel_rfl) (fun _ _ _ h => h) (Or.inl ⟨by rfl, ?y7⟩) (by assumption) ?z7
  case y7 =>
    intro w hSw
    (try dsimp only at hSw)
    first | (go_simp; done) | (go_simp; with_reducible rfl) | (go_simp; rfl)
  try simp only [Act.put, List.setIfInBounds_toArray, List.set_cons_zero, List.set_cons_succ]
  refine wpAnyH_take (i := 8) (oi := { dst := some 83, op := Op.move (Operand.tmp 82), type := 4, pos := "law.go:249", after := #[{ on := 7, ground := Ground.data }, { on := 5, ground := Ground.chain }], guard := none }) (v := .bool false) rfl (by kernel_rfl) (by kernel_rfl) (by kernel_rfl) (fun _ _ _ h => h) (Or.inl ⟨by rfl, ?y8⟩) (by assumption) ?z8
  case y8 =>
    intro w hSw
    (try dsimp only at hSw)
    first | (go_simp; done) | (go_simp; with_reducible rfl) | (go_simp; rfl)
  try simp only [Act.put, List.setIfInBounds_toArray, List.set_cons_zero, List.set_cons_succ]
  refine wpAnyH_take (i := 9) (oi := { dst := some 84, op := Op.move (Operand.tmp 7), type := 41, pos := "law.go:249", after := #[{ on := 8, ground := Ground.guard }], guard := some (8, false) }) (v := .pointer (some ⟨bv, 0, none⟩)) rfl (by kernel_rfl) (by kernel_rfl) (by kernel_rfl) (fun _ _ _ h => h) (Or.inl ⟨by rfl, ?y9⟩) (by assumption) ?z9
  case y9 =>
    intro w hSw
    (try dsimp only at hSw)
    first | (go_simp; done) | (go_simp; with_reducible rfl) | (go_simp; rfl)
  try simp only [Act.put, List.setIfInBounds_toArray, List.set_cons_zero, List.set_cons_succ]
  refine wpAnyH_take (i := 10) (oi := { dst := some 85, op := Op.load 53 (Operand.tmp 9), type := 53, pos := "law.go:249", after := #[{ on := 8, ground := Ground.guard }], guard := some (8, false) }) (v := .agg C) rfl (by kernel_rfl) (by kernel_rfl) (by kernel_rfl) (fun _ _ _ h => h) (yl53 C rv _ rfl rfl (fun _ h => h.1) h25) (by assumption) ?z10
  try simp only [Act.put, List.setIfInBounds_toArray, List.set_cons_zero, List.set_cons_succ]
  refine wpAnyH_take (i := 11) (oi := { dst := some 86, op := Op.move (Operand.tmp 2), type := 37, pos := "law.go:249", after := #[{ on := 8, ground := Ground.guard }], guard := some (8, false) }) (v := .slice (some ⟨go, 0, none⟩) 1 1) rfl (by kernel_rfl) (by kernel_rfl) (by kernel_rfl) (fun _ _ _ h => h) (Or.inl ⟨by rfl, ?y11⟩) (by assumption) ?z11
  case y11 =>
    intro w hSw
    (try dsimp only at hSw)
    first | (go_simp; done) | (go_simp; with_reducible rfl) | (go_simp; rfl)
  try simp only [Act.put, List.setIfInBounds_toArray, List.set_cons_zero, List.set_cons_succ]
  refine wpAnyH_take (i := 12) (oi := { dst := some 87, op := Op.move (Operand.tmp 11), type := 3, pos := "law.go:249", after := #[{ on := 8, ground := Ground.guard }], guard := some (8, false) }) (v := .int .i64 0) rfl (by kernel_rfl) (by kernel_rfl) (by kernel_rfl) (fun _ _ _ h => h) (Or.inl ⟨by rfl, ?y12⟩) (by assumption) ?z12
  case y12 =>
    intro w hSw
    (try dsimp only at hSw)
    first | (go_simp; done) | (go_simp; with_reducible rfl) | (go_simp; rfl)
  try simp only [Act.put, List.setIfInBounds_toArray, List.set_cons_zero, List.set_cons_succ]
  refine wpAnyH_take (i := 13) (oi := { dst := some 88, op := Op.indexAddr 37 (Operand.tmp 86) (Operand.tmp 87), type := 0, pos := "law.go:249", after := #[{ on := 11, ground := Ground.data }, { on := 12, ground := Ground.data }, { on := 8, ground := Ground.guard }], guard := some (8, false) }) (v := .pointer (some ⟨go, 0, none⟩)) rfl (by kernel_rfl) (by kernel_rfl) (by kernel_rfl) (fun _ _ _ h => h) (Or.inl ⟨by rfl, ?y13⟩) (by assumption) ?z13
  case y13 =>
    intro w hSw
    (try dsimp only at hSw)
    first | (go_simp; done) | (go_simp; with_reducible rfl) | (go_simp; rfl)
  try simp only [Act.put, List.setIfInBounds_toArray, List.set_cons_zero, List.set_cons_succ]
  refine wpAnyH_take (i := 14) (oi := { dst := some 89, op := Op.load 36 (Operand.tmp 88), type := 36, pos := "law.go:249", after := #[{ on := 13, ground := Ground.data }, { on := 8, ground := Ground.guard }], guard := some (8, false) }) (v := .agg O) rfl (by kernel_rfl) (by kernel_rfl) (by kernel_rfl) (fun _ _ _ h => h) (yl36 O go _ rfl rfl (fun _ h => h.2) h19) (by assumption) ?z14
  try simp only [Act.put, List.setIfInBounds_toArray, List.set_cons_zero, List.set_cons_succ]
  refine wpAnyH_ready (rs := [15]) (by kernel_rfl) (by simp) ?_
  refine AllReadyH.cons (o := { dst := some 90, op := Op.call { callee := Callee.value (Operand.func 13), args := #[Operand.tmp 84, Operand.tmp 85, Operand.tmp 89], argTypes := #[41, 53, 36] }, type := 4, pos := "law.go:249", after := #[{ on := 9, ground := Ground.data }, { on := 10, ground := Ground.data }, { on := 14, ground := Ground.data }, { on := 8, ground := Ground.chain }, { on := 8, ground := Ground.guard }], guard := some (8, false) }) rfl (fun K hK => ?_) AllReadyH.nil
  first | (go_at_call 13; refine (show Calls _ _ _ _ _ from (HEM.out _ hcur).asked HOP.out).mono ?_; rintro e a1 ⟨rfl, hb1⟩; have hcur := hcur.trans (hb1.mono hcur.size)) | (go_simp; go_at_call 13; refine (show Calls _ _ _ _ _ from (HEM.out _ hcur).asked HOP.out).mono ?_; rintro e a1 ⟨rfl, hb1⟩; have hcur := hcur.trans (hb1.mono hcur.size))
  refine hK.out _ _ (HKS.out _ hcur) (fun hHeld => ?_)
  clear hK K
  try simp only [Act.put, List.setIfInBounds_toArray, List.set_cons_zero, List.set_cons_succ]
  refine wpAnyH_take (i := 16) (oi := { dst := some 91, op := Op.unOp UnOp.not 4 (Operand.tmp 90), type := 4, pos := "law.go:249", after := #[{ on := 15, ground := Ground.data }, { on := 8, ground := Ground.guard }], guard := some (8, false) }) (v := .bool false) rfl (by kernel_rfl) (by kernel_rfl) (by kernel_rfl) (fun _ _ _ h => h) (Or.inl ⟨by rfl, ?y16⟩) (by assumption) ?z16
  case y16 =>
    intro w hSw
    (try dsimp only at hSw)
    first | (go_simp; done) | (go_simp; with_reducible rfl) | (go_simp; rfl)
  try simp only [Act.put, List.setIfInBounds_toArray, List.set_cons_zero, List.set_cons_succ]
  refine wpAnyH_take (i := 17) (oi := { dst := some 92, op := Op.pick (Operand.tmp 83) (Operand.const (Value.bool true)) (Operand.tmp 91), type := 4, pos := "law.go:249", after := #[{ on := 8, ground := Ground.data }, { on := 16, ground := Ground.data }], guard := none }) (v := .bool false) rfl (by kernel_rfl) (by kernel_rfl) (by kernel_rfl) (fun _ _ _ h => h) (Or.inl ⟨by rfl, ?y17⟩) (by assumption) ?z17
  case y17 =>
    intro w hSw
    (try dsimp only at hSw)
    first | (go_simp; done) | (go_simp; with_reducible rfl) | (go_simp; rfl)
  try simp only [Act.put, List.setIfInBounds_toArray, List.set_cons_zero, List.set_cons_succ]
  refine wpAnyH_done (by kernel_rfl) ?_ _
  go_wp2
  rw [rounds_succ]
  go_wp2
  go_returns
  exact ⟨rfl, HB5.out.trans (hcur.mono HB5.out.size)⟩
end Go.Proofs.YtfkcpilkhdbpoaaGreatDoor.V
