import Derived.Test.YtlheilkofibogaaGreatQAH
namespace Go.Proofs.YtlheilkofibogaaGreat
open Go.RowKit
set_option linter.unusedVariables false
set_option linter.unusedSimpArgs false
section
variable {α : Type} {E : ET α}
/-- An append of one literal in a region that draws. -/
theorem step_app1 (ok : ETok E) {w : World} {ops : Array Oper} {o : Oper} {a : Act} {K : Act → World → Prop} {Q : Exit → Act → World → Prop} {E0 : Prop} (cs : Array Value) (x1 : α) (hcs : cs.toList = E.enc x1) (hg : o.guard = none) (s x : Operand)
    (hop : o.op = Op.call { callee := Callee.builtin Builtin.append, args := #[s, x], argTypes := #[E.ST, E.ST] })
    (b : Nat) (v : Value) (xs : List α) (hs : a.eval s = v) (hown : w.ownsRow b E.T E.k v xs.length (E.fl xs)) (B : Nat) (hx : a.eval x = .slice (some ⟨B, 0, none⟩) 1 1) (hB : w.heap[B]? = some (.cells cs E.T)) (hl : xs.length + 1 ≤ maxLen) (hby : (xs.length + 1) * E.by_ ≤ 140737488355328) (hb : b ≤ w.heap.size)
    (h : ∀ v' w', w'.ownsRow b E.T E.k v' (xs.length + 1) (E.fl (xs ++ [x1])) → Below b w w' → K (a.put o.dst v') w') :
    if Region.wanted o (yielded ops a.tmps) = true then Oper.wp Tryz.prog o a w K Q else E0 := by
  have hw : Region.wanted o (yielded ops a.tmps) = true := by simp [Region.wanted, hg]
  rw [if_pos hw]
  obtain ⟨i0, hi, hz0, hz1, hz2⟩ := info_of ok.inf
  have hfl : E.fl [x1] = cs.toList := by simp [ET.fl, hcs]
  obtain ⟨v', w', hrun, h2, h3, h4, h5⟩ := run_append_own_at (P := Tryz.prog) w b E.ST o.type E.T i0 E.z E.k E.by_ ok.und hi hz0 hz1 hz2 ok.zc ok.kp v xs.length (E.fl xs) hown ⟨B, 0, none⟩ 1 1 (E.fl [x1]) (ET.fl_len ok [x1]) (fun j u hu => by
    rw [Lib.add_plain, Nat.zero_add, cell_of_row _ _ _ _ _ _ hB]; rw [hfl] at hu; simpa using hu) (ET.fl_one ok [x1]) hl hby hb
  unfold Oper.wp
  simp [execOp, hop, resolve, invoke, builtin, hs, hx, hrun, Result.andThen]
  exact h v' w' (by rw [ET.fl_app]; exact h2) ((Below.refl b w).grown h3 hb (fun q hq => (World.ownsRow.lt hown q hq).1))
end
end Go.Proofs.YtlheilkofibogaaGreat
namespace Go.Proofs.YtlheilkofibogaaGreat
open Go.RowKit
set_option linter.unusedVariables false
set_option linter.unusedSimpArgs false
set_option maxHeartbeats 4000000 in
set_option maxRecDepth 20000 in
theorem now_any (s : Fs) (V : FV) (hb : Bd s) (hin : ∀ x ∈ s.dir, 0 ≤ x.2 ∧ x.2 < (s.files.length : Int)) (w : World) (h : FsAt s V w) : Calls Tryz.prog 27 #[.agg (fsC s V)] w fun e w' => ∃ v, e = .returned v ∧ KR paE w' v (nowM s) ∧ NB (fun k => k < w.heap.size) v ∧ Below w.heap.size w w' := by
  obtain ⟨W0, hW0⟩ : ∃ W0, W0 = w.alloc (.cells (fsC s V) 31) := ⟨_, rfl⟩
  have hB0 : Below w.heap.size w W0 := by rw [hW0]; exact (Below.refl _ _).alloc (Nat.le_refl _) _
  have hX0 : W0.heap[w.heap.size]? = some (.cells (fsC s V) 31) := by rw [hW0]; exact one_alloc _ _
  obtain ⟨r, hr⟩ : ∃ r, w.heap.size = r := ⟨_, rfl⟩
  have HR : Hid (w.heap.size = r) := hr
  have HB : Hid (Below w.heap.size w W0) := hB0
  have HF : Hid (FsAt s V W0) := h.on hB0
  rw [hr] at hX0
  have HX : Hid (W0.heap[r]? = some (.cells (fsC s V) 31)) := hX0
  have HDL : Hid (s.dir.length ≤ 1099511627770) := hb.dd
  have HIN : Hid (∀ x ∈ s.dir, 0 ≤ x.2 ∧ x.2 < (s.files.length : Int)) := hin
  rw [show fsC s V = #[.bool s.down, .int .i64 (s.steps : Int), V.f, V.d, V.s, V.c, V.p, .int .i64 s.crash, V.k] from rfl] at hW0
  rw [show fsC s V = #[.bool s.down, .int .i64 (s.steps : Int), V.f, V.d, V.s, V.c, V.p, .int .i64 s.crash, V.k] from rfl]
  clear hX0 hB0 h hb hr hin
  go_enter Tryz.func27, Tryz.ntmps27
  go_upto_region 1 with fail
  rw [← hW0, HR.out]
  clear hW0
  obtain ⟨Pd, kd, hvd⟩ := HF.out.qd.form
  have HVD : Hid (V.d = .slice Pd s.dir.length kd) := hvd
  obtain ⟨Pf, kf, hvf⟩ := HF.out.qf.form
  have HVF : Hid (V.f = .slice Pf s.files.length kf) := hvf
  clear hvd hvf
  have HO0 : Hid (W0.ownsRow W0.heap.size paE.T paE.k (.slice none 0 0) 0 (paE.fl [])) := ⟨rfl, Or.inl ⟨rfl, rfl⟩⟩
  go_wp2
  go_loopw [3, 4] (fun co ci wx => ∃ (j : Nat) (xs : List (ByteArray × ByteArray)) (Pv : Option Addr) (cv : Nat), j ≤ s.dir.length ∧ ci = .int .i64 (j : Int) ∧ co = .slice Pv xs.length cv ∧ (s.dir.take j).map (fun x => (x.1, (s.files.getD x.2.toNat ⟨⟨#[]⟩, 0⟩).d)) = xs ∧ xs.length = j ∧ wx.ownsRow W0.heap.size paE.T paE.k (.slice Pv xs.length cv) xs.length (paE.fl xs) ∧ Below W0.heap.size W0 wx) (fun _ ci _ => s.dir.length - (intOf ci).toNat)
  case atStart => exact ⟨0, [], none, 0, Nat.zero_le _, rfl, rfl, rfl, rfl, HO0.out, Below.refl _ _⟩
  case round =>
    obtain ⟨j, xs, Pv, cv, hj, rfl, rfl, hdf, hxl, hown, hbx⟩ := hrel
    have HOW : Hid (wr.ownsRow W0.heap.size paE.T paE.k (.slice Pv xs.length cv) xs.length (paE.fl xs)) := hown
    have HBX : Hid (Below W0.heap.size W0 wr) := hbx
    have hrw := keep_row HX.out hbx
    obtain ⟨x0, x1, x2, x3, x4, x5, x6, x7, x8, xf⟩ := row9 (v0 := .bool s.down) (v1 := .int .i64 (s.steps : Int)) (v2 := V.f) (v3 := V.d) (v4 := V.s) (v5 := V.c) (v6 := V.p) (v7 := .int .i64 s.crash) (v8 := V.k) hrw
    rw [HVD.out] at x3
    clear hrw hown
    by_cases hlt : j < s.dir.length
    · have hk := HF.out.qd
      rw [HVD.out] at hk
      obtain ⟨g, o, c', he, hc⟩ := hk.cell slOk hlt
      injection he with he1 _ he2
      subst he1
      have htk : (s.dir.take (j + 1)).map (fun x => (x.1, (s.files.getD x.2.toNat ⟨⟨#[]⟩, 0⟩).d)) = xs ++ [((s.dir[j]'hlt).1, (s.files.getD (s.dir[j]'hlt).2.toNat ⟨⟨#[]⟩, 0⟩).d)] := by rw [← List.take_append_getElem hlt, List.map_append, hdf]; rfl
      have hin := HIN.out (s.dir[j]'hlt) (List.getElem_mem hlt)
      obtain ⟨y, hy⟩ : ∃ y, s.dir[j]'hlt = y := ⟨_, rfl⟩
      rw [hy] at hc htk hin
      obtain ⟨X, Y⟩ := y
      obtain ⟨i, hi⟩ : ∃ i : Nat, Y = (i : Int) := ⟨Y.toNat, by have := hin.1; simp only at this; omega⟩
      subst hi
      have hi1 : i < s.files.length := by have := hin.2; simp only at this; omega
      have hkf := HF.out.qf
      rw [HVF.out] at hkf
      obtain ⟨gf, of, cf, hef, hcf⟩ := hkf.cell fiOk hi1
      injection hef with he3 _ he4
      subst he3
      obtain ⟨z, hz⟩ : ∃ z, s.files[i]'hi1 = z := ⟨_, rfl⟩
      rw [hz] at hcf
      obtain ⟨D, S0⟩ := z
      have HTK : Hid ((s.dir.take (j + 1)).map (fun x => (x.1, (s.files.getD x.2.toNat ⟨⟨#[]⟩, 0⟩).d)) = xs ++ [(X, D)]) := by
        show _ = _
        rw [htk]
        simp only [Int.toNat_natCast]
        rw [getFi hi1 hz]
      have hz0 : (0 : Int) ≤ (j : Int) := by omega
      have hz1 : (j : Int) < (s.dir.length : Int) := by omega
      have hy0 : (0 : Int) ≤ (i : Int) := by omega
      have hy1 : (i : Int) < (s.files.length : Int) := by omega
      have hdl := HDL.out
      have hiw : IntKind.i64.wrap ((j : Int) + 1) = (j : Int) + 1 := by rw [IntKind.wrap_i64] <;> omega
      have HIW : Hid (IntKind.i64.wrap ((j : Int) + 1) = (j : Int) + 1) := hiw
      have HI : Hid (j + 1 ≤ s.dir.length) := hlt
      have HXL : Hid (xs.length = j) := hxl
      have HC0 : Hid (W0.cell? ⟨g, o + j * 2, none⟩ = some (.string X)) := hc 0 _ rfl
      have HC1 : Hid (W0.cell? ⟨g, o + j * 2 + 1, none⟩ = some (.int .i64 (i : Int))) := hc 1 _ rfl
      have HC2 : Hid (W0.cell? ⟨gf, of + i * 2, none⟩ = some (.string D)) := hcf 0 _ rfl
      clear hk hc he2 hdf htk hxl hdl hbx hy hin hkf hcf he4 hz hi1 hiw
      go_upto_region 5 with fail
      clear x0 x1 x2 x3 x4 x5 x6 x7 x8 xf
      have hcur : Below W0.heap.size W0 wr.drew := HBX.out.trans (Below.refl _ wr).drew
      have HKS : Hid (∀ W, Below W0.heap.size W0 W → (W.cell? ⟨r, 2, none⟩ = some (.slice (some ⟨gf, of, none⟩) s.files.length kf) ∧ W.cell? ⟨r, 3, none⟩ = some (.slice (some ⟨g, o, none⟩) s.dir.length kd) ∧ W.cell? ⟨g, o + j * 2, none⟩ = some (.string X) ∧ W.cell? ⟨g, o + j * 2 + 1, none⟩ = some (.int .i64 (i : Int)) ∧ W.cell? ⟨gf, of + i * 2, none⟩ = some (.string D))) := fun W hW => by
        have h1 := keep_row HX.out hW
        exact ⟨by rw [cellC h1, ← HVF.out]; rfl, by rw [cellC h1, ← HVD.out]; rfl, cell_on HC0.out hW, cell_on HC1.out hW, cell_on HC2.out hW⟩
      have hOD := own_keep (w' := wr.drew) HOW.out (fun q _ hq => rfl)
      have HOD : Hid (wr.drew.ownsRow W0.heap.size paE.T paE.k (.slice Pv xs.length cv) xs.length (paE.fl xs)) := hOD
      clear hOD
      have hcA : Below W0.heap.size W0 (wr.drew.alloc (.cells #[.string X, .string D] paE.T)) := hcur.alloc hcur.size _
      have HOA : Hid ((wr.drew.alloc (.cells #[.string X, .string D] paE.T)).ownsRow W0.heap.size paE.T paE.k (.slice Pv xs.length cv) xs.length (paE.fl xs)) := own_keep HOD.out (fun q _ hq => ((Below.refl wr.drew.heap.size wr.drew).alloc (Nat.le_refl _) _).block q hq)
      go_region_held3 (fun W : World => W.cell? ⟨r, 2, none⟩ = some (.slice (some ⟨gf, of, none⟩) s.files.length kf) ∧ W.cell? ⟨r, 3, none⟩ = some (.slice (some ⟨g, o, none⟩) s.dir.length kd) ∧ W.cell? ⟨g, o + j * 2, none⟩ = some (.string X) ∧ W.cell? ⟨g, o + j * 2 + 1, none⟩ = some (.int .i64 (i : Int)) ∧ W.cell? ⟨gf, of + i * 2, none⟩ = some (.string D))
        (first | exact HKS.out _ hcur | exact HKS.out _ hcA | exact HKS.out _ hb9)
        (first | (refine step_app1 paOk #[.string X, .string D] (X, D) rfl rfl (.tmp 12) (.tmp 31) rfl W0.heap.size (.slice Pv xs.length cv) xs (by simp [Act.eval, Act.put]) HOA.out wr.drew.heap.size (by simp [Act.eval, Act.put]) (one_alloc _ _) (by have := HXL.out; have := HI.out; have := HDL.out; unfold maxLen; omega) (by have := HXL.out; have := HI.out; have := HDL.out; show _ * 32 ≤ _; omega) hcA.size ?_; intro v9 w9 ho9 hg9; obtain ⟨P9, k9, hf9⟩ := own_form ho9; subst hf9; have hb9 : Below W0.heap.size W0 w9 := hcA.trans hg9))
      have HO5 : Hid (w9.ownsRow W0.heap.size paE.T paE.k (.slice P9 (xs.length + 1) k9) (xs.length + 1) (paE.fl (xs ++ [(X, D)]))) := ho9
      have HB5 : Hid (Below W0.heap.size W0 w9) := hb9
      have hiw := HIW.out
      clear ho9 hb9 hg9 hcA hcur
      go_wp2
      go_roundw
      case rel => exact ⟨j + 1, xs ++ [(X, D)], P9, k9, HI.out, rfl, by simp, HTK.out, by have := HXL.out; simp; omega, by simpa using HO5.out, HB5.out⟩
      case measure => have := HI.out; simp [intOf]; omega
    · have he : j = s.dir.length := by omega
      have HFI : Hid (nowM s = xs) := by show _ = _; unfold nowM; rw [← hdf, he, List.take_length]
      subst he
      clear hlt hdf hbx hxl
      go_wp2
      go_ret
      refine ⟨_, rfl, ?_, fun g o n c e hk => ?_, ?_⟩
      · rw [HFI.out]
        exact KR.own HOW.out rfl
      · have h1 := KR_ge HOW.out e
        have h2 := HB.out.size
        have h3 : g < w.heap.size := hk
        omega
      · exact HB.out.trans (HBX.out.mono HB.out.size)
end Go.Proofs.YtlheilkofibogaaGreat
namespace Go.Proofs.YtlheilkofibogaaGreat
open Go.RowKit
set_option linter.unusedVariables false
set_option linter.unusedSimpArgs false
section
variable {α : Type} {E : ET α}
/-- As step_app1, with what it leaves alone. -/
theorem step_app1g (ok : ETok E) {w : World} {ops : Array Oper} {o : Oper} {a : Act} {K : Act → World → Prop} {Q : Exit → Act → World → Prop} {E0 : Prop} (cs : Array Value) (x1 : α) (hcs : cs.toList = E.enc x1) (hg : o.guard = none) (s x : Operand)
    (hop : o.op = Op.call { callee := Callee.builtin Builtin.append, args := #[s, x], argTypes := #[E.ST, E.ST] })
    (b : Nat) (v : Value) (xs : List α) (hs : a.eval s = v) (hown : w.ownsRow b E.T E.k v xs.length (E.fl xs)) (B : Nat) (hx : a.eval x = .slice (some ⟨B, 0, none⟩) 1 1) (hB : w.heap[B]? = some (.cells cs E.T)) (hl : xs.length + 1 ≤ maxLen) (hby : (xs.length + 1) * E.by_ ≤ 140737488355328) (hb : b ≤ w.heap.size)
    (h : ∀ v' w', w'.ownsRow b E.T E.k v' (xs.length + 1) (E.fl (xs ++ [x1])) → Below b w w' → w.grownBy w' v.ownBlock → K (a.put o.dst v') w') :
    if Region.wanted o (yielded ops a.tmps) = true then Oper.wp Tryz.prog o a w K Q else E0 := by
  have hw : Region.wanted o (yielded ops a.tmps) = true := by simp [Region.wanted, hg]
  rw [if_pos hw]
  obtain ⟨i0, hi, hz0, hz1, hz2⟩ := info_of ok.inf
  have hfl : E.fl [x1] = cs.toList := by simp [ET.fl, hcs]
  obtain ⟨v', w', hrun, h2, h3, h4, h5⟩ := run_append_own_at (P := Tryz.prog) w b E.ST o.type E.T i0 E.z E.k E.by_ ok.und hi hz0 hz1 hz2 ok.zc ok.kp v xs.length (E.fl xs) hown ⟨B, 0, none⟩ 1 1 (E.fl [x1]) (ET.fl_len ok [x1]) (fun j u hu => by
    rw [Lib.add_plain, Nat.zero_add, cell_of_row _ _ _ _ _ _ hB]; rw [hfl] at hu; simpa using hu) (ET.fl_one ok [x1]) hl hby hb
  unfold Oper.wp
  simp [execOp, hop, resolve, invoke, builtin, hs, hx, hrun, Result.andThen]
  exact h v' w' (by rw [ET.fl_app]; exact h2) ((Below.refl b w).grown h3 hb (fun q hq => (World.ownsRow.lt hown q hq).1)) h3
end
set_option maxHeartbeats 4000000 in
set_option maxRecDepth 20000 in
theorem safe_any (s : Fs) (V : FV) (hb : Bd s) (hsl : s.sure.length ≤ 1099511627770) (hin : ∀ x ∈ s.sure, 0 ≤ x.2 ∧ x.2 < (s.files.length : Int)) (w : World) (h : FsAt s V w) : Calls Tryz.prog 28 #[.agg (fsC s V)] w fun e w' => ∃ v, e = .returned v ∧ KR paE w' v (safeM s) ∧ NB (fun k => k < w.heap.size) v ∧ Below w.heap.size w w' := by
  obtain ⟨W0, hW0⟩ : ∃ W0, W0 = w.alloc (.cells (fsC s V) 31) := ⟨_, rfl⟩
  have hB0 : Below w.heap.size w W0 := by rw [hW0]; exact (Below.refl _ _).alloc (Nat.le_refl _) _
  have hX0 : W0.heap[w.heap.size]? = some (.cells (fsC s V) 31) := by rw [hW0]; exact one_alloc _ _
  obtain ⟨r, hr⟩ : ∃ r, w.heap.size = r := ⟨_, rfl⟩
  have HR : Hid (w.heap.size = r) := hr
  have HB : Hid (Below w.heap.size w W0) := hB0
  have HF : Hid (FsAt s V W0) := h.on hB0
  rw [hr] at hX0
  have HX : Hid (W0.heap[r]? = some (.cells (fsC s V) 31)) := hX0
  have HDL : Hid (s.sure.length ≤ 1099511627770) := hsl
  have HIN : Hid (∀ x ∈ s.sure, 0 ≤ x.2 ∧ x.2 < (s.files.length : Int)) := hin
  rw [show fsC s V = #[.bool s.down, .int .i64 (s.steps : Int), V.f, V.d, V.s, V.c, V.p, .int .i64 s.crash, V.k] from rfl] at hW0
  rw [show fsC s V = #[.bool s.down, .int .i64 (s.steps : Int), V.f, V.d, V.s, V.c, V.p, .int .i64 s.crash, V.k] from rfl]
  have HFZ : Hid (∀ x ∈ s.files, x.d.size ≤ 1073741824 ∧ x.s ≤ x.d.size) := hb.fz
  clear hX0 hB0 h hb hr hin hsl
  go_enter Tryz.func28, Tryz.ntmps28
  go_upto_region 1 with fail
  rw [← hW0, HR.out]
  clear hW0
  obtain ⟨Pd, kd, hvd⟩ := HF.out.qs.form
  have HVD : Hid (V.s = .slice Pd s.sure.length kd) := hvd
  obtain ⟨Pf, kf, hvf⟩ := HF.out.qf.form
  have HVF : Hid (V.f = .slice Pf s.files.length kf) := hvf
  clear hvd hvf
  have HO0 : Hid (W0.ownsRow W0.heap.size paE.T paE.k (.slice none 0 0) 0 (paE.fl [])) := ⟨rfl, Or.inl ⟨rfl, rfl⟩⟩
  go_wp2
  go_loopw [3, 4] (fun co ci wx => ∃ (j : Nat) (xs : List (ByteArray × ByteArray)) (Pv : Option Addr) (cv : Nat), j ≤ s.sure.length ∧ ci = .int .i64 (j : Int) ∧ co = .slice Pv xs.length cv ∧ (s.sure.take j).map (fun x => (x.1, let f := s.files.getD x.2.toNat ⟨⟨#[]⟩, 0⟩; f.d.extract 0 f.s)) = xs ∧ xs.length = j ∧ wx.ownsRow W0.heap.size paE.T paE.k (.slice Pv xs.length cv) xs.length (paE.fl xs) ∧ Below W0.heap.size W0 wx) (fun _ ci _ => s.sure.length - (intOf ci).toNat)
  case atStart => exact ⟨0, [], none, 0, Nat.zero_le _, rfl, rfl, rfl, rfl, HO0.out, Below.refl _ _⟩
  case round =>
    obtain ⟨j, xs, Pv, cv, hj, rfl, rfl, hdf, hxl, hown, hbx⟩ := hrel
    have HOW : Hid (wr.ownsRow W0.heap.size paE.T paE.k (.slice Pv xs.length cv) xs.length (paE.fl xs)) := hown
    have HBX : Hid (Below W0.heap.size W0 wr) := hbx
    have hrw := keep_row HX.out hbx
    obtain ⟨x0, x1, x2, x3, x4, x5, x6, x7, x8, xf⟩ := row9 (v0 := .bool s.down) (v1 := .int .i64 (s.steps : Int)) (v2 := V.f) (v3 := V.d) (v4 := V.s) (v5 := V.c) (v6 := V.p) (v7 := .int .i64 s.crash) (v8 := V.k) hrw
    rw [HVD.out] at x4
    clear hrw hown
    by_cases hlt : j < s.sure.length
    · have hk := HF.out.qs
      rw [HVD.out] at hk
      obtain ⟨g, o, c', he, hc⟩ := hk.cell slOk hlt
      injection he with he1 _ he2
      subst he1
      have htk : (s.sure.take (j + 1)).map (fun x => (x.1, let f := s.files.getD x.2.toNat ⟨⟨#[]⟩, 0⟩; f.d.extract 0 f.s)) = xs ++ [((s.sure[j]'hlt).1, (s.files.getD (s.sure[j]'hlt).2.toNat ⟨⟨#[]⟩, 0⟩).d.extract 0 (s.files.getD (s.sure[j]'hlt).2.toNat ⟨⟨#[]⟩, 0⟩).s)] := by rw [← List.take_append_getElem hlt, List.map_append, hdf]; rfl
      have hin := HIN.out (s.sure[j]'hlt) (List.getElem_mem hlt)
      obtain ⟨y, hy⟩ : ∃ y, s.sure[j]'hlt = y := ⟨_, rfl⟩
      rw [hy] at hc htk hin
      obtain ⟨X, Y⟩ := y
      obtain ⟨i, hi⟩ : ∃ i : Nat, Y = (i : Int) := ⟨Y.toNat, by have := hin.1; simp only at this; omega⟩
      subst hi
      have hi1 : i < s.files.length := by have := hin.2; simp only at this; omega
      have hkf := HF.out.qf
      rw [HVF.out] at hkf
      obtain ⟨gf, of, cf, hef, hcf⟩ := hkf.cell fiOk hi1
      injection hef with he3 _ he4
      subst he3
      obtain ⟨z, hz⟩ : ∃ z, s.files[i]'hi1 = z := ⟨_, rfl⟩
      rw [hz] at hcf
      obtain ⟨D, S0⟩ := z
      have HTK : Hid ((s.sure.take (j + 1)).map (fun x => (x.1, let f := s.files.getD x.2.toNat ⟨⟨#[]⟩, 0⟩; f.d.extract 0 f.s)) = xs ++ [(X, D.extract 0 S0)]) := by
        show _ = _
        rw [htk]
        simp only [Int.toNat_natCast]
        rw [getFi hi1 hz]
      have hz0 : (0 : Int) ≤ (j : Int) := by omega
      have hz1 : (j : Int) < (s.sure.length : Int) := by omega
      have hy0 : (0 : Int) ≤ (i : Int) := by omega
      have hy1 : (i : Int) < (s.files.length : Int) := by omega
      have hdl := HDL.out
      have hiw : IntKind.i64.wrap ((j : Int) + 1) = (j : Int) + 1 := by rw [IntKind.wrap_i64] <;> omega
      have HIW : Hid (IntKind.i64.wrap ((j : Int) + 1) = (j : Int) + 1) := hiw
      have HI : Hid (j + 1 ≤ s.sure.length) := hlt
      have HXL : Hid (xs.length = j) := hxl
      have HC0 : Hid (W0.cell? ⟨g, o + j * 2, none⟩ = some (.string X)) := hc 0 _ rfl
      have HC1 : Hid (W0.cell? ⟨g, o + j * 2 + 1, none⟩ = some (.int .i64 (i : Int))) := hc 1 _ rfl
      have HSD : Hid (S0 ≤ D.size) := by have := (HFZ.out _ (List.getElem_mem hi1)).2; rw [hz] at this; exact this
      have HC3 : Hid (W0.cell? ⟨gf, of + i * 2 + 1, none⟩ = some (.int .i64 (S0 : Int))) := hcf 1 _ rfl
      have HC2 : Hid (W0.cell? ⟨gf, of + i * 2, none⟩ = some (.string D)) := hcf 0 _ rfl
      clear hk hc he2 hdf htk hxl hdl hbx hy hin hkf hcf he4 hz hi1 hiw
      go_upto_region 5 with fail
      clear x0 x1 x2 x3 x4 x5 x6 x7 x8 xf
      have hcur : Below W0.heap.size W0 wr.drew := HBX.out.trans (Below.refl _ wr).drew
      have HKS : Hid (∀ W, Below W0.heap.size W0 W → (W.cell? ⟨r, 2, none⟩ = some (.slice (some ⟨gf, of, none⟩) s.files.length kf) ∧ W.cell? ⟨r, 4, none⟩ = some (.slice (some ⟨g, o, none⟩) s.sure.length kd) ∧ W.cell? ⟨g, o + j * 2, none⟩ = some (.string X) ∧ W.cell? ⟨g, o + j * 2 + 1, none⟩ = some (.int .i64 (i : Int)) ∧ W.cell? ⟨gf, of + i * 2, none⟩ = some (.string D) ∧ W.cell? ⟨gf, of + i * 2 + 1, none⟩ = some (.int .i64 (S0 : Int)))) := fun W hW => by
        have h1 := keep_row HX.out hW
        exact ⟨by rw [cellC h1, ← HVF.out]; rfl, by rw [cellC h1, ← HVD.out]; rfl, cell_on HC0.out hW, cell_on HC1.out hW, cell_on HC2.out hW, cell_on HC3.out hW⟩
      have hcA : ∀ c, Below W0.heap.size W0 (wr.drew.alloc c) := fun c => hcur.alloc hcur.size _
      go_region_held3 (fun W : World => W.cell? ⟨r, 2, none⟩ = some (.slice (some ⟨gf, of, none⟩) s.files.length kf) ∧ W.cell? ⟨r, 4, none⟩ = some (.slice (some ⟨g, o, none⟩) s.sure.length kd) ∧ W.cell? ⟨g, o + j * 2, none⟩ = some (.string X) ∧ W.cell? ⟨g, o + j * 2 + 1, none⟩ = some (.int .i64 (i : Int)) ∧ W.cell? ⟨gf, of + i * 2, none⟩ = some (.string D) ∧ W.cell? ⟨gf, of + i * 2 + 1, none⟩ = some (.int .i64 (S0 : Int)))
        (first | exact HKS.out _ hcur | exact HKS.out _ (hcA _))
        (fail)
      obtain ⟨q, hq⟩ : ∃ q, wr.heap.size = q := ⟨_, rfl⟩
      have HQ : Hid (wr.heap.size = q) := hq
      obtain ⟨WE, hWE⟩ : ∃ WE, WE = (wr.alloc (.cells #[.string D, .int .i64 (S0 : Int)] 109)).drew := ⟨_, rfl⟩
      have hbE : Below wr.heap.size wr WE := by rw [hWE]; exact ((Below.refl _ wr).alloc (Nat.le_refl _) _).drew
      have HBE : Hid (Below W0.heap.size W0 WE) := HBX.out.trans (hbE.mono HBX.out.size)
      have hxE : WE.heap[q]? = some (.cells #[.string D, .int .i64 (S0 : Int)] 109) := by rw [hWE, ← hq]; exact one_alloc wr (.cells #[.string D, .int .i64 (S0 : Int)] 109)
      have HXE : Hid (WE.heap[q]? = some (.cells #[.string D, .int .i64 (S0 : Int)] 109)) := hxE
      have HOE : Hid (WE.ownsRow W0.heap.size paE.T paE.k (.slice Pv xs.length cv) xs.length (paE.fl xs)) := own_keep HOW.out (fun k _ hk => hbE.block k hk)
      rw [hq, ← hWE]
      clear hWE hq hbE hxE hcur hcA
      have hs0 : (0 : Int) ≤ (S0 : Int) := by omega
      have hs1 : (S0 : Int) ≤ (D.size : Int) := by have := HSD.out; omega
      go_upto_region 6 with fail
      have hcur : Below WE.heap.size WE WE.drew := (Below.refl _ WE).drew
      have HKS2 : Hid (∀ W, Below WE.heap.size WE W → (W.cell? ⟨r, 4, none⟩ = some (.slice (some ⟨g, o, none⟩) s.sure.length kd) ∧ W.cell? ⟨g, o + j * 2, none⟩ = some (.string X) ∧ W.cell? ⟨q, 0, none⟩ = some (.string D) ∧ W.cell? ⟨q, 1, none⟩ = some (.int .i64 (S0 : Int)))) := fun W hW => by
        have h1 := HKS.out W (HBE.out.trans (hW.mono HBE.out.size))
        obtain ⟨a, b, _⟩ := row2c (keep_row HXE.out hW)
        exact ⟨h1.2.1, h1.2.2.1, a, b⟩
      have hcA : Below WE.heap.size WE (WE.drew.alloc (.cells #[.string X, .string (D.extract 0 S0)] paE.T)) := hcur.alloc hcur.size _
      have HOA : Hid ((WE.drew.alloc (.cells #[.string X, .string (D.extract 0 S0)] paE.T)).ownsRow W0.heap.size paE.T paE.k (.slice Pv xs.length cv) xs.length (paE.fl xs)) := own_keep HOE.out (fun k _ hk => hcA.block k hk)
      have HON : Hid (∀ k, (Value.slice Pv xs.length cv).ownBlock = some k → k < q) := fun k hk => by have h1 := (World.ownsRow.lt HOW.out k hk).2; have h2 := HQ.out; omega
      have HQE : Hid (∀ W, Below W0.heap.size (WE.drew.alloc (.cells #[.string X, .string (D.extract 0 S0)] paE.T)) W → (WE.drew.alloc (.cells #[.string X, .string (D.extract 0 S0)] paE.T)).grownBy W (Value.slice Pv xs.length cv).ownBlock → W.cell? ⟨r, 4, none⟩ = some (.slice (some ⟨g, o, none⟩) s.sure.length kd) ∧ W.cell? ⟨g, o + j * 2, none⟩ = some (.string X) ∧ W.cell? ⟨q, 0, none⟩ = some (.string D) ∧ W.cell? ⟨q, 1, none⟩ = some (.int .i64 (S0 : Int))) := fun W hW hg => by
        have h1 := HKS.out W ((HBE.out.trans (hcA.mono HBE.out.size)).trans hW)
        have h2 := keep_row HXE.out hcA
        have h3 : W.heap[q]? = some (.cells #[.string D, .int .i64 (S0 : Int)] 109) := (hg.block q (row_lt h2) (fun e => by have := HON.out q e.symm; omega)).trans h2
        obtain ⟨a, b, _⟩ := row2c h3
        exact ⟨h1.2.1, h1.2.2.1, a, b⟩
      go_region_held3 (fun W : World => W.cell? ⟨r, 4, none⟩ = some (.slice (some ⟨g, o, none⟩) s.sure.length kd) ∧ W.cell? ⟨g, o + j * 2, none⟩ = some (.string X) ∧ W.cell? ⟨q, 0, none⟩ = some (.string D) ∧ W.cell? ⟨q, 1, none⟩ = some (.int .i64 (S0 : Int)))
        (first | exact HKS2.out _ hcur | exact HKS2.out _ hcA | exact HQE.out _ hg9 hgr9)
        (first | (refine step_app1g paOk #[.string X, .string (D.extract 0 S0)] (X, D.extract 0 S0) rfl rfl (.tmp 23) (.tmp 36) rfl W0.heap.size (.slice Pv xs.length cv) xs (by simp [Act.eval, Act.put]) HOA.out WE.drew.heap.size (by simp [Act.eval, Act.put]) (one_alloc _ _) (by have := HXL.out; have := HI.out; have := HDL.out; unfold maxLen; omega) (by have := HXL.out; have := HI.out; have := HDL.out; show _ * 32 ≤ _; omega) (HBE.out.trans (hcA.mono HBE.out.size)).size ?_; intro v9 w9 ho9 hg9 hgr9; obtain ⟨P9, k9, hf9⟩ := own_form ho9; subst hf9; have hb9 : Below W0.heap.size W0 w9 := (HBE.out.trans (hcA.mono HBE.out.size)).trans hg9))
      have HO5 : Hid (w9.ownsRow W0.heap.size paE.T paE.k (.slice P9 (xs.length + 1) k9) (xs.length + 1) (paE.fl (xs ++ [(X, D.extract 0 S0)]))) := ho9
      have HB5 : Hid (Below W0.heap.size W0 w9) := hb9
      have hiw := HIW.out
      clear ho9 hb9 hg9 hgr9 hcA hcur
      go_wp2
      go_roundw
      case rel => exact ⟨j + 1, xs ++ [(X, D.extract 0 S0)], P9, k9, HI.out, rfl, by simp, HTK.out, by have := HXL.out; simp; omega, by simpa using HO5.out, HB5.out⟩
      case measure => have := HI.out; simp [intOf]; omega
    · have he : j = s.sure.length := by omega
      have HFI : Hid (safeM s = xs) := by show _ = _; unfold safeM; rw [← hdf, he, List.take_length]
      subst he
      clear hlt hdf hbx hxl
      go_wp2
      go_ret
      refine ⟨_, rfl, ?_, fun g o n c e hk => ?_, ?_⟩
      · rw [HFI.out]
        exact KR.own HOW.out rfl
      · have h1 := KR_ge HOW.out e
        have h2 := HB.out.size
        have h3 : g < w.heap.size := hk
        omega
      · exact HB.out.trans (HBX.out.mono HB.out.size)
end Go.Proofs.YtlheilkofibogaaGreat
