import Derived.Test.YtencjopnbmbhkaaGreatPhF
namespace Go.Proofs.YtencjopnbmbhkaaGreat
open Go.RowKit Go.Maps
set_option linter.unusedVariables false
set_option linter.unusedSimpArgs false
theorem eM_app1 (args : Array Value) (w : World) : (callFunc 68 args).run Tryz.prog w = .ok (.enter 68 args) w := by kernel_rfl
theorem eM_app2 (args : Array Value) (w : World) : (callFunc 70 args).run Tryz.prog w = .ok (.enter 70 args) w := by kernel_rfl
set_option maxHeartbeats 1000000 in
theorem Append1_any (b0 b1 T0 T1 fbk i : Nat) (x : Fi) (pv : Value) (ps : List ByteArray) (dat : ByteArray) (w : World) (h0 : w.heap[b0]? = some (.cells #[ptr (some fbk)] T0)) (h1 : w.heap[b1]? = some (.cells #[.string dat] T1)) (hf : FileAt w fbk i x pv ps) (hd : x.d.size + dat.size ≤ 1073741824) :
    Calls Tryz.prog 68 #[.pointer (some ⟨b0, 0, none⟩), .pointer (some ⟨b1, 0, none⟩)] w fun e w' => e = .returned (.tuple #[]) ∧ Lyd w fbk i ⟨x.d ++ dat, x.s⟩ pv w' := by
  have c0 := cell1 h0
  have c1 := cell1 h1
  have HC : Hid _ := lay_any fbk i x pv ps dat w hf hd
  clear h0 h1 hf hd
  unfold ptr at c0 HC
  go_enter Tryz.func68, Tryz.ntmps68
  go_wp2_with fail
  refine (show Calls _ _ _ _ _ from HC.out).mono ?_
  rintro e w1 ⟨rfl, hp⟩
  have HP : Hid _ := hp
  clear hp
  go_wp2
  go_end0
  exact ⟨rfl, HP.out⟩
/-- how much of an Append that fails is laid in. -/
def clampP (p : Int) (n : Nat) : Nat := (max 0 (min p (n : Int))).toNat
set_option maxHeartbeats 2000000 in
set_option maxRecDepth 100000 in
theorem Append2_any (b0 b1 T0 T1 fbk i : Nat) (x : Fi) (pv : Value) (ps : List ByteArray) (dat : ByteArray) (p : Int) (w : World) (h0 : w.heap[b0]? = some (.cells #[ptr (some fbk)] T0)) (h1 : w.heap[b1]? = some (.cells #[.string dat] T1)) (hf : FileAt w fbk i x pv ps) (hd : x.d.size + dat.size ≤ 1073741824) (hne : b0 ≠ fbk ∧ b1 ≠ fbk ∧ pv.ownBlock ≠ some b0 ∧ pv.ownBlock ≠ some b1) :
    Calls Tryz.prog 70 #[.int .i64 p, .pointer (some ⟨b0, 0, none⟩), .pointer (some ⟨b1, 0, none⟩)] w fun e w' => e = .returned (.tuple #[]) ∧ Lyd w fbk i ⟨x.d ++ dat.extract 0 (clampP p dat.size), x.s⟩ pv w' := by
  have c0 : w.drew.cell? ⟨b0, 0, none⟩ = some (.pointer (some ⟨fbk, 0, none⟩)) := cell1 h0
  have c1 : w.drew.cell? ⟨b1, 0, none⟩ = some (.string dat) := cell1 h1
  obtain ⟨q, hq⟩ : ∃ q, clampP p dat.size = q := ⟨_, rfl⟩
  have hqs : q ≤ dat.size := by rw [← hq]; unfold clampP; omega
  have hmm : min (max p 0) (dat.size : Int) = (q : Int) := by rw [← hq]; unfold clampP; omega
  have HC : Hid (∀ m, Calls Tryz.prog 69 #[ptr (some fbk), .string (dat.extract 0 q)] (w.drewN m) fun e w' => e = .returned (.tuple #[]) ∧ Lyd (w.drewN m) fbk i ⟨x.d ++ dat.extract 0 q, x.s⟩ pv w') := fun m => lay_any fbk i x pv ps (dat.extract 0 q) (w.drewN m) (hf.to rfl (fun k hk => rfl)) (by rw [ext_size _ _ _ hqs]; omega)
  rw [hq]
  obtain ⟨mx, hmx⟩ : ∃ mx, max p 0 = mx := ⟨_, rfl⟩
  rw [hmx] at hmm
  have H0 : Hid (w.heap[b0]? = some (.cells #[ptr (some fbk)] T0)) := h0
  have H1 : Hid (w.heap[b1]? = some (.cells #[.string dat] T1)) := h1
  have HNE : Hid (b0 ≠ fbk ∧ b1 ≠ fbk ∧ pv.ownBlock ≠ some b0 ∧ pv.ownBlock ≠ some b1) := hne
  clear h0 h1 hf hd hq hne
  unfold ptr at HC
  go_enter Tryz.func70, Tryz.ntmps70
  go_wp2_with fail
  go_region_held3 (fun W : World => W.cell? ⟨b0, 0, none⟩ = some (.pointer (some ⟨fbk, 0, none⟩)) ∧ W.cell? ⟨b1, 0, none⟩ = some (.string dat))
    (first | with_reducible exact ⟨c0, c1⟩ | with_reducible exact ⟨q0, q1⟩)
    (first | (go_at_call 69; refine (show Calls _ _ _ _ _ from HC.out 1).mono ?_; rintro e w1 ⟨rfl, hp⟩; have HP : Hid (Lyd (w.drewN 1) fbk i ⟨x.d ++ dat.extract 0 q, x.s⟩ pv w1) := hp; obtain ⟨pv', ps', hF', hM', hL'⟩ := hp; have q0 : w1.cell? ⟨b0, 0, none⟩ = some (.pointer (some ⟨fbk, 0, none⟩)) := cell1 (hM'.row (k := b0) H0.out (by have := HNE.out; simp [this.1, this.2.2.1])); have q1 : w1.cell? ⟨b1, 0, none⟩ = some (.string dat) := cell1 (hM'.row (k := b1) H1.out (by have := HNE.out; simp [this.2.1, this.2.2.2]))))
  go_end0
  obtain ⟨pv2, ps2, f2, m2, l2⟩ := HP.out
  exact ⟨rfl, pv2, ps2, f2, ⟨m2.os, m2.tape, m2.output, m2.size, m2.oth⟩, l2⟩
/-- A file's name, its file, in a state. -/
theorem app_fin {F : Fs} {n dat : ByteArray} {i : Nat} (h0 : hasM F n = 0) (hi : (findM F.dir n).toNat = i) (hl : ¬ 1073741824 < (F.files.getD i ⟨⟨#[]⟩, 0⟩).d.size + dat.size) : ((stepM F).2.1 = 0 → (stepM F).1 = up1 F → appendM F n dat = ({ up1 F with files := F.files.set i ⟨(F.files.getD i ⟨⟨#[]⟩, 0⟩).d ++ dat, (F.files.getD i ⟨⟨#[]⟩, 0⟩).s⟩ }, 0)) ∧ ((stepM F).2.1 = 200 → (stepM F).1 = up1 F → appendM F n dat = ({ up1 F with files := F.files.set i ⟨(F.files.getD i ⟨⟨#[]⟩, 0⟩).d ++ dat.extract 0 (clampP (stepM F).2.2 dat.size), (F.files.getD i ⟨⟨#[]⟩, 0⟩).s⟩ }, 200)) ∧ ((stepM F).2.1 = 203 → appendM F n dat = ((stepM F).1, 203)) := by
  unfold appendM
  rw [if_pos h0, hi]
  simp only []
  rw [if_neg hl]
  refine ⟨fun a b => ?_, fun a b => ?_, fun a => ?_⟩
  · rw [if_neg (by omega), if_neg (by omega), b, a]; rfl
  · rw [if_neg (by omega), if_pos a, b, a]; rfl
  · rw [if_pos a]
set_option maxHeartbeats 2000000 in
set_option maxRecDepth 100000 in
theorem Append_any (HGD : GoDownC) (g : Nat) (X : Gh) (F : Fs) (n dat : ByteArray) (hn : n.size ≤ 140737488355328) (hdt : dat.size ≤ 140737488355328) (w : World) (h : FsP w g X F) (hs : Sm F X) (hs1 : F.steps < 2199023255552) (hpk : F.picks.length ≤ 17592186044416) :
    Calls Tryz.prog 23 #[ptr (some g), .string n, .string dat] w fun e w' => e = .returned (.int .i64 (appendM F n dat).2) ∧ ∃ X', Bec w g X F w' X' (appendM F n dat).1 := by
  obtain ⟨R, hR⟩ : ∃ R, w.heap.size = R := ⟨_, rfl⟩
  obtain ⟨W0, hW0⟩ : ∃ W0, w.alloc (.cells #[.string dat] 9) = W0 := ⟨_, rfl⟩
  have n1 : W0.heap[R]? = some (.cells #[.string dat] 9) := by rw [← hW0, ← hR]; exact one_alloc _ _
  have n4 : Below w.heap.size w W0 := by rw [← hW0]; exact (Below.refl _ _).alloc (Nat.le_refl _) _
  have hF0 : FsP W0 g X F := h.on n4
  have HFI : Hid _ := find0_any g X F n hn W0 hF0
  have HB0 : Hid (Below w.heap.size w W0) := n4
  have HN1 : Hid (W0.heap[R]? = some (.cells #[.string dat] 9)) := n1
  have HRR : Hid (w.heap.size = R) := hR
  by_cases h0 : hasM F n = 0
  · obtain ⟨hd, hnm, hf⟩ := has_zero.1 h0
    obtain ⟨i, hi1, hi2, hi3, hl⟩ := h.named hf
    have hy := fnd_yes (X := X) (os := []) hd (by simpa using hnm) hf
    rw [hy, h0, hi2] at HFI
    obtain ⟨x, hxx⟩ : ∃ x, F.files.getD i ⟨⟨#[]⟩, 0⟩ = x := ⟨_, rfl⟩
    have hxb : x.d.size ≤ 1073741824 := by rw [← hxx]; exact (h.file hl).big
    have HFL : Hid (∀ W, Below w.heap.size w W → FileAt W (X.fb i) i x (X.pv i) (X.ps i)) := fun W hb => by rw [← hxx]; exact (h.on hb).file hl
    have hfbR : X.fb i < R := by rw [← hR]; exact h.own_lt (own_file hl)
    have hpvR : ∀ k, (X.pv i).ownBlock = some k → k < R := fun k hk => by rw [← hR]; exact h.own_lt (Or.inr (Or.inr (Or.inr (Or.inl ⟨i, hl, Or.inr hk⟩))))
    have HFS : Hid (∀ W, Below w.heap.size w W → FsP W g X F) := fun W hb => h.on hb
    by_cases hlong : 1073741824 < x.d.size + dat.size
    · have hM : appendM F n dat = (F, 2) := by
        unfold appendM
        rw [if_pos h0]
        simp only []
        rw [hi2, hxx, if_pos hlong]
      rw [hM]
      obtain ⟨sz, hsz⟩ : ∃ sz, x.d.size = sz := ⟨_, rfl⟩
      rw [hsz] at hlong hxb
      have hw1 : IntKind.i64.wrap ((1073741824 : Int) - (sz : Int)) = ((1073741824 - sz : Nat) : Int) := by rw [IntKind.wrap_i64] <;> omega
      have hgt : ((1073741824 - sz : Nat) : Int) < (dat.size : Int) := by omega
      have HSZ : Hid (x.d.size = sz) := hsz
      obtain ⟨bb, hbb⟩ : ∃ bb, X.fb i = bb := ⟨_, rfl⟩
      rw [hbb] at HFI HFL
      clear h hs hs1 hpk hd hnm hf hi1 hi2 hi3 hl hy h0 n1 n4 hF0 hM hsz hxx hbb hfbR hpvR
      unfold ptr at HFI ⊢
      go_enter Tryz.func23, Tryz.ntmps23
      go_wp2_with fail
      refine (show Calls _ _ _ _ _ from HFI.out).mono ?_
      rintro e w1 ⟨rfl, hb1⟩
      have HB1 : Hid (Below w.heap.size w w1) := bel_to HB0.out hb1 (Nat.le_refl _)
      have r1 := keep_row HN1.out hb1
      obtain ⟨W2, hW2⟩ : ∃ W2, w1.alloc (.cells #[.pointer (some ⟨bb, 0, none⟩)] 67) = W2 := ⟨_, rfl⟩
      obtain ⟨b, hb⟩ : ∃ b, w1.heap.size = b := ⟨_, rfl⟩
      have hb2 : Below w1.heap.size w1 W2 := by rw [← hW2]; exact (Below.refl _ _).alloc (Nat.le_refl _) _
      have r3 : W2.heap[b]? = some (.cells #[.pointer (some ⟨bb, 0, none⟩)] 67) := by rw [← hW2, ← hb]; exact one_alloc _ _
      have HB2 : Hid (Below w.heap.size w W2) := bel_to HB1.out hb2 (Nat.le_refl _)
      have d0 := cell1 (keep_row r1 hb2)
      have d1 := cell1 r3
      obtain ⟨_, _, d2, _, _⟩ := file_cells (HFL.out W2 HB2.out).blk
      rw [HSZ.out] at d2
      clear hb1 r1 r3 hb2 hW0
      go_upto_region 4 with fail
      go_quiet (fail)
      go_wp2
      go_returns
      have hbq : Below w.heap.size w (W2.drewN nq) := below_dn HB2.out _
      exact ⟨rfl, X, (Bec.refl (HFS.out _ hbq)).pre hbq⟩
    · obtain ⟨f1, f2, f3⟩ := app_fin (dat := dat) h0 hi2 (by rw [hxx]; exact hlong)
      have HST : Hid (∀ W b, Below w.heap.size w W → W.heap[R]? = some (.cells #[.string dat] 9) → R ≤ b → W.heap[b]? = some (.cells #[ptr (some (X.fb i))] 67) → Calls Tryz.prog 67 #[ptr (some g), .func (.func 68) #[] #[.pointer (some ⟨b, 0, none⟩), .pointer (some ⟨R, 0, none⟩)], .func (.func 70) #[] #[.pointer (some ⟨b, 0, none⟩), .pointer (some ⟨R, 0, none⟩)]] W fun e w' => StepP g X F W (fun w1 w' => Lyd w1 (X.fb i) i ⟨x.d ++ dat, x.s⟩ (X.pv i) w') (fun X1 w1 p w' => Lyd w1 (X.fb i) i ⟨x.d ++ dat.extract 0 (clampP p dat.size), x.s⟩ (X.pv i) w') e w') := fun W b hb r1 rb r3 => stepOrPart_any HGD g X F 68 eM_app1 #[] _ 70 eM_app2 #[] _ _ _ W (h.on hb) hs hs1 hpk (fun w1 hm hF => by
          have hfl := hF.file hl
          have e : (up1 F).files.getD i ⟨⟨#[]⟩, 0⟩ = x := hxx
          rw [e] at hfl
          exact Append1_any b R _ _ (X.fb i) i x _ _ dat w1 (hm.fresh h r3 (by omega)) (hm.fresh h r1 (by omega)) hfl (by omega)) (fun w1 qv qs p hB => by
          have hfl := hB.is.file (i := i) hl
          have e : (up1 F).files.getD i ⟨⟨#[]⟩, 0⟩ = x := hxx
          rw [e] at hfl
          exact Append2_any b R _ _ (X.fb i) i x _ _ dat p w1 (hB.md.fresh h r3 (by omega)) (hB.md.fresh h r1 (by omega)) hfl (by omega) ⟨by omega, by omega, fun e1 => by have := hpvR b e1; omega, fun e1 => by have := hpvR R e1; omega⟩)
      have HFN : Hid (∀ W w' e, Below w.heap.size w W → StepP g X F W (fun w1 w' => Lyd w1 (X.fb i) i ⟨x.d ++ dat, x.s⟩ (X.pv i) w') (fun X1 w1 p w' => Lyd w1 (X.fb i) i ⟨x.d ++ dat.extract 0 (clampP p dat.size), x.s⟩ (X.pv i) w') e w' → e = .returned (.int .i64 (appendM F n dat).2) ∧ ∃ X', Bec w g X F w' X' (appendM F n dat).1) := fun W w' e hb hp => by
        rw [hxx] at f1 f2
        obtain ⟨he, hc⟩ := hp
        rcases hc with ⟨a, b, w1, c, d, pv', ps', q1, q2, q3⟩ | ⟨a, b, w1, qv, qs, c, pv', ps', q1, q2, q3⟩ | ⟨a, X', c⟩
        · rw [f1 a b, he, a]
          have hB := d.file_set hl q1 q2 q3
          refine ⟨rfl, _, (Bec.pre (W := W) hb ⟨hB.is, c.andThen hB.md (fun j _ hj => hj), fun k hk => (hB.own k hk).imp id (fun q => Nat.le_trans c.size q), hB.len⟩)⟩
        · rw [f2 a b, he, a]
          have hB := c.is.file_set (i := i) hl q1 q2 q3
          refine ⟨rfl, _, (Bec.pre (W := W) hb ⟨hB.is, c.md.andThen hB.md (fun j hj hk => ?_), fun k hk => ?_, ?_⟩)⟩
          · rcases c.own j hk with h1 | h1
            · exact h1
            · omega
          · rcases hB.own k hk with h1 | h1
            · exact c.own k h1
            · exact Or.inr (Nat.le_trans c.md.size h1)
          · exact c.len
        · rw [f3 a, he, a]
          exact ⟨rfl, X', c.pre hb⟩
      obtain ⟨sz, hsz⟩ : ∃ sz, x.d.size = sz := ⟨_, rfl⟩
      rw [hsz] at hlong hxb
      have hw1 : IntKind.i64.wrap ((1073741824 : Int) - (sz : Int)) = ((1073741824 - sz : Nat) : Int) := by rw [IntKind.wrap_i64] <;> omega
      have hgt : ¬ ((1073741824 - sz : Nat) : Int) < (dat.size : Int) := by omega
      have HSZ : Hid (x.d.size = sz) := hsz
      obtain ⟨bb, hbb⟩ : ∃ bb, X.fb i = bb := ⟨_, rfl⟩
      rw [hbb] at HFI HFL HST HFN
      clear h hs hs1 hpk hd hnm hf hi1 hi2 hi3 hl hy h0 n1 n4 hF0 hsz hxx hbb hfbR hpvR f1 f2 f3
      unfold ptr at HFI HST ⊢
      go_enter Tryz.func23, Tryz.ntmps23
      go_wp2_with fail
      refine (show Calls _ _ _ _ _ from HFI.out).mono ?_
      rintro e w1 ⟨rfl, hb1⟩
      have HB1 : Hid (Below w.heap.size w w1) := bel_to HB0.out hb1 (Nat.le_refl _)
      have r1 := keep_row HN1.out hb1
      obtain ⟨W2, hW2⟩ : ∃ W2, w1.alloc (.cells #[.pointer (some ⟨bb, 0, none⟩)] 67) = W2 := ⟨_, rfl⟩
      obtain ⟨b, hb⟩ : ∃ b, w1.heap.size = b := ⟨_, rfl⟩
      have hb2 : Below w1.heap.size w1 W2 := by rw [← hW2]; exact (Below.refl _ _).alloc (Nat.le_refl _) _
      have r3 : W2.heap[b]? = some (.cells #[.pointer (some ⟨bb, 0, none⟩)] 67) := by rw [← hW2, ← hb]; exact one_alloc _ _
      have HB2 : Hid (Below w.heap.size w W2) := bel_to HB1.out hb2 (Nat.le_refl _)
      have HR1 : Hid (W2.heap[R]? = some (.cells #[.string dat] 9)) := keep_row r1 hb2
      have HR3 : Hid (W2.heap[b]? = some (.cells #[.pointer (some ⟨bb, 0, none⟩)] 67)) := r3
      have HBL : Hid (R ≤ b) := by have := HB1.out.size; have := HRR.out; show R ≤ b; omega
      have d0 := cell1 (keep_row r1 hb2)
      have d1 := cell1 r3
      obtain ⟨_, _, d2, _, _⟩ := file_cells (HFL.out W2 HB2.out).blk
      rw [HSZ.out] at d2
      clear hb1 r1 r3 hb2 hW0
      go_upto_region 4 with fail
      go_quiet (fail)
      obtain ⟨W3, hW3⟩ : ∃ W3, W2.drewN nq = W3 := ⟨_, rfl⟩
      have HB3 : Hid (Below w.heap.size w W3) := by
        show Below _ _ _
        rw [← hW3]; exact below_dn HB2.out _
      have HS3 : Hid _ := HST.out W3 b HB3.out (by rw [← hW3]; exact HR1.out) HBL.out (by rw [← hW3]; exact HR3.out)
      rw [hW3]
      clear hW3 d0 d1 d2
      go_wp2_with fail
      refine (show Calls _ _ _ _ _ from HS3.out).mono ?_
      rintro e w4 hp
      obtain ⟨he, hB⟩ := HFN.out W3 w4 e HB3.out hp
      have HBB : Hid _ := hB
      subst he
      clear hp hB
      go_wp2
      go_returns
      exact ⟨rfl, HBB.out⟩
  · have hno := fnd_no (F := F) (X := X) (n := n) (os := []) (fun hh => h0 (has_zero.2 ⟨hh.1, by simpa using hh.2.1, hh.2.2⟩))
    rw [hno.1] at HFI
    have hM : appendM F n dat = (F, hasM F n) := by unfold appendM; rw [if_neg h0]
    rw [hM]
    have HFP : Hid (FsP W0 g X F) := hF0
    obtain ⟨er, her⟩ : ∃ er, hasM F n = er := ⟨_, rfl⟩
    rw [her] at HFI h0 ⊢
    have hne : (er == 0) = false := by simpa using h0
    clear h hs hs1 hpk hno hM her n1 n4 hF0
    unfold ptr at HFI ⊢
    go_enter Tryz.func23, Tryz.ntmps23
    go_wp2_with fail
    refine (show Calls _ _ _ _ _ from HFI.out).mono ?_
    rintro e w1 ⟨rfl, hb1⟩
    have HB1 : Hid (Below W0.heap.size W0 w1) := hb1
    clear hb1 hW0
    go_wp2
    go_returns
    refine ⟨rfl, X, ?_⟩
    have hb4 : Below w1.heap.size w1 (w1.alloc (.cells #[.pointer none] 67)) := (Below.refl _ _).alloc (Nat.le_refl _) _
    exact (Bec.refl ((HFP.out.on HB1.out).on hb4)).pre (bel_to (bel_to HB0.out HB1.out (Nat.le_refl _)) hb4 (Nat.le_refl _))
end Go.Proofs.YtencjopnbmbhkaaGreat
