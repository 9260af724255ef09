import Derived.Test.YtencjopnbmbhkaaGreatPhF
namespace Go.Proofs.YtencjopnbmbhkaaGreat
open Go.RowKit Go.Maps
set_option linter.unusedVariables false
set_option linter.unusedSimpArgs false
theorem three_new {w : World} (a b c : Obj) : (((w.alloc a).alloc b).alloc c).heap[w.heap.size]? = some a ∧ (((w.alloc a).alloc b).alloc c).heap[w.heap.size + 1]? = some b ∧ (((w.alloc a).alloc b).alloc c).heap[w.heap.size + 2]? = some c ∧ (((w.alloc a).alloc b).alloc c).heap.size = w.heap.size + 3 ∧ Below w.heap.size w (((w.alloc a).alloc b).alloc c) := by
  obtain ⟨h1, h2, h3, h4⟩ := two_new (w := w) a b
  refine ⟨(heap_alloc_old _ _ (by omega)).trans h1, (heap_alloc_old _ _ (by omega)).trans h2, ?_, by simp, h4.alloc (by omega) _⟩
  rw [← h3]; exact one_alloc _ _
theorem ren_no {F : Fs} {X : Gh} {n t : ByteArray} (h : ¬ (F.down = false ∧ namedM t = true ∧ namedM n = true ∧ ¬ findM F.dir n < 0)) : (fndM F X n [t]).1 = .pointer none ∧ (fndM F X n [t]).2 ≠ 0 ∧ renameM F n t = (F, (fndM F X n [t]).2) := by
  have h1 := fnd_no (F := F) (X := X) (n := n) (os := [t]) (fun hh => h ⟨hh.1, by have := hh.2.1; simp at this; exact this.1, by have := hh.2.1; simp at this; exact this.2, hh.2.2⟩)
  refine ⟨h1.1, h1.2, ?_⟩
  unfold renameM fndM chkM hasM
  simp only [List.cons_append, List.nil_append, List.all_cons, List.all_nil, Bool.and_true]
  by_cases hd : F.down
  · simp [hd]
  · simp only [hd, if_false, Bool.false_eq_true, Bool.not_false, Bool.true_and]
    by_cases ht : namedM t = true
    · simp only [ht, Bool.not_true, Bool.false_eq_true, if_false, Bool.true_and]
      by_cases hn : namedM n = true
      · simp only [hn, if_true]
        by_cases hf : findM F.dir n < 0
        · simp [hf]
        · exact absurd ⟨by simpa using hd, ht, hn, hf⟩ h
      · simp [hn]
    · simp only [Bool.not_eq_true] at ht
      simp [ht]
set_option maxHeartbeats 2000000 in
set_option maxRecDepth 100000 in
theorem Rename_any (HGD : GoDownC) (g : Nat) (X : Gh) (F : Fs) (n t : ByteArray) (hn : n.size ≤ 140737488355328) (ht : t.size ≤ 140737488355328) (w : World) (h : FsP w g X F) (hs : Sm F X) (hs1 : F.steps < 2199023255552) (hpk : F.picks.length ≤ 17592186044416) :
    Calls Tryz.prog 26 #[ptr (some g), .string n, .string t] w fun e w' => e = .returned (.int .i64 (renameM F n t).2) ∧ ∃ X', Bec w g X F w' X' (renameM F n t).1 := by
  obtain ⟨R, hR⟩ : ∃ R, w.heap.size = R := ⟨_, rfl⟩
  obtain ⟨n1, n2, n2', n3, n4⟩ := three_new (w := w) (.cells #[.pointer (some ⟨g, 0, none⟩)] 24) (.cells #[.string n] 9) (.cells #[.string t] 9)
  obtain ⟨W0, hW0⟩ : ∃ W0, ((w.alloc (.cells #[.pointer (some ⟨g, 0, none⟩)] 24)).alloc (.cells #[.string n] 9)).alloc (.cells #[.string t] 9) = W0 := ⟨_, rfl⟩
  rw [hW0] at n1 n2 n2' n3 n4
  rw [hR] at n1 n2 n2' n3
  obtain ⟨W1, hW1⟩ : ∃ W1, W0.alloc (.cells #[.string t] 9) = W1 := ⟨_, rfl⟩
  have m4 : Below W0.heap.size W0 W1 := by rw [← hW1]; exact (Below.refl _ _).alloc (Nat.le_refl _) _
  have m1 : W1.heap[R + 3]? = some (.cells #[.string t] 9) := by rw [← hW1, ← n3]; exact one_alloc _ _
  have hF0 : FsP W1 g X F := (h.on n4).on m4
  have hfr : ∀ k, Own g F X k → k < R := fun k hk => by have := h.own_lt hk; omega
  have hfk : ∀ k, (Value.slice (some ⟨R + 3, 0, none⟩) 1 1).ownBlock = some k → ¬ Own g F X k := fun k hk ho => by
    have h1 := hfr k ho
    have e : R + 3 = k := by simpa [Value.ownBlock] using hk
    omega
  have HFI : Hid (Calls Tryz.prog 45 #[ptr (some g), .string n, .slice (some ⟨R + 3, 0, none⟩) 1 1] W1 fun e w' => e = .returned (.tuple #[(fndM F X n [t]).1, .int .i64 (fndM F X n [t]).2]) ∧ ModP (fun k => k = R + 3) W1 w' ∧ FsP w' g X F) := by
    refine (find_any g X F n hn (.slice (some ⟨R + 3, 0, none⟩) 1 1) [t] (by simp) (fun s hs => by simp at hs; subst hs; exact ht) W1 hF0 ⟨rfl, Or.inr ⟨R + 3, 1, #[.string t], rfl, Nat.zero_le _, m1, Nat.le_refl _, by unfold maxLen; omega, rfl, rfl⟩⟩ hfk).mono ?_
    rintro e w' ⟨rfl, h1, h2⟩
    exact ⟨rfl, h1.weak (fun k _ hk => by cases hk; rfl), h2⟩
  have HB0 : Hid (Below w.heap.size w W1) := bel_to n4 m4 (Nat.le_refl _)
  have HN1 : Hid (W1.heap[R]? = some (.cells #[.pointer (some ⟨g, 0, none⟩)] 24)) := keep_row n1 m4
  have HN2 : Hid (W1.heap[R + 1]? = some (.cells #[.string n] 9)) := keep_row n2 m4
  have HN3 : Hid (W1.heap[R + 2]? = some (.cells #[.string t] 9)) := keep_row n2' m4
  have HRR : Hid (w.heap.size = R) := hR
  have HS0 : Hid (W0.heap.size = R + 3) := n3
  have c0 := cell1 n1
  have c1 := cell1 n2
  have c2 := cell1 n2'
  by_cases h0 : F.down = false ∧ namedM t = true ∧ namedM n = true ∧ ¬ findM F.dir n < 0
  · obtain ⟨hd, htm, hnm, hf⟩ := h0
    have h00 : hasM F n = 0 := has_zero.2 ⟨hd, hnm, hf⟩
    obtain ⟨i, hi1, hi2, hi3, hl⟩ := h.named hf
    have hy := fnd_yes (X := X) (os := [t]) hd (by simp [htm, hnm]) hf
    rw [hy, hi2] at HFI
    have hxi : F.files[i]? = some F.files[i] := List.getElem?_eq_getElem hi3
    have hck : COk (up1 F) ⟨n, t, (i : Int)⟩ i := cok_rename (F := up1 F) h.ok.dir hnm htm hi1 hi3
    have htz : ¬ t.size = 0 := by have := (named_size htm).1; omega
    have hpc : pcOf ⟨n, t, (i : Int)⟩ (X.fb i) = ⟨n, t, X.fb i⟩ := if_neg htz
    have HST : Hid (∀ W b, Below w.heap.size w W → W.heap[R]? = some (.cells #[ptr (some g)] 24) → W.heap[R + 1]? = some (.cells #[.string n] 9) → W.heap[R + 2]? = some (.cells #[.string t] 9) → R ≤ b → W.heap[b]? = some (.cells #[ptr (some (X.fb i))] 67) → Calls Tryz.prog 46 #[ptr (some g), .func (.func 71) #[] #[.pointer (some ⟨R, 0, none⟩), .pointer (some ⟨R + 1, 0, none⟩), .pointer (some ⟨R + 2, 0, none⟩), .pointer (some ⟨b, 0, none⟩)]] W fun e w' => StepP g X F W (ChgF g X (up1 F) ⟨n, t, (i : Int)⟩ i) (fun _ w1 _ w' => w' = w1) e w') := fun W b hb r1 r2 r2' rb r3 => step_any HGD g X F 71 eM_rename #[] _ _ W (h.on hb) hs hs1 hpk (fun w1 hm hF => by
      refine Rename1_any g R (R + 1) (R + 2) b _ _ _ _ (X.fb i) n t _ w1 (hm.fresh h r1 (by omega)) (hm.fresh h r2 (by omega)) (hm.fresh h r2' (by omega)) (hm.fresh h r3 (by omega)) ?_
      have hch := changeF_any g X (up1 F) ⟨n, t, (i : Int)⟩ i F.files[i] w1 hF ⟨by show F.steps + 1 ≤ _; omega, hs.fi, hs.ch, hs.qs⟩ hck hxi (hF.fil i _ hl hxi) (fun j hj hne => hF.inj j i hj hl hne)
      rw [hpc] at hch
      exact hch)
    have HFN : Hid (∀ W w' e, Below w.heap.size w W → StepP g X F W (ChgF g X (up1 F) ⟨n, t, (i : Int)⟩ i) (fun _ w1 _ w' => w' = w1) e w' → e = .returned (.int .i64 (renameM F n t).2) ∧ ∃ X', Bec w g X F w' X' (renameM F n t).1) := fun W w' e hb hp => by
      refine hp.fin hb (renameM F n t) (fun a b => ?_) (fun a => ?_)
      · have hM : renameM F n t = (changeM (up1 F) ⟨n, t, (i : Int)⟩, 0) := by
          unfold renameM
          rw [if_neg (by simp [hd, htm]), if_pos h00]
          simp only []
          rw [if_pos a, b, hi1]
        rw [hM]
        exact ⟨rfl, fun w1 hm hF hpd => hpd.bec hl (fun j => Iff.rfl) hm⟩
      · unfold renameM
        rw [if_neg (by simp [hd, htm]), if_pos h00]
        simp only []
        rw [if_neg a]
    generalize X.fb i = bb at *
    have hs0' := n3
    clear h hs hs1 hpk hd hnm htm hf hi1 hi2 hi3 hl hy h00 n1 n2 n2' n3 n4 m1 m4 hF0 hxi hck htz hpc hfr hfk
    unfold ptr at HFI HST ⊢
    go_enter Tryz.func26, Tryz.ntmps26
    go_wp2_with fail
    refine (show Calls _ _ _ _ _ from HFI.out).mono ?_
    rintro e w1 ⟨rfl, hm1, _⟩
    have HB1 : Hid (Below w.heap.size w w1) := HB0.out.trans (hm1.bel (fun k hk e => by have := HRR.out; omega) (by have := HB0.out.size; omega))
    have r1 := hm1.row HN1.out (by omega)
    have r2 := hm1.row HN2.out (by omega)
    have r2' := hm1.row HN3.out (by omega)
    have hs0 := HS0.out
    obtain ⟨W2, hW2⟩ : ∃ W2, w1.alloc (.cells #[.pointer (some ⟨bb, 0, none⟩)] 67) = W2 := ⟨_, rfl⟩
    obtain ⟨b, hbb⟩ : ∃ b, w1.heap.size = b := ⟨_, rfl⟩
    have hb2 : Below w1.heap.size w1 W2 := by rw [← hW2]; exact (Below.refl _ _).alloc (Nat.le_refl _) _
    have r3 : W2.heap[b]? = some (.cells #[.pointer (some ⟨bb, 0, none⟩)] 67) := by rw [← hW2, ← hbb]; exact one_alloc _ _
    have HS2 : Hid _ := HST.out W2 b (bel_to HB1.out hb2 (Nat.le_refl _)) (keep_row r1 hb2) (keep_row r2 hb2) (keep_row r2' hb2) (by have := HB1.out.size; have := HRR.out; omega) r3
    have HB2 : Hid (Below w.heap.size w W2) := bel_to HB1.out hb2 (Nat.le_refl _)
    have d0 := cell1 (keep_row r1 hb2)
    clear hm1 r1 r2 r2' r3 hb2 c0 c1 c2 hW0 hW1 hs0
    go_wp2_with fail
    refine (show Calls _ _ _ _ _ from HS2.out).mono ?_
    rintro e w3 hp
    obtain ⟨he, hB⟩ := HFN.out W2 w3 e HB2.out hp
    have HBB : Hid _ := hB
    subst he
    clear hp hB
    go_wp2
    go_returns
    exact ⟨rfl, HBB.out⟩
  · obtain ⟨g1, g2, hM⟩ := ren_no (X := X) h0
    rw [g1] at HFI
    rw [hM]
    obtain ⟨er, her⟩ : ∃ er, (fndM F X n [t]).2 = er := ⟨_, rfl⟩
    rw [her] at HFI g2 ⊢
    have hne : (er == 0) = false := by simpa using g2
    have hs0 := n3
    clear h hs hs1 hpk hM her n1 n2 n2' n3 n4 m1 m4 hF0 hfr hfk
    unfold ptr at HFI ⊢
    go_enter Tryz.func26, Tryz.ntmps26
    go_wp2_with fail
    refine (show Calls _ _ _ _ _ from HFI.out).mono ?_
    rintro e w1 ⟨rfl, hm1, hf1⟩
    have HB1 : Hid (Below w.heap.size w w1) := HB0.out.trans (hm1.bel (fun k hk e => by have := HRR.out; omega) (by have := HB0.out.size; omega))
    have HFP : Hid (FsP w1 g X F) := hf1
    clear hm1 hf1 hW0 hW1 c0 c1 c2 hs0
    go_wp2
    go_returns
    refine ⟨rfl, X, ?_⟩
    have hb4 : Below w1.heap.size w1 (w1.alloc (.cells #[.pointer none] 67)) := (Below.refl _ _).alloc (Nat.le_refl _) _
    exact (Bec.refl (HFP.out.on hb4)).pre (bel_to HB1.out hb4 (Nat.le_refl _))
end Go.Proofs.YtencjopnbmbhkaaGreat
