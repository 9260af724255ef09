import Derived.Test.YtencjopnbmbhkaaGreatPhE
namespace Go.Proofs.YtencjopnbmbhkaaGreat
open Go.RowKit Go.Maps
set_option linter.unusedVariables false
set_option linter.unusedSimpArgs false
theorem ModP.fresh {g : Nat} {X : Gh} {F : Fs} {w W w1 : World} (h : FsP w g X F) (hm : ModP (Own g F X) W w1) {k : Nat} {o : Obj} (hk : W.heap[k]? = some o) (hw : w.heap.size ≤ k) : w1.heap[k]? = some o :=
  hm.row hk (fun ho => by have := h.own_lt ho; omega)
theorem two_new {w : World} (a b : Obj) : ((w.alloc a).alloc b).heap[w.heap.size]? = some a ∧ ((w.alloc a).alloc b).heap[w.heap.size + 1]? = some b ∧ ((w.alloc a).alloc b).heap.size = w.heap.size + 2 ∧ Below w.heap.size w ((w.alloc a).alloc b) := by
  have h1 : (w.alloc a).heap.size = w.heap.size + 1 := by simp
  refine ⟨(heap_alloc_old _ _ (by omega)).trans (one_alloc _ _), ?_, by simp, ((Below.refl _ _).alloc (Nat.le_refl _) _).alloc (by simp) _⟩
  rw [← h1]; exact one_alloc _ _
set_option maxHeartbeats 2000000 in
set_option maxRecDepth 100000 in
theorem Remove_any (HGD : GoDownC) (g : Nat) (X : Gh) (F : Fs) (n : ByteArray) (hn : n.size ≤ 140737488355328) (w : World) (h : FsP w g X F) (hs : Sm F X) (hs1 : F.steps < 2199023255552) (hpk : F.picks.length ≤ 17592186044416) :
    Calls Tryz.prog 27 #[ptr (some g), .string n] w fun e w' => e = .returned (.int .i64 (removeM F n).2) ∧ ∃ X', Bec w g X F w' X' (removeM F n).1 := by
  obtain ⟨R, hR⟩ : ∃ R, w.heap.size = R := ⟨_, rfl⟩
  obtain ⟨n1, n2, n3, n4⟩ := two_new (w := w) (.cells #[.pointer (some ⟨g, 0, none⟩)] 24) (.cells #[.string n] 9)
  obtain ⟨W0, hW0⟩ : ∃ W0, (w.alloc (.cells #[.pointer (some ⟨g, 0, none⟩)] 24)).alloc (.cells #[.string n] 9) = W0 := ⟨_, rfl⟩
  rw [hW0] at n1 n2 n3 n4
  rw [hR] at n1 n2 n3
  have hF0 : FsP W0 g X F := h.on n4
  have HFI : Hid _ := find0_any g X F n hn W0 hF0
  have HB0 : Hid (Below w.heap.size w W0) := n4
  have HN1 : Hid (W0.heap[R]? = some (.cells #[.pointer (some ⟨g, 0, none⟩)] 24)) := n1
  have HN2 : Hid (W0.heap[R + 1]? = some (.cells #[.string n] 9)) := n2
  have HRR : Hid (w.heap.size = R) := hR
  have c0 := cell1 n1
  have c1 := cell1 n2
  by_cases h0 : hasM F n = 0
  · obtain ⟨hd, hnm, hf⟩ := has_zero.1 h0
    obtain ⟨i, hi1, hi2, hi3, hl⟩ := h.named hf
    have hy := fnd_yes (X := X) (os := []) hd (by simpa using hnm) hf
    rw [hy, h0, hi2] at HFI
    have hxi : F.files[i]? = some F.files[i] := List.getElem?_eq_getElem hi3
    have hck : COk (up1 F) ⟨n, ⟨#[]⟩, -1⟩ i := cok_remove (F := up1 F) h.ok.dir hnm i
    have HST : Hid (∀ W b, Below w.heap.size w W → W.heap[R]? = some (.cells #[ptr (some g)] 24) → W.heap[R + 1]? = some (.cells #[.string n] 9) → R ≤ b → W.heap[b]? = some (.cells #[ptr (some (X.fb i))] 67) → Calls Tryz.prog 46 #[ptr (some g), .func (.func 72) #[] #[.pointer (some ⟨R, 0, none⟩), .pointer (some ⟨R + 1, 0, none⟩), .pointer (some ⟨b, 0, none⟩)]] W fun e w' => StepP g X F W (ChgF g X (up1 F) ⟨n, ⟨#[]⟩, -1⟩ i) (fun _ w1 _ w' => w' = w1) e w') := fun W b hb r1 r2 rb r3 => step_any HGD g X F 72 eM_remove #[] _ _ W (h.on hb) hs hs1 hpk (fun w1 hm hF => by
      refine Remove1_any g R (R + 1) b _ _ _ (X.fb i) n _ w1 (hm.fresh h r1 (by omega)) (hm.fresh h r2 (by omega)) (hm.fresh h r3 (by omega)) ?_
      exact changeF_any g X (up1 F) ⟨n, ⟨#[]⟩, -1⟩ i F.files[i] w1 hF ⟨by show F.steps + 1 ≤ _; omega, hs.fi, hs.ch, hs.qs⟩ hck hxi (hF.fil i _ hl hxi) (fun j hj hne => hF.inj j i hj hl hne))
    have HFN : Hid (∀ W w' e, Below w.heap.size w W → StepP g X F W (ChgF g X (up1 F) ⟨n, ⟨#[]⟩, -1⟩ i) (fun _ w1 _ w' => w' = w1) e w' → e = .returned (.int .i64 (removeM F n).2) ∧ ∃ X', Bec w g X F w' X' (removeM F n).1) := fun W w' e hb hp => by
      refine hp.fin hb (removeM F n) (fun a b => ?_) (fun a => ?_)
      · have hM : removeM F n = (changeM (up1 F) ⟨n, ⟨#[]⟩, -1⟩, 0) := by
          unfold removeM
          rw [if_pos h0]
          simp only []
          rw [if_pos a, b]
        rw [hM]
        exact ⟨rfl, fun w1 hm hF hpd => hpd.bec hl (fun j => Iff.rfl) hm⟩
      · unfold removeM
        rw [if_pos h0]
        simp only []
        rw [if_neg a]
    generalize X.fb i = bb at *
    clear h hs hs1 hpk hd hnm hf hi1 hi2 hi3 hl hy h0 n1 n2 n3 n4 hF0 hxi hck
    unfold ptr at HFI HST ⊢
    go_enter Tryz.func27, Tryz.ntmps27
    go_wp2_with fail
    refine (show Calls _ _ _ _ _ from HFI.out).mono ?_
    rintro e w1 ⟨rfl, hb1⟩
    have HB1 : Hid (Below w.heap.size w w1) := bel_to HB0.out hb1 (Nat.le_refl _)
    have r1 := keep_row HN1.out hb1
    have r2 := keep_row HN2.out hb1
    obtain ⟨W2, hW2⟩ : ∃ W2, w1.alloc (.cells #[.pointer (some ⟨bb, 0, none⟩)] 67) = W2 := ⟨_, rfl⟩
    obtain ⟨b, hbb⟩ : ∃ b, w1.heap.size = b := ⟨_, rfl⟩
    have hb2 : Below w1.heap.size w1 W2 := by rw [← hW2]; exact (Below.refl _ _).alloc (Nat.le_refl _) _
    have r3 : W2.heap[b]? = some (.cells #[.pointer (some ⟨bb, 0, none⟩)] 67) := by rw [← hW2, ← hbb]; exact one_alloc _ _
    have HS2 : Hid _ := HST.out W2 b (bel_to HB1.out hb2 (Nat.le_refl _)) (keep_row r1 hb2) (keep_row r2 hb2) (by have := HB1.out.size; have := HRR.out; omega) r3
    have HB2 : Hid (Below w.heap.size w W2) := bel_to HB1.out hb2 (Nat.le_refl _)
    have d0 := cell1 (keep_row r1 hb2)
    clear hb1 r1 r2 r3 hb2 c0 c1 hW0
    go_wp2_with fail
    refine (show Calls _ _ _ _ _ from HS2.out).mono ?_
    rintro e w3 hp
    obtain ⟨he, hB⟩ := HFN.out W2 w3 e HB2.out hp
    have HBB : Hid _ := hB
    subst he
    clear hp hB
    go_wp2
    go_returns
    exact ⟨rfl, HBB.out⟩
  · have hno := fnd_no (F := F) (X := X) (n := n) (os := []) (fun hh => h0 (has_zero.2 ⟨hh.1, by simpa using hh.2.1, hh.2.2⟩))
    rw [hno.1] at HFI
    have hM : removeM F n = (F, hasM F n) := by unfold removeM; rw [if_neg h0]
    rw [hM]
    have HFP : Hid (FsP W0 g X F) := hF0
    obtain ⟨er, her⟩ : ∃ er, hasM F n = er := ⟨_, rfl⟩
    rw [her] at HFI h0 ⊢
    have hne : (er == 0) = false := by simpa using h0
    clear h hs hs1 hpk hno hM her n1 n2 n3 n4 hF0
    unfold ptr at HFI ⊢
    go_enter Tryz.func27, Tryz.ntmps27
    go_wp2_with fail
    refine (show Calls _ _ _ _ _ from HFI.out).mono ?_
    rintro e w1 ⟨rfl, hb1⟩
    have HB1 : Hid (Below W0.heap.size W0 w1) := hb1
    clear hb1 hW0 c0 c1
    go_wp2
    go_returns
    refine ⟨rfl, X, ?_⟩
    have hb4 : Below w1.heap.size w1 (w1.alloc (.cells #[.pointer none] 67)) := (Below.refl _ _).alloc (Nat.le_refl _) _
    exact (Bec.refl ((HFP.out.on HB1.out).on hb4)).pre (bel_to (bel_to HB0.out HB1.out (Nat.le_refl _)) hb4 (Nat.le_refl _))
end Go.Proofs.YtencjopnbmbhkaaGreat
