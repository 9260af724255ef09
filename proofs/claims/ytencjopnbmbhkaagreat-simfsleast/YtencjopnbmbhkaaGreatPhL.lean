import Derived.Test.YtencjopnbmbhkaaGreatPhK
namespace Go.Proofs.YtencjopnbmbhkaaGreat
open Go.RowKit Go.Maps
set_option linter.unusedVariables false
set_option linter.unusedSimpArgs false
theorem create_cases {F : Fs} {n : ByteArray} : (F.down = true → createM F n = (F, 203)) ∧ (F.down = false → namedM n = false → createM F n = (F, 202)) ∧ (F.down = false → namedM n = true → (findM F.dir n < 0 ∧ 64 ≤ F.dir.length) → createM F n = (F, 3)) ∧ (F.down = false → namedM n = true → ¬ (findM F.dir n < 0 ∧ 64 ≤ F.dir.length) → ((stepM F).2.1 = 0 → (stepM F).1 = up1 F → createM F n = (changeM (addF (up1 F)) ⟨n, ⟨#[]⟩, (F.files.length : Int)⟩, 0)) ∧ ((stepM F).2.1 ≠ 0 → createM F n = ((stepM F).1, (stepM F).2.1))) := by
  unfold createM
  refine ⟨fun h => by rw [h]; rfl, fun h h1 => by rw [h, h1]; rfl, fun h h1 h2 => ?_, fun h h1 h2 => ⟨fun a b => ?_, fun a => ?_⟩⟩
  · rw [h, h1, if_pos h2]; rfl
  · rw [h, h1, if_neg h2]
    simp only [Bool.false_eq_true, if_false, if_true]
    rw [if_pos a, b]; rfl
  · rw [h, h1, if_neg h2]
    simp only [Bool.false_eq_true, if_false, if_true]
    rw [if_neg a]
set_option maxHeartbeats 4000000 in
set_option maxRecDepth 100000 in
theorem Create_any (HGD : GoDownC) (g : Nat) (X : Gh) (F : Fs) (n : ByteArray) (hn : n.size ≤ 140737488355328) (w : World) (h : FsP w g X F) (hs : Sm F X) (hs1 : F.steps < 2199023255552) (hs2 : F.files.length < 2199023255552) (hpk : F.picks.length ≤ 17592186044416) :
    Calls Tryz.prog 22 #[ptr (some g), .string n] w fun e w' => e = .returned (.int .i64 (createM F n).2) ∧ ∃ X', Bec w g X F w' X' (createM F n).1 := by
  obtain ⟨R, hR⟩ : ∃ R, w.heap.size = R := ⟨_, rfl⟩
  obtain ⟨n1, n2, n3, n4⟩ := two_new (w := w) (.cells #[.pointer (some ⟨g, 0, none⟩)] 24) (.cells #[.string n] 9)
  obtain ⟨W0, hW0⟩ : ∃ W0, (w.alloc (.cells #[.pointer (some ⟨g, 0, none⟩)] 24)).alloc (.cells #[.string n] 9) = W0 := ⟨_, rfl⟩
  rw [hW0] at n1 n2 n3 n4
  rw [hR] at n1 n2 n3
  obtain ⟨W1, hW1⟩ : ∃ W1, W0.alloc (.cells #[.string n] 9) = W1 := ⟨_, rfl⟩
  have m4 : Below W0.heap.size W0 W1 := by rw [← hW1]; exact (Below.refl _ _).alloc (Nat.le_refl _) _
  have m1 : W1.heap[R + 2]? = some (.cells #[.string n] 9) := by rw [← hW1, ← n3]; exact one_alloc _ _
  have hb1 : Below w.heap.size w W1 := bel_to n4 m4 (Nat.le_refl _)
  have hF1 : FsP W1 g X F := h.on hb1
  have HCK : Hid _ := check_any g X F (.slice (some ⟨R + 2, 0, none⟩) 1 1) [n] (by simp) (fun s hs => by simp at hs; subst hs; exact hn) W1 hF1 (Or.inr ⟨R + 2, 0, 1, rfl, fun j u hu => by
    have : (psE.fl [n]) = [.string n] := rfl
    rw [this] at hu
    rw [cell_of_row _ _ _ _ _ _ m1, Nat.zero_add]; simpa using hu⟩)
  have HB1 : Hid (Below w.heap.size w W1) := hb1
  have HN1 : Hid (W1.heap[R]? = some (.cells #[.pointer (some ⟨g, 0, none⟩)] 24)) := keep_row n1 m4
  have HN2 : Hid (W1.heap[R + 1]? = some (.cells #[.string n] 9)) := keep_row n2 m4
  have HF1 : Hid (FsP W1 g X F) := hF1
  have HFS : Hid (∀ W, Below w.heap.size w W → FsP W g X F) := fun W hb => h.on hb
  have c0 := cell1 n1
  have c1 := cell1 n2
  obtain ⟨k1, k2, k3, k4⟩ := create_cases (F := F) (n := n)
  have hck : chkM F [n] = if F.down then 203 else if namedM n then 0 else 202 := by unfold chkM; simp
  rw [hck] at HCK
  by_cases hg : F.down = false ∧ namedM n = true
  · obtain ⟨hd, hnm⟩ := hg
    rw [hd, hnm] at HCK
    obtain ⟨_, _, _, c3', _⟩ := hF1.cells
    have hlk : ∀ m, (Instr.lookup 56 (.map (some X.mn)) (.string n) false).run Tryz.prog (W1.drewN m) = .ok (ptr (dirF F.dir X.fb n)) (W1.drewN m) := fun m => (hF1.now_k.to (W' := W1.drewN m) rfl).look (by unfold maxLen; omega)
    have hln : ∀ m ty, (Builtin.len_ #[56] ty #[.map (some X.mn)]).run Tryz.prog (W1.drewN m) = .ok (.int .i64 (F.dir.length : Int)) (W1.drewN m) := fun m ty => (hF1.now_k.to (W' := W1.drewN m) rfl).len ty
    have d0 := cell1 HN1.out
    have d1 := cell1 HN2.out
    by_cases hfull : findM F.dir n < 0 ∧ 64 ≤ F.dir.length
    · rw [k3 hd hnm hfull]
      have e1 : dirF F.dir X.fb n = none := if_pos hfull.1
      rw [e1] at hlk
      have hge : (64 : Int) ≤ (F.dir.length : Int) := by omega
      obtain ⟨dl, hdl⟩ : ∃ dl, F.dir.length = dl := ⟨_, rfl⟩
      rw [hdl] at hge hln
      clear h hs hs1 hs2 hpk hd hnm hfull k1 k2 k3 k4 hck n1 n2 n4 m4 m1 hb1 hF1 e1 hdl
      unfold ptr at HCK hlk ⊢
      go_enter Tryz.func22, Tryz.ntmps22
      go_wp2_with fail
      refine (show Calls _ _ _ _ _ from HCK.out).mono ?_
      rintro e w1 ⟨rfl, rfl⟩
      clear hW0 hW1 c0 c1
      go_upto_region 4 with fail
      go_quiet (fail)
      have hbq : Below w.heap.size w (w1.drewN nq) := below_dn HB1.out _
      go_wp2
      go_returns
      exact ⟨rfl, X, (Bec.refl (HFS.out _ hbq)).pre hbq⟩
    · by_cases hf : findM F.dir n < 0
      · have hlt : ¬ (64 : Int) ≤ (F.dir.length : Int) := fun h9 => hfull ⟨hf, by omega⟩
        have e1 : dirF F.dir X.fb n = none := if_pos hf
        rw [e1] at hlk
        have HST : Hid (∀ W, Below w.heap.size w W → W.heap[R]? = some (.cells #[ptr (some g)] 24) → W.heap[R + 1]? = some (.cells #[.string n] 9) → Calls Tryz.prog 46 #[ptr (some g), .func (.func 65) #[] #[.pointer (some ⟨R, 0, none⟩), .pointer (some ⟨R + 1, 0, none⟩)]] W fun e w' => StepP g X F W (CrP g X (up1 F) n) (fun _ w1 _ w' => w' = w1) e w') := fun W hb r1 r2 => step_any HGD g X F 65 eM_create #[] _ _ W (h.on hb) hs hs1 hpk (fun w1 hm hF => by
          have hgR : g < R := by rw [← hR]; exact row_lt h.blk
          have hno : ∀ k, R ≤ k → ¬ Own g (up1 F) X k := fun k hk ho => by have := h.own_lt (show Own g F X k from ho); omega
          exact Create1_any g R (R + 1) _ _ X (up1 F) n w1 hF ⟨by show F.steps + 1 ≤ _; omega, hs.fi, hs.ch, hs.qs⟩ hs2 hnm hfull (hm.fresh h r1 (by omega)) (hm.fresh h r2 (by omega)) ⟨by omega, by omega, hno R (by omega), hno (R + 1) (by omega)⟩)
        have HFN : Hid (∀ W w' e, Below w.heap.size w W → StepP g X F W (CrP g X (up1 F) n) (fun _ w1 _ w' => w' = w1) e w' → e = .returned (.int .i64 (createM F n).2) ∧ ∃ X', Bec w g X F w' X' (createM F n).1) := fun W w' e hb hp => by
          refine hp.fin hb (createM F n) (fun a b => ?_) (fun a => (k4 hd hnm hfull).2 a)
          rw [(k4 hd hnm hfull).1 a b]
          refine ⟨rfl, fun w1 hm hF hpd => ?_⟩
          obtain ⟨X', hB⟩ := hpd
          exact ⟨X', hB.is, hm.andThen hB.md (fun j _ hj => hj), fun k hk => (hB.own k hk).imp id (fun q => Nat.le_trans hm.size q), hB.len⟩

        obtain ⟨dl, hdl⟩ : ∃ dl, F.dir.length = dl := ⟨_, rfl⟩
        rw [hdl] at hlt hln
        clear h hs hs1 hs2 hpk hd hnm hfull hf k1 k2 k3 k4 hck n1 n2 n4 m4 m1 hb1 hF1 e1 hdl
        unfold ptr at HCK HST hlk ⊢
        go_enter Tryz.func22, Tryz.ntmps22
        go_wp2_with fail
        refine (show Calls _ _ _ _ _ from HCK.out).mono ?_
        rintro e w1 ⟨rfl, rfl⟩
        clear hW0 hW1 c0 c1
        go_upto_region 4 with fail
        go_quiet (fail)
        obtain ⟨W3, hW3⟩ : ∃ W3, w1.drewN nq = W3 := ⟨_, rfl⟩
        have HB3 : Hid (Below w.heap.size w W3) := by
          show Below _ _ _
          rw [← hW3]; exact below_dn HB1.out _
        have r1 : W3.heap[R]? = some (.cells #[.pointer (some ⟨g, 0, none⟩)] 24) := by rw [← hW3]; exact HN1.out
        have r2 : W3.heap[R + 1]? = some (.cells #[.string n] 9) := by rw [← hW3]; exact HN2.out
        have HS3 : Hid _ := HST.out W3 HB3.out r1 r2
        have x0 := cell1 r1
        rw [hW3]
        clear hW3 d0 d1 c3' hlk hln r1 r2
        go_wp2_with fail
        refine (show Calls _ _ _ _ _ from HS3.out).mono ?_
        rintro e w4 hp
        obtain ⟨he, hB⟩ := HFN.out W3 w4 e HB3.out hp
        have HBB : Hid _ := hB
        subst he
        clear hp hB
        go_wp2
        go_returns
        exact ⟨rfl, HBB.out⟩

      · have e1 : dirF F.dir X.fb n = some (X.fb (findM F.dir n).toNat) := if_neg hf
        rw [e1] at hlk
        have HST : Hid (∀ W, Below w.heap.size w W → W.heap[R]? = some (.cells #[ptr (some g)] 24) → W.heap[R + 1]? = some (.cells #[.string n] 9) → Calls Tryz.prog 46 #[ptr (some g), .func (.func 65) #[] #[.pointer (some ⟨R, 0, none⟩), .pointer (some ⟨R + 1, 0, none⟩)]] W fun e w' => StepP g X F W (CrP g X (up1 F) n) (fun _ w1 _ w' => w' = w1) e w') := fun W hb r1 r2 => step_any HGD g X F 65 eM_create #[] _ _ W (h.on hb) hs hs1 hpk (fun w1 hm hF => by
          have hgR : g < R := by rw [← hR]; exact row_lt h.blk
          have hno : ∀ k, R ≤ k → ¬ Own g (up1 F) X k := fun k hk ho => by have := h.own_lt (show Own g F X k from ho); omega
          exact Create1_any g R (R + 1) _ _ X (up1 F) n w1 hF ⟨by show F.steps + 1 ≤ _; omega, hs.fi, hs.ch, hs.qs⟩ hs2 hnm hfull (hm.fresh h r1 (by omega)) (hm.fresh h r2 (by omega)) ⟨by omega, by omega, hno R (by omega), hno (R + 1) (by omega)⟩)
        have HFN : Hid (∀ W w' e, Below w.heap.size w W → StepP g X F W (CrP g X (up1 F) n) (fun _ w1 _ w' => w' = w1) e w' → e = .returned (.int .i64 (createM F n).2) ∧ ∃ X', Bec w g X F w' X' (createM F n).1) := fun W w' e hb hp => by
          refine hp.fin hb (createM F n) (fun a b => ?_) (fun a => (k4 hd hnm hfull).2 a)
          rw [(k4 hd hnm hfull).1 a b]
          refine ⟨rfl, fun w1 hm hF hpd => ?_⟩
          obtain ⟨X', hB⟩ := hpd
          exact ⟨X', hB.is, hm.andThen hB.md (fun j _ hj => hj), fun k hk => (hB.own k hk).imp id (fun q => Nat.le_trans hm.size q), hB.len⟩

        generalize X.fb (findM F.dir n).toNat = bb at hlk
        clear h hs hs1 hs2 hpk hd hnm hfull hf k1 k2 k3 k4 hck n1 n2 n4 m4 m1 hb1 hF1 e1
        unfold ptr at HCK HST hlk ⊢
        go_enter Tryz.func22, Tryz.ntmps22
        go_wp2_with fail
        refine (show Calls _ _ _ _ _ from HCK.out).mono ?_
        rintro e w1 ⟨rfl, rfl⟩
        clear hW0 hW1 c0 c1
        go_upto_region 4 with fail
        go_quiet (fail)
        obtain ⟨W3, hW3⟩ : ∃ W3, w1.drewN nq = W3 := ⟨_, rfl⟩
        have HB3 : Hid (Below w.heap.size w W3) := by
          show Below _ _ _
          rw [← hW3]; exact below_dn HB1.out _
        have r1 : W3.heap[R]? = some (.cells #[.pointer (some ⟨g, 0, none⟩)] 24) := by rw [← hW3]; exact HN1.out
        have r2 : W3.heap[R + 1]? = some (.cells #[.string n] 9) := by rw [← hW3]; exact HN2.out
        have HS3 : Hid _ := HST.out W3 HB3.out r1 r2
        have x0 := cell1 r1
        rw [hW3]
        clear hW3 d0 d1 c3' hlk hln r1 r2
        go_wp2_with fail
        refine (show Calls _ _ _ _ _ from HS3.out).mono ?_
        rintro e w4 hp
        obtain ⟨he, hB⟩ := HFN.out W3 w4 e HB3.out hp
        have HBB : Hid _ := hB
        subst he
        clear hp hB
        go_wp2
        go_returns
        exact ⟨rfl, HBB.out⟩

  · have hM : createM F n = (F, if F.down then 203 else if namedM n then 0 else 202) ∧ (if F.down then (203 : Int) else if namedM n then 0 else 202) ≠ 0 := by
      rcases hd : F.down with _ | _
      · rcases hnm : namedM n with _ | _
        · rw [k2 hd hnm]; exact ⟨rfl, by decide⟩
        · exact absurd ⟨hd, hnm⟩ hg
      · rw [k1 hd]; exact ⟨rfl, by simp⟩
    obtain ⟨er, her⟩ : ∃ er : Int, (if F.down then (203 : Int) else if namedM n then 0 else 202) = er := ⟨_, rfl⟩
    rw [her] at hM HCK
    rw [hM.1]
    have hne : (er == 0) = false := by simpa using hM.2
    clear h hs hs1 hs2 hpk hg k1 k2 k3 k4 hck n1 n2 n4 m4 m1 hb1 hF1 her hM
    unfold ptr at HCK ⊢
    go_enter Tryz.func22, Tryz.ntmps22
    go_wp2_with fail
    refine (show Calls _ _ _ _ _ from HCK.out).mono ?_
    rintro e w1 ⟨rfl, rfl⟩
    clear hW0 hW1 c0 c1
    go_wp2
    go_returns
    exact ⟨rfl, X, (Bec.refl HF1.out).pre HB1.out⟩
end Go.Proofs.YtencjopnbmbhkaaGreat
