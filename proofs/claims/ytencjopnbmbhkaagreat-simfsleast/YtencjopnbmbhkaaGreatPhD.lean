import Derived.Test.YtencjopnbmbhkaaGreatPhC
import Derived.Shelf.SlMaps.Clone
namespace Go.Proofs.YtencjopnbmbhkaaGreat
open Go.RowKit Go.Maps
set_option linter.unusedVariables false
set_option linter.unusedSimpArgs false
theorem nil_own (w : World) : w.ownsRow 0 9 1 (.slice none 0 0) ([] : List ByteArray).length (psE.fl []) := ⟨rfl, Or.inl ⟨rfl, rfl⟩⟩
/-- find with a name alone. -/
theorem find0_any (g : Nat) (X : Gh) (F : Fs) (n : ByteArray) (hn : n.size ≤ 140737488355328) (w : World) (h : FsP w g X F) : Calls Tryz.prog 45 #[ptr (some g), .string n, .slice none 0 0] w fun e w' => e = .returned (.tuple #[(fndM F X n []).1, .int .i64 (hasM F n)]) ∧ Below w.heap.size w w' := by
  refine (find_any g X F n hn (.slice none 0 0) [] (by decide) (fun s hs => by cases hs) w h (nil_own w) (fun k hk => by cases hk)).mono ?_
  rintro e w' ⟨rfl, hm, _⟩
  rw [fnd_has]
  exact ⟨rfl, hm.bel (fun k _ hk => by cases hk) (Nat.le_refl _)⟩
set_option maxHeartbeats 2000000 in
set_option maxRecDepth 100000 in
theorem Sync_any (HGD : GoDownC) (g : Nat) (X : Gh) (F : Fs) (n : ByteArray) (hn : n.size ≤ 140737488355328) (w : World) (h : FsP w g X F) (hs : Sm F X) (hs1 : F.steps < 2199023255552) (hpk : F.picks.length ≤ 17592186044416) :
    Calls Tryz.prog 17 #[ptr (some g), .string n] w fun e w' => e = .returned (.int .i64 (syncM F n).2) ∧ ∃ X', Bec w g X F w' X' (syncM F n).1 := by
  have HFI : Hid _ := find0_any g X F n hn w h
  by_cases h0 : hasM F n = 0
  · obtain ⟨hd, hnm, hf⟩ := has_zero.1 h0
    obtain ⟨i, hi1, hi2, hi3, hl⟩ := h.named hf
    have hy := fnd_yes (X := X) (os := []) hd (by simpa using hnm) hf
    rw [hy, h0, hi2] at HFI
    have HST : Hid (∀ W, Below w.heap.size w W → Calls Tryz.prog 46 #[ptr (some g), .func (.func 47) #[ptr (some (X.fb i))] #[]] W fun e w' => StepP g X F W (fun w1 w' => w'.heap[X.fb i]? = some (.cells #[.int .i64 ((i + 1 : Nat) : Int), X.pv i, .int .i64 ((F.files.getD i ⟨⟨#[]⟩, 0⟩).d.size : Int), .int .i64 ((F.files.getD i ⟨⟨#[]⟩, 0⟩).d.size : Int)] 70) ∧ Only w1 w' (X.fb i)) (fun _ w1 _ w' => w' = w1) e w') := fun W hb => step_any HGD g X F 47 eM_sync #[ptr (some (X.fb i))] #[] _ W (h.on hb) hs hs1 hpk (fun w1 hm hF => sync_any (X.fb i) _ _ _ _ w1 (hF.file hl).blk)
    have HFN : Hid (∀ W w' e, Below w.heap.size w W → StepP g X F W (fun w1 w' => w'.heap[X.fb i]? = some (.cells #[.int .i64 ((i + 1 : Nat) : Int), X.pv i, .int .i64 ((F.files.getD i ⟨⟨#[]⟩, 0⟩).d.size : Int), .int .i64 ((F.files.getD i ⟨⟨#[]⟩, 0⟩).d.size : Int)] 70) ∧ Only w1 w' (X.fb i)) (fun _ w1 _ w' => w' = w1) e w' → e = .returned (.int .i64 (syncM F n).2) ∧ ∃ X', Bec w g X F w' X' (syncM F n).1) := fun W w' e hb hp => by
      refine hp.fin hb (syncM F n) (fun a b => ?_) (fun a => ?_)
      · have hM : syncM F n = ({ up1 F with files := F.files.set i ⟨(F.files.getD i ⟨⟨#[]⟩, 0⟩).d, (F.files.getD i ⟨⟨#[]⟩, 0⟩).d.size⟩ }, 0) := by
          unfold syncM
          rw [if_pos h0]
          simp only []
          rw [if_pos a, b, hi2]; rfl
        rw [hM]
        refine ⟨rfl, fun w1 hm hF hpd => ?_⟩
        have hf1 := hF.file hl
        have hmd : ModP (fun k => k = X.fb i ∨ (X.pv i).ownBlock = some k) w1 w' := ModP.only hpd.2 (Or.inl rfl)
        have hfile : FileAt w' (X.fb i) i ⟨(F.files.getD i ⟨⟨#[]⟩, 0⟩).d, (F.files.getD i ⟨⟨#[]⟩, 0⟩).d.size⟩ (X.pv i) (X.ps i) := ⟨hpd.1, own_to hf1.own (fun k hk => hpd.2.other k (hf1.ne hk)), hf1.jn, hf1.few, hf1.big, Nat.le_refl _⟩
        have hB := hF.file_set hl hfile hmd (Or.inl rfl)
        exact ⟨_, hB.is, hm.andThen hB.md (fun j _ hj => hj), fun k hk => (hB.own k hk).imp id (fun q => Nat.le_trans hm.size q), hB.len⟩
      · unfold syncM
        rw [if_pos h0]
        simp only []
        rw [if_neg a]
    generalize X.fb i = bb at *
    clear h hs hs1 hpk hd hnm hf hi1 hi2 hi3 hl hy h0
    unfold ptr at HFI HST ⊢
    go_enter Tryz.func17, Tryz.ntmps17
    go_wp2_with fail
    refine (show Calls _ _ _ _ _ from HFI.out).mono ?_
    rintro e w1 ⟨rfl, hb1⟩
    have HB1 : Hid (Below w.heap.size w w1) := hb1
    clear hb1
    go_wp2_with fail
    refine (show Calls _ _ _ _ _ from HST.out w1 HB1.out).mono ?_
    rintro e w2 hp
    obtain ⟨he, hB⟩ := HFN.out w1 w2 e HB1.out hp
    have HBB : Hid _ := hB
    subst he
    clear hp hB
    go_wp2
    go_returns
    exact ⟨rfl, HBB.out⟩
  · have hno := fnd_no (F := F) (X := X) (n := n) (os := []) (fun hh => h0 (has_zero.2 ⟨hh.1, by simpa using hh.2.1, hh.2.2⟩))
    rw [hno.1] at HFI
    have hM : syncM F n = (F, hasM F n) := by unfold syncM; rw [if_neg h0]
    rw [hM]
    have HFP : Hid (FsP w g X F) := h
    obtain ⟨er, her⟩ : ∃ er, hasM F n = er := ⟨_, rfl⟩
    rw [her] at HFI h0 ⊢
    have hne : (er == 0) = false := by simpa using h0
    clear h hs hs1 hpk hno hM her
    unfold ptr at HFI ⊢
    go_enter Tryz.func17, Tryz.ntmps17
    go_wp2_with fail
    refine (show Calls _ _ _ _ _ from HFI.out).mono ?_
    rintro e w1 ⟨rfl, hb1⟩
    have HB1 : Hid (Below w.heap.size w w1) := hb1
    clear hb1
    go_wp2
    go_returns
    exact ⟨rfl, X, (Bec.refl (HFP.out.on HB1.out)).pre HB1.out⟩
end Go.Proofs.YtencjopnbmbhkaaGreat
