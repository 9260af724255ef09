import Derived.Test.YtencjopnbmbhkaaGreatPfC
import Derived.Test.YtencjopnbmbhkaaGreatMD
namespace Go.Proofs.YtencjopnbmbhkaaGreat
open Go.RowKit Go.Maps
set_option linter.unusedVariables false
set_option linter.unusedSimpArgs false
/-- find's answer. -/
def fndM (F : Fs) (X : Gh) (n : ByteArray) (os : List ByteArray) : Value × Int := if chkM F (os ++ [n]) = 0 then (if findM F.dir n < 0 then (.pointer none, 201) else (ptr (some (X.fb (findM F.dir n).toNat)), 0)) else (.pointer none, chkM F (os ++ [n]))
set_option maxHeartbeats 2000000 in
set_option maxRecDepth 100000 in
theorem find_any (g : Nat) (X : Gh) (F : Fs) (n : ByteArray) (hn : n.size ≤ 140737488355328) (v : Value) (os : List ByteArray) (ho : os.length ≤ 4) (hs : ∀ s ∈ os, s.size ≤ 140737488355328) (w : World) (h : FsP w g X F) (hv : w.ownsRow 0 9 1 v os.length (psE.fl os)) (hfree : ∀ k, v.ownBlock = some k → ¬ Own g F X k) :
    Calls Tryz.prog 45 #[ptr (some g), .string n, v] w fun e w' => e = .returned (.tuple #[(fndM F X n os).1, .int .i64 (fndM F X n os).2]) ∧ ModP (fun k => v.ownBlock = some k) w w' ∧ FsP w' g X F := by
  obtain ⟨P, c, rfl⟩ := own_form hv
  have H : Hid (FsP w g X F) := h
  have HV : Hid (w.ownsRow 0 9 1 (.slice P os.length c) os.length (psE.fl os)) := hv
  have HFR : Hid (∀ k, (Value.slice P os.length c).ownBlock = some k → ¬ Own g F X k) := hfree
  have HS : Hid (∀ s ∈ os ++ [n], s.size ≤ 140737488355328) := fun s hm => by
    rcases List.mem_append.1 hm with hm | hm
    · exact hs s hm
    · simp at hm; subst hm; exact hn
  clear h hv hfree hs
  unfold ptr
  go_enter Tryz.func45, Tryz.ntmps45
  go_wp2_with (at_builtin; refine wpList_one psOk #[.string n] n rfl rfl _ _ rfl 0 _ os os.length rfl rfl HV.out rfl (by unfold maxLen; omega) (by show _ * 16 ≤ _; omega) (Nat.zero_le _) ?_; intro v1 w1 ho1 hg1; obtain ⟨P1, c1, hf1⟩ := own_form ho1; subst hf1)
  have hm1 : ModP (fun k => (Value.slice P os.length c).ownBlock = some k) w w1 := (ModP.below ((Below.refl _ _).alloc (Nat.le_refl _) (.cells #[.string n] 9))).trans (ModP.grown hg1 (fun b hb => hb))
  have hF1 : FsP w1 g X F := H.out.mod hm1 HFR.out (fun k cs t fz hk hb => by
    obtain ⟨cur, hc⟩ := own_type HV.out hk
    have := hb.symm.trans hc
    injection this with this
    injection this with _ h2
    rw [h2]; exact Or.inr (Or.inr (Or.inl rfl)))
  have HCK : Hid _ := check_any g X F (.slice P1 (os.length + 1) c1) (os ++ [n]) (by rw [List.length_append]; simp; omega) HS.out w1 hF1 (KR.own (E := psE) (n := os.length + 1) ho1 (by simp))
  have HF1 : Hid (FsP w1 g X F) := hF1
  have HM1 : Hid (ModP (fun k => (Value.slice P os.length c).ownBlock = some k) w w1) := hm1
  obtain ⟨ck, hck⟩ : ∃ ck, chkM F (os ++ [n]) = ck := ⟨_, rfl⟩
  have HFN : Hid (fndM F X n os = if ck = 0 then (if findM F.dir n < 0 then (.pointer none, 201) else (ptr (some (X.fb (findM F.dir n).toNat)), 0)) else (.pointer none, ck)) := by show _ = _; unfold fndM; rw [hck]
  have hlk := hF1.now_k.look (m := n) (by unfold maxLen; omega)
  obtain ⟨_, _, _, c3, _⟩ := hF1.cells
  rw [hck] at HCK
  clear hm1 hF1 ho1 hg1 hck
  unfold ptr at HCK
  refine (show Calls _ _ _ _ _ from HCK.out).mono ?_
  rintro e w2 ⟨rfl, rfl⟩
  by_cases h0 : ck = 0
  · subst h0
    rw [if_pos rfl] at HFN
    by_cases hf : findM F.dir n < 0
    · rw [if_pos hf] at HFN
      have e : dirF F.dir X.fb n = none := if_pos hf
      rw [e] at hlk
      unfold ptr at hlk
      go_wp2
      go_returns
      exact ⟨by rw [HFN.out]; rfl, HM1.out, HF1.out⟩
    · rw [if_neg hf] at HFN
      have e : dirF F.dir X.fb n = some (X.fb (findM F.dir n).toNat) := if_neg hf
      rw [e] at hlk
      generalize X.fb (findM F.dir n).toNat = bb at *
      clear e hf
      unfold ptr at hlk
      go_wp2
      go_returns
      exact ⟨by rw [HFN.out]; rfl, HM1.out, HF1.out⟩
  · rw [if_neg h0] at HFN
    have hne : (ck == 0) = false := by simpa using h0
    clear hlk c3
    go_wp2
    go_returns
    exact ⟨by rw [HFN.out]; rfl, HM1.out, HF1.out⟩
end Go.Proofs.YtencjopnbmbhkaaGreat
