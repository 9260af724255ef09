import Derived.Test.YtnfbaeajalnmmaaGreatDoorGE
namespace Go.Proofs.YtnfbaeajalnmmaaGreatDoor
open Go.RowKit Vi
set_option linter.unusedVariables false
set_option linter.unusedSimpArgs false
theorem own_cap {W : World} {b n c : Nat} {P : Option Addr} {xs : List Value} (h : W.ownsRow b 5 1 (.slice P n c) n xs) : n ≤ c := by
  rcases h.2 with ⟨e, e0⟩ | ⟨g, cap, cur, e, a1, hr, a2, a3, a4, a5⟩
  · omega
  · rw [(Value.slice.inj e).2.2]; exact a2
theorem mixed : Tryz.prog.follows .mixedOrders = true := by kernel_rfl
set_option maxRecDepth 20000 in
set_option maxHeartbeats 2000000 in
/-- toSize where the word is whole. -/
theorem toSize_yes (B q sz m : Nat) (pv wv : Value) (S : PS) (s : ByteArray) (hz : S.size = (sz : Int)) (hzl : sz ≤ 524288) (hs : s.size ≤ 1073741824) (hm : m + S.part.length = sz + 2) (hms : m ≤ s.size) (hmo : 0 ≤ S.more ∧ S.more ≤ 1048576) (hwl : S.words.length ≤ 1048576) (w : World) (h : PA B w q pv wv S) :
    Calls Tryz.prog 49 #[.pointer (some ⟨q, 0, none⟩), .string s] w fun e w' => e = .returned (.tuple #[.string (s.extract m s.size), .bool true]) ∧ ∃ pv' wv', PA B w' q pv' wv' { S with part := [], words := S.words ++ [(S.part ++ s.data.toList.take m).take sz], more := S.more - 1 } ∧ Mv w w' q pv wv pv' wv' := by
  obtain ⟨P, c, hpv⟩ := own_form h.po
  subst hpv
  obtain ⟨PW, cw, hwv⟩ := own_form h.wo
  subst hwv
  obtain ⟨c0, c1, c2, c3, c4, c5, c6, cf⟩ := h.row.cells
  obtain ⟨n, hnl⟩ : ∃ n, S.part.length = n := ⟨_, rfl⟩
  obtain ⟨nw, hnw⟩ : ∃ nw, S.words.length = nw := ⟨_, rfl⟩
  rw [hnl] at hm c2 h
  rw [hnw] at hwl c3 h
  rw [hz] at c6
  have HA : Hid _ := h
  have HNL : Hid _ := hnl
  have HNW : Hid _ := hnw
  have HZ : Hid _ := hz
  have hw1 : IntKind.i64.wrap ((sz : Int) + 2) = (sz : Int) + 2 := by rw [IntKind.wrap_i64] <;> omega
  have hmi : (sz : Int) + 2 - (n : Int) = (m : Int) := by omega
  have hsm : ¬ s.size < m := by omega
  have hrz : (s.extract 0 m).size = m := by rw [ext_size _ _ _ hms]; rfl
  have HTK : Hid ((s.extract 0 m).data.toList = s.data.toList.take m) := by show _ = _; rw [ext_any, List.drop_zero, Nat.sub_zero]
  obtain ⟨mo, hmo'⟩ : ∃ mo, S.more = mo := ⟨_, rfl⟩
  rw [hmo'] at hmo c4
  have HMO : Hid _ := hmo'
  obtain ⟨hmo0, hmo1⟩ := hmo
  clear h hnl hz hnw hmo'
  go_enter Tryz.func49, Tryz.ntmps49
  go_upto_region 1 with fail
  go_quiet (fail)
  obtain ⟨W1, hW1⟩ : ∃ W, W = w.drewN nq := ⟨_, rfl⟩
  rw [← hW1]
  have HA1 : Hid (PA B W1 q (.slice P n c) (.slice PW nw cw) S) := by show PA _ _ _ _ _ _; rw [hW1]; exact HA.out.dn nq
  have HM1 : Hid (Mv w W1 q (.slice P n c) (.slice PW nw cw) (.slice P n c) (.slice PW nw cw)) := by show Mv _ _ _ _ _ _ _; rw [hW1]; exact mv_bel (below_dn (Below.refl _ _) nq)
  obtain ⟨b0, b1, b2, b3, b4, b5, b6, bf⟩ := HA1.out.row.cells
  clear c0 c1 c2 c3 c4 c5 c6 cf hw1 hmi hW1
  go_upto_region 5 with fail
  go_region_law (refine step_append_at rfl (.tmp 35) (.tmp 38) rfl B HA1.out.drew.lt (.slice P n c) n (bcells S.part) rfl (HNL.out ▸ HA1.out.drew.po) (s.extract 0 m) rfl (by rw [hrz]; omega) ?_; intro v5 w5 ho5 hg5 hat5; obtain ⟨P5, k5, hf5⟩ := own_form ho5; subst hf5; obtain ⟨hr5, hp5, hm5⟩ := HA1.out.drew.app2 HNL.out ho5 hg5 hat5; have HP5 : Hid _ := hp5; have HM5 : Hid _ := hm5; clear hp5 hm5; obtain ⟨d0, d1, d2, d3, d4, d5, d6, df⟩ := hr5.cells)
  all_goals
    clear ho5 hg5 hat5 hr5 b0 b1 b2 b3 b4 b5 b6 bf d0 d1 d2 d3 d4 d5 d6 df
    rw [HTK.out, hrz] at HP5
    rw [hrz] at HM5
    obtain ⟨W6, hW6⟩ : ∃ W, W = w5.setCell ⟨q, 2, none⟩ (.slice P5 (n + m) k5) := ⟨_, rfl⟩
    rw [← hW6] at HP5 HM5 ⊢
    have HM6 : Hid _ := HM1.out.trans ((mv_bel (Below.refl _ _).drew).trans HM5.out)
    have HNP : Hid ((S.part ++ s.data.toList.take m).length = n + m) := by show _ = _; rw [List.length_append, HNL.out, ← HTK.out, list_len, hrz]
    clear hW6 HM5
    obtain ⟨b0, b1, b2, b3, b4, b5, b6, bf⟩ := HP5.out.row.cells
    dsimp only at b0 b1 b2 b3 b4 b5 b6
    rw [HZ.out] at b6
    rw [HMO.out] at b4
    have hbs : sz ≤ k5 := by have := HP5.out.po; rw [HNP.out] at this; have := own_cap this; omega
    have hcv : Sem.run Tryz.prog (convert 50 9 (.slice P5 sz k5)) W6.drew = .ok (.string (strB ((S.part ++ s.data.toList.take m).take sz))) W6.drew := conv_pre (by have := HP5.out.drew.po; rw [HNP.out] at this; exact this) (by omega)
    obtain ⟨X, hX⟩ : ∃ X : SP.Bs, (S.part ++ s.data.toList.take m).take sz = X := ⟨_, rfl⟩
    rw [hX] at hcv
    have HX : Hid _ := hX
    clear hX
    have HPX : Hid (PA B (W6.alloc (.cells #[.string (strB X)] 9)).drew q (.slice P5 (n + m) k5) (.slice PW nw cw) { S with part := S.part ++ s.data.toList.take m }) := (HP5.out.on ((Below.refl _ _).alloc (Nat.le_refl _) _)).drew
    have HMX : Hid (Mv W6 (W6.alloc (.cells #[.string (strB X)] 9)).drew q (.slice P5 (n + m) k5) (.slice PW nw cw) (.slice P5 (n + m) k5) (.slice PW nw cw)) := mv_bel ((Below.refl _ _).alloc (Nat.le_refl _) _).drew
    have HOX : Hid ((W6.alloc (.cells #[.string (strB X)] 9)).drew.ownsRow B 9 1 (.slice PW nw cw) nw (strS S.words)) := by show World.ownsRow _ _ _ _ _ _ _; have := HPX.out.wo; rw [HNW.out] at this; exact this
    have HCX : Hid ((W6.alloc (.cells #[.string (strB X)] 9)).drew.cell? ⟨W6.heap.size, 0, none⟩ = some (.string (strB X))) := (row1 (one_alloc W6 (.cells #[.string (strB X)] 9))).1
    have e3 := cell_a1 b3 (.cells #[.string (strB X)] 9)
    go_upto_region 6 with fail
    go_region_law (refine step_append_w rfl (.tmp 46) (.tmp 57) rfl B HPX.out.lt (.slice PW nw cw) nw (strS S.words) rfl HOX.out W6.heap.size (strB X) rfl HCX.out (by omega) ?_; intro v7 w7 ho7 hg7 hat7; obtain ⟨P7, k7, hf7⟩ := own_form ho7; subst hf7; obtain ⟨hr7, hp7, hm7⟩ := HPX.out.word HNW.out ho7 hg7 hat7; have HP7 : Hid _ := hp7; have HM7 : Hid _ := hm7; clear hp7 hm7; obtain ⟨d0, d1, d2, d3, d4, d5, d6, df⟩ := hr7.cells)
    all_goals
      clear ho7 hg7 hat7 hr7 b0 b1 b2 b3 b4 b5 b6 bf d0 d1 d2 d3 d4 d5 d6 df hcv e3
      obtain ⟨W8, hW8⟩ : ∃ W, W = w7.setCell ⟨q, 3, none⟩ (.slice P7 (nw + 1) k7) := ⟨_, rfl⟩
      rw [← hW8] at HP7 HM7 ⊢
      have HM8 : Hid _ := HM6.out.trans (HMX.out.trans HM7.out)
      clear hW8 HM7
      obtain ⟨b0, b1, b2, b3, b4, b5, b6, bf⟩ := HP7.out.row.cells
      dsimp only at b0 b1 b2 b3 b4 b5 b6
      rw [HMO.out] at b4
      have HF : Hid _ := HP7.out.fin HNP.out (mo - 1)
      have hk5 : 0 ≤ (k5 : Int) := by omega
      go_wp2
      go_returns
      rw [HNL.out, HNW.out, HX.out, HMO.out]
      exact ⟨rfl, _, _, HF.out.1, HM8.out.trans HF.out.2⟩
end Go.Proofs.YtnfbaeajalnmmaaGreatDoor
