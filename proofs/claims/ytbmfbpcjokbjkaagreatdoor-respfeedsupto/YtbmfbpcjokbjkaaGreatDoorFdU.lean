import Derived.Test.YtbmfbpcjokbjkaaGreatDoorFdT
namespace Go.Proofs.YtbmfbpcjokbjkaaGreatDoor
open Go.RowKit Vi
set_option linter.unusedVariables false
set_option linter.unusedSimpArgs false
/-- what holds of a parser between two feeds. -/
structure RInv (S : PS) : Prop where
  le : S.st ≤ 5
  r0 : S.st = 0 → S.part = [] ∧ S.words = [] ∧ S.total = 0
  r1 : S.st = 1 → S.part.length ≤ 64 ∧ (∃ t, S.part = 42 :: t) ∧ S.words = [] ∧ 0 ≤ S.total ∧ S.total ≤ 33554432
  r2 : S.st = 2 → WInv S ∧ S.part = []
  r3 : S.st = 3 → WInv S ∧ S.part.length ≤ 64 ∧ ∃ t, S.part = 36 :: t
  r4 : S.st = 4 → WInv S ∧ ∃ sz : Nat, S.size = (sz : Int) ∧ sz ≤ 524288 ∧ S.part.length < sz + 2
  r5 : S.st = 5 → S.part.length ≤ 65536
/-- read, as plain data. -/
def rdF (f : Nat) (S : PS) (s : SP.Bs) : RO := match S.st with
  | 0 => if s.head? = some 42 then rdCount (rdW f) S s else rdLine S s
  | 1 => rdCount (rdW f) S s
  | 2 => rdW f S s
  | 3 => rdLen (rdW f) S s
  | 4 => rdBody (rdW f) S s
  | _ => rdLine S s
theorem part_eol {b : UInt8} {t : SP.Bs} {p s : SP.Bs} (hb : b ≠ 13) (hp : p = b :: t) (k : Nat) : eol (p ++ s.take k) ≠ [] := by
  rw [hp, List.cons_append]; exact eol_full hb
set_option maxRecDepth 20000 in
set_option maxHeartbeats 2000000 in
theorem read_any (B q f : Nat) (pv wv : Value) (S : PS) (s : ByteArray) (hs : s.size ≤ 1073741824) (h0 : 0 < s.size) (hf : s.size < f) (hI : RInv S) (w : World) (h : PA B w q pv wv S) (hL : ∀ W, Below B w W → Laid W) :
    Calls Tryz.prog 33 #[.pointer (some ⟨q, 0, none⟩), .string s] w fun e w' => RdIs B w w' q pv wv e (rdF f S s.data.toList) := by
  obtain ⟨W0, hW0⟩ : ∃ W, W = w.alloc (.cells #[.slice none 0 0, .string ⟨#[]⟩] 43) := ⟨_, rfl⟩
  have hb0 : Below w.heap.size w W0 := by rw [hW0]; exact (Below.refl _ _).alloc (Nat.le_refl _) _
  have HP0 : Hid _ := h.on hb0
  have HM0 : Hid (Mv w W0 q pv wv pv wv) := mv_bel hb0
  have HR0 : Hid (W0.heap[w.heap.size]? = some (.cells #[.slice none 0 0, .string ⟨#[]⟩] 43)) := by show _ = _; rw [hW0]; exact one_alloc _ _
  have HA : Hid _ := h
  have HI : Hid _ := hI
  have HL : Hid _ := hL
  obtain ⟨c0, c1, c2, c3, c4, c5, c6, cf⟩ := HP0.out.row.cells
  clear h hI hL hb0
  go_enter Tryz.func33, Tryz.ntmps33
  go_wp2
  rw [← hW0]
  refine wp_scope_labels (scopeTo Tryz.f33) (RJ B q w.heap.size pv wv w (rdF f S s.data.toList)) RM (fun l a w hj => rd_to l hj.1) ?_ (fun l a w' hj => rd_pass B q w.heap.size pv wv S w HA.out (Nat.le_refl _) HL.out _ _ (fun e w' hr => hr) l a w' hj)
  generalize hQ : jumps _ _ = Q
  have HQ : Hid _ := hQ
  clear hQ hW0
  have hle := HI.out.le
  have hcs : S.st = 0 ∨ S.st = 1 ∨ S.st = 2 ∨ S.st = 3 ∨ S.st = 4 ∨ S.st = 5 := by omega
  clear hle
  rcases hcs with hst | hst | hst | hst | hst | hst
  · have HK : Hid _ := hst
    rw [hst] at c0
    obtain ⟨i1, i2, i3⟩ := HI.out.r0 hst
    have HI1 : Hid _ := i1
    have HI2 : Hid _ := i2
    have HI3 : Hid _ := i3
    have HT := head_tl s h0
    have HHT : Hid _ := HT
    by_cases hb : s[0] = 42
    · have hcn : ((s[0].toNat : Int) != 42) = false := by rw [hb]; rfl
      have HB : Hid _ := hb
      clear hst i1 i2 i3 HT hb
      go_wp2
      rename_i K1 hK1
      apply wp_label
      show K1 _ _
      apply hK1
      refine (?_ : ∀ fa, IsFr fa q s w.heap.size → Code.wp Tryz.prog (scopeTl Tryz.f33 0) Q fa W0) _ rfl
      intro fa hfa
      obtain ⟨u', rfl⟩ := hfa.get
      rw [← HQ.out]
      have e1 : rdF f S s.data.toList = rdCount (rdW f) S s.data.toList := by unfold rdF; rw [HK.out]; exact if_pos (by rw [HHT.out, HB.out]; rfl)
      refine seg0 B q w.heap.size pv wv pv wv S s u' w W0 HP0.out HM0.out (Nat.le_refl _) HR0.out ⟨HI2.out, by rw [HI3.out]; omega, by rw [HI3.out]; omega⟩ (by rw [HI1.out]; simp) hs ?_ (fun W hW => HL.out W ((HM0.out.below HA.out).trans hW)) (rdW f) _ _ _ e1.symm (fun e w' hr => hr) ?_
      · intro k hk
        rw [HI1.out, List.nil_append]
        rw [HI1.out] at hk
        rw [HHT.out] at hk ⊢
        obtain ⟨j, rfl⟩ := lf_cons (by rw [HB.out]; decide) hk
        rw [List.take_succ_cons]
        exact eol_full (by rw [HB.out]; decide)
      · intro a' w' s' pv' wv' S' g1 g2 g3 g4 g5 g6 g7 g8
        exact ⟨by omega, f, s', pv', wv', S', g1, g2, g3, g4, by omega, by omega, g5, g6, g8⟩
    · have hcn : ((s[0].toNat : Int) != 42) = true := by
        have : ¬ ((s[0].toNat : Int) = 42) := fun e => hb (UInt8.toNat_inj.1 (by show s[0].toNat = 42; omega))
        simpa using this
      have HB : Hid _ := hb
      clear hst i1 i2 i3 HT hb
      go_wp2
      go_step3
      show Q _ _ _
      rw [← HQ.out, jumps_goto]
      refine ⟨by omega, f, s, pv, wv, S, rfl, HP0.out, HM0.out, HR0.out, hf, hs, ?_⟩
      have e1 : rdF f S s.data.toList = rdLine S s.data.toList := by unfold rdF; rw [HK.out]; exact if_neg (by rw [HHT.out]; intro e; injection e with e; exact HB.out e)
      rw [e1]
      exact ⟨by rw [HI1.out]; simp, rfl⟩
  · have HK : Hid _ := hst
    rw [hst] at c0
    clear hst
    go_wp2
    go_step3
    show Q _ _ _
    rw [← HQ.out, jumps_goto]
    refine ⟨by omega, f, s, pv, wv, S, rfl, HP0.out, HM0.out, HR0.out, hf, hs, ?_⟩
    have e1 : rdF f S s.data.toList = rdCount (rdW f) S s.data.toList := by unfold rdF; rw [HK.out]; rfl
    rw [e1]
    obtain ⟨k1, ⟨tt, k2⟩, k3, k4, k5⟩ := HI.out.r1 HK.out
    exact ⟨k1, ⟨k3, k4, k5⟩, fun k hk => part_eol (by decide) k2 k, rfl⟩
  · have HK : Hid _ := hst
    rw [hst] at c0
    clear hst
    go_wp2
    go_step3
    show Q _ _ _
    rw [← HQ.out, jumps_goto]
    refine ⟨by omega, f, s, pv, wv, S, rfl, HP0.out, HM0.out, HR0.out, hf, hs, ?_⟩
    have e1 : rdF f S s.data.toList = rdW f S s.data.toList := by unfold rdF; rw [HK.out]; rfl
    rw [e1]
    obtain ⟨k1, k2⟩ := HI.out.r2 HK.out
    exact ⟨k1, k2, rfl⟩
  · have HK : Hid _ := hst
    rw [hst] at c0
    clear hst
    go_wp2
    go_step3
    show Q _ _ _
    rw [← HQ.out, jumps_goto]
    refine ⟨by omega, f, s, pv, wv, S, rfl, HP0.out, HM0.out, HR0.out, hf, hs, ?_⟩
    have e1 : rdF f S s.data.toList = rdLen (rdW f) S s.data.toList := by unfold rdF; rw [HK.out]; rfl
    rw [e1]
    obtain ⟨k1, k2, tt, k3⟩ := HI.out.r3 HK.out
    exact ⟨k1, k2, fun k hk => part_eol (by decide) k3 k, rfl⟩
  · have HK : Hid _ := hst
    rw [hst] at c0
    clear hst
    go_wp2
    go_step3
    show Q _ _ _
    rw [← HQ.out, jumps_goto]
    refine ⟨by omega, f, s, pv, wv, S, rfl, HP0.out, HM0.out, HR0.out, hf, hs, ?_⟩
    have e1 : rdF f S s.data.toList = rdBody (rdW f) S s.data.toList := by unfold rdF; rw [HK.out]; rfl
    rw [e1]
    obtain ⟨k1, k2⟩ := HI.out.r4 HK.out
    exact ⟨k1, k2, rfl⟩
  · have HK : Hid _ := hst
    rw [hst] at c0
    clear hst
    go_wp2
    go_step3
    show Q _ _ _
    rw [← HQ.out, jumps_goto]
    refine ⟨by omega, f, s, pv, wv, S, rfl, HP0.out, HM0.out, HR0.out, hf, hs, ?_⟩
    have e1 : rdF f S s.data.toList = rdLine S s.data.toList := by unfold rdF; rw [HK.out]; rfl
    rw [e1]
    exact ⟨HI.out.r5 HK.out, rfl⟩
end Go.Proofs.YtbmfbpcjokbjkaaGreatDoor
