import Derived.Test.YtnfbaeajalnmmaaGreatDoorHS
import Derived.Maps.AppendAt
namespace Go.Proofs.YtnfbaeajalnmmaaGreatDoor
open Go.RowKit Vi
set_option linter.unusedVariables false
set_option linter.unusedSimpArgs false
/-- a parser that was fed nothing; behind a fault it stands at 6. -/
def PS0 (st : Nat) : PS := ⟨st, 0, [], [], 0, 0, 0⟩
theorem PA.zero {B : Nat} {w w' : World} {q : Nat} {pv wv : Value} {S : PS} (h : PA B w q pv wv S) (st : Nat) (hr : PrR w' q st 0 (.slice none 0 0) (.slice none 0 0) 0 0 0) : PA B w' q (.slice none 0 0) (.slice none 0 0) (PS0 st) :=
  ⟨hr, ⟨rfl, Or.inl ⟨rfl, rfl⟩⟩, ⟨rfl, Or.inl ⟨rfl, rfl⟩⟩, h.lo⟩
theorem mv_zero {w w' : World} {q : Nat} {pv wv : Value} (h : Only w w' q) : Mv w w' q pv wv (.slice none 0 0) (.slice none 0 0) :=
  ⟨h.os, h.tape, h.output, by rw [h.size]; exact Nat.le_refl _, fun k _ hk _ _ => h.other k hk, fun k e => (by cases e), fun k e => (by cases e)⟩
theorem forget_yes (q st held : Nat) (pv wv : Value) (more total size : Int) (w : World) (h : PrR w q st held pv wv more total size) : Calls Tryz.prog 26 #[.pointer (some ⟨q, 0, none⟩), .bool true] w fun e w' => (∃ r, e = .returned r) ∧ PrR w' q 6 0 (.slice none 0 0) (.slice none 0 0) 0 0 0 ∧ Only w w' q := by
  obtain ⟨c0, c1, c2, c3, c4, c5, c6, cf⟩ := h.cells
  have H : Hid _ := h
  clear h
  go_enter Tryz.func26, Tryz.ntmps26
  go_upto_region 2 with fail
  obtain ⟨hr, ho⟩ := heap_set7 _ _ _ _ _ _ _ _ _ _ (.int .i64 0) (.int .i64 0) (.slice none 0 0) (.slice none 0 0) (.int .i64 0) (.int .i64 0) (.int .i64 0) H.out
  generalize hW : ((((((w.setCell ⟨q, 0, none⟩ (.int .i64 0)).setCell ⟨q, 1, none⟩ (.int .i64 0)).setCell ⟨q, 2, none⟩ (.slice none 0 0)).setCell ⟨q, 3, none⟩ (.slice none 0 0)).setCell ⟨q, 4, none⟩ (.int .i64 0)).setCell ⟨q, 5, none⟩ (.int .i64 0)).setCell ⟨q, 6, none⟩ (.int .i64 0) = W at *
  have hr' : PrR W q 0 0 (.slice none 0 0) (.slice none 0 0) 0 0 0 := hr
  obtain ⟨d0, d1, d2, d3, d4, d5, d6, df⟩ := hr'.cells
  have HR : Hid _ := hr'
  have HO : Hid _ := ho
  clear hr hr' ho hW c0 c1 c2 c3 c4 c5 c6 cf
  go_wp2
  go_returns
  refine ⟨⟨_, rfl⟩, ?_, HO.out.trans ((Only.refl _ _).set _ _)⟩
  have := HR.out
  unfold PrR at this ⊢
  rw [heap_setCell_same _ _ _ _ _ _ this]; rfl
theorem forget_any (B q : Nat) (pv wv : Value) (S : PS) (fault : Bool) (w : World) (h : PA B w q pv wv S) :
    Calls Tryz.prog 26 #[.pointer (some ⟨q, 0, none⟩), .bool fault] w fun e w' => (∃ r, e = .returned r) ∧ PA B w' q (.slice none 0 0) (.slice none 0 0) (PS0 (if fault then 6 else 0)) ∧ Only w w' q := by
  cases fault with
  | false =>
    refine (forget_no q _ _ _ _ _ _ _ w h.row).mono ?_
    rintro e w' ⟨a, b, c⟩
    exact ⟨a, h.zero 0 b, c⟩
  | true =>
    refine (forget_yes q _ _ _ _ _ _ _ w h.row).mono ?_
    rintro e w' ⟨a, b, c⟩
    exact ⟨a, h.zero 6 b, c⟩
theorem rinv_zero : RInv (PS0 0) := ⟨by decide, fun _ => ⟨rfl, rfl, rfl⟩, fun h => absurd (show (0 : Nat) = 1 from h) (by decide), fun h => absurd (show (0 : Nat) = 2 from h) (by decide), fun h => absurd (show (0 : Nat) = 3 from h) (by decide), fun h => absurd (show (0 : Nat) = 4 from h) (by decide), fun h => absurd (show (0 : Nat) = 5 from h) (by decide)⟩
theorem rinv1 {S : PS} (h : S.part.length ≤ 64 ∧ (∃ t, S.part = 42 :: t) ∧ S.words = [] ∧ 0 ≤ S.total ∧ S.total ≤ 33554432) : RInv { S with st := 1 } := ⟨show (1 : Nat) ≤ 5 by decide, fun h => absurd (show (1 : Nat) = 0 from h) (by decide), fun _ => h, fun h => absurd (show (1 : Nat) = 2 from h) (by decide), fun h => absurd (show (1 : Nat) = 3 from h) (by decide), fun h => absurd (show (1 : Nat) = 4 from h) (by decide), fun h => absurd (show (1 : Nat) = 5 from h) (by decide)⟩
theorem rinv2 {S : PS} (h : WInv S ∧ S.part = []) : RInv { S with st := 2 } := ⟨show (2 : Nat) ≤ 5 by decide, fun h => absurd (show (2 : Nat) = 0 from h) (by decide), fun h => absurd (show (2 : Nat) = 1 from h) (by decide), fun _ => ⟨⟨h.1.m1, h.1.mw, h.1.t0, h.1.t1⟩, h.2⟩, fun h => absurd (show (2 : Nat) = 3 from h) (by decide), fun h => absurd (show (2 : Nat) = 4 from h) (by decide), fun h => absurd (show (2 : Nat) = 5 from h) (by decide)⟩
theorem rinv3 {S : PS} (h : WInv S ∧ S.part.length ≤ 64 ∧ ∃ t, S.part = 36 :: t) : RInv { S with st := 3 } := ⟨show (3 : Nat) ≤ 5 by decide, fun h => absurd (show (3 : Nat) = 0 from h) (by decide), fun h => absurd (show (3 : Nat) = 1 from h) (by decide), fun h => absurd (show (3 : Nat) = 2 from h) (by decide), fun _ => ⟨⟨h.1.m1, h.1.mw, h.1.t0, h.1.t1⟩, h.2⟩, fun h => absurd (show (3 : Nat) = 4 from h) (by decide), fun h => absurd (show (3 : Nat) = 5 from h) (by decide)⟩
theorem rinv4 {S : PS} (h : WInv S ∧ ∃ sz : Nat, S.size = (sz : Int) ∧ sz ≤ 524288 ∧ S.part.length < sz + 2) : RInv { S with st := 4 } := ⟨show (4 : Nat) ≤ 5 by decide, fun h => absurd (show (4 : Nat) = 0 from h) (by decide), fun h => absurd (show (4 : Nat) = 1 from h) (by decide), fun h => absurd (show (4 : Nat) = 2 from h) (by decide), fun h => absurd (show (4 : Nat) = 3 from h) (by decide), fun _ => ⟨⟨h.1.m1, h.1.mw, h.1.t0, h.1.t1⟩, h.2⟩, fun h => absurd (show (4 : Nat) = 5 from h) (by decide)⟩
theorem rinv5 {S : PS} (h : S.part.length ≤ 65536) : RInv { S with st := 5 } := ⟨show (5 : Nat) ≤ 5 by decide, fun h => absurd (show (5 : Nat) = 0 from h) (by decide), fun h => absurd (show (5 : Nat) = 1 from h) (by decide), fun h => absurd (show (5 : Nat) = 2 from h) (by decide), fun h => absurd (show (5 : Nat) = 3 from h) (by decide), fun h => absurd (show (5 : Nat) = 4 from h) (by decide), fun _ => h⟩
theorem two0 (h : (2 : Int) = 0) : False := by omega
theorem one0 (h : (1 : Int) = 0) : False := by omega
theorem line_inv (S : PS) (s : SP.Bs) (hk : (rdLine S s).k = 0) : RInv (rdLine S s).S := by
  unfold rdLine at hk ⊢
  cases hi : lfAt (s.take (65537 - S.part.length)) with
  | none =>
    rw [hi] at hk
    dsimp only at hk ⊢
    by_cases hl : 65536 < (S.part ++ s.take (65537 - S.part.length)).length
    · rw [if_pos hl] at hk; exact (two0 hk).elim
    · rw [if_neg hl]; exact rinv5 (S := { S with part := S.part ++ s.take (65537 - S.part.length) }) (Nat.le_of_not_lt hl)
  | some k =>
    rw [hi] at hk
    dsimp only at hk ⊢
    unfold lnO at hk
    split at hk <;> first | exact (two0 hk).elim | exact (one0 hk).elim
/-- what a reader of words keeps. -/
def NInv (next : PS → SP.Bs → RO) : Prop := ∀ S s, WInv S → S.part = [] → (next S s).k = 0 → RInv (next S s).S
theorem body_inv (next : PS → SP.Bs → RO) (hN : NInv next) (S : PS) (s : SP.Bs) (hW : WInv S) (hz : ∃ sz : Nat, S.size = (sz : Int) ∧ sz ≤ 524288) (hk : (rdBody next S s).k = 0) : RInv (rdBody next S s).S := by
  obtain ⟨sz, hz, hzl⟩ := hz
  have hzn : S.size.toNat = sz := by rw [hz]; rfl
  unfold rdBody at hk ⊢
  rw [hzn] at hk ⊢
  by_cases hl : s.length + S.part.length < sz + 2
  · rw [if_pos hl]
    exact rinv4 (S := { S with part := S.part ++ s }) ⟨⟨hW.m1, hW.mw, hW.t0, hW.t1⟩, sz, hz, hzl, by show (S.part ++ s).length < _; rw [List.length_append]; omega⟩
  · rw [if_neg hl] at hk ⊢
    by_cases hm : 0 < S.more - 1
    · rw [if_pos hm] at hk ⊢
      exact hN _ _ ⟨by show 1 ≤ S.more - 1; omega, by show ((S.words ++ [_]).length : Int) + (S.more - 1) ≤ _; rw [List.length_append]; have := hW.mw; simp; omega, hW.t0, hW.t1⟩ rfl hk
    · rw [if_neg hm] at hk; exact (two0 hk).elim
theorem take_head {p s : SP.Bs} {b : UInt8} (h : (p ++ s).head? = some b) (n : Nat) (hn : 0 < n) : ∃ t, p ++ s.take n = b :: t := by
  cases p with
  | cons a p => injection h with h; subst h; exact ⟨_, rfl⟩
  | nil =>
    cases s with
    | nil => cases h
    | cons a s =>
      injection h with h; subst h
      cases n with
      | zero => omega
      | succ n => exact ⟨_, rfl⟩
theorem len_inv (next : PS → SP.Bs → RO) (hN : NInv next) (S : PS) (s : SP.Bs) (hW : WInv S) (hp : S.part.length ≤ 64) (hh : (S.part ++ s).head? = some 36) (hk : (rdLen next S s).k = 0) : RInv (rdLen next S s).S := by
  unfold rdLen at hk ⊢
  cases hi : lfAt (s.take (65 - S.part.length)) with
  | none =>
    rw [hi] at hk
    dsimp only at hk ⊢
    by_cases hl : 64 < (S.part ++ s.take (65 - S.part.length)).length
    · rw [if_pos hl] at hk; exact (two0 hk).elim
    · rw [if_neg hl]; exact rinv3 (S := { S with part := S.part ++ s.take (65 - S.part.length) }) ⟨⟨hW.m1, hW.mw, hW.t0, hW.t1⟩, Nat.le_of_not_lt hl, take_head hh _ (by omega)⟩
  | some k =>
    rw [hi] at hk
    dsimp only at hk ⊢
    unfold lenO at hk ⊢
    cases hv : lenV ((eol (S.part ++ s.take k)).drop 1) with
    | none => rw [hv] at hk; exact (two0 hk).elim
    | some v =>
      rw [hv] at hk
      dsimp only at hk ⊢
      have hv01 : 0 ≤ v ∧ v ≤ 524288 := by
        unfold lenV at hv
        split at hv
        · split at hv
          · injection hv with hv; subst hv; assumption
          · cases hv
        · cases hv
      by_cases ht : S.total + v ≤ 33554432
      · rw [if_pos ht] at hk ⊢
        exact body_inv next hN _ _ ⟨hW.m1, hW.mw, by show 0 ≤ S.total + v; have := hW.t0; omega, ht⟩ ⟨v.toNat, by show v = _; omega, by omega⟩ hk
      · rw [if_neg ht] at hk; exact (two0 hk).elim
theorem word_inv (next : PS → SP.Bs → RO) (hN : NInv next) : NInv (rdWord next) := by
  intro S s hW hp hk
  cases s with
  | nil => exact rinv2 ⟨hW, hp⟩
  | cons b t =>
    unfold rdWord at hk ⊢
    dsimp only at hk ⊢
    by_cases hb : b = 36
    · rw [if_pos hb] at hk ⊢
      exact len_inv next hN { S with st := 2 } _ ⟨hW.m1, hW.mw, hW.t0, hW.t1⟩ (by show S.part.length ≤ 64; rw [hp]; simp) (by show (S.part ++ _).head? = _; rw [hp, hb]; rfl) hk
    · rw [if_neg hb] at hk; exact (two0 hk).elim
theorem rdW_inv (f : Nat) : NInv (rdW f) := by
  induction f with
  | zero => intro S s _ _ hk; exact (one0 hk).elim
  | succ f ih => exact word_inv _ ih
theorem cnt_inv (next : PS → SP.Bs → RO) (hN : NInv next) (S : PS) (s : SP.Bs) (hw : S.words = [] ∧ 0 ≤ S.total ∧ S.total ≤ 33554432) (hp : S.part.length ≤ 64) (hh : (S.part ++ s).head? = some 42) (hk : (rdCount next S s).k = 0) : RInv (rdCount next S s).S := by
  unfold rdCount at hk ⊢
  cases hi : lfAt (s.take (65 - S.part.length)) with
  | none =>
    rw [hi] at hk
    dsimp only at hk ⊢
    by_cases hl : 64 < (S.part ++ s.take (65 - S.part.length)).length
    · rw [if_pos hl] at hk; exact (two0 hk).elim
    · rw [if_neg hl]; exact rinv1 (S := { S with part := S.part ++ s.take (65 - S.part.length) }) ⟨Nat.le_of_not_lt hl, take_head hh _ (by omega), hw⟩
  | some k =>
    rw [hi] at hk
    dsimp only at hk ⊢
    generalize (eol (S.part ++ s.take k)).drop 1 = L at hk ⊢
    unfold cntO at hk ⊢
    cases hok : cntOk L with
    | false => rw [hok, if_neg (by decide)] at hk; exact (two0 hk).elim
    | true =>
      rw [hok, if_pos rfl] at hk
      rw [if_pos rfl]
      have hle : cntN L ≤ 1048576 := by
        unfold cntOk at hok
        unfold cntN
        cases hno : numberOf L with
        | none => rw [hno] at hok; cases hok
        | some v => rw [hno] at hok; simpa using hok
      by_cases h1 : cntN L < 1
      · rw [if_pos h1] at hk; exact (one0 hk).elim
      · rw [if_neg h1] at hk ⊢
        exact word_inv next hN _ _ ⟨by show 1 ≤ cntN L; omega, by show (S.words.length : Int) + cntN L ≤ _; rw [hw.1]; simp; omega, hw.2.1, hw.2.2⟩ rfl hk
/-- where read waits the parser is as it should be. -/
theorem rdF_inv (f : Nat) (S : PS) (s : SP.Bs) (hI : RInv S) (hs : s ≠ []) (hk : (rdF f S s).k = 0) : RInv (rdF f S s).S := by
  have hle := hI.le
  have hcs : S.st = 0 ∨ S.st = 1 ∨ S.st = 2 ∨ S.st = 3 ∨ S.st = 4 ∨ S.st = 5 := by omega
  rcases hcs with hst | hst | hst | hst | hst | hst
  · obtain ⟨i1, i2, i3⟩ := hI.r0 hst
    by_cases hb : s.head? = some 42
    · have e1 : rdF f S s = rdCount (rdW f) S s := by unfold rdF; rw [hst]; exact if_pos hb
      rw [e1] at hk ⊢
      exact cnt_inv _ (rdW_inv f) S s ⟨i2, by omega, by omega⟩ (by rw [i1]; simp) (by rw [i1]; exact hb) hk
    · have e1 : rdF f S s = rdLine S s := by unfold rdF; rw [hst]; exact if_neg hb
      rw [e1] at hk ⊢
      exact line_inv S s hk
  · have e1 : rdF f S s = rdCount (rdW f) S s := by unfold rdF; rw [hst]; rfl
    rw [e1] at hk ⊢
    obtain ⟨k1, ⟨tt, k2⟩, k3⟩ := hI.r1 hst
    exact cnt_inv _ (rdW_inv f) S s k3 k1 (by rw [k2]; rfl) hk
  · have e1 : rdF f S s = rdW f S s := by unfold rdF; rw [hst]; rfl
    rw [e1] at hk ⊢
    obtain ⟨k1, k2⟩ := hI.r2 hst
    exact rdW_inv f S s k1 k2 hk
  · have e1 : rdF f S s = rdLen (rdW f) S s := by unfold rdF; rw [hst]; rfl
    rw [e1] at hk ⊢
    obtain ⟨k1, k2, tt, k3⟩ := hI.r3 hst
    exact len_inv _ (rdW_inv f) S s k1 k2 (by rw [k3]; rfl) hk
  · have e1 : rdF f S s = rdBody (rdW f) S s := by unfold rdF; rw [hst]; rfl
    rw [e1] at hk ⊢
    obtain ⟨k1, sz, k2, k3, _⟩ := hI.r4 hst
    exact body_inv _ (rdW_inv f) S s k1 ⟨sz, k2, k3⟩ hk
  · have e1 : rdF f S s = rdLine S s := by unfold rdF; rw [hst]; rfl
    rw [e1] at hk ⊢
    exact line_inv S s hk
end Go.Proofs.YtnfbaeajalnmmaaGreatDoor
namespace Go.Proofs.YtnfbaeajalnmmaaGreatDoor
open Go.RowKit Vi
set_option linter.unusedVariables false
set_option linter.unusedSimpArgs false
/-! read without its fuel; its bytes cut in two. -/
theorem rdBody_congr (n1 n2 : PS → SP.Bs → RO) (S : PS) (s : SP.Bs) (h : ∀ S' s', s'.length ≤ s.length → n1 S' s' = n2 S' s') : rdBody n1 S s = rdBody n2 S s := by
  unfold rdBody
  rw [h _ (s.drop (S.size.toNat + 2 - S.part.length)) (by rw [List.length_drop]; omega)]
theorem lf_len {l : SP.Bs} {k : Nat} (h : lfAt l = some k) : k < l.length := (lf_some l k h).2
theorem rdLen_congr (n1 n2 : PS → SP.Bs → RO) (S : PS) (s : SP.Bs) (h : ∀ S' s', s'.length < s.length → n1 S' s' = n2 S' s') : rdLen n1 S s = rdLen n2 S s := by
  unfold rdLen
  cases hi : lfAt (s.take (65 - S.part.length)) with
  | none => rfl
  | some k =>
    have hk := lf_len hi
    rw [List.length_take] at hk
    dsimp only
    unfold lenO
    cases lenV ((eol (S.part ++ s.take k)).drop 1) with
    | none => rfl
    | some v =>
      dsimp only
      rw [rdBody_congr n1 n2 _ (s.drop (k + 1)) (fun S' s' hs => h S' s' (by rw [List.length_drop] at hs; omega))]
theorem rdWord_congr (n1 n2 : PS → SP.Bs → RO) (S : PS) (s : SP.Bs) (h : ∀ S' s', s'.length < s.length → n1 S' s' = n2 S' s') : rdWord n1 S s = rdWord n2 S s := by
  cases s with
  | nil => rfl
  | cons b t =>
    unfold rdWord
    dsimp only
    rw [rdLen_congr n1 n2 _ _ h]
theorem rdCount_congr (n1 n2 : PS → SP.Bs → RO) (S : PS) (s : SP.Bs) (h : ∀ S' s', s'.length < s.length → n1 S' s' = n2 S' s') : rdCount n1 S s = rdCount n2 S s := by
  unfold rdCount
  cases hi : lfAt (s.take (65 - S.part.length)) with
  | none => rfl
  | some k =>
    have hk := lf_len hi
    rw [List.length_take] at hk
    dsimp only
    unfold cntO
    rw [rdWord_congr n1 n2 _ (s.drop (k + 1)) (fun S' s' hs => h S' s' (by rw [List.length_drop] at hs; omega))]
theorem rdW_fuel : ∀ (f g : Nat) (S : PS) (s : SP.Bs), s.length < f → s.length < g → rdW f S s = rdW g S s
  | 0, _, _, _, h, _ => absurd h (by omega)
  | _ + 1, 0, _, _, _, h => absurd h (by omega)
  | f + 1, g + 1, S, s, hf, hg => rdWord_congr _ _ S s (fun S' s' hs => rdW_fuel f g S' s' (by omega) (by omega))
/-- read from ahead of a word on. -/
def rdN (S : PS) (s : SP.Bs) : RO := rdW (s.length + 1) S s
theorem rdW_N (f : Nat) (S : PS) (s : SP.Bs) (h : s.length < f) : rdW f S s = rdN S s := rdW_fuel _ _ S s h (by omega)
theorem rdN_eq (S : PS) (s : SP.Bs) : rdN S s = rdWord rdN S s := rdWord_congr _ _ S s (fun S' s' hs => rdW_N _ S' s' hs)
/-- read, as plain data, without fuel. -/
def rdG (S : PS) (s : SP.Bs) : RO := match S.st with
  | 0 => if s.head? = some 42 then rdCount rdN S s else rdLine S s
  | 1 => rdCount rdN S s
  | 2 => rdN S s
  | 3 => rdLen rdN S s
  | 4 => rdBody rdN S s
  | _ => rdLine S s
theorem rdF_G (f : Nat) (S : PS) (s : SP.Bs) (h : s.length < f) : rdF f S s = rdG S s := by
  unfold rdF rdG
  have h1 : ∀ S' s', s'.length ≤ s.length → rdW f S' s' = rdN S' s' := fun S' s' hs => rdW_N f S' s' (by omega)
  rw [rdCount_congr _ _ S s (fun S' s' hs => h1 S' s' (by omega)), rdLen_congr _ _ S s (fun S' s' hs => h1 S' s' (by omega)), rdBody_congr _ _ S s h1, h1 S s (Nat.le_refl _)]
  rcases S.st with _ | _ | _ | _ | _ | _ <;> rfl
/-! the bytes cut: where read waits. -/
theorem lf_app_none {a b : SP.Bs} (h : lfAt a = none) : lfAt (a ++ b) = (lfAt b).map (· + a.length) := by
  unfold lfAt at h ⊢
  rw [List.findIdx?_append, h]
  rfl
theorem lf_app_some {a b : SP.Bs} {k : Nat} (h : lfAt a = some k) : lfAt (a ++ b) = some k := by
  unfold lfAt at h ⊢
  rw [List.findIdx?_append, h]
  rfl
theorem take_two (a c : SP.Bs) (n : Nat) (h : a.length ≤ n) : (a ++ c).take n = a ++ c.take (n - a.length) := by
  rw [List.take_append, List.take_of_length_le h]
theorem drop_two (a c : SP.Bs) (n : Nat) (h : a.length ≤ n) : (a ++ c).drop n = c.drop (n - a.length) := by
  rw [List.drop_append, List.drop_eq_nil_of_le h, List.nil_append]
theorem take_one (a c : SP.Bs) (n : Nat) (h : n ≤ a.length) : (a ++ c).take n = a.take n := List.take_append_of_le_length h
theorem drop_one' (a c : SP.Bs) (n : Nat) (h : n ≤ a.length) : (a ++ c).drop n = a.drop n ++ c := List.drop_append_of_le_length h
/-- a line that has not ended in a, and may go on. -/
theorem ln_wait (m : Nat) (p a c : SP.Bs) (h1 : lfAt (a.take (m + 1 - p.length)) = none) (h2 : ¬ m < (p ++ a.take (m + 1 - p.length)).length) :
    a.take (m + 1 - p.length) = a ∧ (p ++ a).length ≤ m ∧ lfAt ((a ++ c).take (m + 1 - p.length)) = (lfAt (c.take (m + 1 - (p ++ a).length))).map (· + a.length) ∧ (a ++ c).take (m + 1 - p.length) = a ++ c.take (m + 1 - (p ++ a).length) := by
  rw [List.length_append, List.length_take] at h2
  have h3 : a.length ≤ m + 1 - p.length := by omega
  have h4 : a.take (m + 1 - p.length) = a := List.take_of_length_le h3
  rw [h4] at h1
  have h5 : (a ++ c).take (m + 1 - p.length) = a ++ c.take (m + 1 - (p ++ a).length) := by
    rw [take_two a c _ h3, List.length_append]; congr 2; omega
  refine ⟨h4, by rw [List.length_append]; omega, ?_, h5⟩
  rw [h5, lf_app_none h1]
/-- a line that ends in a. -/
theorem ln_end (m : Nat) (p a c : SP.Bs) (k : Nat) (h1 : lfAt (a.take (m + 1 - p.length)) = some k) :
    lfAt ((a ++ c).take (m + 1 - p.length)) = some k ∧ (a ++ c).take k = a.take k ∧ (a ++ c).drop (k + 1) = a.drop (k + 1) ++ c := by
  have hk := lf_len h1
  rw [List.length_take] at hk
  refine ⟨?_, take_one a c k (by omega), drop_one' a c (k + 1) (by omega)⟩
  rw [List.take_append]
  exact lf_app_some h1
/-- a line that is too long in a. -/
theorem ln_long (m : Nat) (p a c : SP.Bs) (hp : p.length ≤ m) (h2 : m < (p ++ a.take (m + 1 - p.length)).length) : (a ++ c).take (m + 1 - p.length) = a.take (m + 1 - p.length) := by
  rw [List.length_append, List.length_take] at h2
  exact take_one a c _ (by omega)
theorem PS.part2 (S : PS) (k : Nat) (x y : SP.Bs) : ({ ({ S with st := k, part := x } : PS) with st := k, part := y } : PS) = { S with st := k, part := y } := rfl
/-- the line of words, cut where it waits. -/
theorem line_comp (S : PS) (a c : SP.Bs) (hk : (rdLine S a).k = 0) : rdG (rdLine S a).S c = rdLine S (a ++ c) := by
  cases hi : lfAt (a.take (65537 - S.part.length)) with
  | some k =>
    unfold rdLine at hk
    rw [hi] at hk
    dsimp only at hk
    unfold lnO at hk
    split at hk <;> first | exact (two0 hk).elim | exact (one0 hk).elim
  | none =>
    have e0 : rdLine S a = if 65536 < (S.part ++ a.take (65537 - S.part.length)).length then ⟨{ S with st := 5, part := S.part ++ a.take (65537 - S.part.length) }, [], [], longLine.data.toList, 2⟩ else ⟨{ S with st := 5, part := S.part ++ a.take (65537 - S.part.length) }, [], [], [], 0⟩ := by unfold rdLine; rw [hi]
    rw [e0] at hk ⊢
    by_cases hl : 65536 < (S.part ++ a.take (65537 - S.part.length)).length
    · rw [if_pos hl] at hk; exact (two0 hk).elim
    · rw [if_neg hl]
      obtain ⟨g1, g2, g3, g4⟩ := ln_wait 65536 S.part a c hi hl
      show rdLine { S with st := 5, part := S.part ++ a.take (65536 + 1 - S.part.length) } c = _
      rw [g1]
      have e1 : rdLine { S with st := 5, part := S.part ++ a } c = match lfAt (c.take (65536 + 1 - (S.part ++ a).length)) with
        | none => if 65536 < ((S.part ++ a) ++ c.take (65536 + 1 - (S.part ++ a).length)).length then ⟨{ S with st := 5, part := (S.part ++ a) ++ c.take (65536 + 1 - (S.part ++ a).length) }, [], [], longLine.data.toList, 2⟩ else ⟨{ S with st := 5, part := (S.part ++ a) ++ c.take (65536 + 1 - (S.part ++ a).length) }, [], [], [], 0⟩
        | some k => lnO { S with st := 5, part := S.part ++ a } (c.drop (k + 1)) (lnW ((S.part ++ a) ++ c.take k)) := rfl
      have e2 : rdLine S (a ++ c) = match lfAt ((a ++ c).take (65536 + 1 - S.part.length)) with
        | none => if 65536 < (S.part ++ (a ++ c).take (65536 + 1 - S.part.length)).length then ⟨{ S with st := 5, part := S.part ++ (a ++ c).take (65536 + 1 - S.part.length) }, [], [], longLine.data.toList, 2⟩ else ⟨{ S with st := 5, part := S.part ++ (a ++ c).take (65536 + 1 - S.part.length) }, [], [], [], 0⟩
        | some k => lnO S ((a ++ c).drop (k + 1)) (lnW (S.part ++ (a ++ c).take k)) := rfl
      rw [e1, e2, g3, g4]
      cases hc : lfAt (c.take (65536 + 1 - (S.part ++ a).length)) with
      | none =>
        show _ = (if 65536 < (S.part ++ (a ++ c.take (65536 + 1 - (S.part ++ a).length))).length then _ else _)
        rw [← List.append_assoc]
      | some k =>
        show lnO { S with st := 5, part := S.part ++ a } (c.drop (k + 1)) (lnW ((S.part ++ a) ++ c.take k)) = lnO S ((a ++ c).drop (k + a.length + 1)) (lnW (S.part ++ (a ++ c).take (k + a.length)))
        rw [take_two a c _ (by omega), drop_two a c _ (by omega), show k + a.length - a.length = k by omega, show k + a.length + 1 - a.length = k + 1 by omega, List.append_assoc]
        generalize lnW (S.part ++ (a ++ c.take k)) = o
        rcases o with _ | _ | ⟨x, l⟩ <;> rfl
/-- cut where it waits, ahead of a word. -/
def Cmp (n : Nat) : Prop := ∀ (S : PS) (a c : SP.Bs), a.length ≤ n → c ≠ [] → (rdN S a).k = 0 → rdG (rdN S a).S c = rdN S (a ++ c)
theorem body_comp (S : PS) (a c : SP.Bs) (hc : c ≠ []) (hN : Cmp a.length) (hk : (rdBody rdN S a).k = 0) : rdG (rdBody rdN S a).S c = rdBody rdN S (a ++ c) := by
  obtain ⟨z, hz⟩ : ∃ z, S.size.toNat + 2 = z := ⟨_, rfl⟩
  by_cases hl : a.length + S.part.length < S.size.toNat + 2
  · have e0 : rdBody rdN S a = ⟨{ S with st := 4, part := S.part ++ a }, [], [], [], 0⟩ := by unfold rdBody; rw [if_pos hl]
    rw [e0]
    show rdBody rdN { S with st := 4, part := S.part ++ a } c = _
    unfold rdBody
    dsimp only
    have e1 : c.take (S.size.toNat + 2 - (S.part ++ a).length) = c.take (S.size.toNat + 2 - S.part.length - a.length) := by rw [List.length_append]; congr 1; omega
    have e2 : c.drop (S.size.toNat + 2 - (S.part ++ a).length) = c.drop (S.size.toNat + 2 - S.part.length - a.length) := by rw [List.length_append]; congr 1; omega
    rw [take_two a c _ (by omega), drop_two a c _ (by omega), e1, e2, ← List.append_assoc, ← List.append_assoc]
    have e3 : c.length + (S.part ++ a).length = (a ++ c).length + S.part.length := by rw [List.length_append, List.length_append]; omega
    rw [e3]
  · have e0 : rdBody rdN S a = if 0 < S.more - 1 then rdN { S with st := 4, part := [], words := S.words ++ [(S.part ++ a.take (S.size.toNat + 2 - S.part.length)).take S.size.toNat], more := S.more - 1 } (a.drop (S.size.toNat + 2 - S.part.length))
        else ⟨{ S with st := 4, part := [], words := S.words ++ [(S.part ++ a.take (S.size.toNat + 2 - S.part.length)).take S.size.toNat], more := S.more - 1 }, a.drop (S.size.toNat + 2 - S.part.length), S.words ++ [(S.part ++ a.take (S.size.toNat + 2 - S.part.length)).take S.size.toNat], [], 2⟩ := by unfold rdBody; rw [if_neg hl]
    rw [e0] at hk ⊢
    by_cases hm : 0 < S.more - 1
    · rw [if_pos hm] at hk ⊢
      rw [hN _ _ c (by rw [List.length_drop]; omega) hc hk]
      unfold rdBody
      rw [if_neg (show ¬ (a ++ c).length + S.part.length < S.size.toNat + 2 by rw [List.length_append]; omega), if_pos hm, take_one a c _ (by omega), drop_one' a c _ (by omega)]
    · rw [if_neg hm] at hk; exact (two0 hk).elim
theorem len_comp (S : PS) (a c : SP.Bs) (hc : c ≠ []) (hN : ∀ n, n < a.length → Cmp n) (hk : (rdLen rdN S a).k = 0) : rdG (rdLen rdN S a).S c = rdLen rdN S (a ++ c) := by
  cases hi : lfAt (a.take (64 + 1 - S.part.length)) with
  | some k =>
    obtain ⟨g1, g2, g3⟩ := ln_end 64 S.part a c k hi
    have hkl := lf_len hi
    rw [List.length_take] at hkl
    have e0 : rdLen rdN S a = lenO rdN S (a.drop (k + 1)) (lenV ((eol (S.part ++ a.take k)).drop 1)) := by unfold rdLen; rw [hi]
    have e1 : rdLen rdN S (a ++ c) = lenO rdN S (a.drop (k + 1) ++ c) (lenV ((eol (S.part ++ a.take k)).drop 1)) := by unfold rdLen; rw [g1]; dsimp only; rw [g2, g3]
    rw [e1]
    rw [e0] at hk ⊢
    unfold lenO at hk ⊢
    cases hv : lenV ((eol (S.part ++ a.take k)).drop 1) with
    | none => rw [hv] at hk; exact (two0 hk).elim
    | some v =>
      rw [hv] at hk
      dsimp only at hk ⊢
      by_cases ht : S.total + v ≤ 33554432
      · rw [if_pos ht] at hk ⊢
        rw [if_pos ht]
        exact body_comp _ _ c hc (hN _ (by rw [List.length_drop]; omega)) hk
      · rw [if_neg ht] at hk; exact (two0 hk).elim
  | none =>
    have e0 : rdLen rdN S a = if 64 < (S.part ++ a.take (64 + 1 - S.part.length)).length then ⟨{ S with st := 3, part := S.part ++ a.take (64 + 1 - S.part.length) }, [], [], longLen.data.toList, 2⟩ else ⟨{ S with st := 3, part := S.part ++ a.take (64 + 1 - S.part.length) }, [], [], [], 0⟩ := by unfold rdLen; rw [hi]
    rw [e0] at hk ⊢
    by_cases hl : 64 < (S.part ++ a.take (64 + 1 - S.part.length)).length
    · rw [if_pos hl] at hk; exact (two0 hk).elim
    · rw [if_neg hl]
      obtain ⟨g1, g2, g3, g4⟩ := ln_wait 64 S.part a c hi hl
      rw [g1]
      show rdLen rdN { S with st := 3, part := S.part ++ a } c = _
      have e1 : rdLen rdN { S with st := 3, part := S.part ++ a } c = match lfAt (c.take (64 + 1 - (S.part ++ a).length)) with
        | none => if 64 < ((S.part ++ a) ++ c.take (64 + 1 - (S.part ++ a).length)).length then ⟨{ S with st := 3, part := (S.part ++ a) ++ c.take (64 + 1 - (S.part ++ a).length) }, [], [], longLen.data.toList, 2⟩ else ⟨{ S with st := 3, part := (S.part ++ a) ++ c.take (64 + 1 - (S.part ++ a).length) }, [], [], [], 0⟩
        | some k => lenO rdN { S with st := 3, part := S.part ++ a } (c.drop (k + 1)) (lenV ((eol ((S.part ++ a) ++ c.take k)).drop 1)) := rfl
      have e2 : rdLen rdN S (a ++ c) = match lfAt ((a ++ c).take (64 + 1 - S.part.length)) with
        | none => if 64 < (S.part ++ (a ++ c).take (64 + 1 - S.part.length)).length then ⟨{ S with st := 3, part := S.part ++ (a ++ c).take (64 + 1 - S.part.length) }, [], [], longLen.data.toList, 2⟩ else ⟨{ S with st := 3, part := S.part ++ (a ++ c).take (64 + 1 - S.part.length) }, [], [], [], 0⟩
        | some k => lenO rdN S ((a ++ c).drop (k + 1)) (lenV ((eol (S.part ++ (a ++ c).take k)).drop 1)) := rfl
      rw [e1, e2, g3, g4]
      cases hc : lfAt (c.take (64 + 1 - (S.part ++ a).length)) with
      | none =>
        show _ = (if 64 < (S.part ++ (a ++ c.take (64 + 1 - (S.part ++ a).length))).length then _ else _)
        rw [← List.append_assoc]
      | some k =>
        show lenO rdN { S with st := 3, part := S.part ++ a } (c.drop (k + 1)) (lenV ((eol ((S.part ++ a) ++ c.take k)).drop 1)) = lenO rdN S ((a ++ c).drop (k + a.length + 1)) (lenV ((eol (S.part ++ (a ++ c).take (k + a.length))).drop 1))
        rw [take_two a c _ (by omega), drop_two a c _ (by omega), show k + a.length - a.length = k by omega, show k + a.length + 1 - a.length = k + 1 by omega, List.append_assoc]
        generalize lenV ((eol (S.part ++ (a ++ c.take k))).drop 1) = o
        cases o with | none => rfl | some v => rfl
theorem word_comp (S : PS) (a c : SP.Bs) (hc : c ≠ []) (hN : ∀ n, n < a.length → Cmp n) (hk : (rdN S a).k = 0) : rdG (rdN S a).S c = rdN S (a ++ c) := by
  cases a with
  | nil =>
    rw [rdN_eq]
    show rdN { S with st := 2 } c = rdN S c
    rw [rdN_eq, rdN_eq S c]
    cases c with
    | nil => exact absurd rfl hc
    | cons b t => rfl
  | cons b t =>
    rw [rdN_eq S (b :: t ++ c)]
    rw [rdN_eq] at hk ⊢
    unfold rdWord at hk ⊢
    rw [List.cons_append]
    dsimp only at hk ⊢
    by_cases hb : b = 36
    · rw [if_pos hb] at hk ⊢
      rw [if_pos hb]
      exact len_comp _ _ c hc hN hk
    · rw [if_neg hb] at hk; exact (two0 hk).elim
theorem cmp_all : ∀ n, Cmp n := by
  intro n
  induction n using Nat.strongRecOn with
  | _ n ih =>
    intro S a c ha hc hk
    exact word_comp S a c hc (fun m hm => ih m (by omega)) hk
theorem count_comp (S : PS) (a c : SP.Bs) (hc : c ≠ []) (hk : (rdCount rdN S a).k = 0) : rdG (rdCount rdN S a).S c = rdCount rdN S (a ++ c) := by
  cases hi : lfAt (a.take (64 + 1 - S.part.length)) with
  | some k =>
    obtain ⟨g1, g2, g3⟩ := ln_end 64 S.part a c k hi
    have e0 : rdCount rdN S a = cntO rdN S (a.drop (k + 1)) ((eol (S.part ++ a.take k)).drop 1) := by unfold rdCount; rw [hi]
    have e1 : rdCount rdN S (a ++ c) = cntO rdN S (a.drop (k + 1) ++ c) ((eol (S.part ++ a.take k)).drop 1) := by unfold rdCount; rw [g1]; dsimp only; rw [g2, g3]
    rw [e1]
    rw [e0] at hk ⊢
    unfold cntO at hk ⊢
    by_cases h1 : cntOk ((eol (S.part ++ a.take k)).drop 1) = true
    · rw [if_pos h1] at hk ⊢
      rw [if_pos h1]
      by_cases h2 : cntN ((eol (S.part ++ a.take k)).drop 1) < 1
      · rw [if_pos h2] at hk; exact (one0 hk).elim
      · rw [if_neg h2] at hk ⊢
        rw [if_neg h2]
        rw [← rdN_eq] at hk ⊢
        rw [← rdN_eq]
        exact cmp_all _ _ _ c (Nat.le_refl _) hc hk
    · rw [if_neg h1] at hk; exact (two0 hk).elim
  | none =>
    have e0 : rdCount rdN S a = if 64 < (S.part ++ a.take (64 + 1 - S.part.length)).length then ⟨{ S with st := 1, part := S.part ++ a.take (64 + 1 - S.part.length) }, [], [], longCnt.data.toList, 2⟩ else ⟨{ S with st := 1, part := S.part ++ a.take (64 + 1 - S.part.length) }, [], [], [], 0⟩ := by unfold rdCount; rw [hi]
    rw [e0] at hk ⊢
    by_cases hl : 64 < (S.part ++ a.take (64 + 1 - S.part.length)).length
    · rw [if_pos hl] at hk; exact (two0 hk).elim
    · rw [if_neg hl]
      obtain ⟨g1, g2, g3, g4⟩ := ln_wait 64 S.part a c hi hl
      rw [g1]
      show rdCount rdN { S with st := 1, part := S.part ++ a } c = _
      have e1 : rdCount rdN { S with st := 1, part := S.part ++ a } c = match lfAt (c.take (64 + 1 - (S.part ++ a).length)) with
        | none => if 64 < ((S.part ++ a) ++ c.take (64 + 1 - (S.part ++ a).length)).length then ⟨{ S with st := 1, part := (S.part ++ a) ++ c.take (64 + 1 - (S.part ++ a).length) }, [], [], longCnt.data.toList, 2⟩ else ⟨{ S with st := 1, part := (S.part ++ a) ++ c.take (64 + 1 - (S.part ++ a).length) }, [], [], [], 0⟩
        | some k => cntO rdN { S with st := 1, part := S.part ++ a } (c.drop (k + 1)) ((eol ((S.part ++ a) ++ c.take k)).drop 1) := rfl
      have e2 : rdCount rdN S (a ++ c) = match lfAt ((a ++ c).take (64 + 1 - S.part.length)) with
        | none => if 64 < (S.part ++ (a ++ c).take (64 + 1 - S.part.length)).length then ⟨{ S with st := 1, part := S.part ++ (a ++ c).take (64 + 1 - S.part.length) }, [], [], longCnt.data.toList, 2⟩ else ⟨{ S with st := 1, part := S.part ++ (a ++ c).take (64 + 1 - S.part.length) }, [], [], [], 0⟩
        | some k => cntO rdN S ((a ++ c).drop (k + 1)) ((eol (S.part ++ (a ++ c).take k)).drop 1) := rfl
      rw [e1, e2, g3, g4]
      cases hc : lfAt (c.take (64 + 1 - (S.part ++ a).length)) with
      | none =>
        show _ = (if 64 < (S.part ++ (a ++ c.take (64 + 1 - (S.part ++ a).length))).length then _ else _)
        rw [← List.append_assoc]
      | some k =>
        show cntO rdN { S with st := 1, part := S.part ++ a } (c.drop (k + 1)) ((eol ((S.part ++ a) ++ c.take k)).drop 1) = cntO rdN S ((a ++ c).drop (k + a.length + 1)) ((eol (S.part ++ (a ++ c).take (k + a.length))).drop 1)
        rw [take_two a c _ (by omega), drop_two a c _ (by omega), show k + a.length - a.length = k by omega, show k + a.length + 1 - a.length = k + 1 by omega, List.append_assoc]
        rfl
/-- read, cut where it waits. -/
theorem rdG_comp (S : PS) (a c : SP.Bs) (ha : a ≠ []) (hc : c ≠ []) (hk : (rdG S a).k = 0) : rdG (rdG S a).S c = rdG S (a ++ c) := by
  have hh : (a ++ c).head? = a.head? := by cases a with | nil => exact absurd rfl ha | cons b t => rfl
  rcases S with ⟨st, held, part, words, more, total, size⟩
  match st with
  | 0 =>
    by_cases hb : a.head? = some 42
    · have e1 : ∀ x : SP.Bs, x.head? = some 42 → rdG ⟨0, held, part, words, more, total, size⟩ x = rdCount rdN ⟨0, held, part, words, more, total, size⟩ x := fun x hx => if_pos hx
      rw [e1 a hb] at hk ⊢
      rw [e1 (a ++ c) (hh.trans hb)]
      exact count_comp _ a c hc hk
    · have e1 : ∀ x : SP.Bs, x.head? ≠ some 42 → rdG ⟨0, held, part, words, more, total, size⟩ x = rdLine ⟨0, held, part, words, more, total, size⟩ x := fun x hx => if_neg hx
      rw [e1 a hb] at hk ⊢
      rw [e1 (a ++ c) (by rw [hh]; exact hb)]
      exact line_comp _ a c hk
  | 1 => exact count_comp _ a c hc hk
  | 2 => exact cmp_all _ _ a c (Nat.le_refl _) hc hk
  | 3 => exact len_comp _ a c hc (fun n _ => cmp_all n) hk
  | 4 => exact body_comp _ a c hc (cmp_all _) hk
  | n + 5 => exact line_comp _ a c hk
end Go.Proofs.YtnfbaeajalnmmaaGreatDoor
namespace Go.Proofs.YtnfbaeajalnmmaaGreatDoor
open Go.RowKit Vi
set_option linter.unusedVariables false
set_option linter.unusedSimpArgs false
/-! read where it does not wait: more bytes behind; what is left is shorter; what is held. -/
def exR (R : RO) (c : SP.Bs) : RO := if R.err = [] then { R with rest := R.rest ++ c } else R
theorem exR_no (S : PS) (r : SP.Bs) (x : List SP.Bs) (k : Int) (c : SP.Bs) : exR ⟨S, r, x, [], k⟩ c = ⟨S, r ++ c, x, [], k⟩ := if_pos rfl
theorem exR_err (S : PS) (r : SP.Bs) (x : List SP.Bs) (e : SP.Bs) (k : Int) (c : SP.Bs) (h : e ≠ []) : exR ⟨S, r, x, e, k⟩ c = ⟨S, r, x, e, k⟩ := if_neg h
theorem ln_long2 (m : Nat) (p a c : SP.Bs) (h2 : m < (p ++ a.take (m + 1 - p.length)).length) : (a ++ c).take (m + 1 - p.length) = a.take (m + 1 - p.length) := by
  by_cases hp : p.length ≤ m
  · exact ln_long m p a c hp h2
  · rw [show m + 1 - p.length = 0 by omega]; rfl
theorem ll_full : longLine.data.toList ≠ [] := by intro h; cases h
theorem bl_full : badLine.data.toList ≠ [] := by intro h; cases h
theorem lc_full : longCnt.data.toList ≠ [] := by intro h; cases h
theorem bc_full : badCnt.data.toList ≠ [] := by intro h; cases h
theorem le_full : longLen.data.toList ≠ [] := by intro h; cases h
theorem be_full : badLen.data.toList ≠ [] := by intro h; cases h
theorem ex_full (b : UInt8) : expB b ≠ [] := by intro h; unfold expB at h; simp at h
theorem line_ext (S : PS) (a c : SP.Bs) (hk : (rdLine S a).k ≠ 0) : rdLine S (a ++ c) = exR (rdLine S a) c := by
  cases hi : lfAt (a.take (65536 + 1 - S.part.length)) with
  | some k =>
    obtain ⟨g1, g2, g3⟩ := ln_end 65536 S.part a c k hi
    have e0 : rdLine S a = lnO S (a.drop (k + 1)) (lnW (S.part ++ a.take k)) := by unfold rdLine; rw [hi]
    have e1 : rdLine S (a ++ c) = lnO S (a.drop (k + 1) ++ c) (lnW (S.part ++ a.take k)) := by unfold rdLine; rw [g1]; dsimp only; rw [g2, g3]
    rw [e0, e1]
    generalize lnW (S.part ++ a.take k) = o
    rcases o with _ | _ | ⟨x, l⟩
    · exact (exR_err _ _ _ _ _ _ bl_full).symm
    · exact (exR_no _ _ _ _ _).symm
    · exact (exR_no _ _ _ _ _).symm
  | none =>
    have e0 : rdLine S a = if 65536 < (S.part ++ a.take (65536 + 1 - S.part.length)).length then ⟨{ S with st := 5, part := S.part ++ a.take (65536 + 1 - S.part.length) }, [], [], longLine.data.toList, 2⟩ else ⟨{ S with st := 5, part := S.part ++ a.take (65536 + 1 - S.part.length) }, [], [], [], 0⟩ := by unfold rdLine; rw [hi]
    rw [e0] at hk ⊢
    by_cases hl : 65536 < (S.part ++ a.take (65536 + 1 - S.part.length)).length
    · rw [if_pos hl, exR_err _ _ _ _ _ _ ll_full]
      unfold rdLine
      rw [show 65537 = 65536 + 1 from rfl, ln_long2 65536 S.part a c hl, hi]
      dsimp only
      rw [if_pos hl]
    · rw [if_neg hl] at hk; exact absurd rfl hk
def Ext (n : Nat) : Prop := ∀ (S : PS) (a c : SP.Bs), a.length ≤ n → (rdN S a).k ≠ 0 → rdN S (a ++ c) = exR (rdN S a) c
theorem body_ext (S : PS) (a c : SP.Bs) (hN : Ext a.length) (hk : (rdBody rdN S a).k ≠ 0) : rdBody rdN S (a ++ c) = exR (rdBody rdN S a) c := by
  by_cases hl : a.length + S.part.length < S.size.toNat + 2
  · exfalso
    apply hk
    unfold rdBody
    rw [if_pos hl]
  · unfold rdBody at hk ⊢
    rw [if_neg hl] at hk ⊢
    rw [if_neg (show ¬ (a ++ c).length + S.part.length < S.size.toNat + 2 by rw [List.length_append]; omega), take_one a c _ (by omega), drop_one' a c _ (by omega)]
    by_cases hm : 0 < S.more - 1
    · rw [if_pos hm] at hk ⊢
      rw [if_pos hm]
      exact hN _ _ c (by rw [List.length_drop]; omega) hk
    · rw [if_neg hm, if_neg hm]
      exact (exR_no _ _ _ _ _).symm
theorem len_ext (S : PS) (a c : SP.Bs) (hN : ∀ n, n < a.length → Ext n) (hk : (rdLen rdN S a).k ≠ 0) : rdLen rdN S (a ++ c) = exR (rdLen rdN S a) c := by
  cases hi : lfAt (a.take (64 + 1 - S.part.length)) with
  | some k =>
    obtain ⟨g1, g2, g3⟩ := ln_end 64 S.part a c k hi
    have hkl := lf_len hi
    rw [List.length_take] at hkl
    have e0 : rdLen rdN S a = lenO rdN S (a.drop (k + 1)) (lenV ((eol (S.part ++ a.take k)).drop 1)) := by unfold rdLen; rw [hi]
    have e1 : rdLen rdN S (a ++ c) = lenO rdN S (a.drop (k + 1) ++ c) (lenV ((eol (S.part ++ a.take k)).drop 1)) := by unfold rdLen; rw [g1]; dsimp only; rw [g2, g3]
    rw [e1]
    rw [e0] at hk ⊢
    generalize lenV ((eol (S.part ++ a.take k)).drop 1) = o at hk ⊢
    cases o with
    | none => exact (exR_err _ _ _ _ _ _ be_full).symm
    | some v =>
      unfold lenO at hk ⊢
      dsimp only at hk ⊢
      by_cases ht : S.total + v ≤ 33554432
      · rw [if_pos ht] at hk ⊢
        rw [if_pos ht]
        exact body_ext _ _ c (hN _ (by rw [List.length_drop]; omega)) hk
      · rw [if_neg ht, if_neg ht]
        exact (exR_err _ _ _ _ _ _ be_full).symm
  | none =>
    have e0 : rdLen rdN S a = if 64 < (S.part ++ a.take (64 + 1 - S.part.length)).length then ⟨{ S with st := 3, part := S.part ++ a.take (64 + 1 - S.part.length) }, [], [], longLen.data.toList, 2⟩ else ⟨{ S with st := 3, part := S.part ++ a.take (64 + 1 - S.part.length) }, [], [], [], 0⟩ := by unfold rdLen; rw [hi]
    rw [e0] at hk ⊢
    by_cases hl : 64 < (S.part ++ a.take (64 + 1 - S.part.length)).length
    · rw [if_pos hl, exR_err _ _ _ _ _ _ le_full]
      unfold rdLen
      rw [show 65 = 64 + 1 from rfl, ln_long2 64 S.part a c hl, hi]
      dsimp only
      rw [if_pos hl]
    · rw [if_neg hl] at hk; exact absurd rfl hk
theorem word_ext (S : PS) (a c : SP.Bs) (hN : ∀ n, n < a.length → Ext n) (hk : (rdN S a).k ≠ 0) : rdN S (a ++ c) = exR (rdN S a) c := by
  cases a with
  | nil => rw [rdN_eq] at hk; exact absurd rfl hk
  | cons b t =>
    rw [rdN_eq S (b :: t ++ c)]
    rw [rdN_eq] at hk ⊢
    unfold rdWord at hk ⊢
    rw [List.cons_append]
    dsimp only at hk ⊢
    by_cases hb : b = 36
    · rw [if_pos hb] at hk ⊢
      rw [if_pos hb]
      exact len_ext _ _ c hN hk
    · rw [if_neg hb, if_neg hb]
      exact (exR_err _ _ _ _ _ _ (ex_full b)).symm
theorem ext_all : ∀ n, Ext n := by
  intro n
  induction n using Nat.strongRecOn with
  | _ n ih =>
    intro S a c ha hk
    exact word_ext S a c (fun m hm => ih m (by omega)) hk
theorem count_ext (S : PS) (a c : SP.Bs) (hk : (rdCount rdN S a).k ≠ 0) : rdCount rdN S (a ++ c) = exR (rdCount rdN S a) c := by
  cases hi : lfAt (a.take (64 + 1 - S.part.length)) with
  | some k =>
    obtain ⟨g1, g2, g3⟩ := ln_end 64 S.part a c k hi
    have e0 : rdCount rdN S a = cntO rdN S (a.drop (k + 1)) ((eol (S.part ++ a.take k)).drop 1) := by unfold rdCount; rw [hi]
    have e1 : rdCount rdN S (a ++ c) = cntO rdN S (a.drop (k + 1) ++ c) ((eol (S.part ++ a.take k)).drop 1) := by unfold rdCount; rw [g1]; dsimp only; rw [g2, g3]
    rw [e1]
    rw [e0] at hk ⊢
    unfold cntO at hk ⊢
    by_cases h1 : cntOk ((eol (S.part ++ a.take k)).drop 1) = true
    · rw [if_pos h1] at hk ⊢
      rw [if_pos h1]
      by_cases h2 : cntN ((eol (S.part ++ a.take k)).drop 1) < 1
      · rw [if_pos h2, if_pos h2]
        exact (exR_no _ _ _ _ _).symm
      · rw [if_neg h2] at hk ⊢
        rw [if_neg h2]
        rw [← rdN_eq] at hk ⊢
        rw [← rdN_eq]
        exact ext_all _ _ _ c (Nat.le_refl _) hk
    · rw [if_neg h1, if_neg h1]
      exact (exR_err _ _ _ _ _ _ bc_full).symm
  | none =>
    have e0 : rdCount rdN S a = if 64 < (S.part ++ a.take (64 + 1 - S.part.length)).length then ⟨{ S with st := 1, part := S.part ++ a.take (64 + 1 - S.part.length) }, [], [], longCnt.data.toList, 2⟩ else ⟨{ S with st := 1, part := S.part ++ a.take (64 + 1 - S.part.length) }, [], [], [], 0⟩ := by unfold rdCount; rw [hi]
    rw [e0] at hk ⊢
    by_cases hl : 64 < (S.part ++ a.take (64 + 1 - S.part.length)).length
    · rw [if_pos hl, exR_err _ _ _ _ _ _ lc_full]
      unfold rdCount
      rw [show 65 = 64 + 1 from rfl, ln_long2 64 S.part a c hl, hi]
      dsimp only
      rw [if_pos hl]
    · rw [if_neg hl] at hk; exact absurd rfl hk
/-- read of more bytes where it does not wait: from a parser that was fed nothing. -/
theorem rd0_ext (a c : SP.Bs) (ha : a ≠ []) (hk : (rdG (PS0 0) a).k ≠ 0) : rdG (PS0 0) (a ++ c) = exR (rdG (PS0 0) a) c := by
  have hh : (a ++ c).head? = a.head? := by cases a with | nil => exact absurd rfl ha | cons b t => rfl
  by_cases hb : a.head? = some 42
  · have e1 : ∀ x : SP.Bs, x.head? = some 42 → rdG (PS0 0) x = rdCount rdN (PS0 0) x := fun x hx => if_pos hx
    rw [e1 a hb] at hk ⊢
    rw [e1 (a ++ c) (hh.trans hb)]
    exact count_ext _ a c hk
  · have e1 : ∀ x : SP.Bs, x.head? ≠ some 42 → rdG (PS0 0) x = rdLine (PS0 0) x := fun x hx => if_neg hx
    rw [e1 a hb] at hk ⊢
    rw [e1 (a ++ c) (by rw [hh]; exact hb)]
    exact line_ext _ a c hk
/-! what is left is shorter. -/
theorem lnO_rest (S : PS) (r : SP.Bs) (o : Option (List SP.Bs)) : (lnO S r o).rest.length ≤ r.length := by
  rcases o with _ | _ | ⟨x, l⟩
  · exact Nat.zero_le _
  · exact Nat.le_refl _
  · exact Nat.le_refl _
theorem line_rest (S : PS) (a : SP.Bs) (ha : a ≠ []) : (rdLine S a).rest.length < a.length := by
  have h0 : 0 < a.length := by cases a with | nil => exact absurd rfl ha | cons b t => simp
  unfold rdLine
  cases hi : lfAt (a.take (65537 - S.part.length)) with
  | some k =>
    have hk := lf_len hi
    rw [List.length_take] at hk
    have := lnO_rest S (a.drop (k + 1)) (lnW (S.part ++ a.take k))
    rw [List.length_drop] at this
    dsimp only
    omega
  | none => dsimp only; split <;> exact h0
def Sho (n : Nat) : Prop := ∀ (S : PS) (a : SP.Bs), a.length ≤ n → (rdN S a).rest.length ≤ a.length
theorem body_rest (S : PS) (a : SP.Bs) (hN : Sho a.length) : (rdBody rdN S a).rest.length ≤ a.length - (S.size.toNat + 2 - S.part.length) := by
  unfold rdBody
  by_cases hl : a.length + S.part.length < S.size.toNat + 2
  · rw [if_pos hl]; exact Nat.zero_le _
  · rw [if_neg hl]
    by_cases hm : 0 < S.more - 1
    · rw [if_pos hm]
      refine Nat.le_trans (hN _ _ (by rw [List.length_drop]; omega)) (by rw [List.length_drop]; exact Nat.le_refl _)
    · rw [if_neg hm]
      show (a.drop _).length ≤ _
      rw [List.length_drop]; exact Nat.le_refl _
theorem len_rest (S : PS) (a : SP.Bs) (ha : a ≠ []) (hN : ∀ n, n < a.length → Sho n) : (rdLen rdN S a).rest.length < a.length := by
  have h0 : 0 < a.length := by cases a with | nil => exact absurd rfl ha | cons b t => simp
  unfold rdLen
  cases hi : lfAt (a.take (65 - S.part.length)) with
  | none => dsimp only; split <;> exact h0
  | some k =>
    have hk := lf_len hi
    rw [List.length_take] at hk
    dsimp only
    unfold lenO
    split
    · exact h0
    · split
      · refine Nat.lt_of_le_of_lt (body_rest _ (a.drop (k + 1)) (hN _ (by rw [List.length_drop]; omega))) ?_
        rw [List.length_drop]
        omega
      · exact h0
theorem sho_all : ∀ n, Sho n := by
  intro n
  induction n using Nat.strongRecOn with
  | _ n ih =>
    intro S a ha
    rw [rdN_eq]
    cases a with
    | nil => exact Nat.le_refl _
    | cons b t =>
      unfold rdWord
      dsimp only
      by_cases hb : b = 36
      · rw [if_pos hb]
        exact Nat.le_of_lt (len_rest _ _ (by simp) (fun m hm => ih m (by omega)))
      · rw [if_neg hb]; exact Nat.zero_le _
theorem count_rest (S : PS) (a : SP.Bs) (ha : a ≠ []) : (rdCount rdN S a).rest.length < a.length := by
  have h0 : 0 < a.length := by cases a with | nil => exact absurd rfl ha | cons b t => simp
  unfold rdCount
  cases hi : lfAt (a.take (65 - S.part.length)) with
  | none => dsimp only; split <;> exact h0
  | some k =>
    have hk := lf_len hi
    rw [List.length_take] at hk
    dsimp only
    unfold cntO
    split
    · split
      · show (a.drop (k + 1)).length < _
        rw [List.length_drop]; omega
      · rw [← rdN_eq]
        refine Nat.lt_of_le_of_lt (sho_all _ _ _ (Nat.le_refl _)) ?_
        rw [List.length_drop]; omega
    · exact h0
theorem rd0_rest (a : SP.Bs) (ha : a ≠ []) : (rdG (PS0 0) a).rest.length < a.length := by
  by_cases hb : a.head? = some 42
  · rw [show rdG (PS0 0) a = rdCount rdN (PS0 0) a from if_pos hb]; exact count_rest _ a ha
  · rw [show rdG (PS0 0) a = rdLine (PS0 0) a from if_neg hb]; exact line_rest _ a ha
/-! what is held does not matter to read. -/
def hS (S : PS) (h : Nat) : PS := { S with held := h }
def hR (R : RO) (h : Nat) : RO := { R with S := hS R.S h }
theorem line_held (S : PS) (h : Nat) (s : SP.Bs) : rdLine (hS S h) s = hR (rdLine S s) h := by
  unfold rdLine
  show (match lfAt (s.take (65537 - S.part.length)) with | none => _ | some k => _) = _
  cases lfAt (s.take (65537 - S.part.length)) with
  | none =>
    dsimp only
    by_cases hl : 65536 < (S.part ++ s.take (65537 - S.part.length)).length
    · rw [if_pos hl]; exact if_pos hl
    · rw [if_neg hl]; exact if_neg hl
  | some k =>
    dsimp only
    show lnO (hS S h) _ (lnW (S.part ++ s.take k)) = _
    generalize lnW (S.part ++ s.take k) = o
    rcases o with _ | _ | ⟨x, l⟩ <;> rfl
def Hld (n : Nat) : Prop := ∀ (S : PS) (h : Nat) (a : SP.Bs), a.length ≤ n → rdN (hS S h) a = hR (rdN S a) h
theorem body_held (S : PS) (h : Nat) (a : SP.Bs) (hN : Hld a.length) : rdBody rdN (hS S h) a = hR (rdBody rdN S a) h := by
  by_cases hl : a.length + S.part.length < S.size.toNat + 2
  · unfold rdBody
    rw [if_pos hl]; exact if_pos hl
  · unfold rdBody
    rw [if_neg hl]
    refine (if_neg hl).trans ?_
    by_cases hm : 0 < S.more - 1
    · rw [if_pos hm]
      refine (if_pos hm).trans ?_
      refine hN { S with st := 4, part := [], words := S.words ++ [(S.part ++ a.take (S.size.toNat + 2 - S.part.length)).take S.size.toNat], more := S.more - 1 } h (a.drop (S.size.toNat + 2 - S.part.length)) ?_
      rw [List.length_drop]; omega
    · rw [if_neg hm]
      exact if_neg hm
theorem len_held (S : PS) (h : Nat) (a : SP.Bs) (hN : ∀ n, n < a.length → Hld n) : rdLen rdN (hS S h) a = hR (rdLen rdN S a) h := by
  unfold rdLen
  show (match lfAt (a.take (65 - S.part.length)) with | none => _ | some k => _) = _
  cases hi : lfAt (a.take (65 - S.part.length)) with
  | none =>
    dsimp only
    by_cases hl : 64 < (S.part ++ a.take (65 - S.part.length)).length
    · rw [if_pos hl]; exact if_pos hl
    · rw [if_neg hl]; exact if_neg hl
  | some k =>
    have hk := lf_len hi
    rw [List.length_take] at hk
    dsimp only
    show lenO rdN (hS S h) _ (lenV ((eol (S.part ++ a.take k)).drop 1)) = _
    generalize lenV ((eol (S.part ++ a.take k)).drop 1) = o
    cases o with
    | none => rfl
    | some v =>
      unfold lenO
      dsimp only
      by_cases ht : S.total + v ≤ 33554432
      · rw [if_pos ht]
        refine (if_pos ht).trans ?_
        exact body_held { S with st := 3, part := [], size := v, total := S.total + v } h _ (hN _ (by rw [List.length_drop]; omega))
      · rw [if_neg ht]
        exact if_neg ht
theorem held_all : ∀ n, Hld n := by
  intro n
  induction n using Nat.strongRecOn with
  | _ n ih =>
    intro S h a ha
    rw [rdN_eq, rdN_eq]
    cases a with
    | nil => rfl
    | cons b t =>
      unfold rdWord
      dsimp only
      by_cases hb : b = 36
      · rw [if_pos hb, if_pos hb]
        exact len_held { S with st := 2 } h _ (fun m hm => ih m (by omega))
      · rw [if_neg hb, if_neg hb]; rfl
theorem count_held (S : PS) (h : Nat) (a : SP.Bs) : rdCount rdN (hS S h) a = hR (rdCount rdN S a) h := by
  unfold rdCount
  show (match lfAt (a.take (65 - S.part.length)) with | none => _ | some k => _) = _
  cases hi : lfAt (a.take (65 - S.part.length)) with
  | none =>
    dsimp only
    by_cases hl : 64 < (S.part ++ a.take (65 - S.part.length)).length
    · rw [if_pos hl]; exact if_pos hl
    · rw [if_neg hl]; exact if_neg hl
  | some k =>
    dsimp only
    show cntO rdN (hS S h) _ ((eol (S.part ++ a.take k)).drop 1) = _
    generalize (eol (S.part ++ a.take k)).drop 1 = o
    unfold cntO
    by_cases h1 : cntOk o = true
    · rw [if_pos h1, if_pos h1]
      by_cases h2 : cntN o < 1
      · rw [if_pos h2, if_pos h2]; rfl
      · rw [if_neg h2, if_neg h2, ← rdN_eq, ← rdN_eq]
        exact held_all _ { S with st := 1, part := [], more := cntN o } h _ (Nat.le_refl _)
    · rw [if_neg h1, if_neg h1]; rfl
theorem rdG_held (S : PS) (h : Nat) (a : SP.Bs) : rdG (hS S h) a = hR (rdG S a) h := by
  rcases S with ⟨st, held, part, words, more, total, size⟩
  match st with
  | 0 =>
    by_cases hb : a.head? = some 42
    · exact (show rdG (hS ⟨0, held, part, words, more, total, size⟩ h) a = rdCount rdN (hS ⟨0, held, part, words, more, total, size⟩ h) a from if_pos hb).trans ((count_held _ h a).trans (congrArg (fun R => hR R h) (if_pos hb).symm))
    · exact (show rdG (hS ⟨0, held, part, words, more, total, size⟩ h) a = rdLine (hS ⟨0, held, part, words, more, total, size⟩ h) a from if_neg hb).trans ((line_held _ h a).trans (congrArg (fun R => hR R h) (if_neg hb).symm))
  | 1 => exact count_held ⟨1, held, part, words, more, total, size⟩ h a
  | 2 => exact held_all _ ⟨2, held, part, words, more, total, size⟩ h a (Nat.le_refl _)
  | 3 => exact len_held ⟨3, held, part, words, more, total, size⟩ h a (fun n _ => held_all n)
  | 4 => exact body_held ⟨4, held, part, words, more, total, size⟩ h a (held_all _)
  | n + 5 => exact line_held ⟨n + 5, held, part, words, more, total, size⟩ h a
/-! all requests of a text. -/
structure Rq where
  args : List SP.Bs
  err : SP.Bs
def told (R : RO) : List Rq := if R.k = 2 then [⟨R.args, R.err⟩] else []
def txO (next : SP.Bs → List Rq × Option SP.Bs) (R : RO) (s : SP.Bs) : List Rq × Option SP.Bs :=
  if R.k = 0 then ([], some s) else if R.err = [] then (told R ++ (next R.rest).1, (next R.rest).2) else (told R, none)
def tx : Nat → SP.Bs → List Rq × Option SP.Bs
  | 0 => fun s => ([], some s)
  | f + 1 => fun s => if s = [] then ([], some []) else txO (tx f) (rdG (PS0 0) s) s
theorem txO_congr (n1 n2 : SP.Bs → List Rq × Option SP.Bs) (R : RO) (s : SP.Bs) (h : n1 R.rest = n2 R.rest) : txO n1 R s = txO n2 R s := by unfold txO; rw [h]
theorem tx_fuel : ∀ (f g : Nat) (s : SP.Bs), s.length < f → s.length < g → tx f s = tx g s
  | 0, _, _, h, _ => absurd h (by omega)
  | _ + 1, 0, _, _, h => absurd h (by omega)
  | f + 1, g + 1, s, hf, hg => by
    by_cases h0 : s = []
    · exact (if_pos h0).trans (if_pos h0).symm
    · have := rd0_rest s h0
      exact (if_neg h0).trans ((txO_congr _ _ _ _ (tx_fuel f g _ (by omega) (by omega))).trans (if_neg h0).symm)
/-- the requests of a whole text, and what of it is held; none behind a fault. -/
def TX (s : SP.Bs) : List Rq × Option SP.Bs := tx (s.length + 1) s
theorem TX_nil : TX [] = ([], some []) := rfl
theorem TX_eq (s : SP.Bs) (h0 : s ≠ []) : TX s = txO TX (rdG (PS0 0) s) s := by
  have := rd0_rest s h0
  exact (if_neg h0).trans (txO_congr _ _ _ _ (tx_fuel _ _ _ this (by omega)))
theorem TX_wait (s : SP.Bs) (h0 : s ≠ []) (hk : (rdG (PS0 0) s).k = 0) : TX s = ([], some s) := by
  rw [TX_eq s h0]; exact if_pos hk
theorem TX_ok (s : SP.Bs) (h0 : s ≠ []) (hk : (rdG (PS0 0) s).k ≠ 0) (he : (rdG (PS0 0) s).err = []) : TX s = (told (rdG (PS0 0) s) ++ (TX (rdG (PS0 0) s).rest).1, (TX (rdG (PS0 0) s).rest).2) := by
  rw [TX_eq s h0]; exact (if_neg hk).trans (if_pos he)
theorem TX_err (s : SP.Bs) (h0 : s ≠ []) (hk : (rdG (PS0 0) s).k ≠ 0) (he : (rdG (PS0 0) s).err ≠ []) : TX s = (told (rdG (PS0 0) s), none) := by
  rw [TX_eq s h0]; exact (if_neg hk).trans (if_neg he)
/-- bytes behind bytes. -/
def FX (o : Option SP.Bs) (s : SP.Bs) : List Rq × Option SP.Bs := match o with
  | none => ([], none)
  | some P => TX (P ++ s)
theorem TX_app : ∀ (n : Nat) (a c : SP.Bs), a.length ≤ n → TX (a ++ c) = ((TX a).1 ++ (FX (TX a).2 c).1, (FX (TX a).2 c).2) := by
  intro n
  induction n with
  | zero =>
    intro a c ha
    have : a = [] := List.eq_nil_of_length_eq_zero (by omega)
    subst this
    rfl
  | succ n ih =>
    intro a c ha
    by_cases h0 : a = []
    · subst h0; rfl
    · have h1 : a ++ c ≠ [] := by intro e; exact h0 (List.append_eq_nil_iff.1 e).1
      by_cases hk : (rdG (PS0 0) a).k = 0
      · rw [TX_wait a h0 hk]; rfl
      · have he := rd0_ext a c h0 hk
        by_cases hr : (rdG (PS0 0) a).err = []
        · have he2 : rdG (PS0 0) (a ++ c) = { rdG (PS0 0) a with rest := (rdG (PS0 0) a).rest ++ c } := he.trans (if_pos hr)
          have hlen := rd0_rest a h0
          rw [TX_ok (a ++ c) h1 (by rw [he2]; exact hk) (by rw [he2]; exact hr), TX_ok a h0 hk hr, he2]
          dsimp only
          rw [ih _ c (by omega)]
          show (told (rdG (PS0 0) a) ++ _, _) = _
          rw [List.append_assoc]
        · have he2 : rdG (PS0 0) (a ++ c) = rdG (PS0 0) a := he.trans (if_neg hr)
          rw [TX_err (a ++ c) h1 (by rw [he2]; exact hk) (by rw [he2]; exact hr), TX_err a h0 hk hr, he2]
          show _ = (told (rdG (PS0 0) a) ++ [], none)
          rw [List.append_nil]
/-- what may be held. -/
def Pnd (o : Option SP.Bs) : Prop := ∀ P, o = some P → P ≠ [] → (rdG (PS0 0) P).k = 0
theorem TX_pnd : ∀ (n : Nat) (a : SP.Bs), a.length ≤ n → Pnd (TX a).2 := by
  intro n
  induction n with
  | zero =>
    intro a ha P hP h0
    have : a = [] := List.eq_nil_of_length_eq_zero (by omega)
    subst this
    injection hP with hP
    exact absurd hP.symm h0
  | succ n ih =>
    intro a ha
    by_cases h0 : a = []
    · subst h0; intro P hP h0; injection hP with hP; exact absurd hP.symm h0
    · by_cases hk : (rdG (PS0 0) a).k = 0
      · rw [TX_wait a h0 hk]
        intro P hP _
        injection hP with hP
        rw [← hP]; exact hk
      · by_cases hr : (rdG (PS0 0) a).err = []
        · rw [TX_ok a h0 hk hr]
          have hlen := rd0_rest a h0
          exact ih _ (by omega)
        · rw [TX_err a h0 hk hr]
          intro P hP; cases hP
theorem FX_pnd (o : Option SP.Bs) (s : SP.Bs) : Pnd (FX o s).2 := by
  cases o with
  | none => intro P hP; cases hP
  | some P => exact TX_pnd _ _ (Nat.le_refl _)
theorem FX_nil (o : Option SP.Bs) (h : Pnd o) : FX o [] = ([], o) := by
  cases o with
  | none => rfl
  | some P =>
    show TX (P ++ []) = _
    rw [List.append_nil]
    by_cases h0 : P = []
    · subst h0; rfl
    · exact TX_wait P h0 (h P rfl h0)
theorem FX_app (o : Option SP.Bs) (a c : SP.Bs) : FX o (a ++ c) = ((FX o a).1 ++ (FX (FX o a).2 c).1, (FX (FX o a).2 c).2) := by
  cases o with
  | none => rfl
  | some P =>
    show TX (P ++ (a ++ c)) = _
    rw [← List.append_assoc]
    exact TX_app _ (P ++ a) c (Nat.le_refl _)
/-- the parser where this is held. -/
def stP : Option SP.Bs → PS
  | none => PS0 6
  | some [] => PS0 0
  | some (b :: t) => hS (rdG (PS0 0) (b :: t)).S (b :: t).length
theorem stP_rd (P s : SP.Bs) (h : Pnd (some P)) (hs : s ≠ []) : rdG (stP (some P)) s = hR (rdG (PS0 0) (P ++ s)) P.length := by
  cases P with
  | nil =>
    show rdG (PS0 0) s = hR (rdG (PS0 0) s) 0
    rw [← rdG_held]; rfl
  | cons b t =>
    show rdG (hS (rdG (PS0 0) (b :: t)).S (b :: t).length) s = _
    rw [rdG_held, rdG_comp (PS0 0) (b :: t) s (by simp) hs (h _ rfl (by simp))]
theorem stP_wait (P s : SP.Bs) (hs : s ≠ []) : stP (some (P ++ s)) = hS (rdG (PS0 0) (P ++ s)).S (P.length + s.length) := by
  cases hps : P ++ s with
  | nil => exact absurd (List.append_eq_nil_iff.1 hps).2 hs
  | cons b t =>
    show hS _ (b :: t).length = _
    rw [← hps, List.length_append]
theorem stP_held (o : Option SP.Bs) : (stP o).held = match o with | none => 0 | some P => P.length := by
  rcases o with _ | _ | ⟨b, t⟩ <;> rfl
end Go.Proofs.YtnfbaeajalnmmaaGreatDoor
namespace Go.Proofs.YtnfbaeajalnmmaaGreatDoor
open Go.RowKit Vi
set_option linter.unusedVariables false
set_option linter.unusedSimpArgs false
theorem infoRq : (Tryz.prog.info? 47).map (fun i => (i.zero, i.size, i.bytes)) = some (some (.agg #[.slice none 0 0, .string ⟨#[]⟩]), 2, 40) := by kernel_rfl
/-- the cells of requests: their words' rows and their errors. -/
def rqC (E : List (Value × Rq)) : List Value := E.flatMap fun x => [x.1, .string (strB x.2.err)]
theorem rqC_len (E : List (Value × Rq)) : (rqC E).length = E.length * 2 := by
  induction E with
  | nil => rfl
  | cons x E ih =>
    unfold rqC at ih ⊢
    rw [List.flatMap_cons, List.length_append, ih, List.length_cons]; simp; omega
theorem rqC_snoc (E : List (Value × Rq)) (x : Value × Rq) : rqC (E ++ [x]) = rqC E ++ [x.1, .string (strB x.2.err)] := by
  unfold rqC; rw [List.flatMap_append]; rfl
theorem own_ty' {W : World} {b T k n : Nat} {v : Value} {xs : List Value} (h : W.ownsRow b T k v n xs) (g : Nat) (hg : v.ownBlock = some g) : ∃ cur, W.heap[g]? = some (.cells cur T) := by
  rcases h.2 with ⟨rfl, _⟩ | ⟨g', cap, cur, rfl, _, hr, _⟩
  · cases hg
  · injection hg with hg
    subst hg
    exact ⟨cur, hr⟩
theorem own_stays' {W W' : World} {b T k n : Nat} {v : Value} {xs : List Value} (h : W.ownsRow b T k v n xs) (hk : ∀ g, v.ownBlock = some g → W'.heap[g]? = W.heap[g]?) : W'.ownsRow b T k v n xs := by
  refine ⟨h.1, ?_⟩
  rcases h.2 with q | ⟨g, cap, cur, rfl, a1, hr, a2⟩
  · exact Or.inl q
  · exact Or.inr ⟨g, cap, cur, rfl, a1, by rw [hk g rfl]; exact hr, a2⟩
/-- two blocks of other types are not one. -/
theorem ty_apart {W : World} {g T T' : Nat} {c c' : Array Value} (h : W.heap[g]? = some (.cells c T)) (h' : W.heap[g]? = some (.cells c' T')) (hT : T ≠ T') : False := by
  rw [h] at h'
  injection h' with h'
  injection h' with _ h2 _
  exact hT h2
/-- requests in memory: a row of their own, and each one's words. -/
structure RLs (B b0 : Nat) (W : World) (lv : Value) (E : List (Value × Rq)) : Prop where
  row : W.ownsRow b0 47 2 lv E.length (rqC E)
  args : ∀ x ∈ E, W.ownsRow B 9 1 x.1 x.2.args.length (strS x.2.args)
theorem RLs.nil (B b0 : Nat) (W : World) : RLs B b0 W (.slice none 0 0) [] := ⟨⟨rfl, Or.inl ⟨rfl, rfl⟩⟩, fun x hx => by cases hx⟩
theorem RLs.on {B b0 : Nat} {W W' : World} {lv : Value} {E : List (Value × Rq)} (h : RLs B b0 W lv E) (hb : Below W.heap.size W W') : RLs B b0 W' lv E := ⟨own_on h.row hb, fun x hx => own_on (h.args x hx) hb⟩
/-- only a parser's cells turn. -/
theorem RLs.side {B b0 q T : Nat} {W W' : World} {lv : Value} {E : List (Value × Rq)} {c : Array Value} (h : RLs B b0 W lv E) (hq : W.heap[q]? = some (.cells c T)) (h1 : T ≠ 47) (h2 : T ≠ 9) (ho : Only W W' q) : RLs B b0 W' lv E :=
  ⟨own_stays' h.row (fun g hg => ho.other g (fun e => by
      obtain ⟨cur, hc⟩ := own_ty' h.row g hg
      rw [e] at hc; exact ty_apart hq hc h1)),
   fun x hx => own_stays' (h.args x hx) (fun g hg => ho.other g (fun e => by
      obtain ⟨cur, hc⟩ := own_ty' (h.args x hx) g hg
      rw [e] at hc; exact ty_apart hq hc h2))⟩
/-- what Feed keeps. -/
structure FI (B b0 : Nat) (w0 W : World) (q : Nat) (pv0 wv0 pv wv : Value) (S : PS) (lv : Value) (E : List (Value × Rq)) : Prop where
  pa : PA B W q pv wv S
  mv : Mv w0 W q pv0 wv0 pv wv
  rl : RLs B b0 W lv E
  dj : ∀ x ∈ E, ∀ g, x.1.ownBlock = some g → wv.ownBlock ≠ some g
theorem FI.on {B b0 : Nat} {w0 W W' : World} {q : Nat} {pv0 wv0 pv wv : Value} {S : PS} {lv : Value} {E : List (Value × Rq)} (h : FI B b0 w0 W q pv0 wv0 pv wv S lv E) (hb : Below W.heap.size W W') : FI B b0 w0 W' q pv0 wv0 pv wv S lv E :=
  ⟨h.pa.on hb, h.mv.trans (mv_bel hb), h.rl.on hb, h.dj⟩
theorem FI.step {B b0 : Nat} {w0 W W' : World} {q : Nat} {pv0 wv0 pv wv pv' wv' : Value} {S S' : PS} {lv : Value} {E : List (Value × Rq)} (h : FI B b0 w0 W q pv0 wv0 pv wv S lv E) (hp : PA B W' q pv' wv' S') (hm : Mv W W' q pv wv pv' wv') : FI B b0 w0 W' q pv0 wv0 pv' wv' S' lv E := by
  have hrow := h.pa.row
  unfold PrR at hrow
  refine ⟨hp, h.mv.trans hm, ⟨own_stays' h.rl.row (fun g hg => ?_), fun x hx => own_stays' (h.rl.args x hx) (fun g hg => ?_)⟩, fun x hx g hg e => ?_⟩
  · obtain ⟨cur, hc⟩ := own_ty' h.rl.row g hg
    refine hm.block g (row_lt hc) (fun e => ?_) (fun e => ?_) (fun e => ?_)
    · rw [e] at hc; exact ty_apart hrow hc (by decide)
    · obtain ⟨cur2, hc2⟩ := own_ty h.pa.po g e; exact ty_apart hc hc2 (by decide)
    · obtain ⟨cur2, hc2⟩ := own_ty h.pa.wo g e; exact ty_apart hc hc2 (by decide)
  · obtain ⟨cur, hc⟩ := own_ty' (h.rl.args x hx) g hg
    refine hm.block g (row_lt hc) (fun e => ?_) (fun e => ?_) (h.dj x hx g hg)
    · rw [e] at hc; exact ty_apart hrow hc (by decide)
    · obtain ⟨cur2, hc2⟩ := own_ty h.pa.po g e; exact ty_apart hc hc2 (by decide)
  · obtain ⟨cur, hc⟩ := own_ty' (h.rl.args x hx) g hg
    rcases hm.nw g e with e2 | e2
    · exact h.dj x hx g hg e2
    · have := row_lt hc; omega
/-- a request is told. -/
theorem FI.tell {B b0 : Nat} {w0 W W' : World} {q : Nat} {pv0 wv0 pv wv : Value} {S : PS} {lv lv' av : Value} {E : List (Value × Rq)} {r : Rq} (h : FI B b0 w0 W q pv0 wv0 pv wv S lv E) (hb0 : w0.heap.size ≤ b0)
    (ha : W.ownsRow B 9 1 av r.args.length (strS r.args)) (ho : W'.ownsRow b0 47 2 lv' (E.length + 1) (rqC E ++ [av, .string (strB r.err)])) (hg : W.grownBy W' lv.ownBlock) :
    PA B W' q pv wv S ∧ Mv w0 W' q pv0 wv0 pv wv ∧ RLs B b0 W' lv' (E ++ [(av, r)]) := by
  have hrow := h.pa.row
  unfold PrR at hrow
  have keep : ∀ (g : Nat) (c : Array Value) (T : TypeId), W.heap[g]? = some (.cells c T) → T ≠ 47 → W'.heap[g]? = W.heap[g]? := fun g c T hc hT => hg.block g (row_lt hc) (fun e => by
    obtain ⟨cur, hc2⟩ := own_ty' h.rl.row g e.symm
    exact ty_apart hc hc2 hT)
  refine ⟨⟨?_, own_stays h.pa.po (fun g hg => ?_), own_stays h.pa.wo (fun g hg => ?_), h.pa.lo⟩, ⟨hg.os.trans h.mv.os, hg.tape.trans h.mv.tape, hg.output.trans h.mv.output, Nat.le_trans h.mv.size hg.size, fun k hk h1 h2 h3 => (hg.block k (Nat.lt_of_lt_of_le hk h.mv.size) (fun e => by have := own_block h.rl.row k e.symm; omega)).trans (h.mv.block k hk h1 h2 h3), h.mv.np, h.mv.nw⟩, ⟨?_, fun x hx => ?_⟩⟩
  · unfold PrR
    rw [keep q _ _ hrow (by decide)]; exact hrow
  · obtain ⟨cur, hc⟩ := own_ty h.pa.po g hg; exact keep g _ _ hc (by decide)
  · obtain ⟨cur, hc⟩ := own_ty h.pa.wo g hg; exact keep g _ _ hc (by decide)
  · rw [rqC_snoc, List.length_append]; exact ho
  · rcases List.mem_append.1 hx with hx | hx
    · refine own_stays' (h.rl.args x hx) (fun g hg => ?_)
      obtain ⟨cur, hc⟩ := own_ty' (h.rl.args x hx) g hg; exact keep g _ _ hc (by decide)
    · have : x = (av, r) := by simpa using hx
      subst this
      refine own_stays' ha (fun g hg => ?_)
      obtain ⟨cur, hc⟩ := own_ty' ha g hg; exact keep g _ _ hc (by decide)
/-- a request is forgotten. -/
theorem FI.fgt {B b0 : Nat} {w0 W W' : World} {q : Nat} {pv0 wv0 pv wv : Value} {S S' : PS} {lv : Value} {E : List (Value × Rq)} (h : PA B W q pv wv S) (hm : Mv w0 W q pv0 wv0 pv wv) (hr : RLs B b0 W lv E) (hp : PA B W' q (.slice none 0 0) (.slice none 0 0) S') (ho : Only W W' q) : FI B b0 w0 W' q pv0 wv0 (.slice none 0 0) (.slice none 0 0) S' lv E := by
  have hrow := h.row
  unfold PrR at hrow
  exact ⟨hp, hm.trans (mv_zero ho), hr.side hrow (by decide) (by decide) ho, fun x hx g hg e => by cases e⟩
theorem RInv.hS {S : PS} (h : RInv S) (n : Nat) : RInv (hS S n) := ⟨h.le, h.r0, h.r1, fun e => ⟨⟨(h.r2 e).1.m1, (h.r2 e).1.mw, (h.r2 e).1.t0, (h.r2 e).1.t1⟩, (h.r2 e).2⟩, fun e => ⟨⟨(h.r3 e).1.m1, (h.r3 e).1.mw, (h.r3 e).1.t0, (h.r3 e).1.t1⟩, (h.r3 e).2⟩, fun e => ⟨⟨(h.r4 e).1.m1, (h.r4 e).1.mw, (h.r4 e).1.t0, (h.r4 e).1.t1⟩, (h.r4 e).2⟩, h.r5⟩
theorem stP_inv (P : SP.Bs) (h : Pnd (some P)) : RInv (stP (some P)) := by
  cases P with
  | nil => exact rinv_zero
  | cons b t =>
    refine RInv.hS ?_ _
    have hk := h _ rfl (by simp)
    rw [← rdF_G ((b :: t).length + 1) (PS0 0) (b :: t) (by omega)] at hk ⊢
    exact rdF_inv _ _ _ rinv_zero (by simp) hk
theorem stP_st (P : SP.Bs) (h : Pnd (some P)) : (stP (some P)).st ≤ 5 := (stP_inv P h).le
theorem cell_two_new (w : World) (x y : Value) (t : TypeId) : ∀ j u, [x, y][j]? = some u → (w.alloc (.cells #[x, y] t)).cell? ((⟨w.heap.size, 0, none⟩ : Addr).add j) = some u := by
  intro j u hj
  match j, hj with
  | 0, hj => simp at hj; subst hj; simp [Addr.add]
  | 1, hj => simp at hj; subst hj; simp [Addr.add]
/-- what Feed answers. -/
def FdIs (B : Nat) (w w' : World) (q : Nat) (pv wv : Value) (e : Ending) (X : List Rq × Option SP.Bs) : Prop := ∃ pv' wv' P c E, FI B w.heap.size w w' q pv wv pv' wv' (stP X.2) (.slice P E.length c) E ∧ E.map (·.2) = X.1 ∧ e = .returned (.slice P E.length c)
end Go.Proofs.YtnfbaeajalnmmaaGreatDoor
