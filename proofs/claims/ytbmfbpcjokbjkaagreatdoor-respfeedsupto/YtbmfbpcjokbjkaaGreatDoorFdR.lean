import Derived.Test.YtbmfbpcjokbjkaaGreatDoorFdQ
namespace Go.Proofs.YtbmfbpcjokbjkaaGreatDoor
open Go.RowKit Vi
set_option linter.unusedVariables false
set_option linter.unusedSimpArgs false
def expPre : ByteArray := ⟨#[80, 114, 111, 116, 111, 99, 111, 108, 32, 101, 114, 114, 111, 114, 58, 32, 101, 120, 112, 101, 99, 116, 101, 100, 32, 39, 36, 39, 44, 32, 103, 111, 116, 32, 39]⟩
/-- the error at a byte that is no '$'. -/
def expB (b : UInt8) : SP.Bs := expPre.data.toList ++ [b] ++ [39]
/-- read, ahead of a word's line. -/
def rdWord (next : PS → SP.Bs → RO) (S : PS) (s : SP.Bs) : RO := match s with
  | [] => ⟨{ S with st := 2 }, [], [], [], 0⟩
  | b :: t => if b = 36 then rdLen next { S with st := 2 } (b :: t) else ⟨{ S with st := 2 }, [], [], expB b, 2⟩
def rdW : Nat → PS → SP.Bs → RO
  | 0 => fun S s => ⟨S, [], [], [], 1⟩
  | f + 1 => rdWord (rdW f)
theorem eol_full {b : UInt8} {x : SP.Bs} (hb : b ≠ 13) : eol (b :: x) ≠ [] := by
  intro e
  unfold eol Lib.trimSuffix at e
  split at e
  · rename_i hs
    have hl := congrArg List.length e
    simp at hl
    subst hl
    simp [Lib.hasSuffix] at hs
    obtain ⟨y, hy⟩ := hs
    cases y with
    | nil => injection hy with hy _; exact hb hy.symm
    | cons a y => simp at hy
  · cases e
theorem lf_cons {b : UInt8} {t : SP.Bs} {n k : Nat} (hb : b ≠ 10) (h : lfAt ((b :: t).take n) = some k) : ∃ j, k = j + 1 := by
  cases k with
  | succ j => exact ⟨j, rfl⟩
  | zero =>
    exfalso
    cases n with
    | zero => simp [lfAt] at h
    | succ n =>
      unfold lfAt at h
      rw [List.take_succ_cons, List.findIdx?_cons] at h
      have : (b == 10) = false := by simpa using hb
      rw [this, if_neg (by decide)] at h
      obtain ⟨j, _, hj⟩ := Option.map_eq_some_iff.mp h
      omega
set_option maxRecDepth 20000 in
set_option maxHeartbeats 800000 in
theorem seg1 (B q r : Nat) (pv0 wv0 pv wv : Value) (S : PS) (s : ByteArray) (u : Nat → Value) (w0 w : World) (h : PA B w q pv wv S) (hM : Mv w0 w q pv0 wv0 pv wv) (hr0 : w0.heap.size ≤ r) (hrow : w.heap[r]? = some (.cells #[.slice none 0 0, .string ⟨#[]⟩] 43)) (hW : WInv S) (hn : S.part = []) (hs : s.size ≤ 1073741824) (hL : ∀ W, Below B w W → Laid W)
    (next : PS → SP.Bs → RO) (post : Ending → World → Prop) (J : Nat → Act → World → Prop) (R : RO) (hR : rdWord next S s.data.toList = R) (hpost : ∀ e w', RdIs B w0 w' q pv0 wv0 e R → post e w')
    (hJ : ∀ a' w' s' pv' wv' S', IsFr a' q s' r → PA B w' q pv' wv' S' → Mv w0 w' q pv0 wv0 pv' wv' → w'.heap[r]? = some (.cells #[.slice none 0 0, .string ⟨#[]⟩] 43) → WInv S' → S'.part = [] → s'.size < s.size → next S' s'.data.toList = R → J 1 a' w') :
    (scopeTl Tryz.f33 1).wp Tryz.prog (jumps J (bodyPost Tryz.prog Tryz.f33 post)) (Fr q s r u) w := by
  have HP : Hid _ := hpost
  have HJ : Hid _ := hJ
  have HW : Hid _ := hW
  obtain ⟨c0, c1, c2, c3, c4, c5, c6, cf⟩ := h.row.cells
  obtain ⟨W1, hW1⟩ : ∃ W, W = w.setCell ⟨q, 0, none⟩ (.int .i64 2) := ⟨_, rfl⟩
  have HS : Hid (PA B W1 q pv wv { S with st := 2 } ∧ Mv w W1 q pv wv pv wv) := by rw [hW1]; exact h.st0 2
  have HR1 : Hid _ := HS.out.2.req h hrow
  have HM1 : Hid _ := hM.trans HS.out.2
  have HA : Hid _ := h
  have HLD : Hid _ := hL
  have HN : Hid _ := hn
  obtain ⟨Q, hQ⟩ : ∃ Q, Q = jumps J (bodyPost Tryz.prog Tryz.f33 post) := ⟨_, rfl⟩
  rw [← hQ]
  have HQ : Hid _ := hQ
  clear hQ hpost h hM hrow hL hW hJ hn
  by_cases h0 : s.size = 0
  · have hse := str_empty h0
    have e1 : (⟨{ S with st := 2 }, [], [], [], 0⟩ : RO) = R := by rw [← hR, empty_str s h0]; rfl
    have HE1 : Hid _ := e1
    clear hR e1 h0
    simp only [scopeTl, scopeTo, scopeIn, Tryz.f33, findLabel, Nat.reduceBEq, Bool.false_eq_true, ↓reduceIte, Option.getD_some, Option.getD_none, Fr]
    go_wp2_with fail
    rw [← hW1]
    refine (stop_wait W1).mono ?_
    rintro e w3 ⟨rfl, hb3⟩
    have HP3 : Hid _ := HS.out.1.on hb3
    have HM3 : Hid _ := HM1.out.trans (mv_bel hb3)
    have HR3 : Hid _ := keep_row HR1.out hb3
    obtain ⟨z0, z1, zf⟩ := prow2 HR3.out
    clear hb3 hW1
    go_wp2
    rw [HQ.out]
    have e1 := HE1.out
    exact rd_fin B q r pv0 wv0 _ wv w0 w3 R _ _ (by rw [← e1]; exact HP3.out) HM3.out hr0 HR3.out (.slice none 0 0) ⟨#[]⟩ ⟨#[]⟩ 0 (by rw [← e1]; rfl) (by rw [← e1]; rfl) (by rw [← e1]) (by rw [← e1]; exact own_nil) _ rfl rfl rfl rfl post J HP.out
  · have hse := str_full h0
    have h1 : 0 < s.size := by omega
    have HT := head_tl s h1
    have HHT : Hid _ := HT
    obtain ⟨b, hb⟩ : ∃ b, s[0] = b := ⟨_, rfl⟩
    rw [hb] at HT
    have HB : Hid _ := hb
    by_cases hb36 : b = 36
    · have e1 : rdLen next { S with st := 2 } s.data.toList = R := by rw [← hR, HT]; unfold rdWord; exact (if_pos hb36).symm
      have HE1 : Hid _ := e1
      have HB36 : Hid _ := hb36
      have hc : (s[0].toNat : Int) = 36 := by rw [hb, hb36]; rfl
      have hcn : s[0].toNat = 36 := by rw [hb, hb36]; rfl
      have hE : ∀ k, lfAt (s.data.toList.take (65 - ({ S with st := 2 } : PS).part.length)) = some k → eol (({ S with st := 2 } : PS).part ++ s.data.toList.take k) ≠ [] := by
        intro k hk
        show eol (S.part ++ _) ≠ []
        rw [HN.out, List.nil_append]
        rw [HT] at hk ⊢
        obtain ⟨j, rfl⟩ := lf_cons (by rw [hb36]; decide) hk
        rw [List.take_succ_cons]
        exact eol_full (by rw [hb36]; decide)
      have HEE : Hid _ := hE
      clear hR e1 h0 HT hb hb36 hE
      simp only [scopeTl, scopeTo, scopeIn, Tryz.f33, findLabel, Nat.reduceBEq, Bool.false_eq_true, ↓reduceIte, Option.getD_some, Option.getD_none, Fr]
      go_wp2
      rename_i K1 hK1
      apply wp_label
      show K1 _ _
      apply hK1
      rw [← hW1]
      refine (?_ : ∀ fa, IsFr fa q s r → Code.wp Tryz.prog (scopeTl Tryz.f33 2) Q fa W1) _ rfl
      intro fa hfa
      obtain ⟨u', rfl⟩ := hfa.get
      rw [HQ.out]
      exact seg2 B q r pv0 wv0 pv wv { S with st := 2 } s u' w0 W1 HS.out.1 HM1.out hr0 HR1.out ⟨HW.out.m1, HW.out.mw, HW.out.t0, HW.out.t1⟩ (by show S.part.length ≤ 64; rw [HN.out]; simp) hs HEE.out (fun W hW => HLD.out W ((HS.out.2.below HA.out).trans hW)) next post J R HE1.out HP.out HJ.out
    · have e1 : (⟨{ S with st := 2 }, [], [], expB b, 2⟩ : RO) = R := by rw [← hR, HT]; unfold rdWord; exact (if_neg hb36).symm
      have HE1 : Hid _ := e1
      have hc : ¬ ((s[0].toNat : Int) = 36) := by
        rw [hb]; intro e; exact hb36 (UInt8.toNat_inj.1 (by show b.toNat = 36; omega))
      have hcb : ((s[0].toNat : Int) != 36) = true := by simpa using hc
      have hfu : (⟨#[80, 114, 111, 116, 111, 99, 111, 108, 32, 101, 114, 114, 111, 114, 58, 32, 101, 120, 112, 101, 99, 116, 101, 100, 32, 39, 36, 39, 44, 32, 103, 111, 116, 32, 39]⟩ : ByteArray) ++ s.extract 0 1 ++ ⟨#[39]⟩ = strB (expB b) := by
        apply bytes_ext
        rw [strB_list]
        show _ = expPre.data.toList ++ [b] ++ [39]
        have : (s.extract 0 1).data.toList = [b] := by rw [ext_any, HT]; rfl
        rw [← this]
        show ((expPre ++ s.extract 0 1) ++ (⟨#[39]⟩ : ByteArray)).data.toList = _
        rw [ByteArray.data_append, Array.toList_append, ByteArray.data_append, Array.toList_append]
      have HFU : Hid _ := hfu
      have HFZ : Hid (¬ (strB (expB b)).size = 0) := by show ¬ _; rw [strB_size]; unfold expB; simp
      clear hR e1 h0 HT hb36 hb hfu hc
      simp only [scopeTl, scopeTo, scopeIn, Tryz.f33, findLabel, Nat.reduceBEq, Bool.false_eq_true, ↓reduceIte, Option.getD_some, Option.getD_none, Fr]
      go_wp2_with fail
      rw [← hW1, HFU.out]
      refine (stop_fault (strB (expB b)) HFZ.out W1).mono ?_
      rintro e w3 ⟨rfl, hb3⟩
      have HP3 : Hid _ := HS.out.1.on hb3
      have HM3 : Hid _ := HM1.out.trans (mv_bel hb3)
      have HR3 : Hid _ := keep_row HR1.out hb3
      obtain ⟨z0, z1, zf⟩ := prow2 HR3.out
      clear hb3 hW1
      go_wp2
      rw [HQ.out]
      have e1 := HE1.out
      exact rd_fin B q r pv0 wv0 _ wv w0 w3 R _ _ (by rw [← e1]; exact HP3.out) HM3.out hr0 HR3.out (.slice none 0 0) ⟨#[]⟩ (strB (expB b)) 2 (by rw [← e1]; rfl) (by rw [← e1]) (by rw [← e1]) (by rw [← e1]; exact own_nil) _ rfl rfl rfl rfl post J HP.out
end Go.Proofs.YtbmfbpcjokbjkaaGreatDoor
