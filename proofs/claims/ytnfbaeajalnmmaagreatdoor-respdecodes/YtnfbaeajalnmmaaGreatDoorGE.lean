import Derived.Test.YtnfbaeajalnmmaaGreatDoorGD
import Derived.Maps.AppendAt
namespace Go.Proofs.YtnfbaeajalnmmaaGreatDoor
open Go.RowKit
set_option linter.unusedVariables false
set_option linter.unusedSimpArgs false
/-- where the first byte 10 is. -/
def lfAt (l : SP.Bs) : Option Nat := l.findIdx? (· == 10)
theorem lf_none (l : SP.Bs) (h : lfAt l = none) : Lib.indexByte l 10 = -1 := by
  induction l with
  | nil => rfl
  | cons b l ih =>
    unfold lfAt at h ih
    rw [List.findIdx?_cons] at h
    by_cases hb : (b == 10) = true
    · rw [if_pos hb] at h; cases h
    · rw [if_neg hb] at h
      have := ih (by simpa using h)
      unfold Lib.indexByte
      rw [if_neg hb, this]; rfl
theorem lf_some (l : SP.Bs) (i : Nat) (h : lfAt l = some i) : Lib.indexByte l 10 = (i : Int) ∧ i < l.length := by
  induction l generalizing i with
  | nil => cases h
  | cons b l ih =>
    unfold lfAt at h ih
    rw [List.findIdx?_cons] at h
    by_cases hb : (b == 10) = true
    · rw [if_pos hb] at h
      injection h with h
      subst h
      unfold Lib.indexByte
      rw [if_pos hb]
      exact ⟨rfl, by simp⟩
    · rw [if_neg hb] at h
      obtain ⟨j, hj, rfl⟩ := Option.map_eq_some_iff.mp h
      obtain ⟨e1, e2⟩ := ih j hj
      unfold Lib.indexByte
      rw [if_neg hb, e1]
      have : ¬ (((j : Int) == -1) = true) := by intro e; have := eq_of_beq e; omega
      rw [if_neg this]
      exact ⟨by simp, by simpa using e2⟩
/-- a text behind bytes, in a region that draws, and where the row lies then. -/
theorem step_append_at {w : World} {ops : Array Oper} {o : Oper} {a : Act} {K : Act → World → Prop} {Q : Exit → Act → World → Prop} {E : Prop} (hg : o.guard = none) (s x : Operand)
    (hop : o.op = Op.call { callee := Callee.builtin Builtin.append, args := #[s, x], argTypes := #[50, 9] })
    (b : Nat) (hb : b ≤ w.heap.size) (v : Value) (n : Nat) (xs : List Value) (hs : a.eval s = v) (hown : w.ownsRow b 5 1 v n xs) (t : ByteArray) (hx : a.eval x = .string t) (hl : n + t.size ≤ 1099511627776)
    (h : ∀ v' w', w'.ownsRow b 5 1 v' (n + t.size) (xs ++ Lib.strCells t) → w.grownBy w' v.ownBlock → (v'.ownBlock = v.ownBlock ∨ v'.ownBlock = some w.heap.size) → K (a.put o.dst v') w') :
    if Region.wanted o (yielded ops a.tmps) = true then Oper.wp Tryz.prog o a w K Q else E := by
  have hw : Region.wanted o (yielded ops a.tmps) = true := by simp [Region.wanted, hg]
  rw [if_pos hw]
  obtain ⟨v', w', hrun, h2, h3, h4⟩ := append_at w b o.type v n xs hown t hl hb
  unfold Oper.wp
  simp [execOp, hop, resolve, invoke, builtin, hs, hx, hrun, Result.andThen]
  exact h v' w' h2 h3 h4
theorem PA.drew {B : Nat} {W : World} {q : Nat} {pv wv : Value} {S : PS} (h : PA B W q pv wv S) : PA B W.drew q pv wv S := h.on ((Below.refl _ _).drew)
theorem PA.app2 {B : Nat} {W W' : World} {q n : Nat} {pv wv pv' : Value} {S : PS} {t : ByteArray} (h : PA B W q pv wv S) (hn : S.part.length = n) (ho : W'.ownsRow B 5 1 pv' (n + t.size) (bcells S.part ++ Lib.strCells t)) (hg : W.grownBy W' pv.ownBlock) (hat : pv'.ownBlock = pv.ownBlock ∨ pv'.ownBlock = some W.heap.size) :
    PrR W' q S.st S.held pv wv S.more S.total S.size ∧ PA B (W'.setCell ⟨q, 2, none⟩ pv') q pv' wv { S with part := S.part ++ t.data.toList } ∧ Mv W (W'.setCell ⟨q, 2, none⟩ pv') q pv wv pv' wv := by subst hn; exact h.app ho hg hat
/-- toEnd where no byte 10 comes in time. -/
theorem toEnd_no (B q : Nat) (pv wv : Value) (S : PS) (s : ByteArray) (most : Nat) (hm : most ≤ 65536) (hn : S.part.length ≤ most) (hs : s.size ≤ 1073741824) (w : World) (h : PA B w q pv wv S) (hi : lfAt (s.data.toList.take (most + 1 - S.part.length)) = none) :
    Calls Tryz.prog 44 #[.pointer (some ⟨q, 0, none⟩), .string s, .int .i64 (most : Int)] w fun e w' => e = .returned (.tuple #[.string ⟨#[]⟩, .bool false]) ∧ ∃ pv', PA B w' q pv' wv { S with part := S.part ++ s.data.toList.take (most + 1 - S.part.length) } ∧ Mv w w' q pv wv pv' wv := by
  obtain ⟨P, c, hpv⟩ := own_form h.po
  subst hpv
  obtain ⟨c0, c1, c2, c3, c4, c5, c6, cf⟩ := h.row.cells
  obtain ⟨r, hr⟩ : ∃ r : Nat, r = min (most + 1 - S.part.length) s.size := ⟨_, rfl⟩
  have hrs : r ≤ s.size := by omega
  obtain ⟨n, hnl⟩ : ∃ n, S.part.length = n := ⟨_, rfl⟩
  rw [hnl] at hn hr c2 h
  have HA : Hid _ := h
  have HN : Hid _ := hnl
  have HNL : Hid (S.part.length = n) := hnl
  have hmin : (min ((most : Int) + 1 - (n : Int)) (s.size : Int)) = (r : Int) := by omega
  have htk : (s.extract 0 r).data.toList = s.data.toList.take (most + 1 - n) := by
    rw [ext_any, List.drop_zero, Nat.sub_zero, hr]
    rcases Nat.le_total (most + 1 - n) s.size with e | e
    · rw [Nat.min_eq_left e]
    · rw [Nat.min_eq_right e, List.take_of_length_le (by rw [list_len]; exact Nat.le_refl _), List.take_of_length_le (by rw [list_len]; exact e)]
  have HTK : Hid _ := htk
  rw [hnl] at hi
  have HIB : Hid (Calls Tryz.prog 40 #[.string (s.extract 0 r), .int .u8 10] w fun e w' => e = .returned (.int .i64 (-1)) ∧ w' = w) := by
    have h0 := Tryz.strings_IndexByte (s.extract 0 r) 10 w
    rw [show (Int.toNat 10).toUInt8 = (10 : UInt8) from rfl, htk, lf_none _ hi] at h0
    exact h0
  have HR : Hid _ := hr
  have hrl : n + r ≤ 1099511627776 := by omega
  have hrz : (s.extract 0 r).size = r := by rw [ext_size _ _ _ hrs]; rfl
  clear h hi htk hnl hr
  go_enter Tryz.func44, Tryz.ntmps44
  go_wp2_with fail
  refine (show Calls _ _ _ _ _ from HIB.out).mono ?_
  rintro e w1 ⟨rfl, rfl⟩
  go_upto_region 4 with fail
  go_region_law (refine step_append_at rfl (.tmp 31) (.tmp 34) rfl B HA.out.drew.lt (.slice P n c) n (bcells S.part) rfl (HNL.out ▸ HA.out.drew.po) (s.extract 0 r) rfl (by rw [hrz]; exact hrl) ?_; intro v5 w5 ho5 hg5 hat5; obtain ⟨P5, k5, hf5⟩ := own_form ho5; subst hf5; obtain ⟨hr5, hp5, hm5⟩ := HA.out.drew.app2 HNL.out ho5 hg5 hat5; have HP5 : Hid _ := hp5; have HM5 : Hid _ := hm5; clear hp5 hm5; obtain ⟨d0, d1, d2, d3, d4, d5, d6, df⟩ := hr5.cells)
  all_goals
    clear ho5 hg5 hat5 hr5
    go_wp2
    go_returns
    rw [HTK.out, hrz] at HP5
    rw [hrz] at HM5
    rw [HNL.out]
    exact ⟨rfl, _, HP5.out, (mv_bel (Below.refl _ _).drew).trans HM5.out⟩
/-- toEnd where a byte 10 comes in time. -/
theorem toEnd_yes (B q k : Nat) (pv wv : Value) (S : PS) (s : ByteArray) (most : Nat) (hm : most ≤ 65536) (hn : S.part.length ≤ most) (hs : s.size ≤ 1073741824) (w : World) (h : PA B w q pv wv S) (hi : lfAt (s.data.toList.take (most + 1 - S.part.length)) = some k) :
    Calls Tryz.prog 44 #[.pointer (some ⟨q, 0, none⟩), .string s, .int .i64 (most : Int)] w fun e w' => e = .returned (.tuple #[.string (s.extract (k + 1) s.size), .bool true]) ∧ ∃ pv', PA B w' q pv' wv { S with part := S.part ++ s.data.toList.take k } ∧ Mv w w' q pv wv pv' wv := by
  obtain ⟨P, c, hpv⟩ := own_form h.po
  subst hpv
  obtain ⟨c0, c1, c2, c3, c4, c5, c6, cf⟩ := h.row.cells
  obtain ⟨r, hr⟩ : ∃ r : Nat, r = min (most + 1 - S.part.length) s.size := ⟨_, rfl⟩
  have hrs : r ≤ s.size := by omega
  obtain ⟨n, hnl⟩ : ∃ n, S.part.length = n := ⟨_, rfl⟩
  rw [hnl] at hn hr c2 h
  have HA : Hid _ := h
  have HN : Hid _ := hnl
  have HNL : Hid (S.part.length = n) := hnl
  have hmin : (min ((most : Int) + 1 - (n : Int)) (s.size : Int)) = (r : Int) := by omega
  have htk : (s.extract 0 r).data.toList = s.data.toList.take (most + 1 - n) := by
    rw [ext_any, List.drop_zero, Nat.sub_zero, hr]
    rcases Nat.le_total (most + 1 - n) s.size with e | e
    · rw [Nat.min_eq_left e]
    · rw [Nat.min_eq_right e, List.take_of_length_le (by rw [list_len]; exact Nat.le_refl _), List.take_of_length_le (by rw [list_len]; exact e)]
  have hkl : k < r := by have := (lf_some _ _ hi).2; rw [hnl, ← htk, list_len, ext_size _ _ _ hrs] at this; simpa using this
  have HTK : Hid ((s.extract 0 k).data.toList = s.data.toList.take k) := by show _ = _; rw [ext_any, List.drop_zero, Nat.sub_zero]
  rw [hnl] at hi
  have HIB : Hid (Calls Tryz.prog 40 #[.string (s.extract 0 r), .int .u8 10] w fun e w' => e = .returned (.int .i64 (k : Int)) ∧ w' = w) := by
    have h0 := Tryz.strings_IndexByte (s.extract 0 r) 10 w
    rw [show (Int.toNat 10).toUInt8 = (10 : UInt8) from rfl, htk, (lf_some _ _ hi).1] at h0
    exact h0
  have HR : Hid _ := hr
  have hrl : n + k ≤ 1099511627776 := by omega
  have hks : k ≤ s.size := by omega
  have hk1 : k + 1 ≤ s.size := by omega
  have hk0 : ¬ ((k : Int) < 0) := by omega
  have hrz : (s.extract 0 k).size = k := by rw [ext_size _ _ _ hks]; rfl
  clear h hi htk hnl hr
  go_enter Tryz.func44, Tryz.ntmps44
  go_wp2_with fail
  refine (show Calls _ _ _ _ _ from HIB.out).mono ?_
  rintro e w1 ⟨rfl, rfl⟩
  go_upto_region 6 with fail
  go_region_law (refine step_append_at rfl (.tmp 42) (.tmp 45) rfl B HA.out.drew.lt (.slice P n c) n (bcells S.part) rfl (HNL.out ▸ HA.out.drew.po) (s.extract 0 k) rfl (by rw [hrz]; exact hrl) ?_; intro v5 w5 ho5 hg5 hat5; obtain ⟨P5, k5, hf5⟩ := own_form ho5; subst hf5; obtain ⟨hr5, hp5, hm5⟩ := HA.out.drew.app2 HNL.out ho5 hg5 hat5; have HP5 : Hid _ := hp5; have HM5 : Hid _ := hm5; clear hp5 hm5; obtain ⟨d0, d1, d2, d3, d4, d5, d6, df⟩ := hr5.cells)
  all_goals
    clear ho5 hg5 hat5 hr5
    go_wp2
    go_returns
    rw [HTK.out, hrz] at HP5
    rw [hrz] at HM5
    rw [HNL.out]
    exact ⟨rfl, _, HP5.out, (mv_bel (Below.refl _ _).drew).trans HM5.out⟩
end Go.Proofs.YtnfbaeajalnmmaaGreatDoor
namespace Go.Proofs.YtnfbaeajalnmmaaGreatDoor
open Go.RowKit Vi
set_option linter.unusedVariables false
set_option linter.unusedSimpArgs false
theorem heap_set2 (w : World) (g T : Nat) (a b v0 v1 : Value) (h : w.heap[g]? = some (.cells #[a, b] T)) :
    ((w.setCell ⟨g, 0, none⟩ v0).setCell ⟨g, 1, none⟩ v1).heap[g]? = some (.cells #[v0, v1] T) ∧ Only w ((w.setCell ⟨g, 0, none⟩ v0).setCell ⟨g, 1, none⟩ v1) g := by
  refine ⟨?_, ((Only.refl w g).set _ _).set _ _⟩
  rw [heap_setCell_same _ _ _ _ _ _ (heap_setCell_same _ _ _ _ _ _ h)]; rfl
theorem stop_fault (f : ByteArray) (hf : ¬ f.size = 0) (w : World) : Calls Tryz.prog 47 #[.string f] w fun e w' => e = .returned (.tuple #[.string ⟨#[]⟩, .agg #[.slice none 0 0, .string f], .int .i64 2]) ∧ Below w.heap.size w w' := by
  have h0 := str_full hf
  clear hf
  go_enter Tryz.func47, Tryz.ntmps47
  go_wp2
  go_returns
  exact ⟨rfl, (Below.refl _ _).alloc (Nat.le_refl _) _⟩
theorem unended_wait (q st held n c most : Nat) (P : Option Addr) (wv : Value) (more total size : Int) (f : ByteArray) (hn : n ≤ most) (w : World) (h : PrR w q st held (.slice P n c) wv more total size) :
    Calls Tryz.prog 45 #[.pointer (some ⟨q, 0, none⟩), .int .i64 (most : Int), .string f] w fun e w' => e = .returned (.tuple #[.string ⟨#[]⟩, .agg #[.slice none 0 0, .string ⟨#[]⟩], .int .i64 0]) ∧ Below w.heap.size w w' := by
  obtain ⟨c0, c1, c2, c3, c4, c5, c6, cf⟩ := h.cells
  have hq : q < w.heap.size := row_lt h
  clear h
  go_enter Tryz.func45, Tryz.ntmps45
  go_wp2_with fail
  refine (stop_wait _).mono ?_
  rintro e w1 ⟨rfl, hb1⟩
  have hrow : w1.heap[w.heap.size]? = some (.cells #[.slice none 0 0, .string ⟨#[]⟩] 47) := keep_row (one_alloc _ _) hb1
  obtain ⟨z0, z1, zf⟩ := prow2 hrow
  have HB : Hid _ := ((Below.refl _ _).alloc (Nat.le_refl _) _).trans (hb1.mono (by rw [World.size_alloc]; omega))
  clear hb1
  have HRW : Hid _ := hrow
  clear hrow
  go_wp2
  obtain ⟨W, hW⟩ : ∃ W, W = (w1.setCell ⟨w.heap.size, 0, none⟩ (.slice none 0 0)).setCell ⟨w.heap.size, 1, none⟩ (.string ⟨#[]⟩) := ⟨_, rfl⟩
  rw [← hW]
  obtain ⟨hr2, ho2⟩ := heap_set2 w1 w.heap.size 47 _ _ (.slice none 0 0) (.string ⟨#[]⟩) HRW.out
  rw [← hW] at hr2 ho2
  obtain ⟨y0, y1, yf⟩ := prow2 hr2
  have HB2 : Hid _ := HB.out.trans (ho2.below (Nat.le_refl _))
  clear hr2 ho2 hW z0 z1 zf
  refine bodyPost_ret (v := .tuple #[.string ⟨#[]⟩, .agg #[.slice none 0 0, .string ⟨#[]⟩], .int .i64 0]) (by simp [results, Tryz.results45, go_sem, y0, y1]) rfl ⟨rfl, HB2.out⟩
theorem unended_fault (q st held n c most : Nat) (P : Option Addr) (wv : Value) (more total size : Int) (f : ByteArray) (hf : ¬ f.size = 0) (hn : most < n) (w : World) (h : PrR w q st held (.slice P n c) wv more total size) :
    Calls Tryz.prog 45 #[.pointer (some ⟨q, 0, none⟩), .int .i64 (most : Int), .string f] w fun e w' => e = .returned (.tuple #[.string ⟨#[]⟩, .agg #[.slice none 0 0, .string f], .int .i64 2]) ∧ Below w.heap.size w w' := by
  obtain ⟨c0, c1, c2, c3, c4, c5, c6, cf⟩ := h.cells
  have hq : q < w.heap.size := row_lt h
  clear h
  go_enter Tryz.func45, Tryz.ntmps45
  go_wp2_with fail
  refine (stop_fault f hf _).mono ?_
  rintro e w1 ⟨rfl, hb1⟩
  have hrow : w1.heap[w.heap.size]? = some (.cells #[.slice none 0 0, .string ⟨#[]⟩] 47) := keep_row (one_alloc _ _) hb1
  obtain ⟨z0, z1, zf⟩ := prow2 hrow
  have HB : Hid _ := ((Below.refl _ _).alloc (Nat.le_refl _) _).trans (hb1.mono (by rw [World.size_alloc]; omega))
  clear hb1
  have HRW : Hid _ := hrow
  clear hrow
  go_wp2
  obtain ⟨W, hW⟩ : ∃ W, W = (w1.setCell ⟨w.heap.size, 0, none⟩ (.slice none 0 0)).setCell ⟨w.heap.size, 1, none⟩ (.string f) := ⟨_, rfl⟩
  rw [← hW]
  obtain ⟨hr2, ho2⟩ := heap_set2 w1 w.heap.size 47 _ _ (.slice none 0 0) (.string f) HRW.out
  rw [← hW] at hr2 ho2
  obtain ⟨y0, y1, yf⟩ := prow2 hr2
  have HB2 : Hid _ := HB.out.trans (ho2.below (Nat.le_refl _))
  clear hr2 ho2 hW z0 z1 zf
  refine bodyPost_ret (v := .tuple #[.string ⟨#[]⟩, .agg #[.slice none 0 0, .string f], .int .i64 2]) (by simp [results, Tryz.results45, go_sem, y0, y1]) rfl ⟨rfl, HB2.out⟩
theorem own_cut {W : World} {b n c : Nat} {P : Option Addr} {xs : List Value} (h : W.ownsRow b 5 1 (.slice P n c) n xs) : W.ownsRow b 5 1 (.slice P 0 c) 0 [] := by
  refine ⟨rfl, ?_⟩
  rcases h.2 with ⟨e, _⟩ | ⟨g, cap, cur, e, a1, hr, a2, a3, a4, _⟩
  · injection e with e1 e2 e3
    subst e1; subst e3
    exact Or.inl ⟨rfl, rfl⟩
  · injection e with e1 e2 e3
    subst e1; subst e3
    exact Or.inr ⟨g, _, cur, rfl, a1, hr, Nat.zero_le _, a3, a4, by simp⟩
/-- the line that was taken, without its end. -/
def eol (l : SP.Bs) : SP.Bs := Lib.trimSuffix l [13]
theorem eol_len (l : SP.Bs) : (eol l).length ≤ l.length := by
  unfold eol Lib.trimSuffix
  split
  · rw [List.length_take]; omega
  · exact Nat.le_refl _
theorem endedLine_any (B q : Nat) (pv wv : Value) (S : PS) (hn : S.part.length ≤ 1073741824) (w : World) (h : PA B w q pv wv S) :
    Calls Tryz.prog 66 #[.pointer (some ⟨q, 0, none⟩)] w fun e w' => e = .returned (.string (strB (eol S.part))) ∧ ∃ pv', PA B w' q pv' wv { S with part := [] } ∧ Mv w w' q pv wv pv' wv := by
  obtain ⟨P, c, hpv⟩ := own_form h.po
  subst hpv
  refine (ended_line q S.st S.held wv S.more S.total S.size B S.part P _ c rfl hn w h.row h.po).mono ?_
  rintro e w' ⟨rfl, hr, ho⟩
  exact ⟨rfl, _, ⟨hr, own_stays (own_cut h.po) (fun g hg => ho.other g (fun e => h.pq (by cases P with | none => cases hg | some a => rw [← e]; exact hg))), own_stays h.wo (fun g hg => ho.other g (fun e => h.wq (by rw [hg, e]))), h.lo⟩, mv_only ho (by cases P <;> rfl) rfl⟩
/-- the number that a line tells, and whether so many words may be. -/
def cntN (l : SP.Bs) : Int := (numberOf l).getD 0
def cntOk (l : SP.Bs) : Bool := match numberOf l with
  | some v => decide (v ≤ 1048576)
  | none => false
theorem PA.num {B : Nat} {w : World} {q : Nat} {pv wv : Value} {S : PS} (h : PA B w q pv wv S) (v : Int) : PA B (w.setCell ⟨q, 4, none⟩ (.int .i64 v)) q pv wv { S with more := v } ∧ Mv w (w.setCell ⟨q, 4, none⟩ (.int .i64 v)) q pv wv pv wv := by
  have ho : Only w (w.setCell ⟨q, 4, none⟩ (.int .i64 v)) q := (Only.refl _ _).set _ _
  refine ⟨h.cells ho ?_ rfl rfl, mv_only ho rfl rfl⟩
  have := h.row
  unfold PrR at this ⊢
  rw [heap_setCell_same _ _ _ _ _ _ this]; rfl
theorem count_any (B q : Nat) (pv wv : Value) (S : PS) (hn : S.part.length ≤ 1073741824) (he : eol S.part ≠ []) (w : World) (h : PA B w q pv wv S) (hL : ∀ W, Below B w W → Laid W) :
    Calls Tryz.prog 46 #[.pointer (some ⟨q, 0, none⟩)] w fun e w' => e = .returned (.bool (cntOk ((eol S.part).drop 1))) ∧ ∃ pv', PA B w' q pv' wv { S with part := [], more := cntN ((eol S.part).drop 1) } ∧ Mv w w' q pv wv pv' wv := by
  have HE : Hid _ := endedLine_any B q pv wv S hn w h
  have HA : Hid _ := h
  obtain ⟨t, ht⟩ : ∃ t, t = strB (eol S.part) := ⟨_, rfl⟩
  have hts : 1 ≤ t.size := by rw [ht, strB_size]; exact List.length_pos_iff.mpr he
  have htl : t.size ≤ 1073741824 := by rw [ht, strB_size]; exact Nat.le_trans (eol_len _) hn
  have HT : Hid ((t.extract 1 t.size).data.toList = (eol S.part).drop 1) := by
    show _ = _
    rw [ext_any, ht, strB_list, List.take_of_length_le]
    rw [List.length_drop, strB_size]; exact Nat.le_refl _
  have hxs : (t.extract 1 t.size).size ≤ 281474976710656 := by rw [ext_size _ _ _ (Nat.le_refl _)]; omega
  have HTT : Hid _ := ht
  clear he hn h ht
  go_enter Tryz.func46, Tryz.ntmps46
  go_wp2_with fail
  refine (show Calls _ _ _ _ _ from HE.out).mono ?_
  rintro e w1 ⟨rfl, pv1, hp1, hm1⟩
  rw [← HTT.out]
  have HP1 : Hid _ := hp1
  have HM1 : Hid _ := hm1
  have hb1 := hm1.below HA.out
  have HB1 : Hid _ := hb1
  clear hp1 hm1 hb1
  go_wp2_with fail
  refine (number_any _ hxs _ (hL _ HB1.out)).mono ?_
  rintro e w2 ⟨rfl, hb2⟩
  rw [HT.out]
  have HP2 : Hid _ := HP1.out.on hb2
  have HM2 : Hid _ := HM1.out.trans (mv_bel hb2)
  obtain ⟨d0, d1, d2, d3, d4, d5, d6, df⟩ := HP2.out.row.cells
  clear hb2
  cases hno : numberOf ((eol S.part).drop 1) with
  | none =>
    have HN : Hid _ := hno
    rw [numT_none hno]
    have HP3 : Hid _ := (HP2.out.num 0).1
    have HM3 : Hid _ := HM2.out.trans (HP2.out.num 0).2
    clear hno
    go_wp2
    go_returns
    have e1 := HN.out
    exact ⟨by unfold cntOk; rw [e1]; rfl, _, by unfold cntN; rw [e1]; exact HP3.out, HM3.out⟩
  | some v =>
    have HN : Hid _ := hno
    rw [numT_some hno]
    have HP3 : Hid _ := (HP2.out.num v).1
    have HM3 : Hid _ := HM2.out.trans (HP2.out.num v).2
    clear hno
    go_wp2
    go_returns
    have e1 := HN.out
    exact ⟨by unfold cntOk; rw [e1]; rfl, _, by unfold cntN; rw [e1]; exact HP3.out, HM3.out⟩
end Go.Proofs.YtnfbaeajalnmmaaGreatDoor
namespace Go.Proofs.YtnfbaeajalnmmaaGreatDoor
open Go.RowKit Vi
set_option linter.unusedVariables false
set_option linter.unusedSimpArgs false
/-- how many bytes a word may have, as its line tells. -/
def lenV (l : SP.Bs) : Option Int := match numberOf l with
  | some v => if 0 ≤ v ∧ v ≤ 524288 then some v else none
  | none => none
theorem PA.put6 {B : Nat} {w : World} {q : Nat} {pv wv : Value} {S : PS} (h : PA B w q pv wv S) (v t : Int) : PA B ((w.setCell ⟨q, 6, none⟩ (.int .i64 v)).setCell ⟨q, 5, none⟩ (.int .i64 t)) q pv wv { S with size := v, total := t } ∧ Mv w ((w.setCell ⟨q, 6, none⟩ (.int .i64 v)).setCell ⟨q, 5, none⟩ (.int .i64 t)) q pv wv pv wv := by
  have ho : Only w ((w.setCell ⟨q, 6, none⟩ (.int .i64 v)).setCell ⟨q, 5, none⟩ (.int .i64 t)) q := ((Only.refl _ _).set _ _).set _ _
  refine ⟨h.cells ho ?_ rfl rfl, mv_only ho rfl rfl⟩
  have := h.row
  unfold PrR at this ⊢
  rw [heap_setCell_same _ _ _ _ _ _ (heap_setCell_same _ _ _ _ _ _ this)]; rfl
/-- what length does. -/
def LenIs (o : Option Int) (B : Nat) (w' : World) (q : Nat) (pv' wv : Value) (S : PS) (e : Ending) : Prop := match o with
  | none => e = .returned (.bool false) ∧ PA B w' q pv' wv { S with part := [] }
  | some v => e = .returned (.bool (decide (S.total + v ≤ 33554432))) ∧ PA B w' q pv' wv { S with part := [], size := v, total := S.total + v }
theorem length_any (B q : Nat) (pv wv : Value) (S : PS) (hn : S.part.length ≤ 1073741824) (he : eol S.part ≠ []) (htot : 0 ≤ S.total ∧ S.total ≤ 33554432) (w : World) (h : PA B w q pv wv S) (hL : ∀ W, Below B w W → Laid W) :
    Calls Tryz.prog 48 #[.pointer (some ⟨q, 0, none⟩)] w fun e w' => ∃ pv', Mv w w' q pv wv pv' wv ∧
      LenIs (lenV ((eol S.part).drop 1)) B w' q pv' wv S e := by
  have HE : Hid _ := endedLine_any B q pv wv S hn w h
  have HA : Hid _ := h
  obtain ⟨t, ht⟩ : ∃ t, t = strB (eol S.part) := ⟨_, rfl⟩
  have hts : 1 ≤ t.size := by rw [ht, strB_size]; exact List.length_pos_iff.mpr he
  have htl : t.size ≤ 1073741824 := by rw [ht, strB_size]; exact Nat.le_trans (eol_len _) hn
  have HT : Hid ((t.extract 1 t.size).data.toList = (eol S.part).drop 1) := by
    show _ = _
    rw [ext_any, ht, strB_list, List.take_of_length_le]
    rw [List.length_drop, strB_size]; exact Nat.le_refl _
  have hxs : (t.extract 1 t.size).size ≤ 281474976710656 := by rw [ext_size _ _ _ (Nat.le_refl _)]; omega
  have HTT : Hid _ := ht
  obtain ⟨htt0, htt1⟩ := htot
  clear he hn h ht
  go_enter Tryz.func48, Tryz.ntmps48
  go_wp2_with fail
  refine (show Calls _ _ _ _ _ from HE.out).mono ?_
  rintro e w1 ⟨rfl, pv1, hp1, hm1⟩
  rw [← HTT.out]
  have HP1 : Hid _ := hp1
  have HM1 : Hid _ := hm1
  have hb1 := hm1.below HA.out
  have HB1 : Hid _ := hb1
  clear hp1 hm1 hb1
  go_wp2_with fail
  refine (number_any _ hxs _ (hL _ HB1.out)).mono ?_
  rintro e w2 ⟨rfl, hb2⟩
  rw [HT.out]
  have HP2 : Hid _ := HP1.out.on hb2
  have HM2 : Hid _ := HM1.out.trans (mv_bel hb2)
  obtain ⟨d0, d1, d2, d3, d4, d5, d6, df⟩ := HP2.out.row.cells
  clear hb2
  cases hno : numberOf ((eol S.part).drop 1) with
  | none =>
    have HN : Hid (lenV ((eol S.part).drop 1) = none) := by show _ = _; unfold lenV; rw [hno]
    rw [numT_none hno]
    clear hno
    go_wp2
    go_returns
    rw [HN.out]
    exact ⟨_, HM2.out, rfl, HP2.out⟩
  | some v =>
    rw [numT_some hno]
    by_cases hv : 0 ≤ v ∧ v ≤ 524288
    · have HN : Hid (lenV ((eol S.part).drop 1) = some v) := by show _ = _; unfold lenV; rw [hno]; exact if_pos hv
      have HP3 : Hid _ := HP2.out.put6 v (S.total + v)
      clear hno
      obtain ⟨hv0, hv1⟩ := hv
      have g1 : ¬ (v < 0) := by omega
      have g2 : ¬ (524288 < v) := by omega
      go_wp2
      go_returns
      rw [HN.out]
      exact ⟨_, HM2.out.trans HP3.out.2, rfl, HP3.out.1⟩
    · have HN : Hid (lenV ((eol S.part).drop 1) = none) := by show _ = _; unfold lenV; rw [hno]; exact if_neg hv
      clear hno
      rcases Int.lt_or_le v 0 with hv0 | hv0
      · have g1 : decide (v < 0) = true := by simpa using hv0
        go_wp2
        go_returns
        rw [HN.out]
        exact ⟨_, HM2.out, rfl, HP2.out⟩
      · have g1 : decide (v < 0) = false := by simpa using hv0
        have g2 : decide (524288 < v) = true := by simp; omega
        go_wp2
        go_returns
        rw [HN.out]
        exact ⟨_, HM2.out, rfl, HP2.out⟩
end Go.Proofs.YtnfbaeajalnmmaaGreatDoor
namespace Go.Proofs.YtnfbaeajalnmmaaGreatDoor
open Go.RowKit Vi
set_option linter.unusedVariables false
set_option linter.unusedSimpArgs false
/-- a text behind bytes: the operation, for the walk. -/
theorem wpList_append_at {w : World} {ops : Array Oper} {rest : List Oper} {o : Oper} {a : Act} {Q : Exit → Act → World → Prop} (hgd : o.guard = none) (s x : Operand)
    (hop : o.op = Op.call { callee := Callee.builtin Builtin.append, args := #[s, x], argTypes := #[50, 9] })
    (b : Nat) (hb : b ≤ w.heap.size) (v : Value) (n : Nat) (xs : List Value) (hs : a.eval s = v) (hown : w.ownsRow b 5 1 v n xs) (t : ByteArray) (hx : a.eval x = .string t) (hl : n + t.size ≤ 1099511627776)
    (h : ∀ v' w', w'.ownsRow b 5 1 v' (n + t.size) (xs ++ Lib.strCells t) → w.grownBy w' v.ownBlock → (v'.ownBlock = v.ownBlock ∨ v'.ownBlock = some w.heap.size) → wpList Tryz.prog ops Q rest (a.put o.dst v') w') : wpList Tryz.prog ops Q (o :: rest) a w := by
  refine wpList_plain hgd fun K hK => ?_
  obtain ⟨v', w', hr, h2, h3, h4⟩ := append_at w b o.type v n xs hown t hl hb
  unfold Oper.wp execOp
  simp only [hop, resolve, invoke, builtin, Sem.run_bind, Sem.run_pure, Result.andThen_ok, List.map_toArray, List.map_cons, List.map_nil, hs, hx, hr]
  exact hK _ _ (h v' w' h2 h3 h4)
theorem PA.dn {B : Nat} {W : World} {q : Nat} {pv wv : Value} {S : PS} (h : PA B W q pv wv S) (k : Nat) : PA B (W.drewN k) q pv wv S := h.on (below_dn (Below.refl _ _) k)
set_option maxRecDepth 20000 in
set_option maxHeartbeats 2000000 in
/-- toSize where the word has not all come. -/
theorem toSize_wait (B q sz : Nat) (pv wv : Value) (S : PS) (s : ByteArray) (hz : S.size = (sz : Int)) (hzl : sz ≤ 524288) (hs : s.size ≤ 1073741824) (hm : s.size + S.part.length < sz + 2) (w : World) (h : PA B w q pv wv S) :
    Calls Tryz.prog 49 #[.pointer (some ⟨q, 0, none⟩), .string s] w fun e w' => e = .returned (.tuple #[.string ⟨#[]⟩, .bool false]) ∧ ∃ pv', PA B w' q pv' wv { S with part := S.part ++ s.data.toList } ∧ Mv w w' q pv wv pv' wv := by
  obtain ⟨P, c, hpv⟩ := own_form h.po
  subst hpv
  obtain ⟨c0, c1, c2, c3, c4, c5, c6, cf⟩ := h.row.cells
  obtain ⟨n, hnl⟩ : ∃ n, S.part.length = n := ⟨_, rfl⟩
  rw [hnl] at hm c2 h
  rw [hz] at c6
  have HA : Hid _ := h
  have HNL : Hid _ := hnl
  have HZ : Hid _ := hz
  have hw1 : IntKind.i64.wrap ((sz : Int) + 2) = (sz : Int) + 2 := by rw [IntKind.wrap_i64] <;> omega
  have hmi : (sz : Int) + 2 - (n : Int) = ((sz + 2 - n : Nat) : Int) := by omega
  obtain ⟨m, hmm⟩ : ∃ m : Nat, m = sz + 2 - n := ⟨_, rfl⟩
  rw [← hmm] at hmi
  have hsm : s.size < m := by omega
  have HMM : Hid _ := hmm
  clear h hnl hz hmm
  go_enter Tryz.func49, Tryz.ntmps49
  go_upto_region 1 with fail
  go_quiet (fail)
  obtain ⟨b0, b1, b2, b3, b4, b5, b6, bf⟩ := (HA.out.dn nq).row.cells
  clear c0 c1 c2 c3 c4 c5 c6 cf hw1 hmi
  go_upto_region 3 with fail
  go_wp2_with (at_builtin; go_must (refine wpList_append_at rfl _ _ rfl B (HA.out.dn nq).lt (.slice P n c) n (bcells S.part) rfl (HNL.out ▸ (HA.out.dn nq).po) s rfl ?ta1 ?_))
  case ta1 => omega
  intro v5 w5 ho5 hg5 hat5
  obtain ⟨P5, k5, hf5⟩ := own_form ho5
  subst hf5
  obtain ⟨hr5, hp5, hm5⟩ := (HA.out.dn nq).app2 HNL.out ho5 hg5 hat5
  have HP5 : Hid _ := hp5
  have HM5 : Hid _ := (mv_bel (below_dn (Below.refl _ _) nq)).trans hm5
  obtain ⟨d0, d1, d2, d3, d4, d5, d6, df⟩ := hr5.cells
  clear hp5 hm5 ho5 hg5 hat5 hr5
  go_wp2
  go_returns
  rw [HNL.out]
  exact ⟨rfl, _, HP5.out, HM5.out⟩
end Go.Proofs.YtnfbaeajalnmmaaGreatDoor
namespace Go.Proofs.YtnfbaeajalnmmaaGreatDoor
open Go.RowKit Vi
set_option linter.unusedVariables false
set_option linter.unusedSimpArgs false
/-- a word behind words, in a region that draws, and where the row lies then. -/
theorem step_append_w {w : World} {ops : Array Oper} {o : Oper} {a : Act} {K : Act → World → Prop} {Q : Exit → Act → World → Prop} {E : Prop} (hg : o.guard = none) (s x : Operand)
    (hop : o.op = Op.call { callee := Callee.builtin Builtin.append, args := #[s, x], argTypes := #[45, 45] })
    (b : Nat) (hb : b ≤ w.heap.size) (v : Value) (n : Nat) (xs : List Value) (hs : a.eval s = v) (hown : w.ownsRow b 9 1 v n xs) (nb : Nat) (u : ByteArray) (hx : a.eval x = .slice (some ⟨nb, 0, none⟩) 1 1) (hu : w.cell? ⟨nb, 0, none⟩ = some (.string u)) (hl : n ≤ 1099511627776)
    (h : ∀ v' w', w'.ownsRow b 9 1 v' (n + 1) (xs ++ [.string u]) → w.grownBy w' v.ownBlock → (v'.ownBlock = v.ownBlock ∨ v'.ownBlock = some w.heap.size) → K (a.put o.dst v') w') :
    if Region.wanted o (yielded ops a.tmps) = true then Oper.wp Tryz.prog o a w K Q else E := by
  have hw : Region.wanted o (yielded ops a.tmps) = true := by simp [Region.wanted, hg]
  rw [if_pos hw]
  obtain ⟨i9, hi9, hy9, hy10, hy11⟩ := info_parts info9
  obtain ⟨v', w', hrun, h2, h3, h4, h5⟩ := run_append_own_at (P := Tryz.prog) w b 45 o.type 9 i9 (.string ⟨#[]⟩) 1 16 Tryz.underlying45 hi9 hy9 hy10 hy11 rfl (by decide) v n xs hown ⟨nb, 0, none⟩ 1 1 [.string u] rfl
    (by intro j e he
        match j, he with
        | 0, he => simp at he; subst he; exact hu)
    (by intro e he; simp at he; subst he; rfl) (by unfold maxLen; omega) (by omega) hb
  unfold Oper.wp
  simp [execOp, hop, resolve, invoke, builtin, hs, hx, hrun, Result.andThen]
  exact h v' w' h2 h3 h5
/-- the words grow. -/
theorem PA.word {B : Nat} {W W' : World} {q n : Nat} {pv wv wv' : Value} {S : PS} {u : SP.Bs} (h : PA B W q pv wv S) (hn : S.words.length = n) (ho : W'.ownsRow B 9 1 wv' (n + 1) (strS S.words ++ [.string (strB u)])) (hg : W.grownBy W' wv.ownBlock) (hat : wv'.ownBlock = wv.ownBlock ∨ wv'.ownBlock = some W.heap.size) :
    PrR W' q S.st S.held pv wv S.more S.total S.size ∧ PA B (W'.setCell ⟨q, 3, none⟩ wv') q pv wv' { S with words := S.words ++ [u] } ∧ Mv W (W'.setCell ⟨q, 3, none⟩ wv') q pv wv pv wv' := by
  subst hn
  have hq : q < W.heap.size := row_lt h.row
  have hr : PrR W' q S.st S.held pv wv S.more S.total S.size := (hg.block q hq (fun e => h.wq e.symm)).trans h.row
  have hpq : ∀ g, wv'.ownBlock = some g → g ≠ q := fun g hg e => by
    rcases hat with e2 | e2
    · exact h.wq (by rw [← e2, hg, e])
    · rw [e2] at hg; injection hg with hg; omega
  have hwk : ∀ g, pv.ownBlock = some g → (W'.setCell ⟨q, 3, none⟩ wv').heap[g]? = W.heap[g]? := fun g hgw => by
    obtain ⟨cur, hc⟩ := own_ty h.po g hgw
    rw [heap_setCell_other _ _ _ _ (fun e => h.pq (by rw [hgw]; exact congrArg some e))]
    exact hg.block g (row_lt hc) (fun e => h.pw g hgw e.symm)
  refine ⟨hr, ⟨?_, own_stays h.po hwk, ?_, h.lo⟩, ⟨hg.os, hg.tape, hg.output, by rw [World.size_setCell]; exact hg.size, fun k hk hkq hp hv => (heap_setCell_other _ _ _ _ hkq).trans (hg.block k hk (fun e => hv e.symm)), fun k e => Or.inl e, ?_⟩⟩
  · unfold PrR at hr ⊢
    rw [heap_setCell_same _ _ _ _ _ _ hr]; rfl
  · show World.ownsRow _ _ _ _ _ (S.words ++ [u]).length (strS (S.words ++ [u]))
    rw [strS_snoc, List.length_append]
    exact own_stays ho (fun g hg2 => heap_setCell_other _ _ _ _ (hpq g hg2))
  · intro k e
    rcases hat with e2 | e2
    · exact Or.inl (by rw [← e2]; exact e)
    · rw [e2] at e; injection e with e; right; omega
/-- room for the next word, and one word fewer to come. -/
theorem PA.fin {B : Nat} {W : World} {q n c : Nat} {P : Option Addr} {wv : Value} {S : PS} (h : PA B W q (.slice P n c) wv S) (hn : S.part.length = n) (m : Int) :
    PA B ((W.setCell ⟨q, 2, none⟩ (.slice P 0 c)).setCell ⟨q, 4, none⟩ (.int .i64 m)) q (.slice P 0 c) wv { S with part := [], more := m } ∧ Mv W ((W.setCell ⟨q, 2, none⟩ (.slice P 0 c)).setCell ⟨q, 4, none⟩ (.int .i64 m)) q (.slice P n c) wv (.slice P 0 c) wv := by
  subst hn
  have ho : Only W ((W.setCell ⟨q, 2, none⟩ (.slice P 0 c)).setCell ⟨q, 4, none⟩ (.int .i64 m)) q := ((Only.refl _ _).set _ _).set _ _
  refine ⟨⟨?_, own_stays (own_cut h.po) (fun g hg => ho.other g (fun e => h.pq (by cases P with | none => cases hg | some a => rw [← e]; exact hg))), own_stays h.wo (fun g hg => ho.other g (fun e => h.wq (by rw [hg, e]))), h.lo⟩, mv_only ho (by cases P <;> rfl) rfl⟩
  have := h.row
  unfold PrR at this ⊢
  rw [heap_setCell_same _ _ _ _ _ _ (heap_setCell_same _ _ _ _ _ _ this)]; rfl
/-- a row's first bytes as a text. -/
theorem own_pre {W : World} {b n c k : Nat} {P : Option Addr} {l : SP.Bs} (h : W.ownsRow b 5 1 (.slice P n c) n (bcells l)) (hk : k ≤ n) : W.ownsRow b 5 1 (.slice P k c) k (bcells (l.take k)) := by
  have hl : l.length = n := by have := h.1; unfold bcells at this; simpa using this
  refine ⟨by unfold bcells; simp; omega, ?_⟩
  rcases h.2 with ⟨e, e0⟩ | ⟨g, cap, cur, e, a1, hr, a2, a3, a4, a5⟩
  · injection e with e1 e2 e3
    subst e1; subst e3
    have : k = 0 := by omega
    subst this
    exact Or.inl ⟨rfl, rfl⟩
  · injection e with e1 e2 e3
    subst e1; subst e3
    refine Or.inr ⟨g, _, cur, rfl, a1, hr, by omega, a3, a4, ?_⟩
    have e5 : (bcells l).take k = bcells (l.take k) := by unfold bcells; rw [List.map_take]
    rw [← e5, ← a5, List.take_take]
    congr 1; omega
theorem conv_pre {W : World} {b n c k : Nat} {P : Option Addr} {l : SP.Bs} (h : W.ownsRow b 5 1 (.slice P n c) n (bcells l)) (hk : k ≤ n) : Sem.run Tryz.prog (convert 50 9 (.slice P k c)) W = .ok (.string (strB (l.take k))) W := by
  have hl : l.length = n := by have := h.1; unfold bcells at this; simpa using this
  have e : (l.take k).length = k := by rw [List.length_take]; omega
  obtain ⟨p, c2, e2, h2⟩ := own_text (v := .slice P k c) (l := l.take k) (by rw [e]; exact own_pre h hk)
  have q1 : p = P := (Value.slice.inj e2).1.symm
  have q3 : c2 = c := (Value.slice.inj e2).2.2.symm
  subst q1; subst q3
  rw [e] at h2
  exact h2
end Go.Proofs.YtnfbaeajalnmmaaGreatDoor
