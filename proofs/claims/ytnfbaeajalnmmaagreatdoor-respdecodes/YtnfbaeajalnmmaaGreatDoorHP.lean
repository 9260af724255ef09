import Derived.Test.YtnfbaeajalnmmaaGreatDoorRNm
import Derived.Test.YtnfbaeajalnmmaaGreatDoorHO
namespace Go.Proofs.YtnfbaeajalnmmaaGreatDoor
open Go.RowKit Vi
set_option linter.unusedVariables false
set_option linter.unusedSimpArgs false
theorem wr_id (x : Int) (h0 : 0 ≤ x) (h1 : x ≤ 4611686018427387904) : wrap64 x = x := by unfold wrap64; omega
set_option maxHeartbeats 2000000 in
theorem rbegins_any (t : ByteArray) (hs : t.size ≤ 281474976710656) (w : World) :
    Calls Tryz.prog 54 #[.string t] w fun e w' => e = .returned (.bool (decide (t.data.toList = [] ∨ t.data.toList = [45] ∨ (numberOf t.data.toList).isSome = true))) ∧ Below w.heap.size w w' := by
  have HN : Hid (∀ W, Calls Tryz.prog 34 #[.string t] W fun e w' => e = .returned (numT t.data.toList) ∧ Below W.heap.size W w') := fun W => refNumber_any t (by unfold maxLen; omega) W
  by_cases h0 : t.size = 0
  · have te := str_empty h0
    have HE : Hid (decide (t.data.toList = [] ∨ t.data.toList = [45] ∨ (numberOf t.data.toList).isSome = true) = true) := dec_t (Or.inl (by rw [empty_str t h0]))
    rw [HE.out]
    go_enter Tryz.func54, Tryz.ntmps54
    go_wp2
    go_returns
    exact ⟨rfl, Below.refl _ _⟩
  have te := str_full h0
  by_cases h2 : t.data.toList = [45]
  · have t2 : (t.toList == [45]) = true := by rw [ByteArray.toList_eq, h2]; rfl
    have HE : Hid (decide (t.data.toList = [] ∨ t.data.toList = [45] ∨ (numberOf t.data.toList).isSome = true) = true) := dec_t (Or.inr (Or.inl h2))
    rw [HE.out]
    clear h2
    go_enter Tryz.func54, Tryz.ntmps54
    go_wp2
    go_returns
    exact ⟨rfl, Below.refl _ _⟩
  have t2 : (t.toList == [45]) = false := by rw [ByteArray.toList_eq]; simpa using h2
  have h3 : t.data.toList ≠ [] := fun e => by rw [ByteArray.toList_eq, e] at te; cases te
  generalize t.data.toList = tl at *
  cases hn : numberOf tl with
  | none =>
    rw [numT_none hn] at HN
    have HE : Hid (decide (tl = [] ∨ tl = [45] ∨ (none : Option Int).isSome = true) = false) := dec_f (by rintro (h | h | h); exact h3 h; exact h2 h; cases h)
    rw [HE.out]
    clear h0 h2 h3 hn
    go_enter Tryz.func54, Tryz.ntmps54
    go_wp2_with fail
    refine (HN.out _).mono ?_
    rintro e w1 ⟨rfl, hb1⟩
    have HB1 : Hid _ := hb1
    clear hb1
    go_wp2
    go_returns
    exact ⟨rfl, HB1.out⟩
  | some n =>
    rw [numT_some hn] at HN
    have HE : Hid (decide (tl = [] ∨ tl = [45] ∨ (some n).isSome = true) = true) := dec_t (Or.inr (Or.inr rfl))
    rw [HE.out]
    clear h0 h2 h3 hn
    go_enter Tryz.func54, Tryz.ntmps54
    go_wp2_with fail
    refine (HN.out _).mono ?_
    rintro e w1 ⟨rfl, hb1⟩
    have HB1 : Hid _ := hb1
    clear hb1
    go_wp2
    go_returns
    exact ⟨rfl, HB1.out⟩
set_option maxHeartbeats 2000000 in
theorem rkind_any (c : UInt8) (w : World) : Calls Tryz.prog 36 #[.int .u8 (c.toNat : Int)] w fun e w' => e = .returned (.int .i64 (kindK c)) ∧ w' = w := by
  by_cases h42 : c = 42
  · subst h42
    go_enter Tryz.func36, Tryz.ntmps36
    go_wp2
    go_returns
    exact ⟨rfl, rfl⟩
  by_cases h37 : c = 37
  · subst h37
    go_enter Tryz.func36, Tryz.ntmps36
    go_wp2
    go_returns
    exact ⟨rfl, rfl⟩
  by_cases h126 : c = 126
  · subst h126
    go_enter Tryz.func36, Tryz.ntmps36
    go_wp2
    go_returns
    exact ⟨rfl, rfl⟩
  by_cases h62 : c = 62
  · subst h62
    go_enter Tryz.func36, Tryz.ntmps36
    go_wp2
    go_returns
    exact ⟨rfl, rfl⟩
  have g42 : ((c.toNat : Int) == 42) = false := mark_no h42 rfl
  have g37 : ((c.toNat : Int) == 37) = false := mark_no h37 rfl
  have g126 : ((c.toNat : Int) == 126) = false := mark_no h126 rfl
  have g62 : ((c.toNat : Int) == 62) = false := mark_no h62 rfl
  have HE : Hid (kindK c = 0) := by show _ = _; unfold kindK; rw [if_neg h42, if_neg h37, if_neg h126, if_neg h62]
  rw [HE.out]
  go_enter Tryz.func36, Tryz.ntmps36
  go_wp2
  go_returns
  exact ⟨rfl, rfl⟩
/-- what the document's calls that read a reply without a list answer. -/
def LdIs (h : HdR) (w w' : World) (e : Ending) : Prop :=
  ∃ k0 t0 n0 z0, e = .returned (.tuple #[.agg #[.int .i64 k0, .string t0, .int .i64 n0, .slice none 0 0], .int .i64 z0, .int .i64 (h.e : Int)]) ∧ Below w.heap.size w w' ∧ (h.e = 0 → k0 = h.kind ∧ t0 = strB h.text ∧ n0 = h.n ∧ z0 = (h.size : Int)) ∧ (h.e ≠ 0 → k0 = 0 ∧ t0 = ⟨#[]⟩ ∧ n0 = 0 ∧ z0 = 0)
theorem ld_err {h : HdR} {w w' : World} (x : Nat) (he : h.e = x) (hx : x ≠ 0) (hd : Below w.heap.size w w') : LdIs h w w' (.returned (.tuple #[.agg #[.int .i64 0, .string ⟨#[]⟩, .int .i64 0, .slice none 0 0], .int .i64 0, .int .i64 (x : Int)])) :=
  ⟨0, ⟨#[]⟩, 0, 0, by rw [he], hd, fun e => absurd (he ▸ e) hx, fun _ => ⟨rfl, rfl, rfl, rfl⟩⟩
set_option maxHeartbeats 4000000 in
set_option maxRecDepth 20000 in
theorem rbulk_any (s : ByteArray) (n z : Nat) (hs : s.size ≤ 281474976710656) (hn : n ≤ 524288) (hz : z ≤ 281474976710656) (w : World) :
    Calls Tryz.prog 35 #[.string s, .int .i64 (n : Int), .int .i64 ((z + 1 : Nat) : Int)] w fun e w' => LdIs (bulkT s.data.toList n z) w w' e := by
  obtain ⟨rb, hrb⟩ : ∃ rb, w.heap.size = rb := ⟨_, rfl⟩
  obtain ⟨W0, hW0⟩ : ∃ W, W = w.alloc (.cells #[.int .i64 0, .string ⟨#[]⟩, .int .i64 0, .slice none 0 0] 24) := ⟨_, rfl⟩
  have hb0 : Below w.heap.size w W0 := by rw [hW0]; exact (Below.refl _ _).alloc (Nat.le_refl _) _
  have hr0 : W0.heap[rb]? = some (.cells #[.int .i64 0, .string ⟨#[]⟩, .int .i64 0, .slice none 0 0] 24) := by rw [hW0, ← hrb]; exact one_alloc _ _
  have HB0 : Hid (Below w.heap.size w W0) := hb0
  have HR0 : Hid _ := hr0
  have HRW : Hid (w.heap.size ≤ rb) := Nat.le_of_eq hrb
  obtain ⟨z0, z1, z2, z3, zf⟩ := prow4 HR0.out
  obtain ⟨y, hy⟩ : ∃ y, y = z + 1 := ⟨_, rfl⟩
  rw [← hy]
  have HY : Hid (y = z + 1) := hy
  clear hb0 hr0
  by_cases hsh : s.size < n
  · obtain ⟨T, hT⟩ : ∃ T, s.extract s.size s.size = T := ⟨_, rfl⟩
    have hTs : T.size = 0 := by rw [← hT, ext_size _ _ _ (Nat.le_refl _)]; omega
    have hmin : min (n : Int) (s.size : Int) = (s.size : Int) := by omega
    have hl0 : decide ((0 : Int) < (T.size : Int)) = false := dec_f (by omega)
    have hl1 : decide ((1 : Int) < (T.size : Int)) = false := dec_f (by omega)
    have hl2 : decide ((T.size : Int) < 2) = true := dec_t (by omega)
    have HH : Hid ((bulkT s.data.toList n z).e = 20) := by show _ = _; unfold bulkT; rw [if_pos (by rw [list_len]; exact hsh)]
    clear hy
    go_enter Tryz.func35, Tryz.ntmps35
    go_upto_region 1 with fail
    rw [← hW0]
    clear hW0 hrb
    go_wp2
    exact rp3_fin _ 6 7 8 Tryz.results35 HR0.out _ _ _ _ _ _ _ (fun w' ho => ld_err 20 HH.out (by decide) (HB0.out.trans (ho.below HRW.out))) _ rfl rfl rfl rfl
  have hns : n ≤ s.size := by omega
  obtain ⟨T, hT⟩ : ∃ T, s.extract n s.size = T := ⟨_, rfl⟩
  have hTl : T.data.toList = s.data.toList.drop n := by rw [← hT]; exact rest_list s n hns
  have hTs : T.size = s.size - n := by rw [← hT, ext_size _ _ _ (Nat.le_refl _)]
  have hmin : min (n : Int) (s.size : Int) = (n : Int) := by omega
  have hn0 : (0 : Int) ≤ (n : Int) := by omega
  have hn1 : (n : Int) ≤ (s.size : Int) := by omega
  have HBT : Hid (bulkT s.data.toList n z = if endE T.data.toList = 0 then { e := 0, kind := 4, text := s.data.toList.take n, size := z + 1 + n + 2 } else { e := endE T.data.toList }) := by
    show _ = _
    unfold bulkT
    rw [if_neg (by rw [list_len]; omega), hTl]
  rw [HBT.out]
  by_cases hc0 : T.size = 0
  · have hl0 : decide ((0 : Int) < (T.size : Int)) = false := dec_f (by omega)
    have hl1 : decide ((1 : Int) < (T.size : Int)) = false := dec_f (by omega)
    have hl2 : decide ((T.size : Int) < 2) = true := dec_t (by omega)
    have HH : Hid (endE T.data.toList = 20) := by rw [empty_str T hc0]; rfl
    rw [HH.out, if_neg (by decide)]
    clear hy hTl HBT
    go_enter Tryz.func35, Tryz.ntmps35
    go_upto_region 1 with fail
    rw [← hW0]
    clear hW0 hrb
    go_wp2
    exact rp3_fin _ 6 7 8 Tryz.results35 HR0.out _ _ _ _ _ _ _ (fun w' ho => ld_err 20 rfl (by decide) (HB0.out.trans (ho.below HRW.out))) _ rfl rfl rfl rfl
  have hl0 : decide ((0 : Int) < (T.size : Int)) = true := dec_t (by omega)
  have hp0 : 0 < T.size := by omega
  obtain ⟨c, hc⟩ : ∃ c, T[0] = c := ⟨_, rfl⟩
  have hcT : T.data.toList = c :: T.data.toList.drop 1 := by
    have := drop_at T 0 hp0
    rw [List.drop_zero, hc] at this
    exact this
  have hcn : (T[0].toNat : Int) = (c.toNat : Int) := by rw [hc]
  have hz00 : (0 : Int) < (T.size : Int) := by omega
  by_cases h13 : c = 13
  · subst h13
    have hq1 : (((13 : UInt8).toNat : Int) != 13) = false := rfl
    by_cases hc1 : T.size = 1
    · have hl1 : decide ((1 : Int) < (T.size : Int)) = false := dec_f (by omega)
      have hl2 : decide ((T.size : Int) < 2) = true := dec_t (by omega)
      have HH : Hid (endE T.data.toList = 20) := by
        show _ = _
        rw [hcT, List.drop_eq_nil_of_le (by rw [list_len]; omega)]; rfl
      rw [HH.out, if_neg (by decide)]
      clear hy hTl HBT hcT hc
      go_enter Tryz.func35, Tryz.ntmps35
      go_upto_region 1 with fail
      rw [← hW0]
      clear hW0 hrb
      go_wp2
      exact rp3_fin _ 6 7 8 Tryz.results35 HR0.out _ _ _ _ _ _ _ (fun w' ho => ld_err 20 rfl (by decide) (HB0.out.trans (ho.below HRW.out))) _ rfl rfl rfl rfl
    have hl1 : decide ((1 : Int) < (T.size : Int)) = true := dec_t (by omega)
    have hl2 : decide ((T.size : Int) < 2) = false := dec_f (by omega)
    have hp1 : 1 < T.size := by omega
    obtain ⟨d, hd⟩ : ∃ d, T[1] = d := ⟨_, rfl⟩
    have hdT : T.data.toList = 13 :: d :: T.data.toList.drop 2 := by
      have := drop_at T 1 hp1
      rw [hd] at this
      rw [this] at hcT
      exact hcT
    have hdn : (T[1].toNat : Int) = (d.toNat : Int) := by rw [hd]
    have hz11 : (1 : Int) < (T.size : Int) := by omega
    by_cases h10 : d = 10
    · subst h10
      have hq2 : (((10 : UInt8).toNat : Int) != 10) = false := rfl
      have HH : Hid (endE T.data.toList = 0) := by show _ = _; rw [hdT]; rfl
      rw [HH.out, if_pos rfl]
      obtain ⟨U, hU⟩ : ∃ U, s.extract 0 n = U := ⟨_, rfl⟩
      have HU : Hid (U = strB (s.data.toList.take n)) := by
        show _ = _
        have e : U.data.toList = s.data.toList.take n := by rw [← hU, ext_any, List.drop_zero, Nat.sub_zero]
        rw [← e]; rfl
      have HW3 : Hid (wrap64 (wrap64 ((y : Int) + (n : Int)) + 2) = (y : Int) + (n : Int) + 2) := by show _ = _; rw [wr_id ((y : Int) + (n : Int)) (by omega) (by omega), wr_id _ (by omega) (by omega)]
      clear hy hTl HBT hcT hdT hc hd
      go_enter Tryz.func35, Tryz.ntmps35
      go_upto_region 1 with fail
      rw [← hW0]
      clear hW0 hrb
      go_wp2
      refine rp3_fin _ 6 7 8 Tryz.results35 HR0.out _ _ _ _ _ _ _ (fun w' ho => ?_) _ rfl rfl rfl rfl
      refine ⟨_, _, _, _, rfl, HB0.out.trans (ho.below HRW.out), fun _ => ⟨rfl, HU.out, rfl, ?_⟩, fun h => absurd rfl h⟩
      have h1 := HY.out
      have h2 := HW3.out
      show wrap64 (wrap64 ((y : Int) + (n : Int)) + 2) = ((z + 1 + n + 2 : Nat) : Int)
      rw [h2]; omega
    · have hq2 : ((d.toNat : Int) != 10) = true := by
        have := mark_no h10 (n := 10) rfl
        simp only [bne, this, Bool.not_false]
      have HH : Hid (endE T.data.toList = 120) := by show _ = _; rw [hdT]; simp [endE, h10]
      rw [HH.out, if_neg (by decide)]
      clear hy hTl HBT hcT hdT hc hd
      go_enter Tryz.func35, Tryz.ntmps35
      go_upto_region 1 with fail
      rw [← hW0]
      clear hW0 hrb
      go_wp2
      exact rp3_fin _ 6 7 8 Tryz.results35 HR0.out _ _ _ _ _ _ _ (fun w' ho => ld_err 120 rfl (by decide) (HB0.out.trans (ho.below HRW.out))) _ rfl rfl rfl rfl
  · have hq1 : ((c.toNat : Int) != 13) = true := by
      have := mark_no h13 (n := 13) rfl
      simp only [bne, this, Bool.not_false]
    have HH : Hid (endE T.data.toList = 120) := by
      show _ = _
      rw [hcT]
      cases T.data.toList.drop 1 with
      | nil => simp [endE, h13]
      | cons a b => simp [endE, h13]
    rw [HH.out, if_neg (by decide)]
    clear hy hTl HBT hcT hc
    go_enter Tryz.func35, Tryz.ntmps35
    go_upto_region 1 with fail
    rw [← hW0]
    clear hW0 hrb
    go_wp2
    exact rp3_fin _ 6 7 8 Tryz.results35 HR0.out _ _ _ _ _ _ _ (fun w' ho => ld_err 120 rfl (by decide) (HB0.out.trans (ho.below HRW.out))) _ rfl rfl rfl rfl
end Go.Proofs.YtnfbaeajalnmmaaGreatDoor
namespace Go.Proofs.YtnfbaeajalnmmaaGreatDoor
open Go.RowKit Vi
set_option linter.unusedVariables false
set_option linter.unusedSimpArgs false
/-- what the document's calls that read a reply answer. -/
theorem de_ld0 {h : HdR} {w w' : World} {e : Ending} (hl : LdIs h w w' e) : DeIs 0 (if h.e = 0 then .ok (⟨h.kind, h.text, h.n, []⟩, h.size) else .error h.e) w w' e := by
  obtain ⟨k0, t0, n0, z0, rfl, hb, hok, hno⟩ := hl
  by_cases he : h.e = 0
  · rw [if_pos he]
    obtain ⟨rfl, rfl, rfl, rfl⟩ := hok he
    exact ⟨none, 0, 0, by rw [he]; rfl, hb, RpL.nil _ _ _⟩
  · rw [if_neg he]
    obtain ⟨rfl, rfl, rfl, rfl⟩ := hno he
    exact ⟨he, hb, rfl⟩
theorem de_ld {k : Nat} {h : HdR} {S : By} {w w' : World} {e : Ending} (hl : LdIs h w w' e) (hm : h.many = none) : DeIs k (oH k h S) w w' e := by
  cases k with
  | zero => exact de_ld0 hl
  | succ k =>
    obtain ⟨k0, t0, n0, z0, rfl, hb, hok, hno⟩ := hl
    show DeIs (k + 1) (decH k h S) _ _ _
    unfold decH
    by_cases he : h.e = 0
    · rw [if_pos he, hm]
      obtain ⟨rfl, rfl, rfl, rfl⟩ := hok he
      exact ⟨none, 0, 0, by rw [he]; rfl, hb, RpL.nil _ _ _⟩
    · rw [if_neg he]
      obtain ⟨rfl, rfl, rfl, rfl⟩ := hno he
      exact ⟨he, hb, rfl⟩
theorem de_form {k : Nat} {o : Except Nat (Rn (Rp k) × Nat)} {w w' : World} {e : Ending} (h : DeIs k o w w' e) : ∃ k0 t0 n0 P l c z x, e = .returned (.tuple #[.agg #[.int .i64 k0, .string t0, .int .i64 n0, .slice P l c], .int .i64 z, .int .i64 x]) := by
  rcases o with x | ⟨t, z⟩
  · obtain ⟨_, _, rfl⟩ := h
    exact ⟨_, _, _, _, _, _, _, _, rfl⟩
  · obtain ⟨P, l, c, rfl, _⟩ := h
    exact ⟨_, _, _, _, _, _, _, _, rfl⟩
theorem de_bel {k : Nat} {o : Except Nat (Rn (Rp k) × Nat)} {w w' : World} {e : Ending} (h : DeIs k o w w' e) : Below w.heap.size w w' := by
  rcases o with x | ⟨t, z⟩
  · exact h.2.1
  · obtain ⟨P, l, c, _, a2, _⟩ := h
    exact a2
theorem de_fin {k : Nat} {o : Except Nat (Rn (Rp k) × Nat)} {rb : Nat} {w W1 w2 w' : World} {e : Ending} (h : DeIs k o W1 w2 e) (hd : Below w.heap.size w W1) (ho : Only w2 w' rb) (h1 : w.heap.size ≤ rb) (h2 : rb < W1.heap.size) : DeIs k o w w' e := by
  rcases o with x | ⟨t, z⟩
  · obtain ⟨a1, a2, a3⟩ := h
    exact ⟨a1, (hd.trans (a2.mono hd.size)).trans (ho.below h1), a3⟩
  · obtain ⟨P, l, c, rfl, a2, a3⟩ := h
    refine ⟨P, l, c, rfl, (hd.trans (a2.mono hd.size)).trans (ho.below h1), ?_⟩
    exact a3.keep (fun g hg _ => ⟨by have := hd.size; omega, ho.other g (by omega)⟩)
/-- many, between two rounds. -/
structure LdI {k : Nat} (rb r2 : Nat) (kd : Int) (w W : World) (lv : Value) (E : List (Rn (Rp k) × Value)) : Prop where
  bel : Below w.heap.size w W
  res : W.heap[rb]? = some (.cells #[.int .i64 0, .string ⟨#[]⟩, .int .i64 0, .slice none 0 0] 24)
  arr : W.heap[r2]? = some (.cells #[.int .i64 kd, .string ⟨#[]⟩, .int .i64 0, lv] 24)
  row : RowE (r2 + 1) W lv E
  hi : rb < r2
  wr : w.heap.size ≤ rb
theorem LdI.on {k rb r2 : Nat} {kd : Int} {w W W' : World} {lv : Value} {E : List (Rn (Rp k) × Value)} (h : LdI rb r2 kd w W lv E) (hd : Below W.heap.size W W') : LdI rb r2 kd w W' lv E :=
  ⟨h.bel.trans (hd.mono h.bel.size), keep_row h.res hd, keep_row h.arr hd, h.row.keep (fun g hg hl => hd.block g hl), h.hi, h.wr⟩
theorem LdI.grow {k rb r2 : Nat} {kd : Int} {w W w7 : World} {P7 : Option Addr} {l7 c7 : Nat} {lv : Value} {E : List (Rn (Rp k) × Value)} (h : LdI rb r2 kd w W lv E) (t : Rn (Rp k)) (v : Value) (hv : RpL (fun g => r2 + 1 ≤ g ∧ some g ≠ lv.ownBlock) k W v t.list)
    (ho : w7.ownsRow (r2 + 1) 24 4 (.slice P7 l7 c7) (E.length + 1) (prC E ++ [.int .i64 t.kind, .string (strB t.text), .int .i64 t.n, v])) (hg : W.grownBy w7 lv.ownBlock) (hat : (Value.slice P7 l7 c7).ownBlock = lv.ownBlock ∨ (Value.slice P7 l7 c7).ownBlock = some W.heap.size) :
    w7.heap[r2]? = some (.cells #[.int .i64 kd, .string ⟨#[]⟩, .int .i64 0, lv] 24) ∧ LdI rb r2 kd w (w7.setCell ⟨r2, 3, none⟩ (.slice P7 l7 c7)) (.slice P7 l7 c7) (E ++ [(t, v)]) := by
  have hlt := row_lt h.arr
  have hne : ∀ g, g ≤ r2 → some g ≠ lv.ownBlock := fun g hgr e => by have := (h.row.lt g e.symm).1; omega
  have hr3 : w7.heap[r2]? = some (.cells #[.int .i64 kd, .string ⟨#[]⟩, .int .i64 0, lv] 24) := by rw [hg.block r2 hlt (hne r2 (Nat.le_refl _))]; exact h.arr
  have hrow := h.row.snoc t v hv ho hg hat
  have hset : Only w7 (w7.setCell ⟨r2, 3, none⟩ (.slice P7 l7 c7)) r2 := (Only.refl _ _).set _ _
  have hsame : (w7.setCell ⟨r2, 3, none⟩ (.slice P7 l7 c7)).heap[r2]? = some (.cells #[.int .i64 kd, .string ⟨#[]⟩, .int .i64 0, .slice P7 l7 c7] 24) := by rw [heap_setCell_same _ _ _ _ _ _ hr3]; rfl
  have hlow : ∀ g, g < r2 → (w7.setCell ⟨r2, 3, none⟩ (.slice P7 l7 c7)).heap[g]? = W.heap[g]? := fun g hgr => by
    rw [hset.other g (by omega), hg.block g (by omega) (hne g (by omega))]
  have h2 := h.hi; have h3 := h.wr
  refine ⟨hr3, ⟨⟨?_, ?_, ?_, ?_, ?_⟩, ?_, hsame, ?_, h2, h3⟩⟩
  · exact hset.os.trans (hg.os.trans h.bel.os)
  · exact hset.tape.trans (hg.tape.trans h.bel.tape)
  · exact hset.output.trans (hg.output.trans h.bel.output)
  · rw [hset.size]; exact Nat.le_trans h.bel.size hg.size
  · intro k hk
    rw [hlow k (by omega)]
    exact h.bel.block k hk
  · rw [hlow rb h2]; exact h.res
  · exact hrow.keep (fun g hgb _ => hset.other g (by omega))
set_option maxHeartbeats 4000000 in
set_option maxRecDepth 20000 in
/-- the document's many, where there are too many or it is too deep. -/
theorem rmany_no (s : ByteArray) (z n : Nat) (D : Int) (m : UInt8) (h0 : 0 < s.size) (hm : s[0] = m) (hmk : m = 42 ∨ m = 37 ∨ m = 126 ∨ m = 62) (hn : n ≤ 9223372036854775807) (hbad : mostK m < (n : Int) ∨ 32 < D) (w : World) :
    Calls Tryz.prog 37 #[.string s, .int .i64 (z : Int), .int .i64 (n : Int), .int .i64 D] w fun e w' => LdIs { e := 120 } w w' e := by
  obtain ⟨rb, hrb⟩ : ∃ rb, w.heap.size = rb := ⟨_, rfl⟩
  obtain ⟨W0, hW0⟩ : ∃ W, W = w.alloc (.cells #[.int .i64 0, .string ⟨#[]⟩, .int .i64 0, .slice none 0 0] 24) := ⟨_, rfl⟩
  have hb0 : Below w.heap.size w W0 := by rw [hW0]; exact (Below.refl _ _).alloc (Nat.le_refl _) _
  have hr0 : W0.heap[rb]? = some (.cells #[.int .i64 0, .string ⟨#[]⟩, .int .i64 0, .slice none 0 0] 24) := by rw [hW0, ← hrb]; exact one_alloc _ _
  have HB0 : Hid (Below w.heap.size w W0) := hb0
  have HR0 : Hid _ := hr0
  have HRW : Hid (w.heap.size ≤ rb) := Nat.le_of_eq hrb
  have hz : (0 : Int) < (s.size : Int) := by omega
  have hm0 : (s[0].toNat : Int) = (m.toNat : Int) := by rw [hm]
  have HKD : Hid (∀ W, Calls Tryz.prog 36 #[.int .u8 (m.toNat : Int)] W fun e w' => e = .returned (.int .i64 (kindK m)) ∧ w' = W) := fun W => rkind_any m W
  obtain ⟨kd, hkd⟩ : ∃ kd, kindK m = kd := ⟨_, rfl⟩
  rw [hkd] at HKD
  obtain ⟨d1, hd1⟩ : ∃ d, decide ((1048576 : Int) < (n : Int)) = d := ⟨_, rfl⟩
  obtain ⟨d6, hd6⟩ : ∃ d, (kd == 6) = d := ⟨_, rfl⟩
  obtain ⟨d2, hd2⟩ : ∃ d, decide ((524288 : Int) < (n : Int)) = d := ⟨_, rfl⟩
  obtain ⟨d3, hd3⟩ : ∃ d, decide ((32 : Int) < D) = d := ⟨_, rfl⟩
  have hall : d1 = true ∨ (d6 = true ∧ d2 = true) ∨ d3 = true := by
    rcases hbad with h | h
    · rcases hmk with rfl | rfl | rfl | rfl
      · left; rw [← hd1]; simpa [mostK] using h
      · right; left
        refine ⟨by rw [← hd6, ← hkd]; rfl, by rw [← hd2]; simpa [mostK] using h⟩
      · left; rw [← hd1]; simpa [mostK] using h
      · left; rw [← hd1]; simpa [mostK] using h
    · right; right; rw [← hd3]; simpa using h
  clear hb0 hr0 hm hmk hbad hkd
  cases d1 <;> cases d6 <;> cases d2 <;> cases d3 <;> first | (exact absurd hall (by decide)) | skip
  all_goals
    clear hall
    go_enter Tryz.func37, Tryz.ntmps37
    go_upto_region 1 with fail
    rw [← hW0]
    clear hW0 hrb
    go_wp2_with fail
    refine (HKD.out _).mono ?_
    rintro e w1 ⟨rfl, hw1⟩
    subst hw1
    obtain ⟨W2, hW2⟩ : ∃ W2, W2 = w1.alloc (.cells #[.int .i64 kd, .string ⟨#[]⟩, .int .i64 0, .slice none 0 0] 24) := ⟨_, rfl⟩
    have hb2 : Below w1.heap.size w1 W2 := by rw [hW2]; exact (Below.refl _ _).alloc (Nat.le_refl _) _
    obtain ⟨r2, hr2⟩ : ∃ r2, w1.heap.size = r2 := ⟨_, rfl⟩
    have HA2 : Hid (W2.heap[r2]? = some (.cells #[.int .i64 kd, .string ⟨#[]⟩, .int .i64 0, .slice none 0 0] 24)) := by rw [hW2, ← hr2]; exact one_alloc _ _
    have HR2 : Hid (W2.heap[rb]? = some (.cells #[.int .i64 0, .string ⟨#[]⟩, .int .i64 0, .slice none 0 0] 24)) := keep_row HR0.out hb2
    have HB2 : Hid (Below w.heap.size w W2) := HB0.out.trans (hb2.mono HB0.out.size)
    have HRS : Hid (w1.heap.size = r2) := hr2
    obtain ⟨z0, z1, z2, z3, zf⟩ := prow4 HR2.out
    obtain ⟨y0, y1, y2, y3, yf⟩ := prow4 HA2.out
    clear hb2 hr2
    go_upto_region 2 with fail
    rw [← hW2, HRS.out]
    clear hW2 HRS
    go_wp2
    exact rp3_fin _ 8 9 10 Tryz.results37 HR2.out _ _ _ _ _ _ _ (fun w' ho => ld_err 120 rfl (by decide) (HB2.out.trans (ho.below HRW.out))) _ rfl rfl rfl rfl
end Go.Proofs.YtnfbaeajalnmmaaGreatDoor
namespace Go.Proofs.YtnfbaeajalnmmaaGreatDoor
open Go.RowKit Vi
set_option linter.unusedVariables false
set_option linter.unusedSimpArgs false
set_option maxHeartbeats 8000000 in
set_option maxRecDepth 20000 in
/-- the document's many. -/
theorem rmany_any (k : Nat) (s : ByteArray) (z n c : Nat) (D : Int) (m : UInt8) (h0 : 0 < s.size) (hm : s[0] = m) (hmk : m = 42 ∨ m = 37 ∨ m = 126 ∨ m = 62) (hs : s.size ≤ 281474976710656) (hz : z + 1 ≤ s.size) (hn : (n : Int) ≤ mostK m) (hD0 : 0 ≤ D) (hD : D ≤ 32) (hc : c = if m = 37 then n * 2 else n) (w : World)
    (IH : ∀ (W : World) (T : ByteArray), T.size ≤ 281474976710656 → Below w.heap.size w W → Calls Tryz.prog 18 #[.string T, .int .i64 (D + 1)] W fun e w' => DeIs k (dec k T.data.toList) W w' e) :
    Calls Tryz.prog 37 #[.string s, .int .i64 ((z + 1 : Nat) : Int), .int .i64 (n : Int), .int .i64 D] w fun e w' => DeIs (k + 1) (lsO k (decMany (dec k) c (s.data.toList.drop (z + 1))) (kindK m) z) w w' e := by
  obtain ⟨rb, hrb⟩ : ∃ rb, w.heap.size = rb := ⟨_, rfl⟩
  obtain ⟨W0, hW0⟩ : ∃ W, W = w.alloc (.cells #[.int .i64 0, .string ⟨#[]⟩, .int .i64 0, .slice none 0 0] 24) := ⟨_, rfl⟩
  have hb0 : Below w.heap.size w W0 := by rw [hW0]; exact (Below.refl _ _).alloc (Nat.le_refl _) _
  have hr0 : W0.heap[rb]? = some (.cells #[.int .i64 0, .string ⟨#[]⟩, .int .i64 0, .slice none 0 0] 24) := by rw [hW0, ← hrb]; exact one_alloc _ _
  have HB0 : Hid (Below w.heap.size w W0) := hb0
  have HR0 : Hid _ := hr0
  have HRW : Hid (w.heap.size ≤ rb) := Nat.le_of_eq hrb
  have HIH : Hid _ := IH
  have hz9 : (0 : Int) < (s.size : Int) := by omega
  have hm0 : (s[0].toNat : Int) = (m.toNat : Int) := by rw [hm]
  have HKD : Hid (∀ W, Calls Tryz.prog 36 #[.int .u8 (m.toNat : Int)] W fun e w' => e = .returned (.int .i64 (kindK m)) ∧ w' = W) := fun W => rkind_any m W
  obtain ⟨kd, hkd⟩ : ∃ kd, kindK m = kd := ⟨_, rfl⟩
  rw [hkd] at HKD ⊢
  have hmo : mostK m ≤ 1048576 := by unfold mostK; split; omega; split <;> omega
  have hn0 : (n : Int) ≤ 1048576 := by omega
  have hd1 : decide ((1048576 : Int) < (n : Int)) = false := dec_f (by omega)
  have hd3 : decide ((32 : Int) < D) = false := dec_f (by omega)
  have hDw : IntKind.i64.wrap (D + 1) = D + 1 := by rw [IntKind.wrap_i64] <;> omega
  obtain ⟨L, hL⟩ : ∃ L, s.data.toList.drop (z + 1) = L := ⟨_, rfl⟩
  have HLL : Hid (s.data.toList.drop (z + 1) = L) := hL
  rw [hL]
  obtain ⟨d6, hd6⟩ : ∃ d, (kd == 6) = d := ⟨_, rfl⟩
  have h637 : d6 = true → m = 37 := fun e => by
    rw [e, ← hkd] at hd6
    rcases hmk with rfl | rfl | rfl | rfl
    · exact absurd hd6 (by decide)
    · rfl
    · exact absurd hd6 (by decide)
    · exact absurd hd6 (by decide)
  have h6n : d6 = false → m ≠ 37 := fun e h => by
    subst h
    rw [e, ← hkd] at hd6
    exact absurd hd6 (by decide)
  have hd2 : d6 = true → decide ((524288 : Int) < (n : Int)) = false := fun e => dec_f (by
    have := h637 e
    subst this
    have : mostK 37 = 524288 := rfl
    omega)
  have hcb : c ≤ 2097152 := by rw [hc]; split <;> omega
  have hcw : d6 = true → IntKind.i64.wrap (2 * (n : Int)) = (c : Int) := fun e => by
    rw [hc, if_pos (h637 e), IntKind.wrap_i64] <;> omega
  have hcm : d6 = false → n = c := fun e => by rw [hc, if_neg (h6n e)]
  clear hb0 hr0 hm hmk IH hkd hmo hc h637 h6n hL
  cases d6
  all_goals
    have hcw2 := hcw
    have hcm2 := hcm
    have hd22 := hd2
    clear hcw hcm hd2
    simp only [forall_const, reduceCtorEq, false_implies] at hcw2 hcm2 hd22
    try (have hcm3 := hcm2.symm; subst hcm3)
    go_enter Tryz.func37, Tryz.ntmps37
    go_upto_region 1 with fail
    rw [← hW0]
    clear hW0 hrb
    go_wp2_with fail
    refine (HKD.out _).mono ?_
    rintro e w1 ⟨rfl, hw1⟩
    subst hw1
    obtain ⟨W2, hW2⟩ : ∃ W2, W2 = w1.alloc (.cells #[.int .i64 kd, .string ⟨#[]⟩, .int .i64 0, .slice none 0 0] 24) := ⟨_, rfl⟩
    have hb2 : Below w1.heap.size w1 W2 := by rw [hW2]; exact (Below.refl _ _).alloc (Nat.le_refl _) _
    obtain ⟨r2, hr2⟩ : ∃ r2, w1.heap.size = r2 := ⟨_, rfl⟩
    have HA2 : Hid (W2.heap[r2]? = some (.cells #[.int .i64 kd, .string ⟨#[]⟩, .int .i64 0, .slice none 0 0] 24)) := by rw [hW2, ← hr2]; exact one_alloc _ _
    have HI2 : Hid (LdI (k := k) rb r2 kd w W2 (.slice none 0 0) []) := ⟨HB0.out.trans (hb2.mono HB0.out.size), keep_row HR0.out hb2, HA2.out, RowE.nil _ _, by have := row_lt HR0.out; omega, HRW.out⟩
    have HRS : Hid (w1.heap.size = r2) := hr2
    obtain ⟨y0, y1, y2, y3, yf⟩ := prow4 HA2.out
    clear hb2 hr2
    go_upto_region 2 with fail
    rw [← hW2, HRS.out]
    clear hW2 HRS
    go_wp2
    clear y0 y1 y2 y3 yf
    go_loopw [1, 12] (fun ca ci wr => ∃ (j y : Nat) (lv : Value) (E : List (Rn (Rp k) × Value)), (j ≤ c ∧ decMany (dec k) j L = .ok (E.map (·.1), y) ∧ z + 1 + y ≤ s.size ∧ E.length = j ∧ LdI rb r2 kd w wr lv E) ∧ ca = .int .i64 ((z + 1 + y : Nat) : Int) ∧ ci = .int .i64 (j : Int)) (fun _ ci _ => c - (intOf ci).toNat)
    case atStart => exact ⟨0, 0, _, [], ⟨Nat.zero_le _, rfl, by omega, rfl, HI2.out⟩, rfl, rfl⟩
    case round =>
      obtain ⟨j, y, lv, E, ⟨hj, hdm, hys, hEl, hI⟩, rfl, rfl⟩ := hrel
      obtain ⟨P0, c0, rfl⟩ : ∃ P0 c0, lv = .slice P0 j c0 := by
        obtain ⟨P0, c0, e0⟩ := own_form hI.row.own
        exact ⟨P0, c0, by rw [e0, hEl]⟩
      have HI : Hid (LdI rb r2 kd w wr (.slice P0 j c0) E) := hI
      have HDM : Hid (decMany (dec k) j L = .ok (E.map (·.1), y)) := hdm
      have HEL : Hid (E.length = j) := hEl
      have HRS : Hid (r2 < wr.heap.size) := row_lt hI.arr
      obtain ⟨zy, hzy⟩ : ∃ zy, z + 1 + y = zy := ⟨_, rfl⟩
      have HZY : Hid (z + 1 + y = zy) := hzy
      rw [hzy] at hys ⊢
      clear hzy
      by_cases hlt : j < c
      · obtain ⟨T, hT⟩ : ∃ T, s.extract zy s.size = T := ⟨_, rfl⟩
        have hTl : T.data.toList = L.drop y := by rw [← hT, rest_list s zy hys, ← HLL.out, List.drop_drop, HZY.out]
        have hTs : T.size ≤ 281474976710656 := by rw [← hT, ext_size _ _ _ (Nat.le_refl _)]; omega
        have hs0 : (0 : Int) ≤ (zy : Int) := by omega
        have hs1 : (zy : Int) ≤ (s.size : Int) := by omega
        have HC : Hid (Calls Tryz.prog 18 #[.string T, .int .i64 (D + 1)] wr fun e w' => DeIs k (dec k (L.drop y)) wr w' e) := by
          have := HIH.out wr T hTs hI.bel
          rw [hTl] at this
          exact this
        clear hI hdm hEl hTl
        rcases hf : dec k (L.drop y) with x | ⟨t, zz⟩
        · rw [hf] at HC
          have HF : Hid (decMany (dec k) c L = .error x) := many_bad HDM.out hf hlt
          clear hf
          go_wp2_with fail
          refine (show Calls _ _ _ _ _ from HC.out).mono ?_
          rintro e w3 ⟨hx0, hd3, rfl⟩
          have hxn : ((x : Int) != 0) = true := by simpa using hx0
          obtain ⟨W4, hW4⟩ : ∃ W4, W4 = w3.alloc (.cells #[.int .i64 0, .string ⟨#[]⟩, .int .i64 0, .slice none 0 0] 24) := ⟨_, rfl⟩
          have HI4 : Hid (LdI rb r2 kd w W4 (.slice P0 j c0) E) := (HI.out.on hd3).on (by rw [hW4]; exact (Below.refl _ _).alloc (Nat.le_refl _) _)
          obtain ⟨z0, z1, z2, z3, zf⟩ := prow4 HI4.out.res
          clear hd3
          go_upto_region 11 with fail
          rw [← hW4]
          clear hW4
          go_wp2
          refine rp3_fin _ 8 9 10 Tryz.results37 HI4.out.res _ _ _ _ _ _ _ (fun w' ho => ?_) _ rfl rfl rfl rfl
          rw [HF.out]
          exact ⟨hx0, HI4.out.bel.trans (ho.below HRW.out), rfl⟩
        · rw [hf] at HC
          have HF : Hid (decMany (dec k) (j + 1) L = .ok (E.map (·.1) ++ [t], y + zz)) := many_step HDM.out hf
          have hzz : zy + zz ≤ s.size := by
            have := (dec_len k _ t zz hf).2
            rw [← HLL.out, List.drop_drop, HZY.out, List.length_drop, list_len] at this
            omega
          have hzw : IntKind.i64.wrap ((zy : Int) + (zz : Int)) = ((zy + zz : Nat) : Int) := by rw [IntKind.wrap_i64] <;> omega
          clear hf
          go_wp2_with fail
          refine (show Calls _ _ _ _ _ from HC.out).mono ?_
          rintro e w3 ⟨PP, ll, cc, rfl, hd3, hrp3⟩
          obtain ⟨W4, hW4⟩ : ∃ W4, W4 = w3.alloc (.cells #[.int .i64 t.kind, .string (strB t.text), .int .i64 t.n, .slice PP ll cc] 24) := ⟨_, rfl⟩
          have hb4 : Below w3.heap.size w3 W4 := by rw [hW4]; exact (Below.refl _ _).alloc (Nat.le_refl _) _
          have HI4 : Hid (LdI rb r2 kd w W4 (.slice P0 j c0) E) := (HI.out.on hd3).on hb4
          have hpb : W4.heap[w3.heap.size]? = some (.cells #[.int .i64 t.kind, .string (strB t.text), .int .i64 t.n, .slice PP ll cc] 24) := by rw [hW4]; exact one_alloc _ _
          obtain ⟨pb, hpbe⟩ : ∃ pb, w3.heap.size = pb := ⟨_, rfl⟩
          have HPE : Hid (w3.heap.size = pb) := hpbe
          rw [hpbe] at hpb
          obtain ⟨y0, y1, y2, y3, yf⟩ := prow4 hpb
          obtain ⟨z0, z1, z2, z3, zf⟩ := prow4 HI4.out.arr
          have HRP4 : Hid (RpL (fun g => r2 + 1 ≤ g ∧ some g ≠ (Value.slice P0 j c0).ownBlock) k W4 (.slice PP ll cc) t.list) := by
            refine (hrp3.weak (fun g hg => ?_)).on hb4
            have h1 := HRS.out
            refine ⟨by omega, fun e => ?_⟩
            have := (HI.out.row.lt g e.symm).2
            omega
          clear hd3 hrp3 hb4 hpb hpbe
          go_upto_region 12 with fail
          rw [← hW4, HPE.out]
          clear hW4
          obtain ⟨W5, hW5⟩ : ∃ W5, W5 = W4.alloc (.cells #[.int .i64 t.kind, .string (strB t.text), .int .i64 t.n, .slice PP ll cc] 24) := ⟨_, rfl⟩
          have hb5 : Below W4.heap.size W4 W5 := by rw [hW5]; exact (Below.refl _ _).alloc (Nat.le_refl _) _
          have HI5 : Hid (LdI rb r2 kd w W5 (.slice P0 j c0) E) := HI4.out.on hb5
          have HRP5 : Hid (RpL (fun g => r2 + 1 ≤ g ∧ some g ≠ (Value.slice P0 j c0).ownBlock) k W5 (.slice PP ll cc) t.list) := HRP4.out.on hb5
          have hown5 : W5.ownsRow (r2 + 1) 24 4 (.slice P0 j c0) j (prC E) := by
            have := HI5.out.row.own
            rw [HEL.out] at this
            exact this
          have HOW5 : Hid ((W4.alloc (.cells #[.int .i64 t.kind, .string (strB t.text), .int .i64 t.n, .slice PP ll cc] 24)).ownsRow (r2 + 1) 24 4 (.slice P0 j c0) j (prC E)) := by rw [← hW5]; exact hown5
          have HW5 : Hid (W5 = W4.alloc (.cells #[.int .i64 t.kind, .string (strB t.text), .int .i64 t.n, .slice PP ll cc] 24)) := hW5
          have HSZ : Hid (r2 + 1 ≤ W4.heap.size) := row_lt HI4.out.arr
          obtain ⟨i0, hi0, hy0, hy1, hy2⟩ := info_parts infoRp
          clear hW5 hb5 hown5
          go_wp2_with (at_builtin; go_must (refine wpList_append_own_at _ rfl _ _ 22 rfl (r2 + 1) 24 i0 (.agg #[.int .i64 0, .string ⟨#[]⟩, .int .i64 0, .slice none 0 0]) 4 56 Tryz.underlying22 hi0 hy0 hy1 hy2 rfl (by decide) (.slice P0 j c0) j (prC E) rfl HOW5.out ⟨W4.heap.size, 0, none⟩ 1 1 [.int .i64 t.kind, .string (strB t.text), .int .i64 t.n, .slice PP ll cc] rfl rfl ?a2 (one4 _ _ _ _ _ _) ?a4 ?a5 ?a6 ?_))
          case a2 => first | exact cell_four_new _ _ _ _ _ _ | (intro jj u hjj; exact cell_four_new _ _ _ _ _ _ jj u hjj)
          case a4 => unfold maxLen; omega
          case a5 => omega
          case a6 => exact Nat.le_trans HSZ.out (by simp)
          intro v7 w7 ho7 hg7 _ hat7
          obtain ⟨P7, c7, hf7⟩ := own_form ho7
          subst hf7
          rw [← HW5.out] at hg7
          have hat8 : (Value.slice P7 (j + 1) c7).ownBlock = (Value.slice P0 j c0).ownBlock ∨ (Value.slice P7 (j + 1) c7).ownBlock = some W5.heap.size := by rw [HW5.out]; simpa using hat7
          have hgr := HI5.out.grow t (.slice PP ll cc) HRP5.out (by rw [HEL.out]; exact ho7) hg7 hat8
          have HI8 : Hid (LdI rb r2 kd w (w7.setCell ⟨r2, 3, none⟩ (.slice P7 (j + 1) c7)) (.slice P7 (j + 1) c7) (E ++ [(t, .slice PP ll cc)])) := hgr.2
          clear z0 z1 z2 z3 zf
          obtain ⟨z0, z1, z2, z3, zf⟩ := prow4 hgr.1
          clear ho7 hg7 hat7 hat8 hgr y0 y1 y2 y3 yf
          go_wp2
          go_roundw
          case rel => exact ⟨j + 1, y + zz, .slice P7 (j + 1) c7, E ++ [(t, .slice PP ll cc)], ⟨hlt, by rw [List.map_append]; exact HF.out, by have := HZY.out; omega, by rw [List.length_append, HEL.out]; rfl, HI8.out⟩, by have := HZY.out; first | (rw [← this]; congr 1; omega) | (congr 1; omega), rfl⟩
          case measure => simp [intOf]; omega
      · have hjc : j = c := by omega
        have HDC : Hid (decMany (dec k) c L = .ok (E.map (·.1), y)) := by rw [← hjc]; exact hdm
        obtain ⟨z0, z1, z2, z3, zf⟩ := prow4 hI.res
        obtain ⟨y0, y1, y2, y3, yf⟩ := prow4 hI.arr
        clear hI hdm hEl hjc
        go_wp2
        refine rp3_fin _ 8 9 10 Tryz.results37 HI.out.res _ _ _ _ _ _ _ (fun w' ho => ?_) _ rfl rfl rfl rfl
        rw [HDC.out]
        have htree := HI.out.row.tree
        refine ⟨_, _, _, by have := HZY.out; rw [show z + 1 + y = zy from this]; rfl, HI.out.bel.trans (ho.below HRW.out), ?_⟩
        refine RpB.keep htree (fun g hg hl => ⟨by have := HI.out.hi; have := HI.out.wr; omega, ho.other g (by have := HI.out.hi; omega)⟩) (fun v l hh => ?_)
        exact RpL.keep hh (fun g hg hl => ⟨by have := HI.out.hi; have := HI.out.wr; omega, ho.other g (by have := HI.out.hi; omega)⟩)
end Go.Proofs.YtnfbaeajalnmmaaGreatDoor
namespace Go.Proofs.YtnfbaeajalnmmaaGreatDoor
open Go.RowKit Vi
set_option linter.unusedVariables false
set_option linter.unusedSimpArgs false
theorem ne_mark {c m : UInt8} {n : Int} (h : c ≠ m) (hn : (m.toNat : Int) = n) : ((c.toNat : Int) != n) = true := by
  simp only [bne_iff_ne, ne_eq]
  intro e
  exact h (UInt8.toNat_inj.1 (by omega))
/-- a number's text: what Number answers. -/
def numV (l : By) : Int × Bool := match numberOf l with
  | some v => (v, true)
  | none => (0, false)
theorem numV_is (l : By) : numT l = .tuple #[.int .i64 (numV l).1, .bool (numV l).2] := by
  unfold numT numV
  cases numberOf l <;> rfl
theorem ld_form {h : HdR} {w w' : World} {e : Ending} (hl : LdIs h w w' e) : ∃ k0 t0 n0 P l c z x, e = .returned (.tuple #[.agg #[.int .i64 k0, .string t0, .int .i64 n0, .slice P l c], .int .i64 z, .int .i64 x]) := by
  obtain ⟨k0, t0, n0, z0, rfl, _⟩ := hl
  exact ⟨_, _, _, _, _, _, _, _, rfl⟩
theorem ld_bel {h : HdR} {w w' : World} {e : Ending} (hl : LdIs h w w' e) : Below w.heap.size w w' := by
  obtain ⟨k0, t0, n0, z0, _, hb, _⟩ := hl
  exact hb
theorem ld_fin {h : HdR} {w W1 w2 w' : World} {e : Ending} {rb : Nat} (hl : LdIs h W1 w2 e) (hd : Below w.heap.size w W1) (ho : Only w2 w' rb) (h1 : w.heap.size ≤ rb) : LdIs h w w' e := by
  obtain ⟨k0, t0, n0, z0, rfl, hb, r⟩ := hl
  exact ⟨k0, t0, n0, z0, rfl, (hd.trans (hb.mono hd.size)).trans (ho.below h1), r⟩
end Go.Proofs.YtnfbaeajalnmmaaGreatDoor
