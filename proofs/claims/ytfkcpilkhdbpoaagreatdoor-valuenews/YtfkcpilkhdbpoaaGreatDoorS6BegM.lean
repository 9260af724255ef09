import Derived.Test.YtfkcpilkhdbpoaaGreatDoorAC
import Derived.Test.YtfkcpilkhdbpoaaGreatDoorAA
import Derived.Test.YtfkcpilkhdbpoaaGreatDoorAD
import Derived.Test.YtfkcpilkhdbpoaaGreatDoorAG
namespace Go.Proofs.YtfkcpilkhdbpoaaGreatDoor.S6
open Go.RowKit
set_option linter.unusedVariables false
theorem bk_1 (n : Nat) (h : n < 128) : LM.bsz n = 1 ∧ LM.back n = [UInt8.ofNat n] := by
  have hb : LM.bsz n = 1 := by unfold LM.bsz; rw [if_pos h]
  refine ⟨hb, ?_⟩
  unfold LM.back; rw [hb]; show [LM.bbyte n 1 0] = _; unfold LM.bbyte
  rw [show n / 128 ^ (1 - 1 - 0) % 128 + (if 0 < 0 then 128 else 0) = n by simp; omega]
theorem bk_2 (n : Nat) (h1 : 128 ≤ n) (h2 : n < 16384) : LM.bsz n = 2 ∧ LM.back n = [UInt8.ofNat (n / 128), UInt8.ofNat (n % 128 + 128)] := by
  have hb : LM.bsz n = 2 := by unfold LM.bsz; rw [if_neg (by omega), if_pos h2]
  refine ⟨hb, ?_⟩
  unfold LM.back; rw [hb]; show [LM.bbyte n 2 0, LM.bbyte n 2 1] = _; unfold LM.bbyte
  rw [show n / 128 ^ (2 - 1 - 0) % 128 + (if 0 < 0 then 128 else 0) = n / 128 by simp; omega, show n / 128 ^ (2 - 1 - 1) % 128 + (if 0 < 1 then 128 else 0) = n % 128 + 128 by simp]
theorem bk_3 (n : Nat) (h1 : 16384 ≤ n) (h2 : n < 2097152) : LM.bsz n = 3 ∧ LM.back n = [UInt8.ofNat (n / 128 / 128), UInt8.ofNat (n / 128 % 128 + 128), UInt8.ofNat (n % 128 + 128)] := by
  have hb : LM.bsz n = 3 := by unfold LM.bsz; rw [if_neg (by omega), if_neg (by omega), if_pos h2]
  refine ⟨hb, ?_⟩
  unfold LM.back; rw [hb]; show [LM.bbyte n 3 0, LM.bbyte n 3 1, LM.bbyte n 3 2] = _; unfold LM.bbyte
  rw [show n / 128 ^ (3 - 1 - 0) % 128 + (if 0 < 0 then 128 else 0) = n / 128 / 128 by simp; omega, show n / 128 ^ (3 - 1 - 1) % 128 + (if 0 < 1 then 128 else 0) = n / 128 % 128 + 128 by simp, show n / 128 ^ (3 - 1 - 2) % 128 + (if 0 < 2 then 128 else 0) = n % 128 + 128 by simp]
theorem bk_at {b : ByteArray} {E g j : Nat} {B : List UInt8} (h : (b.data.toList.drop (E - g)).take g = B) (hE : E ≤ b.size) (hg : g ≤ E) (hj : j < g) {x : UInt8} (hx : B[j]? = some x) (k : Nat) (hk : k = E - g + j) (hkb : k < b.size) : b[k] = x := by
  subst hk
  have h1 := at_list b (E - g + j) hkb
  rw [← h, List.getElem?_take_of_lt hj, List.getElem?_drop, h1] at hx
  exact Option.some.inj hx
theorem row2b {w : World} {g T : Nat} {v0 v1 : Value} (h : w.heap[g]? = some (.cells #[v0, v1] T)) :
    w.cell? ⟨g, 0, none⟩ = some v0 ∧ w.cell? ⟨g, 1, none⟩ = some v1 ∧ ∀ j, w.frozen? ⟨g, j, none⟩ = false := by
  refine ⟨?_, ?_, fun j => frozen_of_row _ _ _ _ _ h⟩ <;> rw [cell_of_row _ _ _ _ _ _ h] <;> rfl
theorem w64_mul (y k : Nat) (h : y < 128) (hk : k ≤ 16384) : wrap64 ((y : Int) * (k : Int)) = (y : Int) * (k : Int) := by
  have h1 : (y : Int) * (k : Int) = ((y * k : Nat) : Int) := by simp
  have h2 : y * k ≤ 128 * 16384 := Nat.mul_le_mul (by omega) hk
  rw [h1]; unfold wrap64; omega
theorem w64_sub (p n : Nat) (hp : p ≤ 4294967296) (hn : n < 2097152) : wrap64 ((p : Int) - wrap64 (n : Int)) = (p : Int) - n := by
  unfold wrap64; omega
theorem or_step {X Y n : Nat} {A B z : Int} (h : bits .or .i64 (wrap64 (X : Int)) A = wrap64 (Y : Int)) (hA : A = B) (hY : Y = n) (hz : B = z) : bits .or .i64 (wrap64 (X : Int)) z = wrap64 (n : Int) := by
  subst hA; subst hY; subst hz; exact h
theorem bk_byte (n j : Nat) (h : n < 2097152) (hj : j < LM.bsz n) : ∃ x, (LM.back n)[LM.bsz n - 1 - j]? = some x ∧ x.toNat = n / 128 ^ j % 128 + (if j + 1 < LM.bsz n then 128 else 0) := by
  have h3 := LM.bsz_le3 n h
  refine ⟨LM.bbyte n (LM.bsz n) (LM.bsz n - 1 - j), by simp only [LM.back, List.getElem?_map, List.getElem?_range (show LM.bsz n - 1 - j < LM.bsz n by omega), Option.map_some], ?_⟩
  unfold LM.bbyte
  rw [show LM.bsz n - 1 - (LM.bsz n - 1 - j) = j by omega]
  have h1 : n / 128 ^ j % 128 < 128 := Nat.mod_lt _ (by omega)
  by_cases hl : j + 1 < LM.bsz n
  · rw [if_pos hl, if_pos (by omega), LM.ofNat_toNat _ (by omega)]
  · rw [if_neg hl, if_neg (by omega), LM.ofNat_toNat _ (by omega)]
theorem bsz_pow (n : Nat) (h : n < 2097152) : n < 128 ^ LM.bsz n := by
  unfold LM.bsz; (repeat' split) <;> omega
theorem mod_next (n k : Nat) : n % 128 ^ (k + 1) = n % 128 ^ k + n / 128 ^ k % 128 * 2 ^ (7 * k) := by
  rw [Nat.pow_succ, Nat.mod_mul, Nat.pow_mul, Nat.mul_comm (128 ^ k)]
set_option maxHeartbeats 1000000 in
set_option maxRecDepth 100000 in
theorem bbef_any (b : ByteArray) (c : Int) (E n : Nat) (hE : E ≤ b.size) (hs : b.size ≤ 4294967296) (hn : n < 2097152) (hle : n + LM.bsz n ≤ E) (hbk : (b.data.toList.drop (E - LM.bsz n)).take (LM.bsz n) = LM.back n) (w : World) :
    Calls Tryz.prog 373 #[.agg #[.string b, .int .i64 c], .int .i64 (E : Int)] w fun e w' => e = .returned (.int .i64 ((E - LM.bsz n - n : Nat) : Int)) ∧ Below w.heap.size w w' := by
  obtain ⟨g, hg⟩ : ∃ g, LM.bsz n = g := ⟨_, rfl⟩
  have h1 := LM.bsz_pos n
  have h3 := LM.bsz_le3 n hn
  have HPW : Hid (n < 128 ^ g) := by rw [← hg]; exact bsz_pow n hn
  have HBY : Hid (∀ j, j < g → ∀ p (hp : p < b.size), p + 1 + j = E → b[p].toNat = n / 128 ^ j % 128 + (if j + 1 < g then 128 else 0)) := fun j hj p hp he => by
    obtain ⟨x, hx1, hx2⟩ := bk_byte n j hn (by omega)
    rw [bk_at hbk hE (by omega) (j := LM.bsz n - 1 - j) (by omega) hx1 p (by omega) hp, hx2, hg]
  rw [hg]
  rw [hg] at h1 h3 hle
  clear hbk hg
  have HR0 : Hid ((w.alloc (.cells #[.string b, .int .i64 c] 349)).heap[w.heap.size]? = some (.cells #[.string b, .int .i64 c] 349)) := one_alloc w _
  have HB0 : Hid (Below w.heap.size w (w.alloc (.cells #[.string b, .int .i64 c] 349))) := (Below.refl _ w).alloc (Nat.le_refl _) _
  go_enter Tryz.func373, Tryz.ntmps373
  go_wp2
  go_loopw [1, 5, 6] (fun at_ sz sh wr => ∃ j p : Nat, j < g ∧ p + 1 + j = E ∧ at_ = .int .i64 ((p : Int) + 1) ∧ sz = .int .i64 (wrap64 (n % 128 ^ j : Nat)) ∧ sh = .int .i64 ((7 * j : Nat) : Int) ∧ wr.heap[w.heap.size]? = some (.cells #[.string b, .int .i64 c] 349) ∧ Below w.heap.size w wr)
    (fun at_ _ _ _ => (intOf at_).toNat)
  case atStart => exact ⟨0, E - 1, by omega, by omega, by congr 1; omega, by simp [Nat.mod_one, wrap64], rfl, HR0.out, HB0.out⟩
  case round =>
    obtain ⟨j, p, hj, hp, rfl, rfl, rfl, hrow, hbel⟩ := hrel
    have hpb : p < b.size := by omega
    have hby := HBY.out j hj p hpb hp
    have hnx := mod_next n j
    have hXl : n % 128 ^ j < 2 ^ (7 * j) := by rw [Nat.pow_mul]; exact Nat.mod_lt _ (Nat.pow_pos (by omega))
    have hyl : n / 128 ^ j % 128 < 128 := Nat.mod_lt _ (by omega)
    have hor := or64 (n % 128 ^ j) (n / 128 ^ j % 128) (7 * j) hXl (by omega) (by omega)
    rw [← hnx] at hor
    have HN : Hid (j + 1 = g → n % 128 ^ (j + 1) = n) := fun h => by rw [h]; exact Nat.mod_eq_of_lt HPW.out
    generalize n % 128 ^ j = X at hor ⊢
    generalize hY : n % 128 ^ (j + 1) = Y at hor HN
    generalize n / 128 ^ j % 128 = y at hby hyl hor
    obtain ⟨d0, d1, df⟩ := row2b hrow
    have HB : Hid (Below w.heap.size w wr) := hbel
    have HROW : Hid _ := hrow
    have hq0 : (0 : Int) ≤ (p : Int) := by omega
    have hq1 : (p : Int) < (b.size : Int) := by omega
    by_cases hlast : j + 1 < g
    · rw [if_pos hlast] at hby
      obtain ⟨q, hq⟩ : ∃ q : Nat, b[p].toNat = q := ⟨_, rfl⟩
      rw [hq] at hby
      have hqm : (q : Int) % 128 = (y : Int) := by omega
      have hqd : decide ((q : Int) < 128) = false := by simp; omega
      have hq8 : q < 256 := by omega
      have HYY : Hid _ := hY
      have HH : Hid _ := hby
      clear hbel hrow hby HN hY HPW HBY
      have HP : Hid (1 ≤ p) := by show _ ≤ _; omega
      rcases (show j = 0 ∨ j = 1 by omega) with rfl | rfl
      all_goals
        simp only [Nat.reduceMul, Nat.reducePow, Int.natCast_mul] at hor
        have HOR : Hid _ := hor
        clear hor
        go_wp2
      · have hp1 := HP.out
        refine ⟨⟨1, p - 1, hlast, by omega, by congr 1; omega, ?_, rfl, HROW.out, HB.out⟩, by simp [intOf]⟩
        rw [HYY.out]
        refine congrArg (Value.int .i64) (Eq.trans ?_ HOR.out)
        congr 1; unfold wrap64; omega
      · have hp1 := HP.out
        refine ⟨⟨2, p - 1, hlast, by omega, by congr 1; omega, ?_, rfl, HROW.out, HB.out⟩, by simp [intOf]⟩
        rw [HYY.out]
        refine congrArg (Value.int .i64) (Eq.trans ?_ HOR.out)
        congr 1; unfold wrap64; omega
    · rw [if_neg hlast] at hby
      obtain ⟨q, hq⟩ : ∃ q : Nat, b[p].toNat = q := ⟨_, rfl⟩
      rw [hq] at hby
      have hqm : (q : Int) % 128 = (y : Int) := by omega
      have hqd : decide ((q : Int) < 128) = true := by simp; omega
      have hq8 : q < 128 := by omega
      have HH : Hid _ := hby
      have HYN : Hid (Y = n) := HN.out (by omega)
      have HRR : Hid (((E - g - n : Nat) : Int) = (p : Int) - n) := by show _ = _; omega
      clear hbel hrow hby HN hY HPW HBY
      rcases (show j = 0 ∨ j = 1 ∨ j = 2 by omega) with rfl | rfl | rfl
      all_goals
        simp only [Nat.reduceMul, Nat.reducePow, Int.natCast_mul] at hor
        have HOR : Hid _ := hor
        clear hor
        go_wp2
        go_ret
        refine ⟨?_, HB.out⟩
        rw [HRR.out]
        refine congrArg Ending.returned (congrArg (Value.int .i64) ?_)
      · rw [or_step HOR.out (w64_mul y 1 hyl (by omega)) HYN.out (by omega)]
        exact w64_sub p n (by omega) hn
      · rw [or_step (z := (y : Int) * 128) HOR.out (w64_mul y 128 hyl (by omega)) HYN.out rfl]
        exact w64_sub p n (by omega) hn
      · rw [or_step (z := (y : Int) * 16384) HOR.out (w64_mul y 16384 hyl (by omega)) HYN.out rfl]
        exact w64_sub p n (by omega) hn
end Go.Proofs.YtfkcpilkhdbpoaaGreatDoor.S6
namespace Go.Proofs.YtfkcpilkhdbpoaaGreatDoor.S6
open Go.RowKit Go.Shelf
set_option linter.unusedVariables false
attribute [local go_sem] Oper.semAt_some
theorem rev_step {α : Type} (L : List α) (j : Nat) (x : α) (h : L[j]? = some x) : L.reverse.take (L.length - 1 - j) ++ [x] = L.reverse.take (L.length - j) ∧ L.reverse.take (L.length - 1 - j) ++ [x] <+: L.reverse := by
  have hj : j < L.length := (List.getElem?_eq_some_iff.1 h).1
  have e : L.reverse.take (L.length - 1 - j) ++ [x] = L.reverse.take (L.length - j) := by
    have h1 : L.reverse[L.length - 1 - j]? = some x := by
      rw [List.getElem?_reverse (by omega), show L.length - 1 - (L.length - 1 - j) = j by omega]; exact h
    rw [show L.length - j = (L.length - 1 - j) + 1 by omega]
    obtain ⟨hi, e2⟩ := List.getElem?_eq_some_iff.1 h1
    rw [List.take_succ_eq_append_getElem hi, e2]
  exact ⟨e, e ▸ List.take_prefix _ _⟩
theorem ent_facts (l : List LM.Item) (hl : ∀ it ∈ l, LM.Wf it) (j : Nat) (hj : j < l.length) :
    (LM.entsFrom 0 0 l)[j]? = some ⟨j, l[j], LM.bsum (l.take j), LM.dsize l[j]⟩ ∧ LM.bsum (l.take j) < (LM.bodyOf l).length ∧ LM.rdItem ((LM.bodyOf l).drop (LM.bsum (l.take j))) = some (l[j], LM.dsize l[j]) ∧
    ((LM.bodyOf l).drop (LM.bsum (l.take j) + LM.dsize l[j])).take (LM.bsz (LM.dsize l[j])) = LM.back (LM.dsize l[j]) ∧ LM.bsum (l.take (j + 1)) = LM.bsum (l.take j) + (LM.dsize l[j] + LM.bsz (LM.dsize l[j])) ∧ LM.dsize l[j] < 2097152 := by
  have hg := LM.ents_get l 0 0 j hj
  simp only [Nat.zero_add] at hg
  have hm := List.mem_of_getElem? hg
  have hp := LM.parse_body l (l.length + 1) 0 0 hl (by omega)
  have h1 := LM.parse_mem (LM.bodyOf l) (l.length + 1) 0 0 (LM.bodyOf l) (by simp) ⟨j, l[j], LM.bsum (l.take j), LM.dsize l[j]⟩ (by rw [hp]; exact hm)
  have h2 := LM.ents_ok (LM.bodyOf l) l 0 0 hl (by simp) _ hm
  refine ⟨hg, h1.1, h1.2, h2.2.2, ?_, ?_⟩
  · rw [List.take_succ_eq_append_getElem hj, LM.bsum_app, LM.bsum_cons, LM.bsum_nil]; rfl
  · have := LM.dsize_le _ (hl _ (List.getElem_mem hj)); omega
theorem bwd_any (b : ByteArray) (c : Int) (w : World) : Calls Tryz.prog 341 #[.agg #[.string b, .int .i64 c]] w fun e w' =>
    e = .returned (.func (.func 372) #[] #[.pointer (some ⟨w.heap.size, 0, none⟩)]) ∧ w' = w.alloc (.cells #[.string b, .int .i64 c] 349) := by
  have hmf : ∀ (fn : Fn) (first cap : Array Value) (w : World), (Instr.makeFunc fn first cap).run Tryz.prog w = .ok (.func fn first cap) w := fun _ _ _ _ => rfl
  go_enter Tryz.func341, Tryz.ntmps341
  go_wp2
  go_ret
  exact ⟨rfl, rfl⟩
set_option maxHeartbeats 2000000 in
set_option maxRecDepth 100000 in
theorem bwd_seq (n : Nat) (l : List LM.Item) (hl : ∀ it ∈ l, LM.Wf it) (hs : LM.bsum l ≤ 1073741824) (Bo : ByteArray) (hBo : Bo.data.toList = LM.bodyOf l) (bx B0 : Nat) :
    SeqP n Tryz.prog 372 #[.pointer (some ⟨bx, 0, none⟩)] encs (LM.entsFrom 0 0 l).reverse false pch (Box Bo (l.length : Int) bx) B0 := by
  intro ll J Jx Jp W hBW hJ hbox hJx hY h0
  have hBs : Bo.size = LM.bsum l := by rw [← list_len, hBo, LM.bodyOf_len]
  have hlen : (LM.entsFrom 0 0 l).length = l.length := LM.ents_len l 0 0
  have hge := LM.bsum_ge l
  refine callsIn_of_wp Tryz.func372 rfl trivial ?_ rfl
  simp only [Tryz.ntmps372, List.size_toArray, List.length_cons, List.length_nil, Nat.reduceAdd, Nat.reduceSub, Array.replicate_succ, Array.replicate_zero, List.push_toArray, List.append_toArray, List.nil_append, List.cons_append]
  obtain ⟨x0, x1, xf⟩ := row2 (hbox _ _ h0).row
  have HBO : Hid _ := hBo
  have HL : Hid _ := hl
  have HY : Hid _ := hY
  clear hBo hl hY
  gi_wp2
  clear x0 x1 xf
  gi_loopw [3, 4] (fun at_ pl wr => (pl = .int .i64 (-1) ∧ J (LM.entsFrom 0 0 l).reverse wr ∧ B0 ≤ wr.heap.size) ∨ ∃ j : Nat, j < l.length ∧ pl = .int .i64 (j : Int) ∧ at_ = .int .i64 (LM.bsum (l.take (j + 1)) : Nat) ∧ J ((LM.entsFrom 0 0 l).reverse.take (l.length - 1 - j)) wr ∧ B0 ≤ wr.heap.size)
    (fun _ pl _ => (intOf pl + 1).toNat)
  case atStart =>
    by_cases h : l.length = 0
    · have hn : l = [] := List.eq_nil_of_length_eq_zero h
      subst hn
      exact Or.inl ⟨rfl, h0, hBW⟩
    · refine Or.inr ⟨l.length - 1, by omega, ?_, ?_, ?_, hBW⟩
      · congr 1; omega
      · rw [show l.length - 1 + 1 = l.length by omega, List.take_length, ← hBs]
      · rw [show l.length - 1 - (l.length - 1) = 0 by omega]; exact h0
  case round =>
    rcases hrel with ⟨rfl, hJs, hB0⟩ | ⟨j, hj, rfl, rfl, hJs, hB0⟩
    · gi_wp2
      go_end0
      exact Or.inl ⟨⟨_, rfl⟩, by trivial, hJs⟩
    · obtain ⟨hget, hlt, hrd, hbk, hsum, hd⟩ := ent_facts l HL.out j hj
      have hbx := hbox _ _ hJs
      obtain ⟨y0, y1, yf⟩ := row2 hbx.row
      obtain ⟨hrev, hpre⟩ := rev_step _ j _ hget
      rw [hlen] at hrev hpre
      obtain ⟨⟨t, m, q⟩, hit⟩ : ∃ it, l[j] = it := ⟨_, rfl⟩
      rw [hit] at hget hrd hbk hsum hd hrev hpre
      obtain ⟨sp, hsp⟩ : ∃ sp, LM.dsize ⟨t, m, q⟩ = sp := ⟨_, rfl⟩
      rw [hsp] at hget hrd hbk hsum hd hrev hpre
      have hE1 := LM.bsum_take_le l (j + 1)
      rw [LM.bodyOf_len, ← hBs] at hlt
      obtain ⟨A0, hA0⟩ : ∃ A0, LM.bsum (l.take j) = A0 := ⟨_, rfl⟩
      obtain ⟨A1, hA1⟩ : ∃ A1, LM.bsum (l.take (j + 1)) = A1 := ⟨_, rfl⟩
      rw [hA0] at hrd hbk hsum hlt hrev hpre
      rw [hA1] at hsum hE1 ⊢
      have hsub : A1 - LM.bsz sp = A0 + sp := by omega
      have HBB : Hid (∀ W', Calls Tryz.prog 373 #[.agg #[.string Bo, .int .i64 (l.length : Int)], .int .i64 (A1 : Int)] W' fun e w' => e = .returned (.int .i64 (A0 : Int)) ∧ Below W'.heap.size W' w') := fun W' => by
        have := bbef_any Bo (l.length : Int) A1 sp (by omega) (by omega) hd (by omega) (by rw [hsub, HBO.out]; exact hbk) W'
        rwa [show A1 - LM.bsz sp - sp = A0 by omega] at this
      obtain ⟨T, hTT⟩ : ∃ T, strB t = T := ⟨_, rfl⟩
      have HE : Hid (∀ W', Wid W' → Calls Tryz.prog 374 #[.agg #[.string Bo, .int .i64 (l.length : Int)], .int .i64 (A0 : Int)] W' fun e w' => e = .returned (.agg #[.string T, .int .i64 m, .bool q, .int .i64 (A0 : Int), .int .i64 (sp : Int)]) ∧ Below W'.heap.size W' w') := fun W' hW' => by
        have := entAt_any Bo (l.length : Int) A0 hlt (by omega) W' hW'
        rw [HBO.out, hrd] at this
        rw [← hTT]; exact this
      have HX : Hid (Box Bo (l.length : Int) bx wr) := hbx
      have HA0 : Hid _ := hA0
      have HJ : Hid _ := hJs
      have HRV : Hid _ := hrev
      have HPR : Hid _ := hpre
      clear hbx hJs hrev hpre hget hrd hbk hsum hd hsub hit hsp hA0 hA1
      gi_wp2_with fail
      refine ⟨trivial, fun h => (by cases h), (callsIn_wide.2 (HBB.out _)).mono ?_⟩
      rintro e w1 ⟨rfl, hb1⟩
      have HB1 : Hid (Below wr.heap.size wr w1) := hb1
      have HX1 : Hid (Box Bo (l.length : Int) bx w1) := HX.out.on hb1
      clear hb1 y0 y1 yf
      obtain ⟨y0, y1, yf⟩ := row2 HX1.out.row
      gi_wp2_with fail
      refine ⟨trivial, fun h => (by cases h), (callsIn_wide.2 (HE.out _ HX1.out.wid)).mono ?_⟩
      rintro e w2 ⟨rfl, hb2⟩
      have HB2 : Hid (Below wr.heap.size wr w2) := bel_to HB1.out hb2 (Nat.le_refl _)
      obtain ⟨fn, tmps, assign, body, hy, hR⟩ := HY.out _ _ _ HPR.out (hJ _ _ _ HJ.out HB2.out)
      simp only [encs, encE, hTT] at hy
      clear hb2
      gi_wp2
      refine ⟨fun h => (by cases h), hR.mono ?_⟩
      rintro e W3 (⟨rfl, hJ3, hkc, hz3⟩ | ⟨rfl, hJx3⟩ | ⟨rfl, hJp3⟩)
      · have HJ3 : Hid _ := hJ3
        have HZ : Hid (B0 ≤ W3.heap.size) := by have := HB2.out.size; show _ ≤ _; omega
        clear hJ3 hR hy hkc hz3
        gi_wp2
        refine ⟨?_, by simp [intOf]⟩
        have h3 := HJ3.out
        rw [HRV.out] at h3
        by_cases hj0 : j = 0
        · subst hj0
          refine Or.inl ⟨rfl, ?_, HZ.out⟩
          rwa [Nat.sub_zero, List.take_of_length_le (by rw [List.length_reverse, hlen]; omega)] at h3
        · refine Or.inr ⟨j - 1, by omega, by congr 1; omega, ?_, ?_, HZ.out⟩
          · rw [show j - 1 + 1 = j by omega, HA0.out]
          · rwa [show l.length - 1 - (j - 1) = l.length - j by omega]
      · gi_wp2
        refine bodyPost_ret (results_none rfl _ _ _) rfl ?_
        exact Or.inr (Or.inl ⟨⟨_, rfl⟩, _, HPR.out, hJx3⟩)
      · exact ⟨rfl, Or.inr (Or.inr ⟨rfl, Or.inl hJp3⟩)⟩
end Go.Proofs.YtfkcpilkhdbpoaaGreatDoor.S6
namespace Go.Proofs.YtfkcpilkhdbpoaaGreatDoor.S6
open Go.RowKit
set_option linter.unusedVariables false
attribute [local go_sem] Oper.semAt_some
theorem ents_pl (l : List LM.Item) (x : LM.Ent) (h : x ∈ LM.entsFrom 0 0 l) : ∃ j, ∃ hj : j < l.length, x = ⟨j, l[j], LM.bsum (l.take j), LM.dsize l[j]⟩ := by
  obtain ⟨j, hj⟩ := List.getElem?_of_mem h
  have hlt : j < l.length := by
    have := (List.getElem?_eq_some_iff.1 hj).1
    rwa [LM.ents_len] at this
  have := LM.ents_get l 0 0 j hlt
  simp only [Nat.zero_add] at this
  exact ⟨j, hlt, Option.some.inj (hj.symm.trans this)⟩
theorem ents_mem (l : List LM.Item) (i : Nat) (hi : i < l.length) : ∃ x ∈ LM.entsFrom 0 0 l, x.place = i := by
  have := LM.ents_get l 0 0 i hi
  simp only [Nat.zero_add] at this
  exact ⟨_, List.mem_of_getElem? this, rfl⟩
set_option maxHeartbeats 1000000 in
set_option maxRecDepth 100000 in
theorem begin_f (l : List LM.Item) (hl : ∀ it ∈ l, LM.Wf it) (hs : LM.bsum l ≤ 1073741824) (i : Nat) (hi : i < l.length) (hh : i ≤ l.length / 2) (w : World) (hw : Lay w) :
    Calls Tryz.prog 293 #[.agg #[.string (strB (LM.bodyOf l)), .int .i64 (l.length : Int)], .int .i64 i] w fun e w' => e = .returned (.int .i64 (LM.bsum (l.take i) : Nat)) ∧ Below w.heap.size w w' := by
  have HW : Hid (Lay w) := hw
  have hBs : (strB (LM.bodyOf l)).size = LM.bsum l := by rw [strB_size, LM.bodyOf_len]
  have HBL : Hid ((strB (LM.bodyOf l)).data.toList = LM.bodyOf l) := strB_list _
  have hge := LM.bsum_ge l
  generalize strB (LM.bodyOf l) = Bo at *
  have hne : ((i : Int) == (l.length : Int)) = false := by simp; omega
  have hnl : ¬ ((i : Int) = (l.length : Int)) := by omega
  have hdh : decide ((l.length : Int) / 2 < (i : Int)) = false := by simp; omega
  have hdt : Int.tdiv (l.length : Int) 2 = (l.length : Int) / 2 := Int.tdiv_eq_ediv_of_nonneg (by omega)
  clear hw
  refine calls_of_wpB (n := 10) Tryz.func293 rfl ?_
  simp only [Tryz.ntmps293, List.size_toArray, List.length_cons, List.length_nil, Nat.reduceAdd, Nat.reduceSub, Array.replicate_succ, Array.replicate_zero, List.push_toArray, List.append_toArray, List.nil_append, List.cons_append]
  refine wpB_then (n := 10) ?_
  gi_wp2
  obtain ⟨W1, hW1⟩ : ∃ W1, W1 = (w.alloc (.cells #[.string Bo, .int .i64 (l.length : Int)] 349)).alloc (.cells #[.int .i64 (i : Int)] 3) := ⟨_, rfl⟩
  have HB1 : Hid (Below w.heap.size w W1) := by rw [hW1]; exact ((Below.refl _ w).alloc (Nat.le_refl _) _).alloc (by simp) _
  have HP1 : Hid (W1.heap[w.heap.size]? = some (.cells #[.string Bo, .int .i64 (l.length : Int)] 349)) := by
    rw [hW1]; exact keep_row (one_alloc w _) ((Below.refl _ _).alloc (Nat.le_refl _) _)
  have HI1 : Hid (W1.heap[w.heap.size + 1]? = some (.cells #[.int .i64 (i : Int)] 3)) := by
    rw [hW1]
    have := one_alloc (w.alloc (.cells #[.string Bo, .int .i64 (l.length : Int)] 349)) (.cells #[.int .i64 (i : Int)] 3)
    rwa [World.size_alloc] at this
  rw [← hW1]
  clear hW1
  obtain ⟨p0, p1, pf⟩ := prow2 HP1.out
  obtain ⟨i0, if0⟩ := row1 HI1.out
  refine wpB_then (n := 10) ?_
  gi_wp2
  refine wpB_then (n := 10) ?_
  gi_wp2_with fail
  refine ⟨trivial, (callsIn_wide.2 (fwd_any Bo (l.length : Int) _)).mono ?_⟩
  rintro e w3 ⟨rfl, hw3⟩
  have HX3 : Hid (w3.heap[W1.heap.size]? = some (.cells #[.string Bo, .int .i64 (l.length : Int)] 349)) := by rw [hw3]; exact one_alloc W1 _
  have HS3 : Hid (w3.heap.size = W1.heap.size + 1) := by show _ = _; rw [hw3, World.size_alloc]
  have hbw : Below W1.heap.size W1 w3 := by rw [hw3]; exact (Below.refl _ _).alloc (Nat.le_refl _) _
  have HP3 : Hid _ := keep_row HP1.out hbw
  have HI3 : Hid _ := keep_row HI1.out hbw
  have HB3 : Hid (Below w.heap.size w w3) := bel_to HB1.out hbw (Nat.le_refl _)
  have hlt1 : w.heap.size + 1 < W1.heap.size := row_lt HI1.out
  clear hw3 hbw p0 p1 pf i0 if0
  obtain ⟨p0, p1, pf⟩ := prow2 HP3.out
  obtain ⟨i0, if0⟩ := row1 HI3.out
  gi_wp2
  refine wpB_then (n := 10) ?_
  gi_wp2
  obtain ⟨bx, hbx⟩ : ∃ bx, W1.heap.size = bx := ⟨_, rfl⟩
  rw [hbx]
  rw [hbx] at HX3
  obtain ⟨w4, hw4⟩ : ∃ w4, w4 = w3 := ⟨_, rfl⟩
  rw [← hw4]
  have HS4 : Hid (w4.heap.size = w3.heap.size) := by show _ = _; rw [hw4]
  have HX4 : Hid (w4.heap[bx]? = some (.cells #[.string Bo, .int .i64 (l.length : Int)] 349)) := by rw [hw4]; exact HX3.out
  have HP4 : Hid (w4.heap[w.heap.size]? = some (.cells #[.string Bo, .int .i64 (l.length : Int)] 349)) := by rw [hw4]; exact HP3.out
  have HI4 : Hid (w4.heap[w.heap.size + 1]? = some (.cells #[.int .i64 (i : Int)] 3)) := by rw [hw4]; exact HI3.out
  have HB4 : Hid (Below w.heap.size w w4) := by rw [hw4]; exact HB3.out
  clear hw4 p0 p1 pf i0 if0
  refine wpB_then (n := 10) ?_
  gi_wp2
  obtain ⟨w5, hw5⟩ : ∃ w5, w5 = w4.alloc (.cells #[.int .i64 0] 3) := ⟨_, rfl⟩
  rw [← hw5]
  obtain ⟨kb, hkb⟩ : ∃ kb, w4.heap.size = kb := ⟨_, rfl⟩
  rw [hkb]
  have HR5 : Hid (w5.heap[kb]? = some (.cells #[.int .i64 0] 3)) := by rw [hw5, ← hkb]; exact one_alloc w4 _
  have hs5 : w5.heap.size = kb + 1 := by rw [hw5, World.size_alloc, hkb]
  have hbw : Below w4.heap.size w4 w5 := by rw [hw5]; exact (Below.refl _ _).alloc (Nat.le_refl _) _
  have HX5 : Hid _ := keep_row HX4.out hbw
  have HI5 : Hid _ := keep_row HI4.out hbw
  have HB5 : Hid (Below w.heap.size w w5) := bel_to HB4.out hbw (Nat.le_refl _)
  clear hw5 hbw
  refine wpB_seq (wpB_then (n := 10) ?_)
  gi_wp2
  refine wpB_block ?_
  have hseq := fwd_seq 9 Bo (l.length : Int) bx (l.length + LM.bsum l + 1) w5.heap.size (by omega) (by omega)
  rw [HBL.out, LM.parse_body l _ 0 0 hl (by omega)] at hseq
  have HDIS : Hid (bx < kb ∧ w.heap.size + 1 < kb ∧ w.heap.size + 1 < w5.heap.size) := by
    have h1 := row_lt HX4.out
    have h2 := row_lt HI4.out
    have h3 := row_lt HI5.out
    refine ⟨by omega, by omega, h3⟩
  have HSQ : Hid _ := hseq
  clear hseq
  refine WpB_act (fun a0 ha0 => ?_)
  refine wpB_range (n := 10) (α := LM.Ent) (encs := encs) (L := (LM.entsFrom 0 0 l)) (bad := false) (pch := pch) (box := Box Bo (l.length : Int) bx) Tryz.func293 (gf := 320) (lb := #[.pointer (some ⟨bx, 0, none⟩)]) (by rw [ha0]; rfl) (enters_of Tryz.func320 (by kernel_rfl) rfl) HSQ.out (fun _ => rfl)
    (fun pre W => W.heap[w.heap.size + 1]? = some (.cells #[.int .i64 (i : Int)] 3) ∧ W.heap[kb]? = some (.cells #[.int .i64 0] 3) ∧ W.heap[bx]? = some (.cells #[.string Bo, .int .i64 (l.length : Int)] 349) ∧ Below w.heap.size w W ∧ ∀ y ∈ pre, y.place ≠ i)
    (fun cd pre W => cd = .exit 0 ∧ W.heap[kb]? = some (.cells #[.int .i64 (LM.bsum (l.take i) : Nat)] 3) ∧ Below w.heap.size w W)
    (fun _ => False)
    ?hI ?hIx (fun _ _ _ _ hs _ _ => hs) ?hbox ?h0
    (fun (x : LM.Ent) (a' : Act) (W : World) => ∃ kk : Nat, a' = { tmps := (((a0.tmps.setIfInBounds 26 (.int .i64 (x.place : Int))).setIfInBounds 27 (encE x.it x.begin x.span)).setIfInBounds 7 (.int .i64 (x.place : Int))).setIfInBounds 8 (.pointer (some ⟨kk, 0, none⟩)), defers := [] } ∧ W.heap[kk]? = some (.cells #[.string (strB x.it.txt), .int .i64 x.it.num, .bool x.it.isN, .int .i64 (x.begin : Int), .int .i64 (x.span : Int)] 387)) ?hAx ?assign ?body ?done ?stop ?pan
  case hI =>
    rintro s A B row ⟨h2, h3, h4, h5, h6⟩ hg hr
    exact ⟨own_row h2 hg hr, own_row h3 hg hr, own_row h4 hg hr, ownFrom_below (β := Unit) (Nat.le_refl _) HB5.out.size () A B row h5 hg hr, h6⟩
  case hIx =>
    rintro cd s A B row ⟨h1, h2, h3⟩ hg hr
    exact ⟨h1, own_row h2 hg hr, ownFrom_below (β := Unit) (Nat.le_refl _) HB5.out.size () A B row h3 hg hr⟩
  case hbox =>
    rintro pre W ⟨h2, h3, h4, h5, h6⟩
    exact ⟨h4, (HW.out.on h5).wid⟩
  case h0 => exact ⟨HI5.out, HR5.out, HX5.out, HB5.out, by simp⟩
  case hAx =>
    rintro x a' s A B row ⟨kk, h1, h2⟩ hg hr
    exact ⟨kk, h1, own_row h2 hg hr⟩
  case pan => intro D W _ h; rcases h with h | ⟨h, _⟩; exact h.elim; cases h
  case assign =>
    intro ll pre x W K hpre hI hK
    have HKK : Hid _ := hK
    clear hK hI
    obtain ⟨pl, ⟨t, m, q⟩, a, n⟩ := x
    obtain ⟨T, hT⟩ : ∃ T, strB t = T := ⟨_, rfl⟩
    have HA0 : Hid _ := ha0
    rw [ha0]
    simp only [encs, encE, hT, List.zip_toArray, List.zip_cons_cons, List.zip_nil_right, List.foldl_toArray, List.foldl_cons, List.foldl_nil, List.setIfInBounds_toArray, List.set_cons_zero, List.set_cons_succ]
    clear ha0
    gi_wp2
    refine HKK.out _ _ ((Below.refl _ W).alloc (Nat.le_refl _) _) ⟨W.heap.size, ?_, ?_⟩
    · rw [HA0.out, ← hT]; rfl
    · rw [hT]; exact one_alloc W _
  case body =>
    rintro ll pre x a' W hll hpre ⟨hI, hR, hX, hb, hpi⟩ ⟨kk, ha', hrow⟩
    have hmem : x ∈ LM.entsFrom 0 0 l := hpre.subset (by simp)
    obtain ⟨jj, hjj, hx⟩ := ents_pl l x hmem
    have HX0 : Hid (x.begin = LM.bsum (l.take x.place)) := by rw [hx]; rfl
    have HPP : Hid (x.place ≠ i → ∀ y ∈ pre ++ [x], y.place ≠ i) := fun hne y hy => by
      rcases List.mem_append.1 hy with h | h
      · exact hpi y h
      · rw [List.mem_singleton.1 h]; exact hne
    clear hx hmem hjj hpi
    obtain ⟨pl, ⟨t, m, q⟩, a, n⟩ := x
    simp only at HX0 HPP
    obtain ⟨T, hT⟩ : ∃ T, strB t = T := ⟨_, rfl⟩
    simp only [encE, hT] at ha' hrow
    have HI : Hid _ := hI
    have HR : Hid _ := hR
    have HXX : Hid _ := hX
    have HB : Hid (Below w.heap.size w W) := hb
    obtain ⟨i0, if0⟩ := row1 hI
    obtain ⟨r0, rf0⟩ := row1 hR
    obtain ⟨k0, k1, k2, k3, k4, kf⟩ := row5 hrow
    rw [ha', ha0]
    simp only [List.setIfInBounds_toArray, List.set_cons_zero, List.set_cons_succ]
    by_cases hpe : (pl : Int) = (i : Int)
    · have hpt : ((pl : Int) == (i : Int)) = true := by simpa using hpe
      have HPE : Hid (pl = i) := by show _ = _; omega
      clear ha' ha0 hI hR hX hb hpre hpe
      gi_wp2
      have hdis := HDIS.out
      refine ⟨KA.setCell _ _ _ (by show kb < kb + 1; omega), rfl, ?_, HB.out.setCell (p := ⟨kb, 0, none⟩) (by show w.heap.size ≤ kb; omega) _⟩
      rw [heap_setCell_same _ _ _ _ _ _ HR.out]
      rw [HX0.out, HPE.out]; rfl
    · have hpf : ((pl : Int) == (i : Int)) = false := by simpa using hpe
      have HPL : Hid (pl ≠ i) := fun h => hpe (by rw [h])
      clear ha' ha0 hI hR hX hb hpre hpe
      gi_wp2
      exact ⟨KA.refl _ _, HI.out, HR.out, HXX.out, HB.out, HPP.out HPL.out⟩
  case stop =>
    rintro D cd pre W hD hpre ⟨rfl, hr, hb⟩ hDr
    rw [ha0]
    obtain ⟨r0, rf0⟩ := row1 hr
    have HR : Hid _ := hr
    have HDR : Hid _ := hDr
    have HB : Hid (Below w.heap.size w W) := hb
    clear ha0 hb hDr hr
    refine wpB_of (n := 10) ?_
    gi_wp2
    refine wpB_then (n := 10) ?_
    gi_wp2
    refine wpB_of (n := 10) ?_
    gi_wp2
    refine ⟨by simp, .inl ⟨_, _, rfl, run_takeDeferred HDR.out, ?_⟩⟩
    refine ⟨.int .i64 (LM.bsum (l.take i) : Nat), ?_, rfl, put_below HB.out (by have := HB5.out.size; omega)⟩
    simp [results, Tryz.results293, go_sem]
  case done =>
    rintro D W hD _ ⟨hI, hR, hX, hb, hpi⟩ hDr
    obtain ⟨y, hy, hyi⟩ := ents_mem l i hi
    exact absurd hyi (hpi y hy)
set_option maxHeartbeats 1000000 in
set_option maxRecDepth 100000 in
theorem begin_b (l : List LM.Item) (hl : ∀ it ∈ l, LM.Wf it) (hs : LM.bsum l ≤ 1073741824) (i : Nat) (hi : i < l.length) (hh : l.length / 2 < i) (w : World) (hw : Lay w) :
    Calls Tryz.prog 293 #[.agg #[.string (strB (LM.bodyOf l)), .int .i64 (l.length : Int)], .int .i64 i] w fun e w' => e = .returned (.int .i64 (LM.bsum (l.take i) : Nat)) ∧ Below w.heap.size w w' := by
  have HW : Hid (Lay w) := hw
  have hBs : (strB (LM.bodyOf l)).size = LM.bsum l := by rw [strB_size, LM.bodyOf_len]
  have HBL : Hid ((strB (LM.bodyOf l)).data.toList = LM.bodyOf l) := strB_list _
  have hge := LM.bsum_ge l
  generalize strB (LM.bodyOf l) = Bo at *
  have hne : ((i : Int) == (l.length : Int)) = false := by simp; omega
  have hnl : ¬ ((i : Int) = (l.length : Int)) := by omega
  have hdh : decide ((l.length : Int) / 2 < (i : Int)) = true := by simp; omega
  have hdt : Int.tdiv (l.length : Int) 2 = (l.length : Int) / 2 := Int.tdiv_eq_ediv_of_nonneg (by omega)
  clear hw
  refine calls_of_wpB (n := 10) Tryz.func293 rfl ?_
  simp only [Tryz.ntmps293, List.size_toArray, List.length_cons, List.length_nil, Nat.reduceAdd, Nat.reduceSub, Array.replicate_succ, Array.replicate_zero, List.push_toArray, List.append_toArray, List.nil_append, List.cons_append]
  refine wpB_then (n := 10) ?_
  gi_wp2
  obtain ⟨W1, hW1⟩ : ∃ W1, W1 = (w.alloc (.cells #[.string Bo, .int .i64 (l.length : Int)] 349)).alloc (.cells #[.int .i64 (i : Int)] 3) := ⟨_, rfl⟩
  have HB1 : Hid (Below w.heap.size w W1) := by rw [hW1]; exact ((Below.refl _ w).alloc (Nat.le_refl _) _).alloc (by simp) _
  have HP1 : Hid (W1.heap[w.heap.size]? = some (.cells #[.string Bo, .int .i64 (l.length : Int)] 349)) := by
    rw [hW1]; exact keep_row (one_alloc w _) ((Below.refl _ _).alloc (Nat.le_refl _) _)
  have HI1 : Hid (W1.heap[w.heap.size + 1]? = some (.cells #[.int .i64 (i : Int)] 3)) := by
    rw [hW1]
    have := one_alloc (w.alloc (.cells #[.string Bo, .int .i64 (l.length : Int)] 349)) (.cells #[.int .i64 (i : Int)] 3)
    rwa [World.size_alloc] at this
  rw [← hW1]
  clear hW1
  obtain ⟨p0, p1, pf⟩ := prow2 HP1.out
  obtain ⟨i0, if0⟩ := row1 HI1.out
  refine wpB_then (n := 10) ?_
  gi_wp2
  refine wpB_then (n := 10) ?_
  gi_wp2_with fail
  refine ⟨trivial, (callsIn_wide.2 (fwd_any Bo (l.length : Int) _)).mono ?_⟩
  rintro e w3 ⟨rfl, hw3⟩
  have HX3 : Hid (w3.heap[W1.heap.size]? = some (.cells #[.string Bo, .int .i64 (l.length : Int)] 349)) := by rw [hw3]; exact one_alloc W1 _
  have HS3 : Hid (w3.heap.size = W1.heap.size + 1) := by show _ = _; rw [hw3, World.size_alloc]
  have hbw : Below W1.heap.size W1 w3 := by rw [hw3]; exact (Below.refl _ _).alloc (Nat.le_refl _) _
  have HP3 : Hid _ := keep_row HP1.out hbw
  have HI3 : Hid _ := keep_row HI1.out hbw
  have HB3 : Hid (Below w.heap.size w w3) := bel_to HB1.out hbw (Nat.le_refl _)
  have hlt1 : w.heap.size + 1 < W1.heap.size := row_lt HI1.out
  clear hw3 hbw p0 p1 pf i0 if0
  obtain ⟨p0, p1, pf⟩ := prow2 HP3.out
  obtain ⟨i0, if0⟩ := row1 HI3.out
  gi_wp2
  refine wpB_then (n := 10) ?_
  gi_wp2_with fail
  refine ⟨trivial, (callsIn_wide.2 (bwd_any Bo (l.length : Int) _)).mono ?_⟩
  rintro e w4 ⟨rfl, hw4⟩
  obtain ⟨bx, hbx⟩ : ∃ bx, w3.heap.size = bx := ⟨_, rfl⟩
  rw [hbx]
  have HX4 : Hid (w4.heap[bx]? = some (.cells #[.string Bo, .int .i64 (l.length : Int)] 349)) := by rw [hw4, ← hbx]; exact one_alloc w3 _
  have HS4 : Hid (w4.heap.size = w3.heap.size + 1) := by show _ = _; rw [hw4, World.size_alloc]
  have hbw : Below w3.heap.size w3 w4 := by rw [hw4]; exact (Below.refl _ _).alloc (Nat.le_refl _) _
  have HP4 : Hid _ := keep_row HP3.out hbw
  have HI4 : Hid _ := keep_row HI3.out hbw
  have HB4 : Hid (Below w.heap.size w w4) := bel_to HB3.out hbw (Nat.le_refl _)
  clear hw4 hbw p0 p1 pf i0 if0
  gi_wp2
  refine wpB_then (n := 10) ?_
  gi_wp2
  obtain ⟨w5, hw5⟩ : ∃ w5, w5 = w4.alloc (.cells #[.int .i64 0] 3) := ⟨_, rfl⟩
  rw [← hw5]
  obtain ⟨kb, hkb⟩ : ∃ kb, w4.heap.size = kb := ⟨_, rfl⟩
  rw [hkb]
  have HR5 : Hid (w5.heap[kb]? = some (.cells #[.int .i64 0] 3)) := by rw [hw5, ← hkb]; exact one_alloc w4 _
  have hs5 : w5.heap.size = kb + 1 := by rw [hw5, World.size_alloc, hkb]
  have hbw : Below w4.heap.size w4 w5 := by rw [hw5]; exact (Below.refl _ _).alloc (Nat.le_refl _) _
  have HX5 : Hid _ := keep_row HX4.out hbw
  have HI5 : Hid _ := keep_row HI4.out hbw
  have HB5 : Hid (Below w.heap.size w w5) := bel_to HB4.out hbw (Nat.le_refl _)
  clear hw5 hbw
  refine wpB_seq (wpB_then (n := 10) ?_)
  gi_wp2
  refine wpB_block ?_
  have hseq := bwd_seq 9 l hl hs Bo HBL.out bx w5.heap.size
  have HDIS : Hid (bx < kb ∧ w.heap.size + 1 < kb ∧ w.heap.size + 1 < w5.heap.size) := by
    have h1 := row_lt HX4.out
    have h2 := row_lt HI4.out
    have h3 := row_lt HI5.out
    refine ⟨by omega, by omega, h3⟩
  have HSQ : Hid _ := hseq
  clear hseq
  refine WpB_act (fun a0 ha0 => ?_)
  refine wpB_range (n := 10) (α := LM.Ent) (encs := encs) (L := (LM.entsFrom 0 0 l).reverse) (bad := false) (pch := pch) (box := Box Bo (l.length : Int) bx) Tryz.func293 (gf := 372) (lb := #[.pointer (some ⟨bx, 0, none⟩)]) (by rw [ha0]; rfl) (enters_of Tryz.func372 (by kernel_rfl) rfl) HSQ.out (fun _ => rfl)
    (fun pre W => W.heap[w.heap.size + 1]? = some (.cells #[.int .i64 (i : Int)] 3) ∧ W.heap[kb]? = some (.cells #[.int .i64 0] 3) ∧ W.heap[bx]? = some (.cells #[.string Bo, .int .i64 (l.length : Int)] 349) ∧ Below w.heap.size w W ∧ ∀ y ∈ pre, y.place ≠ i)
    (fun cd pre W => cd = .exit 0 ∧ W.heap[kb]? = some (.cells #[.int .i64 (LM.bsum (l.take i) : Nat)] 3) ∧ Below w.heap.size w W)
    (fun _ => False)
    ?hI ?hIx (fun _ _ _ _ hs _ _ => hs) ?hbox ?h0
    (fun (x : LM.Ent) (a' : Act) (W : World) => ∃ kk : Nat, a' = { tmps := (((a0.tmps.setIfInBounds 26 (.int .i64 (x.place : Int))).setIfInBounds 27 (encE x.it x.begin x.span)).setIfInBounds 7 (.int .i64 (x.place : Int))).setIfInBounds 8 (.pointer (some ⟨kk, 0, none⟩)), defers := [] } ∧ W.heap[kk]? = some (.cells #[.string (strB x.it.txt), .int .i64 x.it.num, .bool x.it.isN, .int .i64 (x.begin : Int), .int .i64 (x.span : Int)] 387)) ?hAx ?assign ?body ?done ?stop ?pan
  case hI =>
    rintro s A B row ⟨h2, h3, h4, h5, h6⟩ hg hr
    exact ⟨own_row h2 hg hr, own_row h3 hg hr, own_row h4 hg hr, ownFrom_below (β := Unit) (Nat.le_refl _) HB5.out.size () A B row h5 hg hr, h6⟩
  case hIx =>
    rintro cd s A B row ⟨h1, h2, h3⟩ hg hr
    exact ⟨h1, own_row h2 hg hr, ownFrom_below (β := Unit) (Nat.le_refl _) HB5.out.size () A B row h3 hg hr⟩
  case hbox =>
    rintro pre W ⟨h2, h3, h4, h5, h6⟩
    exact ⟨h4, (HW.out.on h5).wid⟩
  case h0 => exact ⟨HI5.out, HR5.out, HX5.out, HB5.out, by simp⟩
  case hAx =>
    rintro x a' s A B row ⟨kk, h1, h2⟩ hg hr
    exact ⟨kk, h1, own_row h2 hg hr⟩
  case pan => intro D W _ h; rcases h with h | ⟨h, _⟩; exact h.elim; cases h
  case assign =>
    intro ll pre x W K hpre hI hK
    have HKK : Hid _ := hK
    clear hK hI
    obtain ⟨pl, ⟨t, m, q⟩, a, n⟩ := x
    obtain ⟨T, hT⟩ : ∃ T, strB t = T := ⟨_, rfl⟩
    have HA0 : Hid _ := ha0
    rw [ha0]
    simp only [encs, encE, hT, List.zip_toArray, List.zip_cons_cons, List.zip_nil_right, List.foldl_toArray, List.foldl_cons, List.foldl_nil, List.setIfInBounds_toArray, List.set_cons_zero, List.set_cons_succ]
    clear ha0
    gi_wp2
    refine HKK.out _ _ ((Below.refl _ W).alloc (Nat.le_refl _) _) ⟨W.heap.size, ?_, ?_⟩
    · rw [HA0.out, ← hT]; rfl
    · rw [hT]; exact one_alloc W _
  case body =>
    rintro ll pre x a' W hll hpre ⟨hI, hR, hX, hb, hpi⟩ ⟨kk, ha', hrow⟩
    have hmem : x ∈ LM.entsFrom 0 0 l := List.mem_reverse.1 (hpre.subset (by simp))
    obtain ⟨jj, hjj, hx⟩ := ents_pl l x hmem
    have HX0 : Hid (x.begin = LM.bsum (l.take x.place)) := by rw [hx]; rfl
    have HPP : Hid (x.place ≠ i → ∀ y ∈ pre ++ [x], y.place ≠ i) := fun hne y hy => by
      rcases List.mem_append.1 hy with h | h
      · exact hpi y h
      · rw [List.mem_singleton.1 h]; exact hne
    clear hx hmem hjj hpi
    obtain ⟨pl, ⟨t, m, q⟩, a, n⟩ := x
    simp only at HX0 HPP
    obtain ⟨T, hT⟩ : ∃ T, strB t = T := ⟨_, rfl⟩
    simp only [encE, hT] at ha' hrow
    have HI : Hid _ := hI
    have HR : Hid _ := hR
    have HXX : Hid _ := hX
    have HB : Hid (Below w.heap.size w W) := hb
    obtain ⟨i0, if0⟩ := row1 hI
    obtain ⟨r0, rf0⟩ := row1 hR
    obtain ⟨k0, k1, k2, k3, k4, kf⟩ := row5 hrow
    rw [ha', ha0]
    simp only [List.setIfInBounds_toArray, List.set_cons_zero, List.set_cons_succ]
    by_cases hpe : (pl : Int) = (i : Int)
    · have hpt : ((pl : Int) == (i : Int)) = true := by simpa using hpe
      have HPE : Hid (pl = i) := by show _ = _; omega
      clear ha' ha0 hI hR hX hb hpre hpe
      gi_wp2
      have hdis := HDIS.out
      refine ⟨KA.setCell _ _ _ (by show kb < kb + 1; omega), rfl, ?_, HB.out.setCell (p := ⟨kb, 0, none⟩) (by show w.heap.size ≤ kb; omega) _⟩
      rw [heap_setCell_same _ _ _ _ _ _ HR.out]
      rw [HX0.out, HPE.out]; rfl
    · have hpf : ((pl : Int) == (i : Int)) = false := by simpa using hpe
      have HPL : Hid (pl ≠ i) := fun h => hpe (by rw [h])
      clear ha' ha0 hI hR hX hb hpre hpe
      gi_wp2
      exact ⟨KA.refl _ _, HI.out, HR.out, HXX.out, HB.out, HPP.out HPL.out⟩
  case stop =>
    rintro D cd pre W hD hpre ⟨rfl, hr, hb⟩ hDr
    rw [ha0]
    obtain ⟨r0, rf0⟩ := row1 hr
    have HR : Hid _ := hr
    have HDR : Hid _ := hDr
    have HB : Hid (Below w.heap.size w W) := hb
    clear ha0 hb hDr hr
    refine wpB_of (n := 10) ?_
    gi_wp2
    refine wpB_then (n := 10) ?_
    gi_wp2
    refine wpB_of (n := 10) ?_
    gi_wp2
    refine ⟨by simp, .inl ⟨_, _, rfl, run_takeDeferred HDR.out, ?_⟩⟩
    refine ⟨.int .i64 (LM.bsum (l.take i) : Nat), ?_, rfl, put_below HB.out (by have := HB5.out.size; omega)⟩
    simp [results, Tryz.results293, go_sem]
  case done =>
    rintro D W hD _ ⟨hI, hR, hX, hb, hpi⟩ hDr
    obtain ⟨y, hy, hyi⟩ := ents_mem l i hi
    exact absurd hyi (hpi y (List.mem_reverse.2 hy))
theorem begC_any (l : List LM.Item) (hl : ∀ it ∈ l, LM.Wf it) (hs : LM.bsum l ≤ 1073741824) : BegC l := fun k hk W hW => by
  by_cases h1 : k = l.length
  · subst h1
    have := begin_end (strB (LM.bodyOf l)) l.length W
    rw [strB_size, LM.bodyOf_len] at this
    rw [show LM.bsum (l.take l.length) = LM.bsum l by rw [List.take_length]]
    exact this
  · by_cases h2 : k ≤ l.length / 2
    · exact begin_f l hl hs k (by omega) h2 W hW
    · exact begin_b l hl hs k (by omega) (by omega) W hW
end Go.Proofs.YtfkcpilkhdbpoaaGreatDoor.S6
