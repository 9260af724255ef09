import Derived.Test.YtafphabeihoijaaDoorEnt
import Derived.Test.YtafphabeihoijaaDoorLeaf3
namespace Go.Proofs.YtafphabeihoijaaDoor
open Go.RowKit
set_option linter.unusedVariables false
theorem bk_1 (n : Nat) (h : n < 128) : LM.bsz n = 1 ∧ LM.back n = [UInt8.ofNat n] := by
  have hb : LM.bsz n = 1 := by unfold LM.bsz; rw [if_pos h]
  refine ⟨hb, ?_⟩
  unfold LM.back; rw [hb]; show [LM.bbyte n 1 0] = _; unfold LM.bbyte
  rw [show n / 128 ^ (1 - 1 - 0) % 128 + (if 0 < 0 then 128 else 0) = n by simp; omega]
theorem bk_2 (n : Nat) (h1 : 128 ≤ n) (h2 : n < 16384) : LM.bsz n = 2 ∧ LM.back n = [UInt8.ofNat (n / 128), UInt8.ofNat (n % 128 + 128)] := by
  have hb : LM.bsz n = 2 := by unfold LM.bsz; rw [if_neg (by omega), if_pos h2]
  refine ⟨hb, ?_⟩
  unfold LM.back; rw [hb]; show [LM.bbyte n 2 0, LM.bbyte n 2 1] = _; unfold LM.bbyte
  rw [show n / 128 ^ (2 - 1 - 0) % 128 + (if 0 < 0 then 128 else 0) = n / 128 by simp; omega, show n / 128 ^ (2 - 1 - 1) % 128 + (if 0 < 1 then 128 else 0) = n % 128 + 128 by simp]
theorem bk_3 (n : Nat) (h1 : 16384 ≤ n) (h2 : n < 2097152) : LM.bsz n = 3 ∧ LM.back n = [UInt8.ofNat (n / 128 / 128), UInt8.ofNat (n / 128 % 128 + 128), UInt8.ofNat (n % 128 + 128)] := by
  have hb : LM.bsz n = 3 := by unfold LM.bsz; rw [if_neg (by omega), if_neg (by omega), if_pos h2]
  refine ⟨hb, ?_⟩
  unfold LM.back; rw [hb]; show [LM.bbyte n 3 0, LM.bbyte n 3 1, LM.bbyte n 3 2] = _; unfold LM.bbyte
  rw [show n / 128 ^ (3 - 1 - 0) % 128 + (if 0 < 0 then 128 else 0) = n / 128 / 128 by simp; omega, show n / 128 ^ (3 - 1 - 1) % 128 + (if 0 < 1 then 128 else 0) = n / 128 % 128 + 128 by simp, show n / 128 ^ (3 - 1 - 2) % 128 + (if 0 < 2 then 128 else 0) = n % 128 + 128 by simp]
theorem bk_at {b : ByteArray} {E g j : Nat} {B : List UInt8} (h : (b.data.toList.drop (E - g)).take g = B) (hE : E ≤ b.size) (hg : g ≤ E) (hj : j < g) {x : UInt8} (hx : B[j]? = some x) (k : Nat) (hk : k = E - g + j) (hkb : k < b.size) : b[k] = x := by
  subst hk
  have h1 := at_list b (E - g + j) hkb
  rw [← h, List.getElem?_take_of_lt hj, List.getElem?_drop, h1] at hx
  exact Option.some.inj hx
theorem row2b {w : World} {g T : Nat} {v0 v1 : Value} (h : w.heap[g]? = some (.cells #[v0, v1] T)) :
    w.cell? ⟨g, 0, none⟩ = some v0 ∧ w.cell? ⟨g, 1, none⟩ = some v1 ∧ ∀ j, w.frozen? ⟨g, j, none⟩ = false := by
  refine ⟨?_, ?_, fun j => frozen_of_row _ _ _ _ _ h⟩ <;> rw [cell_of_row _ _ _ _ _ _ h] <;> rfl
theorem w64_mul (y k : Nat) (h : y < 128) (hk : k ≤ 16384) : wrap64 ((y : Int) * (k : Int)) = (y : Int) * (k : Int) := by
  have h1 : (y : Int) * (k : Int) = ((y * k : Nat) : Int) := by simp
  have h2 : y * k ≤ 128 * 16384 := Nat.mul_le_mul (by omega) hk
  rw [h1]; unfold wrap64; omega
theorem w64_sub (p n : Nat) (hp : p ≤ 4294967296) (hn : n < 2097152) : wrap64 ((p : Int) - wrap64 (n : Int)) = (p : Int) - n := by
  unfold wrap64; omega
theorem or_step {X Y n : Nat} {A B z : Int} (h : bits .or .i64 (wrap64 (X : Int)) A = wrap64 (Y : Int)) (hA : A = B) (hY : Y = n) (hz : B = z) : bits .or .i64 (wrap64 (X : Int)) z = wrap64 (n : Int) := by
  subst hA; subst hY; subst hz; exact h
theorem bk_byte (n j : Nat) (h : n < 2097152) (hj : j < LM.bsz n) : ∃ x, (LM.back n)[LM.bsz n - 1 - j]? = some x ∧ x.toNat = n / 128 ^ j % 128 + (if j + 1 < LM.bsz n then 128 else 0) := by
  have h3 := LM.bsz_le3 n h
  refine ⟨LM.bbyte n (LM.bsz n) (LM.bsz n - 1 - j), by simp only [LM.back, List.getElem?_map, List.getElem?_range (show LM.bsz n - 1 - j < LM.bsz n by omega), Option.map_some], ?_⟩
  unfold LM.bbyte
  rw [show LM.bsz n - 1 - (LM.bsz n - 1 - j) = j by omega]
  have h1 : n / 128 ^ j % 128 < 128 := Nat.mod_lt _ (by omega)
  by_cases hl : j + 1 < LM.bsz n
  · rw [if_pos hl, if_pos (by omega), LM.ofNat_toNat _ (by omega)]
  · rw [if_neg hl, if_neg (by omega), LM.ofNat_toNat _ (by omega)]
theorem bsz_pow (n : Nat) (h : n < 2097152) : n < 128 ^ LM.bsz n := by
  unfold LM.bsz; (repeat' split) <;> omega
theorem mod_next (n k : Nat) : n % 128 ^ (k + 1) = n % 128 ^ k + n / 128 ^ k % 128 * 2 ^ (7 * k) := by
  rw [Nat.pow_succ, Nat.mod_mul, Nat.pow_mul, Nat.mul_comm (128 ^ k)]
set_option maxHeartbeats 1000000 in
set_option maxRecDepth 100000 in
theorem bbef_any (b : ByteArray) (c : Int) (E n : Nat) (hE : E ≤ b.size) (hs : b.size ≤ 4294967296) (hn : n < 2097152) (hle : n + LM.bsz n ≤ E) (hbk : (b.data.toList.drop (E - LM.bsz n)).take (LM.bsz n) = LM.back n) (w : World) :
    Calls Tryd.prog 43 #[.agg #[.string b, .int .i64 c], .int .i64 (E : Int)] w fun e w' => e = .returned (.int .i64 ((E - LM.bsz n - n : Nat) : Int)) ∧ Below w.heap.size w w' := by
  obtain ⟨g, hg⟩ : ∃ g, LM.bsz n = g := ⟨_, rfl⟩
  have h1 := LM.bsz_pos n
  have h3 := LM.bsz_le3 n hn
  have HPW : Hid (n < 128 ^ g) := by rw [← hg]; exact bsz_pow n hn
  have HBY : Hid (∀ j, j < g → ∀ p (hp : p < b.size), p + 1 + j = E → b[p].toNat = n / 128 ^ j % 128 + (if j + 1 < g then 128 else 0)) := fun j hj p hp he => by
    obtain ⟨x, hx1, hx2⟩ := bk_byte n j hn (by omega)
    rw [bk_at hbk hE (by omega) (j := LM.bsz n - 1 - j) (by omega) hx1 p (by omega) hp, hx2, hg]
  rw [hg]
  rw [hg] at h1 h3 hle
  clear hbk hg
  have HR0 : Hid ((w.alloc (.cells #[.string b, .int .i64 c] 50)).heap[w.heap.size]? = some (.cells #[.string b, .int .i64 c] 50)) := one_alloc w _
  have HB0 : Hid (Below w.heap.size w (w.alloc (.cells #[.string b, .int .i64 c] 50))) := (Below.refl _ w).alloc (Nat.le_refl _) _
  go_enter Tryd.func43, Tryd.ntmps43
  go_wp2
  go_loopw [1, 5, 6] (fun at_ sz sh wr => ∃ j p : Nat, j < g ∧ p + 1 + j = E ∧ at_ = .int .i64 ((p : Int) + 1) ∧ sz = .int .i64 (wrap64 (n % 128 ^ j : Nat)) ∧ sh = .int .i64 ((7 * j : Nat) : Int) ∧ wr.heap[w.heap.size]? = some (.cells #[.string b, .int .i64 c] 50) ∧ Below w.heap.size w wr)
    (fun at_ _ _ _ => (intOf at_).toNat)
  case atStart => exact ⟨0, E - 1, by omega, by omega, by congr 1; omega, by simp [Nat.mod_one, wrap64], rfl, HR0.out, HB0.out⟩
  case round =>
    obtain ⟨j, p, hj, hp, rfl, rfl, rfl, hrow, hbel⟩ := hrel
    have hpb : p < b.size := by omega
    have hby := HBY.out j hj p hpb hp
    have hnx := mod_next n j
    have hXl : n % 128 ^ j < 2 ^ (7 * j) := by rw [Nat.pow_mul]; exact Nat.mod_lt _ (Nat.pow_pos (by omega))
    have hyl : n / 128 ^ j % 128 < 128 := Nat.mod_lt _ (by omega)
    have hor := or64 (n % 128 ^ j) (n / 128 ^ j % 128) (7 * j) hXl (by omega) (by omega)
    rw [← hnx] at hor
    have HN : Hid (j + 1 = g → n % 128 ^ (j + 1) = n) := fun h => by rw [h]; exact Nat.mod_eq_of_lt HPW.out
    generalize n % 128 ^ j = X at hor ⊢
    generalize hY : n % 128 ^ (j + 1) = Y at hor HN
    generalize n / 128 ^ j % 128 = y at hby hyl hor
    obtain ⟨d0, d1, df⟩ := row2b hrow
    have HB : Hid (Below w.heap.size w wr) := hbel
    have HROW : Hid _ := hrow
    have hq0 : (0 : Int) ≤ (p : Int) := by omega
    have hq1 : (p : Int) < (b.size : Int) := by omega
    by_cases hlast : j + 1 < g
    · rw [if_pos hlast] at hby
      obtain ⟨q, hq⟩ : ∃ q : Nat, b[p].toNat = q := ⟨_, rfl⟩
      rw [hq] at hby
      have hqm : (q : Int) % 128 = (y : Int) := by omega
      have hqd : decide ((q : Int) < 128) = false := by simp; omega
      have hq8 : q < 256 := by omega
      have HYY : Hid _ := hY
      have HH : Hid _ := hby
      clear hbel hrow hby HN hY HPW HBY
      have HP : Hid (1 ≤ p) := by show _ ≤ _; omega
      rcases (show j = 0 ∨ j = 1 by omega) with rfl | rfl
      all_goals
        simp only [Nat.reduceMul, Nat.reducePow, Int.natCast_mul] at hor
        have HOR : Hid _ := hor
        clear hor
        go_wp2
      · have hp1 := HP.out
        refine ⟨⟨1, p - 1, hlast, by omega, by congr 1; omega, ?_, rfl, HROW.out, HB.out⟩, by simp [intOf]⟩
        rw [HYY.out]
        refine congrArg (Value.int .i64) (Eq.trans ?_ HOR.out)
        congr 1; unfold wrap64; omega
      · have hp1 := HP.out
        refine ⟨⟨2, p - 1, hlast, by omega, by congr 1; omega, ?_, rfl, HROW.out, HB.out⟩, by simp [intOf]⟩
        rw [HYY.out]
        refine congrArg (Value.int .i64) (Eq.trans ?_ HOR.out)
        congr 1; unfold wrap64; omega
    · rw [if_neg hlast] at hby
      obtain ⟨q, hq⟩ : ∃ q : Nat, b[p].toNat = q := ⟨_, rfl⟩
      rw [hq] at hby
      have hqm : (q : Int) % 128 = (y : Int) := by omega
      have hqd : decide ((q : Int) < 128) = true := by simp; omega
      have hq8 : q < 128 := by omega
      have HH : Hid _ := hby
      have HYN : Hid (Y = n) := HN.out (by omega)
      have HRR : Hid (((E - g - n : Nat) : Int) = (p : Int) - n) := by show _ = _; omega
      clear hbel hrow hby HN hY HPW HBY
      rcases (show j = 0 ∨ j = 1 ∨ j = 2 by omega) with rfl | rfl | rfl
      all_goals
        simp only [Nat.reduceMul, Nat.reducePow, Int.natCast_mul] at hor
        have HOR : Hid _ := hor
        clear hor
        go_wp2
        go_ret
        refine ⟨?_, HB.out⟩
        rw [HRR.out]
        refine congrArg Ending.returned (congrArg (Value.int .i64) ?_)
      · rw [or_step HOR.out (w64_mul y 1 hyl (by omega)) HYN.out (by omega)]
        exact w64_sub p n (by omega) hn
      · rw [or_step (z := (y : Int) * 128) HOR.out (w64_mul y 128 hyl (by omega)) HYN.out rfl]
        exact w64_sub p n (by omega) hn
      · rw [or_step (z := (y : Int) * 16384) HOR.out (w64_mul y 16384 hyl (by omega)) HYN.out rfl]
        exact w64_sub p n (by omega) hn
end Go.Proofs.YtafphabeihoijaaDoor
