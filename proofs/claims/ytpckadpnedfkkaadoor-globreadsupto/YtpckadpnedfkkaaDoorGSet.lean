import Derived.Test.YtpckadpnedfkkaaDoorGBits
namespace Go.Proofs.YtpckadpnedfkkaaDoor
open Go.RowKit Gb
set_option linter.unusedVariables false
set_option maxHeartbeats 1000000 in
theorem add_any (w : World) (g T : Nat) (f : UInt8 → Bool) (tl : Array Value) (c : UInt8) (hg : w.heap[g]? = some (.cells (ws f ++ tl) T)) :
    Calls Tryd.prog 36 #[.pointer (some ⟨g, 0, none⟩), .int .u8 (c.toNat : Int)] w fun e w' => (∃ v, e = .returned v) ∧ w'.heap[g]? = some (.cells (ws (orF f (fun b => b == c)) ++ tl) T) ∧ Only w w' g := by
  have hlt := c.toNat_lt
  have hset : (w.setCell ⟨g, c.toNat / 64, none⟩ (.int .u64 (bits .or .u64 (uv (wd f (c.toNat / 64))) (IntKind.u64.wrap (2 ^ (c.toNat % 64)))))).heap[g]? = some (.cells (ws (orF f (fun b => b == c)) ++ tl) T) := by
    rw [uv_pow, uv_or, heap_setCell_same _ _ _ _ _ _ hg, ws_set]
  have HS : Hid _ := hset
  have hc : w.cell? ⟨g, c.toNat / 64, none⟩ = some (.int .u64 (uv (wd f (c.toNat / 64)))) := by
    rw [cell_of_row _ _ _ _ _ _ hg, ws_at _ _ _ (by omega)]; rfl
  have hf : w.frozen? ⟨g, c.toNat / 64, none⟩ = false := frozen_of_row _ _ _ _ _ hg
  clear hset hg
  obtain ⟨b, hb⟩ : ∃ b, c.toNat = b := ⟨_, rfl⟩
  rw [hb] at hlt HS hc hf ⊢
  generalize uv (wd f (b / 64)) = x at *
  go_enter Tryd.func36, Tryd.ntmps36
  go_region
  all_goals go_end0
  all_goals exact ⟨⟨_, rfl⟩, HS.out, ⟨rfl, rfl, rfl, by simp, fun k hk => heap_setCell_other _ _ _ _ hk⟩⟩
set_option maxHeartbeats 1000000 in
theorem has_any (w : World) (g o : Nat) (f : UInt8 → Bool) (c : UInt8) (hc : ∀ q, q < 4 → w.cell? ⟨g, o + q, none⟩ = some (wv f q)) :
    Calls Tryd.prog 27 #[.pointer (some ⟨g, o, none⟩), .int .u8 (c.toNat : Int)] w fun e w' => e = .returned (.bool (f c)) ∧ w' = w := by
  have hlt := c.toNat_lt
  have hc' : w.cell? ⟨g, o + c.toNat / 64, none⟩ = some (.int .u64 (uv (wd f (c.toNat / 64)))) := hc _ (by omega)
  have HA : Hid _ := bit_and (wd f (c.toNat / 64)) (c.toNat % 64)
  have HF : Hid _ := wd_has f c
  clear hc
  obtain ⟨b, hb⟩ : ∃ b, c.toNat = b := ⟨_, rfl⟩
  rw [hb] at hlt HA HF hc' ⊢
  go_enter Tryd.func27, Tryd.ntmps27
  go_wp2
  go_ret
  exact ⟨by rw [HA.out, HF.out]; rfl, rfl⟩
set_option maxHeartbeats 1000000 in
theorem turned_any (w : World) (f : UInt8 → Bool) :
    Calls Tryd.prog 34 #[.agg (ws f)] w fun e w' => e = .returned (.agg (ws (notF f))) ∧ Below w.heap.size w w' := by
  unfold ws wv
  go_enter Tryd.func34, Tryd.ntmps34
  go_wp2
  go_rounds 10
  refine bodyPost_ret (v := .agg #[.int .u64 (bits .xor .u64 IntKind.u64.max (uv (wd f 0))), .int .u64 (bits .xor .u64 IntKind.u64.max (uv (wd f 1))), .int .u64 (bits .xor .u64 IntKind.u64.max (uv (wd f 2))), .int .u64 (bits .xor .u64 IntKind.u64.max (uv (wd f 3)))]) (by simp [results, Tryd.results34, go_sem]) rfl ⟨?_, ?_⟩
  · rw [uv_not, uv_not, uv_not, uv_not, wd_not, wd_not, wd_not, wd_not]
  · go_grown
def btw (lo k : Nat) (b : UInt8) : Bool := decide (lo ≤ b.toNat) && decide (b.toNat < k)
theorem btw_none (f : UInt8 → Bool) (lo : Nat) : orF f (btw lo lo) = f := by
  funext b
  unfold orF btw
  by_cases h : lo ≤ b.toNat
  · have : ¬ b.toNat < lo := by omega
    simp [this]
  · simp [h]
theorem btw_more (f : UInt8 → Bool) (lo k : Nat) (h1 : lo ≤ k) (h2 : k < 256) : orF (orF f (btw lo k)) (fun b => b == UInt8.ofNat k) = orF f (btw lo (k + 1)) := by
  funext b
  unfold orF btw
  rw [Bool.or_assoc]
  congr 1
  have e : (b == UInt8.ofNat k) = decide (b.toNat = k) := by
    rw [Bool.eq_iff_iff, beq_iff_eq, decide_eq_true_iff]
    constructor
    · intro h; rw [h, UInt8.toNat_ofNat', Nat.mod_eq_of_lt (by omega)]
    · intro h; apply UInt8.toNat_inj.1; rw [UInt8.toNat_ofNat', Nat.mod_eq_of_lt (by omega)]; exact h
  show (decide (lo ≤ b.toNat) && decide (b.toNat < k) || (b == UInt8.ofNat k)) = _
  rw [e, Bool.eq_iff_iff]
  simp only [Bool.or_eq_true, Bool.and_eq_true, decide_eq_true_iff]
  omega
theorem btw_rng (a c : UInt8) : btw (min a.toNat c.toNat) (max a.toNat c.toNat + 1) = rngF a c := by
  funext b
  unfold btw rngF
  congr 1
  rw [Bool.eq_iff_iff, decide_eq_true_iff, decide_eq_true_iff]
  omega
theorem add_nat (w : World) (g T : Nat) (f : UInt8 → Bool) (tl : Array Value) (k : Nat) (hk : k < 256) (hg : w.heap[g]? = some (.cells (ws f ++ tl) T)) :
    Calls Tryd.prog 36 #[.pointer (some ⟨g, 0, none⟩), .int .u8 (k : Int)] w fun e w' => (∃ v, e = .returned v) ∧ w'.heap[g]? = some (.cells (ws (orF f (fun b => b == UInt8.ofNat k)) ++ tl) T) ∧ Only w w' g := by
  have := add_any w g T f tl (UInt8.ofNat k) hg
  rw [UInt8.toNat_ofNat', Nat.mod_eq_of_lt (by omega)] at this
  exact this
set_option maxHeartbeats 1000000 in
set_option maxRecDepth 20000 in
theorem addRange_nat (w : World) (g T : Nat) (f : UInt8 → Bool) (tl : Array Value) (x y lo hi : Nat) (hxy : (x = lo ∧ y = hi) ∨ (x = hi ∧ y = lo)) (hlh : lo ≤ hi) (hh : hi < 256) (hg : w.heap[g]? = some (.cells (ws f ++ tl) T)) :
    Calls Tryd.prog 42 #[.pointer (some ⟨g, 0, none⟩), .int .u8 (x : Int), .int .u8 (y : Int)] w fun e w' => (∃ v, e = .returned v) ∧ w'.heap[g]? = some (.cells (ws (orF f (btw lo (hi + 1))) ++ tl) T) ∧ Only w w' g := by
  have HG : Hid (w.heap[g]? = some (.cells (ws (orF f (btw lo lo)) ++ tl) T)) := by show _ = _; rw [btw_none]; exact hg
  clear hg
  rcases hxy with ⟨rfl, rfl⟩ | ⟨rfl, rfl⟩
  · have hmn : (if y < x then (y : Int) else (x : Int)) = (x : Int) := by split <;> omega
    have hmx : (if x < y then (y : Int) else (x : Int)) = (y : Int) := by split <;> omega
    go_enter Tryd.func42, Tryd.ntmps42
    go_wp2
    go_loopw [6] (fun i wr => ∃ k : Nat, i = .int .i64 (k : Int) ∧ x ≤ k ∧ k ≤ y + 1 ∧ wr.heap[g]? = some (.cells (ws (orF f (btw x k)) ++ tl) T) ∧ Only w wr g) (fun i _ => y + 1 - (intOf i).toNat)
    case atStart => exact ⟨x, rfl, Nat.le_refl _, by omega, HG.out, Only.refl _ _⟩
    case round =>
      obtain ⟨k, rfl, h1, h2, hgk, hon⟩ := hrel
      have HK : Hid (wr.heap[g]? = some (.cells (ws (orF f (btw x k)) ++ tl) T)) := hgk
      have HO : Hid (Only w wr g) := hon
      clear hgk hon
      by_cases hk : k ≤ y
      · go_wp2_with fail
        refine (add_nat _ g T _ tl k (by omega) HK.out).mono ?_
        rintro e w1 ⟨⟨v1, rfl⟩, hg1, ho1⟩
        have HK1 : Hid _ := hg1
        have HO1 : Hid (Only wr w1 g) := ho1
        clear hg1 ho1
        go_wp2
        go_roundw
        case rel => exact ⟨k + 1, by go_num, by omega, by omega, by rw [← btw_more f x k h1 (by omega)]; exact HK1.out, HO.out.trans HO1.out⟩
        case measure => simp [intOf]; omega
      · have hk' : k = y + 1 := by omega
        go_wp2
        go_end0
        exact ⟨⟨_, rfl⟩, by rw [← hk']; exact HK.out, HO.out⟩
  · have hmn : (if y < x then (y : Int) else (x : Int)) = (y : Int) := by split <;> omega
    have hmx : (if x < y then (y : Int) else (x : Int)) = (x : Int) := by split <;> omega
    go_enter Tryd.func42, Tryd.ntmps42
    go_wp2
    go_loopw [6] (fun i wr => ∃ k : Nat, i = .int .i64 (k : Int) ∧ y ≤ k ∧ k ≤ x + 1 ∧ wr.heap[g]? = some (.cells (ws (orF f (btw y k)) ++ tl) T) ∧ Only w wr g) (fun i _ => x + 1 - (intOf i).toNat)
    case atStart => exact ⟨y, rfl, Nat.le_refl _, by omega, HG.out, Only.refl _ _⟩
    case round =>
      obtain ⟨k, rfl, h1, h2, hgk, hon⟩ := hrel
      have HK : Hid (wr.heap[g]? = some (.cells (ws (orF f (btw y k)) ++ tl) T)) := hgk
      have HO : Hid (Only w wr g) := hon
      clear hgk hon
      by_cases hk : k ≤ x
      · go_wp2_with fail
        refine (add_nat _ g T _ tl k (by omega) HK.out).mono ?_
        rintro e w1 ⟨⟨v1, rfl⟩, hg1, ho1⟩
        have HK1 : Hid _ := hg1
        have HO1 : Hid (Only wr w1 g) := ho1
        clear hg1 ho1
        go_wp2
        go_roundw
        case rel => exact ⟨k + 1, by go_num, by omega, by omega, by rw [← btw_more f y k h1 (by omega)]; exact HK1.out, HO.out.trans HO1.out⟩
        case measure => simp [intOf]; omega
      · have hk' : k = x + 1 := by omega
        go_wp2
        go_end0
        exact ⟨⟨_, rfl⟩, by rw [← hk']; exact HK.out, HO.out⟩
theorem addRange_any (w : World) (g T : Nat) (f : UInt8 → Bool) (tl : Array Value) (a c : UInt8) (hg : w.heap[g]? = some (.cells (ws f ++ tl) T)) :
    Calls Tryd.prog 42 #[.pointer (some ⟨g, 0, none⟩), .int .u8 (a.toNat : Int), .int .u8 (c.toNat : Int)] w fun e w' => (∃ v, e = .returned v) ∧ w'.heap[g]? = some (.cells (ws (orF f (rngF a c)) ++ tl) T) ∧ Only w w' g := by
  have ha := a.toNat_lt
  have hc := c.toNat_lt
  have := addRange_nat w g T f tl a.toNat c.toNat (min a.toNat c.toNat) (max a.toNat c.toNat) (by omega) (by omega) (by omega) hg
  rw [btw_rng] at this
  exact this
end Go.Proofs.YtpckadpnedfkkaaDoor
