import Derived.Test.YtnfbaeajalnmmaaGreatDoorGA
import Derived.Test.YtnfbaeajalnmmaaGreatDoorNum4
import Derived.Deep.RegionHeld3
import Derived.Maps.AppendAt
namespace Go.Proofs.YtnfbaeajalnmmaaGreatDoor
open Go.RowKit
set_option linter.unusedVariables false
set_option linter.unusedSimpArgs false
set_option maxRecDepth 100000
theorem low_bits : ∀ n : Fin 256, bits .or .u8 ((n.val : Nat) : Int) 32 = ((n.val ||| 32 : Nat) : Int) := by decide +kernel
theorem low_lo : ∀ n : Fin 256, 97 ≤ n.val → n.val ≤ 122 → n.val ||| 32 = n.val := by decide +kernel
theorem low_up : ∀ n : Fin 256, 65 ≤ n.val → n.val ≤ 90 → n.val ||| 32 = n.val + 32 := by decide +kernel
theorem low_no : ∀ n : Fin 256, ¬ (97 ≤ n.val ∧ n.val ≤ 122) → ¬ (65 ≤ n.val ∧ n.val ≤ 90) → ¬ (97 ≤ n.val ||| 32 ∧ n.val ||| 32 ≤ 122) := by decide +kernel
theorem lower_any (n : Nat) (h : n < 256) (w : World) : Calls Tryz.prog 109 #[.int .u8 (n : Int)] w fun e w' => e = .returned (.int .u8 ((n ||| 32 : Nat) : Int)) ∧ w' = w := by
  have := Tryz.internal_strconv_lower (n : Int) w
  rw [low_bits ⟨n, h⟩] at this; exact this
/-- the two digits of a byte. -/
def dgs (t : ByteArray) (k : Nat) : Option Nat := if k = 0 then some 0 else if k = 1 then (t.data.toList[0]?).bind SP.hx else
  match (t.data.toList[0]?).bind SP.hx, (t.data.toList[1]?).bind SP.hx with
  | some x, some y => some (16 * x + y)
  | _, _ => none
theorem hx_lt {c : UInt8} {x : Nat} (h : SP.hx c = some x) : x < 16 := by
  unfold SP.hx at h
  split at h
  · simp at h; omega
  · split at h
    · simp at h; omega
    · split at h
      · simp at h; omega
      · simp at h
theorem hx_dig {c : UInt8} (h : 48 ≤ c.toNat ∧ c.toNat ≤ 57) : SP.hx c = some (c.toNat - 48) := by unfold SP.hx; rw [if_pos h]
theorem hx_lo {c : UInt8} (h : 97 ≤ c.toNat ∧ c.toNat ≤ 102) : SP.hx c = some (c.toNat - 87) := by unfold SP.hx; rw [if_neg (by omega), if_pos h]
theorem hx_up {c : UInt8} (h : 65 ≤ c.toNat ∧ c.toNat ≤ 70) : SP.hx c = some (c.toNat - 55) := by unfold SP.hx; rw [if_neg (by omega), if_neg (by omega), if_pos h]
theorem hx_no {c : UInt8} (h1 : ¬ (48 ≤ c.toNat ∧ c.toNat ≤ 57)) (h2 : ¬ (97 ≤ c.toNat ∧ c.toNat ≤ 102)) (h3 : ¬ (65 ≤ c.toNat ∧ c.toNat ≤ 70)) : SP.hx c = none := by unfold SP.hx; rw [if_neg h1, if_neg h2, if_neg h3]
theorem dgs_0 (t : ByteArray) : dgs t 0 = some 0 := rfl
theorem dgs_1 (t : ByteArray) (ht : t.size = 2) : dgs t 1 = SP.hx t[0] := by
  unfold dgs
  rw [if_neg (by omega), if_pos rfl, at_list t 0 (by omega), Option.bind_some]
theorem dgs_2 (t : ByteArray) (ht : t.size = 2) : dgs t 2 = match SP.hx t[0], SP.hx t[1] with
    | some x, some y => some (16 * x + y)
    | _, _ => none := by
  unfold dgs
  rw [if_neg (by omega), if_neg (by omega), at_list t 0 (by omega), at_list t 1 (by omega), Option.bind_some, Option.bind_some]
theorem dgs_step {t : ByteArray} (ht : t.size = 2) (k m x : Nat) (hk : k < 2) (hk2 : k < t.size) (hm : dgs t k = some m) (hx : SP.hx t[k] = some x) : dgs t (k + 1) = some (16 * m + x) := by
  rcases (show k = 0 ∨ k = 1 by omega) with rfl | rfl
  · rw [dgs_0] at hm
    injection hm with hm
    subst hm
    rw [dgs_1 t ht, hx]; simp
  · rw [dgs_1 t ht] at hm
    rw [dgs_2 t ht, hm, hx]
theorem dgs_none {t : ByteArray} (ht : t.size = 2) (k m : Nat) (hk : k < 2) (hk2 : k < t.size) (hm : dgs t k = some m) (hx : SP.hx t[k] = none) : dgs t 2 = none := by
  rcases (show k = 0 ∨ k = 1 by omega) with rfl | rfl
  · rw [dgs_2 t ht, hx]
  · rw [dgs_1 t ht] at hm
    rw [dgs_2 t ht, hx, hm]
theorem dgs_le {t : ByteArray} (ht : t.size = 2) (k m : Nat) (hk : k < 2) (hm : dgs t k = some m) : m < 16 := by
  rcases (show k = 0 ∨ k = 1 by omega) with rfl | rfl
  · rw [dgs_0] at hm
    injection hm with hm
    omega
  · rw [dgs_1 t ht] at hm
    exact hx_lt hm

set_option maxHeartbeats 4000000 in
theorem ipu_any (t : ByteArray) (ht : t.size = 2) (w : World) : Calls Tryz.prog 88 #[.string t, .int .i64 16, .int .i64 8] w fun e w' => ((∃ m, dgs t 2 = some m ∧ e = .returned (.tuple #[.int .u64 (m : Int), .nilIface])) ∨ (dgs t 2 = none ∧ e = .returned (.tuple #[.int .u64 0, .iface 123 (.int .i64 2)]))) ∧ Below w.heap.size w w' := by
  have he : t.toList.isEmpty = false := str_full (by omega)
  obtain ⟨cap, hcap⟩ : ∃ cap, cap = grownCap w t.size 0 5 := ⟨_, rfl⟩
  obtain ⟨W1, hW1⟩ : ∃ W1, W1 = w.drew.alloc (.cells (bytesRow t cap) 5 ((bytesRow t cap).size, (bytesRow t cap).size + 1)) := ⟨_, rfl⟩
  have hcv : Sem.run Tryz.prog (convert 9 50 (.string t)) w = .ok (.slice (some ⟨w.heap.size, 0, none⟩) 2 cap) W1 := by
    have := run_bytes_of_string (P := Tryz.prog) w 9 50 5 t Tryz.underlying9 Tryz.underlying50 Tryz.underlying5
    rw [hW1, hcap, this, ht]
  have HB1 : Hid (Below w.heap.size w W1) := by show Below _ _ _; rw [hW1]; exact (Below.refl _ w).drew.alloc (Nat.le_refl _) _
  have HC : Hid (∀ k (hk : k < t.size), W1.cell? ⟨w.heap.size, k, none⟩ = some (.int .u8 (t[k].toNat : Int))) := fun k hk => by
    rw [hW1]
    have := bytesRow_at t cap k hk
    rw [show w.heap.size = w.drew.heap.size from rfl, cell_of_row _ _ _ _ _ _ (one_alloc w.drew _)]
    exact this
  have HLO : Hid (∀ (n : Nat) (h : n < 256) (w : World), Calls Tryz.prog 109 #[.int .u8 (n : Int)] w fun e w' => e = .returned (.int .u8 ((n ||| 32 : Nat) : Int)) ∧ w' = w) := lower_any
  clear hW1 hcap
  go_enter Tryz.func88, Tryz.ntmps88
  go_wp2
  clear hcv
  go_loopw [12, 13, 101] (fun cu cn ck wr => ∃ k m : Nat, k ≤ 2 ∧ dgs t k = some m ∧ cu = .bool false ∧ cn = .int .u64 (m : Int) ∧ ck = .int .i64 (k : Int) ∧ wr = W1) (fun _ _ ck _ => 2 - (intOf ck).toNat)
  case atStart => exact ⟨0, 0, by omega, rfl, rfl, rfl, rfl, rfl⟩
  case round =>
    obtain ⟨k, m, hk, hm, rfl, rfl, rfl, hwr⟩ := hrel
    have hwr2 := hwr.symm
    subst hwr2
    have HDG : Hid (dgs t k = some m) := hm
    clear hm
    by_cases hlt : k < 2
    · have hk2 : k < t.size := by omega
      have hm16 := dgs_le ht k m hlt HDG.out
      have y0 := HC.out k hk2
      have hz0 : (0 : Int) ≤ (k : Int) := by omega
      have hz1 : (k : Int) < 2 := by omega
      have hkw : IntKind.i64.wrap ((k : Int) + 1) = (k : Int) + 1 := by rw [IntKind.wrap_i64] <;> omega
      have hc256 : t[k].toNat < 256 := t[k].toNat_lt
      have HT : Hid (∃ c : UInt8, t[k] = c) := ⟨_, rfl⟩
      obtain ⟨c, hc⟩ : ∃ c, t[k] = c := ⟨_, rfl⟩
      rw [hc] at y0 hc256
      have HTC : Hid (t[k] = c) := hc
      obtain ⟨n, hn⟩ : ∃ n, c.toNat = n := ⟨_, rfl⟩
      rw [hn] at y0 hc256
      have HN : Hid (c.toNat = n) := hn
      clear hc hn HT
      by_cases h1 : 48 ≤ n ∧ n ≤ 57
      · have HHX : Hid (SP.hx t[k] = some (n - 48)) := by show _ = _; rw [HTC.out]; have := hx_dig (c := c) (by rw [HN.out]; exact h1); rw [HN.out] at this; exact this
        obtain ⟨x, hx⟩ : ∃ x, n - 48 = x := ⟨_, rfl⟩
        rw [hx] at HHX
        have HDS : Hid (dgs t (k + 1) = some (16 * m + x)) := dgs_step ht k m x hlt hk2 HDG.out HHX.out
        have hx16 : x < 16 := hx_lt HHX.out
        have hn95 : ((n : Int) == 95) = false := by simp; omega
        have ha1 : (48 : Int) ≤ (n : Int) := by omega
        have ha2 : (n : Int) ≤ 57 := by omega
        have hsw : IntKind.u8.wrap ((n : Int) - 48) = (x : Int) := by rw [IntKind.wrap_u8] <;> omega
        have hg1 : ¬ (16 : Int) ≤ (x : Int) := by omega
        have hg2 : ¬ (1152921504606846976 : Int) ≤ (m : Int) := by omega
        have hmw : IntKind.u64.wrap ((m : Int) * 16) = (m : Int) * 16 := by rw [IntKind.wrap_u64] <;> omega
        have haw : IntKind.u64.wrap ((m : Int) * 16 + (x : Int)) = (m : Int) * 16 + (x : Int) := by rw [IntKind.wrap_u64] <;> omega
        have hg3 : ¬ ((m : Int) * 16 + (x : Int) < (m : Int) * 16) := by omega
        have hg4 : ¬ ((m : Int) * 16 + (x : Int) > 255) := by omega
        clear h1 hx hc256
        go_wp2
        exact ⟨⟨k + 1, 16 * m + x, by omega, HDS.out, rfl, by congr 1; omega, by congr 1, trivial⟩, by simp [intOf]; omega⟩
      by_cases h97 : 97 ≤ n ∧ n ≤ 102
      · have HHX : Hid (SP.hx t[k] = some (n - 87)) := by show _ = _; rw [HTC.out]; have := hx_lo (c := c) (by rw [HN.out]; exact h97); rw [HN.out] at this; exact this
        obtain ⟨x, hx⟩ : ∃ x, n - 87 = x := ⟨_, rfl⟩
        rw [hx] at HHX
        have HDS : Hid (dgs t (k + 1) = some (16 * m + x)) := dgs_step ht k m x hlt hk2 HDG.out HHX.out
        have hx16 : x < 16 := hx_lt HHX.out
        have hn95 : ((n : Int) == 95) = false := by simp; omega
        have ha1 : (48 : Int) ≤ (n : Int) := by omega
        have ha2 : ¬ (n : Int) ≤ 57 := by omega
        obtain ⟨L, hL⟩ : ∃ L, n ||| 32 = L := ⟨_, rfl⟩
        have hLv : L = n := by rw [← hL]; exact low_lo ⟨n, hc256⟩ (by show _ ≤ n; omega) (by show n ≤ _; omega)
        have HL : Hid (∀ w : World, Calls Tryz.prog 109 #[.int .u8 (n : Int)] w fun e w' => e = .returned (.int .u8 (L : Int)) ∧ w' = w) := fun w => by have := HLO.out n hc256 w; rw [hL] at this; exact this
        have hb1 : (97 : Int) ≤ (L : Int) := by omega
        have hb2 : (L : Int) ≤ 122 := by omega
        obtain ⟨y, hy⟩ : ∃ y : Int, (L : Int) - 97 = y := ⟨_, rfl⟩
        have hsw : IntKind.u8.wrap ((L : Int) - 97) = y := by rw [IntKind.wrap_u8] <;> omega
        have hsx : IntKind.u8.wrap (y + 10) = (x : Int) := by rw [IntKind.wrap_u8] <;> omega
        clear h1 hx hc256 hL hLv hy h97
        go_wp2_with fail
        refine (show Calls _ _ _ _ _ from HL.out _).mono ?_
        rintro e1 w1 ⟨rfl, hw1⟩
        have hw1' := hw1.symm; subst hw1'
        go_wp2_with fail
        refine (show Calls _ _ _ _ _ from HL.out _).mono ?_
        rintro e1 w1 ⟨rfl, hw1⟩
        have hw1' := hw1.symm; subst hw1'
        go_wp2_with fail
        refine (show Calls _ _ _ _ _ from HL.out _).mono ?_
        rintro e1 w1 ⟨rfl, hw1⟩
        have hw1' := hw1.symm; subst hw1'
        go_upto_region 46 with fail
        clear hsw hsx hb1 hb2 ha1 ha2 hn95 y0
        have hg1 : ¬ (16 : Int) ≤ (x : Int) := by omega
        have hg2 : ¬ (1152921504606846976 : Int) ≤ (m : Int) := by omega
        have hmw : IntKind.u64.wrap ((m : Int) * 16) = (m : Int) * 16 := by rw [IntKind.wrap_u64] <;> omega
        have haw : IntKind.u64.wrap ((m : Int) * 16 + (x : Int)) = (m : Int) * 16 + (x : Int) := by rw [IntKind.wrap_u64] <;> omega
        have hg3 : ¬ ((m : Int) * 16 + (x : Int) < (m : Int) * 16) := by omega
        have hg4 : ¬ ((m : Int) * 16 + (x : Int) > 255) := by omega
        go_wp2
        exact ⟨⟨k + 1, 16 * m + x, by omega, HDS.out, rfl, by congr 1; omega, by congr 1, trivial⟩, by simp [intOf]; omega⟩
      by_cases h65 : 65 ≤ n ∧ n ≤ 70
      · have HHX : Hid (SP.hx t[k] = some (n - 55)) := by show _ = _; rw [HTC.out]; have := hx_up (c := c) (by rw [HN.out]; exact h65); rw [HN.out] at this; exact this
        obtain ⟨x, hx⟩ : ∃ x, n - 55 = x := ⟨_, rfl⟩
        rw [hx] at HHX
        have HDS : Hid (dgs t (k + 1) = some (16 * m + x)) := dgs_step ht k m x hlt hk2 HDG.out HHX.out
        have hx16 : x < 16 := hx_lt HHX.out
        have hn95 : ((n : Int) == 95) = false := by simp; omega
        have ha1 : (48 : Int) ≤ (n : Int) := by omega
        have ha2 : ¬ (n : Int) ≤ 57 := by omega
        obtain ⟨L, hL⟩ : ∃ L, n ||| 32 = L := ⟨_, rfl⟩
        have hLv : L = n + 32 := by rw [← hL]; exact low_up ⟨n, hc256⟩ (by show _ ≤ n; omega) (by show n ≤ _; omega)
        have HL : Hid (∀ w : World, Calls Tryz.prog 109 #[.int .u8 (n : Int)] w fun e w' => e = .returned (.int .u8 (L : Int)) ∧ w' = w) := fun w => by have := HLO.out n hc256 w; rw [hL] at this; exact this
        have hb1 : (97 : Int) ≤ (L : Int) := by omega
        have hb2 : (L : Int) ≤ 122 := by omega
        obtain ⟨y, hy⟩ : ∃ y : Int, (L : Int) - 97 = y := ⟨_, rfl⟩
        have hsw : IntKind.u8.wrap ((L : Int) - 97) = y := by rw [IntKind.wrap_u8] <;> omega
        have hsx : IntKind.u8.wrap (y + 10) = (x : Int) := by rw [IntKind.wrap_u8] <;> omega
        clear h1 hx hc256 hL hLv hy h65
        go_wp2_with fail
        refine (show Calls _ _ _ _ _ from HL.out _).mono ?_
        rintro e1 w1 ⟨rfl, hw1⟩
        have hw1' := hw1.symm; subst hw1'
        go_wp2_with fail
        refine (show Calls _ _ _ _ _ from HL.out _).mono ?_
        rintro e1 w1 ⟨rfl, hw1⟩
        have hw1' := hw1.symm; subst hw1'
        go_wp2_with fail
        refine (show Calls _ _ _ _ _ from HL.out _).mono ?_
        rintro e1 w1 ⟨rfl, hw1⟩
        have hw1' := hw1.symm; subst hw1'
        go_upto_region 46 with fail
        clear hsw hsx hb1 hb2 ha1 ha2 hn95 y0
        have hg1 : ¬ (16 : Int) ≤ (x : Int) := by omega
        have hg2 : ¬ (1152921504606846976 : Int) ≤ (m : Int) := by omega
        have hmw : IntKind.u64.wrap ((m : Int) * 16) = (m : Int) * 16 := by rw [IntKind.wrap_u64] <;> omega
        have haw : IntKind.u64.wrap ((m : Int) * 16 + (x : Int)) = (m : Int) * 16 + (x : Int) := by rw [IntKind.wrap_u64] <;> omega
        have hg3 : ¬ ((m : Int) * 16 + (x : Int) < (m : Int) * 16) := by omega
        have hg4 : ¬ ((m : Int) * 16 + (x : Int) > 255) := by omega
        go_wp2
        exact ⟨⟨k + 1, 16 * m + x, by omega, HDS.out, rfl, by congr 1; omega, by congr 1, trivial⟩, by simp [intOf]; omega⟩
      have HNO : Hid (dgs t 2 = none) := dgs_none ht k m hlt hk2 HDG.out (by rw [HTC.out]; exact hx_no (by rw [HN.out]; exact h1) (by rw [HN.out]; exact h97) (by rw [HN.out]; exact h65))
      obtain ⟨L, hL⟩ : ∃ L, n ||| 32 = L := ⟨_, rfl⟩
      have HL : Hid (∀ w : World, Calls Tryz.prog 109 #[.int .u8 (n : Int)] w fun e w' => e = .returned (.int .u8 (L : Int)) ∧ w' = w) := fun w => by have := HLO.out n hc256 w; rw [hL] at this; exact this
      have HBIG : Hid (97 ≤ L → L ≤ 122 → 103 ≤ L) := fun q1 q2 => by
        by_cases ga : 97 ≤ n ∧ n ≤ 122
        · have := low_lo ⟨n, hc256⟩ ga.1 ga.2
          simp only at this
          omega
        · by_cases gb : 65 ≤ n ∧ n ≤ 90
          · have := low_up ⟨n, hc256⟩ gb.1 gb.2
            simp only at this
            omega
          · have := low_no ⟨n, hc256⟩ ga gb
            simp only at this
            omega
      have hbase : (false && true) = false := rfl
      clear hc256 hL h97 h65
      by_cases hn95 : n = 95
      · subst hn95
        clear h1
        have ha1 : (48 : Int) ≤ ((95 : Nat) : Int) := by omega
        by_cases hb1 : (97 : Int) ≤ (L : Int)
        · by_cases hb2 : (L : Int) ≤ 122
          · obtain ⟨y, hy⟩ : ∃ y : Int, (L : Int) - 97 = y := ⟨_, rfl⟩
            obtain ⟨z, hz⟩ : ∃ z : Int, y + 10 = z := ⟨_, rfl⟩
            have hsw : IntKind.u8.wrap ((L : Int) - 97) = y := by rw [IntKind.wrap_u8] <;> omega
            have hsx : IntKind.u8.wrap (y + 10) = z := by rw [IntKind.wrap_u8] <;> omega
            have hg1 : (16 : Int) ≤ z := by have := HBIG.out (by omega) (by omega); omega
            clear hy hz
            go_wp2_with fail
            refine (show Calls _ _ _ _ _ from HL.out _).mono ?_
            rintro e1 w1 ⟨rfl, hw1⟩
            have hw1' := hw1.symm; subst hw1'
            go_wp2_with fail
            refine (show Calls _ _ _ _ _ from HL.out _).mono ?_
            rintro e1 w1 ⟨rfl, hw1⟩
            have hw1' := hw1.symm; subst hw1'
            go_wp2_with fail
            refine (show Calls _ _ _ _ _ from HL.out _).mono ?_
            rintro e1 w1 ⟨rfl, hw1⟩
            have hw1' := hw1.symm; subst hw1'
            go_wp2
            go_returns
            exact ⟨Or.inr ⟨HNO.out, rfl⟩, HB1.out⟩
          · go_wp2_with fail
            refine (show Calls _ _ _ _ _ from HL.out _).mono ?_
            rintro e1 w1 ⟨rfl, hw1⟩
            have hw1' := hw1.symm; subst hw1'
            go_wp2_with fail
            refine (show Calls _ _ _ _ _ from HL.out _).mono ?_
            rintro e1 w1 ⟨rfl, hw1⟩
            have hw1' := hw1.symm; subst hw1'
            go_wp2
            go_returns
            exact ⟨Or.inr ⟨HNO.out, rfl⟩, HB1.out⟩
        · go_wp2_with fail
          refine (show Calls _ _ _ _ _ from HL.out _).mono ?_
          rintro e1 w1 ⟨rfl, hw1⟩
          have hw1' := hw1.symm; subst hw1'
          go_wp2
          go_returns
          exact ⟨Or.inr ⟨HNO.out, rfl⟩, HB1.out⟩
      · have hn95 : ((n : Int) == 95) = false := by simp; omega
        by_cases ha1 : (48 : Int) ≤ (n : Int)
        · have ha2 : ¬ (n : Int) ≤ 57 := by omega
          clear h1
          by_cases hb1 : (97 : Int) ≤ (L : Int)
          · by_cases hb2 : (L : Int) ≤ 122
            · obtain ⟨y, hy⟩ : ∃ y : Int, (L : Int) - 97 = y := ⟨_, rfl⟩
              obtain ⟨z, hz⟩ : ∃ z : Int, y + 10 = z := ⟨_, rfl⟩
              have hsw : IntKind.u8.wrap ((L : Int) - 97) = y := by rw [IntKind.wrap_u8] <;> omega
              have hsx : IntKind.u8.wrap (y + 10) = z := by rw [IntKind.wrap_u8] <;> omega
              have hg1 : (16 : Int) ≤ z := by have := HBIG.out (by omega) (by omega); omega
              clear hy hz
              go_wp2_with fail
              refine (show Calls _ _ _ _ _ from HL.out _).mono ?_
              rintro e1 w1 ⟨rfl, hw1⟩
              have hw1' := hw1.symm; subst hw1'
              go_wp2_with fail
              refine (show Calls _ _ _ _ _ from HL.out _).mono ?_
              rintro e1 w1 ⟨rfl, hw1⟩
              have hw1' := hw1.symm; subst hw1'
              go_wp2_with fail
              refine (show Calls _ _ _ _ _ from HL.out _).mono ?_
              rintro e1 w1 ⟨rfl, hw1⟩
              have hw1' := hw1.symm; subst hw1'
              go_wp2
              go_returns
              exact ⟨Or.inr ⟨HNO.out, rfl⟩, HB1.out⟩
            · go_wp2_with fail
              refine (show Calls _ _ _ _ _ from HL.out _).mono ?_
              rintro e1 w1 ⟨rfl, hw1⟩
              have hw1' := hw1.symm; subst hw1'
              go_wp2_with fail
              refine (show Calls _ _ _ _ _ from HL.out _).mono ?_
              rintro e1 w1 ⟨rfl, hw1⟩
              have hw1' := hw1.symm; subst hw1'
              go_wp2
              go_returns
              exact ⟨Or.inr ⟨HNO.out, rfl⟩, HB1.out⟩
          · go_wp2_with fail
            refine (show Calls _ _ _ _ _ from HL.out _).mono ?_
            rintro e1 w1 ⟨rfl, hw1⟩
            have hw1' := hw1.symm; subst hw1'
            go_wp2
            go_returns
            exact ⟨Or.inr ⟨HNO.out, rfl⟩, HB1.out⟩
        · clear h1
          by_cases hb1 : (97 : Int) ≤ (L : Int)
          · by_cases hb2 : (L : Int) ≤ 122
            · obtain ⟨y, hy⟩ : ∃ y : Int, (L : Int) - 97 = y := ⟨_, rfl⟩
              obtain ⟨z, hz⟩ : ∃ z : Int, y + 10 = z := ⟨_, rfl⟩
              have hsw : IntKind.u8.wrap ((L : Int) - 97) = y := by rw [IntKind.wrap_u8] <;> omega
              have hsx : IntKind.u8.wrap (y + 10) = z := by rw [IntKind.wrap_u8] <;> omega
              have hg1 : (16 : Int) ≤ z := by have := HBIG.out (by omega) (by omega); omega
              clear hy hz
              go_wp2_with fail
              refine (show Calls _ _ _ _ _ from HL.out _).mono ?_
              rintro e1 w1 ⟨rfl, hw1⟩
              have hw1' := hw1.symm; subst hw1'
              go_wp2_with fail
              refine (show Calls _ _ _ _ _ from HL.out _).mono ?_
              rintro e1 w1 ⟨rfl, hw1⟩
              have hw1' := hw1.symm; subst hw1'
              go_wp2_with fail
              refine (show Calls _ _ _ _ _ from HL.out _).mono ?_
              rintro e1 w1 ⟨rfl, hw1⟩
              have hw1' := hw1.symm; subst hw1'
              go_wp2
              go_returns
              exact ⟨Or.inr ⟨HNO.out, rfl⟩, HB1.out⟩
            · go_wp2_with fail
              refine (show Calls _ _ _ _ _ from HL.out _).mono ?_
              rintro e1 w1 ⟨rfl, hw1⟩
              have hw1' := hw1.symm; subst hw1'
              go_wp2_with fail
              refine (show Calls _ _ _ _ _ from HL.out _).mono ?_
              rintro e1 w1 ⟨rfl, hw1⟩
              have hw1' := hw1.symm; subst hw1'
              go_wp2
              go_returns
              exact ⟨Or.inr ⟨HNO.out, rfl⟩, HB1.out⟩
          · go_wp2_with fail
            refine (show Calls _ _ _ _ _ from HL.out _).mono ?_
            rintro e1 w1 ⟨rfl, hw1⟩
            have hw1' := hw1.symm; subst hw1'
            go_wp2
            go_returns
            exact ⟨Or.inr ⟨HNO.out, rfl⟩, HB1.out⟩
    · have hz1 : ¬ (k : Int) < 2 := by omega
      have hke : k = 2 := by omega
      subst hke
      go_wp2
      go_returns
      exact ⟨Or.inl ⟨m, HDG.out, rfl⟩, HB1.out⟩
end Go.Proofs.YtnfbaeajalnmmaaGreatDoor
namespace Go.Proofs.YtnfbaeajalnmmaaGreatDoor
open Go.RowKit
set_option linter.unusedVariables false
set_option linter.unusedSimpArgs false
theorem syn_cell {w : World} {v : Value} (h : w.var? Tryz.prog "strconv.ErrSyntax" = some #[v]) : w.cell? ⟨1, 0, none⟩ = some v := by
  unfold World.var? at h
  rw [show Tryz.prog.globalNamed "strconv.ErrSyntax" = some 1 by kernel_rfl, Option.bind_some] at h
  split at h
  · rename_i cs T fr hg
    rw [cell_of_row _ _ _ _ _ _ hg]
    injection h with h
    rw [h]; rfl
  · cases h
set_option maxHeartbeats 1000000 in
theorem pu_any (t : ByteArray) (ht : t.size = 2) (w : World) (hL : Laid w) : Calls Tryz.prog 121 #[.string t, .int .i64 16, .int .i64 8] w fun e w' => ((∃ m, dgs t 2 = some m ∧ e = .returned (.tuple #[.int .u64 (m : Int), .nilIface])) ∨ (dgs t 2 = none ∧ ∃ v tp p, e = .returned (.tuple #[.int .u64 v, .iface tp p]))) ∧ Below w.heap.size w w' := by
  have HI : Hid _ := ipu_any t ht w
  have HL : Hid (Laid w) := hL
  have HT : Hid (t.size = 2) := ht
  clear hL ht
  go_enter Tryz.func121, Tryz.ntmps121
  go_wp2_with fail
  refine (show Calls _ _ _ _ _ from HI.out).mono ?_
  rintro e w1 ⟨⟨m, hm, rfl⟩ | ⟨hm, rfl⟩, hb⟩
  · have HM : Hid _ := hm
    have HB : Hid (Below w.heap.size w w1) := hb
    clear hm hb
    go_wp2
    go_returns
    exact ⟨Or.inl ⟨m, HM.out, rfl⟩, HB.out⟩
  · have HM : Hid _ := hm
    have HB : Hid (Below w.heap.size w w1) := hb
    obtain ⟨tp, p, hv⟩ := (HL.out.on hb).syn
    have HE : Hid _ := Tryz.strconv_toError_syntax ⟨#[80, 97, 114, 115, 101, 85, 105, 110, 116]⟩ t 16 8 (.iface tp p) w1 (by have := HT.out; omega) (syn_cell hv) (Or.inr ⟨tp, p, rfl⟩)
    clear hm hb hv
    go_wp2_with fail
    refine (show Calls _ _ _ _ _ from HE.out).mono ?_
    rintro e w2 ⟨N, rfl, _, _, hb2⟩
    have HB2 : Hid (Below w.heap.size w w2) := bel_to HB.out hb2 (Nat.le_refl _)
    clear hb2
    go_wp2
    go_returns
    exact ⟨Or.inr ⟨HM.out, _, _, _, rfl⟩, HB2.out⟩
/-- all blocks but one are as they were. -/
structure Mo (w w' : World) (q : Nat) : Prop where
  os : w'.os = w.os
  tape : w'.tape = w.tape
  output : w'.output = w.output
  size : w.heap.size ≤ w'.heap.size
  block : ∀ k, k < w.heap.size → k ≠ q → w'.heap[k]? = w.heap[k]?
theorem Only.mo {w w' : World} {q : Nat} (h : Only w w' q) : Mo w w' q := ⟨h.os, h.tape, h.output, by rw [h.size]; exact Nat.le_refl _, fun k _ hk => h.other k hk⟩
theorem mo_bel {w w' : World} {q : Nat} (h : Below w.heap.size w w') : Mo w w' q := ⟨h.os, h.tape, h.output, h.size, fun k hk _ => h.block k hk⟩
theorem Mo.trans {a b c : World} {q : Nat} (h : Mo a b q) (h' : Mo b c q) : Mo a c q := ⟨h'.os.trans h.os, h'.tape.trans h.tape, h'.output.trans h.output, Nat.le_trans h.size h'.size, fun k hk hq => (h'.block k (Nat.lt_of_lt_of_le hk h.size) hq).trans (h.block k hk hq)⟩
theorem Mo.refl (w : World) (q : Nat) : Mo w w q := ⟨rfl, rfl, rfl, Nat.le_refl _, fun _ _ _ => rfl⟩
theorem Mo.below {w w' : World} {q B : Nat} (h : Mo w w' q) (hq : B ≤ q) (hB : B ≤ w.heap.size) : Below B w w' := ⟨h.os, h.tape, h.output, h.size, fun k hk => h.block k (by omega) (by omega)⟩
theorem var_keep {n : String} {cs : Array Value} {w w' : World} (h : w.var? Tryz.prog n = some cs) (hk : ∀ g, Tryz.prog.globalNamed n = some g → w'.heap[g]? = w.heap[g]?) : w'.var? Tryz.prog n = some cs := by
  unfold World.var? at h ⊢
  cases hg : Tryz.prog.globalNamed n with
  | none => rw [hg] at h; simp at h
  | some g =>
    rw [hg] at h
    simp only [Option.bind_some] at h ⊢
    rw [hk g hg]; exact h
/-- what follows a backslash: a byte, and how far one has come. -/
structure Es (f : SP.Bs → Option (UInt8 × SP.Bs)) (w w' : World) (q : Nat) (s : ByteArray) (i : Nat) (wv : Value) (c : UInt8) (j : Nat) : Prop where
  lo : i ≤ j
  hi : j ≤ s.size
  eq : f (s.data.toList.drop i) = some (c, s.data.toList.drop j)
  row : SpR w' q s j wv
  mo : Mo w w' q
set_option maxHeartbeats 1000000 in
theorem escq_any (q : Nat) (s : ByteArray) (i : Nat) (wv : Value) (hs : s.size ≤ 1073741824) (hi : i < s.size) (w : World) (h : SpR w q s i wv) : Calls Tryz.prog 99 #[.pointer (some ⟨q, 0, none⟩)] w fun e w' => ∃ c j, e = .returned (.int .u8 (UInt8.toNat c : Int)) ∧ Es SP.esq w w' q s i wv c j := by
  obtain ⟨r0, r1, r2, rf⟩ := row3 h
  have HR : Hid (SpR w q s i wv) := h
  have hz0 : (0 : Int) ≤ (i : Int) := by omega
  have hz1 : (i : Int) < (s.size : Int) := by omega
  have HDA : Hid _ := drop_at s i hi
  have HS : Hid _ := hs
  clear h
  by_cases h39 : s[i].toNat = 39
  · have hb : ((s[i].toNat : Int) != 39) = false := by simp; omega
    have hb2 : (s[i].toNat : Int) = 39 := by omega
    have HN : Hid (∀ n, Calls Tryz.prog 96 #[.pointer (some ⟨q, 0, none⟩)] (w.drewN n) fun e w' => e = .returned (.int .u8 (s[i].toNat : Int)) ∧ SpR w' q s (i + 1) wv ∧ Only (w.drewN n) w' q) := fun n => next_any q s i wv hs hi (w.drewN n) (HR.out.dn n)
    have HEQ : Hid (SP.esq (s.data.toList.drop i) = some (s[i], s.data.toList.drop (i + 1))) := by show _ = _; rw [HDA.out]; simp only [SP.esq]; rw [if_pos h39]
    have HV : Hid (s[i].toNat = 39) := h39
    clear h39 hb
    go_enter Tryz.func99, Tryz.ntmps99
    go_wp2_with fail
    go_quiet (fail)
    go_wp2_with fail
    refine (show Calls _ _ _ _ _ from HN.out nq).mono ?_
    rintro e w2 ⟨rfl, hr2, ho2⟩
    have HR2 : Hid _ := hr2
    have HO2 : Hid _ := ho2
    clear hr2 ho2
    go_wp2
    go_returns
    exact ⟨s[i], i + 1, by rw [HV.out]; rfl, ⟨by omega, hi, HEQ.out, HR2.out, (only_dn (Only.refl w q) nq).mo.trans (Only.mo HO2.out)⟩⟩
  · have hb : ((s[i].toNat : Int) != 39) = true := by simp; omega
    have HEQ : Hid (SP.esq (s.data.toList.drop i) = some (92, s.data.toList.drop i)) := by show _ = _; rw [HDA.out]; simp only [SP.esq]; rw [if_neg h39]
    have hb2 : ¬ (s[i].toNat : Int) = 39 := by omega
    clear h39
    go_enter Tryz.func99, Tryz.ntmps99
    go_wp2_with fail
    go_quiet (fail)
    go_wp2
    go_returns
    exact ⟨92, i, by rfl, ⟨by omega, by omega, HEQ.out, HR.out.dn _, (only_dn (Only.refl w q) _).mo⟩⟩
theorem two_drop (s : ByteArray) (i : Nat) (h : i + 2 ≤ s.size) : s.data.toList.drop i = s[i] :: s[i + 1] :: s.data.toList.drop (i + 2) := by
  rw [drop_at s i (by omega), drop_at s (i + 1) (by omega)]
theorem xx_dgs (s : ByteArray) (i : Nat) (h : i + 2 ≤ s.size) : SP.xx (s.data.toList.drop i) = (dgs (s.extract i (i + 2)) 2).map (fun m => (UInt8.ofNat m, s.data.toList.drop (i + 2))) := by
  have e : (s.extract i (i + 2)).data.toList = [s[i], s[i + 1]] := by rw [ext_any, two_drop s i h]; simp
  unfold dgs
  rw [if_neg (by omega), if_neg (by omega), e, two_drop s i h]
  simp only [SP.xx]
  show _ = Option.map _ (match SP.hx s[i], SP.hx s[i + 1] with
    | some x, some y => some (16 * x + y)
    | _, _ => none)
  cases SP.hx s[i] <;> cases SP.hx s[i + 1] <;> rfl
theorem xx_end (s : ByteArray) (i : Nat) (h : ¬ i + 2 ≤ s.size) : SP.xx (s.data.toList.drop i) = none := by
  have hl : (s.data.toList.drop i).length ≤ 1 := by rw [List.length_drop, list_len]; omega
  match hd : s.data.toList.drop i with
  | [] => rfl
  | [a] => rfl
  | a :: b :: r => rw [hd] at hl; simp at hl
theorem dgs_256 {t : ByteArray} {m : Nat} (ht : t.size = 2) (h : dgs t 2 = some m) : m < 256 := by
  rw [dgs_2 t ht] at h
  split at h
  · rename_i x y h1 h2
    have := hx_lt h1
    have := hx_lt h2
    simp at h; omega
  · cases h
/-- what hexadecimal leaves. -/
structure Hd (w w' : World) (q : Nat) (s : ByteArray) (i : Nat) (wv : Value) (c : UInt8) (j : Nat) : Prop where
  lo : i ≤ j
  hi : j ≤ s.size
  eq : SP.xx (s.data.toList.drop i) = some (c, s.data.toList.drop j) ∨ (SP.xx (s.data.toList.drop i) = none ∧ c.toNat = 120 ∧ j = i)
  row : SpR w' q s j wv
  mo : Mo w w' q
set_option maxHeartbeats 2000000 in
theorem hexa_any (q : Nat) (s : ByteArray) (i : Nat) (wv : Value) (hs : s.size ≤ 1073741824) (hi : i ≤ s.size) (w : World) (hL : Laid w) (h : SpR w q s i wv) : Calls Tryz.prog 113 #[.pointer (some ⟨q, 0, none⟩)] w fun e w' => ∃ c j, e = .returned (.int .u8 (UInt8.toNat c : Int)) ∧ Hd w w' q s i wv c j := by
  obtain ⟨r0, r1, r2, rf⟩ := row3 h
  have HR : Hid (SpR w q s i wv) := h
  have hew : IntKind.i64.wrap ((i : Int) + 2) = ((i + 2 : Nat) : Int) := by rw [IntKind.wrap_i64] <;> omega
  obtain ⟨en, hen⟩ : ∃ en, i + 2 = en := ⟨_, rfl⟩
  rw [hen] at hew
  by_cases hle : en ≤ s.size
  · have hz1 : ¬ ((en : Int) > (s.size : Int)) := by omega
    have hz2 : (0 : Int) ≤ (i : Int) := by omega
    have hz3 : (i : Int) ≤ (en : Int) := by omega
    have hz4 : (en : Int) ≤ (s.size : Int) := by omega
    have hts : (s.extract i en).size = 2 := by rw [ext_size s i en hle]; omega
    have HXD : Hid _ := xx_dgs s i (by omega)
    have HPU : Hid (∀ W, Below w.heap.size w W → Calls Tryz.prog 121 #[.string (s.extract i en), .int .i64 16, .int .i64 8] W fun e w' => ∃ v ev, e = .returned (.tuple #[.int .u64 v, ev]) ∧ ((∃ m : Nat, dgs (s.extract i en) 2 = some m ∧ v = (m : Int) ∧ ev = .nilIface) ∨ (dgs (s.extract i en) 2 = none ∧ ∃ tp p, ev = .iface tp p)) ∧ Below W.heap.size W w') := fun W hW => (pu_any _ hts W (hL.on hW)).mono (fun e w' h => by
      obtain ⟨⟨m, hm, rfl⟩ | ⟨hm, v, tp, p, rfl⟩, hb⟩ := h
      · exact ⟨_, _, rfl, Or.inl ⟨m, hm, rfl, rfl⟩, hb⟩
      · exact ⟨_, _, rfl, Or.inr ⟨hm, tp, p, rfl⟩, hb⟩)
    have HKS : Hid (∀ W : World, Below w.heap.size w W → W.cell? ⟨q, 0, none⟩ = some (.string s) ∧ W.cell? ⟨q, 1, none⟩ = some (.int .i64 (i : Int))) := fun W hW => ⟨cell_on r0 hW, cell_on r1 hW⟩
    have H256 : Hid (∀ m, dgs (s.extract i en) 2 = some m → m < 256) := fun m hm => dgs_256 hts hm
    rw [hen] at HXD
    have HEN : Hid (i + 2 = en) := hen
    have hS0 := HKS.out w (Below.refl _ _)
    have hSd := HKS.out w.drew (Below.refl _ _).drew
    clear h hL hts hen
    go_enter Tryz.func113, Tryz.ntmps113
    go_upto_region 4 with fail
    go_region_held3 (fun W : World => W.cell? ⟨q, 0, none⟩ = some (.string s) ∧ W.cell? ⟨q, 1, none⟩ = some (.int .i64 (i : Int)))
      (first | with_reducible exact hS0 | with_reducible exact hSd | with_reducible exact hS4)
      (first | (go_at_call 121; refine (show Calls _ _ _ _ _ from HPU.out _ (Below.refl _ w).drew).mono ?_; rintro e a4 ⟨v, ev, rfl, hcs, hb4⟩; have hx4 : Below w.heap.size w a4 := bel_to (Below.refl _ w).drew hb4 (Nat.le_refl _); have hS4 := HKS.out _ hx4))
    have HX4 : Hid (Below w.heap.size w a4) := hx4
    have hr4 : SpR a4 q s i wv := keep_row HR.out hx4
    have HR4 : Hid (SpR a4 q s i wv) := hr4
    clear r0 r1 r2 rf hS0 hSd hS4 hx4 hb4
    obtain ⟨r0, r1, r2, rf⟩ := row3 hr4
    clear hr4
    rcases hcs with ⟨m, hm, rfl, rfl⟩ | ⟨hm, tp, p, rfl⟩
    · have HM : Hid _ := hm
      have hm256 := H256.out m hm
      have hcw : IntKind.u8.wrap (m : Int) = (m : Int) := by rw [IntKind.wrap_u8] <;> omega
      have HS : Hid _ := set_at a4 q s i en wv HR4.out
      clear hm
      go_wp2
      go_returns
      refine ⟨UInt8.ofNat m, en, ?_, ⟨by have := HEN.out; omega, hle, Or.inl ?_, HS.out.1, (mo_bel HX4.out).trans HS.out.2.mo⟩⟩
      · have : (UInt8.ofNat m).toNat = m := by simp; omega
        rw [this]; rfl
      · rw [HXD.out, HM.out]; rfl
    · have HM : Hid _ := hm
      clear hm
      go_wp2
      go_returns
      refine ⟨120, i, rfl, ⟨Nat.le_refl _, hi, Or.inr ⟨?_, rfl, rfl⟩, HR4.out, mo_bel HX4.out⟩⟩
      rw [HXD.out, HM.out]; rfl
  · have hz1 : (en : Int) > (s.size : Int) := by omega
    have HXE : Hid (SP.xx (s.data.toList.drop i) = none) := xx_end s i (by omega)
    clear h hL hen
    go_enter Tryz.func113, Tryz.ntmps113
    go_wp2
    go_returns
    exact ⟨120, i, rfl, ⟨Nat.le_refl _, hi, Or.inr ⟨HXE.out, rfl, rfl⟩, HR.out, Mo.refl _ _⟩⟩
end Go.Proofs.YtnfbaeajalnmmaaGreatDoor
namespace Go.Proofs.YtnfbaeajalnmmaaGreatDoor
open Go.RowKit
set_option linter.unusedVariables false
set_option linter.unusedSimpArgs false
theorem u8_ext {a b : UInt8} (h : a.toNat = b.toNat) : a = b := UInt8.toNat_inj.1 h
theorem esc_x (s : ByteArray) (i : Nat) (hi : i < s.size) (h : s[i].toNat = 120) (c : UInt8) (j : Nat) (he : SP.xx (s.data.toList.drop (i + 1)) = some (c, s.data.toList.drop j) ∨ (SP.xx (s.data.toList.drop (i + 1)) = none ∧ c.toNat = 120 ∧ j = i + 1)) : SP.esc (s.data.toList.drop i) = some (c, s.data.toList.drop j) := by
  rw [drop_at s i hi]
  simp only [SP.esc]
  rw [if_pos h]
  rcases he with he | ⟨he, hc, rfl⟩
  · rw [he]
  · rw [he]
    have : c = s[i] := u8_ext (by rw [hc, h])
    rw [this]
theorem esc_o (s : ByteArray) (i : Nat) (hi : i < s.size) (h : ¬ s[i].toNat = 120) : SP.esc (s.data.toList.drop i) = some (SP.es s[i], s.data.toList.drop (i + 1)) := by
  rw [drop_at s i hi]
  simp only [SP.esc]
  rw [if_neg h]
set_option maxHeartbeats 2000000 in
theorem esc_any (q : Nat) (s : ByteArray) (i : Nat) (wv : Value) (hs : s.size ≤ 1073741824) (hi : i < s.size) (w : World) (hL : Laid w) (hq : w.heap.size ≤ q + 0 ∨ True) (h : SpR w q s i wv) (hLm : ∀ w', Mo w w' q → Laid w') : Calls Tryz.prog 98 #[.pointer (some ⟨q, 0, none⟩)] w fun e w' => ∃ c j, e = .returned (.int .u8 (UInt8.toNat c : Int)) ∧ Es SP.esc w w' q s i wv c j := by
  obtain ⟨c, hc⟩ : ∃ c, s[i].toNat = c := ⟨_, rfl⟩
  have HN : Hid (Calls Tryz.prog 96 #[.pointer (some ⟨q, 0, none⟩)] w fun e w' => e = .returned (.int .u8 (c : Int)) ∧ SpR w' q s (i + 1) wv ∧ Only w w' q) := by have := next_any q s i wv hs hi w h; rw [hc] at this; exact this
  have HLM : Hid _ := hLm
  clear hL hq hLm h
  by_cases h120 : c = 120
  · have HEX : Hid (∀ c j, SP.xx (s.data.toList.drop (i + 1)) = some (c, s.data.toList.drop j) ∨ (SP.xx (s.data.toList.drop (i + 1)) = none ∧ c.toNat = 120 ∧ j = i + 1) → SP.esc (s.data.toList.drop i) = some (c, s.data.toList.drop j)) := fun c' j => esc_x s i hi (by rw [hc, h120]) c' j
    subst h120
    clear hc
    go_enter Tryz.func98, Tryz.ntmps98
    go_wp2_with fail
    refine (show Calls _ _ _ _ _ from HN.out).mono ?_
    rintro e w1 ⟨rfl, hr1, ho1⟩
    have HO1 : Hid _ := ho1
    have HH : Hid _ := hexa_any q s (i + 1) wv hs hi w1 (HLM.out w1 (Only.mo ho1)) hr1
    clear hr1 ho1
    go_wp2_with fail
    refine (show Calls _ _ _ _ _ from HH.out).mono ?_
    rintro e w2 ⟨c2, j2, rfl, hd⟩
    have HD : Hid _ := hd
    clear hd
    go_wp2
    go_returns
    exact ⟨c2, j2, rfl, ⟨by have := HD.out.lo; omega, HD.out.hi, HEX.out c2 j2 HD.out.eq, HD.out.row, (Only.mo HO1.out).trans HD.out.mo⟩⟩
  have HEO : Hid _ := esc_o s i hi (by rw [hc]; exact h120)
  have e120 : ((c : Int) == 120) = false := by simp; omega
  by_cases h110 : c = 110
  · have HES : Hid ((SP.es s[i]).toNat = 10) := by
      show _ = _
      unfold SP.es; simp [hc, h110]
    subst h110
    clear hc
    go_enter Tryz.func98, Tryz.ntmps98
    go_wp2_with fail
    refine (show Calls _ _ _ _ _ from HN.out).mono ?_
    rintro e w1 ⟨rfl, hr1, ho1⟩
    have HR1 : Hid _ := hr1
    have HO1 : Hid _ := ho1
    clear hr1 ho1
    go_wp2
    go_returns
    exact ⟨SP.es s[i], i + 1, by rw [HES.out]; first | rfl | simp, ⟨by omega, hi, HEO.out, HR1.out, Only.mo HO1.out⟩⟩
  have e110 : ((c : Int) == 110) = false := by simp; omega
  by_cases h114 : c = 114
  · have HES : Hid ((SP.es s[i]).toNat = 13) := by
      show _ = _
      unfold SP.es; simp [hc, h114]
    subst h114
    clear hc
    go_enter Tryz.func98, Tryz.ntmps98
    go_wp2_with fail
    refine (show Calls _ _ _ _ _ from HN.out).mono ?_
    rintro e w1 ⟨rfl, hr1, ho1⟩
    have HR1 : Hid _ := hr1
    have HO1 : Hid _ := ho1
    clear hr1 ho1
    go_wp2
    go_returns
    exact ⟨SP.es s[i], i + 1, by rw [HES.out]; first | rfl | simp, ⟨by omega, hi, HEO.out, HR1.out, Only.mo HO1.out⟩⟩
  have e114 : ((c : Int) == 114) = false := by simp; omega
  by_cases h116 : c = 116
  · have HES : Hid ((SP.es s[i]).toNat = 9) := by
      show _ = _
      unfold SP.es; simp [hc, h116]
    subst h116
    clear hc
    go_enter Tryz.func98, Tryz.ntmps98
    go_wp2_with fail
    refine (show Calls _ _ _ _ _ from HN.out).mono ?_
    rintro e w1 ⟨rfl, hr1, ho1⟩
    have HR1 : Hid _ := hr1
    have HO1 : Hid _ := ho1
    clear hr1 ho1
    go_wp2
    go_returns
    exact ⟨SP.es s[i], i + 1, by rw [HES.out]; first | rfl | simp, ⟨by omega, hi, HEO.out, HR1.out, Only.mo HO1.out⟩⟩
  have e116 : ((c : Int) == 116) = false := by simp; omega
  by_cases h98 : c = 98
  · have HES : Hid ((SP.es s[i]).toNat = 8) := by
      show _ = _
      unfold SP.es; simp [hc, h98]
    subst h98
    clear hc
    go_enter Tryz.func98, Tryz.ntmps98
    go_wp2_with fail
    refine (show Calls _ _ _ _ _ from HN.out).mono ?_
    rintro e w1 ⟨rfl, hr1, ho1⟩
    have HR1 : Hid _ := hr1
    have HO1 : Hid _ := ho1
    clear hr1 ho1
    go_wp2
    go_returns
    exact ⟨SP.es s[i], i + 1, by rw [HES.out]; first | rfl | simp, ⟨by omega, hi, HEO.out, HR1.out, Only.mo HO1.out⟩⟩
  have e98 : ((c : Int) == 98) = false := by simp; omega
  by_cases h97 : c = 97
  · have HES : Hid ((SP.es s[i]).toNat = 7) := by
      show _ = _
      unfold SP.es; simp [hc, h97]
    subst h97
    clear hc
    go_enter Tryz.func98, Tryz.ntmps98
    go_wp2_with fail
    refine (show Calls _ _ _ _ _ from HN.out).mono ?_
    rintro e w1 ⟨rfl, hr1, ho1⟩
    have HR1 : Hid _ := hr1
    have HO1 : Hid _ := ho1
    clear hr1 ho1
    go_wp2
    go_returns
    exact ⟨SP.es s[i], i + 1, by rw [HES.out]; first | rfl | simp, ⟨by omega, hi, HEO.out, HR1.out, Only.mo HO1.out⟩⟩
  have e97 : ((c : Int) == 97) = false := by simp; omega
  have HES : Hid ((SP.es s[i]).toNat = c) := by
    show _ = _
    unfold SP.es; rw [hc, if_neg h110, if_neg h114, if_neg h116, if_neg h98, if_neg h97]; exact hc
  clear hc
  go_enter Tryz.func98, Tryz.ntmps98
  go_wp2_with fail
  refine (show Calls _ _ _ _ _ from HN.out).mono ?_
  rintro e w1 ⟨rfl, hr1, ho1⟩
  have HR1 : Hid _ := hr1
  have HO1 : Hid _ := ho1
  clear hr1 ho1
  go_wp2
  go_returns
  exact ⟨SP.es s[i], i + 1, by rw [HES.out]; first | rfl | simp, ⟨by omega, hi, HEO.out, HR1.out, Only.mo HO1.out⟩⟩
theorem own_ne {w w' : World} {base T n q : Nat} {v : Value} {xs : List Value} (h : w.ownsRow base T 1 v n xs) (hk : ∀ b, v.ownBlock = some b → w'.heap[b]? = w.heap[b]?) : w'.ownsRow base T 1 v n xs := by
  obtain ⟨h1, h2 | ⟨g, cap, cur, hv, hb, hg, rest⟩⟩ := h
  · exact ⟨h1, Or.inl h2⟩
  · exact ⟨h1, Or.inr ⟨g, cap, cur, hv, hb, (hk g (by rw [hv]; rfl)).trans hg, rest⟩⟩
/-- a splitter with its word. -/
structure SpS (w0 W : World) (q : Nat) (s : ByteArray) (j : Nat) (wv : Value) (acc : SP.Bs) : Prop where
  row : SpR W q s j wv
  own : W.ownsRow w0.heap.size 5 1 wv acc.length (bcells acc)
  hq : w0.heap.size ≤ q
  bel : Below w0.heap.size w0 W
/-- what a call on a splitter does: all but it and its word's block is as it was. -/
structure Ch (w w' : World) (q : Nat) (wv wv' : Value) : Prop where
  os : w'.os = w.os
  tape : w'.tape = w.tape
  output : w'.output = w.output
  size : w.heap.size ≤ w'.heap.size
  block : ∀ k, k < w.heap.size → k ≠ q → wv.ownBlock ≠ some k → w'.heap[k]? = w.heap[k]?
  blk : ∀ b, wv'.ownBlock = some b → wv.ownBlock = some b ∨ w.heap.size ≤ b
theorem Ch.refl (w : World) (q : Nat) (wv : Value) : Ch w w q wv wv := ⟨rfl, rfl, rfl, Nat.le_refl _, fun _ _ _ _ => rfl, fun _ h => Or.inl h⟩
theorem Ch.trans {a b c : World} {q : Nat} {v v1 v2 : Value} (h : Ch a b q v v1) (h' : Ch b c q v1 v2) : Ch a c q v v2 :=
  ⟨h'.os.trans h.os, h'.tape.trans h.tape, h'.output.trans h.output, Nat.le_trans h.size h'.size, fun k hk hq hv => (h'.block k (Nat.lt_of_lt_of_le hk h.size) hq (fun e => by
    rcases h.blk k e with e2 | e2
    · exact hv e2
    · omega)).trans (h.block k hk hq hv), fun x hx => by
    rcases h'.blk x hx with e | e
    · exact h.blk x e
    · right; have := h.size; omega⟩
theorem Mo.ch {w w' : World} {q : Nat} (h : Mo w w' q) (wv : Value) : Ch w w' q wv wv := ⟨h.os, h.tape, h.output, h.size, fun k hk hq _ => h.block k hk hq, fun _ e => Or.inl e⟩
section
variable {w0 W W' : World} {q : Nat} {s : ByteArray} {j j' : Nat} {wv : Value} {acc : SP.Bs}
theorem SpS.ne (h : SpS w0 W q s j wv acc) (b : Nat) (hb : wv.ownBlock = some b) : b ≠ q ∧ b < W.heap.size := by
  obtain ⟨_, ⟨hv, _⟩ | ⟨g, cap, cur, hv, hbg, hg, _⟩⟩ := h.own
  · rw [hv] at hb; simp [Value.ownBlock] at hb
  · rw [hv] at hb
    simp [Value.ownBlock] at hb
    subst hb
    refine ⟨?_, row_lt hg⟩
    rintro rfl
    rw [h.row] at hg; simp at hg
theorem SpS.mo (h : SpS w0 W q s j wv acc) (m : Mo W W' q) (r : SpR W' q s j' wv) : SpS w0 W' q s j' wv acc :=
  ⟨r, own_ne (q := q) h.own (fun b hb => m.block b (h.ne b hb).2 (h.ne b hb).1), h.hq, h.bel.trans (m.below h.hq h.bel.size)⟩
/-- a byte more in the word. -/
theorem SpS.app {v' : Value} {c : UInt8} (h : SpS w0 W q s j wv acc) (ho : W'.ownsRow w0.heap.size 5 1 v' (acc.length + 1) (bcells acc ++ [.int .u8 (c.toNat : Int)])) (hg : W.grownBy W' wv.ownBlock) (hat : v'.ownBlock = wv.ownBlock ∨ v'.ownBlock = some W.heap.size) : SpR W' q s j wv ∧ SpS w0 (W'.setCell ⟨q, 2, none⟩ v') q s j v' (acc ++ [c]) ∧ Ch W (W'.setCell ⟨q, 2, none⟩ v') q wv v' := by
  have hch : Ch W (W'.setCell ⟨q, 2, none⟩ v') q wv v' := ⟨hg.os, hg.tape, hg.output, by rw [World.size_setCell]; exact hg.size, fun k hk hq hv => (heap_setCell_other _ _ _ _ hq).trans (hg.block k hk (fun e => hv e.symm)), fun b hb => by
    rcases hat with e | e
    · exact Or.inl (by rw [← e]; exact hb)
    · rw [e] at hb; injection hb with hb; right; omega⟩
  have hr : SpR W' q s j wv := (hg.block q (row_lt h.row) (fun e => (h.ne q e.symm).1 rfl)).trans h.row
  have hr2 : SpR (W'.setCell ⟨q, 2, none⟩ v') q s j v' := by
    show _ = _
    rw [heap_setCell_same _ _ _ _ _ _ hr]; rfl
  have hb : Below w0.heap.size w0 W' := h.bel.grown hg h.bel.size (fun b hb => by
    obtain ⟨_, ⟨hv, _⟩ | ⟨g, cap, cur, hv, hbg, _⟩⟩ := h.own
    · rw [hv] at hb; simp [Value.ownBlock] at hb
    · rw [hv] at hb; simp [Value.ownBlock] at hb; omega)
  refine ⟨hr, ⟨hr2, ?_, h.hq, hb.setCell (p := ⟨q, 2, none⟩) h.hq _⟩, hch⟩
  rw [bcells_snoc, List.length_append]
  refine own_ne (q := q) ho (fun b hb => heap_setCell_other _ _ _ _ ?_)
  rintro rfl
  obtain ⟨_, ⟨hv, _⟩ | ⟨g, cap, cur, hv, hbg, hgg, _⟩⟩ := ho
  · rw [hv] at hb; simp [Value.ownBlock] at hb
  · rw [hv] at hb
    simp [Value.ownBlock] at hb
    subst hb
    rw [hr] at hgg; simp at hgg
end
end Go.Proofs.YtnfbaeajalnmmaaGreatDoor
