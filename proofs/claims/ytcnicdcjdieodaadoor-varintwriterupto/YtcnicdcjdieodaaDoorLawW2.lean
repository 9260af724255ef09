import Derived.Test.YtcnicdcjdieodaaDoorLawW
namespace Go.Proofs.YtcnicdcjdieodaaDoor
open Go.RowKit Vi
set_option linter.unusedVariables false

set_option maxHeartbeats 1000000 in
set_option maxRecDepth 20000 in
theorem writer_bad (lim : Int) (hl : lim < 0 ∨ 1073741824 < lim) (v : Value) (w : World) (hL : Laid w) :
    Calls Tryd.prog 6 #[.int .i64 lim, v] w fun e w' => e = .returned (.bool true) ∧ Below w.heap.size w w' := by
  have HL : Hid (Laid w) := hL
  have HB : Hid _ := hl
  clear hL
  rcases hl with hl | hl
  · go_enter Tryd.func6, Tryd.ntmps6
    go_wp2_with fail
    refine (newWriter_bad lim HB.out _).mono ?_
    rintro e w1 ⟨rfl, rfl⟩
    go_wp2_with fail
    refine (works_any _ HL.out).mono ?_
    rintro e w2 ⟨rfl, hb2⟩
    go_wp2
    go_ret
    exact ⟨rfl, hb2⟩
  · have h0 : ¬ lim < 0 := by omega
    go_enter Tryd.func6, Tryd.ntmps6
    go_wp2_with fail
    refine (newWriter_bad lim HB.out _).mono ?_
    rintro e w1 ⟨rfl, rfl⟩
    go_wp2_with fail
    refine (works_any _ HL.out).mono ?_
    rintro e w2 ⟨rfl, hb2⟩
    go_wp2
    go_ret
    exact ⟨rfl, hb2⟩
set_option maxHeartbeats 16000000 in
set_option maxRecDepth 20000 in
theorem writer_walk (lim : Nat) (hlim : lim ≤ 1073741824) (ad : Option Addr) (g off len cap : Nat) (B : Nat → Bool) (N : Nat → Int) (A : Nat → Option Addr) (M C : Nat → Nat) (G O : Nat → Nat) (S : Nat → Nat → ByteArray) (w : World) (hL : Laid w)
    (had : len ≠ 0 → ad = some ⟨g, off, none⟩) (hlen : len ≤ 1048576) (hP : Lies w g off len B N A M C G O S) (hN : ∀ i, i < len → -9223372036854775808 ≤ N i ∧ N i ≤ 9223372036854775807) :
    Calls Tryd.prog 6 #[.int .i64 (lim : Int), .slice ad len cap] w fun e w' => e = .returned (.bool true) ∧ Below w.heap.size w w' := by
  have HL : Hid (Laid w) := hL
  have HAd : Hid _ := had
  have HP : Hid (Lies w g off len B N A M C G O S) := hP
  have HNr : Hid _ := hN
  have hl1 : ¬ (1073741824 : Int) < (lim : Int) := by omega
  clear hL had hP hN
  go_enter Tryd.func6, Tryd.ntmps6
  go_wp2_with fail
  refine (newWriter_ok lim hlim _).mono ?_
  rintro e w1 ⟨rfl, rfl⟩
  go_wp2_with fail
  refine (works_any _ (HL.out.on ((Below.refl _ _).alloc (Nat.le_refl _) _))).mono ?_
  rintro e w2 ⟨rfl, hb2⟩
  have hB : Writing w w2 lim [] := ⟨(Wr.start w lim).on hb2, by simp, ((Below.refl _ _).alloc (Nat.le_refl _) _).trans (hb2.mono (by simp))⟩
  clear hb2
  have hdl : decide ((1073741824 : Int) < (lim : Int)) = false := by simp; omega
  have hdl0 : decide ((lim : Int) < 0) = false := by simp
  go_wp2
  go_loopw [6, 7, 8, 9, 10, 11] (fun _ t i _ _ _ wr => ∃ (k : Nat) (l : List UInt8), k ≤ len ∧ i = .int .i64 k ∧ t = .string (strB l) ∧ Writing w wr lim l) (fun _ _ i _ _ _ _ => len - (intOf i).toNat)
  case atStart => exact ⟨0, [], by omega, rfl, rfl, hB⟩
  case round =>
    clear hB hdl hdl0
    obtain ⟨k, l, hk, rfl, rfl, hB⟩ := hrel
    by_cases hlt : k < len
    · have hd := HAd.out (by omega)
      subst hd
      have hgw := HP.out.low (by omega)
      have hcb := (bcellW hB.bel g (off + k * 3) hgw).trans (HP.out.b k hlt)
      have hcn := (bcellW hB.bel g (off + k * 3 + 1) hgw).trans (HP.out.n k hlt)
      have hct := (bcellW hB.bel g (off + k * 3 + 2) hgw).trans (HP.out.t k hlt)
      obtain ⟨hm1, hm2⟩ := HP.out.m k hlt
      obtain ⟨hn0, hn1⟩ := HNr.out k hlt
      have HA : Hid _ := HP.out.a k hlt
      have HS : Hid _ := HP.out.s k hlt
      have HB : Hid (Writing w wr lim l) := hB
      have hll := hB.le
      have hsl := strB_size l
      clear hB
      have HNk0 := HP.out.n k hlt
      generalize hnn : N k = nn at hcn hn0 hn1 HNk0
      have HNk : Hid (w.cell? ⟨g, off + k * 3 + 1, none⟩ = some (.int .i64 nn)) := HNk0
      clear HNk0 hnn
      cases hBk : B k with
      | true =>
        rw [hBk] at hcb
        have hsm := lenL_le nn
        by_cases hbad : 0 ≤ nn ∧ nn ≤ 4611686018427387904
        · have hsz : (lenB nn).size = (lenL nn).length := by rw [← list_len, lenB_list]
          go_wp2_with fail
          refine (refPutLen_ok nn hbad.1 hbad.2 _).mono ?_
          rintro e w3 ⟨rfl, hb3⟩
          have hb3w := HB.out.bel.trans (hb3.mono HB.out.bel.size)
          have hW3 := HB.out.wt.on hb3
          have hcb3 := (bcellW hb3w g (off + k * 3) hgw).trans ((HP.out.b k hlt).trans (by rw [hBk]))
          have hcn3 := (bcellW hb3w g (off + k * 3 + 1) hgw).trans HNk.out
          have hct3 := (bcellW hb3w g (off + k * 3 + 2) hgw).trans (HP.out.t k hlt)
          clear hcb hcn hct hb3
          go_wp2
          go_loop [9, 11] (fun m q => m = .string (lenB nn) ∧ q = .int .i64 0) (fun _ _ => 0)
          case atStart => exact ⟨rfl, rfl⟩
          case round =>
            obtain ⟨rfl, rfl⟩ := hrel
            by_cases hM : 0 < M k
            all_goals
              by_cases hfit : lim < l.length + (lenL nn).length
              · have hq : (lim : Int) < (l.length : Int) + ((lenL nn).length : Int) := by omega
                go_wp2_with fail
                refine (wlen_long w.heap.size lim l nn hbad.1 hbad.2 _ hW3 hlim hll hfit).mono ?_
                rintro e w4 ⟨rfl, hw4, hp4⟩
                have hb4w := hb3w.trans (hp4.below (Nat.le_refl _))
                go_wp2_with fail
                refine (wsize_any w.heap.size lim _ _ hw4).mono ?_
                rintro e w5 ⟨rfl, rfl⟩
                go_wp2_with fail
                refine (wtext_s w.heap.size lim _ _ hw4).mono ?_
                rintro e w6 ⟨rfl, rfl⟩
                go_wp2
                go_roundw
                case rel => exact ⟨k + 1, l, by omega, by go_num, by first | rfl | (rw [hcat]), ⟨hw4, by first | exact hll | (rw [List.length_append]; omega), hb4w⟩⟩
                case measure => simp [intOf]; omega
              · have hq : (l.length : Int) + ((lenL nn).length : Int) ≤ (lim : Int) := by omega
                have hcat := strB_lenB l nn
                have hs2 : (strB (l ++ lenL nn)).size = l.length + (lenL nn).length := by rw [strB_size, List.length_append]
                go_wp2_with fail
                refine (wlen_ok w.heap.size lim l nn hbad.1 hbad.2 _ hW3 hlim (by omega)).mono ?_
                rintro e w4 ⟨rfl, hw4, hp4⟩
                have hb4w := hb3w.trans (hp4.below (Nat.le_refl _))
                go_wp2_with fail
                refine (wsize_any w.heap.size lim _ _ hw4).mono ?_
                rintro e w5 ⟨rfl, rfl⟩
                go_wp2_with fail
                refine (wtext_s w.heap.size lim _ _ hw4).mono ?_
                rintro e w6 ⟨rfl, rfl⟩
                go_wp2
                go_roundw
                case rel => exact ⟨k + 1, l ++ lenL nn, by omega, by go_num, by first | rfl | (rw [hcat]), ⟨hw4, by first | exact hll | (rw [List.length_append]; omega), hb4w⟩⟩
                case measure => simp [intOf]; omega
        · have HBd : Hid (nn < 0 ∨ 4611686018427387904 < nn) := by show _ ∨ _; omega
          clear hbad
          go_wp2_with fail
          refine (refPutLen_bad nn HBd.out _).mono ?_
          rintro e w3 ⟨rfl, rfl⟩
          have hb3w := HB.out.bel
          have hW3 := HB.out.wt
          go_wp2
          go_loop [9, 11] (fun m q => m = .string ⟨#[]⟩ ∧ q = .int .i64 0) (fun _ _ => 0)
          case atStart => exact ⟨rfl, rfl⟩
          case round =>
            obtain ⟨rfl, rfl⟩ := hrel
            by_cases hM : 0 < M k
            all_goals
              go_wp2_with fail
              refine (wlen_bad w.heap.size lim l nn HBd.out _ hW3).mono ?_
              rintro e w4 ⟨rfl, hw4, hp4⟩
              have hb4w := hb3w.trans (hp4.below (Nat.le_refl _))
              go_wp2_with fail
              refine (wsize_any w.heap.size lim _ _ hw4).mono ?_
              rintro e w5 ⟨rfl, rfl⟩
              go_wp2_with fail
              refine (wtext_s w.heap.size lim _ _ hw4).mono ?_
              rintro e w6 ⟨rfl, rfl⟩
              go_wp2
              go_roundw
              case rel => exact ⟨k + 1, l, by omega, by go_num, by first | rfl | (rw [hcat]), ⟨hw4, by first | exact hll | (rw [List.length_append]; omega), hb4w⟩⟩
              case measure => simp [intOf]; omega
      | false =>
        rw [hBk] at hcb
        have hb3w := HB.out.bel
        have hW3 := HB.out.wt
        have HCl : Hid (∀ w', PutF wr w' w.heap.size → ∀ j, j < M k → w'.cell? ⟨G k, O k + j, none⟩ = some (.string (S k j))) := by
          intro w' hp j hj
          have hG := (HA.out (by omega)).2
          rw [World.cell?_of_block (w := wr) (hp.low (G k) hG), bcellW hb3w (G k) (O k + j) hG]
          exact HS.out j hj
        have hcz := strB_size (cat (S k) (M k))
        clear hcn
        go_wp2
        go_loop [9, 11] (fun m q => ∃ j : Nat, j ≤ M k ∧ q = .int .i64 j ∧ m = .string (strB (cat (S k) j))) (fun _ q => M k - (intOf q).toNat)
        case atStart => exact ⟨0, by omega, rfl, by rw [cat_zero]; rfl⟩
        case round =>
          obtain ⟨j, hj, rfl, rfl⟩ := hrel
          by_cases hjl : j < M k
          · have hAk := (HA.out (by omega)).1
            rw [hAk] at hct
            have hse := HCl.out wr (PutF.refl _ _) j hjl
            have hcl := cat_mono (S k) (show j + 1 ≤ M k by omega)
            rw [cat_len] at hcl
            have hcs := strB_size (cat (S k) j)
            have HC : Hid (strB (cat (S k) j) ++ S k j = strB (cat (S k) (j + 1))) := by show _ = _; rw [strB_app, ← cat_succ]
            go_wp2
            go_round
            case rel => exact ⟨j + 1, by omega, by go_num, by rw [HC.out]⟩
            case measure => simp [intOf]; omega
          · have hje : j = M k := by omega
            rw [hje]
            clear hje hjl hj
            by_cases hfit : lim < l.length + (cat (S k) (M k)).length
            · have hq : (lim : Int) < (l.length : Int) + ((cat (S k) (M k)).length : Int) := by omega
              go_wp2_with fail
              refine (put_long w.heap.size lim l (A k) (G k) (O k) (M k) (C k) (S k) _ hW3 hlim (by omega) hll (fun h => (HA.out h).1) HCl.out (fun i hi => by have h1 := cat_mono (S k) (show i + 1 ≤ M k by omega); rw [cat_len] at h1; omega) hfit).mono ?_
              rintro e w4 ⟨rfl, hw4, hp4⟩
              have hb4w := hb3w.trans (hp4.below (Nat.le_refl _))
              go_wp2_with fail
              refine (wsize_any w.heap.size lim _ _ hw4).mono ?_
              rintro e w5 ⟨rfl, rfl⟩
              go_wp2_with fail
              refine (wtext_s w.heap.size lim _ _ hw4).mono ?_
              rintro e w6 ⟨rfl, rfl⟩
              go_wp2
              go_roundw
              case rel => exact ⟨k + 1, l, by omega, by go_num, by first | rfl | (rw [hcat]), ⟨hw4, by first | exact hll | (rw [List.length_append]; omega), hb4w⟩⟩
              case measure => simp [intOf]; omega
            · have hq : (l.length : Int) + ((cat (S k) (M k)).length : Int) ≤ (lim : Int) := by omega
              have hcat : strB l ++ strB (cat (S k) (M k)) = strB (l ++ cat (S k) (M k)) := by rw [strB_app, strB_list]
              have hs2 : (strB (l ++ cat (S k) (M k))).size = l.length + (cat (S k) (M k)).length := by rw [strB_size, List.length_append]
              go_wp2_with fail
              refine (put_ok w.heap.size lim l (A k) (G k) (O k) (M k) (C k) (S k) _ hW3 hlim (by omega) (fun h => (HA.out h).1) HCl.out (by omega)).mono ?_
              rintro e w4 ⟨rfl, hw4, hp4⟩
              have hb4w := hb3w.trans (hp4.below (Nat.le_refl _))
              go_wp2_with fail
              refine (wsize_any w.heap.size lim _ _ hw4).mono ?_
              rintro e w5 ⟨rfl, rfl⟩
              go_wp2_with fail
              refine (wtext_s w.heap.size lim _ _ hw4).mono ?_
              rintro e w6 ⟨rfl, rfl⟩
              go_wp2
              go_roundw
              case rel => exact ⟨k + 1, l ++ cat (S k) (M k), by omega, by go_num, by first | rfl | (rw [hcat]), ⟨hw4, by first | exact hll | (rw [List.length_append]; omega), hb4w⟩⟩
              case measure => simp [intOf]; omega
    · go_wp2
      go_ret
      exact ⟨rfl, hB.bel⟩
end Go.Proofs.YtcnicdcjdieodaaDoor
