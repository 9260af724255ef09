import Derived.Test.YtcnicdcjdieodaaDoorLawT
import Derived.Lib.ItoaMem
namespace Go.Proofs.YtcnicdcjdieodaaDoor
open Go.RowKit Vi
set_option linter.unusedVariables false

theorem bcellT {W w1 : World} (hb : Below W.heap.size W w1) (b o : Nat) (h : b < W.heap.size) : w1.cell? ⟨b, o, none⟩ = W.cell? ⟨b, o, none⟩ := hb.cell (p := ⟨b, o, none⟩) h
theorem own9_put {w w' : World} {b : Nat} {v : Value} {n : Nat} {xs : List Value} (h : w.ownsRow (b + 1) 9 1 v n xs) (hp : PutF w w' b) : w'.ownsRow (b + 1) 9 1 v n xs := by
  refine ⟨h.1, ?_⟩
  rcases h.2 with h1 | ⟨g, cap, cur, hv, hb, hg, r⟩
  · exact Or.inl h1
  · exact Or.inr ⟨g, cap, cur, hv, hb, hp.other g _ _ _ (by omega) (by decide) hg, r⟩
theorem own9_moved {w w' : World} {base R : Nat} {v : Value} {n : Nat} {xs : List Value} {s : ByteArray} {a a' : Nat} (h : w.ownsRow base 9 1 v n xs) (hr : Rd w R s a) (hm : Moved w w' R s a') : w'.ownsRow base 9 1 v n xs := by
  refine ⟨h.1, ?_⟩
  rcases h.2 with h1 | ⟨g, cap, cur, hv, hb, hg, r⟩
  · exact Or.inl h1
  · refine Or.inr ⟨g, cap, cur, hv, hb, ?_, r⟩
    rw [hm.other g ?_]
    · exact hg
    · intro e
      subst e
      have := hr
      unfold Rd at this
      rw [hg] at this
      injection this with this
      injection this with _ h4 _
      exact absurd h4 (by decide)
theorem Wr.grown {w w5 : World} {b lim : Nat} {l : List UInt8} {v : Value} {n : Nat} {xs : List Value} (h : Wr w b lim l) (ho : w.ownsRow (b + 1) 9 1 v n xs) (hg : w.grownBy w5 v.ownBlock) : Wr w5 b lim l := by
  obtain ⟨vv, hv⟩ := h
  refine ⟨vv, ?_, hv.own.1, ?_⟩
  · rw [hg.block b (row_lt hv.row) (fun e => by have := (World.ownsRow.lt ho b e.symm).1; omega)]; exact hv.row
  · rcases hv.own.2 with h1 | ⟨g, cap, cur, e1, hb, hgg, r⟩
    · exact Or.inl h1
    · refine Or.inr ⟨g, cap, cur, e1, hb, ?_, r⟩
      rw [hg.block g (row_lt hgg) ?_]
      · exact hgg
      · intro e
        rcases ho.2 with hn | ⟨g9, cap9, cur9, e9, _, hg9, _⟩
        · rw [hn.1] at e; cases e
        · rw [e9] at e
          have e' : g = g9 := by simpa [Value.ownBlock] using e
          subst e'
          rw [hgg] at hg9
          injection hg9 with hg9
          injection hg9 with _ h4 _
          exact absurd h4 (by decide)
def wcells (S : Nat → ByteArray) (k : Nat) : List Value := (List.range k).map fun i => Value.string (encB S (i + 1))
theorem wcells_succ (S : Nat → ByteArray) (k : Nat) : wcells S (k + 1) = wcells S k ++ [.string (encB S (k + 1))] := by unfold wcells; rw [List.range_succ, List.map_append]; rfl
theorem wcells_at (S : Nat → ByteArray) (n k : Nat) (h : k < n) : (wcells S n)[k]? = some (.string (encB S (k + 1))) := by
  unfold wcells; rw [List.getElem?_map, List.getElem?_range h]; rfl
theorem info9w : (Tryd.prog.info? 9).map (fun i => (i.zero, i.size, i.bytes)) = some (some (.string ⟨#[]⟩), 1, 16) := by kernel_rfl
/-- how it stands while it is written. -/
structure Wing (w wr : World) (S : Nat → ByteArray) (k : Nat) (v : Value) : Prop where
  wt : Wr wr w.heap.size 1073741824 (encL S k)
  was : wr.ownsRow (w.heap.size + 1) 9 1 v k (wcells S k)
  bel : Below w.heap.size w wr
/-- how it stands while it is read. -/
structure Ring (w wr : World) (S : Nat → ByteArray) (n R q : Nat) (v : Value) : Prop where
  rd : Rd wr R (encB S n) (encL S q).length
  was : wr.ownsRow (w.heap.size + 1) 9 1 v n (wcells S n)
  bel : Below w.heap.size w wr
  le : w.heap.size ≤ R
theorem Rd.drewT {w : World} {b : Nat} {s : ByteArray} {a : Nat} (h : Rd w b s a) (n : Nat) : Rd (w.drewN n) b s a := h
theorem Ring.drew {w wr : World} {S : Nat → ByteArray} {n R q : Nat} {v : Value} (h : Ring w wr S n R q v) (k : Nat) : Ring w (wr.drewN k) S n R q v :=
  ⟨h.rd, h.was, h.bel.trans ⟨rfl, rfl, rfl, Nat.le_refl _, fun _ _ => rfl⟩, h.le⟩
theorem encB_of (S : Nat → ByteArray) (k : Nat) : (⟨(encL S k).toArray⟩ : ByteArray) = encB S k := rfl
set_option maxHeartbeats 4000000 in
set_option maxRecDepth 20000 in
theorem through_walk (ad : Option Addr) (g off len cap : Nat) (S : Nat → ByteArray) (w : World) (hL : Laid w) (had : len ≠ 0 → ad = some ⟨g, off, none⟩) (hg : len ≠ 0 → g < w.heap.size) (hlen : len ≤ 1048576)
    (hS : ∀ i, i < len → w.cell? ⟨g, off + i, none⟩ = some (.string (S i))) (hsum : sumL S len ≤ 100000000) :
    Calls Tryd.prog 7 #[.slice ad len cap] w fun e w' => e = .returned (.bool true) ∧ Below w.heap.size w w' := by
  obtain ⟨i9, hi, hz0, hz1, hz2⟩ := info_parts info9w
  have HL : Hid (Laid w) := hL
  have HS : Hid _ := hS
  have HAd : Hid _ := had
  have HG : Hid _ := hg
  clear hL hS had hg
  go_enter Tryd.func7, Tryd.ntmps7
  go_wp2_with fail
  refine (newWriter_ok 1073741824 (by omega) _).mono ?_
  rintro e w1 ⟨rfl, rfl⟩
  go_wp2_with fail
  refine (works_any _ (HL.out.on ((Below.refl _ _).alloc (Nat.le_refl _) _))).mono ?_
  rintro e w2 ⟨rfl, hb2⟩
  have hB : Wing w w2 S 0 (.slice none 0 0) := ⟨by rw [encL_zero]; exact (Wr.start w 1073741824).on hb2, World.ownsRow_nil _ _ _ _, ((Below.refl _ _).alloc (Nat.le_refl _) _).trans (hb2.mono (by simp))⟩
  clear hb2
  go_wp2
  go_loop [5, 6] (fun t i => ∃ k : Nat, k ≤ len ∧ i = .int .i64 k ∧ t = .int .i64 (sumL S k : Int)) (fun _ i => len - (intOf i).toNat)
  case atStart => exact ⟨0, by omega, rfl, rfl⟩
  case round =>
    obtain ⟨k, hk, rfl, rfl⟩ := hrel
    by_cases hlt : k < len
    · have hd := HAd.out (by omega)
      subst hd
      have hp := (bcellT hB.bel g (off + k) (HG.out (by omega))).trans (HS.out k hlt)
      have HC : Hid _ := sumL_succ S k
      have hm := sumL_mono S (show k + 1 ≤ len by omega)
      rw [HC.out] at hm
      go_wp2
      go_round
      case rel => exact ⟨k + 1, by omega, by go_num, by rw [HC.out]; go_num⟩
      case measure => simp [intOf]; omega
    · have hke : k = len := by omega
      subst hke
      by_cases hbig : 65536 < sumL S k
      · go_wp2
        go_ret
        exact ⟨rfl, hB.bel⟩
      · have HSm : Hid (sumL S k ≤ 65536) := by show _ ≤ _; omega
        have hdd : decide ((65536 : Int) < (sumL S k : Int)) = false := by simp; omega
        go_wp2
        clear hdd
        go_loopw [7, 8] (fun v i wr => ∃ j : Nat, j ≤ k ∧ i = .int .i64 j ∧ Wing w wr S j v) (fun _ i _ => k - (intOf i).toNat)
        case atStart => exact ⟨0, by omega, rfl, hB⟩
        case round =>
          clear hB hbig
          obtain ⟨j, hj, rfl, hB⟩ := hrel
          by_cases hlt2 : j < k
          · have hd := HAd.out (by omega)
            subst hd
            have hgw := HG.out (by omega)
            have hp := (bcellT hB.bel g (off + j) hgw).trans (HS.out j hlt2)
            have hmm := sumL_mono S (show j + 1 ≤ k by omega)
            rw [sumL_succ] at hmm
            have hle := encL_len S j
            have hll := lenL_le ((S j).size : Int)
            have hsm := HSm.out
            have HW : Hid (Wr wr w.heap.size 1073741824 (encL S j)) := hB.wt
            have HO : Hid (wr.ownsRow (w.heap.size + 1) 9 1 u7 j (wcells S j)) := hB.was
            have HBl : Hid (Below w.heap.size w wr) := hB.bel
            have HE : Hid _ := encL_succ S j
            have HWc : Hid _ := wcells_succ S j
            clear hB
            go_wp2_with fail
            refine (wlen_ok w.heap.size 1073741824 (encL S j) ((S j).size : Int) (by omega) (by omega) _ HW.out (by omega) (by omega)).mono ?_
            rintro e w3 ⟨rfl, hw3, hp3⟩
            have hp2 := (bcellT (HBl.out.trans (hp3.below (Nat.le_refl _))) g (off + j) hgw).trans (HS.out j hlt2)
            go_wp2_with fail
            refine (put_one w.heap.size 1073741824 _ (S j) _ hw3 (by omega) (by rw [List.length_append]; omega)).mono ?_
            rintro e w4 ⟨rfl, hw4, hp4⟩
            have hw4' : Wr w4 w.heap.size 1073741824 (encL S (j + 1)) := by
              rw [HE.out]; unfold enc1; rw [← List.append_assoc]; exact hw4
            have hp34 := hp3.trans hp4
            have ho4 : w4.ownsRow (w.heap.size + 1) 9 1 u7 j (wcells S j) := own9_put HO.out hp34
            have hb4 := HBl.out.trans (hp34.below (Nat.le_refl _))
            clear hw3 hw4 hp3 hp4 hp hp2
            go_wp2_with fail
            refine (wtext_any w.heap.size 1073741824 (encL S (j + 1)) _ hw4').mono ?_
            rintro e w5 ⟨rfl, rfl⟩
            have HO5 : Hid (w5.ownsRow (w.heap.size + 1) 9 1 u7 j (wcells S j)) := ho4
            have HW5 : Hid (Wr w5 w.heap.size 1073741824 (encL S (j + 1))) := hw4'
            clear ho4 hw4'
            have hz5 := hb4.size
            have hlt5 := HW5.out.lt
            rw [encB_of]
            go_wp2_with (at_builtin; go_must (refine wpList_append_own _ rfl _ _ 44 rfl (w.heap.size + 1) 9 i9 (.string ⟨#[]⟩) 1 16 Tryd.underlying44 hi hz0 hz1 hz2 rfl (by decide) _ _ _ rfl (World.ownsRow.alloc HO5.out _) ⟨w5.heap.size, 0, none⟩ 1 1 [.string (encB S (j + 1))] rfl rfl ?c1 ?c2 ?c3 ?c4 ?c5 ?_))
            case c1 =>
              intro t u hj
              match t, hj with
              | 0, hj => simp at hj; subst hj; simp [Addr.add]
            case c2 => intro u hu; simp at hu; subst hu; rfl
            case c3 => unfold maxLen; omega
            case c4 => omega
            case c5 => simp; omega
            · intro v' w6 hown' hgrow _
              have HN : Hid (Wing w w6 S (j + 1) v') := ⟨(HW5.out.on ((Below.refl _ _).alloc (Nat.le_refl _) _)).grown (World.ownsRow.alloc HO5.out _) hgrow, by rw [HWc.out]; exact hown', (hb4.alloc hb4.size _).grown hgrow (by simp; omega) (fun q hq => by have := (World.ownsRow.lt HO5.out q hq).1; omega)⟩
              go_wp2
              go_roundw
              case rel => exact ⟨j + 1, by omega, by go_num, HN.out⟩
              case measure => simp [intOf]; omega
          · have hje : j = k := by omega
            subst hje
            have HW : Hid (Wr wr w.heap.size 1073741824 (encL S j)) := hB.wt
            have HO : Hid (wr.ownsRow (w.heap.size + 1) 9 1 u7 j (wcells S j)) := hB.was
            have HBl : Hid (Below w.heap.size w wr) := hB.bel
            have hle := encL_len S j
            have hsm := HSm.out
            have HZ : Hid ((encB S j).size = (encL S j).length) := encB_size S j
            clear hB
            go_wp2_with fail
            refine (wtext_any w.heap.size 1073741824 (encL S j) _ HW.out).mono ?_
            rintro e w3 ⟨rfl, rfl⟩
            rw [encB_of]
            go_wp2_with fail
            refine (newReader_any (encB S j) _).mono ?_
            rintro e w4 ⟨rfl, rfl⟩
            have hbx := HBl.out.alloc HBl.out.size (.cells #[.string (encB S j), .int .i64 0] 83)
            have hR0 : Ring w (w3.alloc (.cells #[.string (encB S j), .int .i64 0] 83)) S j w3.heap.size 0 u7 := ⟨by rw [encL_zero]; exact heap_alloc_new _ _, World.ownsRow.alloc HO.out _, hbx, HBl.out.size⟩
            clear hbx
            go_wp2
            generalize w3.heap.size = R at *
            generalize w3.alloc (.cells #[.string (encB S j), .int .i64 0] 83) = w4 at *
            go_loopw [11, 12, 13, 14, 15, 16] (fun i _ _ _ _ _ wr => ∃ q : Nat, q ≤ j ∧ i = .int .i64 q ∧ Ring w wr S j R q u7) (fun i _ _ _ _ _ _ => j - (intOf i).toNat)
            case atStart => exact ⟨0, by omega, rfl, hR0⟩
            case round =>
              clear hR0
              obtain ⟨q, hq, rfl, hR⟩ := hrel
              by_cases hlt3 : q < j
              · have hd := HAd.out (by omega)
                subst hd
                have hgw := HG.out (by omega)
                have hmm := sumL_mono S (show q + 1 ≤ j by omega)
                rw [sumL_succ] at hmm
                have hll := lenL_le ((S q).size : Int)
                obtain ⟨hrn, hrs, hrp, hre⟩ := read_text S j q hlt3 (by omega)
                obtain ⟨te, hte⟩ := encL_pre S (show q + 1 ≤ j by omega)
                have hlen2 : (encL S (q + 1)).length ≤ (encB S j).size := by rw [HZ.out, hte, List.length_append]; omega
                have hnx := encL_next S q
                have hsz : (encB S j).size ≤ 65536 := by rw [HZ.out]; omega
                have HC := rlen_any R (encB S j) (encL S q).length (lenL ((S q).size : Int)).length (by omega) hrs hll (by omega) wr hR.rd
                rw [hrn, hrp, hre] at HC
                have HC' : Hid _ := HC
                have HT : ∀ w', Rd w' R (encB S j) ((encL S q).length + (lenL ((S q).size : Int)).length) → Calls Tryd.prog 26 #[.pointer (some ⟨R, 0, none⟩), .int .i64 ((S q).size : Int)] w' fun e w2 => e = .returned (.tuple #[.string (S q), .int .i64 0]) ∧ Moved w' w2 R (encB S j) (encL S (q + 1)).length := by
                  intro w' hr'
                  have h := take_ok R (encB S j) ((encL S q).length + (lenL ((S q).size : Int)).length) (S q).size (by omega) (by unfold maxLen; omega) w' hr'
                  rw [cut_text S j q hlt3, ← hnx] at h
                  exact h
                have HT' : Hid _ := HT
                have hmL : (encB S j).size ≤ maxLen := by unfold maxLen; omega
                have HR : Hid (Ring w wr S j R q u7) := hR
                have hcut := was_text S j (q + 1) (by omega)
                have hsq : (S q).size ≤ 65536 := by omega
                clear HC HT hR hrn hrs hrp hre hte hnx hmm hll
                go_wp2_with fail
                refine Calls.mono HC'.out ?_
                rintro e w5 ⟨rfl, hm5⟩
                have ho5 := own9_moved HR.out.was HR.out.rd hm5
                go_wp2_with fail
                refine Calls.mono (HT'.out _ hm5.rd) ?_
                rintro e w6 ⟨rfl, hm6⟩
                have ho6 := own9_moved ho5 hm5.rd hm6
                have hb6 : Below w.heap.size w w6 := (HR.out.bel.trans (hm5.below HR.out.le)).trans (hm6.below HR.out.le)
                have hl6 := (bcellT hb6 g (off + q) hgw).trans (HS.out q hlt3)
                have HNx : Hid (Ring w w6 S j R (q + 1) u7) := ⟨hm6.rd, ho6, hb6, HR.out.le⟩
                obtain ⟨gw, cw, hu7, hwas⟩ : ∃ gw cw, u7 = .slice (some ⟨gw, 0, none⟩) j cw ∧ w6.cell? ⟨gw, q, none⟩ = some (.string (encB S (q + 1))) := by
                  rcases ho6.2 with hn | ⟨g9, c9, cur9, e9, _⟩
                  · omega
                  · refine ⟨g9, c9, e9, ?_⟩
                    have := World.ownsRow.cells ho6 (g := g9) (by rw [e9]; rfl) q _ (wcells_at S j q hlt3)
                    rw [Lib.add_plain, Nat.zero_add] at this
                    exact this
                subst hu7
                have hrd6 := hm6.rd
                have hsame : ((encB S (q + 1)).toList == (encB S (q + 1)).toList) = true := by simp
                clear hm5 hm6 ho5 ho6 HC' HT'
                generalize hA2 : (encL S (q + 1)).length = a2 at *
                clear hA2
                go_wp2_with fail
                go_quiet ((first | (go_at_call 27; exact Calls.quiet_of_same (at_any _ _ _ _ (Rd.drewT hrd6 _))) | (go_at_call 28; exact Calls.quiet_of (left_any _ (encB S j) a2 hlen2 hmL _ (Rd.drewT hrd6 _)))))
                go_wp2
                go_roundw
                case rel => exact ⟨q + 1, by omega, by go_num, HNx.out.drew _⟩
                case measure => simp [intOf]; omega
              · have hqe : q = j := by omega
                subst hqe
                have hrd : Rd wr R (encB S q) (encB S q).size := by rw [HZ.out]; exact hR.rd
                have hmL : (encB S q).size ≤ maxLen := by rw [HZ.out]; unfold maxLen; omega
                have HBe : Hid (Below w.heap.size w wr) := hR.bel
                have HRl : Hid (w.heap.size ≤ R) := hR.le
                go_wp2_with fail
                refine (byte_end R (encB S q) hmL _ hrd).mono ?_
                rintro e w7 ⟨rfl, hmv⟩
                have HL7 := left_any R (encB S q) (encB S q).size (Nat.le_refl _) hmL _ hmv.rd
                rw [Nat.sub_self] at HL7
                go_wp2_with fail
                refine HL7.mono ?_
                rintro e w8 ⟨rfl, n8, rfl⟩
                go_wp2
                go_ret
                exact ⟨rfl, (HBe.out.trans (hmv.below HRl.out)).trans ⟨rfl, rfl, rfl, Nat.le_refl _, fun _ _ => rfl⟩⟩
end Go.Proofs.YtcnicdcjdieodaaDoor
