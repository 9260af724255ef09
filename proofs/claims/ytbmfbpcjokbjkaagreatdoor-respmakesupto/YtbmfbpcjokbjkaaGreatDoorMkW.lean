import Derived.Test.YtbmfbpcjokbjkaaGreatDoorMkL
namespace Go.Proofs.YtbmfbpcjokbjkaaGreatDoor
open Go.RowKit Vi
set_option linter.unusedVariables false
set_option linter.unusedSimpArgs false
/-- how many bytes and texts there are. -/
def mb (xs : List ByteArray) : Nat := 1 + (xs.map fun x => 1 + x.size).sum
theorem mb_cons (x : ByteArray) (xs : List ByteArray) : mb (x :: xs) = mb xs + 1 + x.size := by unfold mb; simp; omega
theorem mb_len (xs : List ByteArray) : xs.length < mb xs := by
  induction xs with
  | nil => simp [mb]
  | cons x xs ih => rw [mb_cons, List.length_cons]; omega
theorem mb_mem (xs : List ByteArray) (x : ByteArray) (h : x ∈ xs) : x.size < mb xs := by
  induction xs with
  | nil => cases h
  | cons y ys ih =>
    rw [mb_cons]
    rcases List.mem_cons.1 h with rfl | h
    · have : 1 ≤ mb ys := by unfold mb; omega
      omega
    · have := ih h; omega
theorem mb_flat : ∀ (xs : List ByteArray), mb xs ≤ 1099511627776 → (xs.flatMap wdL).length ≤ 64 * mb xs
  | [], _ => by simp
  | x :: xs, h => by
    rw [mb_cons] at h ⊢
    have h1 := mb_flat xs (by omega)
    have h2 := wdL_len x (by omega)
    rw [List.flatMap_cons, List.length_append]; omega
/-- what the law RespMakes holds. -/
structure MkI (B : Nat) (w W : World) (lv mv bv : Value) (qt : Nat) (xs : List ByteArray) : Prop where
  bel : Below B w W
  ls : SRow W lv xs
  ms : SRow W mv xs
  bs : BV W bv xs
  tx : W.heap[qt]? = some (.cells #[.int .i64 5, .string ⟨#[]⟩, .int .i64 0, bv] 24)
  lo : B ≤ W.heap.size
theorem MkI.on {B : Nat} {w W W' : World} {lv mv bv : Value} {qt : Nat} {xs : List ByteArray} (h : MkI B w W lv mv bv qt xs) (hb : Below W.heap.size W W') : MkI B w W' lv mv bv qt xs :=
  ⟨h.bel.trans (hb.mono h.lo), h.ls.on hb, h.ms.on hb, h.bs.on hb, keep_row h.tx hb, Nat.le_trans h.lo hb.size⟩
set_option maxRecDepth 20000 in
set_option maxHeartbeats 16000000 in
theorem RespMakes_walk (s : ByteArray) (z : Int) (v2 : Value) (xs : List ByteArray) (hs : s.size ≤ 1048576) (hz : -9223372036854775808 ≤ z ∧ z ≤ 9223372036854775807) (hbl : mb xs ≤ 1048576) (hF : NF v2) (w : World) (hS : SRow w v2 xs) (hL : Laid w) :
    Calls Tryz.prog 5 #[.string s, .int .i64 z, v2] w fun e w' => e = .returned (.bool true) ∧ Below w.heap.size w w' := by
  obtain ⟨P0, c0, rfl⟩ := hS.form
  have HSZ : Hid (∀ x ∈ xs, x.size ≤ 1099511627776) := fun x hx => by have := mb_mem xs x hx; omega
  have HFL : Hid ((xs.flatMap wdL).length ≤ 1099511627776) := by show _ ≤ _; have := mb_flat xs (by omega); omega
  have HL : Hid (Laid w) := hL
  have HZ : Hid _ := hz
  obtain ⟨n, hn⟩ : ∃ n, xs.length = n := ⟨_, rfl⟩
  have HN : Hid (xs.length = n) := hn
  have hnl : n ≤ 1048576 := by rw [← hn]; have := mb_len xs; omega
  rw [hn] at hS hF ⊢
  have HS : Hid (SRow w (.slice P0 n c0) xs) := hS
  have HF : Hid (NF (.slice P0 n c0)) := hF
  obtain ⟨B, hB⟩ : ∃ B, w.heap.size = B := ⟨_, rfl⟩
  have HB : Hid (w.heap.size = B) := hB
  rw [hB]
  obtain ⟨i0, hi0, hy0, hy1, hy2⟩ := info_parts infoRp
  have HSS : Hid (s.size ≤ 1099511627776) := by show _ ≤ _; omega
  clear hL hz hn hS hF hB hbl hs
  go_enter Tryz.func5, Tryz.ntmps5
  go_upto_region 2 with fail
  go_wp2_with (at_builtin; go_must (refine wpList_append_sr rfl _ _ rfl B ?p1 rfl (.slice P0 n c0) xs rfl HS.out HF.out ?p2 ?_))
  case p1 => exact Nat.le_of_eq HB.out.symm
  case p2 => rw [HN.out]; omega
  intro v1 w1 ho1 hg1
  rw [HN.out] at ho1
  obtain ⟨Pm, cm, hfm⟩ := own_form ho1
  subst hfm
  have hb1 : Below B w w1 := (Below.refl B w).grown hg1 (Nat.le_of_eq HB.out.symm) (fun k hk => by cases hk)
  have HB1 : Hid (Below B w w1) := hb1
  have HM1 : Hid (SRow w1 (.slice Pm n cm) xs) := own_sr ho1 HN.out
  have HS1 : Hid (SRow w1 (.slice P0 n c0) xs) := HS.out.on (HB.out ▸ hb1)
  have HBw : Hid (B ≤ w1.heap.size) := by have := hb1.size; rw [HB.out] at this; exact this
  obtain ⟨B1, hB1⟩ : ∃ B, w1.heap.size = B := ⟨_, rfl⟩
  have HBB : Hid (w1.heap.size = B1) := hB1
  clear ho1 hg1 hb1 hB1
  go_wp2
  go_loopw [8, 9] (fun cl ci wr => ∃ (i : Nat) (P : Option Addr) (c : Nat), (i ≤ n ∧ Below B1 w1 wr ∧ wr.ownsRow B1 24 4 (.slice P i c) i (rpC (xs.take i))) ∧ cl = .slice P i c ∧ ci = .int .i64 (i : Int)) (fun _ ci _ => n - (intOf ci).toNat)
  case atStart => exact ⟨0, none, 0, ⟨Nat.zero_le _, Below.refl _ _, ⟨rfl, Or.inl ⟨rfl, rfl⟩⟩⟩, rfl, rfl⟩
  case round =>
    obtain ⟨i, P, c, ⟨hi, hbw, how⟩, rfl, rfl⟩ := hrel
    have HBW : Hid (Below B1 w1 wr) := hbw
    have HOW : Hid (wr.ownsRow B1 24 4 (.slice P i c) i (rpC (xs.take i))) := how
    have HWS : Hid (B1 ≤ wr.heap.size) := by have := hbw.size; rw [HBB.out] at this; exact this
    have HBX : Hid (Below w1.heap.size w1 wr) := HBB.out ▸ hbw
    clear hbw how
    by_cases hlt : i < n
    · have hix : i < xs.length := by rw [HN.out]; exact hlt
      obtain ⟨g, o, hP0, hcx⟩ := (HS1.out.on HBX.out).cell i hix
      have HSN : Hid _ := rpC_snoc xs i hix
      obtain ⟨X, hX⟩ : ∃ X, xs[i] = X := ⟨_, rfl⟩
      rw [hX] at hcx HSN
      subst hP0
      have hz0 : (0 : Int) ≤ (i : Int) := by omega
      have hz1 : (i : Int) < (n : Int) := by omega
      have HOW5 : Hid ((wr.alloc (.cells #[.int .i64 4, .string X, .int .i64 0, .slice none 0 0] 24)).ownsRow B1 24 4 (.slice P i c) i (rpC (xs.take i))) := own_on HOW.out ((Below.refl _ _).alloc (Nat.le_refl _) _)
      clear hX hix
      go_upto_region 7 with fail
      go_wp2_with (at_builtin; go_must (refine wpList_append_own_at _ rfl _ _ 22 rfl B1 24 i0 (.agg #[.int .i64 0, .string ⟨#[]⟩, .int .i64 0, .slice none 0 0]) 4 56 Tryz.underlying22 hi0 hy0 hy1 hy2 rfl (by decide) (.slice P i c) i (rpC (xs.take i)) rfl HOW5.out ⟨wr.heap.size, 0, none⟩ 1 1 [.int .i64 4, .string X, .int .i64 0, .slice none 0 0] rfl rfl ?a2 (one4 X) ?a4 ?a5 ?a6 ?_))
      case a2 => first | exact cell_four_new _ _ _ _ _ _ | (intro j u hj; exact cell_four_new _ _ _ _ _ _ j u hj)
      case a4 => unfold maxLen; omega
      case a5 => omega
      case a6 => exact Nat.le_trans HWS.out (by simp)
      intro v7 w7 ho7 hg7 _ _
      obtain ⟨P7, c7, hf7⟩ := own_form ho7
      subst hf7
      have HO7 : Hid (w7.ownsRow B1 24 4 (.slice P7 (i + 1) c7) (i + 1) (rpC (xs.take (i + 1)))) := by show World.ownsRow _ _ _ _ _ _ _; rw [HSN.out]; exact ho7
      have HB7 : Hid (Below B1 w1 w7) := (HBW.out.alloc HWS.out (.cells #[.int .i64 4, .string X, .int .i64 0, .slice none 0 0] 24)).grown hg7 (Nat.le_trans HWS.out (by simp)) (fun k hk => own_block HOW.out k hk)
      clear ho7 hg7 hcx
      go_wp2
      go_roundw
      case rel => exact ⟨i + 1, P7, c7, ⟨hlt, HB7.out, HO7.out⟩, rfl, rfl⟩
      case measure => simp [intOf]; omega
    · have hin : i = n := by omega
      subst hin
      have etk : xs.take i = xs := List.take_of_length_le (by rw [HN.out]; exact Nat.le_refl _)
      obtain ⟨W2, hW2⟩ : ∃ W, W = wr.alloc (.cells #[.int .i64 5, .string ⟨#[]⟩, .int .i64 0, .slice P i c] 24) := ⟨_, rfl⟩
      obtain ⟨qt, hqt⟩ : ∃ q, wr.heap.size = q := ⟨_, rfl⟩
      have hbv : BV wr (.slice P i c) xs := by have h9 := HOW.out; rw [etk] at h9; exact own_bv h9 HN.out
      have hI : MkI B w W2 (.slice P0 i c0) (.slice Pm i cm) (.slice P i c) qt xs := by
        have h1 : Below wr.heap.size wr W2 := by rw [hW2]; exact (Below.refl _ _).alloc (Nat.le_refl _) _
        have h2 : Below B w wr := HB1.out.trans (HBX.out.mono HBw.out)
        refine ⟨h2.trans (h1.mono (Nat.le_trans HBw.out HBX.out.size)), (HS1.out.on HBX.out).on h1, (HM1.out.on HBX.out).on h1, hbv.on h1, ?_, Nat.le_trans (Nat.le_trans HBw.out HBX.out.size) h1.size⟩
        rw [hW2, ← hqt]; exact one_alloc _ _
      have HI : Hid _ := hI
      clear hI hbv etk
      go_upto_region 9 with fail
      rw [← hW2]
      clear hW2 hqt
      go_wp2_with fail
      refine (Status_any s HSS.out _).mono ?_
      rintro e w3 ⟨rfl, hb3⟩
      have HI3 : Hid _ := HI.out.on hb3
      clear hb3
      go_wp2_with fail
      refine (sR_leaf 1 s 0 none none 0 0 _).mono ?_
      rintro e w4 ⟨rfl, hb4⟩
      have HI4 : Hid _ := HI3.out.on hb4
      clear hb4
      go_wp2_with fail
      refine (Error_any s HSS.out _).mono ?_
      rintro e w5 ⟨rfl, hb5⟩
      have HI5 : Hid _ := HI4.out.on hb5
      clear hb5
      go_wp2_with fail
      refine (sR_leaf 2 s 0 none none 0 0 _).mono ?_
      rintro e w6 ⟨rfl, hb6⟩
      have HI6 : Hid _ := HI5.out.on hb6
      clear hb6
      go_wp2_with fail
      refine (Int_any z _).mono ?_
      rintro e w7 ⟨rfl, hb7⟩
      have HI7 : Hid _ := HI6.out.on hb7
      clear hb7
      go_wp2_with fail
      refine (sR_leaf 3 ⟨#[]⟩ z none none 0 0 _).mono ?_
      rintro e w8 ⟨rfl, hb8⟩
      have HI8 : Hid (MkI B w w8 (.slice P0 i c0) (.slice Pm i cm) (.slice P i c) qt xs) := HI7.out.on hb8
      clear hb8 HI HI3 HI4 HI5 HI6 HI7
      go_upto_region 11 with fail
      go_cut [77] from 52 to 97 (fun s77 wx => s77 = .bool false ∧ MkI B w wx (.slice P0 i c0) (.slice Pm i cm) (.slice P i c) qt xs)
      case first =>
        have hI : MkI B w w8.drew (.slice P0 i c0) (.slice Pm i cm) (.slice P i c) qt xs := HI8.out.on (Below.refl _ _).drew
        obtain ⟨z0, z1, z2, z3, zf⟩ := prow4 hI.tx
        have HTX : Hid (∀ W, MkI B w W (.slice P0 i c0) (.slice Pm i cm) (.slice P i c) qt xs → Calls Tryz.prog 21 #[.slice Pm i cm] W fun e w' => (∃ P c, e = .returned (.agg #[.int .i64 5, .string ⟨#[]⟩, .int .i64 0, .slice P i c]) ∧ BV w' (.slice P i c) xs) ∧ Below W.heap.size W w') := fun W hW => by have h9 := Texts_any _ xs (by rw [HN.out]; omega) HSZ.out W hW.ms; rw [HN.out] at h9; exact h9
        have HAR : Hid (∀ W, MkI B w W (.slice P0 i c0) (.slice Pm i cm) (.slice P i c) qt xs → Calls Tryz.prog 22 #[.slice P i c] W fun e w' => (∃ P c, e = .returned (.agg #[.int .i64 5, .string ⟨#[]⟩, .int .i64 0, .slice P i c]) ∧ BV w' (.slice P i c) xs) ∧ Below W.heap.size W w') := fun W hW => by have h9 := Array_any _ xs (by rw [HN.out]; omega) HSZ.out W hW.bs; rw [HN.out] at h9; exact h9
        have HBK : Hid (∀ W, Calls Tryz.prog 19 #[.string s] W fun e w' => e = .returned (.agg #[.int .i64 4, .string s, .int .i64 0, .slice none 0 0]) ∧ Below W.heap.size W w') := fun W => Bulk_any s HSS.out W
        have HNU : Hid (∀ W, Calls Tryz.prog 20 #[] W fun e w' => e = .returned (.agg #[.int .i64 0, .string ⟨#[]⟩, .int .i64 0, .slice none 0 0]) ∧ Below W.heap.size W w') := fun W => Null_any W
        have HXL : Hid (xs.length ≤ 1073741824) := by show _ ≤ _; rw [HN.out]; omega
        go_region_with (first
          | (go_at_call 19; refine (show Calls _ _ _ _ _ from HBK.out _).mono ?_; rintro e w2 ⟨rfl, hbx⟩; have hI := hI.on hbx; obtain ⟨z0, z1, z2, z3, zf⟩ := prow4 hI.tx; clear hbx)
          | (go_at_call 20; refine (show Calls _ _ _ _ _ from HNU.out _).mono ?_; rintro e w2 ⟨rfl, hbx⟩; have hI := hI.on hbx; obtain ⟨z0, z1, z2, z3, zf⟩ := prow4 hI.tx; clear hbx)
          | (go_at_call 21; refine (show Calls _ _ _ _ _ from HTX.out _ hI).mono ?_; rintro e w2 ⟨⟨PT, cT, rfl, hT⟩, hbx⟩; have HT : Hid (BV w2 (.slice PT i cT) xs) := hT; have hI := hI.on hbx; obtain ⟨z0, z1, z2, z3, zf⟩ := prow4 hI.tx; clear hbx hT)
          | (go_at_call 22; refine (show Calls _ _ _ _ _ from HAR.out _ hI).mono ?_; rintro e w2 ⟨⟨PT, cT, rfl, hT⟩, hbx⟩; have HT : Hid (BV w2 (.slice PT i cT) xs) := hT; have hI := hI.on hbx; obtain ⟨z0, z1, z2, z3, zf⟩ := prow4 hI.tx; clear hbx hT)
          | (go_at_call 15; with_reducible refine (sR_leaf 4 s 0 none none 0 0 _).mono ?_; rintro e w2 ⟨rfl, hbx⟩; have hI := hI.on hbx; obtain ⟨z0, z1, z2, z3, zf⟩ := prow4 hI.tx; clear hbx)
          | (go_at_call 15; with_reducible refine (sR_leaf 0 ⟨#[]⟩ 0 none none 0 0 _).mono ?_; rintro e w2 ⟨rfl, hbx⟩; have hI := hI.on hbx; obtain ⟨z0, z1, z2, z3, zf⟩ := prow4 hI.tx; clear hbx)
          | (go_at_call 15; with_reducible refine (sR_list 5 ⟨#[]⟩ 0 _ _ xs HXL.out _ HT.out hI.bs).mono ?_; rintro e w2 ⟨rfl, hbx⟩; have hI := hI.on hbx; obtain ⟨z0, z1, z2, z3, zf⟩ := prow4 hI.tx; clear hbx))
        all_goals
          have HI9 : Hid _ := hI
          clear hI z0 z1 z2 z3 zf
          go_wp2
          go_meet
          exact ⟨rfl, HI9.out⟩
      case rest =>
        obtain ⟨rfl, hI⟩ := hcut
        have HI9 : Hid (MkI B w wc (.slice P0 i c0) (.slice Pm i cm) (.slice P i c) qt xs) := hI
        clear hI HI8
        obtain ⟨fk, ft, hp, hr⟩ := fault_any z HZ.out.1 HZ.out.2
        have HP : Hid _ := hp
        have HR : Hid _ := hr
        have HWK : Hid _ := works_any wc (HL.out.on (HB.out ▸ HI9.out.bel))
        clear hp hr
        go_wp2_with fail
        refine (show Calls _ _ _ _ _ from HWK.out).mono ?_
        rintro e w2 ⟨rfl, hb2⟩
        have HJ2 : Hid _ := HI9.out.on hb2
        clear hb2
        go_wp2_with fail
        refine (show Calls _ _ _ _ _ from HP.out _ (HL.out.on (HB.out ▸ HJ2.out.bel))).mono ?_
        rintro e w3 ⟨rfl, hb3⟩
        have HJ3 : Hid _ := HJ2.out.on hb3
        clear hb3
        go_wp2_with fail
        refine (show Calls _ _ _ _ _ from HR.out _).mono ?_
        rintro e w4 ⟨rfl, hb4⟩
        have HJ4 : Hid _ := HJ3.out.on hb4
        clear hb4
        go_wp2_with fail
        refine (sR_leaf fk ft 0 none none 0 0 _).mono ?_
        rintro e w5 ⟨rfl, hb5⟩
        have HJ5 : Hid _ := HJ4.out.on hb5
        have HC1 : Hid _ := Command_any _ xs (by rw [HN.out]; omega) HFL.out w5 HJ5.out.ms (HL.out.on (HB.out ▸ HJ5.out.bel))
        clear hb5
        obtain ⟨C, hC⟩ : ∃ C, strB (cmdL xs) = C := ⟨_, rfl⟩
        have HC : Hid (strB (cmdL xs) = C) := hC
        rw [hC] at HC1
        have hcs := str_self C
        clear hC
        go_wp2_with fail
        refine (show Calls _ _ _ _ _ from HC1.out).mono ?_
        rintro e w6 ⟨rfl, hb6⟩
        have HJ6 : Hid _ := HJ5.out.on hb6
        have HC2 : Hid _ := rCommand_any _ xs (by rw [HN.out]; omega) HFL.out w6 HJ6.out.ls
        rw [HC.out] at HC2
        clear hb6
        go_wp2_with fail
        refine (show Calls _ _ _ _ _ from HC2.out).mono ?_
        rintro e w7 ⟨rfl, hb7⟩
        have HJ7 : Hid _ := HJ6.out.on hb7
        have HSM : Hid _ := same_any _ _ xs xs (by rw [HN.out]; omega) (by rw [HN.out]; omega) w7 HJ7.out.ms HJ7.out.ls
        clear hb7
        go_wp2_with fail
        refine (show Calls _ _ _ _ _ from HSM.out).mono ?_
        rintro e w9 ⟨⟨b1, rfl, hb1⟩, k1, hw9⟩
        have hb1t : b1 = true := by simpa using hb1
        subst hb1t
        have HB9 : Hid (Below B w w9) := by rw [hw9]; exact below_dn HJ7.out.bel k1
        clear hb1 hw9
        go_wp2
        go_returns
        exact ⟨rfl, HB9.out⟩
end Go.Proofs.YtbmfbpcjokbjkaaGreatDoor
