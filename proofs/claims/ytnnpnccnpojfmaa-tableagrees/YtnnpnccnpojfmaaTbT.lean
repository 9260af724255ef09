import Derived.Test.YtnnpnccnpojfmaaTbJ
import Derived.Test.YtnnpnccnpojfmaaTbQ
import Derived.Test.YtnnpnccnpojfmaaShelf
namespace Go.Proofs.Ytnnpnccnpojfmaa
open Go.RowKit
set_option linter.unusedVariables false
set_option linter.unusedSimpArgs false
theorem info9 : (Try.prog.info? 9).map (fun i => (i.zero, i.size, i.bytes)) = some (some (.string ⟨#[]⟩), 1, 16) := by kernel_rfl
def sv (l : List ByteArray) : List Value := l.map Value.string
theorem sv_snoc (l : List ByteArray) (x : ByteArray) : sv (l ++ [x]) = sv l ++ [.string x] := by unfold sv; simp
theorem sv_app (l m : List ByteArray) : sv (l ++ m) = sv l ++ sv m := by unfold sv; simp
theorem sv_len (l : List ByteArray) : (sv l).length = l.length := by unfold sv; simp
theorem own_srow {W : World} {b n : Nat} {v : Value} {out : List ByteArray} (h : W.ownsRow b 9 1 v n (sv out)) (hn : out.length = n) : SRow W v out := by
  obtain ⟨hl, ⟨rfl, h0⟩ | ⟨g, cap, cur, rfl, hb, hr, hc, hm, hs, ht⟩⟩ := h
  · left
    exact ⟨List.eq_nil_of_length_eq_zero (by omega), none, 0, rfl⟩
  · right
    refine ⟨g, 0, cap, by rw [hn], fun j hj => ?_⟩
    rw [Nat.zero_add, cell_of_row _ _ _ _ _ _ hr]
    have h1 : (cur.toList.take (n * 1))[j]? = cur.toList[j]? := by rw [List.getElem?_take]; rw [if_pos (by omega)]
    rw [ht] at h1
    rw [← Array.getElem?_toList, ← h1]
    unfold sv
    rw [List.getElem?_map, List.getElem?_eq_getElem hj]
    simp
theorem clone_any (s : ByteArray) (hs : s.size ≤ 281474976710656) (w : World) : Calls Try.prog 39 #[.string s] w fun e w' => e = .returned (.string s) ∧ Below w.heap.size w w' := by
  have HC : Hid _ := Try.stringslite_Clone s w hs
  clear hs
  go_enter Try.func39, Try.ntmps39
  go_wp2_with fail
  refine (show Calls _ _ _ _ _ from HC.out).mono ?_
  rintro e w1 ⟨rfl, hb1⟩
  have HB : Hid (Below w.heap.size w w1) := hb1
  clear hb1
  go_wp2
  go_returns
  exact ⟨rfl, HB.out⟩
set_option maxHeartbeats 4000000 in
set_option maxRecDepth 20000 in
theorem placed_any (r : Rw) (hr : r ∈ TB.tab) (args : List ByteArray) (va : Value) (hl : args.length ≤ 8796093022208) (hz : ∀ x ∈ args, x.size ≤ 140737488355328) (w : World) (hA : SRow w va args) : Calls Try.prog 37 #[TB.spec (some r), va] w fun e w' => (∃ v, e = .returned v ∧ w'.ownsRow w.heap.size 9 1 v (TB.placed r args).length (sv (TB.placed r args))) ∧ Below w.heap.size w w' := by
  obtain ⟨i9, hi9, hy9, hy10, hy11⟩ := info_parts info9
  obtain ⟨k1, k2, k3, k4, k5⟩ := TB.kf_parts hr
  have hp := (TB.wf_parts (TB.wf_at hr)).2.2.2
  have HA : Hid (SRow w va args) := hA
  obtain ⟨P, c, rfl⟩ := hA.form
  have hfi9 : r.fi ≤ 9 := (hp r.fi (by simp)).2
  have hla9 := hp r.la (by simp)
  have hst9 := hp r.st (by simp)
  clear hp hA k4 k5 k2
  obtain ⟨x0, x1, x2, x3, x4, x5, x6, x7, x8, x9, hsp, e0, e1, e2, e6, e7, e8, e9⟩ := TB.spec_form (some r)
  replace e6 : x6 = r.fi := e6
  replace e7 : x7 = r.la := e7
  replace e8 : x8 = r.st := e8
  rw [hsp]
  clear hsp e0 e1 e2 e9
  rw [← e6] at k1 k3 hfi9
  rw [← e7] at hla9
  rw [← e8] at hst9 k3
  have HE6 : Hid (x6 = r.fi) := e6
  have HE7 : Hid (x7 = r.la) := e7
  have HE8 : Hid (x8 = r.st) := e8
  clear e6 e7 e8
  by_cases hfi : x6 = 0
  · have HP : Hid (TB.placed r args = []) := by show _ = _; unfold TB.placed; rw [if_pos (by rw [← HE6.out]; exact hfi)]
    subst hfi
    go_enter Try.func37, Try.ntmps37
    go_wp2
    go_returns
    exact ⟨⟨_, rfl, by rw [HP.out]; exact World.ownsRow_nil _ _ _ _⟩, by go_grown⟩
  · obtain ⟨fi, hfi2⟩ : ∃ fi : Nat, x6 = (fi : Int) := ⟨x6.toNat, by omega⟩
    obtain ⟨st, hst2⟩ : ∃ st : Nat, x8 = (st : Int) := ⟨x8.toNat, by omega⟩
    subst hfi2
    subst hst2
    have hst1 : 1 ≤ st := by omega
    have hf0 : (((fi : Nat) : Int) == 0) = false := by simp; omega
    obtain ⟨n, hn⟩ : ∃ n, args.length = n := ⟨_, rfl⟩
    have HNL : Hid (args.length = n) := hn
    rw [hn] at hl HA ⊢
    obtain ⟨L, hL⟩ : ∃ L : Int, (if x7 < 0 then x7 + (n : Int) else x7) = L := ⟨_, rfl⟩
    have HP : Hid (TB.placed r args = TB.plc args st L (args.length + 1) fi) := by
      show _ = _
      unfold TB.placed TB.lastOf
      rw [← HE6.out, ← HE7.out, ← HE8.out, hn, if_neg hfi, hL]; rfl
    clear hn
    obtain ⟨E, hE⟩ : ∃ E : Int, min L ((n : Int) - 1) = E := ⟨_, rfl⟩
    have HEK : Hid (∀ k : Nat, ((k : Int) ≤ E ↔ ((k : Int) ≤ L ∧ k < n))) := fun k => by rw [← hE]; omega
    by_cases hla : x7 < 0
    · rw [if_pos hla] at hL
      have hmin : min (x7 + (n : Int)) ((n : Int) - 1) = E := by rw [hL]; exact hE
      clear hE hL
      go_enter Try.func37, Try.ntmps37
      go_upto_region 7 with fail
      obtain ⟨W1, hW1⟩ : ∃ W, w.alloc (.cells #[.string x0, .int .i64 x1, .int .i64 x2, .bool x3, .bool x4, .bool x5, .int .i64 (fi : Int), .int .i64 x7, .int .i64 (st : Int), .int .i64 x9] 28) = W := ⟨_, rfl⟩
      have HS1 : Hid (W1.heap[w.heap.size]? = some (.cells #[.string x0, .int .i64 x1, .int .i64 x2, .bool x3, .bool x4, .bool x5, .int .i64 (fi : Int), .int .i64 x7, .int .i64 (st : Int), .int .i64 x9] 28)) := by rw [← hW1]; exact one_alloc w _
      have HB1 : Hid (Below w.heap.size w W1) := by rw [← hW1]; exact (Below.refl _ _).alloc (Nat.le_refl _) _
      rw [hW1]
      obtain ⟨SB, hSB⟩ : ∃ SB, w.heap.size = SB := ⟨_, rfl⟩
      have HSB : Hid (w.heap.size = SB) := hSB
      rw [hSB] at HS1 ⊢
      clear hW1 hSB
      obtain ⟨b0, b1, b2, b3, b4, b5, b6, b7, b8, b9, bf⟩ := row10 HS1.out
      go_wp2
      clear b0 b1 b2 b3 b4 b5 b6 b7 b8 b9 bf
      go_loopw [6, 7] (fun v ci wr => ∃ (k f : Nat) (acc : List ByteArray), ci = .int .i64 (k : Int) ∧ (k ≤ n + 20 ∧ n < k + f ∧ acc ++ TB.plc args st L f k = TB.placed r args ∧ Below W1.heap.size W1 wr) ∧ wr.ownsRow W1.heap.size 9 1 v acc.length (sv acc)) (fun _ ci _ => n + 30 - (intOf ci).toNat)
      case atStart => exact ⟨fi, args.length + 1, [], rfl, ⟨by omega, by rw [HNL.out]; omega, by rw [HP.out]; rfl, Below.refl _ _⟩, World.ownsRow_nil _ _ _ _⟩
      case round =>
        obtain ⟨k, f, acc, rfl, ⟨hk, hf, htot, hbel⟩, hown⟩ := hrel
        have HT : Hid _ := htot
        have HB : Hid (Below W1.heap.size W1 wr) := hbel
        have HSR : Hid _ := keep_row HS1.out hbel
        have HAR : Hid (SRow wr (.slice P n c) args) := (HA.out.on HB1.out).on hbel
        obtain ⟨pv, cv, ev⟩ := own_form hown
        subst ev
        have HOW : Hid (wr.ownsRow W1.heap.size 9 1 (.slice pv acc.length cv) acc.length (sv acc)) := hown
        obtain ⟨d0, d1, d2, d3, d4, d5, d6, d7, d8, d9, df⟩ := row10 HSR.out
        clear htot hbel hown
        have hke := HEK.out k
        by_cases hle : (k : Int) ≤ E
        · obtain ⟨hkL, hkn⟩ := hke.1 hle
          obtain ⟨f2, hf2⟩ : ∃ f2, f = f2 + 1 := ⟨f - 1, by omega⟩
          subst hf2
          obtain ⟨g, o, hP, hc⟩ := HAR.out.cell k (by rw [HNL.out]; exact hkn)
          obtain ⟨x, hx⟩ : ∃ x, args[k]'(by rw [HNL.out]; exact hkn) = x := ⟨_, rfl⟩
          have hxk : args[k]? = some x := by rw [List.getElem?_eq_getElem (by rw [HNL.out]; exact hkn), hx]
          rw [hx] at hc
          subst hP
          have HCL : Hid _ := clone_any x (by have := hz x (List.mem_of_getElem? hxk); omega)
          have HT2 : Hid ((acc ++ [x]) ++ TB.plc args st L f2 (k + st) = TB.placed r args) := by
            show _ = _
            rw [← HT.out, TB.plc_hit args st L f2 k x hxk hkL]; simp
          have HAL : Hid (acc.length + 1 ≤ n) := by
            have := congrArg List.length HT2.out
            have h2 := TB.placed_len hr args
            rw [HNL.out] at h2
            simp at this
            show _ ≤ _
            omega
          clear hx hke hkL hxk
          have hz0 : (0 : Int) ≤ (k : Int) := by omega
          have hz1 : (k : Int) < (n : Int) := by omega
          obtain ⟨k2, hk2⟩ : ∃ k2, k + st = k2 := ⟨_, rfl⟩
          have hkw : IntKind.i64.wrap ((k : Int) + (st : Int)) = (k2 : Int) := by rw [IntKind.wrap_i64] <;> omega
          have hkk : (k : Int) + (st : Int) = (k2 : Int) := by omega
          rw [hk2] at HT2
          obtain ⟨na, hna⟩ : ∃ na, acc.length = na := ⟨_, rfl⟩
          have HNA : Hid (acc.length = na) := hna
          rw [hna] at HOW HAL ⊢
          clear hna
          go_wp2_with fail
          refine (show Calls _ _ _ _ _ from HCL.out _).mono ?_
          rintro e wc ⟨rfl, hbc⟩
          have HBC : Hid (Below W1.heap.size W1 wc) := bel_to HB.out hbc (Nat.le_refl _)
          have HOC : Hid (wc.ownsRow W1.heap.size 9 1 (.slice pv na cv) na (sv acc)) := own_on HOW.out hbc
          have HO3 : Hid ((wc.alloc (.cells #[.string x] 9)).ownsRow W1.heap.size 9 1 (.slice pv na cv) na (sv acc)) := own_on HOC.out ((Below.refl _ _).alloc (Nat.le_refl _) _)
          have HNC : Hid (∀ a u, [Value.string x][a]? = some u → (wc.alloc (.cells #[.string x] 9)).cell? ((⟨wc.heap.size, 0, none⟩ : Addr).add a) = some u) := fun a u ha => by
            match a, ha with
            | 0, ha => simp at ha; subst ha; rw [Addr.add_lit]; exact (row1 (one_alloc wc (.cells #[.string x] 9))).1
          clear hbc d0 d1 d2 d3 d4 d5 d6 d7 d8 d9 df
          go_wp2_with (at_builtin; go_must (refine wpList_append_own _ rfl _ _ 22 rfl W1.heap.size 9 i9 (.string ⟨#[]⟩) 1 16 Try.underlying22 hi9 hy9 hy10 hy11 rfl (by decide) (.slice pv na cv) na (sv acc) rfl HO3.out ⟨wc.heap.size, 0, none⟩ 1 1 [.string x] rfl rfl HNC.out ?ta1 ?ta2 ?ta3 ?ta4 ?_))
          case ta1 => first | (intro u hu; simp at hu; subst hu; rfl) | rfl
          case ta2 => unfold maxLen; have := HAL.out; omega
          case ta3 => have := HAL.out; omega
          case ta4 => have := HBC.out.size; simp; omega
          intro v9 w9 ho9 hg9 hn9
          obtain ⟨P9, k9, hf9⟩ := own_form ho9
          subst hf9
          have HO9 : Hid (w9.ownsRow W1.heap.size 9 1 (.slice P9 (na + 1) k9) (acc ++ [x]).length (sv (acc ++ [x]))) := by show World.ownsRow _ _ _ _ _ _ _; rw [sv_snoc, List.length_append, HNA.out]; exact ho9
          have HB9 : Hid (Below W1.heap.size W1 w9) := (HBC.out.alloc HBC.out.size _).grown hg9 (by have := HBC.out.size; simp; omega) (fun b hb => own_block HO3.out b hb)
          clear ho9 hg9 hn9
          obtain ⟨d0, d1, d2, d3, d4, d5, d6, d7, d8, d9, df⟩ := row10 (keep_row HS1.out HB9.out)
          go_wp2
          go_roundw
          case rel => exact ⟨k2, f2, acc ++ [x], by first | rfl | go_num, ⟨by omega, by omega, HT2.out, HB9.out⟩, HO9.out⟩
          case measure => simp [intOf]; omega
        · have HE0 : Hid (acc = TB.placed r args) := by
            show _ = _
            rw [← HT.out]
            by_cases hkL : (k : Int) ≤ L
            · rw [TB.plc_out args st L f k (by rw [HNL.out]; have := mt hke.2 hle; omega)]; simp
            · rw [TB.plc_far args st L f k hkL]; simp
          clear hke
          go_wp2
          go_returns
          refine ⟨⟨_, rfl, ?_⟩, bel_to HB1.out HB.out (Nat.le_refl _)⟩
          rw [← HE0.out, ← HSB.out]
          exact own_lower HOW.out HB1.out.size
    · rw [if_neg hla] at hL
      have hmin : min x7 ((n : Int) - 1) = E := by rw [hL]; exact hE
      clear hE hL
      go_enter Try.func37, Try.ntmps37
      go_upto_region 7 with fail
      obtain ⟨W1, hW1⟩ : ∃ W, w.alloc (.cells #[.string x0, .int .i64 x1, .int .i64 x2, .bool x3, .bool x4, .bool x5, .int .i64 (fi : Int), .int .i64 x7, .int .i64 (st : Int), .int .i64 x9] 28) = W := ⟨_, rfl⟩
      have HS1 : Hid (W1.heap[w.heap.size]? = some (.cells #[.string x0, .int .i64 x1, .int .i64 x2, .bool x3, .bool x4, .bool x5, .int .i64 (fi : Int), .int .i64 x7, .int .i64 (st : Int), .int .i64 x9] 28)) := by rw [← hW1]; exact one_alloc w _
      have HB1 : Hid (Below w.heap.size w W1) := by rw [← hW1]; exact (Below.refl _ _).alloc (Nat.le_refl _) _
      rw [hW1]
      obtain ⟨SB, hSB⟩ : ∃ SB, w.heap.size = SB := ⟨_, rfl⟩
      have HSB : Hid (w.heap.size = SB) := hSB
      rw [hSB] at HS1 ⊢
      clear hW1 hSB
      obtain ⟨b0, b1, b2, b3, b4, b5, b6, b7, b8, b9, bf⟩ := row10 HS1.out
      go_wp2
      clear b0 b1 b2 b3 b4 b5 b6 b7 b8 b9 bf
      go_loopw [6, 7] (fun v ci wr => ∃ (k f : Nat) (acc : List ByteArray), ci = .int .i64 (k : Int) ∧ (k ≤ n + 20 ∧ n < k + f ∧ acc ++ TB.plc args st L f k = TB.placed r args ∧ Below W1.heap.size W1 wr) ∧ wr.ownsRow W1.heap.size 9 1 v acc.length (sv acc)) (fun _ ci _ => n + 30 - (intOf ci).toNat)
      case atStart => exact ⟨fi, args.length + 1, [], rfl, ⟨by omega, by rw [HNL.out]; omega, by rw [HP.out]; rfl, Below.refl _ _⟩, World.ownsRow_nil _ _ _ _⟩
      case round =>
        obtain ⟨k, f, acc, rfl, ⟨hk, hf, htot, hbel⟩, hown⟩ := hrel
        have HT : Hid _ := htot
        have HB : Hid (Below W1.heap.size W1 wr) := hbel
        have HSR : Hid _ := keep_row HS1.out hbel
        have HAR : Hid (SRow wr (.slice P n c) args) := (HA.out.on HB1.out).on hbel
        obtain ⟨pv, cv, ev⟩ := own_form hown
        subst ev
        have HOW : Hid (wr.ownsRow W1.heap.size 9 1 (.slice pv acc.length cv) acc.length (sv acc)) := hown
        obtain ⟨d0, d1, d2, d3, d4, d5, d6, d7, d8, d9, df⟩ := row10 HSR.out
        clear htot hbel hown
        have hke := HEK.out k
        by_cases hle : (k : Int) ≤ E
        · obtain ⟨hkL, hkn⟩ := hke.1 hle
          obtain ⟨f2, hf2⟩ : ∃ f2, f = f2 + 1 := ⟨f - 1, by omega⟩
          subst hf2
          obtain ⟨g, o, hP, hc⟩ := HAR.out.cell k (by rw [HNL.out]; exact hkn)
          obtain ⟨x, hx⟩ : ∃ x, args[k]'(by rw [HNL.out]; exact hkn) = x := ⟨_, rfl⟩
          have hxk : args[k]? = some x := by rw [List.getElem?_eq_getElem (by rw [HNL.out]; exact hkn), hx]
          rw [hx] at hc
          subst hP
          have HCL : Hid _ := clone_any x (by have := hz x (List.mem_of_getElem? hxk); omega)
          have HT2 : Hid ((acc ++ [x]) ++ TB.plc args st L f2 (k + st) = TB.placed r args) := by
            show _ = _
            rw [← HT.out, TB.plc_hit args st L f2 k x hxk hkL]; simp
          have HAL : Hid (acc.length + 1 ≤ n) := by
            have := congrArg List.length HT2.out
            have h2 := TB.placed_len hr args
            rw [HNL.out] at h2
            simp at this
            show _ ≤ _
            omega
          clear hx hke hkL hxk
          have hz0 : (0 : Int) ≤ (k : Int) := by omega
          have hz1 : (k : Int) < (n : Int) := by omega
          obtain ⟨k2, hk2⟩ : ∃ k2, k + st = k2 := ⟨_, rfl⟩
          have hkw : IntKind.i64.wrap ((k : Int) + (st : Int)) = (k2 : Int) := by rw [IntKind.wrap_i64] <;> omega
          have hkk : (k : Int) + (st : Int) = (k2 : Int) := by omega
          rw [hk2] at HT2
          obtain ⟨na, hna⟩ : ∃ na, acc.length = na := ⟨_, rfl⟩
          have HNA : Hid (acc.length = na) := hna
          rw [hna] at HOW HAL ⊢
          clear hna
          go_wp2_with fail
          refine (show Calls _ _ _ _ _ from HCL.out _).mono ?_
          rintro e wc ⟨rfl, hbc⟩
          have HBC : Hid (Below W1.heap.size W1 wc) := bel_to HB.out hbc (Nat.le_refl _)
          have HOC : Hid (wc.ownsRow W1.heap.size 9 1 (.slice pv na cv) na (sv acc)) := own_on HOW.out hbc
          have HO3 : Hid ((wc.alloc (.cells #[.string x] 9)).ownsRow W1.heap.size 9 1 (.slice pv na cv) na (sv acc)) := own_on HOC.out ((Below.refl _ _).alloc (Nat.le_refl _) _)
          have HNC : Hid (∀ a u, [Value.string x][a]? = some u → (wc.alloc (.cells #[.string x] 9)).cell? ((⟨wc.heap.size, 0, none⟩ : Addr).add a) = some u) := fun a u ha => by
            match a, ha with
            | 0, ha => simp at ha; subst ha; rw [Addr.add_lit]; exact (row1 (one_alloc wc (.cells #[.string x] 9))).1
          clear hbc d0 d1 d2 d3 d4 d5 d6 d7 d8 d9 df
          go_wp2_with (at_builtin; go_must (refine wpList_append_own _ rfl _ _ 22 rfl W1.heap.size 9 i9 (.string ⟨#[]⟩) 1 16 Try.underlying22 hi9 hy9 hy10 hy11 rfl (by decide) (.slice pv na cv) na (sv acc) rfl HO3.out ⟨wc.heap.size, 0, none⟩ 1 1 [.string x] rfl rfl HNC.out ?tb1 ?tb2 ?tb3 ?tb4 ?_))
          case tb1 => first | (intro u hu; simp at hu; subst hu; rfl) | rfl
          case tb2 => unfold maxLen; have := HAL.out; omega
          case tb3 => have := HAL.out; omega
          case tb4 => have := HBC.out.size; simp; omega
          intro v9 w9 ho9 hg9 hn9
          obtain ⟨P9, k9, hf9⟩ := own_form ho9
          subst hf9
          have HO9 : Hid (w9.ownsRow W1.heap.size 9 1 (.slice P9 (na + 1) k9) (acc ++ [x]).length (sv (acc ++ [x]))) := by show World.ownsRow _ _ _ _ _ _ _; rw [sv_snoc, List.length_append, HNA.out]; exact ho9
          have HB9 : Hid (Below W1.heap.size W1 w9) := (HBC.out.alloc HBC.out.size _).grown hg9 (by have := HBC.out.size; simp; omega) (fun b hb => own_block HO3.out b hb)
          clear ho9 hg9 hn9
          obtain ⟨d0, d1, d2, d3, d4, d5, d6, d7, d8, d9, df⟩ := row10 (keep_row HS1.out HB9.out)
          go_wp2
          go_roundw
          case rel => exact ⟨k2, f2, acc ++ [x], by first | rfl | go_num, ⟨by omega, by omega, HT2.out, HB9.out⟩, HO9.out⟩
          case measure => simp [intOf]; omega
        · have HE0 : Hid (acc = TB.placed r args) := by
            show _ = _
            rw [← HT.out]
            by_cases hkL : (k : Int) ≤ L
            · rw [TB.plc_out args st L f k (by rw [HNL.out]; have := mt hke.2 hle; omega)]; simp
            · rw [TB.plc_far args st L f k hkL]; simp
          clear hke
          go_wp2
          go_returns
          refine ⟨⟨_, rfl, ?_⟩, bel_to HB1.out HB.out (Nat.le_refl _)⟩
          rw [← HE0.out, ← HSB.out]
          exact own_lower HOW.out HB1.out.size
end Go.Proofs.Ytnnpnccnpojfmaa
