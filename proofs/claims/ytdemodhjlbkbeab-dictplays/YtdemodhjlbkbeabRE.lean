import Derived.Test.YtdemodhjlbkbeabRB
import Derived.Deep.RegionWith
import Derived.Deep.CutRange
import Derived.Test.YtdemodhjlbkbeabShelf
import Derived.Test.YtdemodhjlbkbeabRD
namespace Go.Proofs.Ytdemodhjlbkbeab
open Go.RowKit
set_option linter.unusedVariables false
theorem bucket_nil (g B i : Nat) (hi : i < 4) (w : World) (hc : w.cell? ⟨g, 1, none⟩ = some (.slice (some ⟨B, 0, none⟩) 4 4)) (hB : w.cell? ⟨B, i, none⟩ = some (.slice none 0 0)) : Calls Try.prog 48 #[.pointer (some ⟨g, 1, none⟩), .int .i64 (i : Int)] w fun e w' => e = .returned (.slice none 0 0) ∧ w' = w := by
  go_enter Try.func48, Try.ntmps48
  go_wp2
  go_returns
  exact ⟨rfl, rfl⟩
theorem bucket_one (g B i E c : Nat) (hi : i < 4) (hc1 : 1 ≤ c) (w : World) (hc : w.cell? ⟨g, 1, none⟩ = some (.slice (some ⟨B, 0, none⟩) 4 4)) (hB : w.cell? ⟨B, i, none⟩ = some (.slice (some ⟨E, 0, none⟩) 1 c)) : Calls Try.prog 48 #[.pointer (some ⟨g, 1, none⟩), .int .i64 (i : Int)] w fun e w' => e = .returned (.slice (some ⟨E, 0, none⟩) 1 1) ∧ w' = w := by
  have hc2 : (1 : Int) ≤ (c : Int) := by omega
  go_enter Try.func48, Try.ntmps48
  go_wp2
  go_returns
  exact ⟨rfl, rfl⟩
set_option maxHeartbeats 1000000 in
set_option maxRecDepth 100000 in
theorem meet_nil (g B i : Nat) (hi : i < 4) (P : Option Addr) (n c : Nat) (w : World) (hc : w.cell? ⟨g, 1, none⟩ = some (.slice (some ⟨B, 0, none⟩) 4 4)) (hB : w.cell? ⟨B, i, none⟩ = some (.slice none 0 0)) : Calls Try.prog 57 #[.pointer (some ⟨g, 1, none⟩), .slice P n c, .int .i64 (i : Int)] w fun e w' => e = .returned (.slice P n c) ∧ w' = w := by
  have HBK : Hid _ := bucket_nil g B i hi w hc hB
  clear hc hB
  go_enter Try.func57, Try.ntmps57
  go_wp2_with fail
  refine (show Calls _ _ _ _ _ from HBK.out).mono ?_
  rintro e w1 ⟨rfl, rfl⟩
  go_wp2
  go_loopw [1, 13] (fun ck ci wr => wr = w1 ∧ ck = .slice P n c ∧ ci = .int .i64 0) (fun _ _ _ => 0)
  case atStart => exact ⟨rfl, rfl, rfl⟩
  case round =>
    obtain ⟨rfl, rfl, rfl⟩ := hrel
    go_wp2
    go_returns
    exact ⟨rfl, rfl⟩
set_option maxRecDepth 100000 in
theorem rev_0 (w : World) : Calls Try.prog 71 #[.int .u64 0] w fun e w' => e = .returned (.int .u64 0) ∧ w' = w := by
  go_enter Try.func71, Try.ntmps71
  go_wp2
  go_returns
  exact ⟨by kernel_rfl, rfl⟩
set_option maxRecDepth 100000 in
theorem rev_a (w : World) : Calls Try.prog 71 #[.int .u64 4611686018427387904] w fun e w' => e = .returned (.int .u64 2) ∧ w' = w := by
  go_enter Try.func71, Try.ntmps71
  go_wp2
  go_returns
  exact ⟨by kernel_rfl, rfl⟩
set_option maxRecDepth 100000 in
theorem rev_2 (w : World) : Calls Try.prog 71 #[.int .u64 2] w fun e w' => e = .returned (.int .u64 4611686018427387904) ∧ w' = w := by
  go_enter Try.func71, Try.ntmps71
  go_wp2
  go_returns
  exact ⟨by kernel_rfl, rfl⟩
set_option maxRecDepth 100000 in
theorem rev_b (w : World) : Calls Try.prog 71 #[.int .u64 9223372036854775808] w fun e w' => e = .returned (.int .u64 1) ∧ w' = w := by
  go_enter Try.func71, Try.ntmps71
  go_wp2
  go_returns
  exact ⟨by kernel_rfl, rfl⟩
set_option maxRecDepth 100000 in
theorem rev_1 (w : World) : Calls Try.prog 71 #[.int .u64 1] w fun e w' => e = .returned (.int .u64 9223372036854775808) ∧ w' = w := by
  go_enter Try.func71, Try.ntmps71
  go_wp2
  go_returns
  exact ⟨by kernel_rfl, rfl⟩
set_option maxRecDepth 100000 in
theorem rev_c (w : World) : Calls Try.prog 71 #[.int .u64 13835058055282163712] w fun e w' => e = .returned (.int .u64 3) ∧ w' = w := by
  go_enter Try.func71, Try.ntmps71
  go_wp2
  go_returns
  exact ⟨by kernel_rfl, rfl⟩
set_option maxRecDepth 100000 in
theorem rev_3 (w : World) : Calls Try.prog 71 #[.int .u64 3] w fun e w' => e = .returned (.int .u64 13835058055282163712) ∧ w' = w := by
  go_enter Try.func71, Try.ntmps71
  go_wp2
  go_returns
  exact ⟨by kernel_rfl, rfl⟩
set_option maxRecDepth 100000 in
theorem lz_3 (w : World) : Calls Try.prog 70 #[.int .u64 3] w fun e w' => e = .returned (.int .i64 62) ∧ w' = w := by
  go_enter Try.func70, Try.ntmps70
  go_wp2
  trace_state
  go_returns
  exact ⟨by kernel_rfl, rfl⟩
set_option maxHeartbeats 1000000 in
set_option maxRecDepth 100000 in
theorem next_0 (w : World) : Calls Try.prog 58 #[.int .i64 0, .int .i64 4] w fun e w' => e = .returned (.int .i64 2) ∧ w' = w := by
  have HL : Hid _ := lz_3
  have HR1 : Hid _ := rev_0
  have HR2 : Hid _ := rev_a
  have hb1 : bits .and .u64 (1) 3 = 1 := by kernel_rfl
  go_enter Try.func58, Try.ntmps58
  go_wp2_with fail
  refine (show Calls _ _ _ _ _ from HL.out _).mono ?_
  rintro e w1 ⟨rfl, rfl⟩
  go_wp2_with fail
  refine (show Calls _ _ _ _ _ from HR1.out _).mono ?_
  rintro e w1 ⟨rfl, rfl⟩
  go_wp2_with fail
  refine (show Calls _ _ _ _ _ from HR2.out _).mono ?_
  rintro e w1 ⟨rfl, rfl⟩
  go_wp2
  go_returns
  exact ⟨rfl, rfl⟩
set_option maxHeartbeats 1000000 in
set_option maxRecDepth 100000 in
theorem next_2 (w : World) : Calls Try.prog 58 #[.int .i64 2, .int .i64 4] w fun e w' => e = .returned (.int .i64 1) ∧ w' = w := by
  have HL : Hid _ := lz_3
  have HR1 : Hid _ := rev_2
  have HR2 : Hid _ := rev_b
  have hb1 : bits .and .u64 (2) 3 = 2 := by kernel_rfl
  go_enter Try.func58, Try.ntmps58
  go_wp2_with fail
  refine (show Calls _ _ _ _ _ from HL.out _).mono ?_
  rintro e w1 ⟨rfl, rfl⟩
  go_wp2_with fail
  refine (show Calls _ _ _ _ _ from HR1.out _).mono ?_
  rintro e w1 ⟨rfl, rfl⟩
  go_wp2_with fail
  refine (show Calls _ _ _ _ _ from HR2.out _).mono ?_
  rintro e w1 ⟨rfl, rfl⟩
  go_wp2
  go_returns
  exact ⟨rfl, rfl⟩
set_option maxHeartbeats 1000000 in
set_option maxRecDepth 100000 in
theorem next_1 (w : World) : Calls Try.prog 58 #[.int .i64 1, .int .i64 4] w fun e w' => e = .returned (.int .i64 3) ∧ w' = w := by
  have HL : Hid _ := lz_3
  have HR1 : Hid _ := rev_1
  have HR2 : Hid _ := rev_c
  have hb1 : bits .and .u64 (3) 3 = 3 := by kernel_rfl
  go_enter Try.func58, Try.ntmps58
  go_wp2_with fail
  refine (show Calls _ _ _ _ _ from HL.out _).mono ?_
  rintro e w1 ⟨rfl, rfl⟩
  go_wp2_with fail
  refine (show Calls _ _ _ _ _ from HR1.out _).mono ?_
  rintro e w1 ⟨rfl, rfl⟩
  go_wp2_with fail
  refine (show Calls _ _ _ _ _ from HR2.out _).mono ?_
  rintro e w1 ⟨rfl, rfl⟩
  go_wp2
  go_returns
  exact ⟨rfl, rfl⟩
set_option maxHeartbeats 1000000 in
set_option maxRecDepth 100000 in
theorem next_3 (w : World) : Calls Try.prog 58 #[.int .i64 3, .int .i64 4] w fun e w' => e = .returned (.int .i64 0) ∧ w' = w := by
  have HL : Hid _ := lz_3
  have HR1 : Hid _ := rev_3
  have HR2 : Hid _ := rev_0
  have hb1 : bits .and .u64 (4) 3 = 0 := by kernel_rfl
  go_enter Try.func58, Try.ntmps58
  go_wp2_with fail
  refine (show Calls _ _ _ _ _ from HL.out _).mono ?_
  rintro e w1 ⟨rfl, rfl⟩
  go_wp2_with fail
  refine (show Calls _ _ _ _ _ from HR1.out _).mono ?_
  rintro e w1 ⟨rfl, rfl⟩
  go_wp2_with fail
  refine (show Calls _ _ _ _ _ from HR2.out _).mono ?_
  rintro e w1 ⟨rfl, rfl⟩
  go_wp2
  go_returns
  exact ⟨rfl, rfl⟩
end Go.Proofs.Ytdemodhjlbkbeab
namespace Go.Proofs.Ytdemodhjlbkbeab
open Go.RowKit
set_option linter.unusedVariables false
theorem clone_any (s : ByteArray) (hs : s.size ≤ 281474976710656) (w : World) : Calls Try.prog 31 #[.string s] w fun e w' => e = .returned (.string s) ∧ Below w.heap.size w w' := by
  have HC : Hid _ := Try.stringslite_Clone s w hs
  go_enter Try.func31, Try.ntmps31
  go_wp2_with fail
  refine (show Calls _ _ _ _ _ from HC.out).mono ?_
  rintro e w1 ⟨rfl, hb⟩
  have HB : Hid (Below w.heap.size w w1) := hb
  clear hb
  go_wp2
  go_returns
  exact ⟨rfl, HB.out⟩
theorem info9 : (Try.prog.info? 9).map (fun i => (i.zero, i.size, i.bytes)) = some (some (.string ⟨#[]⟩), 1, 16) := by kernel_rfl
theorem row1 {w : World} {g T : Nat} {v0 : Value} (h : w.heap[g]? = some (.cells #[v0] T)) : w.cell? ⟨g, 0, none⟩ = some v0 ∧ ∀ j, w.frozen? ⟨g, j, none⟩ = false := by
  refine ⟨?_, fun j => frozen_of_row _ _ _ _ _ h⟩ <;> rw [cell_of_row _ _ _ _ _ _ h] <;> rfl
/-- the list of one key. -/
def KeyAt (W : World) (b0 : Nat) (v : Value) : Prop := ∃ K c, v = .slice (some ⟨K, 0, none⟩) 1 c ∧ b0 ≤ K ∧ W.cell? ⟨K, 0, none⟩ = some (.string ⟨#[97]⟩)
theorem KeyAt.on {W W' : World} {b0 : Nat} {v : Value} (h : KeyAt W b0 v) (hb : Below W.heap.size W W') : KeyAt W' b0 v := by
  obtain ⟨K, c, h1, h2, h3⟩ := h; exact ⟨K, c, h1, h2, cell_on h3 hb⟩
set_option maxHeartbeats 1000000 in
set_option maxRecDepth 100000 in
theorem meet_one (g B E c : Nat) (v : Int) (w : World) (hc : w.cell? ⟨g, 1, none⟩ = some (.slice (some ⟨B, 0, none⟩) 4 4)) (hB : w.cell? ⟨B, 1, none⟩ = some (.slice (some ⟨E, 0, none⟩) 1 c)) (hO : One w E c v) : Calls Try.prog 57 #[.pointer (some ⟨g, 1, none⟩), .slice none 0 0, .int .i64 1] w fun e w' => (∃ r, e = .returned r ∧ KeyAt w' w.heap.size r) ∧ Below w.heap.size w w' := by
  obtain ⟨i0, hi, hz0, hz1, hz2⟩ := info_parts info9
  have HBK : Hid _ := bucket_one g B 1 E c (by omega) (by obtain ⟨_, _, _, h, _⟩ := hO; exact h) w hc hB
  have HCL : Hid _ := clone_any ⟨#[97]⟩ (by decide)
  have HO : Hid (One w E c v) := hO
  clear hc hB hO
  go_enter Try.func57, Try.ntmps57
  go_wp2_with fail
  refine (show Calls _ _ _ _ _ from HBK.out).mono ?_
  rintro e w1 ⟨rfl, rfl⟩
  go_wp2
  go_loopw [1, 13] (fun ck ci wr => Below w1.heap.size w1 wr ∧ ((ck = .slice none 0 0 ∧ ci = .int .i64 0) ∨ (KeyAt wr w1.heap.size ck ∧ ci = .int .i64 1))) (fun _ ci _ => 1 - (intOf ci).toNat)
  case atStart => exact ⟨Below.refl _ _, Or.inl ⟨rfl, rfl⟩⟩
  case round =>
    obtain ⟨hb, ⟨rfl, rfl⟩ | ⟨⟨K, kc, hk1, hk2, hk3⟩, rfl⟩⟩ := hrel
    · have HB : Hid (Below w1.heap.size w1 wr) := hb
      obtain ⟨e0, e1, ef⟩ := (HO.out.on hb).cells
      have HX : Hid _ := one_alloc wr (.cells #[.string ⟨#[97]⟩, .int .i64 v] 70)
      obtain ⟨W0, hW0⟩ : ∃ W0, W0 = wr.alloc (.cells #[.string ⟨#[97]⟩, .int .i64 v] 70) := ⟨_, rfl⟩
      have HB0 : Hid (Below w1.heap.size w1 W0) := by rw [hW0]; exact hb.alloc hb.size _
      rw [← hW0] at HX
      clear hb
      go_upto_region 4 with fail
      rw [← hW0]
      clear hW0 e0 e1 ef
      obtain ⟨x0, x1, xf⟩ := row2 HX.out
      go_wp2_with fail
      refine (show Calls _ _ _ _ _ from HCL.out _).mono ?_
      rintro e w2 ⟨rfl, hb2⟩
      have HB2 : Hid (Below w1.heap.size w1 w2) := bel_to HB0.out hb2 (Nat.le_refl _)
      clear hb2 x0 x1 xf
      have HON : Hid ((w2.alloc (.cells #[.string ⟨#[97]⟩] 9)).ownsRow w1.heap.size 9 1 (.slice none 0 0) 0 []) := ⟨rfl, Or.inl ⟨rfl, rfl⟩⟩
      have HB3 : Hid (Below w1.heap.size w1 (w2.alloc (.cells #[.string ⟨#[97]⟩] 9))) := HB2.out.alloc HB2.out.size _
      have HC3 : Hid ((w2.alloc (.cells #[.string ⟨#[97]⟩] 9)).cell? ⟨w2.heap.size, 0, none⟩ = some (.string ⟨#[97]⟩)) := (row1 (one_alloc w2 _)).1
      go_wp2_with (at_builtin; go_must (refine wpList_append_own _ rfl _ _ 41 rfl w1.heap.size 9 i0 (.string ⟨#[]⟩) 1 16 Try.underlying41 hi hz0 hz1 hz2 rfl (by decide) _ _ _ rfl HON.out ⟨w2.heap.size, 0, none⟩ 1 1 [.string ⟨#[97]⟩] rfl rfl ?t0 ?t1 ?t2 ?t3 HB3.out.size ?_))
      case t0 =>
        intro j u hj
        match j, hj with
        | 0, hj => simp at hj; subst hj; exact HC3.out
      case t1 => intro u hu; simp at hu; subst hu; rfl
      case t2 => unfold maxLen; omega
      case t3 => omega
      intro v' w4 hown hgr hiff
      have HB4 : Hid (Below w1.heap.size w1 w4) := HB3.out.grown hgr HB3.out.size (fun k hk => by cases hk)
      have HK4 : Hid (KeyAt w4 w1.heap.size v') := by
        obtain ⟨_, ⟨_, h2⟩ | ⟨K, cap, cur, h1, hb, hg, q1, q2, q3, q4⟩⟩ := hown
        · omega
        · refine ⟨K, cap, h1, hb, ?_⟩
          rw [cell_of_row _ _ _ _ _ _ hg]
          have := congrArg (fun l => l[0]?) q4
          simpa [List.getElem?_take] using this
      clear hown hgr hiff
      go_wp2
      go_roundw
      case rel => exact ⟨HB4.out, Or.inr ⟨HK4.out, rfl⟩⟩
      case measure => simp [intOf]
    · have HB : Hid (Below w1.heap.size w1 wr) := hb
      have HK2 : Hid _ := hk2
      have HK3 : Hid _ := hk3
      subst hk1
      clear hb hk2 hk3
      go_wp2
      go_returns
      exact ⟨⟨_, rfl, K, kc, rfl, HK2.out, HK3.out⟩, HB.out⟩
/-- the dict of one key. -/
structure DW (W : World) (g B E c : Nat) (v : Int) : Prop where
  d : W.heap[g]? = some (.cells (dcells (some ⟨B, 0, none⟩) 4 4 1) 56)
  b : W.heap[B]? = some (.cells (bcells (.slice (some ⟨E, 0, none⟩) 1 c)) 83)
  o : One W E c v
theorem DW.on {W W' : World} {g B E c : Nat} {v : Int} (h : DW W g B E c v) (hb : Below W.heap.size W W') : DW W' g B E c v := ⟨keep_row h.d hb, keep_row h.b hb, h.o.on hb⟩
theorem DW.size {W : World} {g B E c : Nat} {v : Int} (h : DW W g B E c v) : Calls Try.prog 39 #[.pointer (some ⟨g, 1, none⟩)] W fun e w' => e = .returned (.int .i64 4) ∧ w' = W := size_any g 1 _ 4 4 W (row6 h.d).2.1
theorem DW.moves {W : World} {g B E c : Nat} {v : Int} (h : DW W g B E c v) : Calls Try.prog 32 #[.pointer (some ⟨g, 0, none⟩)] W fun e w' => e = .returned (.bool false) ∧ w' = W := moves_no g none 0 W (row6 h.d).2.2.2.1
theorem DW.drew {W : World} {g B E c : Nat} {v : Int} (h : DW W g B E c v) : DW W.drew g B E c v := h.on (Below.refl _ _).drew
end Go.Proofs.Ytdemodhjlbkbeab
namespace Go.Proofs.Ytdemodhjlbkbeab
open Go.RowKit
set_option linter.unusedVariables false
def keyV (es : List Ent) : List Value := es.map fun e => .string e.1
theorem keyV_snoc (es : List Ent) (j : Nat) (h : j < es.length) : keyV (es.take (j + 1)) = keyV (es.take j) ++ [.string es[j].1] := by
  unfold keyV; rw [List.take_succ_eq_append_getElem h, List.map_append]; rfl
set_option maxHeartbeats 2000000 in
set_option maxRecDepth 100000 in
theorem meet_any (g o B n i : Nat) (hi : i < n) (E c : Nat) (es : List Ent) (hlc : es.length ≤ c) (hl : es.length ≤ 4398046511103) (hks : ∀ x ∈ es, x.1.size ≤ 281474976710656) (bk m : Nat) (hm : m ≤ 4398046511103) (kv : Value) (xs : List Value) (w : World) (hbk : bk ≤ w.heap.size) (hEb : E < bk) (hkv : w.ownsRow bk 9 1 kv m xs) (hc : w.cell? ⟨g, o, none⟩ = some (.slice (some ⟨B, 0, none⟩) n n)) (hB : w.cell? ⟨B, i, none⟩ = some (.slice (some ⟨E, 0, none⟩) es.length c)) (hE : Ents w E es) :
    Calls Try.prog 57 #[.pointer (some ⟨g, o, none⟩), kv, .int .i64 (i : Int)] w fun e w' => (∃ r, e = .returned r ∧ w'.ownsRow bk 9 1 r (m + es.length) (xs ++ keyV es)) ∧ Below bk w w' := by
  obtain ⟨i0, hi0, hz0, hz1, hz2⟩ := info_parts info9
  have HBK : Hid _ := bucket_any g o B n i hi (some ⟨E, 0, none⟩) es.length c hlc w hc hB
  have HCL : Hid (∀ (s : ByteArray), s.size ≤ 281474976710656 → ∀ W, Calls Try.prog 31 #[.string s] W fun e w' => e = .returned (.string s) ∧ Below W.heap.size W w') := fun s hs W => clone_any s hs W
  have HE : Hid (Ents w E es) := hE
  have HKV : Hid _ := hkv
  have HKS : Hid _ := hks
  obtain ⟨KP, KC, hkf⟩ := own_form hkv
  subst hkf
  clear hc hB hE hkv hks
  go_enter Try.func57, Try.ntmps57
  go_wp2_with fail
  refine (show Calls _ _ _ _ _ from HBK.out).mono ?_
  rintro e w1 ⟨rfl, rfl⟩
  go_wp2
  go_loopw [1, 13] (fun ck ci wr => Below bk w1 wr ∧ ∃ j : Nat, j ≤ es.length ∧ ci = .int .i64 (j : Int) ∧ wr.ownsRow bk 9 1 ck (m + j) (xs ++ keyV (es.take j))) (fun _ ci _ => es.length - (intOf ci).toNat)
  case atStart => exact ⟨Below.refl _ _, 0, by omega, rfl, by rw [Nat.add_zero, List.take_zero, show keyV [] = [] from rfl, List.append_nil]; exact HKV.out⟩
  case round =>
    obtain ⟨hb, j, hj, rfl, ho⟩ := hrel
    have HB : Hid (Below bk w1 wr) := hb
    have HO : Hid (wr.ownsRow bk 9 1 _ (m + j) (xs ++ keyV (es.take j))) := ho
    by_cases hlt : j < es.length
    · obtain ⟨e0', e1'⟩ := HE.out j hlt
      have e0 : wr.cell? ⟨E, j * 2, none⟩ = some (.string es[j].1) := (hb.cell (p := ⟨E, j * 2, none⟩) hEb).trans e0'
      have e1 : wr.cell? ⟨E, j * 2 + 1, none⟩ = some (.int .i64 es[j].2) := (hb.cell (p := ⟨E, j * 2 + 1, none⟩) hEb).trans e1'
      have HSN : Hid _ := keyV_snoc es j hlt
      have HSZ : Hid _ := HKS.out es[j] (List.getElem_mem hlt)
      have hz3 : (0 : Int) ≤ (j : Int) := by omega
      have hz4 : (j : Int) < (es.length : Int) := by omega
      generalize es[j].1 = X at *
      generalize es[j].2 = V at *
      have HCX : Hid _ := HCL.out X HSZ.out
      have HX : Hid _ := one_alloc wr (.cells #[.string X, .int .i64 V] 70)
      obtain ⟨W0, hW0⟩ : ∃ W0, W0 = wr.alloc (.cells #[.string X, .int .i64 V] 70) := ⟨_, rfl⟩
      have hbw : Below wr.heap.size wr W0 := by rw [hW0]; exact (Below.refl _ _).alloc (Nat.le_refl _) _
      have HB0 : Hid (Below bk w1 W0) := hb.trans (hbw.mono (Nat.le_trans hbk hb.size))
      have HO0 : Hid (W0.ownsRow bk 9 1 _ (m + j) (xs ++ keyV (es.take j))) := own_keep HO.out (fun k _ hk => hbw.block k hk)
      rw [← hW0] at HX
      clear hb ho e0' e1' hbw
      go_upto_region 4 with fail
      rw [← hW0]
      clear hW0 e0 e1
      obtain ⟨x0, x1, xf⟩ := row2 HX.out
      go_wp2_with fail
      refine (show Calls _ _ _ _ _ from HCX.out _).mono ?_
      rintro e w2 ⟨rfl, hb2⟩
      have HB2 : Hid (Below bk w1 w2) := HB0.out.trans (hb2.mono (Nat.le_trans hbk HB0.out.size))
      have HO2 : Hid (w2.ownsRow bk 9 1 _ (m + j) (xs ++ keyV (es.take j))) := own_keep HO0.out (fun k _ hk => hb2.block k hk)
      clear hb2 x0 x1 xf
      have hba : Below w2.heap.size w2 (w2.alloc (.cells #[.string X] 9)) := (Below.refl _ _).alloc (Nat.le_refl _) _
      have HO3 : Hid ((w2.alloc (.cells #[.string X] 9)).ownsRow bk 9 1 _ (m + j) (xs ++ keyV (es.take j))) := own_keep HO2.out (fun k _ hk => hba.block k hk)
      have HB3 : Hid (Below bk w1 (w2.alloc (.cells #[.string X] 9))) := HB2.out.trans (hba.mono (Nat.le_trans hbk HB2.out.size))
      have HC3 : Hid ((w2.alloc (.cells #[.string X] 9)).cell? ⟨w2.heap.size, 0, none⟩ = some (.string X)) := (row1 (one_alloc w2 _)).1
      have HS3 : Hid (bk ≤ (w2.alloc (.cells #[.string X] 9)).heap.size) := Nat.le_trans hbk HB3.out.size
      clear hba
      go_wp2_with (at_builtin; go_must (refine wpList_append_own _ rfl _ _ 41 rfl bk 9 i0 (.string ⟨#[]⟩) 1 16 Try.underlying41 hi0 hz0 hz1 hz2 rfl (by decide) _ _ _ rfl HO3.out ⟨w2.heap.size, 0, none⟩ 1 1 [.string X] rfl rfl ?t0 ?t1 ?t2 ?t3 HS3.out ?_))
      case t0 =>
        intro q u hq
        match q, hq with
        | 0, hq => simp at hq; subst hq; exact HC3.out
      case t1 => intro u hu; simp at hu; subst hu; rfl
      case t2 => unfold maxLen; omega
      case t3 => omega
      intro v' w4 hown hgr hiff
      have HB4 : Hid (Below bk w1 w4) := HB3.out.grown hgr HS3.out (fun k hk => (World.ownsRow.lt HO3.out k hk).1)
      have HO4 : Hid (w4.ownsRow bk 9 1 v' (m + (j + 1)) (xs ++ keyV (es.take (j + 1)))) := by
        show World.ownsRow _ _ _ _ _ _ _
        rw [HSN.out, ← Nat.add_assoc]; exact hown
      clear hown hgr hiff
      go_wp2
      go_roundw
      case rel => exact ⟨HB4.out, j + 1, hlt, by simp, HO4.out⟩
      case measure => simp [intOf]; omega
    · have hje : j = es.length := by omega
      subst hje
      clear hb ho
      go_wp2
      go_returns
      refine ⟨⟨_, rfl, ?_⟩, HB.out⟩
      have := HO.out
      rw [List.take_length] at this
      exact this
end Go.Proofs.Ytdemodhjlbkbeab
namespace Go.Proofs.Ytdemodhjlbkbeab
open Go.RowKit
set_option linter.unusedVariables false
/-- a table of n buckets in memory: the slice, the buckets' values, what they hold. -/
structure TabIs (W : World) (b0 : Nat) (B : Nat) (bvs : Array Value) (T : List (List Ent)) : Prop where
  row : W.heap[B]? = some (.cells bvs 83)
  base : b0 ≤ B
  size : bvs.size = T.length
  each : ∀ i (h : i < T.length), ∃ bv, bvs[i]? = some bv ∧ BV W b0 bv T[i]
/-- the blocks that its buckets lie in. -/
def bblocks (bvs : Array Value) : List Nat := bvs.toList.filterMap Value.ownBlock
theorem bblocks_mem {bvs : Array Value} {i E : Nat} {bv : Value} (h : bvs[i]? = some bv) (he : bv.ownBlock = some E) : E ∈ bblocks bvs := by
  unfold bblocks
  refine List.mem_filterMap.2 ⟨bv, ?_, he⟩
  rw [Array.mem_toList_iff]
  exact Array.mem_of_getElem? h
/-- a table stays where none of its blocks changes. -/
theorem TabIs.keep {W W' : World} {b0 B : Nat} {bvs : Array Value} {T : List (List Ent)} (h : TabIs W b0 B bvs T) (hB : W'.heap[B]? = W.heap[B]?) (hE : ∀ E ∈ bblocks bvs, W'.heap[E]? = W.heap[E]?) : TabIs W' b0 B bvs T := by
  refine ⟨hB.trans h.row, h.base, h.size, fun i hi => ?_⟩
  obtain ⟨bv, h1, h2⟩ := h.each i hi
  exact ⟨bv, h1, h2.same (fun E he => hE E (bblocks_mem h1 he))⟩
/-- a bucket of it is another one now. -/
theorem TabIs.set {W W' : World} {b0 B i : Nat} {bvs : Array Value} {T : List (List Ent)} {bv' : Value} {es' : List Ent} (h : TabIs W b0 B bvs T) (hi : i < T.length) (hB : W'.heap[B]? = some (.cells (bvs.setIfInBounds i bv') 83)) (hv : BV W' b0 bv' es')
    (hE : ∀ j (hj : j < T.length), j ≠ i → ∀ bv, bvs[j]? = some bv → ∀ E, bv.ownBlock = some E → W'.heap[E]? = W.heap[E]?) : TabIs W' b0 B (bvs.setIfInBounds i bv') (T.set i es') := by
  refine ⟨hB, h.base, by simp [h.size], fun j hj => ?_⟩
  rw [List.length_set] at hj
  by_cases hji : j = i
  · subst hji
    refine ⟨bv', ?_, ?_⟩
    · rw [Array.getElem?_setIfInBounds, if_pos rfl, if_pos (by rw [h.size]; exact hi)]
    · rw [List.getElem_set_self]; exact hv
  · obtain ⟨bv, h1, h2⟩ := h.each j hj
    refine ⟨bv, ?_, ?_⟩
    · rw [Array.getElem?_setIfInBounds, if_neg (Ne.symm hji)]; exact h1
    · rw [List.getElem_set_ne (Ne.symm hji)]; exact h2.same (hE j hj hji bv h1)
/-- a new table has nothing. -/
theorem TabIs.new {W : World} {b0 B n : Nat} (hB : W.heap[B]? = some (.cells (madeCells #[.slice none 0 0] n) 83)) (hb : b0 ≤ B) (hs : (madeCells #[.slice none 0 0] n).size = n) (hg : ∀ i, i < n → (madeCells #[.slice none 0 0] n)[i]? = some (.slice none 0 0)) : TabIs W b0 B (madeCells #[.slice none 0 0] n) (List.replicate n []) := by
  refine ⟨hB, hb, by simpa using hs, fun i hi => ?_⟩
  rw [List.length_replicate] at hi
  exact ⟨_, hg i hi, Or.inl ⟨rfl, by simp⟩⟩
end Go.Proofs.Ytdemodhjlbkbeab
