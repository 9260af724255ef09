import Derived.Test.YtdemodhjlbkbeaaScn
import Derived.Test.YtdemodhjlbkbeaaShelf
namespace Go.Proofs.Ytdemodhjlbkbeaa
open Go.RowKit
set_option linter.unusedVariables false
theorem clone_any (s : ByteArray) (hs : s.size ≤ 281474976710656) (w : World) : Calls Try.prog 27 #[.string s] w fun e w' => e = .returned (.string s) ∧ Below w.heap.size w w' := by
  have HC : Hid _ := Try.stringslite_Clone s w hs
  go_enter Try.func27, Try.ntmps27
  go_wp2_with fail
  refine (show Calls _ _ _ _ _ from HC.out).mono ?_
  rintro e w1 ⟨rfl, hb⟩
  have HB : Hid (Below w.heap.size w w1) := hb
  clear hb
  go_wp2
  go_returns
  exact ⟨rfl, HB.out⟩
theorem info9 : (Try.prog.info? 9).map (fun i => (i.zero, i.size, i.bytes)) = some (some (.string ⟨#[]⟩), 1, 16) := by kernel_rfl
theorem row1 {w : World} {g T : Nat} {v0 : Value} (h : w.heap[g]? = some (.cells #[v0] T)) : w.cell? ⟨g, 0, none⟩ = some v0 ∧ ∀ j, w.frozen? ⟨g, j, none⟩ = false := by
  refine ⟨?_, fun j => frozen_of_row _ _ _ _ _ h⟩ <;> rw [cell_of_row _ _ _ _ _ _ h] <;> rfl
/-- the list of one key. -/
def KeyAt (W : World) (b0 : Nat) (v : Value) : Prop := ∃ K c, v = .slice (some ⟨K, 0, none⟩) 1 c ∧ b0 ≤ K ∧ W.cell? ⟨K, 0, none⟩ = some (.string ⟨#[97]⟩)
theorem KeyAt.on {W W' : World} {b0 : Nat} {v : Value} (h : KeyAt W b0 v) (hb : Below W.heap.size W W') : KeyAt W' b0 v := by
  obtain ⟨K, c, h1, h2, h3⟩ := h; exact ⟨K, c, h1, h2, cell_on h3 hb⟩
set_option maxHeartbeats 1000000 in
set_option maxRecDepth 100000 in
theorem meet_one (g B E c : Nat) (v : Int) (w : World) (hc : w.cell? ⟨g, 1, none⟩ = some (.slice (some ⟨B, 0, none⟩) 4 4)) (hB : w.cell? ⟨B, 1, none⟩ = some (.slice (some ⟨E, 0, none⟩) 1 c)) (hO : One w E c v) : Calls Try.prog 34 #[.pointer (some ⟨g, 1, none⟩), .slice none 0 0, .int .i64 1] w fun e w' => (∃ r, e = .returned r ∧ KeyAt w' w.heap.size r) ∧ Below w.heap.size w w' := by
  obtain ⟨i0, hi, hz0, hz1, hz2⟩ := info_parts info9
  have HBK : Hid _ := bucket_one g B 1 E c (by omega) (by obtain ⟨_, _, _, h, _⟩ := hO; exact h) w hc hB
  have HCL : Hid _ := clone_any ⟨#[97]⟩ (by decide)
  have HO : Hid (One w E c v) := hO
  clear hc hB hO
  go_enter Try.func34, Try.ntmps34
  go_wp2_with fail
  refine (show Calls _ _ _ _ _ from HBK.out).mono ?_
  rintro e w1 ⟨rfl, rfl⟩
  go_wp2
  go_loopw [1, 13] (fun ck ci wr => Below w1.heap.size w1 wr ∧ ((ck = .slice none 0 0 ∧ ci = .int .i64 0) ∨ (KeyAt wr w1.heap.size ck ∧ ci = .int .i64 1))) (fun _ ci _ => 1 - (intOf ci).toNat)
  case atStart => exact ⟨Below.refl _ _, Or.inl ⟨rfl, rfl⟩⟩
  case round =>
    obtain ⟨hb, ⟨rfl, rfl⟩ | ⟨⟨K, kc, hk1, hk2, hk3⟩, rfl⟩⟩ := hrel
    · have HB : Hid (Below w1.heap.size w1 wr) := hb
      obtain ⟨e0, e1, ef⟩ := (HO.out.on hb).cells
      have HX : Hid _ := one_alloc wr (.cells #[.string ⟨#[97]⟩, .int .i64 v] 62)
      obtain ⟨W0, hW0⟩ : ∃ W0, W0 = wr.alloc (.cells #[.string ⟨#[97]⟩, .int .i64 v] 62) := ⟨_, rfl⟩
      have HB0 : Hid (Below w1.heap.size w1 W0) := by rw [hW0]; exact hb.alloc hb.size _
      rw [← hW0] at HX
      clear hb
      go_upto_region 4 with fail
      rw [← hW0]
      clear hW0 e0 e1 ef
      obtain ⟨x0, x1, xf⟩ := row2 HX.out
      go_wp2_with fail
      refine (show Calls _ _ _ _ _ from HCL.out _).mono ?_
      rintro e w2 ⟨rfl, hb2⟩
      have HB2 : Hid (Below w1.heap.size w1 w2) := bel_to HB0.out hb2 (Nat.le_refl _)
      clear hb2 x0 x1 xf
      have HON : Hid ((w2.alloc (.cells #[.string ⟨#[97]⟩] 9)).ownsRow w1.heap.size 9 1 (.slice none 0 0) 0 []) := ⟨rfl, Or.inl ⟨rfl, rfl⟩⟩
      have HB3 : Hid (Below w1.heap.size w1 (w2.alloc (.cells #[.string ⟨#[97]⟩] 9))) := HB2.out.alloc HB2.out.size _
      have HC3 : Hid ((w2.alloc (.cells #[.string ⟨#[97]⟩] 9)).cell? ⟨w2.heap.size, 0, none⟩ = some (.string ⟨#[97]⟩)) := (row1 (one_alloc w2 _)).1
      go_wp2_with (at_builtin; go_must (refine wpList_append_own _ rfl _ _ 28 rfl w1.heap.size 9 i0 (.string ⟨#[]⟩) 1 16 Try.underlying28 hi hz0 hz1 hz2 rfl (by decide) _ _ _ rfl HON.out ⟨w2.heap.size, 0, none⟩ 1 1 [.string ⟨#[97]⟩] rfl rfl ?t0 ?t1 ?t2 ?t3 HB3.out.size ?_))
      case t0 =>
        intro j u hj
        match j, hj with
        | 0, hj => simp at hj; subst hj; exact HC3.out
      case t1 => intro u hu; simp at hu; subst hu; rfl
      case t2 => unfold maxLen; omega
      case t3 => omega
      intro v' w4 hown hgr hiff
      have HB4 : Hid (Below w1.heap.size w1 w4) := HB3.out.grown hgr HB3.out.size (fun k hk => by cases hk)
      have HK4 : Hid (KeyAt w4 w1.heap.size v') := by
        obtain ⟨_, ⟨_, h2⟩ | ⟨K, cap, cur, h1, hb, hg, q1, q2, q3, q4⟩⟩ := hown
        · omega
        · refine ⟨K, cap, h1, hb, ?_⟩
          rw [cell_of_row _ _ _ _ _ _ hg]
          have := congrArg (fun l => l[0]?) q4
          simpa [List.getElem?_take] using this
      clear hown hgr hiff
      go_wp2
      go_roundw
      case rel => exact ⟨HB4.out, Or.inr ⟨HK4.out, rfl⟩⟩
      case measure => simp [intOf]
    · have HB : Hid (Below w1.heap.size w1 wr) := hb
      have HK2 : Hid _ := hk2
      have HK3 : Hid _ := hk3
      subst hk1
      clear hb hk2 hk3
      go_wp2
      go_returns
      exact ⟨⟨_, rfl, K, kc, rfl, HK2.out, HK3.out⟩, HB.out⟩
/-- the dict of one key. -/
structure DW (W : World) (g B E c : Nat) (v : Int) : Prop where
  d : W.heap[g]? = some (.cells (dcells (some ⟨B, 0, none⟩) 4 4 1) 58)
  b : W.heap[B]? = some (.cells (bcells (.slice (some ⟨E, 0, none⟩) 1 c)) 71)
  o : One W E c v
theorem DW.on {W W' : World} {g B E c : Nat} {v : Int} (h : DW W g B E c v) (hb : Below W.heap.size W W') : DW W' g B E c v := ⟨keep_row h.d hb, keep_row h.b hb, h.o.on hb⟩
theorem DW.size {W : World} {g B E c : Nat} {v : Int} (h : DW W g B E c v) : Calls Try.prog 33 #[.pointer (some ⟨g, 1, none⟩)] W fun e w' => e = .returned (.int .i64 4) ∧ w' = W := size_any g 1 _ 4 4 W (row6 h.d).2.1
theorem DW.moves {W : World} {g B E c : Nat} {v : Int} (h : DW W g B E c v) : Calls Try.prog 28 #[.pointer (some ⟨g, 0, none⟩)] W fun e w' => e = .returned (.bool false) ∧ w' = W := moves_no g none 0 W (row6 h.d).2.2.2.1
theorem DW.drew {W : World} {g B E c : Nat} {v : Int} (h : DW W g B E c v) : DW W.drew g B E c v := h.on (Below.refl _ _).drew
end Go.Proofs.Ytdemodhjlbkbeaa
