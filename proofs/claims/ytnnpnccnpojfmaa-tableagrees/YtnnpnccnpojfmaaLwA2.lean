import Derived.Test.YtnnpnccnpojfmaaTbAg
import Derived.Deep.RegionHeld3
import Derived.Deep.Cut
namespace Go.Proofs.Ytnnpnccnpojfmaa
open Go.RowKit
set_option linter.unusedVariables false
set_option linter.unusedSimpArgs false
set_option maxHeartbeats 1500000 in
set_option maxRecDepth 20000 in
theorem ag_many (a lo : ByteArray) (args : List ByteArray) (g o n c : Nat) (hn : args.length = n) (hn1 : 0 < n) (hl : n ≤ 8796093022208) (w : World) (hA : SRow w (.slice (some ⟨g, o, none⟩) n c) args) (hcell : w.cell? ⟨g, o, none⟩ = some (.string a))
    (x1 x2 : Int) (x3 x4 x5 : Bool) (x6 x7 x8 x9 : Int) (q1 : ¬ (n : Int) < x1) (q1' : x1 ≤ (n : Int)) (q2 : ¬ x2 < 0) (q3 : ¬ (n : Int) ≤ x2)
    (HF : Hid (∀ W, Calls Try.prog 11 #[.string a] W fun e w' => e = .returned (.tuple #[.agg #[.string lo, .int .i64 x1, .int .i64 x2, .bool x3, .bool x4, .bool x5, .int .i64 x6, .int .i64 x7, .int .i64 x8, .int .i64 x9], .bool true]) ∧ Below W.heap.size W w'))
    (HLW : Hid (∀ W, Calls Try.prog 13 #[.string a] W fun e w' => e = .returned (.string lo) ∧ Below W.heap.size W w'))
    (NM : List ByteArray) (hNM : NM.length = 161) (HIS : Hid (lo ∈ NM))
    (HAL : Hid (∀ w : World, Calls Try.prog 12 #[] w fun e w' => e = .returned (.slice (some ⟨w.heap.size, 0, none⟩) 161 161) ∧ w'.heap[w.heap.size]? = some (.cells (sv NM).toArray 9) ∧ Below w.heap.size w w'))
    (HCK : Hid (∀ W, SRow W (.slice (some ⟨g, o, none⟩) n c) args → Calls Try.prog 9 #[.slice (some ⟨g, o, none⟩) n c] W fun e w' => e = .returned (.int .i64 131) ∧ Below W.heap.size W w'))
    (ks : List ByteArray) (ek : Int) (nk : Nat) (hnk : ks.length = nk) (hnkl : nk ≤ 70368744177664)
    (HKY : Hid (∀ W, SRow W (.slice (some ⟨g, o, none⟩) n c) args → Calls Try.prog 14 #[.slice (some ⟨g, o, none⟩) n c] W fun e w' => (∃ v, e = .returned (.tuple #[v, .int .i64 ek]) ∧ SRow w' v ks) ∧ Below W.heap.size W w'))
    (HKM : Hid (∀ x ∈ ks, ∃ j, 1 ≤ j ∧ args[j]? = some x)) (HKZ : Hid (ek = 0 ∨ nk = 0))
    (tr : ByteArray) (HTR : Hid (∀ W, SRow W (.slice (some ⟨g, o, none⟩) n c) args → Calls Try.prog 15 #[.slice (some ⟨g, o, none⟩) n c] W fun e w' => e = .returned (.string tr) ∧ Below W.heap.size W w'))
    (hte : tr.toList.isEmpty = false) :
    Calls Try.prog 3 #[.slice (some ⟨g, o, none⟩) n c] w fun e w' => e = .returned (.bool true) ∧ Below w.heap.size w w' := by
  have HA : Hid (SRow w (.slice (some ⟨g, o, none⟩) n c) args) := hA
  have HN : Hid _ := num_any
  have HSU : Hid _ := sure_any
  have HNL : Hid (args.length = n) := hn
  have HNM : Hid (NM.length = 161) := hNM
  have HNK : Hid (ks.length = nk) := hnk
  have hz0 : ((n : Int) == 0) = false := by simp; omega
  have hz9 : (0 : Int) < (n : Int) := by omega
  have HC0 : Hid _ := hcell
  clear hA hn hNM hnk
  go_enter Try.func3, Try.ntmps3
  go_wp2_with fail
  refine (show Calls _ _ _ _ _ from HF.out _).mono ?_
  rintro e w1 ⟨rfl, hb1⟩
  have HB1 : Hid (Below w.heap.size w w1) := hb1
  clear hb1 hcell
  go_upto_region 4 with fail
  obtain ⟨W1, hW1⟩ : ∃ W, w1.alloc (.cells #[.string lo, .int .i64 x1, .int .i64 x2, .bool x3, .bool x4, .bool x5, .int .i64 x6, .int .i64 x7, .int .i64 x8, .int .i64 x9] 28) = W := ⟨_, rfl⟩
  have HSA : Hid (W1.heap[w1.heap.size]? = some (.cells #[.string lo, .int .i64 x1, .int .i64 x2, .bool x3, .bool x4, .bool x5, .int .i64 x6, .int .i64 x7, .int .i64 x8, .int .i64 x9] 28)) := by rw [← hW1]; exact one_alloc w1 _
  have HBA : Hid (Below w.heap.size w W1) := by rw [← hW1]; exact bel_to HB1.out ((Below.refl _ _).alloc (Nat.le_refl _) _) (Nat.le_refl _)
  rw [hW1]
  obtain ⟨SA, hSA⟩ : ∃ SA, w1.heap.size = SA := ⟨_, rfl⟩
  rw [hSA] at HSA ⊢
  clear hW1 hSA
  go_wp2_with fail
  refine (show Calls _ _ _ _ _ from HAL.out _).mono ?_
  rintro e W2 ⟨rfl, hr2, hb2⟩
  have HSA2 : Hid _ := keep_row HSA.out hb2
  have HGL : Hid _ := hr2
  have HB2 : Hid (Below w.heap.size w W2) := bel_to HBA.out hb2 (Nat.le_refl _)
  obtain ⟨GL, hGL⟩ : ∃ GL, W1.heap.size = GL := ⟨_, rfl⟩
  rw [hGL] at HGL ⊢
  clear hb2 hr2 hGL
  have HCN : Hid (∀ W : World, Below W2.heap.size W2 W → ∀ i x, NM[i]? = some x → W.cell? ⟨GL, i, none⟩ = some (.string x)) := fun W hW i x hx => by
    rw [cell_of_row _ _ _ _ _ _ (keep_row HGL.out hW), List.getElem?_toArray]
    unfold sv
    rw [List.getElem?_map, hx]; rfl
  have HCA : Hid (∀ W : World, Below W2.heap.size W2 W → W.cell? ⟨g, o, none⟩ = some (.string a)) := fun W hW => cell_on (cell_on HC0.out HB2.out) hW
  go_wp2
  go_loopw [6, 7] (fun vb ci wr => ∃ (b : Bool) (i : Nat), ci = .int .i64 (i : Int) ∧ vb = .bool b ∧ i ≤ 161 ∧ Seen NM lo i b ∧ Below W2.heap.size W2 wr) (fun _ ci _ => 161 - (intOf ci).toNat)
  case atStart => exact ⟨false, 0, rfl, rfl, by omega, Seen.start NM lo, Below.refl _ _⟩
  case round =>
    obtain ⟨b, i, rfl, rfl, hi, hbi, hbel⟩ := hrel
    have HBI : Hid (Seen NM lo i b) := hbi
    have HB : Hid (Below W2.heap.size W2 wr) := hbel
    clear hbi hbel
    by_cases hlt : i < 161
    · have hi0 : (0 : Int) ≤ (i : Int) := by omega
      have hi1 : (i : Int) < 161 := by omega
      cases b with
      | true =>
        have HX : Hid (Seen NM lo (i + 1) true) := Seen.stay HBI.out
        go_wp2_with fail
        go_quiet (fail)
        have HB3 : Hid (Below W2.heap.size W2 (wr.drewN nq)) := below_dn HB.out nq
        go_wp2
        go_roundw
        case rel => exact ⟨true, i + 1, by go_num, rfl, by omega, HX.out, HB3.out⟩
        case measure => simp [intOf]; omega
      | false =>
        obtain ⟨y, hy⟩ : ∃ y, NM[i]? = some y := ⟨_, List.getElem?_eq_getElem (by rw [HNM.out]; exact hlt)⟩
        have HY : Hid (NM[i]? = some y) := hy
        have HKS : Hid (∀ W : World, Below wr.heap.size wr W → W.cell? ⟨GL, i, none⟩ = some (.string y) ∧ W.cell? ⟨g, o, none⟩ = some (.string a)) := fun W hW => ⟨HCN.out W (bel_to HB.out hW (Nat.le_refl _)) i y HY.out, HCA.out W (bel_to HB.out hW (Nat.le_refl _))⟩
        have hS0 := HKS.out wr (Below.refl _ _)
        have hSd := HKS.out wr.drew (Below.refl _ _).drew
        clear hy
        by_cases heq : y = lo
        · have hyl : (y.toList == lo.toList) = true := str_same (by rw [heq])
          have HX : Hid (Seen NM lo (i + 1) true) := Seen.hit HY.out heq
          clear heq
          go_upto_region 9 with fail
          go_region_held3 (fun W : World => W.cell? ⟨GL, i, none⟩ = some (.string y) ∧ W.cell? ⟨g, o, none⟩ = some (.string a))
            (first | with_reducible exact hS0 | with_reducible exact hSd | with_reducible exact hS4)
            (first | (go_at_call 13; refine (show Calls _ _ _ _ _ from HLW.out _).mono ?_; rintro e W4 ⟨rfl, hb4⟩; have hx4 : Below wr.heap.size wr W4 := bel_to (Below.refl _ wr).drew hb4 (Nat.le_refl _); have hS4 := HKS.out _ hx4))
          have HB3 : Hid (Below W2.heap.size W2 W4) := bel_to HB.out hx4 (Nat.le_refl _)
          clear hS0 hSd hS4 hx4 hb4
          go_wp2
          go_roundw
          case rel => exact ⟨true, i + 1, by go_num, rfl, by omega, HX.out, HB3.out⟩
          case measure => simp [intOf]; omega
        · have hyl : (y.toList == lo.toList) = false := str_other (fun h => heq (bytes_ext h))
          have HX : Hid (Seen NM lo (i + 1) false) := Seen.miss HBI.out HY.out heq
          clear heq
          go_upto_region 9 with fail
          go_region_held3 (fun W : World => W.cell? ⟨GL, i, none⟩ = some (.string y) ∧ W.cell? ⟨g, o, none⟩ = some (.string a))
            (first | with_reducible exact hS0 | with_reducible exact hSd | with_reducible exact hS4)
            (first | (go_at_call 13; refine (show Calls _ _ _ _ _ from HLW.out _).mono ?_; rintro e W4 ⟨rfl, hb4⟩; have hx4 : Below wr.heap.size wr W4 := bel_to (Below.refl _ wr).drew hb4 (Nat.le_refl _); have hS4 := HKS.out _ hx4))
          have HB3 : Hid (Below W2.heap.size W2 W4) := bel_to HB.out hx4 (Nat.le_refl _)
          clear hS0 hSd hS4 hx4 hb4
          go_wp2
          go_roundw
          case rel => exact ⟨false, i + 1, by go_num, rfl, by omega, HX.out, HB3.out⟩
          case measure => simp [intOf]; omega
    · have hi1 : ¬ (i : Int) < 161 := by omega
      have hie : i = 161 := by omega
      have hbt : b = true := by
        have key : (b = true) ↔ lo ∈ NM := Seen.last HBI.out (by rw [HNM.out]; omega)
        have := HIS.out
        cases b with
        | true => rfl
        | false => exact absurd (key.2 this) (by decide)
      subst hbt
      clear hie HBI
      have HAR : Hid (SRow wr (.slice (some ⟨g, o, none⟩) n c) args) := (HA.out.on HB2.out).on HB.out
      go_wp2_with fail
      refine (show Calls _ _ _ _ _ from HCK.out _ HAR.out).mono ?_
      rintro e W5 ⟨rfl, hb5⟩
      have HB5 : Hid (Below W2.heap.size W2 W5) := bel_to HB.out hb5 (Nat.le_refl _)
      clear hb5
      go_wp2_with fail
      refine (show Calls _ _ _ _ _ from HN.out _ _).mono ?_
      rintro e Wx ⟨rfl, rfl⟩
      obtain ⟨W5, hW5⟩ : ∃ W, Wx = W := ⟨_, rfl⟩
      rw [hW5] at HB5 ⊢
      clear hW5
      obtain ⟨c0, c1, c2, c3, c4, c5, c6, c7, c8, c9, cf⟩ := row10 (keep_row HSA2.out HB5.out)
      have hc0 := HCA.out W5 HB5.out
      go_upto_region 11 with fail
      have HKS : Hid (∀ W : World, Below W5.heap.size W5 W → W.cell? ⟨SA, 0, none⟩ = some (.string lo) ∧ W.cell? ⟨g, o, none⟩ = some (.string a)) := fun W hW => ⟨cell_on c0 hW, cell_on hc0 hW⟩
      have hS0 := HKS.out W5 (Below.refl _ _)
      have hSd := HKS.out W5.drew (Below.refl _ _).drew
      have hll : (lo.toList == lo.toList) = true := str_same rfl
      refine wp_region_noPanic ?_
      refine wp_region_held_drew (S := (fun W : World => W.cell? ⟨SA, 0, none⟩ = some (.string lo) ∧ W.cell? ⟨g, o, none⟩ = some (.string a))) (by kernel_rfl) ?_ (fun hHeld => ?_)
      · exact hSd
      refine wpAnyH_take (i := 0) (oi := { dst := some 53, op := Go.Op.move (Go.Operand.tmp 6), type := 4, pos := "law.go:89", after := #[], guard := none }) (v := ?vr0) rfl (by kernel_rfl) (by kernel_rfl) (by kernel_rfl) (fun _ _ _ h => h) (Or.inl ⟨by rfl, ?hr0⟩) (by assumption) ?rr0
      case hr0 => (intro w hSw; (try dsimp only at hSw); go_simp; try with_reducible rfl)
      try simp only [Act.put, List.setIfInBounds_toArray, List.set_cons_zero, List.set_cons_succ]
      refine wpAnyH_take (i := 1) (oi := { dst := some 54, op := Go.Op.move (Go.Operand.tmp 4), type := 4, pos := "law.go:89", after := #[], guard := none }) (v := ?vr1) rfl (by kernel_rfl) (by kernel_rfl) (by kernel_rfl) (fun _ _ _ h => h) (Or.inl ⟨by rfl, ?hr1⟩) (by assumption) ?rr1
      case hr1 => (intro w hSw; (try dsimp only at hSw); go_simp; try with_reducible rfl)
      try simp only [Act.put, List.setIfInBounds_toArray, List.set_cons_zero, List.set_cons_succ]
      refine wpAnyH_take (i := 2) (oi := { dst := some 55, op := Go.Op.binOp Go.BinOp.neq 4 (Go.Operand.tmp 53) (Go.Operand.tmp 54) 4, type := 4, pos := "law.go:89", after := #[{ on := 0, ground := Go.Ground.data }, { on := 1, ground := Go.Ground.data }], guard := none }) (v := ?vr2) rfl (by kernel_rfl) (by kernel_rfl) (by kernel_rfl) (fun _ _ _ h => h) (Or.inl ⟨by rfl, ?hr2⟩) (by assumption) ?rr2
      case hr2 => (intro w hSw; (try dsimp only at hSw); go_simp; try with_reducible rfl)
      try simp only [Act.put, List.setIfInBounds_toArray, List.set_cons_zero, List.set_cons_succ]
      refine wpAnyH_take (i := 3) (oi := { dst := some 56, op := Go.Op.move (Go.Operand.tmp 55), type := 4, pos := "law.go:89", after := #[{ on := 2, ground := Go.Ground.data }], guard := none }) (v := ?vr3) rfl (by kernel_rfl) (by kernel_rfl) (by kernel_rfl) (fun _ _ _ h => h) (Or.inl ⟨by rfl, ?hr3⟩) (by assumption) ?rr3
      case hr3 => (intro w hSw; (try dsimp only at hSw); go_simp; try with_reducible rfl)
      try simp only [Act.put, List.setIfInBounds_toArray, List.set_cons_zero, List.set_cons_succ]
      refine wpAnyH_take (i := 4) (oi := { dst := some 57, op := Go.Op.move (Go.Operand.tmp 4), type := 4, pos := "law.go:89", after := #[{ on := 3, ground := Go.Ground.guard }], guard := some (3, false) }) (v := ?vr4) rfl (by kernel_rfl) (by kernel_rfl) (by kernel_rfl) (fun _ _ _ h => h) (Or.inl ⟨by rfl, ?hr4⟩) (by assumption) ?rr4
      case hr4 => (intro w hSw; (try dsimp only at hSw); go_simp; try with_reducible rfl)
      try simp only [Act.put, List.setIfInBounds_toArray, List.set_cons_zero, List.set_cons_succ]
      refine wpAnyH_take (i := 5) (oi := { dst := some 58, op := Go.Op.move (Go.Operand.tmp 57), type := 4, pos := "law.go:89", after := #[{ on := 4, ground := Go.Ground.data }, { on := 3, ground := Go.Ground.chain }, { on := 3, ground := Go.Ground.guard }], guard := some (3, false) }) (v := ?vr5) rfl (by kernel_rfl) (by kernel_rfl) (by kernel_rfl) (fun _ _ _ h => h) (Or.inl ⟨by rfl, ?hr5⟩) (by assumption) ?rr5
      case hr5 => (intro w hSw; (try dsimp only at hSw); go_simp; try with_reducible rfl)
      try simp only [Act.put, List.setIfInBounds_toArray, List.set_cons_zero, List.set_cons_succ]
      refine wpAnyH_take (i := 6) (oi := { dst := some 59, op := Go.Op.fieldAddr 28 (Go.Operand.tmp 3) 0, type := 0, pos := "law.go:89", after := #[{ on := 5, ground := Go.Ground.guard }], guard := some (5, true) }) (v := ?vr6) rfl (by kernel_rfl) (by kernel_rfl) (by kernel_rfl) (fun _ _ _ h => h) (Or.inl ⟨by rfl, ?hr6⟩) (by assumption) ?rr6
      case hr6 => (intro w hSw; (try dsimp only at hSw); go_simp; try with_reducible rfl)
      try simp only [Act.put, List.setIfInBounds_toArray, List.set_cons_zero, List.set_cons_succ]
      refine wpAnyH_take (i := 7) (oi := { dst := some 60, op := Go.Op.load 9 (Go.Operand.tmp 59), type := 9, pos := "law.go:89", after := #[{ on := 6, ground := Go.Ground.data }, { on := 5, ground := Go.Ground.guard }], guard := some (5, true) }) (v := ?vr7) rfl (by kernel_rfl) (by kernel_rfl) (by kernel_rfl) (fun _ _ _ h => h) (Or.inl ⟨by rfl, ?hr7⟩) (by assumption) ?rr7
      case hr7 => (intro w hSw; (try dsimp only at hSw); go_simp; try with_reducible rfl)
      try simp only [Act.put, List.setIfInBounds_toArray, List.set_cons_zero, List.set_cons_succ]
      refine wpAnyH_take (i := 8) (oi := { dst := some 61, op := Go.Op.move (Go.Operand.tmp 0), type := 22, pos := "law.go:89", after := #[{ on := 5, ground := Go.Ground.guard }], guard := some (5, true) }) (v := ?vr8) rfl (by kernel_rfl) (by kernel_rfl) (by kernel_rfl) (fun _ _ _ h => h) (Or.inl ⟨by rfl, ?hr8⟩) (by assumption) ?rr8
      case hr8 => (intro w hSw; (try dsimp only at hSw); go_simp; try with_reducible rfl)
      try simp only [Act.put, List.setIfInBounds_toArray, List.set_cons_zero, List.set_cons_succ]
      refine wpAnyH_take (i := 9) (oi := { dst := some 62, op := Go.Op.indexAddr 22 (Go.Operand.tmp 61) (Go.Operand.const (Go.Value.int Go.IntKind.i64 0)), type := 0, pos := "law.go:89", after := #[{ on := 8, ground := Go.Ground.data }, { on := 5, ground := Go.Ground.guard }], guard := some (5, true) }) (v := ?vr9) rfl (by kernel_rfl) (by kernel_rfl) (by kernel_rfl) (fun _ _ _ h => h) (Or.inl ⟨by rfl, ?hr9⟩) (by assumption) ?rr9
      case hr9 => (intro w hSw; (try dsimp only at hSw); go_simp; try with_reducible rfl)
      try simp only [Act.put, List.setIfInBounds_toArray, List.set_cons_zero, List.set_cons_succ]
      refine wpAnyH_take (i := 10) (oi := { dst := some 63, op := Go.Op.load 9 (Go.Operand.tmp 62), type := 9, pos := "law.go:89", after := #[{ on := 9, ground := Go.Ground.data }, { on := 5, ground := Go.Ground.guard }], guard := some (5, true) }) (v := ?vr10) rfl (by kernel_rfl) (by kernel_rfl) (by kernel_rfl) (fun _ _ _ h => h) (Or.inl ⟨by rfl, ?hr10⟩) (by assumption) ?rr10
      case hr10 => (intro w hSw; (try dsimp only at hSw); go_simp; try with_reducible rfl)
      try simp only [Act.put, List.setIfInBounds_toArray, List.set_cons_zero, List.set_cons_succ]
      refine wpAnyH_ready (rs := [11]) (by kernel_rfl) (by simp) ?_
      refine AllReadyH.cons (o := { dst := some 64, op := Go.Op.call { callee := Go.Callee.value (Go.Operand.func 13), args := #[Go.Operand.tmp 63], argTypes := #[9] }, type := 9, pos := "law.go:89", after := #[{ on := 10, ground := Go.Ground.data }, { on := 5, ground := Go.Ground.chain }, { on := 5, ground := Go.Ground.guard }], guard := some (5, true) }) rfl (fun K hK => ?_) AllReadyH.nil
      go_simp
      refine (show Calls _ _ _ _ _ from HLW.out _).mono ?_
      rintro e W6 ⟨rfl, hb4⟩
      have hx4 : Below W5.heap.size W5 W6 := bel_to (Below.refl _ W5).drew hb4 (Nat.le_refl _)
      go_wp2_with fail
      refine hK.out _ _ ?_ (fun hHeld => ?_)
      · exact (HKS.out _ hx4)
      clear hK K
      try simp only [Act.put, List.setIfInBounds_toArray, List.set_cons_zero, List.set_cons_succ]
      refine wpAnyH_take (i := 12) (oi := { dst := some 65, op := Go.Op.binOp Go.BinOp.neq 9 (Go.Operand.tmp 60) (Go.Operand.tmp 64) 9, type := 4, pos := "law.go:89", after := #[{ on := 7, ground := Go.Ground.data }, { on := 11, ground := Go.Ground.data }, { on := 5, ground := Go.Ground.guard }], guard := some (5, true) }) (v := ?vr12) rfl (by kernel_rfl) (by kernel_rfl) (by kernel_rfl) (fun _ _ _ h => h) (Or.inl ⟨by rfl, ?hr12⟩) (by assumption) ?rr12
      case hr12 => (intro w hSw; (try dsimp only at hSw); go_simp; try with_reducible rfl)
      try simp only [Act.put, List.setIfInBounds_toArray, List.set_cons_zero, List.set_cons_succ]
      refine wpAnyH_take (i := 13) (oi := { dst := some 66, op := Go.Op.pick (Go.Operand.tmp 58) (Go.Operand.tmp 65) (Go.Operand.const (Go.Value.bool false)), type := 4, pos := "law.go:89", after := #[{ on := 5, ground := Go.Ground.data }, { on := 12, ground := Go.Ground.data }, { on := 3, ground := Go.Ground.guard }], guard := some (3, false) }) (v := ?vr13) rfl (by kernel_rfl) (by kernel_rfl) (by kernel_rfl) (fun _ _ _ h => h) (Or.inl ⟨by rfl, ?hr13⟩) (by assumption) ?rr13
      case hr13 => (intro w hSw; (try dsimp only at hSw); go_simp; try with_reducible rfl)
      try simp only [Act.put, List.setIfInBounds_toArray, List.set_cons_zero, List.set_cons_succ]
      refine wpAnyH_take (i := 14) (oi := { dst := some 67, op := Go.Op.pick (Go.Operand.tmp 56) (Go.Operand.const (Go.Value.bool true)) (Go.Operand.tmp 66), type := 4, pos := "law.go:89", after := #[{ on := 3, ground := Go.Ground.data }, { on := 13, ground := Go.Ground.data }], guard := none }) (v := ?vr14) rfl (by kernel_rfl) (by kernel_rfl) (by kernel_rfl) (fun _ _ _ h => h) (Or.inl ⟨by rfl, ?hr14⟩) (by assumption) ?rr14
      case hr14 => (intro w hSw; (try dsimp only at hSw); go_simp; try with_reducible rfl)
      try simp only [Act.put, List.setIfInBounds_toArray, List.set_cons_zero, List.set_cons_succ]
      refine wpAnyH_take (i := 15) (oi := { dst := some 68, op := Go.Op.move (Go.Operand.tmp 67), type := 4, pos := "law.go:89", after := #[{ on := 14, ground := Go.Ground.data }, { on := 11, ground := Go.Ground.chain }], guard := none }) (v := ?vr15) rfl (by kernel_rfl) (by kernel_rfl) (by kernel_rfl) (fun _ _ _ h => h) (Or.inl ⟨by rfl, ?hr15⟩) (by assumption) ?rr15
      case hr15 => (intro w hSw; (try dsimp only at hSw); go_simp; try with_reducible rfl)
      try simp only [Act.put, List.setIfInBounds_toArray, List.set_cons_zero, List.set_cons_succ]
      refine wpAnyH_take (i := 16) (oi := { dst := some 69, op := Go.Op.move (Go.Operand.tmp 4), type := 4, pos := "law.go:89", after := #[{ on := 15, ground := Go.Ground.guard }], guard := some (15, false) }) (v := ?vr16) rfl (by kernel_rfl) (by kernel_rfl) (by kernel_rfl) (fun _ _ _ h => h) (Or.inl ⟨by rfl, ?hr16⟩) (by assumption) ?rr16
      case hr16 => (intro w hSw; (try dsimp only at hSw); go_simp; try with_reducible rfl)
      try simp only [Act.put, List.setIfInBounds_toArray, List.set_cons_zero, List.set_cons_succ]
      refine wpAnyH_take (i := 17) (oi := { dst := some 70, op := Go.Op.unOp Go.UnOp.not 4 (Go.Operand.tmp 69), type := 4, pos := "law.go:89", after := #[{ on := 16, ground := Go.Ground.data }, { on := 15, ground := Go.Ground.guard }], guard := some (15, false) }) (v := ?vr17) rfl (by kernel_rfl) (by kernel_rfl) (by kernel_rfl) (fun _ _ _ h => h) (Or.inl ⟨by rfl, ?hr17⟩) (by assumption) ?rr17
      case hr17 => (intro w hSw; (try dsimp only at hSw); go_simp; try with_reducible rfl)
      try simp only [Act.put, List.setIfInBounds_toArray, List.set_cons_zero, List.set_cons_succ]
      refine wpAnyH_take (i := 18) (oi := { dst := some 71, op := Go.Op.move (Go.Operand.tmp 70), type := 4, pos := "law.go:89", after := #[{ on := 17, ground := Go.Ground.data }, { on := 15, ground := Go.Ground.chain }, { on := 15, ground := Go.Ground.guard }], guard := some (15, false) }) (v := ?vr18) rfl (by kernel_rfl) (by kernel_rfl) (by kernel_rfl) (fun _ _ _ h => h) (Or.inl ⟨by rfl, ?hr18⟩) (by assumption) ?rr18
      case hr18 => (intro w hSw; (try dsimp only at hSw); go_simp; try with_reducible rfl)
      try simp only [Act.put, List.setIfInBounds_toArray, List.set_cons_zero, List.set_cons_succ]
      refine wpAnyH_take (i := 19) (oi := { dst := some 72, op := Go.Op.move (Go.Operand.tmp 8), type := 3, pos := "law.go:89", after := #[{ on := 18, ground := Go.Ground.guard }], guard := some (18, true) }) (v := undef) rfl (by kernel_rfl) (by kernel_rfl) (by kernel_rfl) (fun _ _ _ h => h) (Or.inr ⟨by rfl, rfl⟩) (by assumption) ?_
      try simp only [Act.put, List.setIfInBounds_toArray, List.set_cons_zero, List.set_cons_succ]
      refine wpAnyH_take (i := 20) (oi := { dst := some 73, op := Go.Op.binOp Go.BinOp.neq 3 (Go.Operand.tmp 72) (Go.Operand.const (Go.Value.int Go.IntKind.i64 130)) 3, type := 4, pos := "law.go:89", after := #[{ on := 19, ground := Go.Ground.data }, { on := 18, ground := Go.Ground.guard }], guard := some (18, true) }) (v := undef) rfl (by kernel_rfl) (by kernel_rfl) (by kernel_rfl) (fun _ _ _ h => h) (Or.inr ⟨by rfl, rfl⟩) (by assumption) ?_
      try simp only [Act.put, List.setIfInBounds_toArray, List.set_cons_zero, List.set_cons_succ]
      refine wpAnyH_take (i := 21) (oi := { dst := some 74, op := Go.Op.pick (Go.Operand.tmp 71) (Go.Operand.tmp 73) (Go.Operand.const (Go.Value.bool false)), type := 4, pos := "law.go:89", after := #[{ on := 18, ground := Go.Ground.data }, { on := 20, ground := Go.Ground.data }, { on := 15, ground := Go.Ground.guard }], guard := some (15, false) }) (v := ?vr21) rfl (by kernel_rfl) (by kernel_rfl) (by kernel_rfl) (fun _ _ _ h => h) (Or.inl ⟨by rfl, ?hr21⟩) (by assumption) ?rr21
      case hr21 => (intro w hSw; (try dsimp only at hSw); go_simp; try with_reducible rfl)
      try simp only [Act.put, List.setIfInBounds_toArray, List.set_cons_zero, List.set_cons_succ]
      refine wpAnyH_take (i := 22) (oi := { dst := some 75, op := Go.Op.pick (Go.Operand.tmp 68) (Go.Operand.const (Go.Value.bool true)) (Go.Operand.tmp 74), type := 4, pos := "law.go:89", after := #[{ on := 15, ground := Go.Ground.data }, { on := 21, ground := Go.Ground.data }], guard := none }) (v := ?vr22) rfl (by kernel_rfl) (by kernel_rfl) (by kernel_rfl) (fun _ _ _ h => h) (Or.inl ⟨by rfl, ?hr22⟩) (by assumption) ?rr22
      case hr22 => (intro w hSw; (try dsimp only at hSw); go_simp; try with_reducible rfl)
      try simp only [Act.put, List.setIfInBounds_toArray, List.set_cons_zero, List.set_cons_succ]
      refine wpAnyH_done (by kernel_rfl) ?_ _
      refine NoPanic.normal ?_
      have HB6 : Hid (Below W2.heap.size W2 W6) := bel_to HB5.out hx4 (Nat.le_refl _)
      clear hS0 hSd hx4 hb4
      clear c0 c1 c2 c3 c4 c5 c6 c7 c8 c9 cf hc0
      obtain ⟨c0, c1, c2, c3, c4, c5, c6, c7, c8, c9, cf⟩ := row10 (keep_row HSA2.out HB6.out)
      have HAR6 : Hid (SRow W6 (.slice (some ⟨g, o, none⟩) n c) args) := (HA.out.on HB2.out).on HB6.out
      go_wp2_with fail
      refine (show Calls _ _ _ _ _ from HKY.out _ HAR6.out).mono ?_
      rintro e W7 ⟨⟨vk, rfl, hrow7⟩, hb7⟩
      have HB7 : Hid (Below W2.heap.size W2 W7) := bel_to HB6.out hb7 (Nat.le_refl _)
      have HRK : Hid (SRow W7 vk ks) := hrow7
      obtain ⟨PK, ck, hfk⟩ := hrow7.form
      rw [HNK.out] at hfk
      subst hfk
      clear hb7 hrow7 c0 c1 c2 c3 c4 c5 c6 c7 c8 c9 cf
      go_wp2
      go_loopw [11, 12, 13] (fun ci _ _ wr => ∃ i : Nat, ci = .int .i64 (i : Int) ∧ i ≤ nk ∧ Below W7.heap.size W7 wr) (fun ci _ _ _ => nk - (intOf ci).toNat)
      case atStart => exact ⟨0, rfl, by omega, Below.refl _ _⟩
      case round =>
        obtain ⟨k, rfl, hk, hbel⟩ := hrel
        obtain ⟨wz, hwz⟩ : ∃ wz, wz = wr := ⟨_, rfl⟩
        subst hwz
        have HBK : Hid (Below W7.heap.size W7 wz) := hbel
        clear hbel
        by_cases hkl : k < nk
        · obtain ⟨x, hx⟩ : ∃ x, ks[k]? = some x := ⟨_, List.getElem?_eq_getElem (by rw [HNK.out]; exact hkl)⟩
          obtain ⟨gk, ok, hPK, hck⟩ := HRK.out.cell k (by rw [HNK.out]; exact hkl)
          subst hPK
          rw [(List.getElem?_eq_some_iff.1 hx).2] at hck
          have HCK2 : Hid (W7.cell? ⟨gk, ok + k, none⟩ = some (.string x)) := hck
          have HEX : Hid _ := HKM.out x (List.mem_of_getElem? hx)
          clear hx hck
          have hk0 : (0 : Int) ≤ (k : Int) := by omega
          have hk1 : (k : Int) < (nk : Int) := by omega
          go_wp2
          go_loopw [12, 13] (fun vb cj w2 => ∃ (b : Bool) (j : Nat), (1 ≤ j ∧ j ≤ n ∧ Below wz.heap.size wz w2 ∧ NotYet args x j b) ∧ cj = .int .i64 (j : Int) ∧ vb = .bool b) (fun _ cj _ => n - (intOf cj).toNat)
          case atStart => exact ⟨false, 1, ⟨by omega, by omega, Below.refl _ _, NotYet.start args x⟩, rfl, rfl⟩
          case round =>
            obtain ⟨b, j, ⟨hj1, hjn, hby, hno⟩, rfl, rfl⟩ := hrel
            obtain ⟨wy, hwy⟩ : ∃ wy, wy = wr := ⟨_, rfl⟩
            subst hwy
            have HBY : Hid (Below wz.heap.size wz wy) := hby
            have HNO : Hid (NotYet args x j b) := hno
            clear hby hno
            by_cases hjl : j < n
            · have hj0 : (0 : Int) ≤ (j : Int) := by omega
              have hj2 : (j : Int) < (n : Int) := by omega
              cases b with
              | true =>
                go_wp2_with fail
                go_quiet (fail)
                have HBY2 : Hid (Below wz.heap.size wz (wy.drewN nq)) := below_dn HBY.out nq
                go_wp2
                exact ⟨⟨true, j + 1, ⟨by omega, by omega, HBY2.out, NotYet.yes args x (j + 1)⟩, by go_num, rfl⟩, by simp [intOf]; omega⟩
              | false =>
                obtain ⟨y, hy⟩ : ∃ y, args[j]? = some y := ⟨_, List.getElem?_eq_getElem (by rw [HNL.out]; exact hjl)⟩
                have hcy : wy.cell? ⟨g, o + j, none⟩ = some (.string y) := by
                  obtain ⟨g', o', e', hc'⟩ := ((HA.out.on HB2.out).on (bel_to (bel_to HB7.out HBK.out (Nat.le_refl _)) HBY.out (Nat.le_refl _))).cell j (List.getElem?_eq_some_iff.1 hy).1
                  injection e' with e'
                  injection e' with e1 e2 e3
                  subst e1
                  subst e2
                  rw [hc', (List.getElem?_eq_some_iff.1 hy).2]
                have hcx : wy.cell? ⟨gk, ok + k, none⟩ = some (.string x) := cell_on (cell_on HCK2.out HBK.out) HBY.out
                have HY : Hid (args[j]? = some y) := hy
                clear hy
                by_cases heq : y = x
                · have hyx : (y.toList == x.toList) = true := str_same (by rw [heq])
                  clear heq
                  go_wp2_with fail
                  go_quiet (fail)
                  have HBY2 : Hid (Below wz.heap.size wz (wy.drewN nq)) := below_dn HBY.out nq
                  go_wp2
                  exact ⟨⟨true, j + 1, ⟨by omega, by omega, HBY2.out, NotYet.yes args x (j + 1)⟩, by go_num, rfl⟩, by simp [intOf]; omega⟩
                · have hyx : (y.toList == x.toList) = false := str_other (fun h => heq (bytes_ext h))
                  have HNX : Hid (NotYet args x (j + 1) false) := NotYet.next HNO.out HY.out heq
                  clear heq
                  go_wp2_with fail
                  go_quiet (fail)
                  have HBY2 : Hid (Below wz.heap.size wz (wy.drewN nq)) := below_dn HBY.out nq
                  go_wp2
                  exact ⟨⟨false, j + 1, ⟨by omega, by omega, HBY2.out, HNX.out⟩, by go_num, rfl⟩, by simp [intOf]; omega⟩
            · have hbt : b = true := NotYet.last HNO.out (by rw [HNL.out]; omega) HEX.out
              subst hbt
              have hjn2 : ¬ (j : Int) < (n : Int) := by omega
              have HBK2 : Hid (Below W7.heap.size W7 wy) := bel_to HBK.out HBY.out (Nat.le_refl _)
              clear HNO
              go_wp2
              exact ⟨⟨k + 1, by go_num, hkl, HBK2.out⟩, by simp [intOf]; omega⟩
        · have hkn : k = nk := by omega
          subst hkn
          have HBZ : Hid (Below W2.heap.size W2 wz) := bel_to HB7.out HBK.out (Nat.le_refl _)
          have HAZ : Hid (SRow wz (.slice (some ⟨g, o, none⟩) n c) args) := (HA.out.on HB2.out).on HBZ.out
          by_cases hek : ek = 0
          · subst hek
            go_wp2_with fail
            refine (show Calls _ _ _ _ _ from HN.out _ _).mono ?_
            rintro e Wq ⟨rfl, rfl⟩
            go_wp2_with fail
            refine (show Calls _ _ _ _ _ from HTR.out _ HAZ.out).mono ?_
            rintro e W8 ⟨rfl, hb8⟩
            have HB8 : Hid (Below w.heap.size w W8) := bel_to (bel_to HB2.out HBZ.out (Nat.le_refl _)) hb8 (Nat.le_refl _)
            clear hb8
            go_wp2_with fail
            refine (show Calls _ _ _ _ _ from HSU.out _).mono ?_
            rintro e W9 ⟨rfl, hb9⟩
            have HB9 : Hid (Below w.heap.size w W9) := bel_to HB8.out hb9 (Nat.le_refl _)
            clear hb9
            go_wp2
            go_returns
            exact ⟨rfl, HB9.out⟩
          · have hk0 : k = 0 := by rcases HKZ.out with h | h <;> first | exact absurd h hek | exact h
            have hek2 : (ek == 0) = false := by simpa using hek
            subst hk0
            go_wp2_with fail
            refine (show Calls _ _ _ _ _ from HN.out _ _).mono ?_
            rintro e Wq ⟨rfl, rfl⟩
            go_wp2_with fail
            refine (show Calls _ _ _ _ _ from HTR.out _ HAZ.out).mono ?_
            rintro e W8 ⟨rfl, hb8⟩
            have HB8 : Hid (Below w.heap.size w W8) := bel_to (bel_to HB2.out HBZ.out (Nat.le_refl _)) hb8 (Nat.le_refl _)
            clear hb8
            go_wp2_with fail
            refine (show Calls _ _ _ _ _ from HSU.out _).mono ?_
            rintro e W9 ⟨rfl, hb9⟩
            have HB9 : Hid (Below w.heap.size w W9) := bel_to HB8.out hb9 (Nat.le_refl _)
            clear hb9
            go_wp2
            go_returns
            exact ⟨rfl, HB9.out⟩
end Go.Proofs.Ytnnpnccnpojfmaa
