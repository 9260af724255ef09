import Derived.Test.YtfkcpilkhdbpoaaGreatDoorIC
import Derived.Test.YtfkcpilkhdbpoaaGreatDoorHD
import Derived.Test.YtfkcpilkhdbpoaaGreatDoorIB
import Derived.Deep.RegionHeld3
namespace Go.Proofs.YtfkcpilkhdbpoaaGreatDoor.V
open Go.RowKit S5.IM
open S6 (Laid Lay)
set_option linter.unusedVariables false
set_option linter.unusedSimpArgs false
set_option maxHeartbeats 1000000 in
set_option maxRecDepth 20000 in
theorem place_nil (T b : Nat) (n s we z x : Int) (w : World) (hw : Lay w) (hb : w.heap[b]? = some (pkC T n s 2 we EP z x)) : Calls Tryz.prog 560 #[.pointer (some ⟨b, 0, none⟩), .string ⟨#[]⟩] w fun e w' => e = .returned (.int .i64 (-1)) ∧ Below w.heap.size w w' := by
  have HF : Hid (∀ W, Below w.heap.size w W → Calls Tryz.prog 572 #[.string EP, .int .i64 0, .int .i64 2, .string ⟨#[]⟩] W fun e w' => e = .returned (.tuple #[.int .i64 (-1), .int .i64 0]) ∧ Below W.heap.size W w') := fun W hW => (S6.Find_ok EP [] EP_pk 0 2 (by omega) (by omega) ⟨#[]⟩ (by decide) W (hw.on hW)).mono (by
    rintro e w' ⟨⟨r, rfl, hr⟩, hb⟩
    rcases hr with ⟨k, rfl, ⟨_, _, h⟩, _⟩ | ⟨rfl, _⟩
    · simp at h
    · exact ⟨rfl, hb⟩)
  have HKS : Hid (∀ W, Below w.heap.size w W → W.cell? ⟨b, 4, none⟩ = some (.string EP) ∧ W.cell? ⟨b, 2, none⟩ = some (.int .i64 2)) := fun W hW => by
    have hk := keep_row hb hW
    unfold pkC at hk
    obtain ⟨c0, c1, c2, c3, c4, c5, c6, cf⟩ := row7 hk
    exact ⟨c4, c2⟩
  clear hw hb
  generalize EP = E at *
  have hcur : Below w.heap.size w w.drew := (Below.refl _ w).drew
  go_enter Tryz.func560, Tryz.ntmps560
  go_wp2_with fail
  go_region_held3 (fun W : World => W.cell? ⟨b, 4, none⟩ = some (.string E) ∧ W.cell? ⟨b, 2, none⟩ = some (.int .i64 2))
    (exact HKS.out _ hcur)
    (first
      | (go_at_call 572; refine (show Calls _ _ _ _ _ from HF.out _ hcur).mono ?_; rintro e a1 ⟨rfl, hb1⟩; have hcur := hcur.trans (hb1.mono hcur.size)))
  go_wp2
  go_ret
  exact ⟨rfl, hcur⟩
set_option maxHeartbeats 1000000 in
set_option maxRecDepth 20000 in
theorem behind_nil (T b : Nat) (n s we z x : Int) (w : World) (hw : Lay w) (hb : w.heap[b]? = some (pkC T n s 2 we EP z x)) : Calls Tryz.prog 568 #[.pointer (some ⟨b, 0, none⟩), .string ⟨#[]⟩] w fun e w' => e = .returned (.tuple #[.string ⟨#[]⟩, .bool false]) ∧ Below w.heap.size w w' := by
  have HF : Hid _ := place_nil T b n s we z x w hw hb
  clear hw hb
  have HB0 : Hid (Below w.heap.size w w) := Below.refl _ _
  go_enter Tryz.func568, Tryz.ntmps568
  go_wp2_with fail
  refine (show Calls _ _ _ _ _ from HF.out).mono ?_
  rintro e w1 ⟨rfl, hb1⟩
  have HB1 : Hid (Below w.heap.size w w1) := HB0.out.trans (hb1.mono HB0.out.size)
  clear hb1
  go_wp2
  go_returns
  exact ⟨rfl, HB1.out⟩
set_option maxHeartbeats 1000000 in
set_option maxRecDepth 20000 in
theorem phfield_nil (T b : Nat) (n s we z x : Int) (w : World) (hw : Lay w) (hb : w.heap[b]? = some (pkC T n s 2 we EP z x)) : Calls Tryz.prog 579 #[.pointer (some ⟨b, 0, none⟩), .string ⟨#[]⟩] w fun e w' => e = .returned (.tuple #[.string ⟨#[]⟩, .bool false]) ∧ Below w.heap.size w w' := by
  have HF : Hid _ := behind_nil T b n s we z x w hw hb
  unfold pkC at hb
  obtain ⟨c0, c1, c2, c3, c4, c5, c6, cf⟩ := row7 hb
  clear hb
  clear hw
  generalize EP = E at *
  have HB0 : Hid (Below w.heap.size w w) := Below.refl _ _
  go_enter Tryz.func579, Tryz.ntmps579
  go_wp2_with fail
  refine (show Calls _ _ _ _ _ from HF.out).mono ?_
  rintro e w1 ⟨rfl, hb1⟩
  have HB1 : Hid (Below w.heap.size w w1) := HB0.out.trans (hb1.mono HB0.out.size)
  clear hb1
  go_wp2
  go_returns
  exact ⟨rfl, HB1.out⟩
set_option maxHeartbeats 1000000 in
set_option maxRecDepth 20000 in
theorem Field_ph (bv b : Nat) (n s we z x : Int) (w : World) (hv : w.heap[bv]? = some (vC 5 (phB b))) (hw : Lay w) (hb : w.heap[b]? = some (pkC 142 n s 2 we EP z x)) : Calls Tryz.prog 23 #[.pointer (some ⟨bv, 0, none⟩), .string ⟨#[]⟩] w fun e w' => e = .returned (.tuple #[.string ⟨#[]⟩, .bool false, .int .i64 0]) ∧ Below w.heap.size w w' := by
  have HAS : Hid _ := asHash_ph bv 5 b w hv
  have HF : Hid _ := phfield_nil _ b n s we z x w hw hb
  clear hw hb hv
  have HB0 : Hid (Below w.heap.size w w) := Below.refl _ _
  go_enter Tryz.func23, Tryz.ntmps23
  go_wp2_with fail
  refine (show Calls _ _ _ _ _ from HAS.out).mono ?_
  rintro e w1 ⟨rfl, he1⟩
  have he1 := he1.symm
  subst he1
  unfold phB
  go_wp2_with fail
  refine (show Calls _ _ _ _ _ from HF.out).mono ?_
  rintro e w2 ⟨rfl, hb2⟩
  have HB2 : Hid (Below w.heap.size w w2) := HB0.out.trans (hb2.mono HB0.out.size)
  clear hb2
  go_wp2
  go_returns
  exact ⟨rfl, HB2.out⟩
set_option maxHeartbeats 1000000 in
set_option maxRecDepth 20000 in
theorem insF_nil (q : Option Addr) (c : Nat) (f : Value) (w : World) : Calls Tryz.prog 280 #[.slice q 0 c, .int .i64 0, .int .i64 0, f] w fun e w' => e = .returned (.tuple #[]) ∧ Below w.heap.size w w' := by
  have HB0 : Hid (Below w.heap.size w w) := Below.refl _ _
  go_enter Tryz.func280, Tryz.ntmps280
  go_wp2
  go_rounds 1
  go_wp2
  go_returns
  exact ⟨rfl, by go_grown⟩
set_option maxHeartbeats 1000000 in
set_option maxRecDepth 20000 in
theorem pdqF_nil (q : Option Addr) (c : Nat) (f : Value) (w : World) : Calls Tryz.prog 230 #[.slice q 0 c, .int .i64 0, .int .i64 0, .int .i64 0, f] w fun e w' => e = .returned (.tuple #[]) ∧ Below w.heap.size w w' := by
  have HB0 : Hid (Below w.heap.size w w) := Below.refl _ _
  go_enter Tryz.func230, Tryz.ntmps230
  go_wp2
  go_rounds 1
  go_wp2
  go_rounds 1
  go_wp2
  go_returns
  exact ⟨rfl, by go_grown⟩
theorem bitsLen0 (w : World) : Calls Tryz.prog 229 #[.int .u64 0] w fun e w' => e = .returned (.int .i64 0) ∧ w' = w := Tryz.bits_Len 0 w (by omega) (by omega)
set_option maxHeartbeats 1000000 in
set_option maxRecDepth 20000 in
theorem SortF_nil (q : Option Addr) (c : Nat) (f : Value) (w : World) : Calls Tryz.prog 184 #[.slice q 0 c, f] w fun e w' => e = .returned (.tuple #[]) ∧ Below w.heap.size w w' := by
  have HBL : Hid (∀ W, Calls Tryz.prog 229 #[.int .u64 0] W fun e w' => e = .returned (.int .i64 0) ∧ w' = W) := fun W => bitsLen0 W
  have HB0 : Hid (Below w.heap.size w w) := Below.refl _ _
  go_enter Tryz.func184, Tryz.ntmps184
  go_wp2_with fail
  refine (show Calls _ _ _ _ _ from HBL.out _).mono ?_
  rintro e w1 ⟨rfl, he1⟩
  have he1 := he1.symm
  subst he1
  go_wp2_with fail
  refine (show Calls _ _ _ _ _ from pdqF_nil _ _ _ _).mono ?_
  rintro e w2 ⟨rfl, hb2⟩
  have HB2 : Hid (Below w.heap.size w w2) := HB0.out.trans (hb2.mono HB0.out.size)
  clear hb2
  go_wp2
  go_returns
  exact ⟨rfl, HB2.out⟩
set_option maxHeartbeats 1000000 in
set_option maxRecDepth 20000 in
theorem risingF_nil (b : Nat) (n s we z x : Int) (w : World) (hw : Lay w) (hb : w.heap[b]? = some (pkC 142 n s 2 we EP z x)) : Calls Tryz.prog 118 #[phB b] w fun e w' => ∃ g, e = .returned (.slice (some ⟨g, 0, none⟩) 0 0) ∧ Below w.heap.size w w' := by
  have HF : Hid _ := fields_nil b n s 2 we z x w hw hb
  clear hw hb
  unfold phB
  have HB0 : Hid (Below w.heap.size w w) := Below.refl _ _
  go_enter Tryz.func118, Tryz.ntmps118
  go_wp2_with fail
  refine (show Calls _ _ _ _ _ from HF.out).mono ?_
  rintro e w1 ⟨g, rfl, hb1⟩
  have HB1 : Hid (Below w.heap.size w w1) := HB0.out.trans (hb1.mono HB0.out.size)
  clear hb1
  go_wp2_with fail
  refine (show Calls _ _ _ _ _ from SortF_nil _ _ _ _).mono ?_
  rintro e w2 ⟨rfl, hb2⟩
  have HB2 : Hid (Below w.heap.size w w2) := HB1.out.trans (hb2.mono HB1.out.size)
  clear hb2
  go_wp2
  go_returns
  exact ⟨_, rfl, HB2.out⟩
set_option maxHeartbeats 1000000 in
set_option maxRecDepth 20000 in
theorem Fields_ph (bv b : Nat) (n s we z x : Int) (w : World) (hv : w.heap[bv]? = some (vC 5 (phB b))) (hw : Lay w) (hb : w.heap[b]? = some (pkC 142 n s 2 we EP z x)) : Calls Tryz.prog 59 #[.pointer (some ⟨bv, 0, none⟩)] w fun e w' => ∃ g, e = .returned (.tuple #[.slice (some ⟨g, 0, none⟩) 0 0, .int .i64 0]) ∧ Below w.heap.size w w' := by
  have HAS : Hid _ := asHash_ph bv 5 b w hv
  have HF : Hid _ := risingF_nil b n s we z x w hw hb
  clear hw hb hv
  unfold phB at *
  have HB0 : Hid (Below w.heap.size w w) := Below.refl _ _
  go_enter Tryz.func59, Tryz.ntmps59
  go_wp2_with fail
  refine (show Calls _ _ _ _ _ from HAS.out).mono ?_
  rintro e w1 ⟨rfl, he1⟩
  have he1 := he1.symm
  subst he1
  go_wp2_with fail
  refine (show Calls _ _ _ _ _ from HF.out).mono ?_
  rintro e w2 ⟨g, rfl, hb2⟩
  have HB2 : Hid (Below w.heap.size w w2) := HB0.out.trans (hb2.mono HB0.out.size)
  clear hb2
  go_wp2
  go_returns
  exact ⟨_, rfl, HB2.out⟩
set_option maxHeartbeats 1000000 in
set_option maxRecDepth 20000 in
theorem namesIn_nil (q : Option Addr) (c : Nat) (w : World) : Calls Tryz.prog 73 #[.slice q 0 c, .int .i64 2] w fun e w' => ∃ g, e = .returned (.slice (some ⟨g, 0, none⟩) 0 0) ∧ Below w.heap.size w w' := by
  obtain ⟨i0, hi, hz0, hz1, hz2⟩ := info_parts info9b
  have hmk := fun W => run_make (P := Tryz.prog) W 28 9 i0 (.string ⟨#[]⟩) Tryz.underlying28 hi hz0 .i64 .i64 0 0 (by omega) (by omega) (by rw [hz2]; omega) (by omega)
  simp only [Int.toNat_zero] at hmk
  have HB0 : Hid (Below w.heap.size w w) := Below.refl _ _
  go_enter Tryz.func73, Tryz.ntmps73
  go_wp2
  go_rounds 1
  go_wp2
  go_returns
  exact ⟨_, rfl, by go_grown⟩
set_option maxHeartbeats 1000000 in
set_option maxRecDepth 20000 in
theorem pnames_nil (T b : Nat) (n s we z x : Int) (w : World) (hw : Lay w) (hb : w.heap[b]? = some (pkC T n s 2 we EP z x)) : Calls Tryz.prog 202 #[.pointer (some ⟨b, 0, none⟩)] w fun e w' => ∃ g, e = .returned (.slice (some ⟨g, 0, none⟩) 0 0) ∧ Below w.heap.size w w' := by
  have HE : Hid (∀ W, Below w.heap.size w W → _) := fun W hW => entries_nil T b n s 2 we z x W (hw.on hW) (keep_row hb hW)
  have HKS : Hid (∀ W, Below w.heap.size w W → W.cell? ⟨b, 4, none⟩ = some (.string EP) ∧ W.cell? ⟨b, 2, none⟩ = some (.int .i64 2)) := fun W hW => by
    have hk := keep_row hb hW
    unfold pkC at hk
    obtain ⟨c0, c1, c2, c3, c4, c5, c6, cf⟩ := row7 hk
    exact ⟨c4, c2⟩
  clear hw hb
  generalize EP = E at *
  have hcur : Below w.heap.size w w.drew := (Below.refl _ w).drew
  go_enter Tryz.func202, Tryz.ntmps202
  go_wp2_with fail
  go_region_held3 (fun W : World => W.cell? ⟨b, 4, none⟩ = some (.string E) ∧ W.cell? ⟨b, 2, none⟩ = some (.int .i64 2))
    (exact HKS.out _ hcur)
    (first
      | (go_at_call 242; refine (show Calls _ _ _ _ _ from HE.out _ hcur).mono ?_; rintro e a1 ⟨g, rfl, hb1⟩; have hcur := hcur.trans (hb1.mono hcur.size))
      | (go_at_call 73; refine (show Calls _ _ _ _ _ from namesIn_nil _ _ _).mono ?_; rintro e a1 ⟨g2, rfl, hb1⟩; have hcur := hcur.trans (hb1.mono hcur.size)))
  go_wp2
  go_ret
  exact ⟨_, rfl, hcur⟩
set_option maxHeartbeats 1000000 in
set_option maxRecDepth 20000 in
theorem pscan_nil (T b : Nat) (n s we z x : Int) (i j : Int) (w : World) (hw : Lay w) (hb : w.heap[b]? = some (pkC T n s 2 we EP z x)) : Calls Tryz.prog 545 #[.pointer (some ⟨b, 0, none⟩), .int .i64 i, .int .i64 j] w fun e w' => ∃ g, e = .returned (.tuple #[.slice (some ⟨g, 0, none⟩) 0 0, .int .i64 0]) ∧ Below w.heap.size w w' := by
  have HE : Hid _ := pnames_nil T b n s we z x w hw hb
  clear hw hb
  have HB0 : Hid (Below w.heap.size w w) := Below.refl _ _
  go_enter Tryz.func545, Tryz.ntmps545
  go_wp2_with fail
  refine (show Calls _ _ _ _ _ from HE.out).mono ?_
  rintro e w1 ⟨g, rfl, hb1⟩
  have HB1 : Hid (Below w.heap.size w w1) := HB0.out.trans (hb1.mono HB0.out.size)
  clear hb1
  go_wp2
  go_returns
  exact ⟨_, rfl, HB1.out⟩
set_option maxHeartbeats 1000000 in
set_option maxRecDepth 20000 in
theorem Scan_ph (bv b : Nat) (n s we z x : Int) (i j : Int) (w : World) (hv : w.heap[bv]? = some (vC 5 (phB b))) (hw : Lay w) (hb : w.heap[b]? = some (pkC 142 n s 2 we EP z x)) : Calls Tryz.prog 130 #[.pointer (some ⟨bv, 0, none⟩), .int .i64 i, .int .i64 j] w fun e w' => ∃ g, e = .returned (.tuple #[.slice (some ⟨g, 0, none⟩) 0 0, .int .i64 0, .int .i64 0]) ∧ Below w.heap.size w w' := by
  have HAS : Hid _ := asGroup_ph bv 5 b w hv
  have HF : Hid _ := pscan_nil _ b n s we z x i j w hw hb
  unfold pkC at hb
  obtain ⟨c0, c1, c2, c3, c4, c5, c6, cf⟩ := row7 hb
  clear hw hb hv
  generalize EP = E at *
  have HB0 : Hid (Below w.heap.size w w) := Below.refl _ _
  go_enter Tryz.func130, Tryz.ntmps130
  go_wp2_with fail
  refine (show Calls _ _ _ _ _ from HAS.out).mono ?_
  rintro e w1 ⟨rfl, he1⟩
  have he1 := he1.symm
  subst he1
  unfold phB
  go_wp2_with fail
  refine (show Calls _ _ _ _ _ from HF.out).mono ?_
  rintro e w2 ⟨g, rfl, hb2⟩
  have HB2 : Hid (Below w.heap.size w w2) := HB0.out.trans (hb2.mono HB0.out.size)
  clear hb2
  go_wp2
  go_returns
  exact ⟨_, rfl, HB2.out⟩
set_option maxHeartbeats 1000000 in
set_option maxRecDepth 20000 in
theorem Scan_pz (bv b : Nat) (n s we z x : Int) (i j : Int) (w : World) (hv : w.heap[bv]? = some (vC 4 (pzB b))) (hw : Lay w) (hb : w.heap[b]? = some (pkC 141 n s 2 we EP z x)) : Calls Tryz.prog 130 #[.pointer (some ⟨bv, 0, none⟩), .int .i64 i, .int .i64 j] w fun e w' => ∃ g, e = .returned (.tuple #[.slice (some ⟨g, 0, none⟩) 0 0, .int .i64 0, .int .i64 0]) ∧ Below w.heap.size w w' := by
  have HAS : Hid _ := asGroup_pz bv 4 b w hv
  have HF : Hid _ := pscan_nil _ b n s we z x i j w hw hb
  unfold pkC at hb
  obtain ⟨c0, c1, c2, c3, c4, c5, c6, cf⟩ := row7 hb
  clear hw hb hv
  generalize EP = E at *
  have HB0 : Hid (Below w.heap.size w w) := Below.refl _ _
  go_enter Tryz.func130, Tryz.ntmps130
  go_wp2_with fail
  refine (show Calls _ _ _ _ _ from HAS.out).mono ?_
  rintro e w1 ⟨rfl, he1⟩
  have he1 := he1.symm
  subst he1
  unfold pzB
  go_wp2_with fail
  refine (show Calls _ _ _ _ _ from HF.out).mono ?_
  rintro e w2 ⟨g, rfl, hb2⟩
  have HB2 : Hid (Below w.heap.size w w2) := HB0.out.trans (hb2.mono HB0.out.size)
  clear hb2
  go_wp2
  go_returns
  exact ⟨_, rfl, HB2.out⟩
set_option maxHeartbeats 1000000 in
set_option maxRecDepth 20000 in
theorem praw (T b : Nat) (n s wd we z x : Int) (p : ByteArray) (hp : p.size ≤ 1000) (w : World) (hb : w.heap[b]? = some (pkC T n s wd we p z x)) : Calls Tryz.prog 544 #[.pointer (some ⟨b, 0, none⟩)] w fun e w' => ∃ g, e = .returned (.slice (some ⟨g, 0, none⟩) 1 1) ∧ w'.cell? ⟨g, 0, none⟩ = some (.string p) ∧ Below w.heap.size w w' := by
  have HC : Hid _ := S8.clone_any p (by omega) w
  unfold pkC at hb
  obtain ⟨c0, c1, c2, c3, c4, c5, c6, cf⟩ := row7 hb
  clear hb
  go_enter Tryz.func544, Tryz.ntmps544
  go_wp2_with fail
  refine (show Calls _ _ _ _ _ from HC.out).mono ?_
  rintro e w2 ⟨rfl, hb2⟩
  have HB2 : Hid _ := hb2
  clear hb2 c0 c1 c2 c3 c4 c5 c6 cf
  go_wp2
  go_returns
  exact ⟨_, rfl, cell_of_row _ _ _ _ _ _ (one_alloc _ _), HB2.out.alloc HB2.out.size _⟩
set_option maxHeartbeats 1000000 in
set_option maxRecDepth 20000 in
theorem Raw_ph (bv b : Nat) (k n s wd we z x : Int) (p : ByteArray) (hp : p.size ≤ 1000) (w : World) (h : w.heap[bv]? = some (vC k (phB b))) (hb : w.heap[b]? = some (pkC 142 n s wd we p z x)) : Calls Tryz.prog 47 #[.pointer (some ⟨bv, 0, none⟩)] w fun e w' => ∃ g, e = .returned (.slice (some ⟨g, 0, none⟩) 1 1) ∧ w'.cell? ⟨g, 0, none⟩ = some (.string p) ∧ Below w.heap.size w w' := by
  have HE : Hid _ := praw _ b n s wd we z x p hp w hb
  unfold vC phB at *
  obtain ⟨d0, d1, df⟩ := prow2 h
  unfold pkC at hb
  obtain ⟨c0, c1, c2, c3, c4, c5, c6, cf⟩ := row7 hb
  clear h hb
  go_enter Tryz.func47, Tryz.ntmps47
  go_wp2_with fail
  refine (show Calls _ _ _ _ _ from HE.out).mono ?_
  rintro e w2 ⟨g, rfl, hc, hb2⟩
  have HB2 : Hid (w2.cell? ⟨g, 0, none⟩ = some (.string p) ∧ Below w.heap.size w w2) := ⟨hc, hb2⟩
  clear hb2 hc
  go_wp2
  go_ret
  exact ⟨g, rfl, HB2.out⟩
set_option maxHeartbeats 1000000 in
set_option maxRecDepth 20000 in
theorem Enc_ph (bv b : Nat) (n s wd we : Int) (p : ByteArray) (w : World) (h : w.heap[bv]? = some (vC 5 (phB b))) (hb : w.heap[b]? = some (pkC 142 n s wd we p 0 0)) : Calls Tryz.prog 24 #[.pointer (some ⟨bv, 0, none⟩)] w fun e w' => e = .returned (.string lpE) ∧ Below w.heap.size w w' := by
  unfold vC phB at *
  unfold pkC at hb
  obtain ⟨d0, d1, df⟩ := prow2 h
  obtain ⟨c0, c1, c2, c3, c4, c5, c6, cf⟩ := row7 hb
  clear h hb
  go_enter Tryz.func24, Tryz.ntmps24
  go_wp2
  go_returns
  exact ⟨rfl, by go_grown⟩
set_option maxHeartbeats 1000000 in
set_option maxRecDepth 20000 in
theorem Len_ph (bv b : Nat) (n s wd we : Int) (p : ByteArray) (w : World) (h : w.heap[bv]? = some (vC 5 (phB b))) (hb : w.heap[b]? = some (pkC 142 n s wd we p 0 0)) : Calls Tryz.prog 25 #[.pointer (some ⟨bv, 0, none⟩)] w fun e w' => e = .returned (.int .i64 0) ∧ Below w.heap.size w w' := by
  unfold vC phB at *
  unfold pkC at hb
  obtain ⟨d0, d1, df⟩ := prow2 h
  obtain ⟨c0, c1, c2, c3, c4, c5, c6, cf⟩ := row7 hb
  clear h hb
  go_enter Tryz.func25, Tryz.ntmps25
  go_wp2
  go_returns
  exact ⟨rfl, by go_grown⟩
set_option maxHeartbeats 1000000 in
set_option maxRecDepth 20000 in
theorem Raw_pz (bv b : Nat) (k n s wd we z x : Int) (p : ByteArray) (hp : p.size ≤ 1000) (w : World) (h : w.heap[bv]? = some (vC k (pzB b))) (hb : w.heap[b]? = some (pkC 141 n s wd we p z x)) : Calls Tryz.prog 47 #[.pointer (some ⟨bv, 0, none⟩)] w fun e w' => ∃ g, e = .returned (.slice (some ⟨g, 0, none⟩) 1 1) ∧ w'.cell? ⟨g, 0, none⟩ = some (.string p) ∧ Below w.heap.size w w' := by
  have HE : Hid _ := praw _ b n s wd we z x p hp w hb
  unfold vC pzB at *
  obtain ⟨d0, d1, df⟩ := prow2 h
  unfold pkC at hb
  obtain ⟨c0, c1, c2, c3, c4, c5, c6, cf⟩ := row7 hb
  clear h hb
  go_enter Tryz.func47, Tryz.ntmps47
  go_wp2_with fail
  refine (show Calls _ _ _ _ _ from HE.out).mono ?_
  rintro e w2 ⟨g, rfl, hc, hb2⟩
  have HB2 : Hid (w2.cell? ⟨g, 0, none⟩ = some (.string p) ∧ Below w.heap.size w w2) := ⟨hc, hb2⟩
  clear hb2 hc
  go_wp2
  go_ret
  exact ⟨g, rfl, HB2.out⟩
set_option maxHeartbeats 1000000 in
set_option maxRecDepth 20000 in
theorem Enc_pz (bv b : Nat) (n s wd we : Int) (p : ByteArray) (w : World) (h : w.heap[bv]? = some (vC 4 (pzB b))) (hb : w.heap[b]? = some (pkC 141 n s wd we p 0 0)) : Calls Tryz.prog 24 #[.pointer (some ⟨bv, 0, none⟩)] w fun e w' => e = .returned (.string lpE) ∧ Below w.heap.size w w' := by
  unfold vC pzB at *
  unfold pkC at hb
  obtain ⟨d0, d1, df⟩ := prow2 h
  obtain ⟨c0, c1, c2, c3, c4, c5, c6, cf⟩ := row7 hb
  clear h hb
  go_enter Tryz.func24, Tryz.ntmps24
  go_wp2
  go_returns
  exact ⟨rfl, by go_grown⟩
set_option maxHeartbeats 1000000 in
set_option maxRecDepth 20000 in
theorem Len_pz (bv b : Nat) (n s wd we : Int) (p : ByteArray) (w : World) (h : w.heap[bv]? = some (vC 4 (pzB b))) (hb : w.heap[b]? = some (pkC 141 n s wd we p 0 0)) : Calls Tryz.prog 25 #[.pointer (some ⟨bv, 0, none⟩)] w fun e w' => e = .returned (.int .i64 0) ∧ Below w.heap.size w w' := by
  unfold vC pzB at *
  unfold pkC at hb
  obtain ⟨d0, d1, df⟩ := prow2 h
  obtain ⟨c0, c1, c2, c3, c4, c5, c6, cf⟩ := row7 hb
  clear h hb
  go_enter Tryz.func25, Tryz.ntmps25
  go_wp2
  go_returns
  exact ⟨rfl, by go_grown⟩
set_option maxRecDepth 20000 in
theorem pbytes_nil (T b : Nat) (n s wd we : Int) (p : ByteArray) (w : World) (hb : w.heap[b]? = some (pkC T n s wd we p 0 0)) : Calls Tryz.prog 536 #[.pointer (some ⟨b, 0, none⟩)] w fun e w' => e = .returned (.int .i64 0) ∧ Below w.heap.size w w' := by
  unfold pkC at hb
  obtain ⟨c0, c1, c2, c3, c4, c5, c6, cf⟩ := row7 hb
  clear hb
  go_enter Tryz.func536, Tryz.ntmps536
  go_wp2
  go_returns
  exact ⟨rfl, Below.refl _ _⟩
set_option maxRecDepth 20000 in
theorem pcount_nil (T b : Nat) (n s wd we : Int) (p : ByteArray) (w : World) (hb : w.heap[b]? = some (pkC T n s wd we p 0 0)) : Calls Tryz.prog 538 #[.pointer (some ⟨b, 0, none⟩)] w fun e w' => e = .returned (.int .i64 0) ∧ Below w.heap.size w w' := by
  unfold pkC at hb
  obtain ⟨c0, c1, c2, c3, c4, c5, c6, cf⟩ := row7 hb
  clear hb
  go_enter Tryz.func538, Tryz.ntmps538
  go_wp2
  go_returns
  exact ⟨rfl, Below.refl _ _⟩
set_option maxHeartbeats 1000000 in
set_option maxRecDepth 20000 in
theorem Size_ph (bv b : Nat) (n s wd we : Int) (p : ByteArray) (w : World) (h : w.heap[bv]? = some (vC 5 (phB b))) (hb : w.heap[b]? = some (pkC 142 n s wd we p 0 0)) : Calls Tryz.prog 45 #[.pointer (some ⟨bv, 0, none⟩)] w fun e w' => e = .returned (.int .i64 48) ∧ Below w.heap.size w w' := by
  have HBY : Hid (∀ W, Below w.heap.size w W → Calls Tryz.prog 536 #[.pointer (some ⟨b, 0, none⟩)] W fun e w' => e = .returned (.int .i64 0) ∧ Below W.heap.size W w') := fun W hW => pbytes_nil _ b n s wd we p W (keep_row hb hW)
  have HCO : Hid (∀ W, Below w.heap.size w W → Calls Tryz.prog 538 #[.pointer (some ⟨b, 0, none⟩)] W fun e w' => e = .returned (.int .i64 0) ∧ Below W.heap.size W w') := fun W hW => pcount_nil _ b n s wd we p W (keep_row hb hW)
  have HEA : Hid _ := each_any
  have HKS : Hid (∀ W, Below w.heap.size w W → W.cell? ⟨bv, 0, none⟩ = some (.int .i64 5) ∧ W.cell? ⟨bv, 1, none⟩ = some (phB b)) := fun W hW => by
    have hk := keep_row h hW
    unfold vC at hk
    obtain ⟨c0, c1, cf⟩ := prow2 hk
    exact ⟨c0, c1⟩
  clear h hb
  have hcur : Below w.heap.size w w.drew := (Below.refl _ w).drew
  unfold phB at *
  go_enter Tryz.func45, Tryz.ntmps45
  go_wp2_with fail
  go_region_held3 (fun W : World => W.cell? ⟨bv, 0, none⟩ = some (.int .i64 5) ∧ W.cell? ⟨bv, 1, none⟩ = some (.iface 71 (.pointer (some ⟨b, 0, none⟩))))
    (exact HKS.out _ hcur)
    (first
      | (go_at_call 536; refine (show Calls _ _ _ _ _ from HBY.out _ hcur).mono ?_; rintro e a1 ⟨rfl, hb1⟩; have hcur := hcur.trans (hb1.mono hcur.size))
      | (go_at_call 538; refine (show Calls _ _ _ _ _ from HCO.out _ hcur).mono ?_; rintro e a1 ⟨rfl, hb1⟩; have hcur := hcur.trans (hb1.mono hcur.size))
      | (go_at_call 107; refine (show Calls _ _ _ _ _ from HEA.out _ (by omega) _).mono ?_; rintro e a1 ⟨rfl, hb1⟩; have hcur := hcur.trans (hb1.mono hcur.size)))
  go_wp2
  go_ret
  exact ⟨by first | kernel_rfl | (simp; kernel_rfl), hcur⟩
set_option maxHeartbeats 1000000 in
set_option maxRecDepth 20000 in
theorem Size_pz (bv b : Nat) (n s wd we : Int) (p : ByteArray) (w : World) (h : w.heap[bv]? = some (vC 4 (pzB b))) (hb : w.heap[b]? = some (pkC 141 n s wd we p 0 0)) : Calls Tryz.prog 45 #[.pointer (some ⟨bv, 0, none⟩)] w fun e w' => e = .returned (.int .i64 48) ∧ Below w.heap.size w w' := by
  have HBY : Hid (∀ W, Below w.heap.size w W → Calls Tryz.prog 536 #[.pointer (some ⟨b, 0, none⟩)] W fun e w' => e = .returned (.int .i64 0) ∧ Below W.heap.size W w') := fun W hW => pbytes_nil _ b n s wd we p W (keep_row hb hW)
  have HCO : Hid (∀ W, Below w.heap.size w W → Calls Tryz.prog 538 #[.pointer (some ⟨b, 0, none⟩)] W fun e w' => e = .returned (.int .i64 0) ∧ Below W.heap.size W w') := fun W hW => pcount_nil _ b n s wd we p W (keep_row hb hW)
  have HEA : Hid _ := each_any
  have HKS : Hid (∀ W, Below w.heap.size w W → W.cell? ⟨bv, 0, none⟩ = some (.int .i64 4) ∧ W.cell? ⟨bv, 1, none⟩ = some (pzB b)) := fun W hW => by
    have hk := keep_row h hW
    unfold vC at hk
    obtain ⟨c0, c1, cf⟩ := prow2 hk
    exact ⟨c0, c1⟩
  clear h hb
  have hcur : Below w.heap.size w w.drew := (Below.refl _ w).drew
  unfold pzB at *
  go_enter Tryz.func45, Tryz.ntmps45
  go_wp2_with fail
  go_region_held3 (fun W : World => W.cell? ⟨bv, 0, none⟩ = some (.int .i64 4) ∧ W.cell? ⟨bv, 1, none⟩ = some (.iface 69 (.pointer (some ⟨b, 0, none⟩))))
    (exact HKS.out _ hcur)
    (first
      | (go_at_call 536; refine (show Calls _ _ _ _ _ from HBY.out _ hcur).mono ?_; rintro e a1 ⟨rfl, hb1⟩; have hcur := hcur.trans (hb1.mono hcur.size))
      | (go_at_call 538; refine (show Calls _ _ _ _ _ from HCO.out _ hcur).mono ?_; rintro e a1 ⟨rfl, hb1⟩; have hcur := hcur.trans (hb1.mono hcur.size))
      | (go_at_call 107; refine (show Calls _ _ _ _ _ from HEA.out _ (by omega) _).mono ?_; rintro e a1 ⟨rfl, hb1⟩; have hcur := hcur.trans (hb1.mono hcur.size)))
  go_wp2
  go_ret
  exact ⟨by first | kernel_rfl | (simp; kernel_rfl), hcur⟩
end Go.Proofs.YtfkcpilkhdbpoaaGreatDoor.V
