import Derived.Test.YtbmfbpcjokbjkaaGreatDoorMkB
import Derived.Deep.RegionLaw
import Derived.Deep.RegionWith
namespace Go.Proofs.YtbmfbpcjokbjkaaGreatDoor
open Go.RowKit Vi
set_option linter.unusedVariables false
set_option linter.unusedSimpArgs false
/-- the cells of bulk replies. -/
def rpC (xs : List ByteArray) : List Value := xs.flatMap fun x => [.int .i64 4, .string x, .int .i64 0, .slice none 0 0]
theorem rpC_len (xs : List ByteArray) : (rpC xs).length = xs.length * 4 := by
  induction xs with
  | nil => rfl
  | cons x xs ih =>
    have e : rpC (x :: xs) = [.int .i64 4, .string x, .int .i64 0, .slice none 0 0] ++ rpC xs := rfl
    rw [e, List.length_append, ih, List.length_cons]; simp; omega
theorem rpC_snoc (xs : List ByteArray) (i : Nat) (h : i < xs.length) : rpC (xs.take (i + 1)) = rpC (xs.take i) ++ [.int .i64 4, .string (xs[i]'h), .int .i64 0, .slice none 0 0] := by
  rw [List.take_succ_eq_append_getElem h]
  unfold rpC
  rw [List.flatMap_append]
  simp
theorem rpC_get (xs : List ByteArray) (i : Nat) (h : i < xs.length) : (rpC xs)[i * 4]? = some (.int .i64 4) ∧ (rpC xs)[i * 4 + 1]? = some (.string (xs[i]'h)) ∧ (rpC xs)[i * 4 + 2]? = some (.int .i64 0) ∧ (rpC xs)[i * 4 + 3]? = some (.slice none 0 0) := by
  induction xs generalizing i with
  | nil => simp at h
  | cons x xs ih =>
    have e : rpC (x :: xs) = .int .i64 4 :: .string x :: .int .i64 0 :: .slice none 0 0 :: rpC xs := rfl
    rw [e]
    cases i with
    | zero => exact ⟨rfl, rfl, rfl, rfl⟩
    | succ i =>
      obtain ⟨a, b, c, d⟩ := ih i (by simpa using h)
      rw [show (i + 1) * 4 = i * 4 + 1 + 1 + 1 + 1 by omega, show i * 4 + 1 + 1 + 1 + 1 + 1 = (i * 4 + 1) + 1 + 1 + 1 + 1 by omega, show i * 4 + 1 + 1 + 1 + 1 + 2 = (i * 4 + 2) + 1 + 1 + 1 + 1 by omega, show i * 4 + 1 + 1 + 1 + 1 + 3 = (i * 4 + 3) + 1 + 1 + 1 + 1 by omega]
      exact ⟨a, b, c, d⟩
/-- bulk replies as they can be read. -/
def BV (W : World) (v : Value) (xs : List ByteArray) : Prop := (xs = [] ∧ ∃ p c, v = .slice p 0 c) ∨ ∃ g o c, v = .slice (some ⟨g, o, none⟩) xs.length c ∧ ∀ i (h : i < xs.length), W.cell? ⟨g, o + i * 4, none⟩ = some (.int .i64 4) ∧ W.cell? ⟨g, o + i * 4 + 1, none⟩ = some (.string (xs[i]'h)) ∧ W.cell? ⟨g, o + i * 4 + 2, none⟩ = some (.int .i64 0) ∧ W.cell? ⟨g, o + i * 4 + 3, none⟩ = some (.slice none 0 0)
theorem BV.on {W W' : World} {v : Value} {xs : List ByteArray} (h : BV W v xs) (hb : Below W.heap.size W W') : BV W' v xs := by
  rcases h with h | ⟨g, o, c, h1, h2⟩
  · exact Or.inl h
  · refine Or.inr ⟨g, o, c, h1, fun i hi => ?_⟩
    obtain ⟨a, b, c, d⟩ := h2 i hi
    exact ⟨cell_on a hb, cell_on b hb, cell_on c hb, cell_on d hb⟩
theorem BV.form {W : World} {v : Value} {xs : List ByteArray} (h : BV W v xs) : ∃ p c, v = .slice p xs.length c := by
  rcases h with ⟨rfl, p, c, h⟩ | ⟨g, o, c, h1, _⟩
  · exact ⟨p, c, h⟩
  · exact ⟨_, _, h1⟩
theorem BV.cell {W : World} {P : Option Addr} {n c : Nat} {xs : List ByteArray} (h : BV W (.slice P n c) xs) (i : Nat) (hi : i < xs.length) : ∃ g o, P = some ⟨g, o, none⟩ ∧ W.cell? ⟨g, o + i * 4, none⟩ = some (.int .i64 4) ∧ W.cell? ⟨g, o + i * 4 + 1, none⟩ = some (.string (xs[i]'hi)) ∧ W.cell? ⟨g, o + i * 4 + 2, none⟩ = some (.int .i64 0) ∧ W.cell? ⟨g, o + i * 4 + 3, none⟩ = some (.slice none 0 0) := by
  rcases h with ⟨he, _⟩ | ⟨g, o, c', h1, h2⟩
  · rw [he] at hi; simp at hi
  · injection h1 with h1 _ _
    exact ⟨g, o, h1, h2 i hi⟩
theorem own_bv {W : World} {b n : Nat} {v : Value} {xs : List ByteArray} (h : W.ownsRow b 24 4 v n (rpC xs)) (hn : xs.length = n) : BV W v xs := by
  rcases h.2 with ⟨rfl, h0⟩ | ⟨g, cap, cur, rfl, _⟩
  · left
    have : xs = [] := List.eq_nil_of_length_eq_zero (by omega)
    subst this
    exact ⟨rfl, none, 0, rfl⟩
  · right
    refine ⟨g, 0, cap, by rw [hn], fun i hi => ?_⟩
    obtain ⟨e0, e1, e2, e3⟩ := rpC_get xs i hi
    have c0 := h.cells (g := g) rfl _ _ e0
    have c1 := h.cells (g := g) rfl _ _ e1
    have c2 := h.cells (g := g) rfl _ _ e2
    have c3 := h.cells (g := g) rfl _ _ e3
    rw [Lib.add_plain] at c0 c1 c2 c3
    exact ⟨c0, by rw [Nat.add_assoc]; exact c1, by rw [Nat.add_assoc]; exact c2, by rw [Nat.add_assoc]; exact c3⟩
theorem infoRp : (Tryz.prog.info? 24).map (fun i => (i.zero, i.size, i.bytes)) = some (some (.agg #[.int .i64 0, .string ⟨#[]⟩, .int .i64 0, .slice none 0 0]), 4, 56) := by kernel_rfl
theorem cell_four_new (w : World) (x y z u : Value) (t : TypeId) : ∀ j q, [x, y, z, u][j]? = some q → (w.alloc (.cells #[x, y, z, u] t)).cell? ((⟨w.heap.size, 0, none⟩ : Addr).add j) = some q := by
  intro j q hj
  match j, hj with
  | 0, hj => simp at hj; subst hj; simp [Addr.add]
  | 1, hj => simp at hj; subst hj; simp [Addr.add]
  | 2, hj => simp at hj; subst hj; simp [Addr.add]
  | 3, hj => simp at hj; subst hj; simp [Addr.add]
theorem one4 (x : ByteArray) : ∀ u ∈ ([.int .i64 4, .string x, .int .i64 0, .slice none 0 0] : List Value), u.oneCell' = true := by
  intro u hu
  rcases List.mem_cons.1 hu with rfl | hu
  · rfl
  rcases List.mem_cons.1 hu with rfl | hu
  · rfl
  rcases List.mem_cons.1 hu with rfl | hu
  · rfl
  rcases List.mem_cons.1 hu with rfl | hu
  · rfl
  cases hu
theorem own_up4 {W : World} {B b T k n : Nat} {v : Value} {xs : List Value} (h : W.ownsRow b T k v n xs) (hB : B ≤ b) : W.ownsRow B T k v n xs := by
  refine ⟨h.1, ?_⟩
  rcases h.2 with q | ⟨g, cap, cur, rfl, a1, hr, a2⟩
  · exact Or.inl q
  · exact Or.inr ⟨g, cap, cur, rfl, Nat.le_trans hB a1, hr, a2⟩
theorem copied_nil (w : World) : Calls Tryz.prog 36 #[.slice none 0 0] w fun e w' => e = .returned (.slice none 0 0) ∧ w' = w := by
  go_enter Tryz.func36, Tryz.ntmps36
  go_wp2
  go_loopw [3, 8] (fun co ci wr => co = .slice none 0 0 ∧ ci = .int .i64 0 ∧ wr = w) (fun _ _ _ => 0)
  case atStart => exact ⟨rfl, rfl, rfl⟩
  case round =>
    obtain ⟨rfl, rfl, hw⟩ := hrel
    subst hw
    go_wp2
    go_returns
    exact ⟨rfl, rfl⟩
set_option maxRecDepth 20000 in
set_option maxHeartbeats 4000000 in
theorem copied_any (v : Value) (xs : List ByteArray) (hx : xs.length ≤ 1073741824) (hsz : ∀ x ∈ xs, x.size ≤ 1099511627776) (w : World) (hV : BV w v xs) :
    Calls Tryz.prog 36 #[v] w fun e w' => (∃ P c, e = .returned (.slice P xs.length c) ∧ w'.ownsRow w.heap.size 24 4 (.slice P xs.length c) xs.length (rpC xs)) ∧ Below w.heap.size w w' := by
  obtain ⟨P0, c0, rfl⟩ := hV.form
  have HV : Hid (BV w (.slice P0 xs.length c0) xs) := hV
  have HSZ : Hid _ := hsz
  obtain ⟨n, hn⟩ : ∃ n, xs.length = n := ⟨_, rfl⟩
  have HN : Hid (xs.length = n) := hn
  rw [hn] at hx HV ⊢
  obtain ⟨B, hB⟩ : ∃ B, w.heap.size = B := ⟨_, rfl⟩
  have HB : Hid (w.heap.size = B) := hB
  rw [hB]
  obtain ⟨i0, hi0, hy0, hy1, hy2⟩ := info_parts infoRp
  clear hV hsz hn hB
  go_enter Tryz.func36, Tryz.ntmps36
  go_wp2
  go_loopw [3, 8] (fun co ci wr => ∃ (i : Nat) (P : Option Addr) (c : Nat), (i ≤ n ∧ Below B w wr ∧ wr.ownsRow B 24 4 (.slice P i c) i (rpC (xs.take i))) ∧ co = .slice P i c ∧ ci = .int .i64 (i : Int)) (fun _ ci _ => n - (intOf ci).toNat)
  case atStart => exact ⟨0, none, 0, ⟨Nat.zero_le _, Below.refl _ _, ⟨rfl, Or.inl ⟨rfl, rfl⟩⟩⟩, rfl, rfl⟩
  case round =>
    obtain ⟨i, P, c, ⟨hi, hbw, how⟩, rfl, rfl⟩ := hrel
    have HBW : Hid (Below B w wr) := hbw
    have HOW : Hid (wr.ownsRow B 24 4 (.slice P i c) i (rpC (xs.take i))) := how
    have HWS : Hid (B ≤ wr.heap.size) := by have := hbw.size; rw [HB.out] at this; exact this
    clear hbw how
    by_cases hlt : i < n
    · have hix : i < xs.length := by rw [HN.out]; exact hlt
      obtain ⟨g, o, hP0, d0, d1, d2, d3⟩ := (HV.out.on (HB.out ▸ HBW.out)).cell i hix
      have HSN : Hid _ := rpC_snoc xs i hix
      have HXS : Hid _ := HSZ.out _ (List.getElem_mem hix)
      obtain ⟨X, hX⟩ : ∃ X, xs[i] = X := ⟨_, rfl⟩
      rw [hX] at d1 HSN HXS
      subst hP0
      have hz0 : (0 : Int) ≤ (i : Int) := by omega
      have hz1 : (i : Int) < (n : Int) := by omega
      obtain ⟨W1, hW1⟩ : ∃ W, W = wr.alloc (.cells #[.int .i64 4, .string X, .int .i64 0, .slice none 0 0] 24) := ⟨_, rfl⟩
      have hr1 : W1.heap[wr.heap.size]? = some (.cells #[.int .i64 4, .string X, .int .i64 0, .slice none 0 0] 24) := by rw [hW1]; exact one_alloc _ _
      have hb1 : Below wr.heap.size wr W1 := by rw [hW1]; exact (Below.refl _ _).alloc (Nat.le_refl _) _
      have HR1 : Hid _ := hr1
      have HB1 : Hid (Below wr.heap.size wr W1) := hb1
      obtain ⟨q, hq⟩ : ∃ q, wr.heap.size = q := ⟨_, rfl⟩
      have HQ : Hid (wr.heap.size = q) := hq
      rw [hq] at HR1
      obtain ⟨z0, z1, z2, z3, zf⟩ := prow4 HR1.out
      have HCL : Hid _ := sClone_any X HXS.out W1
      clear hr1 hb1 hX hix
      go_upto_region 5 with fail
      rw [← hW1]
      clear hW1 hq
      go_wp2_with fail
      refine (show Calls _ _ _ _ _ from HCL.out).mono ?_
      rintro e w2 ⟨rfl, hb2⟩
      have HR2 : Hid _ := keep_row HR1.out hb2
      have HB2 : Hid (Below wr.heap.size wr w2) := HB1.out.trans (hb2.mono HB1.out.size)
      clear z0 z1 z2 z3 zf hb2
      obtain ⟨z0, z1, z2, z3, zf⟩ := prow4 HR2.out
      obtain ⟨W3, hW3⟩ : ∃ W, W = w2.setCell ⟨q, 1, none⟩ (.string X) := ⟨_, rfl⟩
      have hr3 : W3.heap[q]? = some (.cells #[.int .i64 4, .string X, .int .i64 0, .slice none 0 0] 24) := by rw [hW3, heap_setCell_same _ _ _ _ _ _ HR2.out]; rfl
      have ho3 : Only w2 W3 q := by rw [hW3]; exact (Only.refl _ _).set _ _
      have HR3 : Hid _ := hr3
      have HO3 : Hid _ := ho3
      go_upto_region 6 with fail
      rw [← hW3]
      clear hW3 hr3 ho3 z0 z1 z2 z3 zf
      obtain ⟨z0, z1, z2, z3, zf⟩ := prow4 HR3.out
      go_wp2_with fail
      refine (copied_nil _).mono ?_
      rintro e w4 ⟨rfl, hw4⟩
      subst hw4
      obtain ⟨W5, hW5⟩ : ∃ W, W = w4.setCell ⟨q, 3, none⟩ (.slice none 0 0) := ⟨_, rfl⟩
      have hr5 : W5.heap[q]? = some (.cells #[.int .i64 4, .string X, .int .i64 0, .slice none 0 0] 24) := by rw [hW5, heap_setCell_same _ _ _ _ _ _ HR3.out]; rfl
      have ho5 : Only w4 W5 q := by rw [hW5]; exact (Only.refl _ _).set _ _
      have HB5 : Hid (Below wr.heap.size wr W5) := HB2.out.trans ((HO3.out.trans ho5).below (Nat.le_of_eq HQ.out))
      have HR5 : Hid _ := hr5
      go_upto_region 7 with fail
      rw [← hW5]
      clear hW5 hr5 ho5 z0 z1 z2 z3 zf
      obtain ⟨z0, z1, z2, z3, zf⟩ := prow4 HR5.out
      have HOW5 : Hid ((W5.alloc (.cells #[.int .i64 4, .string X, .int .i64 0, .slice none 0 0] 24)).ownsRow B 24 4 (.slice P i c) i (rpC (xs.take i))) := own_on (own_on HOW.out HB5.out) ((Below.refl _ _).alloc (Nat.le_refl _) _)
      have HW5 : Hid (B ≤ W5.heap.size) := Nat.le_trans HWS.out HB5.out.size
      go_wp2_with (at_builtin; go_must (refine wpList_append_own_at _ rfl _ _ 22 rfl B 24 i0 (.agg #[.int .i64 0, .string ⟨#[]⟩, .int .i64 0, .slice none 0 0]) 4 56 Tryz.underlying22 hi0 hy0 hy1 hy2 rfl (by decide) (.slice P i c) i (rpC (xs.take i)) rfl HOW5.out ⟨W5.heap.size, 0, none⟩ 1 1 [.int .i64 4, .string X, .int .i64 0, .slice none 0 0] rfl rfl ?a2 (one4 X) ?a4 ?a5 ?a6 ?_))
      case a2 => first | exact cell_four_new _ _ _ _ _ _ | (intro j u hj; exact cell_four_new _ _ _ _ _ _ j u hj)
      case a4 => unfold maxLen; omega
      case a5 => omega
      case a6 => exact Nat.le_trans HW5.out (by simp)
      intro v7 w7 ho7 hg7 _ _
      obtain ⟨P7, c7, hf7⟩ := own_form ho7
      subst hf7
      have HO7 : Hid (w7.ownsRow B 24 4 (.slice P7 (i + 1) c7) (i + 1) (rpC (xs.take (i + 1)))) := by show World.ownsRow _ _ _ _ _ _ _; rw [HSN.out]; exact ho7
      have HB7 : Hid (Below B w w7) := ((HBW.out.trans (HB5.out.mono HWS.out)).alloc HW5.out (.cells #[.int .i64 4, .string X, .int .i64 0, .slice none 0 0] 24)).grown hg7 (Nat.le_trans HW5.out (by simp)) (fun k hk => own_block HOW.out k hk)
      clear ho7 hg7 z0 z1 z2 z3 zf
      go_wp2
      go_roundw
      case rel => exact ⟨i + 1, P7, c7, ⟨hlt, HB7.out, HO7.out⟩, rfl, rfl⟩
      case measure => simp [intOf]; omega
    · have hin : i = n := by omega
      subst hin
      have etk : xs.take i = xs := List.take_of_length_le (by rw [HN.out]; exact Nat.le_refl _)
      rw [etk] at HOW
      clear etk
      go_wp2
      go_returns
      exact ⟨⟨P, c, rfl, HOW.out⟩, HBW.out⟩
end Go.Proofs.YtbmfbpcjokbjkaaGreatDoor
