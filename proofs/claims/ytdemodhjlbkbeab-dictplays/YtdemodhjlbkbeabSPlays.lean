import Derived.Test.YtdemodhjlbkbeabSC
import Derived.Test.YtdemodhjlbkbeabSB
import Derived.Test.YtdemodhjlbkbeabRU
import Derived.Test.YtdemodhjlbkbeabRM
import Derived.Deep.RegionHeld3
namespace Go.Proofs.Ytdemodhjlbkbeab
open Go.RowKit
set_option linter.unusedVariables false
theorem lessB_str (a b : List UInt8) : lessB (strB a) (strB b) = Op.bytesLess a b := by
  show Op.bytesLess (strB a).toList (strB b).toList = _
  rw [ByteArray.toList_eq, ByteArray.toList_eq]
  rfl
/-- the keys told are the document's. -/
theorem keys_same {D : DS} {R : RD} (hD : DInv D) (hr : Rel D R) {S : List ByteArray} (hp : S.Perm ((R.l1 ++ R.l2).map (·.1))) (hs : SortedB S) : S = (keysS D).map strB := by
  refine sorted_one ?_ hs ?_
  · refine hp.trans ?_
    have h1 : ((R.l1 ++ R.l2).map (·.1)).Perm (D.all.map (·.1)) := ((List.Perm.append hr.p1 hr.p2).map _).symm
    refine h1.trans ?_
    have h2 : ((keysS D).map strB).Perm ((keyB D.all).map strB) := (keysS_perm D).map _
    have h3 : (keyB D.all).map strB = D.all.map (·.1) := by
      unfold keyB
      rw [List.map_map]
      rfl
    rw [h3] at h2
    exact h2.symm
  · unfold SortedB
    rw [List.pairwise_map]
    refine (keysS_rise hD).imp (fun {a b} h => ?_)
    rw [lessB_str]
    have q : lessB (strB a) (strB b) = true := by rw [lessB_str]; exact h
    have := less_asym q
    rw [lessB_str] at this; exact this
theorem StrRow.on {W W' : World} {v : Value} {ss : List ByteArray} (h : StrRow W v ss) (hb : Below W.heap.size W W') : StrRow W' v ss := by
  obtain ⟨ad, cap, e, hc⟩ := h
  refine ⟨ad, cap, e, fun hne => ?_⟩
  obtain ⟨g, off, e2, h2⟩ := hc hne
  exact ⟨g, off, e2, fun j hj => cell_on (h2 j hj) hb⟩
set_option maxHeartbeats 2000000 in
set_option maxRecDepth 100000 in
theorem as_any (g : Nat) (F : List Nat) (D : DS) (Q : Nat → Prop) (v : Value) (R : RD) (hD : DInv D) (hr : Rel D R) (hcc : cnt D.T1 + cnt D.T2 ≤ 4398046511000) (w : World) (hdi : DI w g F D) (h : RV Q w v R) : Calls Try.prog 19 #[.pointer (some ⟨g, 0, none⟩), v] w fun e w' => e = .returned (.bool true) ∧ Below w.heap.size w w' := by
  obtain ⟨v1, v2, rfl, h1, h2⟩ := h
  obtain ⟨P1, c1, rfl⟩ := h1.form
  obtain ⟨P2, c2, rfl⟩ := h2.form
  have hok := hr.ok hD hcc
  have hn := hok.n
  have hc12 : cnt D.T1 + cnt D.T2 = R.l1.length + R.l2.length := by rw [hr.c1, hr.c2]
  obtain ⟨W0, hW0⟩ : ∃ W0, W0 = w.alloc (.cells #[.int .i64 R.seed, .int .i64 (R.s1 : Int), .slice P1 R.l1.length c1, .int .i64 (R.s2 : Int), .slice P2 R.l2.length c2, .int .i64 (R.ix : Int)] 29) := ⟨_, rfl⟩
  have hb0 : Below w.heap.size w W0 := by rw [hW0]; exact (Below.refl _ _).alloc (Nat.le_refl _) _
  have hrow : W0.heap[w.heap.size]? = some (.cells #[.int .i64 R.seed, .int .i64 (R.s1 : Int), .slice P1 R.l1.length c1, .int .i64 (R.s2 : Int), .slice P2 R.l2.length c2, .int .i64 (R.ix : Int)] 29) := by rw [hW0]; exact one_alloc _ _
  have HB0 : Hid _ := hb0
  have hSof : ∀ W : World, Below W0.heap.size W0 W → (fun w' : World => w'.cell? ⟨w.heap.size, 0, none⟩ = some (.int .i64 R.seed) ∧ w'.cell? ⟨w.heap.size, 1, none⟩ = some (.int .i64 (R.s1 : Int)) ∧ w'.cell? ⟨w.heap.size, 2, none⟩ = some (.slice P1 R.l1.length c1) ∧ w'.cell? ⟨w.heap.size, 3, none⟩ = some (.int .i64 (R.s2 : Int)) ∧ w'.cell? ⟨w.heap.size, 4, none⟩ = some (.slice P2 R.l2.length c2) ∧ w'.cell? ⟨w.heap.size, 5, none⟩ = some (.int .i64 (R.ix : Int))) W := fun W hW => by
    obtain ⟨x0, x1, x2, x3, x4, x5, _⟩ := row6 (keep_row hrow hW)
    exact ⟨x0, x1, x2, x3, x4, x5⟩
  have HSOF : Hid _ := hSof
  have hdW : ∀ W, Below W0.heap.size W0 W → DI W g F D := fun W hW => (hdi.on hb0).on hW
  have hrW : ∀ W, Below W0.heap.size W0 W → RV Q W (.agg #[.int .i64 R.seed, .int .i64 (R.s1 : Int), .slice P1 R.l1.length c1, .int .i64 (R.s2 : Int), .slice P2 R.l2.length c2, .int .i64 (R.ix : Int)]) R := fun W hW => ⟨_, _, rfl, (h1.on hb0).on hW, (h2.on hb0).on hW⟩
  have HTB : Hid (∀ W, Below W0.heap.size W0 W → Calls Try.prog 20 #[.pointer (some ⟨g, 0, none⟩)] W fun e w' => e = .returned (tabT D) ∧ Below W0.heap.size W0 w') := fun W hW => (Tables_all g F D W (hdW W hW)).mono (by rintro e w' ⟨rfl, k, rfl⟩; exact ⟨rfl, below_dn hW k⟩)
  have HLN : Hid (∀ W, Below W0.heap.size W0 W → Calls Try.prog 21 #[.pointer (some ⟨g, 0, none⟩)] W fun e w' => e = .returned (.int .i64 ((cnt D.T1 + cnt D.T2 : Nat) : Int)) ∧ Below W.heap.size W w' ∧ Below W0.heap.size W0 w') := fun W hW => (Len_all g F D hcc W (hdW W hW)).mono (by rintro e w' ⟨rfl, k, rfl⟩; exact ⟨rfl, below_dn (Below.refl _ _) k, below_dn hW k⟩)
  have HRT : Hid (∀ W, Below W0.heap.size W0 W → Calls Try.prog 43 #[.agg #[.int .i64 R.seed, .int .i64 (R.s1 : Int), .slice P1 R.l1.length c1, .int .i64 (R.s2 : Int), .slice P2 R.l2.length c2, .int .i64 (R.ix : Int)]] W fun e w' => e = .returned (tabT D) ∧ Below W0.heap.size W0 w') := fun W hW => (rTables_any R.seed R.s1 P1 R.l1.length c1 R.s2 P2 R.l2.length c2 R.ix W).mono (by
    rintro e w' ⟨rfl, hb⟩
    refine ⟨?_, hW.trans (hb.mono hW.size)⟩
    unfold tabT
    by_cases hm : D.T2 = []
    · rw [if_pos hm, if_neg (fun q => (hr.mv.1 q) hm), hr.s1]
    · rw [if_neg hm, if_pos (hr.mv.2 hm), hr.s1, hr.s2, hr.ix hm])
  have HRL : Hid (∀ W, Below W0.heap.size W0 W → Calls Try.prog 44 #[.agg #[.int .i64 R.seed, .int .i64 (R.s1 : Int), .slice P1 R.l1.length c1, .int .i64 (R.s2 : Int), .slice P2 R.l2.length c2, .int .i64 (R.ix : Int)]] W fun e w' => e = .returned (.int .i64 ((cnt D.T1 + cnt D.T2 : Nat) : Int)) ∧ Below W.heap.size W w' ∧ Below W0.heap.size W0 w') := fun W hW => (rLen_any R.seed R.s1 P1 R.l1.length c1 R.s2 P2 R.l2.length c2 R.ix (by omega) W).mono (by rintro e w' ⟨rfl, hb⟩; exact ⟨by rw [hc12], hb, hW.trans (hb.mono hW.size)⟩)
  have HKY : Hid (∀ W, Below W0.heap.size W0 W → Calls Try.prog 45 #[.pointer (some ⟨g, 0, none⟩)] W fun e w' => (∃ ad cap, e = .returned (.slice ad (keysS D).length cap) ∧ StrRow w' (.slice ad (keysS D).length cap) ((keysS D).map strB)) ∧ Below W.heap.size W w' ∧ Below W0.heap.size W0 w') := fun W hW => (Keys_any g F D hD hcc W (hdW W hW)).mono (by
    rintro e w' ⟨vk, rfl, _, ho, hb⟩
    obtain ⟨ad, cap, rfl⟩ := own_form ho
    exact ⟨⟨ad, cap, rfl, StrRow.of_own ho rfl⟩, hb, hW.trans (hb.mono hW.size)⟩)
  have HRK : Hid (∀ W, Below W0.heap.size W0 W → Calls Try.prog 46 #[.agg #[.int .i64 R.seed, .int .i64 (R.s1 : Int), .slice P1 R.l1.length c1, .int .i64 (R.s2 : Int), .slice P2 R.l2.length c2, .int .i64 (R.ix : Int)]] W fun e w' => (∃ ad cap, e = .returned (.slice ad (keysS D).length cap) ∧ StrRow w' (.slice ad (keysS D).length cap) ((keysS D).map strB)) ∧ Below W.heap.size W w' ∧ Below W0.heap.size W0 w') := fun W hW => (Keys_ref Q _ R hok W (hrW W hW)).mono (by
    rintro e w' ⟨vk, rfl, S, ho, hp, hs, hb⟩
    have hS := keys_same hD hr hp hs
    have hlen : (R.l1 ++ R.l2).length = (keysS D).length := by rw [keysS_len, hc12, List.length_append]
    rw [hlen, hS] at ho
    obtain ⟨ad, cap, rfl⟩ := own_form ho
    refine ⟨⟨ad, cap, rfl, StrRow.of_vals ho (by rw [List.length_map])⟩, hb, hW.trans (hb.mono hW.size)⟩)
  have hkl : ((keysS D).map strB).length ≤ 9223372036854775807 := by rw [List.length_map, keysS_len]; omega
  have HSM : Hid (∀ (v1 v2 : Value) (W : World), StrRow W v1 ((keysS D).map strB) → StrRow W v2 ((keysS D).map strB) → Calls Try.prog 15 #[v1, v2] W fun e w' => e = .returned (.bool true) ∧ Below W.heap.size W w') := fun v1 v2 W q1 q2 => same_any v1 v2 _ hkl W q1 q2
  have hbW0 : Below W0.heap.size W0 W0 := Below.refl _ _
  generalize (keysS D).length = KL at *
  generalize (keysS D).map strB = KS at *
  obtain ⟨N, hN⟩ : ∃ N, cnt D.T1 + cnt D.T2 = N := ⟨_, rfl⟩
  rw [hN] at HLN HRL
  obtain ⟨x1, x2, x3, hx⟩ : ∃ x1 x2 x3 : Int, tabT D = .tuple #[.int .i64 x1, .int .i64 x2, .int .i64 x3] := by
    unfold tabT
    split
    · exact ⟨_, _, _, rfl⟩
    · exact ⟨_, _, _, rfl⟩
  rw [hx] at HTB HRT
  clear hx hN hSof hdW hrW hrow hb0 hdi h1 h2 hok hn hc12 hkl hr hD hcc
  go_enter Try.func19, Try.ntmps19
  go_wp2_with fail
  rw [← hW0]
  clear hW0
  refine (show Calls _ _ _ _ _ from HTB.out _ hbW0).mono ?_
  rintro e w1 ⟨rfl, hb1⟩
  obtain ⟨a0, a1, a2, a3, a4, a5⟩ := HSOF.out w1 hb1
  go_wp2_with fail
  refine (show Calls _ _ _ _ _ from HRT.out _ hb1).mono ?_
  rintro e w2 ⟨rfl, hb2⟩
  have hS2 := HSOF.out w2 hb2
  have hbw : Below W0.heap.size W0 w2.drew := hb2.drew
  clear a0 a1 a2 a3 a4 a5
  go_upto_region 3 with fail
  go_region_held3 (fun w' : World => w'.cell? ⟨w.heap.size, 0, none⟩ = some (.int .i64 R.seed) ∧ w'.cell? ⟨w.heap.size, 1, none⟩ = some (.int .i64 (R.s1 : Int)) ∧ w'.cell? ⟨w.heap.size, 2, none⟩ = some (.slice P1 R.l1.length c1) ∧ w'.cell? ⟨w.heap.size, 3, none⟩ = some (.int .i64 (R.s2 : Int)) ∧ w'.cell? ⟨w.heap.size, 4, none⟩ = some (.slice P2 R.l2.length c2) ∧ w'.cell? ⟨w.heap.size, 5, none⟩ = some (.int .i64 (R.ix : Int)))
    (first | exact hS2 | exact hSn)
    (first
      | (go_at_call 21; refine (show Calls _ _ _ _ _ from HLN.out _ ?_).mono ?_; with_reducible assumption; rintro e wn ⟨rfl, hbn, hbw⟩; have hSn := HSOF.out wn hbw)
      | (go_at_call 44; refine (show Calls _ _ _ _ _ from HRL.out _ ?_).mono ?_; with_reducible assumption; rintro e wn ⟨rfl, hbn, hbw⟩; have hSn := HSOF.out wn hbw)
      | (go_at_call 45; refine (show Calls _ _ _ _ _ from HKY.out _ ?_).mono ?_; with_reducible assumption; rintro e wn ⟨⟨adA, capA, rfl, hkA⟩, hbn, hbw⟩; have hSn := HSOF.out wn hbw; (try have hkB := hkB.on hbn))
      | (go_at_call 46; refine (show Calls _ _ _ _ _ from HRK.out _ ?_).mono ?_; with_reducible assumption; rintro e wn ⟨⟨adB, capB, rfl, hkB⟩, hbn, hbw⟩; have hSn := HSOF.out wn hbw; (try have hkA := hkA.on hbn))
      | (go_at_call 15; refine (show Calls _ _ _ _ _ from HSM.out _ _ _ hkA hkB).mono ?_; rintro e wm ⟨rfl, hbn⟩; have hbw := hbw.trans (hbn.mono hbw.size); have hSn := HSOF.out wm hbw))
  all_goals
    have HBE : Hid _ := hbw
    clear hbw
    go_wp2
    go_returns
    exact ⟨rfl, HB0.out.trans (HBE.out.mono HB0.out.size)⟩
end Go.Proofs.Ytdemodhjlbkbeab
namespace Go.Proofs.Ytdemodhjlbkbeab
open Go.RowKit
set_option linter.unusedVariables false
theorem OpAt.under' {W W' : World} {g off i : Nat} {kd : Int} {k : ByteArray} {n : Int} (h : OpAt W g off i kd k n) {b : Nat} (hb : Below b W W') (hg : g < b) : OpAt W' g off i kd k n :=
  ⟨(hb.cell (p := ⟨g, off + i * 3, none⟩) hg).trans h.a, (hb.cell (p := ⟨g, off + i * 3 + 1, none⟩) hg).trans h.b, (hb.cell (p := ⟨g, off + i * 3 + 2, none⟩) hg).trans h.c, h.k, h.n⟩
theorem set_cnt {D : DS} (h : DInv D) (k : ByteArray) (hk : k.size ≤ 281474976710656) (n : Int) (hc : cnt D.T1 + cnt D.T2 < 4398046511000) : DInv (setD D k n) ∧ cnt (setD D k n).T1 + cnt (setD D k n).T2 ≤ cnt D.T1 + cnt D.T2 + 1 := by
  have q := setD_ok h k hk n hc
  refine ⟨q.inv, ?_⟩
  rw [← DS.all_len, ← DS.all_len]
  rcases hb : (stepD D).has k with _ | _
  · rw [hb] at q
    rw [(q.fresh rfl).2.length_eq]; simp
  · rw [hb] at q
    obtain ⟨v0, R, p1, p2⟩ := q.old rfl
    rw [p1.length_eq, p2.length_eq]; simp
theorem del_cnt {D : DS} (h : DInv D) (k : ByteArray) : DInv (deleteD D k) ∧ cnt (deleteD D k).T1 + cnt (deleteD D k).T2 ≤ cnt D.T1 + cnt D.T2 + 1 := by
  have q := deleteD_ok h k
  refine ⟨q.inv, ?_⟩
  rw [← DS.all_len, ← DS.all_len]
  rcases hb : (stepD D).has k with _ | _
  · rw [hb] at q
    rw [(q.miss rfl).2.length_eq]; omega
  · rw [hb] at q
    obtain ⟨v0, p1⟩ := q.hit rfl
    rw [p1.length_eq]; simp; omega
theorem stp_cnt {D : DS} (h : DInv D) (n : Nat) : DInv (stepN n D) ∧ cnt (stepN n D).T1 + cnt (stepN n D).T2 ≤ cnt D.T1 + cnt D.T2 + 1 := by
  obtain ⟨q1, q2, _⟩ := stepN_ok n h
  exact ⟨q1, by rw [cnt_perm q2]; omega⟩
theorem IRow.moved {F F' : List Nat} {RB : Nat} {W W' : World} {v : Value} {l : List Ent} (h : IRow (fun q => q ∉ F ∧ q ≠ RB) W v l) (hm : Moved W W' F F') : IRow (fun q => q ∉ F' ∧ q ≠ RB) W' v l := by
  rcases h with h | ⟨g, cap, e, hq, hcp, hg, hc⟩
  · exact Or.inl h
  · refine Or.inr ⟨g, cap, e, ⟨fun hf => ?_, hq.2⟩, hcp, Nat.lt_of_lt_of_le hg hm.size, fun j u hu => (World.cell?_of_block (a := ⟨g, j, none⟩) (hm.rest g hg hq.1)).trans (hc j u hu)⟩
    rcases hm.new g hf with q | q
    · exact hq.1 q
    · omega
/-- the law's two dicts in memory. -/
structure LS (w wr : World) (RB g : Nat) (F : List Nat) (D : DS) (R : RD) (U1 : Option Addr) (d1 : Nat) (U2 : Option Addr) (d2 : Nat) : Prop where
  di : DI wr g F D
  fw : ∀ q ∈ F, w.heap.size ≤ q
  row : wr.heap[RB]? = some (.cells #[.int .i64 R.seed, .int .i64 (R.s1 : Int), .slice U1 R.l1.length d1, .int .i64 (R.s2 : Int), .slice U2 R.l2.length d2, .int .i64 (R.ix : Int)] 29)
  rb : w.heap.size ≤ RB
  rf : RB ∉ F
  i1 : IRow (fun q => q ∉ F ∧ q ≠ RB) wr (.slice U1 R.l1.length d1) R.l1
  i2 : IRow (fun q => q ∉ F ∧ q ≠ RB) wr (.slice U2 R.l2.length d2) R.l2
  below : Below w.heap.size w wr
theorem LS.on {w wr W : World} {RB g : Nat} {F : List Nat} {D : DS} {R : RD} {U1 U2 : Option Addr} {d1 d2 : Nat} (h : LS w wr RB g F D R U1 d1 U2 d2) (hb : Below wr.heap.size wr W) : LS w W RB g F D R U1 d1 U2 d2 :=
  ⟨h.di.on hb, h.fw, keep_row h.row hb, h.rb, h.rf, h.i1.on hb, h.i2.on hb, h.below.trans (hb.mono h.below.size)⟩
theorem LS.up {w wr : World} {RB g : Nat} {F : List Nat} {D : DS} {R : RD} {U1 U2 : Option Addr} {d1 d2 : Nat} (h : LS w wr RB g F D R U1 d1 U2 d2) : ∀ q, wr.heap.size ≤ q → (q ∉ F ∧ q ≠ RB) := fun q hq => by
  have h1 := row_lt h.row
  exact ⟨fun hf => by have := h.di.lt q hf; omega, by omega⟩
theorem LS.rv {w wr : World} {RB g : Nat} {F : List Nat} {D : DS} {R : RD} {U1 U2 : Option Addr} {d1 d2 : Nat} (h : LS w wr RB g F D R U1 d1 U2 d2) : RV (fun q => q ∉ F ∧ q ≠ RB) wr (.agg #[.int .i64 R.seed, .int .i64 (R.s1 : Int), .slice U1 R.l1.length d1, .int .i64 (R.s2 : Int), .slice U2 R.l2.length d2, .int .i64 (R.ix : Int)]) R := ⟨_, _, rfl, h.i1, h.i2⟩
theorem LS.moved {w W W' : World} {RB g : Nat} {F F' : List Nat} {D D' : DS} {R : RD} {U1 U2 : Option Addr} {d1 d2 : Nat} (h : LS w W RB g F D R U1 d1 U2 d2) (hd : DI W' g F' D') (hm : Moved W W' F F') : LS w W' RB g F' D' R U1 d1 U2 d2 := by
  have h1 := row_lt h.row
  refine ⟨hd, hm.ge h.fw h.below.size, (hm.rest RB h1 h.rf).trans h.row, h.rb, fun hf => ?_, h.i1.moved hm, h.i2.moved hm, h.below.trans (hm.below h.fw h.below.size)⟩
  rcases hm.new RB hf with q | q
  · exact h.rf q
  · omega
theorem LS.put {w W : World} {RB g : Nat} {F : List Nat} {D : DS} {R R' : RD} {U1 U2 E1 E2 : Option Addr} {d1 d2 f1 f2 : Nat} (h : LS w W RB g F D R U1 d1 U2 d2) (r1 : IRow (fun q => q ∉ F ∧ q ≠ RB) W (.slice E1 R'.l1.length f1) R'.l1) (r2 : IRow (fun q => q ∉ F ∧ q ≠ RB) W (.slice E2 R'.l2.length f2) R'.l2) :
    LS w (st6 W RB (.int .i64 R'.seed) (.int .i64 (R'.s1 : Int)) (.slice E1 R'.l1.length f1) (.int .i64 (R'.s2 : Int)) (.slice E2 R'.l2.length f2) (.int .i64 (R'.ix : Int))) RB g F D R' E1 f1 E2 f2 := by
  have ho := st6_only W RB (.int .i64 R'.seed) (.int .i64 (R'.s1 : Int)) (.slice E1 R'.l1.length f1) (.int .i64 (R'.s2 : Int)) (.slice E2 R'.l2.length f2) (.int .i64 (R'.ix : Int))
  exact ⟨h.di.keep (fun E hE => ho.other E (fun e => h.rf (e ▸ hE))), h.fw, st6_row h.row _ _ _ _ _ _, h.rb, h.rf, r1.kept (fun q hq => hq.2) ho, r2.kept (fun q hq => hq.2) ho, h.below.trans (ho.below h.rb)⟩
theorem IRow.swap {F F' : List Nat} {RB : Nat} {W W' : World} {v : Value} {l : List Ent} (h : IRow (fun q => q ∉ F ∧ q ≠ RB) W v l) (hb : Below W.heap.size W W') (hF : ∀ q ∈ F', W.heap.size ≤ q) : IRow (fun q => q ∉ F' ∧ q ≠ RB) W' v l := by
  rcases h with h | ⟨g, cap, e, hq, hcp, hg, hc⟩
  · exact Or.inl h
  · exact Or.inr ⟨g, cap, e, ⟨fun hf => by have := hF g hf; omega, hq.2⟩, hcp, Nat.lt_of_lt_of_le hg hb.size, fun j u hu => cell_on (hc j u hu) hb⟩
theorem LS.swap {w W W' : World} {RB g g' : Nat} {F F' : List Nat} {D : DS} {R : RD} {U1 U2 : Option Addr} {d1 d2 : Nat} (h : LS w W RB g F D R U1 d1 U2 d2) (hd : DI W' g' F' D) (hF : ∀ q ∈ F', W.heap.size ≤ q) (hb : Below W.heap.size W W') : LS w W' RB g' F' D R U1 d1 U2 d2 :=
  ⟨hd, fun q hq => Nat.le_trans h.below.size (hF q hq), keep_row h.row hb, h.rb, fun hf => by have := hF RB hf; have := row_lt h.row; omega, h.i1.swap hb hF, h.i2.swap hb hF, h.below.trans (hb.mono h.below.size)⟩
set_option maxHeartbeats 20000000 in
set_option maxRecDepth 100000 in
theorem Plays_walk (seed : Int) (ad : Option Addr) (g0 off len cap : Nat) (w : World) (hA : len ≠ 0 → ad = some ⟨g0, off, none⟩) (hL : len ≤ 4398046510976) (hO : ∀ i, i < len → ∃ kd k n, OpAt w g0 off i kd k n) :
    Calls Try.prog 3 #[.int .i64 seed, .slice ad len cap] w fun e w' => e = .returned (.bool true) ∧ Below w.heap.size w w' := by
  have HNW : Hid _ := New_any seed w
  have HRN : Hid _ := rNew_any seed
  have HWK : Hid _ := works_any
  have HO : Hid _ := hO
  have HA : Hid _ := hA
  clear hO hA
  go_enter Try.func3, Try.ntmps3
  go_wp2_with fail
  refine (show Calls _ _ _ _ _ from HNW.out).mono ?_
  rintro e w1 ⟨rfl, hd1, hb1⟩
  have HD1 : Hid (DI w1 w.heap.size [w.heap.size] ⟨seed, [], [], 0⟩) := hd1
  have HB1 : Hid (Below w.heap.size w w1) := hb1
  clear hd1 hb1
  go_wp2_with fail
  refine (show Calls _ _ _ _ _ from HRN.out _).mono ?_
  rintro e w2 ⟨rfl, hb2⟩
  obtain ⟨W3, hW3⟩ : ∃ W3, W3 = w2.alloc (.cells #[.int .i64 seed, .int .i64 0, .slice none 0 0, .int .i64 0, .slice none 0 0, .int .i64 0] 29) := ⟨_, rfl⟩
  have HLS3 : Hid (LS w W3 w2.heap.size w.heap.size [w.heap.size] ⟨seed, [], [], 0⟩ ⟨seed, 0, [], 0, [], 0⟩ none 0 none 0) := by
    have hb3 : Below w2.heap.size w2 W3 := by rw [hW3]; exact (Below.refl _ _).alloc (Nat.le_refl _) _
    have hs := HD1.out.lt w.heap.size (by simp)
    have hs2 := hb2.size
    refine ⟨(HD1.out.on hb2).on hb3, by simp, by rw [hW3]; exact one_alloc _ _, by omega, by simp; omega, Or.inl ⟨rfl, rfl⟩, Or.inl ⟨rfl, rfl⟩, (bel_to HB1.out hb2 (Nat.le_refl _)).trans (hb3.mono (by omega))⟩
  clear hb2 HD1 HB1
  obtain ⟨RB, hRB⟩ : ∃ RB, w2.heap.size = RB := ⟨_, rfl⟩
  go_upto_region 3 with fail
  rw [← hW3]
  rw [hRB] at HLS3
  try rw [hRB]
  clear hW3 hRB
  go_wp2_with fail
  refine (show Calls _ _ _ _ _ from HWK.out _).mono ?_
  rintro e w4 ⟨rfl, hb4⟩
  have HLS4 : Hid (LS w w4 RB w.heap.size [w.heap.size] ⟨seed, [], [], 0⟩ ⟨seed, 0, [], 0, [], 0⟩ none 0 none 0) := HLS3.out.on hb4
  clear hb4 HLS3
  have HREL0 : Hid (Rel ⟨seed, [], [], 0⟩ ⟨seed, 0, [], 0, [], 0⟩) := ⟨rfl, rfl, rfl, List.Perm.refl _, List.Perm.refl _, fun h => absurd rfl h⟩
  obtain ⟨gg, hgg⟩ : ∃ gg, w.heap.size = gg := ⟨_, rfl⟩
  have HLS5 : Hid (LS w w4 RB gg [gg] ⟨seed, [], [], 0⟩ ⟨seed, 0, [], 0, [], 0⟩ none 0 none 0) := by rw [← hgg]; exact HLS4.out
  rw [hgg]
  clear hgg HLS4
  go_wp2
  go_loopw [7, 5] (fun ci cd wr => ∃ (i g : Nat) (D : DS) (R : RD) (F : List Nat) (U1 : Option Addr) (d1 : Nat) (U2 : Option Addr) (d2 : Nat), i ≤ len ∧ ci = .int .i64 (i : Int) ∧ cd = .pointer (some ⟨g, 0, none⟩) ∧ DInv D ∧ Rel D R ∧ cnt D.T1 + cnt D.T2 ≤ i ∧ LS w wr RB g F D R U1 d1 U2 d2) (fun ci _ _ => len - (intOf ci).toNat)
  case atStart => exact ⟨0, gg, _, _, _, none, 0, none, 0, Nat.zero_le _, rfl, rfl, newD_ok seed, HREL0.out, by simp [cnt], HLS5.out⟩
  case round =>
    obtain ⟨i, g, D, R, F, U1, d1, U2, d2, hi, rfl, rfl, hI, hrl, hcn, hls⟩ := hrel
    have HI : Hid (DInv D) := hI
    have HR : Hid (Rel D R) := hrl
    have HLS : Hid (LS w wr RB g F D R U1 d1 U2 d2) := hls
    clear hI hrl hls HLS5 HREL0 HWK HRN HNW
    by_cases hlt : i < len
    · have had := HA.out (by omega)
      subst had
      obtain ⟨kd, k, n, hop⟩ := HO.out i hlt
      have hop2 := hop.under' HLS.out.below hop.lt
      have e0 := hop2.a
      have e1 := hop2.b
      have e2 := hop2.c
      have hks := hop2.k
      have hnr := hop2.n
      have hz3 : (0 : Int) ≤ (i : Int) := by omega
      have hz4 : (i : Int) < (len : Int) := by omega
      have hiw : IntKind.i64.wrap ((i : Int) + 1) = (i : Int) + 1 := by rw [IntKind.wrap_i64] <;> omega
      obtain ⟨W1, hW1⟩ : ∃ W1, W1 = wr.alloc (.cells #[.int .i64 kd, .string k, .int .i64 n] 33) := ⟨_, rfl⟩
      have hb1 : Below wr.heap.size wr W1 := by rw [hW1]; exact (Below.refl _ _).alloc (Nat.le_refl _) _
      have HX : Hid (W1.heap[wr.heap.size]? = some (.cells #[.int .i64 kd, .string k, .int .i64 n] 33)) := by show _ = _; rw [hW1]; exact one_alloc _ _
      have HL1 : Hid (LS w W1 RB g F D R U1 d1 U2 d2) := HLS.out.on hb1
      obtain ⟨ob, hob⟩ : ∃ ob, wr.heap.size = ob := ⟨_, rfl⟩
      rw [hob] at HX
      have HOBF : Hid (ob ∉ F ∧ ob ≠ RB) := by rw [← hob]; exact HLS.out.up _ (Nat.le_refl _)
      clear hb1 hop hop2
      go_upto_region 10 with fail
      rw [← hW1]
      try rw [hob]
      clear hW1 hob e0 e1 e2 HLS
      obtain ⟨x0, x1, x2, xf⟩ : W1.cell? ⟨ob, 0, none⟩ = some (.int .i64 kd) ∧ W1.cell? ⟨ob, 1, none⟩ = some (.string k) ∧ W1.cell? ⟨ob, 2, none⟩ = some (.int .i64 n) ∧ True := ⟨by rw [cell_of_row _ _ _ _ _ _ HX.out]; rfl, by rw [cell_of_row _ _ _ _ _ _ HX.out]; rfl, by rw [cell_of_row _ _ _ _ _ _ HX.out]; rfl, trivial⟩
      have HXW : Hid (∀ W : World, W.heap[ob]? = W1.heap[ob]? → W.cell? ⟨ob, 0, none⟩ = some (.int .i64 kd) ∧ W.cell? ⟨ob, 1, none⟩ = some (.string k) ∧ W.cell? ⟨ob, 2, none⟩ = some (.int .i64 n)) := fun W hW => by
        have q := hW.trans HX.out
        exact ⟨by rw [cell_of_row _ _ _ _ _ _ q]; rfl, by rw [cell_of_row _ _ _ _ _ _ q]; rfl, by rw [cell_of_row _ _ _ _ _ _ q]; rfl⟩
      have HOBL : Hid (ob < W1.heap.size) := row_lt HX.out
      have hmod : -9223372036854775808 ≤ Int.tmod n 100 ∧ Int.tmod n 100 ≤ 9223372036854775807 := by
        have h1 := Int.lt_tmod_of_pos n (b := 100) (by omega)
        have h2 := Int.tmod_lt_of_pos n (b := 100) (by omega)
        omega
      have hmw : IntKind.i64.wrap (Int.tmod n 100) = Int.tmod n 100 := by rw [IntKind.wrap_i64] <;> omega
      by_cases h0 : kd = 0
      · subst h0
        have HCK : Hid _ := set_cnt HI.out k (by omega) n (by omega)
        have HSR : Hid _ := Set_rel (fun q => q ∉ F ∧ q ≠ RB) _ D R HI.out HR.out (by omega) k (by omega) n W1 HL1.out.up HL1.out.rv
        obtain ⟨a0, a1, a2, a3, a4, a5, af⟩ := row6 HL1.out.row
        go_wp2_with fail
        refine (show Calls _ _ _ _ _ from HSR.out).mono ?_
        rintro e w3 ⟨v3, rfl, R', hv3, hrel3, hb3⟩
        obtain ⟨u1, u2, rfl, r1, r2⟩ := hv3
        obtain ⟨E1, f1, rfl⟩ := r1.form
        obtain ⟨E2, f2, rfl⟩ := r2.form
        obtain ⟨W4, hW4⟩ : ∃ W4, W4 = w3.alloc (.cells #[.int .i64 R'.seed, .int .i64 (R'.s1 : Int), .slice E1 R'.l1.length f1, .int .i64 (R'.s2 : Int), .slice E2 R'.l2.length f2, .int .i64 (R'.ix : Int)] 29) := ⟨_, rfl⟩
        have hb4 : Below w3.heap.size w3 W4 := by rw [hW4]; exact (Below.refl _ _).alloc (Nat.le_refl _) _
        have HN4 : Hid (W4.heap[w3.heap.size]? = some (.cells #[.int .i64 R'.seed, .int .i64 (R'.s1 : Int), .slice E1 R'.l1.length f1, .int .i64 (R'.s2 : Int), .slice E2 R'.l2.length f2, .int .i64 (R'.ix : Int)] 29)) := by show _ = _; rw [hW4]; exact one_alloc _ _
        have HL4 : Hid (LS w W4 RB g F D R U1 d1 U2 d2) := (HL1.out.on hb3).on hb4
        have HNB : Hid (w3.heap.size ∉ F) := fun hf => by have := HL1.out.di.lt _ hf; have := hb3.size; omega
        have HI1 : Hid (IRow (fun q => q ∉ F ∧ q ≠ RB) W4 (.slice E1 R'.l1.length f1) R'.l1) := r1.on hb4
        have HI2 : Hid (IRow (fun q => q ∉ F ∧ q ≠ RB) W4 (.slice E2 R'.l2.length f2) R'.l2) := r2.on hb4
        have HRL : Hid (Rel (setD D k n) R') := hrel3
        obtain ⟨y0, y1, y2⟩ := HXW.out W4 (((hb3.trans (hb4.mono hb3.size)).block ob HOBL.out))
        have HSE : Hid _ := Set_any g F D HI.out k (by omega) n (by omega) W4 HL4.out.di
        have HOB4 : Hid (ob < W4.heap.size) := Nat.lt_of_lt_of_le HOBL.out (Nat.le_trans hb3.size hb4.size)
        obtain ⟨NB, hNB⟩ : ∃ NB, w3.heap.size = NB := ⟨_, rfl⟩
        rw [hNB] at HN4 HNB
        clear hb3 hb4 r1 r2 hrel3 a0 a1 a2 a3 a4 a5 af x0 x1 x2 xf
        go_upto_region 16 with fail
        rw [← hW4]
        try rw [hNB]
        clear hW4 hNB
        go_wp2_with fail
        refine (show Calls _ _ _ _ _ from HSE.out).mono ?_
        rintro e w5 ⟨rfl, F5, hd5, hm5⟩
        have HL5 : Hid (LS w w5 RB g F5 (setD D k n) R U1 d1 U2 d2) := HL4.out.moved hd5 hm5
        have HJ1 := HI1.out.moved hm5
        have HJ2 := HI2.out.moved hm5
        have HN5 := (hm5.rest NB (row_lt HN4.out) HNB.out).trans HN4.out
        have HL6' : Hid _ := HL5.out.put HJ1 HJ2
        obtain ⟨n0, n1, n2, n3, n4, n5, nf⟩ := row6 HN5
        obtain ⟨a0, a1, a2, a3, a4, a5, af⟩ := row6 HL5.out.row
        have hbeq : (!(stepD D).has k == !(stepD D).has k) = true := by simp
        clear hd5 hm5 HJ1 HJ2 HN5 y0 y1 y2
        go_upto_region 32 with fail
        obtain ⟨W6, hW6⟩ : ∃ W6, W6 = st6 w5 RB (.int .i64 R'.seed) (.int .i64 (R'.s1 : Int)) (.slice E1 R'.l1.length f1) (.int .i64 (R'.s2 : Int)) (.slice E2 R'.l2.length f2) (.int .i64 (R'.ix : Int)) := ⟨_, rfl⟩
        change Code.wp _ _ _ _ (st6 w5 _ _ _ _ _ _ _)
        rw [← hW6] at HL6' ⊢
        have HL6 : Hid (LS w W6 RB g F5 (setD D k n) R' E1 f1 E2 f2) := HL6'.out
        clear hW6 HL6' n0 n1 n2 n3 n4 n5 nf a0 a1 a2 a3 a4 a5 af
        have HAS : Hid _ := as_any g F5 (setD D k n) _ _ R' HCK.out.1 HRL.out (by have := HCK.out.2; omega) W6 HL6.out.di HL6.out.rv
        obtain ⟨a0, a1, a2, a3, a4, a5, af⟩ := row6 HL6.out.row
        go_wp2_with fail
        refine (show Calls _ _ _ _ _ from HAS.out).mono ?_
        rintro e wz ⟨rfl, hbz⟩
        have HLZ : Hid _ := HL6.out.on hbz
        clear hbz a0 a1 a2 a3 a4 a5 af
        go_wp2
        go_roundw
        case rel => exact ⟨i + 1, g, (setD D k n), R', F5, E1, f1, E2, f2, hlt, by simp, rfl, HCK.out.1, HRL.out, by have := HCK.out.2; omega, HLZ.out⟩
        case measure => simp [intOf]; omega
      · have hd0 : (kd == 0) = false := by simpa using h0
        by_cases h1 : kd = 1
        · subst h1
          have HCK : Hid _ := del_cnt HI.out k
          have HSR : Hid _ := Delete_rel (fun q => q ∉ F ∧ q ≠ RB) _ D R HI.out HR.out (by omega) k (by omega) W1 HL1.out.up HL1.out.rv
          obtain ⟨a0, a1, a2, a3, a4, a5, af⟩ := row6 HL1.out.row
          go_wp2_with fail
          refine (show Calls _ _ _ _ _ from HSR.out).mono ?_
          rintro e w3 ⟨v3, rfl, R', hv3, hrel3, hb3⟩
          obtain ⟨u1, u2, rfl, r1, r2⟩ := hv3
          obtain ⟨E1, f1, rfl⟩ := r1.form
          obtain ⟨E2, f2, rfl⟩ := r2.form
          obtain ⟨W4, hW4⟩ : ∃ W4, W4 = w3.alloc (.cells #[.int .i64 R'.seed, .int .i64 (R'.s1 : Int), .slice E1 R'.l1.length f1, .int .i64 (R'.s2 : Int), .slice E2 R'.l2.length f2, .int .i64 (R'.ix : Int)] 29) := ⟨_, rfl⟩
          have hb4 : Below w3.heap.size w3 W4 := by rw [hW4]; exact (Below.refl _ _).alloc (Nat.le_refl _) _
          have HN4 : Hid (W4.heap[w3.heap.size]? = some (.cells #[.int .i64 R'.seed, .int .i64 (R'.s1 : Int), .slice E1 R'.l1.length f1, .int .i64 (R'.s2 : Int), .slice E2 R'.l2.length f2, .int .i64 (R'.ix : Int)] 29)) := by show _ = _; rw [hW4]; exact one_alloc _ _
          have HL4 : Hid (LS w W4 RB g F D R U1 d1 U2 d2) := (HL1.out.on hb3).on hb4
          have HNB : Hid (w3.heap.size ∉ F) := fun hf => by have := HL1.out.di.lt _ hf; have := hb3.size; omega
          have HI1 : Hid (IRow (fun q => q ∉ F ∧ q ≠ RB) W4 (.slice E1 R'.l1.length f1) R'.l1) := r1.on hb4
          have HI2 : Hid (IRow (fun q => q ∉ F ∧ q ≠ RB) W4 (.slice E2 R'.l2.length f2) R'.l2) := r2.on hb4
          have HRL : Hid (Rel (deleteD D k) R') := hrel3
          obtain ⟨y0, y1, y2⟩ := HXW.out W4 (((hb3.trans (hb4.mono hb3.size)).block ob HOBL.out))
          have HSE : Hid _ := Delete_any g F D HI.out k (by omega) (by omega) W4 HL4.out.di
          have HOB4 : Hid (ob < W4.heap.size) := Nat.lt_of_lt_of_le HOBL.out (Nat.le_trans hb3.size hb4.size)
          obtain ⟨NB, hNB⟩ : ∃ NB, w3.heap.size = NB := ⟨_, rfl⟩
          rw [hNB] at HN4 HNB
          clear hb3 hb4 r1 r2 hrel3 a0 a1 a2 a3 a4 a5 af x0 x1 x2 xf
          go_upto_region 20 with fail
          rw [← hW4]
          try rw [hNB]
          clear hW4 hNB
          go_wp2_with fail
          refine (show Calls _ _ _ _ _ from HSE.out).mono ?_
          rintro e w5 ⟨rfl, F5, hd5, hm5⟩
          have HL5 : Hid (LS w w5 RB g F5 (deleteD D k) R U1 d1 U2 d2) := HL4.out.moved hd5 hm5
          have HJ1 := HI1.out.moved hm5
          have HJ2 := HI2.out.moved hm5
          have HN5 := (hm5.rest NB (row_lt HN4.out) HNB.out).trans HN4.out
          have HL6' : Hid _ := HL5.out.put HJ1 HJ2
          obtain ⟨n0, n1, n2, n3, n4, n5, nf⟩ := row6 HN5
          obtain ⟨a0, a1, a2, a3, a4, a5, af⟩ := row6 HL5.out.row
          have hbeq : ((stepD D).has k == (stepD D).has k) = true := by simp
          clear hd5 hm5 HJ1 HJ2 HN5 y0 y1 y2
          go_upto_region 32 with fail
          obtain ⟨W6, hW6⟩ : ∃ W6, W6 = st6 w5 RB (.int .i64 R'.seed) (.int .i64 (R'.s1 : Int)) (.slice E1 R'.l1.length f1) (.int .i64 (R'.s2 : Int)) (.slice E2 R'.l2.length f2) (.int .i64 (R'.ix : Int)) := ⟨_, rfl⟩
          change Code.wp _ _ _ _ (st6 w5 _ _ _ _ _ _ _)
          rw [← hW6] at HL6' ⊢
          have HL6 : Hid (LS w W6 RB g F5 (deleteD D k) R' E1 f1 E2 f2) := HL6'.out
          clear hW6 HL6' n0 n1 n2 n3 n4 n5 nf a0 a1 a2 a3 a4 a5 af
          have HAS : Hid _ := as_any g F5 (deleteD D k) _ _ R' HCK.out.1 HRL.out (by have := HCK.out.2; omega) W6 HL6.out.di HL6.out.rv
          obtain ⟨a0, a1, a2, a3, a4, a5, af⟩ := row6 HL6.out.row
          go_wp2_with fail
          refine (show Calls _ _ _ _ _ from HAS.out).mono ?_
          rintro e wz ⟨rfl, hbz⟩
          have HLZ : Hid _ := HL6.out.on hbz
          clear hbz a0 a1 a2 a3 a4 a5 af
          go_wp2
          go_roundw
          case rel => exact ⟨i + 1, g, (deleteD D k), R', F5, E1, f1, E2, f2, hlt, by simp, rfl, HCK.out.1, HRL.out, by have := HCK.out.2; omega, HLZ.out⟩
          case measure => simp [intOf]; omega
        · have hd1 : (kd == 1) = false := by simpa using h1
          by_cases h2 : kd = 2
          · subst h2
            have HCK : Hid _ := stp_cnt HI.out (Int.tmod n 100).toNat
            have HSP : Hid _ := Step_any g F D HI.out (Int.tmod n 100) hmod (by omega) W1 HL1.out.di
            go_wp2_with fail
            refine (show Calls _ _ _ _ _ from HSP.out).mono ?_
            rintro e w3 ⟨rfl, F3, hd3, hm3⟩
            have HL3 : Hid (LS w w3 RB g F3 (stepN (Int.tmod n 100).toNat D) R U1 d1 U2 d2) := HL1.out.moved hd3 hm3
            obtain ⟨y0, y1, y2⟩ := HXW.out w3 (hm3.rest ob HOBL.out HOBF.out.1)
            have HSR : Hid _ := Step_rel (fun q => q ∉ F3 ∧ q ≠ RB) _ D R HI.out HR.out (by omega) (Int.tmod n 100) hmod w3 HL3.out.up HL3.out.rv
            obtain ⟨a0, a1, a2, a3, a4, a5, af⟩ := row6 HL3.out.row
            clear hd3 hm3 x0 x1 x2 xf
            go_wp2_with fail
            refine (show Calls _ _ _ _ _ from HSR.out).mono ?_
            rintro e w5 ⟨v5, rfl, R', hv5, hrel5, hb5⟩
            obtain ⟨u1, u2, rfl, r1, r2⟩ := hv5
            obtain ⟨E1, f1, rfl⟩ := r1.form
            obtain ⟨E2, f2, rfl⟩ := r2.form
            have HL5 := HL3.out.on hb5
            have HL6' : Hid _ := HL5.put r1 r2
            have HRL : Hid (Rel (stepN (Int.tmod n 100).toNat D) R') := hrel5
            clear a0 a1 a2 a3 a4 a5 af
            obtain ⟨a0, a1, a2, a3, a4, a5, af⟩ := row6 HL5.row
            clear HL5 hb5 r1 r2 hrel5 y0 y1 y2
            go_upto_region 32 with fail
            obtain ⟨W6, hW6⟩ : ∃ W6, W6 = st6 w5 RB (.int .i64 R'.seed) (.int .i64 (R'.s1 : Int)) (.slice E1 R'.l1.length f1) (.int .i64 (R'.s2 : Int)) (.slice E2 R'.l2.length f2) (.int .i64 (R'.ix : Int)) := ⟨_, rfl⟩
            change Code.wp _ _ _ _ (st6 w5 _ _ _ _ _ _ _)
            rw [← hW6] at HL6' ⊢
            have HL6 : Hid (LS w W6 RB g F3 (stepN (Int.tmod n 100).toNat D) R' E1 f1 E2 f2) := HL6'.out
            clear hW6 HL6' a0 a1 a2 a3 a4 a5 af
            have HAS : Hid _ := as_any g F3 (stepN (Int.tmod n 100).toNat D) _ _ R' HCK.out.1 HRL.out (by have := HCK.out.2; omega) W6 HL6.out.di HL6.out.rv
            obtain ⟨a0, a1, a2, a3, a4, a5, af⟩ := row6 HL6.out.row
            go_wp2_with fail
            refine (show Calls _ _ _ _ _ from HAS.out).mono ?_
            rintro e wz ⟨rfl, hbz⟩
            have HLZ : Hid _ := HL6.out.on hbz
            clear hbz a0 a1 a2 a3 a4 a5 af
            go_wp2
            go_roundw
            case rel => exact ⟨i + 1, g, (stepN (Int.tmod n 100).toNat D), R', F3, E1, f1, E2, f2, hlt, by simp, rfl, HCK.out.1, HRL.out, by have := HCK.out.2; omega, HLZ.out⟩
            case measure => simp [intOf]; omega
          · have hd2 : (kd == 2) = false := by simpa using h2
            by_cases h3 : kd = 3
            · subst h3
              obtain ⟨m7, hm7⟩ : ∃ m7, Int.tmod (i : Int) 7 = m7 := ⟨_, rfl⟩
              have hm7b : -9223372036854775808 ≤ m7 ∧ m7 ≤ 9223372036854775807 := by
                rw [← hm7]
                have h1 := Int.lt_tmod_of_pos (i : Int) (b := 7) (by omega)
                have h2 := Int.tmod_lt_of_pos (i : Int) (b := 7) (by omega)
                omega
              have hm7w : IntKind.i64.wrap m7 = m7 := by rw [IntKind.wrap_i64] <;> omega
              by_cases hne : D.T1 = []
              · have HS1 : Hid _ := Scan_none g F D hne n m7 W1 HL1.out.di
                have hs0 : R.s1 = 0 := by rw [HR.out.s1, hne]; rfl
                have HS2 : Hid _ := rScan_none _ _ R hs0 n m7 W1 HL1.out.rv
                have HSM : Hid (∀ W : World, _) := fun W => same_any (.slice none 0 0) (.slice none 0 0) [] (by simp) W (StrRow.nil W) (StrRow.nil W)
                obtain ⟨a0, a1, a2, a3, a4, a5, af⟩ := row6 HL1.out.row
                clear hne hs0
                go_wp2_with fail
                refine (show Calls _ _ _ _ _ from HS1.out).mono ?_
                rintro e w3 ⟨rfl, hw3⟩
                have hw4 := hw3.symm
                subst hw4
                go_wp2_with fail
                refine (show Calls _ _ _ _ _ from HS2.out).mono ?_
                rintro e w5 ⟨rfl, hb5⟩
                have HL5 : Hid (LS w w5 RB g F D R U1 d1 U2 d2) := HL1.out.on hb5
                clear hb5 x0 x1 x2 xf a0 a1 a2 a3 a4 a5 af
                go_wp2_with fail
                refine (show Calls _ _ _ _ _ from HSM.out _).mono ?_
                rintro e w7 ⟨rfl, hb7⟩
                have HL6 : Hid (LS w w7 RB g F D R U1 d1 U2 d2) := HL5.out.on hb7
                clear hb7
                go_upto_region 32 with fail
                have HAS : Hid _ := as_any g F D _ _ R HI.out HR.out (by have := hcn; omega) w7 HL6.out.di HL6.out.rv
                obtain ⟨a0, a1, a2, a3, a4, a5, af⟩ := row6 HL6.out.row
                go_wp2_with fail
                refine (show Calls _ _ _ _ _ from HAS.out).mono ?_
                rintro e wz ⟨rfl, hbz⟩
                have HLZ : Hid _ := HL6.out.on hbz
                clear hbz a0 a1 a2 a3 a4 a5 af
                go_wp2
                go_roundw
                case rel => exact ⟨i + 1, g, D, R, F, U1, d1, U2, d2, hlt, by simp, rfl, HI.out, HR.out, by have := hcn; omega, HLZ.out⟩
                case measure => simp [intOf]; omega
              · obtain ⟨c, hzc⟩ : ∃ c : Nat, max n 0 = (c : Int) := ⟨(max n 0).toNat, by omega⟩
                have hcb : c ≤ 9223372036854775807 := by have := hnr.2; omega
                have HS1 : Hid _ := Scan_any g F D HI.out hne (by omega) n c hzc hcb m7 hm7b W1 HL1.out.di
                have HS2 : Hid (∀ W, LS w W RB g F D R U1 d1 U2 d2 → _) := fun W hW => rScan_any (fun q => q ∉ F ∧ q ≠ RB) _ D R HI.out HR.out hne (by omega) n c hzc hcb m7 hm7b W hW.rv
                have HVB : Hid (∀ t, ScanIs D c m7 t → (visN D c t).length ≤ 4398046511000) := fun t ht => by
                  have := visN_cnt HI.out hne c t ht.le
                  omega
                clear hne
                go_wp2_with fail
                refine (show Calls _ _ _ _ _ from HS1.out).mono ?_
                rintro e w3 ⟨t, r3, hsc, rfl, ho3, hb3⟩
                obtain ⟨P3, k3, hkf⟩ := own_form ho3
                subst hkf
                have HL3 : Hid (LS w w3 RB g F D R U1 d1 U2 d2) := HL1.out.on hb3
                obtain ⟨y0, y1, y2⟩ := HXW.out w3 (hb3.block ob HOBL.out)
                have HSC : Hid _ := hsc
                have HK3 : Hid (StrRow w3 (.slice P3 (visN D c t).length k3) ((visN D c t).map (·.1))) := by
                  rw [keyV_str] at ho3
                  exact StrRow.of_vals ho3 (by rw [List.length_map])
                have HS3 : Hid _ := HS2.out w3 HL3.out
                obtain ⟨a0, a1, a2, a3, a4, a5, af⟩ := row6 HL3.out.row
                clear hsc ho3 hb3 x0 x1 x2 xf HS2
                go_wp2_with fail
                refine (show Calls _ _ _ _ _ from HS3.out).mono ?_
                rintro e w5 ⟨t', hsc', r5, rfl, ho5, hb5⟩
                have htt := hsc'.one HSC.out
                subst htt
                obtain ⟨P5, k5, hkf⟩ := own_form ho5
                subst hkf
                have HK5 : Hid (StrRow w5 (.slice P5 (visN D c t').length k5) ((visN D c t').map (·.1))) := by
                  rw [keyV_str] at ho5
                  exact StrRow.of_vals ho5 (by rw [List.length_map])
                have HK3' : Hid (StrRow w5 (.slice P3 (visN D c t').length k3) ((visN D c t').map (·.1))) := HK3.out.on hb5
                have HL5 : Hid (LS w w5 RB g F D R U1 d1 U2 d2) := HL3.out.on hb5
                have HSM : Hid _ := same_any _ _ _ (by rw [List.length_map]; have := HVB.out t' HSC.out; omega) w5 HK3'.out HK5.out
                clear hb5 ho5 hsc' y0 y1 y2 a0 a1 a2 a3 a4 a5 af
                go_wp2_with fail
                refine (show Calls _ _ _ _ _ from HSM.out).mono ?_
                rintro e w7 ⟨rfl, hb7⟩
                have HL6 : Hid (LS w w7 RB g F D R U1 d1 U2 d2) := HL5.out.on hb7
                clear hb7
                go_upto_region 32 with fail
                have HAS : Hid _ := as_any g F D _ _ R HI.out HR.out (by have := hcn; omega) w7 HL6.out.di HL6.out.rv
                obtain ⟨a0, a1, a2, a3, a4, a5, af⟩ := row6 HL6.out.row
                go_wp2_with fail
                refine (show Calls _ _ _ _ _ from HAS.out).mono ?_
                rintro e wz ⟨rfl, hbz⟩
                have HLZ : Hid _ := HL6.out.on hbz
                clear hbz a0 a1 a2 a3 a4 a5 af
                go_wp2
                go_roundw
                case rel => exact ⟨i + 1, g, D, R, F, U1, d1, U2, d2, hlt, by simp, rfl, HI.out, HR.out, by have := hcn; omega, HLZ.out⟩
                case measure => simp [intOf]; omega
            · have hd3 : (kd == 3) = false := by simpa using h3
              by_cases h4 : kd = 4
              · subst h4
                have HCL : Hid _ := Clone_any g F D HI.out (by omega) W1 HL1.out.di
                go_wp2_with fail
                refine (show Calls _ _ _ _ _ from HCL.out).mono ?_
                rintro e w3 ⟨g3, F3, rfl, hd3, hF3, hb3⟩
                have HL6 : Hid (LS w w3 RB g3 F3 D R U1 d1 U2 d2) := HL1.out.swap hd3 hF3 hb3
                clear hd3 hF3 hb3 x0 x1 x2 xf
                go_upto_region 32 with fail
                have HAS : Hid _ := as_any g3 F3 D _ _ R HI.out HR.out (by have := hcn; omega) w3 HL6.out.di HL6.out.rv
                obtain ⟨a0, a1, a2, a3, a4, a5, af⟩ := row6 HL6.out.row
                go_wp2_with fail
                refine (show Calls _ _ _ _ _ from HAS.out).mono ?_
                rintro e wz ⟨rfl, hbz⟩
                have HLZ : Hid _ := HL6.out.on hbz
                clear hbz a0 a1 a2 a3 a4 a5 af
                go_wp2
                go_roundw
                case rel => exact ⟨i + 1, g3, D, R, F3, U1, d1, U2, d2, hlt, by simp, rfl, HI.out, HR.out, by have := hcn; omega, HLZ.out⟩
                case measure => simp [intOf]; omega
              · have hd4 : (kd == 4) = false := by simpa using h4
                have hperm : D.all.Perm (R.l1 ++ R.l2) := List.Perm.append HR.out.p1 HR.out.p2
                have HOKR : Hid (ROk R) := HR.out.ok HI.out (by omega)
                have HYES : Hid (∀ v x, (k, v) ∈ D.all → (k, x) ∈ R.l1 ++ R.l2 → v = x) := fun v x h1 h2 => val_one HI.out h1 (hperm.mem_iff.2 h2)
                have HKEY : Hid (D.has k = true ↔ k ∈ (R.l1 ++ R.l2).map (·.1)) := by
                  show _ ↔ _
                  rw [all_keys HI.out k]; exact (hperm.map _).mem_iff
                clear hperm
                rcases hh : D.has k with _ | _
                · have HG : Hid _ := Get_no g F D HI.out k (by omega) (by omega) hh W1 HL1.out.di
                  have HNO : Hid (k ∉ (R.l1 ++ R.l2).map (·.1)) := fun q => by have := HKEY.out.2 q; rw [hh] at this; cases this
                  clear hh
                  go_wp2_with fail
                  refine (show Calls _ _ _ _ _ from HG.out).mono ?_
                  rintro e w3 ⟨rfl, hb3⟩
                  have HL3 : Hid (LS w w3 RB g F D R U1 d1 U2 d2) := HL1.out.on hb3
                  obtain ⟨y0, y1, y2⟩ := HXW.out w3 (hb3.block ob HOBL.out)
                  have HGR : Hid _ := Get_rel (fun q => q ∉ F ∧ q ≠ RB) _ R HOKR.out k w3 HL3.out.rv
                  obtain ⟨a0, a1, a2, a3, a4, a5, af⟩ := row6 HL3.out.row
                  clear hb3 x0 x1 x2 xf
                  go_wp2_with fail
                  refine (show Calls _ _ _ _ _ from HGR.out).mono ?_
                  rintro e w5 ⟨hcase, hb5⟩
                  rcases hcase with ⟨x, rfl, hx⟩ | ⟨rfl, hx⟩
                  · exact absurd (List.mem_map.2 ⟨_, hx, rfl⟩) HNO.out
                  · have HL6 : Hid (LS w w5 RB g F D R U1 d1 U2 d2) := HL3.out.on hb5
                    clear hb5 hx y0 y1 y2 a0 a1 a2 a3 a4 a5 af
                    go_upto_region 32 with fail
                    have HAS : Hid _ := as_any g F D _ _ R HI.out HR.out (by have := hcn; omega) w5 HL6.out.di HL6.out.rv
                    obtain ⟨a0, a1, a2, a3, a4, a5, af⟩ := row6 HL6.out.row
                    go_wp2_with fail
                    refine (show Calls _ _ _ _ _ from HAS.out).mono ?_
                    rintro e wz ⟨rfl, hbz⟩
                    have HLZ : Hid _ := HL6.out.on hbz
                    clear hbz a0 a1 a2 a3 a4 a5 af
                    go_wp2
                    go_roundw
                    case rel => exact ⟨i + 1, g, D, R, F, U1, d1, U2, d2, hlt, by simp, rfl, HI.out, HR.out, by have := hcn; omega, HLZ.out⟩
                    case measure => simp [intOf]; omega
                · have HG : Hid _ := Get_yes g F D HI.out k (by omega) (by omega) hh W1 HL1.out.di
                  have HIN : Hid (k ∈ (R.l1 ++ R.l2).map (·.1)) := HKEY.out.1 hh
                  clear hh
                  go_wp2_with fail
                  refine (show Calls _ _ _ _ _ from HG.out).mono ?_
                  rintro e w3 ⟨⟨vv, rfl, hvv⟩, hb3⟩
                  have HL3 : Hid (LS w w3 RB g F D R U1 d1 U2 d2) := HL1.out.on hb3
                  have HVV : Hid _ := hvv
                  obtain ⟨y0, y1, y2⟩ := HXW.out w3 (hb3.block ob HOBL.out)
                  have HGR : Hid _ := Get_rel (fun q => q ∉ F ∧ q ≠ RB) _ R HOKR.out k w3 HL3.out.rv
                  obtain ⟨a0, a1, a2, a3, a4, a5, af⟩ := row6 HL3.out.row
                  clear hb3 hvv x0 x1 x2 xf
                  go_wp2_with fail
                  refine (show Calls _ _ _ _ _ from HGR.out).mono ?_
                  rintro e w5 ⟨hcase, hb5⟩
                  rcases hcase with ⟨x, rfl, hx⟩ | ⟨rfl, hx⟩
                  · have hvx := HYES.out vv x HVV.out hx
                    subst hvx
                    have HL6 : Hid (LS w w5 RB g F D R U1 d1 U2 d2) := HL3.out.on hb5
                    clear hb5 hx y0 y1 y2 a0 a1 a2 a3 a4 a5 af
                    go_upto_region 32 with fail
                    have HAS : Hid _ := as_any g F D _ _ R HI.out HR.out (by have := hcn; omega) w5 HL6.out.di HL6.out.rv
                    obtain ⟨a0, a1, a2, a3, a4, a5, af⟩ := row6 HL6.out.row
                    go_wp2_with fail
                    refine (show Calls _ _ _ _ _ from HAS.out).mono ?_
                    rintro e wz ⟨rfl, hbz⟩
                    have HLZ : Hid _ := HL6.out.on hbz
                    clear hbz a0 a1 a2 a3 a4 a5 af
                    go_wp2
                    go_roundw
                    case rel => exact ⟨i + 1, g, D, R, F, U1, d1, U2, d2, hlt, by simp, rfl, HI.out, HR.out, by have := hcn; omega, HLZ.out⟩
                    case measure => simp [intOf]; omega
                  · exact absurd HIN.out hx
    · have hz4 : ¬ (i : Int) < (len : Int) := by omega
      have HBF : Hid _ := HLS.out.below
      go_wp2
      go_returns
      exact ⟨rfl, HBF.out⟩
end Go.Proofs.Ytdemodhjlbkbeab
namespace Go.Proofs.Ytdemodhjlbkbeab.dictPlays
open Go.ChangeShapes Go.WideShapes Go.ChangeAt Go.RowKit Go.Deep
set_option linter.unusedVariables false
theorem own : ownKnob Try.prog.godebug = none := by kernel_rfl
theorem laidOut : laidOutB Try.prog = true := by kernel_rfl
set_option maxRecDepth 100000 in
theorem lifted (os : Os) (started : os.Started) (H : Type) (enc : TypeId × Value → H) :
    ReturnsInHanded {} Try.checked os 3 .any (Rows.dictPlaysSpec.pre6 enc Try.prog Try.f3 Rows.dictPlaysRow.domain false) (Rows.dictPlaysSpec.post enc Try.prog Try.f3 false true false false) := by
  refine returnsInHanded_of_change_sized (C := Try.checked) own started (by kernel_rfl) Try.func3
    (ChangeSpec.witness6 (enc := enc) (C := Try.checked) false ⟨#[], #[.int .i64 0, .slice none 0 0], []⟩ 8 (by kernel_rfl) (by kernel_rfl) (by kernel_rfl) (by kernel_rfl)) ?_
  intro W base args ds gs before hval0 hW hcnd hsz0 _
  have hval : ∀ (j : Nat) t v, Try.f3.params[j]? = some t → args[j]? = some v → Value.okWide Try.prog W .any base t v := hval0
  have hsz : (DataW.weightsEach Try.prog (Try.f3.params.toList ++ Rows.dictPlaysSpec.plain.varTypes Try.prog) (ds ++ gs)).all (· ≤ reachBytes) = true := hsz0
  have hW' := hW
  obtain ⟨p, q, hA0, hV, rfl, hfz, hnd⟩ := hW
  have hA : DataW.TrodAll enc Try.prog W 0 (fun _ => true) true Try.f3.params.toList args.toList ds p := hA0
  rw [Try.params3] at hA hval hsz
  obtain ⟨v0, vs0, d0, ds0, p0, q0, hargs, rfl, rfl, h0, r0⟩ := trodAll_cons hA
  obtain ⟨v1, vs1, d1, ds1, p1, q1, rfl, rfl, rfl, h1, r1⟩ := trodAll_cons r0
  obtain ⟨rfl, rfl, rfl⟩ := trodAll_nil r1
  obtain rfl : args = #[v0, v1] := by cases args; simp_all
  obtain ⟨rfl, rfl⟩ := trodVars_none hV
  obtain ⟨a0, rfl, rfl, rfl, w0⟩ := open_int Try.underlying3 (hval 0 3 v0 rfl rfl) h0
  have hlt1 : ∀ x ∈ p1, x.block < W.heap.size := fun x hx => by simpa using hW'.lt x (by simp [hx])
  have hk1 := h1
  obtain ⟨ad1, ln1, cp1, rfl⟩ := okWide_slice Try.underlying22 (hval 1 22 v1 rfl rfl)
  obtain ⟨fuel1, hf1⟩ := h1
  obtain ⟨g1, o1, hA1', hL1, hO1⟩ := open_ops (x := (d1, p1)) (j := 1) (by simpa [Value.cells] using hf1) hsz rfl rfl
  clear hA0 hval0 hsz0
  refine (Plays_walk a0 ad1 g1 o1 ln1 cp1 W hA1' hL1 hO1).mono fun e W' ⟨he, bel⟩ => ?_
  subst he
  exact ⟨_, rfl, _, _, _, [], _, [], hW', trodAll_mk1 (shut_bool Try.underlying4 _), (trodAll_cons_mk (shut_int Try.underlying3 w0) (trodAll_cons_mk (Below.trod laidOut (by kernel_rfl) (of_decide_eq_true (by kernel_rfl)) hk1 bel hlt1) trodAll_mk0)), rfl, bel.frame _, fun h => by cases h⟩

theorem over : Rows.dictPlaysRow.holds Try.pinned (OpenSpec.ofChange Rows.dictPlaysSpec) :=
  OpenClaim.holds_of_wide 3 Try.f3 rfl rfl rfl rfl rfl rfl rfl ⟨rfl, rfl, rfl, rfl, rfl⟩ rfl rfl rfl rfl rfl (by kernel_rfl) Try.func3 (by kernel_rfl)
    (of_decide_eq_true (by kernel_rfl)) (by unfold Func.isWrapper; first | (rw [if_pos (by decide +kernel)]; kernel_rfl) | (rw [if_neg (by decide +kernel)]; exact ⟨rfl, rfl⟩))
    (fun os started H enc _ => lifted os started H enc)
end Go.Proofs.Ytdemodhjlbkbeab.dictPlays
namespace Go.Proofs.Ytdemodhjlbkbeab
theorem dictPlays_holds : Rows.DictPlaysSaid := dictPlays.over
#print axioms dictPlays_holds
end Go.Proofs.Ytdemodhjlbkbeab
