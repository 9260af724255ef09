import Derived.Test.YtgbplghokciimaaDoorSkH
import Derived.Test.YtgbplghokciimaaDoorSkD
import Derived.Test.YtgbplghokciimaaDoorSkL
namespace Go.Proofs.YtgbplghokciimaaDoor
open Go.RowKit
set_option linter.unusedVariables false
theorem cells3k {w : World} {g T : Nat} {v0 v1 v2 : Value} (h : w.heap[g]? = some (.cells #[v0, v1, v2] T)) :
    w.cell? ⟨g, 0, none⟩ = some v0 ∧ w.cell? ⟨g, 1, none⟩ = some v1 ∧ w.cell? ⟨g, 2, none⟩ = some v2 ∧ ∀ j, w.frozen? ⟨g, j, none⟩ = false := by
  refine ⟨?_, ?_, ?_, fun j => frozen_of_row _ _ _ _ _ h⟩ <;> rw [cell_of_row _ _ _ _ _ _ h] <;> rfl
set_option maxHeartbeats 4000000 in
set_option maxRecDepth 100000 in
theorem rByScore_any (Q : Nat → Prop) (seed : Int) (v : Value) (l : List En) (hl : l.length ≤ 1000000) (lo hi : SBd) (back : Bool) (skip most : Int) (hsk : -9223372036854775808 ≤ skip ∧ skip ≤ 9223372036854775807) (w : World) (h : ERow Q w v l) : Calls Tryd.prog 50 #[bval seed v, bdV lo, bdV hi, .bool back, .int .i64 skip, .int .i64 most] w fun e w' => ∃ r, e = .returned r ∧ ERow (fun q => w.heap.size ≤ q) w' r (cutE (turnE (rngS l lo hi) back) skip most) ∧ Below w.heap.size w w' := by
  obtain ⟨P, c, rfl⟩ := h.form
  have HI : Hid (ERow Q w _ l) := h
  have HRL : Hid (∀ i, ((l.take i).filter fun e => loS e.2.1 lo && hiS e.2.1 hi).length ≤ 1000000) := fun i => by
    have h1 := List.length_filter_le (fun e : En => loS e.2.1 lo && hiS e.2.1 hi) (l.take i)
    rw [List.length_take] at h1
    omega
  have HSN : Hid _ := fun (i : Nat) (hi' : i < l.length) => filt_snoc (fun e : En => loS e.2.1 lo && hiS e.2.1 hi) hi'
  have HEND : Hid (rngS l lo hi = (l.take l.length).filter fun e => loS e.2.1 lo && hiS e.2.1 hi) := by show _ = _; rw [List.take_length]; rfl
  have HIN : Hid _ := fun (X : En) W => rInScore_any X.2.1 lo hi W
  obtain ⟨l0, l1, l2⟩ := lo
  obtain ⟨h0, h1, h2⟩ := hi
  obtain ⟨W3, hW3⟩ : ∃ W3, W3 = ((w.alloc (.cells #[.int .i64 seed, .slice P l.length c] 51)).alloc (.cells #[.int .i64 l0, .int .i64 l1, .bool l2] 28)).alloc (.cells #[.int .i64 h0, .int .i64 h1, .bool h2] 28) := ⟨_, rfl⟩
  obtain ⟨q0, q1, q2, q3, q4⟩ := alloc3 w (.cells #[.int .i64 seed, .slice P l.length c] 51) (.cells #[.int .i64 l0, .int .i64 l1, .bool l2] 28) (.cells #[.int .i64 h0, .int .i64 h1, .bool h2] 28)
  rw [← hW3] at q0 q1 q2 q3 q4
  have HQ : Hid _ := And.intro q0 (And.intro q1 (And.intro q2 (And.intro q3 q4)))
  have HPP : Hid (∀ X : En, (loS X.2.1 (l0, l1, l2) && hiS X.2.1 (h0, h1, h2)) = (fun e : En => loS e.2.1 (l0, l1, l2) && hiS e.2.1 (h0, h1, h2)) X) := fun X => rfl
  clear h q0 q1 q2 q3 q4
  generalize (fun e : En => loS e.2.1 (l0, l1, l2) && hiS e.2.1 (h0, h1, h2)) = p at *
  generalize rngS l (l0, l1, l2) (h0, h1, h2) = RG at *
  go_enter Tryd.func50, Tryd.ntmps50
  go_wp2
  rw [← hW3]
  clear hW3
  obtain ⟨bb, hbb⟩ : ∃ bb, w.heap.size = bb := ⟨_, rfl⟩
  obtain ⟨lb, hlb⟩ : ∃ lb, bb + 1 = lb := ⟨_, rfl⟩
  obtain ⟨hb, hhb⟩ : ∃ hb, lb + 1 = hb := ⟨_, rfl⟩
  rw [hbb, hlb, hhb] at HQ ⊢
  have HZ : Hid (w.heap.size = bb ∧ bb + 1 = lb ∧ lb + 1 = hb ∧ W3.heap.size = hb + 1) := ⟨hbb, hlb, hhb, by have := HQ.out.2.2.2.1; omega⟩
  have HQ5 : Hid (Below w.heap.size w W3) := by rw [hbb]; exact HQ.out.2.2.2.2
  clear hbb hlb hhb
  go_loopw [13, 14] (fun co ci wr => ∃ i : Nat, i ≤ l.length ∧ ci = .int .i64 (i : Int) ∧ wr.ownsRow W3.heap.size 92 3 co ((l.take i).filter p).length (flat3 ((l.take i).filter p)) ∧ Below W3.heap.size W3 wr) (fun _ ci _ => l.length - (intOf ci).toNat)
  case atStart => exact ⟨0, Nat.zero_le _, rfl, ⟨rfl, Or.inl ⟨rfl, rfl⟩⟩, Below.refl _ _⟩
  case round =>
    obtain ⟨i, hi, rfl, how, hbw⟩ := hrel
    obtain ⟨P8, k8, hkf⟩ := own_form how
    subst hkf
    have HBW : Hid (Below W3.heap.size W3 wr) := hbw
    have HBww : Hid (Below w.heap.size w wr) := bel_to HQ5.out hbw (Nat.le_refl _)
    obtain ⟨t, ht⟩ : ∃ t, ((l.take i).filter p).length = t := ⟨_, rfl⟩
    have HT : Hid (((l.take i).filter p).length = t) := ht
    rw [ht] at how ⊢
    have HOW : Hid (wr.ownsRow W3.heap.size 92 3 (.slice P8 t k8) t (flat3 ((l.take i).filter p))) := how
    obtain ⟨b0, b1, bf⟩ := cells2 (keep_row HQ.out.1 hbw)
    obtain ⟨x0, x1, x2, xf⟩ := cells3k (keep_row HQ.out.2.1 hbw)
    obtain ⟨y0, y1, y2, yf⟩ := cells3k (keep_row HQ.out.2.2.1 hbw)
    clear how hbw ht
    by_cases hlt : i < l.length
    · obtain ⟨g, c', hf, p1, p2, p3⟩ := (HI.out.on HBww.out).cells hlt
      obtain ⟨rfl, _, rfl⟩ : P = some ⟨g, 0, none⟩ ∧ True ∧ c = c' := by injection hf with h1 h2 h3; exact ⟨h1, trivial, h3⟩
      have HS1 : Hid _ := HSN.out i hlt
      have hz3 : (0 : Int) ≤ (i : Int) := by omega
      have hz4 : (i : Int) < (l.length : Int) := by omega
      have hiw : IntKind.i64.wrap ((i : Int) + 1) = (i : Int) + 1 := by rw [IntKind.wrap_i64] <;> omega
      have HTB : Hid (t ≤ 1000000) := by rw [← HT.out]; exact HRL.out i
      clear hf
      obtain ⟨X, hX⟩ : ∃ X, l[i] = X := ⟨_, rfl⟩
      rw [hX] at p1 p2 p3 HS1
      clear hX
      have hd : Below wr.heap.size wr wr.drew := (Below.refl _ wr).drew
      have HCALL : Hid _ := HIN.out X wr.drew
      obtain ⟨pb, hpb⟩ : ∃ pb, p X = pb := ⟨_, rfl⟩
      have HPB : Hid (p X = pb) := hpb
      have HCV : Hid ((loS X.2.1 (l0, l1, l2) && hiS X.2.1 (h0, h1, h2)) = pb) := by rw [← hpb]; exact HPP.out X
      rw [HCV.out] at HCALL
      clear hpb
      have hS := And.intro b1 (And.intro p2 (And.intro x0 (And.intro x1 (And.intro x2 (And.intro y0 (And.intro y1 y2))))))
      cases pb with
      | true =>
        go_upto_region 5 with fail
        go_region_held3 (fun w' : World => w'.cell? ⟨bb, 1, none⟩ = some (.slice (some ⟨g, 0, none⟩) l.length c) ∧ w'.cell? ⟨g, i * 3 + 1, none⟩ = some (.int .i64 X.2.1) ∧ w'.cell? ⟨lb, 0, none⟩ = some (.int .i64 l0) ∧ w'.cell? ⟨lb, 1, none⟩ = some (.int .i64 l1) ∧ w'.cell? ⟨lb, 2, none⟩ = some (.bool l2) ∧ w'.cell? ⟨hb, 0, none⟩ = some (.int .i64 h0) ∧ w'.cell? ⟨hb, 1, none⟩ = some (.int .i64 h1) ∧ w'.cell? ⟨hb, 2, none⟩ = some (.bool h2))
          (first | exact hS | exact hS2)
          (first | (go_at_call 75; refine (show Calls _ _ _ _ _ from HCALL.out).mono ?_; rintro e w2 ⟨rfl, hb2⟩; have hb2' := hd.trans hb2; have hS2 := And.intro (cell_on b1 hb2') (And.intro (cell_on p2 hb2') (And.intro (cell_on x0 hb2') (And.intro (cell_on x1 hb2') (And.intro (cell_on x2 hb2') (And.intro (cell_on y0 hb2') (And.intro (cell_on y1 hb2') (cell_on y2 hb2')))))))))
        have HO2 : Hid (w2.ownsRow W3.heap.size 92 3 (.slice P8 t k8) t (flat3 ((l.take i).filter p))) := own_keep HOW.out (fun q _ hq => hb2'.block q hq)
        have HB2 : Hid (Below W3.heap.size W3 w2) := bel_to HBW.out hb2' (Nat.le_refl _)
        have e1 := cell_on b1 hb2'
        have q1 := cell_on p1 hb2'
        have q2 := cell_on p2 hb2'
        have q3 := cell_on p3 hb2'
        have HNX : Hid ((l.take (i + 1)).filter p = (l.take i).filter p ++ [X]) := by show _ = _; rw [HS1.out, if_pos HCV.out]
        clear hS hS2 hb2 hb2' b0 b1 bf x0 x1 x2 xf y0 y1 y2 yf p1 p2 p3 hd
        obtain ⟨W2, hW2⟩ : ∃ W2, W2 = w2.alloc (.cells #[.string X.1, .int .i64 X.2.1, .int .i64 X.2.2] 92) := ⟨_, rfl⟩
        have hb3 : Below w2.heap.size w2 W2 := by rw [hW2]; exact (Below.refl _ _).alloc (Nat.le_refl _) _
        have HX1 : Hid (ERow (fun _ => True) W2 (.slice (some ⟨w2.heap.size, 0, none⟩) 1 1) [X]) := ERow.one (by rw [hW2]; exact one_alloc _ _)
        have HO3 : Hid (W2.ownsRow W3.heap.size 92 3 (.slice P8 t k8) t (flat3 ((l.take i).filter p))) := own_keep HO2.out (fun q _ hq => hb3.block q hq)
        have HB3 : Hid (Below W3.heap.size W3 W2) := bel_to HB2.out hb3 (Nat.le_refl _)
        clear hb3
        go_upto_region 6 with fail
        go_wp2_with (at_builtin; rw [← hW2]; go_must (refine wpList_append_ens rfl _ _ rfl W3.heap.size _ _ t HT.out.symm rfl HO3.out (fun _ => True) _ [X] rfl HX1.out (t + 1) (by rw [HT.out]; rfl) (by rw [HT.out]; have := HTB.out; simp; omega) HB3.out.size ?_))
        intro v5 w5 ho5 hg5
        rw [← hW2] at hg5
        have HB5 : Hid (Below W3.heap.size W3 w5) := HB3.out.grown hg5 HB3.out.size (own_ge HO3.out)
        obtain ⟨P9, k9, hkf⟩ := own_form ho5
        subst hkf
        have HO5 : Hid (w5.ownsRow W3.heap.size 92 3 (.slice P9 (t + 1) k9) ((l.take (i + 1)).filter p).length (flat3 ((l.take (i + 1)).filter p))) := by
          show World.ownsRow _ _ _ _ _ _ _
          rw [HNX.out, List.length_append, HT.out]; exact ho5
        clear ho5 hg5 hW2 e1 q1 q2 q3
        go_wp2
        go_roundw
        case rel => exact ⟨i + 1, hlt, by simp, HO5.out, HB5.out⟩
        case measure => simp [intOf]; omega
      | false =>
        go_upto_region 5 with fail
        go_region_held3 (fun w' : World => w'.cell? ⟨bb, 1, none⟩ = some (.slice (some ⟨g, 0, none⟩) l.length c) ∧ w'.cell? ⟨g, i * 3 + 1, none⟩ = some (.int .i64 X.2.1) ∧ w'.cell? ⟨lb, 0, none⟩ = some (.int .i64 l0) ∧ w'.cell? ⟨lb, 1, none⟩ = some (.int .i64 l1) ∧ w'.cell? ⟨lb, 2, none⟩ = some (.bool l2) ∧ w'.cell? ⟨hb, 0, none⟩ = some (.int .i64 h0) ∧ w'.cell? ⟨hb, 1, none⟩ = some (.int .i64 h1) ∧ w'.cell? ⟨hb, 2, none⟩ = some (.bool h2))
          (first | exact hS | exact hS2)
          (first | (go_at_call 75; refine (show Calls _ _ _ _ _ from HCALL.out).mono ?_; rintro e w2 ⟨rfl, hb2⟩; have hb2' := hd.trans hb2; have hS2 := And.intro (cell_on b1 hb2') (And.intro (cell_on p2 hb2') (And.intro (cell_on x0 hb2') (And.intro (cell_on x1 hb2') (And.intro (cell_on x2 hb2') (And.intro (cell_on y0 hb2') (And.intro (cell_on y1 hb2') (cell_on y2 hb2')))))))))
        have HNX : Hid ((l.take (i + 1)).filter p = (l.take i).filter p) := by show _ = _; rw [HS1.out, if_neg (by rw [HCV.out]; simp), List.append_nil]
        have HO2 : Hid (w2.ownsRow W3.heap.size 92 3 (.slice P8 t k8) ((l.take (i + 1)).filter p).length (flat3 ((l.take (i + 1)).filter p))) := by
          show World.ownsRow _ _ _ _ _ _ _
          rw [HNX.out, HT.out]; exact own_keep HOW.out (fun q _ hq => hb2'.block q hq)
        have HB2 : Hid (Below W3.heap.size W3 w2) := bel_to HBW.out hb2' (Nat.le_refl _)
        clear hS hS2 hb2 hb2' b0 b1 bf x0 x1 x2 xf y0 y1 y2 yf p1 p2 p3 hd
        go_wp2
        go_roundw
        case rel => exact ⟨i + 1, hlt, by simp, HO2.out, HB2.out⟩
        case measure => simp [intOf]; omega
    · have hie : i = l.length := by omega
      have hz4 : ¬ (i : Int) < (l.length : Int) := by omega
      have HF : Hid ((l.take i).filter p = RG) := by show _ = _; rw [HEND.out, hie]
      have he : ERow (fun _ => True) wr (.slice P8 t k8) RG := by
        rw [← HF.out]
        exact ERow.own_of HOW.out HT.out.symm (fun _ _ => trivial)
      have hRL : RG.length ≤ 1000000 := by rw [← HF.out]; exact HRL.out i
      have HTU : Hid _ := rturned_any (fun _ => True) (.slice P8 t k8) RG (by omega) back wr he
      have HRL2 : Hid (RG.length ≤ 1000000) := hRL
      clear hie he hRL x0 x1 x2 xf y0 y1 y2 yf
      go_wp2_with fail
      refine (show Calls _ _ _ _ _ from HTU.out).mono ?_
      rintro e w4 ⟨r4, rfl, ho4, hb4⟩
      have he4 : ERow (fun _ => True) w4 r4 (turnE RG back) := ERow.own_of ho4 (turnE_len RG back).symm (fun _ _ => trivial)
      have HCU : Hid _ := rcut_any (fun _ => True) r4 (turnE RG back) (by rw [turnE_len]; have := HRL2.out; omega) skip most hsk w4 he4
      have HB4 : Hid (Below w.heap.size w w4) := bel_to HBww.out hb4 (Nat.le_refl _)
      clear ho4 hb4 he4 b0 b1 bf
      go_wp2_with fail
      refine (show Calls _ _ _ _ _ from HCU.out).mono ?_
      rintro e w6 ⟨r6, rfl, ho6, hb6⟩
      have HE6 : Hid (ERow (fun q => w.heap.size ≤ q) w6 r6 (cutE (turnE RG back) skip most)) := ERow.own_of ho6 rfl (fun q hq => by have := HB4.out.size; omega)
      have HB6 : Hid (Below w.heap.size w w6) := bel_to HB4.out hb6 (Nat.le_refl _)
      clear ho6 hb6
      go_wp2
      go_returns
      exact ⟨_, rfl, HE6.out, HB6.out⟩
end Go.Proofs.YtgbplghokciimaaDoor
namespace Go.Proofs.YtgbplghokciimaaDoor
open Go.RowKit
set_option linter.unusedVariables false
def rngL (L : List En) (lo hi : LBd) : List En := L.filter fun e => loL e.1 lo && hiL e.1 hi
set_option maxHeartbeats 4000000 in
set_option maxRecDepth 100000 in
theorem rByLex_any (Q : Nat → Prop) (seed : Int) (v : Value) (l : List En) (hl : l.length ≤ 1000000) (lo hi : LBd) (back : Bool) (skip most : Int) (hsk : -9223372036854775808 ≤ skip ∧ skip ≤ 9223372036854775807) (w : World) (h : ERow Q w v l) : Calls Tryd.prog 52 #[bval seed v, lxV lo, lxV hi, .bool back, .int .i64 skip, .int .i64 most] w fun e w' => ∃ r, e = .returned r ∧ ERow (fun q => w.heap.size ≤ q) w' r (cutE (turnE (rngL l lo hi) back) skip most) ∧ Below w.heap.size w w' := by
  obtain ⟨P, c, rfl⟩ := h.form
  have HI : Hid (ERow Q w _ l) := h
  have HRL : Hid (∀ i, ((l.take i).filter fun e => loL e.1 lo && hiL e.1 hi).length ≤ 1000000) := fun i => by
    have h1 := List.length_filter_le (fun e : En => loL e.1 lo && hiL e.1 hi) (l.take i)
    rw [List.length_take] at h1
    omega
  have HSN : Hid _ := fun (i : Nat) (hi' : i < l.length) => filt_snoc (fun e : En => loL e.1 lo && hiL e.1 hi) hi'
  have HEND : Hid (rngL l lo hi = (l.take l.length).filter fun e => loL e.1 lo && hiL e.1 hi) := by show _ = _; rw [List.take_length]; rfl
  have HIN : Hid _ := fun (X : En) W => rInLex_any X.1 lo hi W
  obtain ⟨l0, l1, l2⟩ := lo
  obtain ⟨h0, h1, h2⟩ := hi
  obtain ⟨W3, hW3⟩ : ∃ W3, W3 = ((w.alloc (.cells #[.int .i64 seed, .slice P l.length c] 51)).alloc (.cells #[.string l0, .int .i64 l1, .bool l2] 30)).alloc (.cells #[.string h0, .int .i64 h1, .bool h2] 30) := ⟨_, rfl⟩
  obtain ⟨q0, q1, q2, q3, q4⟩ := alloc3 w (.cells #[.int .i64 seed, .slice P l.length c] 51) (.cells #[.string l0, .int .i64 l1, .bool l2] 30) (.cells #[.string h0, .int .i64 h1, .bool h2] 30)
  rw [← hW3] at q0 q1 q2 q3 q4
  have HQ : Hid _ := And.intro q0 (And.intro q1 (And.intro q2 (And.intro q3 q4)))
  have HPP : Hid (∀ X : En, (loL X.1 (l0, l1, l2) && hiL X.1 (h0, h1, h2)) = (fun e : En => loL e.1 (l0, l1, l2) && hiL e.1 (h0, h1, h2)) X) := fun X => rfl
  clear h q0 q1 q2 q3 q4
  generalize (fun e : En => loL e.1 (l0, l1, l2) && hiL e.1 (h0, h1, h2)) = p at *
  generalize rngL l (l0, l1, l2) (h0, h1, h2) = RG at *
  go_enter Tryd.func52, Tryd.ntmps52
  go_wp2
  rw [← hW3]
  clear hW3
  obtain ⟨bb, hbb⟩ : ∃ bb, w.heap.size = bb := ⟨_, rfl⟩
  obtain ⟨lb, hlb⟩ : ∃ lb, bb + 1 = lb := ⟨_, rfl⟩
  obtain ⟨hb, hhb⟩ : ∃ hb, lb + 1 = hb := ⟨_, rfl⟩
  rw [hbb, hlb, hhb] at HQ ⊢
  have HZ : Hid (w.heap.size = bb ∧ bb + 1 = lb ∧ lb + 1 = hb ∧ W3.heap.size = hb + 1) := ⟨hbb, hlb, hhb, by have := HQ.out.2.2.2.1; omega⟩
  have HQ5 : Hid (Below w.heap.size w W3) := by rw [hbb]; exact HQ.out.2.2.2.2
  clear hbb hlb hhb
  go_loopw [13, 14] (fun co ci wr => ∃ i : Nat, i ≤ l.length ∧ ci = .int .i64 (i : Int) ∧ wr.ownsRow W3.heap.size 92 3 co ((l.take i).filter p).length (flat3 ((l.take i).filter p)) ∧ Below W3.heap.size W3 wr) (fun _ ci _ => l.length - (intOf ci).toNat)
  case atStart => exact ⟨0, Nat.zero_le _, rfl, ⟨rfl, Or.inl ⟨rfl, rfl⟩⟩, Below.refl _ _⟩
  case round =>
    obtain ⟨i, hi, rfl, how, hbw⟩ := hrel
    obtain ⟨P8, k8, hkf⟩ := own_form how
    subst hkf
    have HBW : Hid (Below W3.heap.size W3 wr) := hbw
    have HBww : Hid (Below w.heap.size w wr) := bel_to HQ5.out hbw (Nat.le_refl _)
    obtain ⟨t, ht⟩ : ∃ t, ((l.take i).filter p).length = t := ⟨_, rfl⟩
    have HT : Hid (((l.take i).filter p).length = t) := ht
    rw [ht] at how ⊢
    have HOW : Hid (wr.ownsRow W3.heap.size 92 3 (.slice P8 t k8) t (flat3 ((l.take i).filter p))) := how
    obtain ⟨b0, b1, bf⟩ := cells2 (keep_row HQ.out.1 hbw)
    obtain ⟨x0, x1, x2, xf⟩ := cells3k (keep_row HQ.out.2.1 hbw)
    obtain ⟨y0, y1, y2, yf⟩ := cells3k (keep_row HQ.out.2.2.1 hbw)
    clear how hbw ht
    by_cases hlt : i < l.length
    · obtain ⟨g, c', hf, p1, p2, p3⟩ := (HI.out.on HBww.out).cells hlt
      obtain ⟨rfl, _, rfl⟩ : P = some ⟨g, 0, none⟩ ∧ True ∧ c = c' := by injection hf with h1 h2 h3; exact ⟨h1, trivial, h3⟩
      have HS1 : Hid _ := HSN.out i hlt
      have hz3 : (0 : Int) ≤ (i : Int) := by omega
      have hz4 : (i : Int) < (l.length : Int) := by omega
      have hiw : IntKind.i64.wrap ((i : Int) + 1) = (i : Int) + 1 := by rw [IntKind.wrap_i64] <;> omega
      have HTB : Hid (t ≤ 1000000) := by rw [← HT.out]; exact HRL.out i
      clear hf
      obtain ⟨X, hX⟩ : ∃ X, l[i] = X := ⟨_, rfl⟩
      rw [hX] at p1 p2 p3 HS1
      clear hX
      have hd : Below wr.heap.size wr wr.drew := (Below.refl _ wr).drew
      have HCALL : Hid _ := HIN.out X wr.drew
      obtain ⟨pb, hpb⟩ : ∃ pb, p X = pb := ⟨_, rfl⟩
      have HPB : Hid (p X = pb) := hpb
      have HCV : Hid ((loL X.1 (l0, l1, l2) && hiL X.1 (h0, h1, h2)) = pb) := by rw [← hpb]; exact HPP.out X
      rw [HCV.out] at HCALL
      clear hpb
      have hS := And.intro b1 (And.intro p1 (And.intro x0 (And.intro x1 (And.intro x2 (And.intro y0 (And.intro y1 y2))))))
      cases pb with
      | true =>
        go_upto_region 5 with fail
        go_region_held3 (fun w' : World => w'.cell? ⟨bb, 1, none⟩ = some (.slice (some ⟨g, 0, none⟩) l.length c) ∧ w'.cell? ⟨g, i * 3, none⟩ = some (.string X.1) ∧ w'.cell? ⟨lb, 0, none⟩ = some (.string l0) ∧ w'.cell? ⟨lb, 1, none⟩ = some (.int .i64 l1) ∧ w'.cell? ⟨lb, 2, none⟩ = some (.bool l2) ∧ w'.cell? ⟨hb, 0, none⟩ = some (.string h0) ∧ w'.cell? ⟨hb, 1, none⟩ = some (.int .i64 h1) ∧ w'.cell? ⟨hb, 2, none⟩ = some (.bool h2))
          (first | exact hS | exact hS2)
          (first | (go_at_call 78; refine (show Calls _ _ _ _ _ from HCALL.out).mono ?_; rintro e w2 ⟨rfl, hb2⟩; have hb2' := hd.trans hb2; have hS2 := And.intro (cell_on b1 hb2') (And.intro (cell_on p1 hb2') (And.intro (cell_on x0 hb2') (And.intro (cell_on x1 hb2') (And.intro (cell_on x2 hb2') (And.intro (cell_on y0 hb2') (And.intro (cell_on y1 hb2') (cell_on y2 hb2')))))))))
        have HO2 : Hid (w2.ownsRow W3.heap.size 92 3 (.slice P8 t k8) t (flat3 ((l.take i).filter p))) := own_keep HOW.out (fun q _ hq => hb2'.block q hq)
        have HB2 : Hid (Below W3.heap.size W3 w2) := bel_to HBW.out hb2' (Nat.le_refl _)
        have e1 := cell_on b1 hb2'
        have q1 := cell_on p1 hb2'
        have q2 := cell_on p2 hb2'
        have q3 := cell_on p3 hb2'
        have HNX : Hid ((l.take (i + 1)).filter p = (l.take i).filter p ++ [X]) := by show _ = _; rw [HS1.out, if_pos HCV.out]
        clear hS hS2 hb2 hb2' b0 b1 bf x0 x1 x2 xf y0 y1 y2 yf p1 p2 p3 hd
        obtain ⟨W2, hW2⟩ : ∃ W2, W2 = w2.alloc (.cells #[.string X.1, .int .i64 X.2.1, .int .i64 X.2.2] 92) := ⟨_, rfl⟩
        have hb3 : Below w2.heap.size w2 W2 := by rw [hW2]; exact (Below.refl _ _).alloc (Nat.le_refl _) _
        have HX1 : Hid (ERow (fun _ => True) W2 (.slice (some ⟨w2.heap.size, 0, none⟩) 1 1) [X]) := ERow.one (by rw [hW2]; exact one_alloc _ _)
        have HO3 : Hid (W2.ownsRow W3.heap.size 92 3 (.slice P8 t k8) t (flat3 ((l.take i).filter p))) := own_keep HO2.out (fun q _ hq => hb3.block q hq)
        have HB3 : Hid (Below W3.heap.size W3 W2) := bel_to HB2.out hb3 (Nat.le_refl _)
        clear hb3
        go_upto_region 6 with fail
        go_wp2_with (at_builtin; rw [← hW2]; go_must (refine wpList_append_ens rfl _ _ rfl W3.heap.size _ _ t HT.out.symm rfl HO3.out (fun _ => True) _ [X] rfl HX1.out (t + 1) (by rw [HT.out]; rfl) (by rw [HT.out]; have := HTB.out; simp; omega) HB3.out.size ?_))
        intro v5 w5 ho5 hg5
        rw [← hW2] at hg5
        have HB5 : Hid (Below W3.heap.size W3 w5) := HB3.out.grown hg5 HB3.out.size (own_ge HO3.out)
        obtain ⟨P9, k9, hkf⟩ := own_form ho5
        subst hkf
        have HO5 : Hid (w5.ownsRow W3.heap.size 92 3 (.slice P9 (t + 1) k9) ((l.take (i + 1)).filter p).length (flat3 ((l.take (i + 1)).filter p))) := by
          show World.ownsRow _ _ _ _ _ _ _
          rw [HNX.out, List.length_append, HT.out]; exact ho5
        clear ho5 hg5 hW2 e1 q1 q2 q3
        go_wp2
        go_roundw
        case rel => exact ⟨i + 1, hlt, by simp, HO5.out, HB5.out⟩
        case measure => simp [intOf]; omega
      | false =>
        go_upto_region 5 with fail
        go_region_held3 (fun w' : World => w'.cell? ⟨bb, 1, none⟩ = some (.slice (some ⟨g, 0, none⟩) l.length c) ∧ w'.cell? ⟨g, i * 3, none⟩ = some (.string X.1) ∧ w'.cell? ⟨lb, 0, none⟩ = some (.string l0) ∧ w'.cell? ⟨lb, 1, none⟩ = some (.int .i64 l1) ∧ w'.cell? ⟨lb, 2, none⟩ = some (.bool l2) ∧ w'.cell? ⟨hb, 0, none⟩ = some (.string h0) ∧ w'.cell? ⟨hb, 1, none⟩ = some (.int .i64 h1) ∧ w'.cell? ⟨hb, 2, none⟩ = some (.bool h2))
          (first | exact hS | exact hS2)
          (first | (go_at_call 78; refine (show Calls _ _ _ _ _ from HCALL.out).mono ?_; rintro e w2 ⟨rfl, hb2⟩; have hb2' := hd.trans hb2; have hS2 := And.intro (cell_on b1 hb2') (And.intro (cell_on p1 hb2') (And.intro (cell_on x0 hb2') (And.intro (cell_on x1 hb2') (And.intro (cell_on x2 hb2') (And.intro (cell_on y0 hb2') (And.intro (cell_on y1 hb2') (cell_on y2 hb2')))))))))
        have HNX : Hid ((l.take (i + 1)).filter p = (l.take i).filter p) := by show _ = _; rw [HS1.out, if_neg (by rw [HCV.out]; simp), List.append_nil]
        have HO2 : Hid (w2.ownsRow W3.heap.size 92 3 (.slice P8 t k8) ((l.take (i + 1)).filter p).length (flat3 ((l.take (i + 1)).filter p))) := by
          show World.ownsRow _ _ _ _ _ _ _
          rw [HNX.out, HT.out]; exact own_keep HOW.out (fun q _ hq => hb2'.block q hq)
        have HB2 : Hid (Below W3.heap.size W3 w2) := bel_to HBW.out hb2' (Nat.le_refl _)
        clear hS hS2 hb2 hb2' b0 b1 bf x0 x1 x2 xf y0 y1 y2 yf p1 p2 p3 hd
        go_wp2
        go_roundw
        case rel => exact ⟨i + 1, hlt, by simp, HO2.out, HB2.out⟩
        case measure => simp [intOf]; omega
    · have hie : i = l.length := by omega
      have hz4 : ¬ (i : Int) < (l.length : Int) := by omega
      have HF : Hid ((l.take i).filter p = RG) := by show _ = _; rw [HEND.out, hie]
      have he : ERow (fun _ => True) wr (.slice P8 t k8) RG := by
        rw [← HF.out]
        exact ERow.own_of HOW.out HT.out.symm (fun _ _ => trivial)
      have hRL : RG.length ≤ 1000000 := by rw [← HF.out]; exact HRL.out i
      have HTU : Hid _ := rturned_any (fun _ => True) (.slice P8 t k8) RG (by omega) back wr he
      have HRL2 : Hid (RG.length ≤ 1000000) := hRL
      clear hie he hRL x0 x1 x2 xf y0 y1 y2 yf
      go_wp2_with fail
      refine (show Calls _ _ _ _ _ from HTU.out).mono ?_
      rintro e w4 ⟨r4, rfl, ho4, hb4⟩
      have he4 : ERow (fun _ => True) w4 r4 (turnE RG back) := ERow.own_of ho4 (turnE_len RG back).symm (fun _ _ => trivial)
      have HCU : Hid _ := rcut_any (fun _ => True) r4 (turnE RG back) (by rw [turnE_len]; have := HRL2.out; omega) skip most hsk w4 he4
      have HB4 : Hid (Below w.heap.size w w4) := bel_to HBww.out hb4 (Nat.le_refl _)
      clear ho4 hb4 he4 b0 b1 bf
      go_wp2_with fail
      refine (show Calls _ _ _ _ _ from HCU.out).mono ?_
      rintro e w6 ⟨r6, rfl, ho6, hb6⟩
      have HE6 : Hid (ERow (fun q => w.heap.size ≤ q) w6 r6 (cutE (turnE RG back) skip most)) := ERow.own_of ho6 rfl (fun q hq => by have := HB4.out.size; omega)
      have HB6 : Hid (Below w.heap.size w w6) := bel_to HB4.out hb6 (Nat.le_refl _)
      clear ho6 hb6
      go_wp2
      go_returns
      exact ⟨_, rfl, HE6.out, HB6.out⟩
end Go.Proofs.YtgbplghokciimaaDoor
