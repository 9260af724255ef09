import Derived.Test.YthjcbolbbdclnaaNewT
import Derived.Test.YthjcbolbbdclnaaAlike
import Derived.Test.YthjcbolbbdclnaaRuns
import Derived.Test.YthjcbolbbdclnaaPutC
namespace Go.Proofs.Ythjcbolbbdclnaa
open Go.RowKit Lz
set_option linter.unusedVariables false
theorem Tab.onB {w w' : World} {B b gh ga sh W m : Nat} {s : ByteArray} (h : Tab w b gh ga sh W s m) (hb : Below B w w') (h1 : b < B) (h2 : gh < B) (h3 : ga < B) : Tab w' b gh ga sh W s m := by
  obtain ⟨hs, e1, e2, e3⟩ := h.heads
  obtain ⟨bs, f1, f2, f3⟩ := h.aheads
  exact ⟨by rw [hb.block _ h1]; exact h.row, ⟨hs, by rw [hb.block _ h2]; exact e1, e2, e3⟩, ⟨bs, by rw [hb.block _ h3]; exact f1, f2, f3⟩, h.h1, h.h2, h.h3, h.small, h.hW, h.hsh⟩
theorem Tab.drew {w : World} {b gh ga sh W m : Nat} {s : ByteArray} (h : Tab w b gh ga sh W s m) (n : Nat) : Tab (w.drewN n) b gh ga sh W s m := ⟨h.row, h.heads, h.aheads, h.h1, h.h2, h.h3, h.small, h.hW, h.hsh⟩
theorem step_skip {l : List UInt8} {k wn : Nat} {o : List UInt8} (h : stepsTo l k = (o, wn)) (hk : k < wn) : stepsTo l (k + 1) = (o, wn) := by
  simp only [stepsTo]
  rw [h]
  unfold Lz.step
  rw [if_neg (by show ¬ wn ≤ k; omega)]
theorem step_none {l : List UInt8} {k wn : Nat} {o : List UInt8} (h : stepsTo l k = (o, wn)) (hk : wn ≤ k) (hf : findF l k = 0) : stepsTo l (k + 1) = (o, wn) := by
  simp only [stepsTo]
  rw [h]
  unfold Lz.step
  rw [if_pos (by exact hk), if_pos hf]
theorem step_copy {l : List UInt8} {k wn f : Nat} {o : List UInt8} (h : stepsTo l k = (o, wn)) (hk : wn ≤ k) (hf : findF l k = f) (h0 : f ≠ 0) :
    stepsTo l (k + 1) = ((o ++ runs ((l.drop wn).take (k - wn))) ++ copyP f (alikeF l (k - f) k), k + alikeF l (k - f) k) := by
  simp only [stepsTo]
  rw [h]
  unfold Lz.step
  rw [if_pos (by exact hk), hf, if_neg h0]
theorem alike_eq (s : ByteArray) (a k : Nat) (ha : a ≤ k) (hk : k ≤ s.size) : firstBad (alikeP (s.extract a s.size) (s.extract k s.size)) (min (s.extract k s.size).size 264) 0 = alikeF s.data.toList a k := by
  unfold alikeF
  have e : alikeP (s.extract a s.size) (s.extract k s.size) = fun j => s.data.toList.getD (a + j) 0 == s.data.toList.getD (k + j) 0 := by
    funext j
    unfold alikeP
    rw [ext_drop, ext_drop]
    simp only [List.getD_eq_getElem?_getD, List.getElem?_drop]
  rw [e, ext_size _ _ _ (Nat.le_refl _), list_len]
set_option maxHeartbeats 4000000 in
set_option maxRecDepth 20000 in
theorem pieces_any (s : ByteArray) (hm : s.size ≤ 524288) (w : World) :
    Calls Try.prog 12 #[.string s] w fun e w' => ∃ v base, e = .returned v ∧ w'.ownsRow base 5 1 v (piecesF s.data.toList).length (bcells (piecesF s.data.toList)) ∧ Below w.heap.size w w' := by
  go_enter Try.func12, Try.ntmps12
  go_wp2_with fail
  refine (newTable_any w s hm).mono ?_
  rintro e w1 ⟨b, gh, ga, sh, W, rfl, hT, hb1, q1, q2, q3, q4, q5⟩
  have HT : Hid (Tab w1 b gh ga sh W s 0) := hT
  have HB1 : Hid (Below w.heap.size w w1) := hb1
  clear hT hb1
  go_wp2
  go_loopw [3, 5, 6, 7, 8, 9, 16] (fun v wn _ _ _ _ i wr => ∃ (k : Nat) (o : List UInt8) (m : Nat), (k + 2 ≤ s.size ∨ k = 0) ∧ i = .int .i64 k ∧ wn = .int .i64 m ∧ stepsTo s.data.toList k = (o, m) ∧ wr.ownsRow w1.heap.size 5 1 v o.length (bcells o) ∧ Tab wr b gh ga sh W s k ∧ Below w.heap.size w wr ∧ w1.heap.size ≤ wr.heap.size) (fun _ _ _ _ _ _ i _ => s.size - (intOf i).toNat)
  case atStart => exact ⟨0, [], 0, Or.inr rfl, rfl, rfl, rfl, World.ownsRow_nil _ _ _ _, HT.out, HB1.out, Nat.le_refl _⟩
  case round =>
    obtain ⟨k, o, m, hk, rfl, rfl, hst, hown, hT, hbel, hwz⟩ := hrel
    have HST : Hid (stepsTo s.data.toList k = (o, m)) := hst
    have HW : Hid (wr.ownsRow w1.heap.size 5 1 u3 o.length (bcells o)) := hown
    have HTT : Hid (Tab wr b gh ga sh W s k) := hT
    have HB : Hid (Below w.heap.size w wr) := hbel
    have hbd := steps_bound s.data.toList k (by rw [list_len]; exact hk)
    rw [hst, list_len] at hbd
    have hm1 : m ≤ s.size := hbd.1
    have ho1 : 32 * o.length ≤ 33 * s.size := hbd.2
    have ho2 : o.length ≤ 600000 := by omega
    clear hst hown hT hbel hbd
    by_cases hlt : k + 2 < s.size
    · have hk3 : k + 3 ≤ s.size := by omega
      by_cases hkm : k < m
      · have HSS : Hid (stepsTo s.data.toList (k + 1) = (o, m)) := step_skip HST.out hkm
        clear ho1
        go_wp2_with fail
        refine (note_any _ b gh ga sh W s k HTT.out hk3 hm).mono ?_
        rintro e wN ⟨⟨vN, rfl⟩, hTN, hNF⟩
        have HTN : Hid (Tab wN b gh ga sh W s (k + 1)) := hTN
        have HWN : Hid (wN.ownsRow w1.heap.size 5 1 u3 o.length (bcells o)) := own_keep HW.out (fun j h1 _ => hNF.other j (by omega) (by omega))
        have HBN : Hid (Below w.heap.size w wN) := HB.out.trans ⟨hNF.os, hNF.tape, hNF.output, by rw [hNF.size]; exact Nat.le_refl _, fun j hj => hNF.other j (by omega) (by omega)⟩
        have hzN : w1.heap.size ≤ wN.heap.size := by rw [hNF.size]; exact hwz
        clear hTN hNF
        go_wp2
        go_roundw
        case rel => exact ⟨k + 1, o, m, by omega, by go_num, rfl, HSS.out, HWN.out, HTN.out, HBN.out, hzN⟩
        case measure => simp [intOf]; omega
      · have HF : Hid _ := find_any wr b gh ga sh W s k HTT.out hk3 hm
        by_cases hf0 : findF s.data.toList k = 0
        · have HSS : Hid (stepsTo s.data.toList (k + 1) = (o, m)) := step_none HST.out (by omega) hf0
          have HFT : Hid _ := findT_no hf0
          clear hf0 ho1
          go_wp2_with fail
          refine (show Calls _ _ _ _ _ from HF.out).mono ?_
          rintro e wF ⟨rfl, nf, rfl⟩
          rw [HFT.out]
          go_wp2_with fail
          refine (note_any _ b gh ga sh W s k (HTT.out.drew nf) hk3 hm).mono ?_
          rintro e wN ⟨⟨vN, rfl⟩, hTN, hNF⟩
          have HTN : Hid (Tab wN b gh ga sh W s (k + 1)) := hTN
          have HWN : Hid (wN.ownsRow w1.heap.size 5 1 u3 o.length (bcells o)) := own_keep (own_keep HW.out (fun j _ _ => rfl)) (fun j h1 _ => hNF.other j (by omega) (by omega))
          have HBN : Hid (Below w.heap.size w wN) := (below_dn HB.out nf).trans ⟨hNF.os, hNF.tape, hNF.output, by rw [hNF.size]; exact Nat.le_refl _, fun j hj => hNF.other j (by omega) (by omega)⟩
          have hzN : w1.heap.size ≤ wN.heap.size := by rw [hNF.size]; exact hwz
          clear hTN hNF
          go_wp2
          go_roundw
          case rel => exact ⟨k + 1, o, m, by omega, by go_num, rfl, HSS.out, HWN.out, HTN.out, HBN.out, hzN⟩
          case measure => simp [intOf]; omega
        · obtain ⟨f, hf⟩ : ∃ f, findF s.data.toList k = f := ⟨_, rfl⟩
          have hpp := findF_props hf0
          rw [hf] at hpp hf0
          obtain ⟨p1, p2, p3⟩ := hpp
          obtain ⟨a1, a2, a3, a4⟩ := alikeF_props (l := s.data.toList) (a := k - f) (b := k) (by rw [list_len]; exact hk3) p3
          rw [list_len] at a3
          have hsc := step_copy HST.out (by omega) hf hf0
          obtain ⟨n, hn⟩ : ∃ n, alikeF s.data.toList (k - f) k = n := ⟨_, rfl⟩
          rw [hn] at a1 a2 a3 hsc
          have HSS : Hid _ := hsc
          have HFT : Hid _ := findT_yes hf hf0
          obtain ⟨a, ha⟩ : ∃ a, k - f = a := ⟨_, rfl⟩
          have hza : (s.extract a s.size).size = s.size - a := by rw [ext_size _ _ _ (Nat.le_refl _)]
          have hzk : (s.extract k s.size).size = s.size - k := by rw [ext_size _ _ _ (Nat.le_refl _)]
          have hal : ∀ w : World, Calls Try.prog 17 #[.string (s.extract a s.size), .string (s.extract k s.size)] w fun e w' => e = .returned (.int .i64 (n : Int)) ∧ ∃ n, w' = w.drewN n := fun w => by
            have := alike_any (s.extract a s.size) (s.extract k s.size) (by omega) (by omega) w
            rw [alike_eq s a k (by omega) (by omega), ← ha, hn] at this
            rw [← ha]
            exact this
          have HAL : Hid (∀ w : World, _) := hal
          have wa : IntKind.i64.wrap ((k : Int) - (f : Int)) = (a : Int) := by rw [IntKind.wrap_i64]; omega
          have hak : a ≤ s.size := by omega
          have hks : k ≤ s.size := by omega
          have HRS : Hid ((s.extract m k).data.toList = (s.data.toList.drop m).take (k - m)) := ext_any s m k
          have hmk : m ≤ k := by omega
          have hzr : (s.extract m k).size ≤ 524288 := by rw [ext_size _ _ _ hks]; omega
          have hrl : (runs (s.extract m k).data.toList).length ≤ 1000000 := by rw [runs_len, list_len]; omega
          have HA4 : Hid (1 ≤ f ∧ f ≤ 8192 ∧ 3 ≤ n ∧ n ≤ 264) := ⟨by omega, p2, a1, a2⟩
          clear hal hsc hn hf p3 a4 ha hza hzk ho1
          go_wp2_with fail
          refine (show Calls _ _ _ _ _ from HF.out).mono ?_
          rintro e wF ⟨rfl, nf, hwF⟩
          have HTF : Hid (Tab wF b gh ga sh W s k) := by rw [hwF]; exact HTT.out.drew nf
          have HWF : Hid (wF.ownsRow w1.heap.size 5 1 u3 o.length (bcells o)) := by rw [hwF]; exact own_keep HW.out (fun j _ _ => rfl)
          have HBF : Hid (Below w.heap.size w wF) := by rw [hwF]; exact below_dn HB.out nf
          have hzF : w1.heap.size ≤ wF.heap.size := by rw [hwF]; exact hwz
          clear hwF
          rw [HFT.out]
          go_wp2_with fail
          go_quiet ((go_at_call 17; exact Calls.quiet_of (HAL.out _)))
          go_wp2_with fail
          refine (putRuns_any w1.heap.size u3 o (s.extract m k) (wF.drewN nq) hzr (by omega) hzF (own_keep HWF.out (fun j _ _ => rfl))).mono ?_
          rintro e wP ⟨vP, rfl, hownP, hbP⟩
          have HWP : Hid (wP.ownsRow w1.heap.size 5 1 vP (o ++ runs (s.extract m k).data.toList).length (bcells (o ++ runs (s.extract m k).data.toList))) := hownP
          have hzP : w1.heap.size ≤ wP.heap.size := Nat.le_trans hzF hbP.size
          have HTP : Hid (Tab wP b gh ga sh W s k) := (HTF.out.drew nq).onB hbP q1 q2 q3
          have HBP : Hid (Below w.heap.size w wP) := (below_dn HBF.out nq).trans (hbP.mono HB1.out.size)
          have hlP : (o ++ runs (s.extract m k).data.toList).length ≤ 2000000 := by rw [List.length_append]; omega
          have HSX : Hid (stepsTo s.data.toList (k + 1) = ((o ++ runs (s.extract m k).data.toList) ++ copyP f n, k + n)) := by
            show _ = _
            rw [HSS.out, HRS.out]
          clear hownP hbP
          generalize o ++ runs (s.extract m k).data.toList = o1 at *
          go_wp2_with fail
          refine (putCopy_any w1.heap.size vP o1 f n _ HA4.out.1 HA4.out.2.1 HA4.out.2.2.1 HA4.out.2.2.2 hlP hzP HWP.out).mono ?_
          rintro e wC ⟨vC, rfl, hownC, hbC⟩
          have HWC : Hid (wC.ownsRow w1.heap.size 5 1 vC (o1 ++ copyP f n).length (bcells (o1 ++ copyP f n))) := hownC
          have hzC : w1.heap.size ≤ wC.heap.size := Nat.le_trans hzP hbC.size
          have HTC : Hid (Tab wC b gh ga sh W s k) := HTP.out.onB hbC q1 q2 q3
          have HBC : Hid (Below w.heap.size w wC) := HBP.out.trans (hbC.mono HB1.out.size)
          clear hownC hbC
          go_wp2_with fail
          refine (note_any _ b gh ga sh W s k HTC.out hk3 hm).mono ?_
          rintro e wN ⟨⟨vN, rfl⟩, hTN, hNF⟩
          have HTN : Hid (Tab wN b gh ga sh W s (k + 1)) := hTN
          have HWN : Hid (wN.ownsRow w1.heap.size 5 1 vC (o1 ++ copyP f n).length (bcells (o1 ++ copyP f n))) := own_keep HWC.out (fun j h1 _ => hNF.other j (by omega) (by omega))
          have HBN : Hid (Below w.heap.size w wN) := HBC.out.trans ⟨hNF.os, hNF.tape, hNF.output, by rw [hNF.size]; exact Nat.le_refl _, fun j hj => hNF.other j (by omega) (by omega)⟩
          have hzN : w1.heap.size ≤ wN.heap.size := by rw [hNF.size]; exact hzC
          clear hTN hNF
          go_wp2
          go_roundw
          case rel => exact ⟨k + 1, (o1 ++ copyP f n), k + n, by omega, by go_num, (by go_num), HSX.out, HWN.out, HTN.out, HBN.out, hzN⟩
          case measure => simp [intOf]; omega
    · have hke : k = s.size - 2 := by omega
      have hzs : (s.extract m s.size).size ≤ 524288 := by rw [ext_size _ _ _ (Nat.le_refl _)]; omega
      have HPF : Hid (piecesF s.data.toList = o ++ runs (s.extract m s.size).data.toList) := by
        show _ = _
        unfold piecesF
        rw [list_len, ← hke, HST.out, ext_drop]
      clear hke ho1
      go_wp2_with fail
      refine (putRuns_any w1.heap.size u3 o (s.extract m s.size) _ hzs (by omega) hwz HW.out).mono ?_
      rintro e wP ⟨vP, rfl, hownP, hbP⟩
      have HWP : Hid (wP.ownsRow w1.heap.size 5 1 vP (piecesF s.data.toList).length (bcells (piecesF s.data.toList))) := by rw [HPF.out]; exact hownP
      have HBP : Hid (Below w.heap.size w wP) := HB.out.trans (hbP.mono HB1.out.size)
      clear hownP hbP
      go_wp2
      go_ret
      exact ⟨_, _, rfl, HWP.out, HBP.out⟩
end Go.Proofs.Ythjcbolbbdclnaa
