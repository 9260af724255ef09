import Derived.Test.YtgbplghokciimaaDoorRA
import Derived.Deep.RegionLaw
import Derived.Deep.CutRange
namespace Go.Proofs.YtgbplghokciimaaDoor
open Go.RowKit
set_option linter.unusedVariables false
/-- one entry behind entries, in a region that draws. -/
theorem step_append_en {w : World} {ops : Array Oper} {o : Oper} {a : Act} {K : Act → World → Prop} {Q : Exit → Act → World → Prop} {E : Prop} (hg : o.guard = none) (s x : Operand)
    (hop : o.op = Op.call { callee := Callee.builtin Builtin.append, args := #[s, x], argTypes := #[49, 49] })
    (base : Nat) (v : Value) (n : Nat) (xs : List En) (hn : n = xs.length) (hs : a.eval s = v) (hown : w.ownsRow base 92 3 v n (flat3 xs)) (X : Nat) (y : En) (hx : a.eval x = .slice (some ⟨X, 0, none⟩) 1 1)
    (hr : w.heap[X]? = some (.cells #[.string y.1, .int .i64 y.2.1, .int .i64 y.2.2] 92)) (hl : n + 1 ≤ 4398046511104) (hb : base ≤ w.heap.size)
    (h : ∀ v' w', w'.ownsRow base 92 3 v' (n + 1) (flat3 (xs ++ [y])) → w.grownBy w' v.ownBlock → K (a.put o.dst v') w') :
    if Region.wanted o (yielded ops a.tmps) = true then Oper.wp Tryd.prog o a w K Q else E := by
  have hw : Region.wanted o (yielded ops a.tmps) = true := by simp [Region.wanted, hg]
  rw [if_pos hw]
  subst hn
  obtain ⟨i0, hi, hz0, hz1, hz2⟩ := info_of infoEn
  refine wp_append_own w s x 49 hop base 92 i0 (.agg #[.string ⟨#[]⟩, .int .i64 0, .int .i64 0]) 3 32 Tryd.underlying49 hi hz0 hz1 hz2 rfl (by decide) v xs.length (flat3 xs) hs hown ⟨X, 0, none⟩ 1 1 (flat3 [y]) hx (flat3_len [y]) ?_ (flat3_sgl [y]) (by unfold maxLen; omega) (by omega) hb ?_
  · intro j u hj
    rw [Lib.add_plain, Nat.zero_add, cell_of_row _ _ _ _ _ _ hr]
    simpa [flat3] using hj
  · intro v' w' ho hgw hnil
    refine h v' w' ?_ hgw
    rw [flat3_app]; exact ho
theorem alloc3 (w : World) (A B C : Obj) : (((w.alloc A).alloc B).alloc C).heap[w.heap.size]? = some A ∧ (((w.alloc A).alloc B).alloc C).heap[w.heap.size + 1]? = some B ∧ (((w.alloc A).alloc B).alloc C).heap[w.heap.size + 1 + 1]? = some C ∧ (((w.alloc A).alloc B).alloc C).heap.size = w.heap.size + 3 ∧ Below w.heap.size w (((w.alloc A).alloc B).alloc C) := by
  refine ⟨?_, ?_, ?_, by simp, ?_⟩
  · rw [heap_alloc_old _ _ (by simp <;> omega), heap_alloc_old _ _ (by simp)]; exact heap_alloc_new _ _
  · rw [heap_alloc_old _ _ (by simp)]
    have := heap_alloc_new (w.alloc A) B
    simpa using this
  · have := heap_alloc_new ((w.alloc A).alloc B) C
    simpa using this
  · repeat (refine Below.alloc ?_ (by simp <;> omega) _)
    exact Below.refl _ _
theorem grown_row {A B : World} {row : Option Nat} {base k : Nat} {o : Obj} (h : A.heap[k]? = some o) (hg : A.grownBy B row) (hr : ∀ q, row = some q → base ≤ q) (hk : k < base) : B.heap[k]? = some o :=
  (hg.block k (row_lt h) (fun e => by have := hr k e.symm; omega)).trans h
theorem own_ge {w : World} {base e size : Nat} {v : Value} {n : Nat} {xs : List Value} (h : w.ownsRow base e size v n xs) : ∀ q, v.ownBlock = some q → base ≤ q := fun q hq => (World.ownsRow.lt h q hq).1
set_option maxHeartbeats 2000000 in
set_option maxRecDepth 100000 in
theorem rDrop_any (Q : Nat → Prop) (seed : Int) (v : Value) (l : List En) (hl : l.length ≤ 1000000) (m : ByteArray) (w : World) (h : ERow Q w v l) : Calls Tryd.prog 43 #[bval seed v, .string m] w fun e w' => ∃ r, e = .returned (.tuple #[bval seed r, .bool (decide ((dropM l m).length < l.length))]) ∧ ERow (fun q => w.heap.size ≤ q) w' r (dropM l m) ∧ Below w.heap.size w w' := by
  obtain ⟨P, c, rfl⟩ := h.form
  have HI : Hid (ERow Q w _ l) := h
  obtain ⟨W3, hW3⟩ : ∃ W3, W3 = ((w.alloc (.cells #[.int .i64 seed, .slice P l.length c] 51)).alloc (.cells #[.int .i64 0, .slice none 0 0] 51)).alloc (.cells #[.int .i64 seed, .slice none 0 0] 51) := ⟨_, rfl⟩
  obtain ⟨q0, q1, q2, q3, q4⟩ := alloc3 w (.cells #[.int .i64 seed, .slice P l.length c] 51) (.cells #[.int .i64 0, .slice none 0 0] 51) (.cells #[.int .i64 seed, .slice none 0 0] 51)
  rw [← hW3] at q0 q1 q2 q3 q4
  have HQ : Hid _ := And.intro q0 (And.intro q1 (And.intro q2 (And.intro q3 q4)))
  clear h q0 q1 q2 q3 q4
  go_enter Tryd.func43, Tryd.ntmps43
  go_wp2
  rw [← hW3]
  clear hW3
  obtain ⟨bb, hbb⟩ : ∃ bb, w.heap.size = bb := ⟨_, rfl⟩
  obtain ⟨rb, hrb⟩ : ∃ rb, bb + 1 = rb := ⟨_, rfl⟩
  obtain ⟨ob, hob⟩ : ∃ ob, rb + 1 = ob := ⟨_, rfl⟩
  rw [hbb, hrb, hob] at HQ ⊢
  have HZ : Hid (w.heap.size = bb ∧ bb + 1 = rb ∧ rb + 1 = ob ∧ W3.heap.size = ob + 1) := ⟨hbb, hrb, hob, by have := HQ.out.2.2.2.1; omega⟩
  clear hbb hrb hob
  go_loopw [7] (fun ci wr => ∃ i : Nat, i ≤ l.length ∧ ci = .int .i64 (i : Int) ∧ (∃ co, wr.heap[ob]? = some (.cells #[.int .i64 seed, co] 51) ∧ wr.ownsRow W3.heap.size 92 3 co (dropM (l.take i) m).length (flat3 (dropM (l.take i) m))) ∧ wr.heap[rb]? = some (.cells #[.int .i64 0, .slice none 0 0] 51) ∧ wr.heap[bb]? = some (.cells #[.int .i64 seed, .slice P l.length c] 51) ∧ Below w.heap.size w wr ∧ W3.heap.size ≤ wr.heap.size) (fun ci _ => l.length - (intOf ci).toNat)
  case atStart =>
    obtain ⟨q0, q1, q2, q3, q4⟩ := HQ.out
    refine ⟨0, Nat.zero_le _, rfl, ⟨_, q2, rfl, Or.inl ⟨rfl, rfl⟩⟩, q1, q0, ?_, Nat.le_refl _⟩
    rw [HZ.out.1]; exact q4
  case round =>
    obtain ⟨i, hi, rfl, ⟨co, ho, how⟩, hr, hb0, hbw, hsz⟩ := hrel
    have HO : Hid (wr.heap[ob]? = some (.cells #[.int .i64 seed, co] 51)) := ho
    have HR : Hid (wr.heap[rb]? = some (.cells #[.int .i64 0, .slice none 0 0] 51)) := hr
    have HBB : Hid (wr.heap[bb]? = some (.cells #[.int .i64 seed, .slice P l.length c] 51)) := hb0
    have HBW : Hid (Below w.heap.size w wr) := hbw
    have HSZ : Hid (W3.heap.size ≤ wr.heap.size) := hsz
    obtain ⟨P8, k8, hkf⟩ := own_form how
    subst hkf
    obtain ⟨t, ht⟩ : ∃ t, (dropM (l.take i) m).length = t := ⟨_, rfl⟩
    rw [ht] at how ho HO
    have HT : Hid ((dropM (l.take i) m).length = t) := ht
    have HOW : Hid (wr.ownsRow W3.heap.size 92 3 (.slice P8 t k8) t (flat3 (dropM (l.take i) m))) := how
    obtain ⟨b0, b1, bf⟩ := cells2 hb0
    obtain ⟨o0, o1, of⟩ := cells2 ho
    obtain ⟨r0, r1, rf⟩ := cells2 hr
    clear ho how hr hb0 hbw hsz ht
    by_cases hlt : i < l.length
    · obtain ⟨g, c', hf, p1, p2, p3⟩ := (HI.out.on HBW.out).cells hlt
      obtain ⟨rfl, _, rfl⟩ : P = some ⟨g, 0, none⟩ ∧ True ∧ c = c' := by injection hf with h1 h2 h3; exact ⟨h1, trivial, h3⟩
      have HSN : Hid _ := drop_snoc (m := m) hlt
      have hz3 : (0 : Int) ≤ (i : Int) := by omega
      have hz4 : (i : Int) < (l.length : Int) := by omega
      have hiw : IntKind.i64.wrap ((i : Int) + 1) = (i : Int) + 1 := by rw [IntKind.wrap_i64] <;> omega
      have HTB : Hid (t ≤ 1000000) := by
        have h1 := HT.out
        have h2 : (dropM (l.take i) m).length ≤ (l.take i).length := List.length_filter_le _ _
        rw [List.length_take] at h2
        show t ≤ _
        omega
      clear hf
      obtain ⟨X, hX⟩ : ∃ X, l[i] = X := ⟨_, rfl⟩
      rw [hX] at p1 p2 p3 HSN
      clear hX
      by_cases heq : X.1 = m
      · have hsame : (m.toList == m.toList) = true := by simp
        have p1' : wr.cell? ⟨g, i * 3, none⟩ = some (.string m) := by rw [p1, heq]
        have HNX : Hid (dropM (l.take (i + 1)) m = dropM (l.take i) m) := by
          show _ = _
          rw [HSN.out, if_pos heq, List.append_nil]
        clear p1 heq p2 p3
        go_wp2
        go_roundw
        case rel => exact ⟨i + 1, hlt, by simp, ⟨_, HO.out, by rw [HNX.out, HT.out]; exact HOW.out⟩, HR.out, HBB.out, HBW.out, HSZ.out⟩
        case measure => simp [intOf]; omega
      · have hother : (X.1.toList == m.toList) = false := str_other (fun e => heq (ByteArray.ext (Array.toList_inj.1 e)))
        have HNX : Hid (dropM (l.take (i + 1)) m = dropM (l.take i) m ++ [X]) := by
          show _ = _
          rw [HSN.out, if_neg heq]
        clear heq
        have hne1 : bb ≠ wr.heap.size := by have := HZ.out; have := HSZ.out; omega
        have hne2 : ob ≠ wr.heap.size := by have := HZ.out; have := HSZ.out; omega
        have hol : ob < wr.heap.size := by have := HZ.out; have := HSZ.out; omega
        have HNW : Hid ((wr.alloc (.cells #[.string X.1, .int .i64 X.2.1, .int .i64 X.2.2] 92)).drew.heap[wr.heap.size]? = some (.cells #[.string X.1, .int .i64 X.2.1, .int .i64 X.2.2] 92)) := one_alloc _ _
        have HBA : Hid (Below wr.heap.size wr (wr.alloc (.cells #[.string X.1, .int .i64 X.2.1, .int .i64 X.2.2] 92)).drew) := ((Below.refl _ _).alloc (Nat.le_refl _) _).drew
        go_upto_region 6 with fail
        go_region_law (refine step_append_en rfl (.tmp 27) (.tmp 33) rfl W3.heap.size (.slice P8 t k8) t (dropM (l.take i) m) HT.out.symm rfl (own_keep HOW.out (fun q _ hq => HBA.out.block q hq)) wr.heap.size X rfl HNW.out (by have := HTB.out; omega) (Nat.le_trans HSZ.out HBA.out.size) ?_; intro v3 w3 ho3 hg3; obtain ⟨P9, k9, hkf⟩ := own_form ho3; subst hkf; have hr3 := grown_row (keep_row HO.out HBA.out) hg3 (own_ge HOW.out) (by have := HZ.out; omega); obtain ⟨z0, z1, zf⟩ := cells2 hr3)
        all_goals
          have hg4 := hg3
          have HR3 : Hid (w3.heap[ob]? = some (.cells #[.int .i64 seed, .slice P8 t k8] 51)) := hr3
          have HO3 : Hid (w3.ownsRow W3.heap.size 92 3 (.slice P9 (t + 1) k9) (t + 1) (flat3 (dropM (l.take i) m ++ [X]))) := ho3
          have HG3 : Hid ((wr.alloc (.cells #[.string X.1, .int .i64 X.2.1, .int .i64 X.2.2] 92)).drew.grownBy w3 (Value.slice P8 t k8).ownBlock) := hg3
          clear hg3 hr3 ho3 hg4 z0 z1 zf b0 b1 bf o0 o1 of r0 r1 rf p1 p2 p3
          go_wp2
          go_roundw
          case rel =>
            have hz := HZ.out
            have hB3 : Below w.heap.size w w3 := (HBW.out.trans (HBA.out.mono HBW.out.size)).grown HG3.out (Nat.le_trans HBW.out.size HBA.out.size) (fun q hq => by have := own_ge HOW.out q hq; omega)
            have hon := Only.set (Only.refl w3 ob) 1 (.slice P9 (t + 1) k9)
            refine ⟨i + 1, hlt, by simp, ⟨_, heap_setCell_same _ _ _ _ _ _ HR3.out, ?_⟩, ?_, ?_, hB3.trans (hon.below (by omega)), ?_⟩
            · rw [HNX.out, List.length_append, HT.out]
              exact own_keep HO3.out (fun q hq _ => hon.other q (by omega))
            · exact (hon.other rb (by omega)).trans (grown_row (keep_row HR.out HBA.out) HG3.out (own_ge HOW.out) (by omega))
            · exact (hon.other bb (by omega)).trans (grown_row (keep_row HBB.out HBA.out) HG3.out (own_ge HOW.out) (by omega))
            · rw [hon.size]; exact Nat.le_trans (Nat.le_trans HSZ.out HBA.out.size) HG3.out.size
          case measure => simp [intOf]; omega
    · have hie : i = l.length := by omega
      have hz4 : ¬ (i : Int) < (l.length : Int) := by omega
      have HF : Hid (dropM (l.take i) m = dropM l m) := by show _ = _; rw [hie, List.take_length]
      have HTL : Hid ((dropM l m).length = t) := by show _ = _; rw [← HF.out]; exact HT.out
      have hne1 : rb ≠ ob := by have := HZ.out; omega
      have hne2 : rb ≠ bb := by have := HZ.out; omega
      have hne3 : bb ≠ rb := by have := HZ.out; omega
      have hne4 : ob ≠ rb := by have := HZ.out; omega
      go_wp2
      go_region
      all_goals
        obtain ⟨W4, hW4⟩ : ∃ W4, W4 = ((wr.setCell ⟨rb, 0, none⟩ (.int .i64 seed)).setCell ⟨rb, 1, none⟩ (.slice P8 t k8)).drew := ⟨_, rfl⟩
        have hr4 : W4.heap[rb]? = some (.cells #[.int .i64 seed, .slice P8 t k8] 51) := by
          rw [hW4]
          show ((wr.setCell ⟨rb, 0, none⟩ (.int .i64 seed)).setCell ⟨rb, 1, none⟩ (.slice P8 t k8)).heap[rb]? = _
          rw [heap_setCell_same _ _ _ _ _ _ (heap_setCell_same _ _ _ _ _ _ HR.out)]
          rfl
        have hon : Only wr ((wr.setCell ⟨rb, 0, none⟩ (.int .i64 seed)).setCell ⟨rb, 1, none⟩ (.slice P8 t k8)) rb := ((Only.refl wr rb).set 0 _).set 1 _
        have HB4 : Hid (Below w.heap.size w W4) := by
          rw [hW4]
          exact (HBW.out.trans (hon.below (by have := HZ.out; omega))).drew
        have HE4 : Hid (ERow (fun q => w.heap.size ≤ q) W4 (.slice P8 t k8) (dropM l m)) := by
          refine ERow.own_of (base := W3.heap.size) (n := t) ?_ HTL.out.symm (fun q hq => by have := HZ.out; omega)
          rw [hW4, ← HF.out]
          exact own_keep HOW.out (fun q hq _ => hon.other q (by have := HZ.out; omega))
        rw [← hW4]
        obtain ⟨s0, s1, sf⟩ := cells2 hr4
        clear hW4 hon b0 b1 bf o0 o1 of r0 r1 rf hr4
        go_wp2
        exact bodyPost_ret (v := .tuple #[bval seed (.slice P8 t k8), .bool (decide (t < l.length))]) (by simp [results, Tryd.results43, go_sem, s0, s1]) rfl ⟨_, by rw [HTL.out], HE4.out, HB4.out⟩
end Go.Proofs.YtgbplghokciimaaDoor
