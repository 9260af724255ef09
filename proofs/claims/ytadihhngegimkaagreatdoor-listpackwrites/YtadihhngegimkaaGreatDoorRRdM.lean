import Derived.Test.YtadihhngegimkaaGreatDoorLQ
import Derived.Test.YtadihhngegimkaaGreatDoorLPar
import Derived.Test.YtadihhngegimkaaGreatDoorFrmM
import Derived.Test.YtadihhngegimkaaGreatDoorRBld
import Derived.Test.YtadihhngegimkaaGreatDoorApLM
import Derived.Test.YtadihhngegimkaaGreatDoorRFstM
import Derived.Test.YtadihhngegimkaaGreatDoorAt
import Derived.Test.YtadihhngegimkaaGreatDoorBegM
namespace Go.Proofs.YtadihhngegimkaaGreatDoor
set_option linter.unusedVariables false
/-- behind the head: the entries, and the end. -/
theorem pk_drop {p : List UInt8} {l : List LM.Item} (h : LM.Pk p l) (j : Nat) (hj : j ≤ l.length) : p.drop (6 + LM.bsum (l.take j)) = LM.bodyOf (l.drop j) ++ [255] := by
  have e : p.drop 6 = LM.bodyOf l ++ [255] := by
    rw [h.eq]; unfold LM.build
    rw [← List.append_assoc, List.drop_left' (by simp [LM.leB_len])]
  rw [← List.drop_drop, e, List.drop_append_of_le_length (by rw [LM.bodyOf_len]; exact LM.bsum_take_le l j), LM.body_drop]
theorem rdF_255 (s : List UInt8) : LM.rdF 255 s = none := by unfold LM.rdF; simp
theorem pk_at {p : List UInt8} {l : List LM.Item} (h : LM.Pk p l) (j : Nat) (hj : j < l.length) :
    LM.rdItem (p.drop (6 + LM.bsum (l.take j))) = some (l[j], LM.dsize l[j]) ∧ 6 + LM.bsum (l.take j) < p.length ∧ p[6 + LM.bsum (l.take j)]? ≠ some 255 := by
  have hd := pk_drop h j (by omega)
  have hr : LM.rdItem (p.drop (6 + LM.bsum (l.take j))) = some (l[j], LM.dsize l[j]) := by
    rw [hd, List.drop_eq_getElem_cons hj, LM.bodyOf_cons]
    unfold LM.ent
    rw [List.append_assoc, List.append_assoc]
    exact LM.rd_data _ (h.wf _ (List.getElem_mem hj)) _
  refine ⟨hr, ?_, fun hc => ?_⟩
  · rcases Nat.lt_or_ge (6 + LM.bsum (l.take j)) p.length with h1 | h1
    · exact h1
    · rw [List.drop_eq_nil_of_le h1] at hr; cases hr
  · obtain ⟨hlt, he⟩ := List.getElem?_eq_some_iff.1 hc
    rw [List.drop_eq_getElem_cons hlt, he, LM.rdItem_cons] at hr
    have e : (255 : UInt8).toNat = 255 := by decide
    rw [e, rdF_255] at hr
    cases hr
theorem pk_end {p : List UInt8} {l : List LM.Item} (h : LM.Pk p l) : p[6 + LM.bsum l]? = some 255 := by
  have hd := pk_drop h l.length (Nat.le_refl _)
  rw [List.take_length, List.drop_length] at hd
  have := congrArg (fun x => x[0]?) hd
  simp only [List.getElem?_drop, Nat.add_zero] at this
  rw [this]; rfl
end Go.Proofs.YtadihhngegimkaaGreatDoor
namespace Go.Proofs.YtadihhngegimkaaGreatDoor
open Go.RowKit
set_option linter.unusedVariables false
/-- how far the document's reading has come: the values, and that they are the first ones of what the bytes are, if they are anything. -/
structure WI (p : List UInt8) (vs : List ByteArray) : Prop where
  each : ∀ v ∈ vs, v.size ≤ 524288
  len : vs.length ≤ 1048576
  pk : ∀ l, LM.Pk p l → ∃ j, j ≤ l.length ∧ vs = valsOf (l.take j)
theorem vals_sum {l : List LM.Item} (h : ∀ it ∈ l, LM.Wf it) : sumV (valsOf l) = LM.bsum l := by
  rw [← bsum_items (valsOf l) (fun v hv => by
    obtain ⟨it, hit, rfl⟩ := List.mem_map.1 hv
    rw [strB_size]; exact LM.val_len it (h it hit)), vals_its l h]
theorem vals_take_sum {p : List UInt8} {l : List LM.Item} (h : LM.Pk p l) (j : Nat) : sumV (valsOf (l.take j)) = LM.bsum (l.take j) := vals_sum (fun it hit => h.wf it (List.mem_of_mem_take hit))
theorem sumV_app (a b : List ByteArray) : sumV (a ++ b) = sumV a + sumV b := by
  induction a with
  | nil => simp [sumV]
  | cons x a ih => simp only [sumV, List.cons_append, List.map_cons, List.foldr_cons] at ih ⊢; omega
theorem sumV_one (a : List ByteArray) (x : ByteArray) : sumV (a ++ [x]) = sumV a + sizeV x := by rw [sumV_app]; simp [sumV]
theorem sizeV_pos (x : ByteArray) (h : sizeV x ≠ 0) : x.size ≤ 524288 := by
  unfold sizeV at h; split at h
  · exact absurd rfl h
  · omega
theorem sizeV_zero (x : ByteArray) (h : sizeV x = 0) : 524288 < x.size := by
  unfold sizeV at h; split at h
  · assumption
  · have := LM.esz_pos (LM.itemOf x.data.toList); omega
theorem WI.nil (p : List UInt8) : WI p [] := ⟨by simp, by simp, fun l _ => ⟨0, by omega, by simp [valsOf]⟩⟩
/-- where there is another entry. -/
theorem WI.more {p : List UInt8} {vs : List ByteArray} (h : WI p vs) {l : List LM.Item} (hl : LM.Pk p l) (h255 : p[6 + sumV vs]? ≠ some 255) : ∃ (j : Nat) (hj : j < l.length), vs = valsOf (l.take j) ∧ LM.rdItem (p.drop (6 + sumV vs)) = some (l[j], LM.dsize l[j]) := by
  obtain ⟨j, hj, rfl⟩ := h.pk l hl
  rw [vals_take_sum hl] at h255 ⊢
  rcases Nat.lt_or_ge j l.length with hlt | hge
  · exact ⟨j, hlt, rfl, (pk_at hl j hlt).1⟩
  · rw [List.take_of_length_le hge] at h255
    exact absurd (pk_end hl) h255
theorem WI.step {p : List UInt8} {vs : List ByteArray} (h : WI p vs) {it : LM.Item} {n : Nat} (h255 : p[6 + sumV vs]? ≠ some 255) (hr : LM.rdItem (p.drop (6 + sumV vs)) = some (it, n)) (hz : sizeV (strB (LM.val it)) ≠ 0) (hn : vs.length + 1 ≤ 1048576) : WI p (vs ++ [strB (LM.val it)]) := by
  refine ⟨fun v hv => ?_, by simpa using hn, fun l hl => ?_⟩
  · rcases List.mem_append.1 hv with hv | hv
    · exact h.each v hv
    · rw [List.mem_singleton.1 hv]; exact sizeV_pos _ hz
  · obtain ⟨j, hj, hv, hr'⟩ := h.more hl h255
    rw [hr] at hr'
    injection hr' with hr'
    injection hr' with h1 h2
    refine ⟨j + 1, hj, ?_⟩
    rw [hv, h1]; unfold valsOf; rw [List.take_succ_eq_append_getElem hj, List.map_append]; rfl
theorem WI.no {p : List UInt8} {vs : List ByteArray} (h : WI p vs) (h255 : p[6 + sumV vs]? ≠ some 255) (hr : LM.rdItem (p.drop (6 + sumV vs)) = none) : ∀ l, ¬ LM.Pk p l := fun l hl => by
  obtain ⟨j, hj, _, hr'⟩ := h.more hl h255
  rw [hr] at hr'; cases hr'
theorem WI.big {p : List UInt8} {vs : List ByteArray} (h : WI p vs) {it : LM.Item} {n : Nat} (h255 : p[6 + sumV vs]? ≠ some 255) (hr : LM.rdItem (p.drop (6 + sumV vs)) = some (it, n)) (hz : sizeV (strB (LM.val it)) = 0) : ∀ l, ¬ LM.Pk p l := fun l hl => by
  obtain ⟨j, hj, _, hr'⟩ := h.more hl h255
  rw [hr] at hr'
  injection hr' with hr'
  injection hr' with h1 h2
  have := sizeV_zero _ hz
  rw [strB_size, h1] at this
  have := LM.val_len _ (hl.wf _ (List.getElem_mem hj))
  omega
theorem WI.many {p : List UInt8} {vs : List ByteArray} (h : WI p vs) (h255 : p[6 + sumV vs]? ≠ some 255) (hn : 1048576 < vs.length + 1) : ∀ l, ¬ LM.Pk p l := fun l hl => by
  obtain ⟨j, hj, hv, _⟩ := h.more hl h255
  have h1 := hl.len
  rw [hv, vals_len, List.length_take] at hn
  omega
theorem WI.fin {p : List UInt8} {vs : List ByteArray} (h : WI p vs) (he : p.length ≤ 6 + sumV vs ∨ p[6 + sumV vs]? = some 255) {l : List LM.Item} (hl : LM.Pk p l) : vs = valsOf l := by
  obtain ⟨j, hj, rfl⟩ := h.pk l hl
  rw [vals_take_sum hl] at he
  rcases Nat.lt_or_ge j l.length with hlt | hge
  · obtain ⟨_, h1, h2⟩ := pk_at hl j hlt
    rcases he with he | he
    · omega
    · exact absurd he h2
  · rw [List.take_of_length_le hge]
theorem WI.build {p : List UInt8} {vs : List ByteArray} (h : WI p vs) (hs : p.length ≤ 1073741824) (he : LM.build (itsOf vs) = p) : LM.Pk p (itsOf vs) := by
  refine ⟨fun it hit => ?_, by unfold itsOf; simpa using h.len, he.symm, hs⟩
  obtain ⟨v, hv, rfl⟩ := List.mem_map.1 hit
  exact LM.itemOf_wf _ (by rw [list_len]; exact h.each v hv)
theorem its_valsOf {p : List UInt8} {l : List LM.Item} (hl : LM.Pk p l) : LM.build (itsOf (valsOf l)) = p := by
  unfold itsOf; rw [vals_its l hl.wf]; exact hl.eq.symm
end Go.Proofs.YtadihhngegimkaaGreatDoor
namespace Go.Proofs.YtadihhngegimkaaGreatDoor
open Go.RowKit
set_option linter.unusedVariables false
/-- append of one text to a row of its own. -/
theorem wpList_append_one {w : World} {ops : Array Oper} {rest : List Oper} {o : Oper} {a : Act} {Q : Exit → Act → World → Prop} (hg : o.guard = none) (s x : Operand)
    (hop : o.op = Op.call { callee := Callee.builtin Builtin.append, args := #[s, x], argTypes := #[35, 35] })
    (base : Nat) (v : Value) (n : Nat) (xs : List Value) (hs : a.eval s = v) (hown : w.ownsRow base 9 1 v n xs) (ad : Addr) (c : Nat) (y : ByteArray) (hx : a.eval x = .slice (some ad) 1 c) (hy : w.cell? ad = some (.string y))
    (hl : (n + 1) * 16 ≤ 140737488351232) (hb : base ≤ w.heap.size)
    (h : ∀ v' w', w'.ownsRow base 9 1 v' (n + 1) (xs ++ [.string y]) → w.grownBy w' v.ownBlock → wpList Tryz.prog ops Q rest (a.put o.dst v') w') :
    wpList Tryz.prog ops Q (o :: rest) a w := by
  obtain ⟨i0, hi, hz0, hz1, hz2⟩ := info_parts info9
  refine wpList_append_own _ hg s x 35 hop base 9 i0 (.string ⟨#[]⟩) 1 16 Tryz.underlying35 hi hz0 hz1 hz2 rfl (by decide) v n xs hs hown ad 1 c [.string y] hx (by simp) ?_ ?_ ?_ ?_ hb ?_
  · intro j u hj
    match j, hj with
    | 0, hj => simp at hj; subst hj; simpa [Addr.add] using hy
  · intro u hu; simp at hu; subst hu; rfl
  · unfold maxLen; omega
  · omega
  · intro v' w' h1 h2 h3; exact h v' w' h1 h2
/-- what the document's Walk answers. -/
def RWP (p : ByteArray) (b : Bool) (w0 : World) (e : Ending) (W : World) : Prop :=
  ((∃ l v, LM.Pk p.data.toList l ∧ e = .returned (.tuple #[v, .int .i64 0]) ∧ W.ownsRow w0.heap.size 9 1 v l.length ((if b then (valsOf l).reverse else valsOf l).map Value.string)) ∨
    ((∀ l, ¬ LM.Pk p.data.toList l) ∧ e = .returned (.tuple #[.slice none 0 0, .int .i64 60]))) ∧ Below w0.heap.size w0 W
end Go.Proofs.YtadihhngegimkaaGreatDoor
namespace Go.Proofs.YtadihhngegimkaaGreatDoor
open Go.RowKit
set_option linter.unusedVariables false
theorem ext_end (p : ByteArray) (A : Nat) : (p.extract A p.size).data.toList = p.data.toList.drop A := by
  rw [ext_any]; exact List.take_of_length_le (by rw [List.length_drop, list_len]; exact Nat.le_refl _)
/-- an owned row of texts, as a row. -/
theorem own_srow {B : Nat} {W : World} {v : Value} {vs : List ByteArray} (h : W.ownsRow B 9 1 v vs.length (vs.map Value.string)) : SRow W v vs := srow_of_own h rfl
theorem rev_take (vs : List ByteArray) (k : Nat) (h : k < vs.length) : (vs.drop k).reverse = (vs.drop (k + 1)).reverse ++ [vs[k]] := by
  rw [List.drop_eq_getElem_cons h, List.reverse_cons]
set_option maxHeartbeats 8000000 in
set_option maxRecDepth 100000 in
theorem rWalk_any (p : ByteArray) (hp : p.size ≤ 140737488351232) (b : Bool) (w : World) : Calls Tryz.prog 12 #[.string p, .bool b] w (RWP p b w) := by
  have HFS : Hid (∀ A : Nat, A < p.size → ∀ W, Calls Tryz.prog 29 #[.string (p.extract A p.size)] W fun e w' => e = .returned (fstT (LM.rdItem (p.data.toList.drop A))) ∧ Below W.heap.size W w') := fun A hA W => by
    have := rfst_any (p.extract A p.size) (by rw [ext_size _ _ _ (Nat.le_refl _)]; omega) (by rw [ext_size _ _ _ (Nat.le_refl _)]; omega) W
    rwa [ext_end] at this
  have HSZ : Hid (∀ (X : ByteArray) W, Calls Tryz.prog 30 #[.string X] W fun e w' => e = .returned (.int .i64 (sizeV X : Nat)) ∧ Below W.heap.size W w') := fun X W => rSize_any X W
  have HBU : Hid (∀ (vs : List ByteArray) (v : Value), vs.length ≤ 1048576 → (∀ x ∈ vs, x.size ≤ 524288) → ∀ W, SRow W v vs → Calls Tryz.prog 31 #[v] W fun e w' => e = .returned (.string (strB (LM.build (itsOf vs)))) ∧ Below W.heap.size W w') := fun vs v h1 h2 W h3 => rBuild_any v vs (by omega) h2 W h3
  go_enter Tryz.func12, Tryz.ntmps12
  go_wp2
  go_loopw [6, 7] (fun cl ca wr => ∃ (vs : List ByteArray) (A : Nat), 6 + sumV vs = A ∧ A ≤ 140737488351232 + 1048576 ∧ ca = .int .i64 (A : Int) ∧ WI p.data.toList vs ∧ wr.ownsRow w.heap.size 9 1 cl vs.length (vs.map Value.string) ∧ Below w.heap.size w wr) (fun _ ca _ => p.size - (intOf ca).toNat)
  case atStart => exact ⟨[], 6, rfl, by omega, rfl, WI.nil _, World.ownsRow_nil _ _ _ _, Below.refl _ _⟩
  case round =>
    obtain ⟨vs, A, hA, hAle, rfl, hwi, ho, hb⟩ := hrel
    obtain ⟨P, c, hcl⟩ := own_form ho
    subst hcl
    have HWI : Hid _ := hwi
    have HO : Hid (wr.ownsRow w.heap.size 9 1 _ vs.length (vs.map Value.string)) := ho
    have HB : Hid (Below w.heap.size w wr) := hb
    have HAA : Hid _ := hA
    have hvl := hwi.len
    have HLEN : Hid _ := hwi.len
    clear hwi ho hb hA
    by_cases hgo : A < p.size ∧ p.data.toList[A]? ≠ some 255
    · obtain ⟨hlt, h255⟩ := hgo
      obtain ⟨cc, hcc⟩ : ∃ cc : Nat, p[A].toNat = cc := ⟨_, rfl⟩
      have hc255 : cc ≠ 255 := fun e => h255 (by rw [at_list p A hlt]; congr 1; exact UInt8.toNat_inj.1 (by rw [hcc, e]; rfl))
      have HX255 : Hid (p.data.toList[6 + sumV vs]? ≠ some 255) := by rw [HAA.out]; exact h255
      have hcd : ((cc : Int) == 255) = false := by simp; omega
      have hz0 : (0 : Int) ≤ (A : Int) := by omega
      have hz1 : (A : Int) < (p.size : Int) := by omega
      have hz2 : (A : Int) ≤ (p.size : Int) := by omega
      have HF := HFS.out A hlt
      have HFH : Hid _ := HF
      obtain ⟨S, hS⟩ : ∃ S, p.extract A p.size = S := ⟨_, rfl⟩
      have HRD : Hid (∃ r, LM.rdItem (p.data.toList.drop (6 + sumV vs)) = r ∧ LM.rdItem (p.data.toList.drop A) = r) := ⟨_, rfl, by rw [HAA.out]⟩
      obtain ⟨r, hr1, hr2⟩ := HRD.out
      have HR1 : Hid _ := hr1
      rw [hr2] at HFH
      clear HF HRD hr1 hr2 h255 hc255
      cases r with
      | none =>
        have HNO : Hid (∀ l, ¬ LM.Pk p.data.toList l) := HWI.out.no HX255.out HR1.out
        have HFE : Hid (∀ W, Calls Tryz.prog 29 #[.string S] W fun e w' => e = .returned (.tuple #[.string ⟨#[]⟩, .bool false]) ∧ Below W.heap.size W w') := by rw [← hS]; exact HFH.out
        clear HFH
        go_wp2_with fail
        refine (show Calls _ _ _ _ _ from HFE.out _).mono ?_
        rintro e w1 ⟨rfl, hb1⟩
        have HB1 : Hid (Below w.heap.size w w1) := bel_to HB.out hb1 (Nat.le_refl _)
        clear hb1
        go_wp2
        go_ret2
        exact ⟨Or.inr ⟨HNO.out, rfl⟩, HB1.out⟩
      | some x =>
        obtain ⟨it, nn⟩ := x
        have HFE : Hid (∀ W, Calls Tryz.prog 29 #[.string S] W fun e w' => e = .returned (.tuple #[.string (strB (LM.val it)), .bool true]) ∧ Below W.heap.size W w') := by rw [← hS]; exact HFH.out
        clear HFH
        have HSS : Hid (∀ W, Calls Tryz.prog 30 #[.string (strB (LM.val it))] W fun e w' => e = .returned (.int .i64 (sizeV (strB (LM.val it)) : Nat)) ∧ Below W.heap.size W w') := fun W => HSZ.out _ W
        have HST : Hid (sizeV (strB (LM.val it)) ≠ 0 → vs.length + 1 ≤ 1048576 → WI p.data.toList (vs ++ [strB (LM.val it)])) := fun h1 h2 => HWI.out.step HX255.out HR1.out h1 h2
        have HBG : Hid (sizeV (strB (LM.val it)) = 0 → ∀ l, ¬ LM.Pk p.data.toList l) := HWI.out.big HX255.out HR1.out
        have HMN : Hid (1048576 < vs.length + 1 → ∀ l, ¬ LM.Pk p.data.toList l) := HWI.out.many HX255.out
        have HS1 : Hid (sumV (vs ++ [strB (LM.val it)]) = sumV vs + sizeV (strB (LM.val it))) := sumV_one _ _
        have hzl := sizeV_le (strB (LM.val it))
        generalize strB (LM.val it) = X at *
        generalize sizeV X = z at *
        clear HR1 HWI HSZ HFS
        go_wp2_with fail
        refine (show Calls _ _ _ _ _ from HFE.out _).mono ?_
        rintro e w1 ⟨rfl, hb1⟩
        have HB1 : Hid (Below w.heap.size w w1) := bel_to HB.out hb1 (Nat.le_refl _)
        have HO1 : Hid (w1.ownsRow w.heap.size 9 1 _ vs.length (vs.map Value.string)) := own_keep HO.out (fun k _ hk => hb1.block k hk)
        clear hb1
        have HO2 : Hid ((w1.alloc (.cells #[.string X] 9)).ownsRow w.heap.size 9 1 (.slice P vs.length c) vs.length (vs.map Value.string)) := own_keep HO1.out (fun k _ hk => ((Below.refl _ w1).alloc (Nat.le_refl _) _).block k hk)
        have HB2 : Hid (Below w.heap.size w (w1.alloc (.cells #[.string X] 9))) := HB1.out.alloc HB1.out.size _
        have HC2 : Hid ((w1.alloc (.cells #[.string X] 9)).cell? ⟨w1.heap.size, 0, none⟩ = some (.string X)) := (row1 (one_alloc w1 _)).1
        go_wp2_with (at_builtin; go_must (refine wpList_append_one rfl _ _ rfl w.heap.size _ _ _ rfl HO2.out ⟨w1.heap.size, 0, none⟩ 1 X rfl HC2.out ?d1 ?d2 ?_))
        case d1 => omega
        case d2 => exact HB2.out.size
        intro v3 w3 ho3 hg3
        have HO3 : Hid (w3.ownsRow w.heap.size 9 1 v3 (vs ++ [X]).length ((vs ++ [X]).map Value.string)) := by
          show World.ownsRow _ _ _ _ _ _ _
          rw [List.map_append, List.length_append]; exact ho3
        have HB3 : Hid (Below w.heap.size w w3) := HB2.out.grown hg3 HB2.out.size (fun k hk => (World.ownsRow.lt HO2.out k hk).1)
        clear ho3 hg3
        go_wp2_with fail
        refine (show Calls _ _ _ _ _ from HSS.out _).mono ?_
        rintro e w4 ⟨rfl, hb4⟩
        have HB4 : Hid (Below w.heap.size w w4) := bel_to HB3.out hb4 (Nat.le_refl _)
        have HO4 : Hid (w4.ownsRow w.heap.size 9 1 v3 (vs ++ [X]).length ((vs ++ [X]).map Value.string)) := own_keep HO3.out (fun k _ hk => hb4.block k hk)
        clear hb4
        obtain ⟨A', hA'⟩ : ∃ A' : Nat, A + z = A' := ⟨_, rfl⟩
        have hAi : (A : Int) + (z : Int) = (A' : Int) := by omega
        have HAB : Hid (A' ≤ 140737488351232 + 1048576) := by show A' ≤ _; omega
        go_wp2_with fail
        refine (show Calls _ _ _ _ _ from HSS.out _).mono ?_
        rintro e w5 ⟨rfl, hb5⟩
        have HB5 : Hid (Below w.heap.size w w5) := bel_to HB4.out hb5 (Nat.le_refl _)
        have HO5 : Hid (w5.ownsRow w.heap.size 9 1 v3 (vs ++ [X]).length ((vs ++ [X]).map Value.string)) := own_keep HO4.out (fun k _ hk => hb5.block k hk)
        clear hb5
        obtain ⟨P3, c3, hv3⟩ := own_form HO5.out
        subst hv3
        obtain ⟨n3, hn3⟩ : ∃ n3, (vs ++ [X]).length = n3 := ⟨_, rfl⟩
        have hn4 : n3 = vs.length + 1 := by rw [← hn3, List.length_append]; rfl
        rw [hn3]
        by_cases hz : z = 0
        · have HNO : Hid (∀ l, ¬ LM.Pk p.data.toList l) := HBG.out hz
          have hzz : ((z : Int) == 0) = true := by simpa using hz
          clear hn3 hn4 hz
          go_wp2
          go_ret2
          exact ⟨Or.inr ⟨HNO.out, rfl⟩, HB5.out⟩
        · have hzz : ((z : Int) == 0) = false := by simp; omega
          by_cases hmany : 1048576 < vs.length + 1
          · have HNO : Hid (∀ l, ¬ LM.Pk p.data.toList l) := HMN.out hmany
            have hmm : decide ((1048576 : Int) < (n3 : Int)) = true := by simp; omega
            clear hn3 hn4 hz
            go_wp2
            go_ret2
            exact ⟨Or.inr ⟨HNO.out, rfl⟩, HB5.out⟩
          · have HWI2 : Hid _ := HST.out hz (by omega)
            have hmm : decide ((1048576 : Int) < (n3 : Int)) = false := by simp; omega
            have HN3 : Hid _ := hn3
            have HME : Hid (p.size - A' < p.size - A) := by show _ < _; omega
            clear hn3 hn4 hz
            go_wp2
            go_roundw
            case rel =>
              refine ⟨vs ++ [X], A', ?_, HAB.out, rfl, HWI2.out, ?_, HB5.out⟩
              · rw [HS1.out, ← hA', ← HAA.out]; omega
              · have := HO5.out; rw [HN3.out] at this ⊢; exact this
            case measure => simpa [intOf] using HME.out
    · have HFIN : Hid (p.data.toList.length ≤ 6 + sumV vs ∨ p.data.toList[6 + sumV vs]? = some 255) := by
        rw [HAA.out, list_len]
        by_cases h1 : A < p.size
        · right
          exact Classical.byContradiction fun hc => hgo ⟨h1, hc⟩
        · left; omega
      have HEX : Hid (p.size ≤ A ∨ (∃ (h : A < p.size) (cc : Nat), p[A].toNat = cc ∧ ((cc : Int) == 255) = true)) := by
        by_cases h1 : A < p.size
        · right
          have hc : p.data.toList[A]? = some 255 := Classical.byContradiction fun hc => hgo ⟨h1, hc⟩
          refine ⟨h1, 255, ?_, by decide⟩
          rw [at_list p A h1] at hc
          injection hc with hc
          rw [hc]; rfl
        · left; omega
      have HVS : Hid (SRow wr (.slice P vs.length c) vs) := own_srow HO.out
      have HEA : Hid _ := HWI.out.each
      have HB1 : Hid (∀ W, SRow W (.slice P vs.length c) vs → Calls Tryz.prog 31 #[.slice P vs.length c] W fun e w' => e = .returned (.string (strB (LM.build (itsOf vs)))) ∧ Below W.heap.size W w') := fun W hW => HBU.out vs _ HLEN.out HEA.out W hW
      have HPK : Hid (∀ l, LM.Pk p.data.toList l → vs = valsOf l ∧ 7 ≤ p.size ∧ p.size ≤ 1073741824 ∧ LM.build (itsOf vs) = p.data.toList) := fun l hl => by
        have e := HWI.out.fin HFIN.out hl
        refine ⟨e, ?_, by have := hl.size; rwa [list_len] at this, by rw [e]; exact its_valsOf hl⟩
        have := hl.reads.len7; rwa [list_len] at this
      have HKP : Hid (p.size ≤ 1073741824 → LM.build (itsOf vs) = p.data.toList → LM.Pk p.data.toList (itsOf vs)) := fun h1 h2 => HWI.out.build (by rw [list_len]; exact h1) h2
      have HVI : Hid (valsOf (itsOf vs) = vs) := its_vals vs
      have HIL : Hid ((itsOf vs).length = vs.length) := by show _ = _; unfold itsOf; simp
      clear hgo HSZ HFS HWI HBU HFIN
      rcases HEX.out with hd | ⟨hlt, cc, hcc, h255⟩
      all_goals
        by_cases hsz : p.size < 7 ∨ 1073741824 < p.size
        · have HNO : Hid (∀ l, ¬ LM.Pk p.data.toList l) := fun l hl => by have := HPK.out l hl; omega
          have HD : Hid (decide ((p.size : Int) < 7) = true ∨ (decide ((p.size : Int) < 7) = false ∧ decide ((1073741824 : Int) < (p.size : Int)) = true)) := by
            by_cases c7 : p.size < 7
            · left; simp; omega
            · right; constructor <;> (simp; omega)
          clear hsz
          rcases HD.out with h7 | ⟨h7, h30⟩
          all_goals
            go_wp2
            go_ret2
            exact ⟨Or.inr ⟨HNO.out, rfl⟩, HB.out⟩
        · have h7 : decide ((p.size : Int) < 7) = false := by simp; omega
          have h30 : decide ((1073741824 : Int) < (p.size : Int)) = false := by simp; omega
          have hs30 : p.size ≤ 1073741824 := by omega
          clear hsz
          go_wp2_with fail
          refine (show Calls _ _ _ _ _ from HB1.out _ HVS.out).mono ?_
          rintro e w2 ⟨rfl, hb2⟩
          have HB2 : Hid (Below w.heap.size w w2) := bel_to HB.out hb2 (Nat.le_refl _)
          have HO2 : Hid (w2.ownsRow w.heap.size 9 1 (.slice P vs.length c) vs.length (vs.map Value.string)) := own_keep HO.out (fun k _ hk => hb2.block k hk)
          clear hb2
          by_cases heq : LM.build (itsOf vs) = p.data.toList
          · have HPP : Hid _ := HKP.out hs30 heq
            have hcmp : ((strB (LM.build (itsOf vs))).toList == p.toList) = true := str_same (by rw [strB_list]; exact heq)
            generalize strB (LM.build (itsOf vs)) = BB at *
            clear heq
            cases b with
            | false =>
              go_wp2
              go_ret2
              refine ⟨Or.inl ⟨itsOf vs, _, HPP.out, rfl, ?_⟩, HB2.out⟩
              rw [HIL.out, HVI.out]; exact HO2.out
            | true =>
              go_wp2
              have HSV : Hid (SRow w2 (.slice P vs.length c) vs) := own_srow HO2.out
              go_loopw [10, 11] (fun co ci wr => Below w2.heap.size w2 wr ∧ ∃ k : Nat, k ≤ vs.length ∧ ci = .int .i64 ((k : Int) - 1) ∧ wr.ownsRow w2.heap.size 9 1 co (vs.length - k) ((vs.drop k).reverse.map Value.string)) (fun _ ci _ => (intOf ci + 1).toNat)
              case atStart =>
                refine ⟨Below.refl _ _, vs.length, Nat.le_refl _, rfl, ?_⟩
                rw [List.drop_eq_nil_of_le (Nat.le_refl _), Nat.sub_self]
                exact World.ownsRow_nil _ _ _ _
              case round =>
                obtain ⟨hbr, k, hk, rfl, hor⟩ := hrel
                have HBR : Hid (Below w2.heap.size w2 wr) := hbr
                have HOR : Hid (wr.ownsRow w2.heap.size 9 1 u10 (vs.length - k) ((vs.drop k).reverse.map Value.string)) := hor
                clear hbr hor
                cases k with
                | zero =>
                  have hm1 : ((0 : Nat) : Int) - 1 = -1 := by omega
                  rw [hm1]
                  go_wp2
                  go_ret2
                  refine ⟨Or.inl ⟨itsOf vs, _, HPP.out, rfl, ?_⟩, bel_to HB2.out HBR.out (Nat.le_refl _)⟩
                  rw [HIL.out, HVI.out, if_pos rfl]
                  exact own_base HOR.out HB2.out.size
                | succ j =>
                  have hm1 : ((j + 1 : Nat) : Int) - 1 = (j : Int) := by omega
                  rw [hm1]
                  have hj : j < vs.length := hk
                  have HRT : Hid _ := rev_take vs j hj
                  obtain ⟨g, o, hP, hc1⟩ := (HSV.out.on HBR.out).cell j hj
                  subst hP
                  have hz0 : (0 : Int) ≤ (j : Int) := by omega
                  have hz1 : (j : Int) < (vs.length : Int) := by omega
                  generalize vs[j] = X at *
                  have HO3 : Hid ((wr.alloc (.cells #[.string X] 9)).ownsRow w2.heap.size 9 1 u10 (vs.length - (j + 1)) ((vs.drop (j + 1)).reverse.map Value.string)) := own_keep HOR.out (fun k _ hk => ((Below.refl _ wr).alloc (Nat.le_refl _) _).block k hk)
                  have HB3 : Hid (Below w2.heap.size w2 (wr.alloc (.cells #[.string X] 9))) := HBR.out.alloc HBR.out.size _
                  have HC3 : Hid ((wr.alloc (.cells #[.string X] 9)).cell? ⟨wr.heap.size, 0, none⟩ = some (.string X)) := (row1 (one_alloc wr _)).1
                  go_wp2_with (at_builtin; go_must (refine wpList_append_one rfl _ _ rfl w2.heap.size _ _ _ rfl HO3.out ⟨wr.heap.size, 0, none⟩ 1 X rfl HC3.out ?e1 ?e2 ?_))
                  case e1 => omega
                  case e2 => exact HB3.out.size
                  intro v4 w4 ho4 hg4
                  have HO4 : Hid (w4.ownsRow w2.heap.size 9 1 v4 (vs.length - j) ((vs.drop j).reverse.map Value.string)) := by
                    show World.ownsRow _ _ _ _ _ _ _
                    rw [HRT.out, List.map_append, show vs.length - j = vs.length - (j + 1) + 1 by omega]; simpa using ho4
                  have HB4 : Hid (Below w2.heap.size w2 w4) := HB3.out.grown hg4 HB3.out.size (fun k hk => (World.ownsRow.lt HO3.out k hk).1)
                  clear ho4 hg4
                  go_wp2
                  go_roundw
                  case rel => exact ⟨HB4.out, j, by omega, rfl, HO4.out⟩
                  case measure => simp [intOf]
          · have HNO : Hid (∀ l, ¬ LM.Pk p.data.toList l) := fun l hl => heq (HPK.out l hl).2.2.2
            have hcmp : ((strB (LM.build (itsOf vs))).toList == p.toList) = false := str_other (by rw [strB_list]; exact heq)
            generalize strB (LM.build (itsOf vs)) = BB at *
            clear heq
            go_wp2
            go_ret2
            exact ⟨Or.inr ⟨HNO.out, rfl⟩, HB2.out⟩
end Go.Proofs.YtadihhngegimkaaGreatDoor
namespace Go.Proofs.YtadihhngegimkaaGreatDoor
open Go.RowKit
set_option linter.unusedVariables false
attribute [local go_sem] Oper.semAt_some
/-- entry k is one that is sought. -/
def Hit (from_ step : Int) (it : LM.Item) (l : List LM.Item) (k : Nat) : Prop := from_ ≤ (k : Int) ∧ ((k : Int) - from_) % step = 0 ∧ l[k]? = some it
def FindIs (l : List LM.Item) (from_ step : Int) (it : LM.Item) (r : Int) : Prop :=
  (∃ k : Nat, r = (k : Int) ∧ Hit from_ step it l k ∧ ∀ j, j < k → ¬ Hit from_ step it l j) ∨ (r = -1 ∧ ∀ j, j < l.length → ¬ Hit from_ step it l j)
theorem res_Find {W : World} {S E : Nat} {z x : Int} {tmps : Array Value} (h2 : tmps[8]? = some (.pointer (some ⟨S, 0, none⟩))) (h3 : tmps[9]? = some (.pointer (some ⟨E, 0, none⟩)))
    (hS : W.heap[S]? = some (.cells #[.int .i64 z] 3)) (hE : W.heap[E]? = some (.cells #[.int .i64 x] 24)) :
    (results Tryz.f9 tmps).run Tryz.prog W = .ok (.tuple #[.int .i64 z, .int .i64 x]) W := by
  obtain ⟨l0, lf⟩ := row1 hS
  obtain ⟨e0, ef⟩ := row1 hE
  simp [results, Tryz.results9, go_sem, l0, e0, h2, h3]
set_option maxHeartbeats 2000000 in
set_option maxRecDepth 100000 in
theorem Find_ok (p : ByteArray) (l : List LM.Item) (hpk : LM.Pk p.data.toList l) (F S : Int) (hF : 0 ≤ F ∧ F ≤ 9223372036854775807) (hS : 1 ≤ S ∧ S ≤ 9223372036854775807) (x : ByteArray) (hx : x.size ≤ 281474976710656) (w : World) (hw : Lay w) :
    Calls Tryz.prog 9 #[.string p, .int .i64 F, .int .i64 S, .string x] w fun e w' => (∃ r, e = .returned (.tuple #[.int .i64 r, .int .i64 0]) ∧ FindIs l F S (LM.itemOf x.data.toList) r) ∧ Below w.heap.size w w' := by
  have HW : Hid (Lay w) := hw
  have HPK : Hid _ := hpk
  have hl := hpk.wf
  have hlen := hpk.len
  have hs : LM.bsum l ≤ 1073741824 := by have := hpk.size; rw [hpk.eq, LM.build_len] at this; omega
  have HRH : Hid (∀ W, Lay W → Calls Tryz.prog 24 #[.string p] W (rdP p W)) := fun W hW => read_any p (by have := hpk.size; rw [list_len] at this; omega) W hW
  obtain ⟨⟨it0, it1, it2⟩, hit⟩ : ∃ it, LM.itemOf x.data.toList = it := ⟨_, rfl⟩
  have HIT : Hid (∀ W, Laid W → Calls Tryz.prog 27 #[.string x] W fun e w' => e = .returned (.agg #[.string (strB it0), .int .i64 it1, .bool it2]) ∧ Below W.heap.size W w') := fun W hW => by
    have := itemOf_any x hx W hW
    rw [hit] at this; exact this
  rw [hit]
  have hd1 : decide (F < 0) = false := by simp; omega
  have hd2 : decide (S < 1) = false := by simp; omega
  have HF : Hid _ := hF
  have HSS : Hid _ := hS
  clear hw hpk hit hF hS
  refine calls_of_wpB (n := 10) Tryz.func9 rfl ?_
  simp only [Tryz.ntmps9, List.size_toArray, List.length_cons, List.length_nil, Nat.reduceAdd, Nat.reduceSub, Array.replicate_succ, Array.replicate_zero, List.push_toArray, List.append_toArray, List.nil_append, List.cons_append]
  refine wpB_then (n := 10) ?_
  gi_wp2
  obtain ⟨W0, hW0⟩ : ∃ W0, W0 = (((w.alloc (.cells #[.int .i64 F] 3)).alloc (.cells #[.int .i64 S] 3)).alloc (.cells #[.int .i64 0] 3)).alloc (.cells #[.int .i64 0] 24) := ⟨_, rfl⟩
  obtain ⟨kF, hkF⟩ : ∃ kF, w.heap.size = kF := ⟨_, rfl⟩
  have HB0 : Hid (Below w.heap.size w W0) := by rw [hW0]; exact ((((Below.refl _ w).alloc (Nat.le_refl _) _).alloc (by simp) _).alloc (by simp; omega) _).alloc (by simp; omega) _
  have HF0 : Hid (W0.heap[kF]? = some (.cells #[.int .i64 F] 3)) := by
    rw [hW0, ← hkF]; exact keep_row (keep_row (keep_row (one_alloc w _) ((Below.refl _ _).alloc (Nat.le_refl _) _)) ((Below.refl _ _).alloc (Nat.le_refl _) _)) ((Below.refl _ _).alloc (Nat.le_refl _) _)
  have HS0 : Hid (W0.heap[kF + 1]? = some (.cells #[.int .i64 S] 3)) := by
    rw [hW0, ← hkF]; refine keep_row (keep_row ?_ ((Below.refl _ _).alloc (Nat.le_refl _) _)) ((Below.refl _ _).alloc (Nat.le_refl _) _)
    have := one_alloc (w.alloc (.cells #[.int .i64 F] 3)) (.cells #[.int .i64 S] 3)
    rwa [World.size_alloc] at this
  have HR0 : Hid (W0.heap[kF + 1 + 1]? = some (.cells #[.int .i64 0] 3)) := by
    rw [hW0, ← hkF]; refine keep_row ?_ ((Below.refl _ _).alloc (Nat.le_refl _) _)
    have := one_alloc ((w.alloc (.cells #[.int .i64 F] 3)).alloc (.cells #[.int .i64 S] 3)) (.cells #[.int .i64 0] 3)
    rwa [World.size_alloc, World.size_alloc] at this
  have HE0 : Hid (W0.heap[kF + 1 + 1 + 1]? = some (.cells #[.int .i64 0] 24)) := by
    rw [hW0, ← hkF]; have := one_alloc (((w.alloc (.cells #[.int .i64 F] 3)).alloc (.cells #[.int .i64 S] 3)).alloc (.cells #[.int .i64 0] 3)) (.cells #[.int .i64 0] 24)
    rwa [World.size_alloc, World.size_alloc, World.size_alloc] at this
  rw [← hW0]
  simp only [hkF]
  have HKF : Hid _ := hkF
  clear hW0 hkF
  refine wpB_then (n := 10) ?_
  gi_wp2_with fail
  refine ⟨trivial, (callsIn_wide.2 (HRH.out _ (HW.out.on HB0.out))).mono ?_⟩
  rintro e w1 ⟨⟨l', hl', rfl⟩ | ⟨hno, rfl⟩, hb1⟩
  case inr => exact absurd HPK.out (hno l)
  have he := HPK.out.uniq hl'
  subst he
  have HB1 : Hid (Below w.heap.size w w1) := bel_to HB0.out hb1 (Nat.le_refl _)
  have HF1 : Hid _ := keep_row HF0.out hb1
  have HS1 : Hid _ := keep_row HS0.out hb1
  have HR1 : Hid _ := keep_row HR0.out hb1
  have HE1 : Hid _ := keep_row HE0.out hb1
  have hBs : (strB (LM.bodyOf l)).size = LM.bsum l := by rw [strB_size, LM.bodyOf_len]
  have HBL : Hid ((strB (LM.bodyOf l)).data.toList = LM.bodyOf l) := strB_list _
  clear hb1 hl'
  generalize strB (LM.bodyOf l) = Bo at *
  gi_wp2
  obtain ⟨kp, hkp⟩ : ∃ kp, w1.heap.size = kp := ⟨_, rfl⟩
  obtain ⟨W1, hW1⟩ : ∃ W1, W1 = w1.alloc (.cells #[.string Bo, .int .i64 (l.length : Int)] 54) := ⟨_, rfl⟩
  rw [← hW1, hkp]
  have hbw : Below w1.heap.size w1 W1 := by rw [hW1]; exact (Below.refl _ _).alloc (Nat.le_refl _) _
  have HB2 : Hid (Below w.heap.size w W1) := bel_to HB1.out hbw (Nat.le_refl _)
  have HP2 : Hid (W1.heap[kp]? = some (.cells #[.string Bo, .int .i64 (l.length : Int)] 54)) := by rw [hW1, ← hkp]; exact one_alloc w1 _
  have HF2 : Hid _ := keep_row HF1.out hbw
  have HS2 : Hid _ := keep_row HS1.out hbw
  have HR2 : Hid _ := keep_row HR1.out hbw
  have HE2 : Hid _ := keep_row HE1.out hbw
  clear hW1 hkp hbw
  refine wpB_then (n := 10) ?_
  gi_wp2
  obtain ⟨f0, ff⟩ := row1 HF2.out
  obtain ⟨s0, sf⟩ := row1 HS2.out
  refine wpB_then (n := 10) ?_
  gi_wp2
  clear f0 ff s0 sf
  refine wpB_then (n := 10) ?_
  obtain ⟨I0, hI0⟩ : ∃ I0, strB it0 = I0 := ⟨_, rfl⟩
  rw [hI0] at HIT
  gi_wp2_with fail
  refine ⟨trivial, (callsIn_wide.2 (HIT.out _ (HW.out.on HB2.out).laid)).mono ?_⟩
  rintro e w3 ⟨rfl, hb3⟩
  have HB3 : Hid (Below w.heap.size w w3) := bel_to HB2.out hb3 (Nat.le_refl _)
  have HP3 : Hid _ := keep_row HP2.out hb3
  have HF3 : Hid _ := keep_row HF2.out hb3
  have HS3 : Hid _ := keep_row HS2.out hb3
  have HR3 : Hid _ := keep_row HR2.out hb3
  have HE3 : Hid _ := keep_row HE2.out hb3
  clear hb3
  gi_wp2
  obtain ⟨ks, hks⟩ : ∃ ks, w3.heap.size = ks := ⟨_, rfl⟩
  obtain ⟨W3, hW3⟩ : ∃ W3, W3 = w3.alloc (.cells #[.string I0, .int .i64 it1, .bool it2] 61) := ⟨_, rfl⟩
  rw [← hW3, hks]
  have hbw : Below w3.heap.size w3 W3 := by rw [hW3]; exact (Below.refl _ _).alloc (Nat.le_refl _) _
  have HB4 : Hid (Below w.heap.size w W3) := bel_to HB3.out hbw (Nat.le_refl _)
  have HK4 : Hid (W3.heap[ks]? = some (.cells #[.string I0, .int .i64 it1, .bool it2] 61)) := by rw [hW3, ← hks]; exact one_alloc w3 _
  have HP4 : Hid _ := keep_row HP3.out hbw
  have HF4 : Hid _ := keep_row HF3.out hbw
  have HS4 : Hid _ := keep_row HS3.out hbw
  have HR4 : Hid _ := keep_row HR3.out hbw
  have HE4 : Hid _ := keep_row HE3.out hbw
  clear hW3 hks hbw
  obtain ⟨p0, p1, pf⟩ := prow2 HP4.out
  refine wpB_seq (wpB_then (n := 10) ?_)
  gi_wp2_with fail
  refine ⟨trivial, (callsIn_wide.2 (fwd_any Bo (l.length : Int) _)).mono ?_⟩
  rintro e w5 ⟨rfl, hw5⟩
  obtain ⟨bx, hbx⟩ : ∃ bx, W3.heap.size = bx := ⟨_, rfl⟩
  rw [hbx]
  have HX5 : Hid (w5.heap[bx]? = some (.cells #[.string Bo, .int .i64 (l.length : Int)] 54)) := by rw [hw5, ← hbx]; exact one_alloc W3 _
  have hbw : Below W3.heap.size W3 w5 := by rw [hw5]; exact (Below.refl _ _).alloc (Nat.le_refl _) _
  have HB5 : Hid (Below w.heap.size w w5) := bel_to HB4.out hbw (Nat.le_refl _)
  have HK5 : Hid _ := keep_row HK4.out hbw
  have HF5 : Hid _ := keep_row HF4.out hbw
  have HS5 : Hid _ := keep_row HS4.out hbw
  have HR5 : Hid _ := keep_row HR4.out hbw
  have HE5 : Hid _ := keep_row HE4.out hbw
  clear hw5 hbw hbx p0 p1 pf
  gi_wp2
  refine wpB_block ?_
  have hseq := fwd_seq 9 Bo (l.length : Int) bx (l.length + LM.bsum l + 1) w5.heap.size (by omega) (by omega)
  rw [HBL.out, LM.parse_body l _ 0 0 hl (by omega)] at hseq
  have HSQ : Hid _ := hseq
  have HLT : Hid (kF + 1 + 1 + 1 < w5.heap.size) := row_lt HE5.out
  clear hseq
  refine WpB_act (fun a0 ha0 => ?_)
  refine wpB_range (n := 10) (α := LM.Ent) (encs := encs) (L := LM.entsFrom 0 0 l) (bad := false) (pch := pch) (box := Box Bo (l.length : Int) bx) Tryz.func9 (gf := 40) (lb := #[.pointer (some ⟨bx, 0, none⟩)]) (by rw [ha0]; rfl) (enters_of Tryz.func40 (by kernel_rfl) rfl) HSQ.out (fun _ => rfl)
    (fun pre W => W.heap[kF]? = some (.cells #[.int .i64 F] 3) ∧ W.heap[kF + 1]? = some (.cells #[.int .i64 S] 3) ∧ W.heap[kF + 1 + 1]? = some (.cells #[.int .i64 0] 3) ∧ W.heap[kF + 1 + 1 + 1]? = some (.cells #[.int .i64 0] 24) ∧ W.heap[ks]? = some (.cells #[.string I0, .int .i64 it1, .bool it2] 61) ∧ W.heap[bx]? = some (.cells #[.string Bo, .int .i64 (l.length : Int)] 54) ∧ Below w.heap.size w W ∧ ∀ j, j < pre.length → ¬ Hit F S ⟨it0, it1, it2⟩ l j)
    (fun cd pre W => cd = .ret ∧ (∃ r, FindIs l F S ⟨it0, it1, it2⟩ r ∧ W.heap[kF + 1 + 1]? = some (.cells #[.int .i64 r] 3)) ∧ W.heap[kF + 1 + 1 + 1]? = some (.cells #[.int .i64 0] 24) ∧ Below w.heap.size w W)
    (fun _ => False)
    ?hI ?hIx (fun _ _ _ _ hs _ _ => hs) ?hbox ?h0
    (fun (x : LM.Ent) (a' : Act) (W : World) => ∃ kk : Nat, a' = { tmps := (((a0.tmps.setIfInBounds 33 (.int .i64 (x.place : Int))).setIfInBounds 34 (encE x.it x.begin x.span)).setIfInBounds 13 (.int .i64 (x.place : Int))).setIfInBounds 14 (.pointer (some ⟨kk, 0, none⟩)), defers := [] } ∧ W.heap[kk]? = some (.cells #[.string (strB x.it.txt), .int .i64 x.it.num, .bool x.it.isN, .int .i64 (x.begin : Int), .int .i64 (x.span : Int)] 63)) ?hAx ?assign ?body ?done ?stop ?pan
  case hI =>
    rintro s A B row ⟨h1, h2, h3, h4, h5, h6, h7, h8⟩ hg hr
    exact ⟨own_row h1 hg hr, own_row h2 hg hr, own_row h3 hg hr, own_row h4 hg hr, own_row h5 hg hr, own_row h6 hg hr, ownFrom_below (β := Unit) (Nat.le_refl _) HB5.out.size () A B row h7 hg hr, h8⟩
  case hIx =>
    rintro cd s A B row ⟨h1, ⟨z, h2, h2'⟩, h3, h4⟩ hg hr
    exact ⟨h1, ⟨z, h2, own_row h2' hg hr⟩, own_row h3 hg hr, ownFrom_below (β := Unit) (Nat.le_refl _) HB5.out.size () A B row h4 hg hr⟩
  case hbox =>
    rintro pre W ⟨h1, h2, h3, h4, h5, h6, h7, h8⟩
    exact ⟨h6, (HW.out.on h7).wid⟩
  case h0 => exact ⟨HF5.out, HS5.out, HR5.out, HE5.out, HK5.out, HX5.out, HB5.out, by simp⟩
  case hAx =>
    rintro x a' s A B row ⟨kk, h1, h2⟩ hg hr
    exact ⟨kk, h1, own_row h2 hg hr⟩
  case pan => intro D W _ h; rcases h with h | ⟨h, _⟩; exact h.elim; cases h
  case assign =>
    intro ll pre x W K hpre hI hK
    have HKK : Hid _ := hK
    clear hK hI
    obtain ⟨pl, ⟨t, m, q⟩, a, n⟩ := x
    obtain ⟨T, hT⟩ : ∃ T, strB t = T := ⟨_, rfl⟩
    have HA0 : Hid _ := ha0
    rw [ha0]
    simp only [encs, encE, hT, List.zip_toArray, List.zip_cons_cons, List.zip_nil_right, List.foldl_toArray, List.foldl_cons, List.foldl_nil, List.setIfInBounds_toArray, List.set_cons_zero, List.set_cons_succ]
    clear ha0
    gi_wp2
    refine HKK.out _ _ ((Below.refl _ W).alloc (Nat.le_refl _) _) ⟨W.heap.size, ?_, ?_⟩
    · rw [HA0.out, ← hT]; rfl
    · rw [hT]; exact one_alloc W _
  case body =>
    rintro ll pre x a' W hll hpre ⟨hF, hS, hR, hE, hK, hX, hb, hni⟩ ⟨kk, ha', hrow⟩
    have hget := ents_pre hpre
    have hlp : pre.length < l.length := by have := LM.pre_len hpre; rwa [LM.ents_len] at this
    rw [LM.ents_get l 0 0 pre.length hlp] at hget
    have hxx := (Option.some.inj hget).symm
    simp only [Nat.zero_add] at hxx
    have hxi : l[pre.length]? = some x.it := by rw [hxx, List.getElem?_eq_getElem hlp]
    have hxp : x.place = pre.length := by rw [hxx]
    clear hxx hget
    obtain ⟨pl, ⟨t, m, q⟩, a, n⟩ := x
    simp only at hxp hxi
    subst hxp
    obtain ⟨T, hT⟩ : ∃ T, strB t = T := ⟨_, rfl⟩
    simp only [encE, hT] at ha' hrow
    have HLS : Hid (pre.length < l.length) := hlp
    have HFR : Hid _ := hF
    have HSR : Hid _ := hS
    have HRR : Hid _ := hR
    have HER : Hid _ := hE
    have HKR : Hid _ := hK
    have HXX : Hid _ := hX
    have HB : Hid (Below w.heap.size w W) := hb
    have HNI : Hid _ := hni
    have HXI : Hid _ := hxi
    obtain ⟨f0, ff⟩ := row1 hF
    obtain ⟨s0, sf⟩ := row1 hS
    obtain ⟨r0, rf⟩ := row1 hR
    obtain ⟨e0, ef⟩ := row1 hE
    obtain ⟨q0, q1, q2, qf⟩ := row3 hK
    obtain ⟨k0, k1, k2, k3, k4, kf⟩ := row5 hrow
    rw [ha', ha0]
    simp only [List.setIfInBounds_toArray, List.set_cons_zero, List.set_cons_succ]
    clear ha' ha0 hF hS hR hE hK hX hb hpre hni hxi
    have HEQ : Hid (Hit F S ⟨it0, it1, it2⟩ l pre.length ↔ (F ≤ (pre.length : Int) ∧ (wrap64 ((pre.length : Int) - F)).tmod S = 0 ∧ T.toList = I0.toList ∧ m = it1 ∧ q = it2)) := by
      have hFF := HF.out
      have hlp := HLS.out
      have hw : F ≤ (pre.length : Int) → wrap64 ((pre.length : Int) - F) = (pre.length : Int) - F := fun h => by unfold wrap64; omega
      have htt : T.toList = I0.toList ↔ t = it0 := by
        rw [ByteArray.toList_eq, ByteArray.toList_eq, ← hT, ← hI0, strB_list, strB_list]
      show _ ↔ _
      unfold Hit
      rw [HXI.out, htt]
      constructor
      · rintro ⟨h1, h2, h3⟩
        injection h3 with h3
        injection h3 with e1 e2 e3
        refine ⟨h1, ?_, e1, e2, e3⟩
        rw [hw h1, Int.tmod_eq_emod_of_nonneg (by omega)]; exact h2
      · rintro ⟨h1, h2, rfl, rfl, rfl⟩
        refine ⟨h1, ?_, rfl⟩
        rw [hw h1, Int.tmod_eq_emod_of_nonneg (by omega)] at h2; exact h2
    gi_wp2
    all_goals first
      | exact absurd ‹S = 0› (by have := HSS.out; omega)
      | (refine ⟨KA.refl _ _, HFR.out, HSR.out, HRR.out, HER.out, HKR.out, HXX.out, HB.out, fun j hj => ?_⟩
         rw [List.length_append] at hj
         by_cases hjj : j = pre.length
         · subst hjj
           intro hh
           obtain ⟨h1, h2, h3, h4, h5⟩ := HEQ.out.1 hh
           first | contradiction | omega
         · exact HNI.out j (by simp at hj; omega))
      | (have hHit := HEQ.out.2 ⟨by assumption, by assumption, by assumption, by first | rfl | assumption, by first | rfl | assumption⟩
         have hlt3 := HLT.out
         have hkf := HKF.out
         refine ⟨(KA.setCell _ _ _ (by show kF + 1 + 1 < w5.heap.size; omega)).trans (KA.setCell _ _ _ (by show kF + 1 + 1 + 1 < w5.heap.size; omega)), rfl, ⟨(pre.length : Int), Or.inl ⟨pre.length, rfl, hHit, HNI.out⟩, ?_⟩, ?_, ?_⟩
         · rw [heap_setCell_other _ _ _ _ (show kF + 1 + 1 ≠ kF + 1 + 1 + 1 by omega), heap_setCell_same _ _ _ _ _ _ HRR.out]; rfl
         · rw [heap_setCell_same _ _ _ _ _ _ ((heap_setCell_other _ _ _ _ (show kF + 1 + 1 + 1 ≠ kF + 1 + 1 by omega)).trans HER.out)]; rfl
         · exact (HB.out.setCell (p := ⟨kF + 1 + 1, 0, none⟩) (by show w.heap.size ≤ kF + 1 + 1; omega) _).setCell (p := ⟨kF + 1 + 1 + 1, 0, none⟩) (by show w.heap.size ≤ kF + 1 + 1 + 1; omega) _)
  case stop =>
    rintro D cd pre W hD hpre ⟨rfl, ⟨z, hz, hr⟩, he, hb⟩ hDr
    rw [ha0]
    refine wpB_of (n := 10) ?_
    gi_wp2
    refine ⟨by simp, .inl ⟨_, _, rfl, run_takeDeferred hDr, ?_⟩⟩
    have h1 : kF + 1 + 1 ≠ D := by rintro rfl; rw [hr] at hDr; cases hDr
    have h2 : kF + 1 + 1 + 1 ≠ D := by rintro rfl; rw [he] at hDr; cases hDr
    exact ⟨_, res_Find rfl rfl (put_keep hr h1) (put_keep he h2), ⟨z, rfl, hz⟩, by rw [← HKF.out]; exact put_below hb (by have := HB5.out.size; omega)⟩
  case done =>
    rintro D W hD _ ⟨hF, hS, hR, hE, hK, hX, hb, hni⟩ hDr
    rw [ha0]
    rw [LM.ents_len] at hni
    have HFI : Hid (FindIs l F S ⟨it0, it1, it2⟩ (-1)) := Or.inr ⟨rfl, hni⟩
    obtain ⟨r0, rf⟩ := row1 hR
    obtain ⟨e0, ef⟩ := row1 hE
    have HRR : Hid _ := hR
    have HER : Hid _ := hE
    have HDR : Hid _ := hDr
    have HB : Hid (Below w.heap.size w W) := hb
    clear ha0 hF hS hK hX hb hni hDr hR hE
    refine wpB_then (n := 10) ?_
    gi_wp2
    refine wpB_of (n := 10) ?_
    gi_wp2
    have h1 : kF + 1 + 1 ≠ D := by rintro rfl; have := HDR.out; rw [HRR.out] at this; cases this
    have h2 : kF + 1 + 1 + 1 ≠ D := by rintro rfl; have := HDR.out; rw [HER.out] at this; cases this
    obtain ⟨W6, hW6⟩ : ∃ W6, ((W.setCell ⟨kF + 1 + 1, 0, none⟩ (.int .i64 (-1))).setCell ⟨kF + 1 + 1 + 1, 0, none⟩ (.int .i64 0)) = W6 := ⟨_, rfl⟩
    have hd2 : W6.heap[D]? = some (.deferred (some [])) := by rw [← hW6]; exact (heap_setCell_other _ _ _ _ (fun e => h2 e.symm)).trans ((heap_setCell_other _ _ _ _ (fun e => h1 e.symm)).trans HDR.out)
    have hs6 : W6.heap[kF + 1 + 1]? = some (.cells #[.int .i64 (-1)] 3) := by rw [← hW6, heap_setCell_other _ _ _ _ (show kF + 1 + 1 ≠ kF + 1 + 1 + 1 by omega), heap_setCell_same _ _ _ _ _ _ HRR.out]; rfl
    have he6 : W6.heap[kF + 1 + 1 + 1]? = some (.cells #[.int .i64 0] 24) := by rw [← hW6, heap_setCell_same _ _ _ _ _ _ ((heap_setCell_other _ _ _ _ (show kF + 1 + 1 + 1 ≠ kF + 1 + 1 by omega)).trans HER.out)]; rfl
    have hb6 : Below w.heap.size w W6 := by
      have := HKF.out
      rw [← hW6]; exact (HB.out.setCell (p := ⟨kF + 1 + 1, 0, none⟩) (by show w.heap.size ≤ kF + 1 + 1; omega) _).setCell (p := ⟨kF + 1 + 1 + 1, 0, none⟩) (by show w.heap.size ≤ kF + 1 + 1 + 1; omega) _
    rw [hW6]
    refine ⟨by simp, .inl ⟨_, _, rfl, run_takeDeferred hd2, ?_⟩⟩
    exact ⟨_, res_Find rfl rfl (put_keep hs6 h1) (put_keep he6 h2), ⟨_, rfl, HFI.out⟩, by rw [← HKF.out]; exact put_below hb6 (by have := HB5.out.size; omega)⟩
end Go.Proofs.YtadihhngegimkaaGreatDoor
namespace Go.Proofs.YtadihhngegimkaaGreatDoor
open Go.RowKit
set_option linter.unusedVariables false
theorem vals_get (l : List LM.Item) (k : Nat) (h : k < (valsOf l).length) (h' : k < l.length) : (valsOf l)[k] = strB (LM.val l[k]) := by
  show (List.map _ l)[k] = _
  exact List.getElem_map _
theorem rWalk_ok (p : ByteArray) (l : List LM.Item) (h : LM.Pk p.data.toList l) (w : World) :
    Calls Tryz.prog 12 #[.string p, .bool false] w fun e w' => (∃ v, e = .returned (.tuple #[v, .int .i64 0]) ∧ SRow w' v (valsOf l) ∧ (∀ c, v = .slice none 0 c → c = 0)) ∧ Below w.heap.size w w' := by
  refine (rWalk_any p (by have := h.size; rw [list_len] at this; omega) false w).mono ?_
  rintro e w1 ⟨⟨l', v, hl', rfl, ho⟩ | ⟨hno, rfl⟩, hb⟩
  · have he : l' = l := hl'.uniq h
    subst he
    have := Own.srow (B := w.heap.size) (W := w1) (v := v) (its := l') ho
    exact ⟨⟨v, rfl, this.1, this.2⟩, hb⟩
  · exact absurd h (hno l)
theorem rWalk_bad (p : ByteArray) (hp : p.size ≤ 140737488351232) (h : ∀ l, ¬ LM.Pk p.data.toList l) (b : Bool) (w : World) :
    Calls Tryz.prog 12 #[.string p, .bool b] w fun e w' => e = .returned (.tuple #[.slice none 0 0, .int .i64 60]) ∧ Below w.heap.size w w' := by
  refine (rWalk_any p hp b w).mono ?_
  rintro e w1 ⟨⟨l', v, hl', rfl, ho⟩ | ⟨hno, rfl⟩, hb⟩
  · exact absurd hl' (h l')
  · exact ⟨rfl, hb⟩
theorem rValid_ok (p : ByteArray) (l : List LM.Item) (h : LM.Pk p.data.toList l) (w : World) : Calls Tryz.prog 15 #[.string p] w fun e w' => e = .returned (.int .i64 0) ∧ Below w.heap.size w w' := by
  have HRH : Hid _ := rWalk_ok p l h w
  clear h
  go_enter Tryz.func15, Tryz.ntmps15
  go_wp2_with fail
  refine (show Calls _ _ _ _ _ from HRH.out).mono ?_
  rintro e w1 ⟨⟨v, rfl, hs, hn⟩, hb1⟩
  have HB : Hid (Below w.heap.size w w1) := hb1
  clear hb1 hs hn
  go_wp2
  go_ret
  exact ⟨rfl, HB.out⟩
theorem rValid_bad (p : ByteArray) (hp : p.size ≤ 140737488351232) (h : ∀ l, ¬ LM.Pk p.data.toList l) (w : World) : Calls Tryz.prog 15 #[.string p] w fun e w' => e = .returned (.int .i64 60) ∧ Below w.heap.size w w' := by
  have HRH : Hid _ := rWalk_bad p hp h false w
  clear h hp
  go_enter Tryz.func15, Tryz.ntmps15
  go_wp2_with fail
  refine (show Calls _ _ _ _ _ from HRH.out).mono ?_
  rintro e w1 ⟨rfl, hb1⟩
  have HB : Hid (Below w.heap.size w w1) := hb1
  clear hb1
  go_wp2
  go_ret
  exact ⟨rfl, HB.out⟩
theorem rLen_ok (p : ByteArray) (l : List LM.Item) (h : LM.Pk p.data.toList l) (w : World) : Calls Tryz.prog 6 #[.string p] w fun e w' => e = .returned (.tuple #[.int .i64 (l.length : Int), .int .i64 0]) ∧ Below w.heap.size w w' := by
  have HRH : Hid _ := rWalk_ok p l h w
  have HL : Hid _ := vals_len l
  clear h
  go_enter Tryz.func6, Tryz.ntmps6
  go_wp2_with fail
  refine (show Calls _ _ _ _ _ from HRH.out).mono ?_
  rintro e w1 ⟨⟨v, rfl, hs, hn⟩, hb1⟩
  obtain ⟨P, c, rfl⟩ := hs.form
  have HB : Hid (Below w.heap.size w w1) := hb1
  clear hb1 hs hn
  go_wp2
  go_ret2
  exact ⟨by rw [← HL.out]; rfl, HB.out⟩
theorem rLen_bad (p : ByteArray) (hp : p.size ≤ 140737488351232) (h : ∀ l, ¬ LM.Pk p.data.toList l) (w : World) : Calls Tryz.prog 6 #[.string p] w fun e w' => e = .returned (.tuple #[.int .i64 0, .int .i64 60]) ∧ Below w.heap.size w w' := by
  have HRH : Hid _ := rWalk_bad p hp h false w
  clear h hp
  go_enter Tryz.func6, Tryz.ntmps6
  go_wp2_with fail
  refine (show Calls _ _ _ _ _ from HRH.out).mono ?_
  rintro e w1 ⟨rfl, hb1⟩
  have HB : Hid (Below w.heap.size w w1) := hb1
  clear hb1
  go_wp2
  go_ret2
  exact ⟨rfl, HB.out⟩
theorem rAt_ok (p : ByteArray) (l : List LM.Item) (h : LM.Pk p.data.toList l) (i : Int) (w : World) : Calls Tryz.prog 8 #[.string p, .int .i64 i] w fun e w' => e = .returned (atV l i) ∧ Below w.heap.size w w' := by
  have HRH : Hid _ := rWalk_ok p l h w
  have hL := vals_len l
  by_cases hi : 0 ≤ i ∧ i < (l.length : Int)
  · obtain ⟨k, rfl⟩ : ∃ k : Nat, i = (k : Int) := ⟨i.toNat, by omega⟩
    have hk : k < (valsOf l).length := by omega
    have HR : Hid (atV l (k : Int) = .tuple #[.string (valsOf l)[k], .int .i64 0]) := by
      show _ = _; rw [atV_at l k (by omega), vals_get l k hk (by omega)]
    have hd1 : decide ((k : Int) < 0) = false := by simp
    have hd2 : decide (((valsOf l).length : Int) ≤ (k : Int)) = false := by simp; omega
    have hz0 : (0 : Int) ≤ (k : Int) := by omega
    have hz1 : (k : Int) < ((valsOf l).length : Int) := by omega
    rw [HR.out]
    clear h hi hL HR
    generalize valsOf l = vs at *
    obtain ⟨X, hX⟩ : ∃ X, vs[k] = X := ⟨_, rfl⟩
    rw [hX]
    have HX : Hid _ := hX
    clear hX
    go_enter Tryz.func8, Tryz.ntmps8
    go_wp2_with fail
    refine (show Calls _ _ _ _ _ from HRH.out).mono ?_
    rintro e w1 ⟨⟨v, rfl, hs, hn⟩, hb1⟩
    obtain ⟨P, c, rfl⟩ := hs.form
    obtain ⟨g, o, hP, hc1⟩ := hs.cell k hk
    subst hP
    have HB : Hid (Below w.heap.size w w1) := hb1
    rw [HX.out] at hc1
    clear hb1 hs hn
    go_wp2
    go_ret2
    exact ⟨rfl, HB.out⟩
  · have HR : Hid _ := atV_no l i hi
    have HI : Hid (decide (i < 0) = true ∨ (decide (i < 0) = false ∧ decide (((valsOf l).length : Int) ≤ i) = true)) := by
      by_cases c : i < 0
      · exact Or.inl (by simpa using c)
      · exact Or.inr ⟨by simpa using c, by rw [hL]; simp; omega⟩
    rw [HR.out]
    clear h hi hL HR
    generalize valsOf l = vs at *
    rcases HI.out with hd | ⟨hd, hd2⟩
    all_goals
      go_enter Tryz.func8, Tryz.ntmps8
      go_wp2_with fail
      refine (show Calls _ _ _ _ _ from HRH.out).mono ?_
      rintro e w1 ⟨⟨v, rfl, hs, hn⟩, hb1⟩
      obtain ⟨P, c, rfl⟩ := hs.form
      have HB : Hid (Below w.heap.size w w1) := hb1
      clear hb1 hs hn
      go_wp2
      go_ret2
      exact ⟨rfl, HB.out⟩
theorem rAt_bad (p : ByteArray) (hp : p.size ≤ 140737488351232) (h : ∀ l, ¬ LM.Pk p.data.toList l) (i : Int) (w : World) : Calls Tryz.prog 8 #[.string p, .int .i64 i] w fun e w' => e = .returned (.tuple #[.string ⟨#[]⟩, .int .i64 60]) ∧ Below w.heap.size w w' := by
  have HRH : Hid _ := rWalk_bad p hp h false w
  clear h hp
  go_enter Tryz.func8, Tryz.ntmps8
  go_wp2_with fail
  refine (show Calls _ _ _ _ _ from HRH.out).mono ?_
  rintro e w1 ⟨rfl, hb1⟩
  have HB : Hid (Below w.heap.size w w1) := hb1
  clear hb1
  go_wp2
  go_ret2
  exact ⟨rfl, HB.out⟩
theorem rFind_bad (p : ByteArray) (hp : p.size ≤ 140737488351232) (h : ∀ l, ¬ LM.Pk p.data.toList l) (F S : Int) (x : ByteArray) (w : World) : Calls Tryz.prog 10 #[.string p, .int .i64 F, .int .i64 S, .string x] w fun e w' => e = .returned (.tuple #[.int .i64 0, .int .i64 60]) ∧ Below w.heap.size w w' := by
  have HRH : Hid _ := rWalk_bad p hp h false w
  clear h hp
  go_enter Tryz.func10, Tryz.ntmps10
  go_wp2_with fail
  refine (show Calls _ _ _ _ _ from HRH.out).mono ?_
  rintro e w1 ⟨rfl, hb1⟩
  have HB : Hid (Below w.heap.size w w1) := hb1
  clear hb1
  go_wp2
  go_ret2
  exact ⟨rfl, HB.out⟩
theorem rFind_arg (p : ByteArray) (l : List LM.Item) (h : LM.Pk p.data.toList l) (F S : Int) (hFS : F < 0 ∨ S < 1) (x : ByteArray) (w : World) : Calls Tryz.prog 10 #[.string p, .int .i64 F, .int .i64 S, .string x] w fun e w' => e = .returned (.tuple #[.int .i64 0, .int .i64 1]) ∧ Below w.heap.size w w' := by
  have HRH : Hid _ := rWalk_ok p l h w
  have HI : Hid (decide (F < 0) = true ∨ (decide (F < 0) = false ∧ decide (S < 1) = true)) := by
    by_cases c : F < 0
    · exact Or.inl (by simpa using c)
    · exact Or.inr ⟨by simpa using c, by simp; omega⟩
  clear h hFS
  generalize valsOf l = vs at *
  rcases HI.out with hd | ⟨hd, hd2⟩
  all_goals
    go_enter Tryz.func10, Tryz.ntmps10
    go_wp2_with fail
    refine (show Calls _ _ _ _ _ from HRH.out).mono ?_
    rintro e w1 ⟨⟨v, rfl, hs, hn⟩, hb1⟩
    obtain ⟨P, c, rfl⟩ := hs.form
    have HB : Hid (Below w.heap.size w w1) := hb1
    clear hb1 hs hn
    go_wp2
    go_ret2
    exact ⟨rfl, HB.out⟩
theorem item_eq {it : LM.Item} (h : LM.Wf it) (s : List UInt8) : LM.val it = s ↔ it = LM.itemOf s := by
  constructor
  · intro e; rw [← e, LM.itemOf_val it h]
  · intro e; rw [e, LM.val_itemOf]
theorem hit_iff {p : List UInt8} {l : List LM.Item} (h : LM.Pk p l) (F S : Int) (x : ByteArray) (k : Nat) (hk : k < (valsOf l).length) : Hit F S (LM.itemOf x.data.toList) l k ↔ (F ≤ (k : Int) ∧ ((k : Int) - F) % S = 0 ∧ (valsOf l)[k].data.toList = x.data.toList) := by
  have hk' : k < l.length := by rwa [vals_len] at hk
  have e : (valsOf l)[k].data.toList = LM.val l[k] := by rw [vals_get l k hk hk', strB_list]
  rw [e, item_eq (h.wf _ (List.getElem_mem hk'))]
  unfold Hit
  rw [List.getElem?_eq_getElem hk']
  simp
theorem FindIs.uniq {l : List LM.Item} {F S : Int} {it : LM.Item} {a b : Int} (ha : FindIs l F S it a) (hb : FindIs l F S it b) : a = b := by
  have lt : ∀ k, Hit F S it l k → k < l.length := fun k h => (List.getElem?_eq_some_iff.1 h.2.2).1
  rcases ha with ⟨k, rfl, h1, h2⟩ | ⟨rfl, h1⟩ <;> rcases hb with ⟨j, rfl, h3, h4⟩ | ⟨rfl, h3⟩
  · rcases Nat.lt_trichotomy k j with h | h | h
    · exact absurd h1 (h4 k h)
    · rw [h]
    · exact absurd h3 (h2 j h)
  · exact absurd h1 (h3 k (lt k h1))
  · exact absurd h3 (h1 j (lt j h3))
  · rfl
theorem mod_gap {a b S : Int} (hS : 1 ≤ S) (h1 : a % S = 0) (h2 : b % S = 0) (hlt : a < b) : a + S ≤ b := by
  obtain ⟨x, hx⟩ := Int.dvd_of_emod_eq_zero h1
  obtain ⟨y, hy⟩ := Int.dvd_of_emod_eq_zero h2
  have hxy : x < y := by
    rcases Int.lt_or_le x y with h | h
    · exact h
    · have := Int.mul_le_mul_of_nonneg_left h (show 0 ≤ S by omega)
      omega
  have := Int.mul_le_mul_of_nonneg_left (show x + 1 ≤ y by omega) (show 0 ≤ S by omega)
  rw [Int.mul_add, Int.mul_one] at this
  omega
set_option maxHeartbeats 2000000 in
set_option maxRecDepth 100000 in
theorem rFind_ok (p : ByteArray) (l : List LM.Item) (hpk : LM.Pk p.data.toList l) (F S : Int) (hF : 0 ≤ F ∧ F ≤ 9223372036854775807) (hS : 1 ≤ S ∧ S ≤ 9223372036854775807) (x : ByteArray) (w : World) :
    Calls Tryz.prog 10 #[.string p, .int .i64 F, .int .i64 S, .string x] w fun e w' => (∃ r, e = .returned (.tuple #[.int .i64 r, .int .i64 0]) ∧ FindIs l F S (LM.itemOf x.data.toList) r) ∧ Below w.heap.size w w' := by
  have HRH : Hid _ := rWalk_ok p l hpk w
  have HHIT : Hid (∀ k (hk : k < (valsOf l).length), Hit F S (LM.itemOf x.data.toList) l k ↔ (F ≤ (k : Int) ∧ ((k : Int) - F) % S = 0 ∧ (valsOf l)[k].data.toList = x.data.toList)) := hit_iff hpk F S x
  have hlen : (valsOf l).length ≤ 1048576 := by rw [vals_len]; exact hpk.len
  have HLL : Hid (l.length = (valsOf l).length) := (vals_len l).symm
  have hd1 : decide (F < 0) = false := by simp; omega
  have hd2 : decide (S < 1) = false := by simp; omega
  have HF : Hid _ := hF
  have HSS : Hid _ := hS
  have HIS : Hid (∀ r, FindIs l F S (LM.itemOf x.data.toList) r ↔ ((∃ k : Nat, r = (k : Int) ∧ Hit F S (LM.itemOf x.data.toList) l k ∧ ∀ j, j < k → ¬ Hit F S (LM.itemOf x.data.toList) l j) ∨ (r = -1 ∧ ∀ j, j < l.length → ¬ Hit F S (LM.itemOf x.data.toList) l j))) := fun r => Iff.rfl
  rw [HLL.out] at HIS
  generalize valsOf l = vs at *
  obtain ⟨HT, hHT⟩ : ∃ HT : Nat → Prop, HT = Hit F S (LM.itemOf x.data.toList) l := ⟨_, rfl⟩
  rw [← hHT] at HHIT HIS
  obtain ⟨FI, hFI⟩ : ∃ FI : Int → Prop, FI = FindIs l F S (LM.itemOf x.data.toList) := ⟨_, rfl⟩
  rw [← hFI] at HIS ⊢
  clear hpk HLL hFI hHT
  go_enter Tryz.func10, Tryz.ntmps10
  go_wp2_with fail
  refine (show Calls _ _ _ _ _ from HRH.out).mono ?_
  rintro e w1 ⟨⟨v, rfl, hs, hn⟩, hb1⟩
  obtain ⟨P, c, rfl⟩ := hs.form
  have HB : Hid (Below w.heap.size w w1) := hb1
  have HSR : Hid (SRow w1 (.slice P vs.length c) vs) := hs
  clear hb1 hs hn
  go_wp2
  go_loopw [12] (fun ci wr => wr = w1 ∧ ∃ i : Nat, ci = .int .i64 (i : Int) ∧ (i : Int) ≤ 9223372036854775807 ∧ F ≤ (i : Int) ∧ (i < vs.length → ((i : Int) - F) % S = 0) ∧ ∀ j, j < i → j < vs.length → ¬ HT j) (fun ci _ => vs.length - (intOf ci).toNat)
  case atStart =>
    refine ⟨rfl, F.toNat, by congr 1; omega, by omega, by omega, fun _ => by rw [show ((F.toNat : Int) - F) = 0 by omega]; simp, fun j hj hj2 hc => ?_⟩
    have := ((HHIT.out j hj2).1 hc).1
    omega
  case round =>
    obtain ⟨rfl, i, rfl, hi63, hFi, hmod, hnone⟩ := hrel
    have HMOD : Hid _ := hmod
    have HNO : Hid _ := hnone
    have HFI : Hid _ := hFi
    clear hmod hnone
    by_cases hlt : i < vs.length
    · obtain ⟨g, o, hP, hc1⟩ := HSR.out.cell i hlt
      subst hP
      have HHI : Hid _ := HHIT.out i hlt
      have hz0 : (0 : Int) ≤ (i : Int) := by omega
      have hz1 : (i : Int) < (vs.length : Int) := by omega
      generalize vs[i] = X at *
      by_cases heq : X.data.toList = x.data.toList
      · have hcmp : (X.toList == x.toList) = true := str_same heq
        have HFX : Hid (FI (i : Int)) := (HIS.out _).2 (Or.inl ⟨i, rfl, HHI.out.2 ⟨HFI.out, HMOD.out hlt, heq⟩, fun j hj => HNO.out j hj (by omega)⟩)
        clear heq
        go_wp2
        go_ret2
        exact ⟨⟨_, rfl, HFX.out⟩, HB.out⟩
      · have hcmp : (X.toList == x.toList) = false := str_other heq
        have HNI : Hid (¬ HT i) := fun hc => heq (HHI.out.1 hc).2.2
        clear heq
        obtain ⟨m, hm⟩ : ∃ m : Nat, ((m : Int) = min S (vs.length : Int)) := ⟨(min S (vs.length : Int)).toNat, by omega⟩
        have hm1 : 1 ≤ m := by omega
        have hmn : m ≤ vs.length := by omega
        have HM : Hid _ := hm
        have hmm : min S (vs.length : Int) = (m : Int) := hm.symm
        clear hm
        go_wp2
        go_roundw
        case rel =>
          refine ⟨trivial, i + m, by simp, by omega, by have := HFI.out; omega, fun hl => ?_, fun j hj hj2 hc => ?_⟩
          · have h1 := HM.out
            have h2 : (m : Int) = S := by omega
            have h3 := HMOD.out hlt
            rw [show ((i + m : Nat) : Int) - F = ((i : Int) - F) + S by omega, Int.add_emod_right]; exact h3
          · rcases Nat.lt_trichotomy j i with h | h | h
            · exact HNO.out j h hj2 hc
            · subst h; exact HNI.out hc
            · have h1 := (HHIT.out j hj2).1 hc
              have h3 := HMOD.out hlt
              have h4 := mod_gap HSS.out.1 h3 h1.2.1 (by omega)
              have h5 := HM.out
              omega
        case measure => simp [intOf]; omega
    · have HFX : Hid (FI (-1)) := (HIS.out _).2 (Or.inr ⟨rfl, fun j hj => HNO.out j (by omega) hj⟩)
      go_wp2
      go_ret2
      exact ⟨⟨_, rfl, HFX.out⟩, HB.out⟩
end Go.Proofs.YtadihhngegimkaaGreatDoor
