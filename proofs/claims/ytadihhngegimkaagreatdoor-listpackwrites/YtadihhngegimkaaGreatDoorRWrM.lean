import Derived.Test.YtadihhngegimkaaGreatDoorRBld
import Derived.Test.YtadihhngegimkaaGreatDoorRRdM
import Derived.Test.YtadihhngegimkaaGreatDoorApLM
import Derived.Deep.DeepAppendWide
namespace Go.Proofs.YtadihhngegimkaaGreatDoor
open Go.RowKit
set_option linter.unusedVariables false
theorem newI_nil (vs : List ByteArray) : newI [] 0 0 vs = itsOf vs := by unfold newI itsOf; simp
open Classical in
set_option maxHeartbeats 1000000 in
set_option maxRecDepth 100000 in
theorem rNew_any (v : Value) (vs : List ByteArray) (hvl : vs.length ≤ 70368744177664) (w : World) (hv : SRow w v vs) :
    Calls Tryz.prog 34 #[v] w fun e w' => e = .returned (outS (fitI [] 0 0 vs) (LM.build (newI [] 0 0 vs))) ∧ Below w.heap.size w w' := by
  have HFI : Hid (Calls Tryz.prog 63 #[v] w fun e w' => (∃ b, e = .returned (.bool b) ∧ (b = true ↔ fitI [] 0 0 vs)) ∧ Below w.heap.size w w') := rfits_any v vs hvl w hv
  have HBU : Hid (fitI [] 0 0 vs → ∀ W, SRow W v vs → Calls Tryz.prog 31 #[v] W fun e w' => e = .returned (.string (strB (LM.build (newI [] 0 0 vs)))) ∧ Below W.heap.size W w') := fun hf W hV => by
    have h := (fit_nil vs).1 hf
    rw [newI_nil]
    exact rBuild_any v vs (by omega) h.1 W hV
  have HV : Hid (SRow w v vs) := hv
  obtain ⟨P, c, rfl⟩ := hv.form
  clear hv
  go_enter Tryz.func34, Tryz.ntmps34
  go_wp2_with fail
  refine (show Calls _ _ _ _ _ from HFI.out).mono ?_
  rintro e w1 ⟨⟨b, rfl, hb⟩, hb1⟩
  have HB1 : Hid (Below w.heap.size w w1) := hb1
  clear hb1
  cases b with
  | true =>
    have hf : fitI [] 0 0 vs := hb.1 rfl
    have HO : Hid (outS (fitI [] 0 0 vs) (LM.build (newI [] 0 0 vs)) = .tuple #[.string (strB (LM.build (newI [] 0 0 vs))), .int .i64 0]) := by show _ = _; unfold outS; rw [if_pos hf]
    have HB2 : Hid _ := HBU.out hf
    clear hb hf HBU
    go_wp2_with fail
    refine (show Calls _ _ _ _ _ from HB2.out _ (HV.out.on HB1.out)).mono ?_
    rintro e w2 ⟨rfl, hb2⟩
    have HB3 : Hid (Below w.heap.size w w2) := bel_to HB1.out hb2 (Nat.le_refl _)
    clear hb2
    go_wp2
    go_ret2
    exact ⟨by rw [HO.out]; rfl, HB3.out⟩
  | false =>
    have hf : ¬ fitI [] 0 0 vs := fun h => by have := hb.2 h; cases this
    have HO : Hid (outS (fitI [] 0 0 vs) (LM.build (newI [] 0 0 vs)) = .tuple #[.string ⟨#[]⟩, .int .i64 2]) := by show _ = _; unfold outS; rw [if_neg hf]
    clear hb hf HBU
    go_wp2
    go_ret2
    exact ⟨by rw [HO.out]; rfl, HB1.out⟩
end Go.Proofs.YtadihhngegimkaaGreatDoor
namespace Go.Proofs.YtadihhngegimkaaGreatDoor
open Go.RowKit
set_option linter.unusedVariables false
/-- a row of texts that nobody else holds, as Walk tells it. -/
def Free (w : World) (v : Value) (vs : List ByteArray) : Prop := (v = .slice none 0 0 ∧ vs = []) ∨ ∃ g c, v = .slice (some ⟨g, 0, none⟩) vs.length c ∧ RowAt w g c (vs.map Value.string) ∧ vs.length ≤ c ∧ c ≤ maxLen
theorem with_len (vs : List ByteArray) (i n : Nat) (os : List ByteArray) (h : i + n ≤ vs.length) : (withV vs i n os).length = i + (os.length + (vs.length - (i + n))) := by
  unfold withV; simp only [List.length_append, List.length_take, List.length_drop]; omega
theorem with_map (vs : List ByteArray) (i n : Nat) (os : List ByteArray) : (withV vs i n os).map Value.string = (vs.take i).map Value.string ++ os.map Value.string ++ (vs.drop (i + n)).map Value.string := by
  unfold withV; simp only [List.map_append, List.append_assoc]
/-- append of a row of texts to a row of its own, up to what growslice bears. -/
theorem wpList_append_wide {w : World} {ops : Array Oper} {rest : List Oper} {o : Oper} {a : Act} {Q : Exit → Act → World → Prop} (hg : o.guard = none) (s x : Operand)
    (hop : o.op = Op.call { callee := Callee.builtin Builtin.append, args := #[s, x], argTypes := #[35, 35] })
    (base : Nat) (v : Value) (n : Nat) (xs : List Value) (hs : a.eval s = v) (hown : w.ownsRow base 9 1 v n xs) (xv : Value) (ys : List ByteArray) (hx : a.eval x = xv) (hy : SRow w xv ys) (hnil : ∀ c, xv = .slice none 0 c → c = 0)
    (hl : n + ys.length ≤ 9000000000000) (hb : base ≤ w.heap.size)
    (h : ∀ v' w', w'.ownsRow base 9 1 v' (n + ys.length) (xs ++ ys.map Value.string) → w.grownBy w' v.ownBlock → wpList Tryz.prog ops Q rest (a.put o.dst v') w') :
    wpList Tryz.prog ops Q (o :: rest) a w := by
  obtain ⟨i0, hi, hz0, hz1, hz2⟩ := info_parts info9
  rcases hy.forms hnil with ⟨rfl, rfl⟩ | ⟨ad, c, rfl, hc⟩
  · refine wpList_append_own_none hg s x 35 hop base 9 i0 1 Tryz.underlying35 hi v n xs hs hown hx ?_
    exact h v w (by simpa using hown) (World.grownBy.refl w _)
  · refine wpList_append_own_wide _ hg s x 35 hop base 9 i0 (.string ⟨#[]⟩) 1 16 Tryz.underlying35 hi hz0 hz1 hz2 rfl (by decide) v n xs hs hown ad ys.length c (ys.map Value.string) hx (by simp) hc ?_ ?_ ?_ hb ?_
    · intro u hu; obtain ⟨y, _, rfl⟩ := List.mem_map.1 hu; rfl
    · unfold maxLen; omega
    · omega
    · intro v' w' h1 h2 h3; exact h v' w' h1 h2
set_option maxHeartbeats 2000000 in
set_option maxRecDepth 100000 in
theorem rwith_any (v : Value) (vs : List ByteArray) (w : World) (hv : Free w v vs) (i n : Nat) (hin : i + n ≤ vs.length) (o : Value) (os : List ByteArray) (ho : SRow w o os) (hnil : ∀ c, o = .slice none 0 c → c = 0) (hb : vs.length + os.length ≤ 9000000000000) :
    Calls Tryz.prog 35 #[v, .int .i64 (i : Int), .int .i64 (n : Int), o] w fun e w' => ∃ v', e = .returned v' ∧ w'.ownsRow w.heap.size 9 1 v' (withV vs i n os).length ((withV vs i n os).map Value.string) ∧ Below w.heap.size w w' := by
  have HON : Hid (w.ownsRow w.heap.size 9 1 (.slice none 0 0) 0 []) := ⟨rfl, Or.inl ⟨rfl, rfl⟩⟩
  have HLN : Hid _ := with_len vs i n os hin
  have HMP : Hid _ := with_map vs i n os
  have HSO : Hid (SRow w o os) := ho
  have HNL : Hid _ := hnil
  have HBD : Hid _ := hb
  obtain ⟨OP, OC, hoe⟩ := ho.form
  subst hoe
  clear ho hnil hb
  generalize withV vs i n os = WV at *
  rcases hv with ⟨rfl, rfl⟩ | ⟨g, c, rfl, hrow, hlc, hcm⟩
  · obtain rfl : i = 0 := by simp at hin; omega
    obtain rfl : n = 0 := by simp at hin; omega
    go_enter Tryz.func35, Tryz.ntmps35
    go_wp2_with (at_builtin; go_must (refine wpList_append_wide rfl _ _ rfl w.heap.size (.slice none 0 0) 0 [] rfl HON.out (.slice none 0 0) [] rfl (Or.inl ⟨rfl, none, 0, rfl⟩) (fun c h => nil_cap h) (by simp) (Nat.le_refl _) ?_))
    intro v1 w1 ho1 hg1
    have HO1 : Hid (w1.ownsRow w.heap.size 9 1 v1 0 []) := by show World.ownsRow _ _ _ _ _ _ _; simpa using ho1
    have HB1 : Hid (Below w.heap.size w w1) := (Below.refl _ w).grown hg1 (Nat.le_refl _) (fun k hk => by cases hk)
    clear ho1 hg1
    go_wp2_with (at_builtin; go_must (refine wpList_append_wide rfl _ _ rfl w.heap.size v1 _ _ rfl HO1.out (.slice OP os.length OC) os rfl (HSO.out.on HB1.out) HNL.out ?z3 HB1.out.size ?_))
    case z3 => have h2 := HBD.out; simp at h2; omega
    intro v2 w2 ho2 hg2
    have HO2 : Hid (w2.ownsRow w.heap.size 9 1 v2 os.length (os.map Value.string)) := by show World.ownsRow _ _ _ _ _ _ _; simpa using ho2
    have HB2 : Hid (Below w.heap.size w w2) := HB1.out.grown hg2 HB1.out.size (fun k hk => (World.ownsRow.lt HO1.out k hk).1)
    clear ho2 hg2
    go_wp2_with (at_builtin; go_must (refine wpList_append_wide rfl _ _ rfl w.heap.size v2 _ _ rfl HO2.out (.slice none 0 0) [] rfl (Or.inl ⟨rfl, none, 0, rfl⟩) (fun c h => nil_cap h) ?z6 HB2.out.size ?_))
    case z6 => have h2 := HBD.out; simp at h2 ⊢; omega
    intro v3 w3 ho3 hg3
    have HO3 : Hid (w3.ownsRow w.heap.size 9 1 v3 WV.length (WV.map Value.string)) := by
      show World.ownsRow _ _ _ _ _ _ _
      have h1 := HLN.out
      rw [HMP.out, show WV.length = os.length by simpa using h1]
      simpa using ho3
    have HB3 : Hid (Below w.heap.size w w3) := HB2.out.grown hg3 HB2.out.size (fun k hk => (World.ownsRow.lt HO2.out k hk).1)
    clear ho3 hg3
    go_wp2
    go_ret
    exact ⟨_, rfl, HO3.out, HB3.out⟩
  · have HRW : Hid (RowAt w g c (vs.map Value.string)) := hrow
    obtain ⟨k, hk⟩ : ∃ k, i + n = k := ⟨_, rfl⟩
    rw [hk] at HMP HLN hin
    have hik : i ≤ k := by omega
    have hz0 : (0 : Int) ≤ (i : Int) := by omega
    have hz1 : (i : Int) ≤ (c : Int) := by omega
    have hz2 : (0 : Int) ≤ (k : Int) := by omega
    have hz3 : (k : Int) ≤ (vs.length : Int) := by omega
    have hz4 : (i : Int) + (n : Int) = (k : Int) := by omega
    have hk63 : vs.length ≤ 9000000000000 := by have := HBD.out; omega
    have HLC : Hid _ := hlc
    clear hrow hk hcm
    by_cases hcap : c = k
    · have hkv : k = vs.length := by omega
      have hcap := hcap.symm
      subst hcap
      go_enter Tryz.func35, Tryz.ntmps35
      go_wp2_with (at_builtin; go_must (refine wpList_append_wide rfl _ _ rfl w.heap.size (.slice none 0 0) 0 [] rfl HON.out _ (vs.take i) rfl (RowAt.take HRW.out i _ (by omega)) (fun c h => by cases h) ?p2 (Nat.le_refl _) ?_))
      case p2 => have h2 := HBD.out; simp; omega
      intro v1 w1 ho1 hg1
      have HO1 : Hid (w1.ownsRow w.heap.size 9 1 v1 (0 + (vs.take i).length) ([] ++ (vs.take i).map Value.string)) := by show World.ownsRow _ _ _ _ _ _ _; simpa using ho1
      have HB1 : Hid (Below w.heap.size w w1) := (Below.refl _ w).grown hg1 (Nat.le_refl _) (fun k hk => by cases hk)
      clear ho1 hg1
      go_wp2_with (at_builtin; go_must (refine wpList_append_wide rfl _ _ rfl w.heap.size v1 _ _ rfl HO1.out (.slice OP os.length OC) os rfl (HSO.out.on HB1.out) HNL.out ?p3 HB1.out.size ?_))
      case p3 => have h2 := HBD.out; simp; omega
      intro v2 w2 ho2 hg2
      have HO2 : Hid (w2.ownsRow w.heap.size 9 1 v2 (0 + (vs.take i).length + os.length) ([] ++ (vs.take i).map Value.string ++ os.map Value.string)) := by show World.ownsRow _ _ _ _ _ _ _; simpa using ho2
      have HB2 : Hid (Below w.heap.size w w2) := HB1.out.grown hg2 HB1.out.size (fun k hk => (World.ownsRow.lt HO1.out k hk).1)
      clear ho2 hg2
      go_wp2_with (at_builtin; go_must (refine wpList_append_wide rfl _ _ rfl w.heap.size v2 _ _ rfl HO2.out _ (vs.drop k) rfl ?p4 ?p5 ?p6 HB2.out.size ?_))
      all_goals first
        | exact Or.inl ⟨List.drop_eq_nil_of_le (by omega), _, _, rfl⟩
        | exact (RowAt.on HRW.out HB2.out).tail k _ _ (by omega) (by omega)
        | (intro c h; cases h; done)
        | (have h2 := HBD.out; simp; omega)
        | (intro v3 w3 ho3 hg3
           have HO3 : Hid (w3.ownsRow w.heap.size 9 1 v3 WV.length (WV.map Value.string)) := by
             show World.ownsRow _ _ _ _ _ _ _
             have h1 := HLN.out
             rw [HMP.out, show WV.length = min i vs.length + os.length + (vs.length - k) by omega]
             simpa [hkv] using ho3
           have HB3 : Hid (Below w.heap.size w w3) := HB2.out.grown hg3 HB2.out.size (fun k hk => (World.ownsRow.lt HO2.out k hk).1)
           clear ho3 hg3
           go_wp2
           go_ret
           exact ⟨_, rfl, HO3.out, HB3.out⟩)
    · go_enter Tryz.func35, Tryz.ntmps35
      go_wp2_with (at_builtin; go_must (refine wpList_append_wide rfl _ _ rfl w.heap.size (.slice none 0 0) 0 [] rfl HON.out _ (vs.take i) rfl (RowAt.take HRW.out i _ (by omega)) (fun c h => by cases h) ?r2 (Nat.le_refl _) ?_))
      case r2 => have h2 := HBD.out; simp; omega
      intro v1 w1 ho1 hg1
      have HO1 : Hid (w1.ownsRow w.heap.size 9 1 v1 (0 + (vs.take i).length) ([] ++ (vs.take i).map Value.string)) := by show World.ownsRow _ _ _ _ _ _ _; simpa using ho1
      have HB1 : Hid (Below w.heap.size w w1) := (Below.refl _ w).grown hg1 (Nat.le_refl _) (fun k hk => by cases hk)
      clear ho1 hg1
      go_wp2_with (at_builtin; go_must (refine wpList_append_wide rfl _ _ rfl w.heap.size v1 _ _ rfl HO1.out (.slice OP os.length OC) os rfl (HSO.out.on HB1.out) HNL.out ?r3 HB1.out.size ?_))
      case r3 => have h2 := HBD.out; simp; omega
      intro v2 w2 ho2 hg2
      have HO2 : Hid (w2.ownsRow w.heap.size 9 1 v2 (0 + (vs.take i).length + os.length) ([] ++ (vs.take i).map Value.string ++ os.map Value.string)) := by show World.ownsRow _ _ _ _ _ _ _; simpa using ho2
      have HB2 : Hid (Below w.heap.size w w2) := HB1.out.grown hg2 HB1.out.size (fun k hk => (World.ownsRow.lt HO1.out k hk).1)
      clear ho2 hg2
      go_wp2_with (at_builtin; go_must (refine wpList_append_wide rfl _ _ rfl w.heap.size v2 _ _ rfl HO2.out _ (vs.drop k) rfl ?r4 ?r5 ?r6 HB2.out.size ?_))
      all_goals first
        | exact Or.inl ⟨List.drop_eq_nil_of_le (by omega), _, _, rfl⟩
        | exact (RowAt.on HRW.out HB2.out).tail k _ _ (by omega) (by omega)
        | (intro c h; cases h; done)
        | (have h2 := HBD.out; simp; omega)
        | (intro v3 w3 ho3 hg3
           have HO3 : Hid (w3.ownsRow w.heap.size 9 1 v3 WV.length (WV.map Value.string)) := by
             show World.ownsRow _ _ _ _ _ _ _
             have h1 := HLN.out
             rw [HMP.out, show WV.length = min i vs.length + os.length + (vs.length - k) by omega]
             simpa using ho3
           have HB3 : Hid (Below w.heap.size w w3) := HB2.out.grown hg3 HB2.out.size (fun k hk => (World.ownsRow.lt HO2.out k hk).1)
           clear ho3 hg3
           go_wp2
           go_ret
           exact ⟨_, rfl, HO3.out, HB3.out⟩)
end Go.Proofs.YtadihhngegimkaaGreatDoor
namespace Go.Proofs.YtadihhngegimkaaGreatDoor
open Go.RowKit
set_option linter.unusedVariables false
theorem Free.on {w w' : World} {v : Value} {vs : List ByteArray} (h : Free w v vs) (hb : Below w.heap.size w w') : Free w' v vs := by
  rcases h with h | ⟨g, c, h1, h2, h3⟩
  · exact Or.inl h
  · exact Or.inr ⟨g, c, h1, h2.on hb, h3⟩
theorem Free.form {w : World} {v : Value} {vs : List ByteArray} (h : Free w v vs) : ∃ P c, v = .slice P vs.length c := by
  rcases h with ⟨rfl, rfl⟩ | ⟨g, c, h1, _⟩
  · exact ⟨_, _, rfl⟩
  · exact ⟨_, _, h1⟩
theorem rWalk_free (p : ByteArray) (l : List LM.Item) (h : LM.Pk p.data.toList l) (w : World) :
    Calls Tryz.prog 12 #[.string p, .bool false] w fun e w' => (∃ v, e = .returned (.tuple #[v, .int .i64 0]) ∧ Free w' v (valsOf l)) ∧ Below w.heap.size w w' := by
  refine (rWalk_any p (by have := h.size; rw [list_len] at this; omega) false w).mono ?_
  rintro e w1 ⟨⟨l', v, hl', rfl, ho⟩ | ⟨hno, rfl⟩, hb⟩
  · have he : l' = l := hl'.uniq h
    subst he
    refine ⟨⟨v, rfl, ?_⟩, hb⟩
    rcases Own.form (B := w.heap.size) (W := w1) (v := v) (its := l') ho with ⟨h1, h2⟩ | ⟨g, c, h1, h2, h3, h4, h5⟩
    · exact Or.inl ⟨h1, List.eq_nil_of_length_eq_zero (by rw [vals_len]; exact h2)⟩
    · exact Or.inr ⟨g, c, by rw [vals_len]; exact h1, h2, by rw [vals_len]; exact h3, h5⟩
  · exact absurd h (hno l)
open Classical in
theorem out_whole {p : List UInt8} {its : List LM.Item} (hp : LM.Pk p its) {i n : Nat} (h : i + n ≤ its.length) (os : List ByteArray) :
    outS (fitI [] 0 0 (withV (valsOf its) i n os)) (LM.build (newI [] 0 0 (withV (valsOf its) i n os))) = outS (fitI its i n os) (LM.build (newI its i n os)) := by
  rw [new_whole its hp.wf i n os, propext (fit_whole hp h os)]
open Classical in
/-- with, then New. -/
theorem with_new {p : List UInt8} {l : List LM.Item} (hp : LM.Pk p l) {i n : Nat} (h : i + n ≤ l.length) (os : List ByteArray) (hb : l.length + os.length ≤ 9000000000000) (v' : Value) (B : Nat) (W : World)
    (ho : W.ownsRow B 9 1 v' (withV (valsOf l) i n os).length ((withV (valsOf l) i n os).map Value.string)) :
    Calls Tryz.prog 34 #[v'] W fun e w' => e = .returned (outS (fitI l i n os) (LM.build (newI l i n os))) ∧ Below W.heap.size W w' := by
  rw [← out_whole hp h os]
  refine rNew_any v' _ ?_ W (srow_of_own ho rfl)
  rw [with_len _ _ _ _ (by rw [vals_len]; exact h), vals_len]
  omega
open Classical in
set_option maxHeartbeats 1000000 in
set_option maxRecDepth 100000 in
theorem rInsert_in (p : ByteArray) (l : List LM.Item) (h : LM.Pk p.data.toList l) (i : Nat) (hi : i ≤ l.length) (v : Value) (vs : List ByteArray) (hvl : l.length + vs.length ≤ 9000000000000) (w : World) (hv : SRow w v vs) (hnil : ∀ c, v = .slice none 0 c → c = 0) :
    Calls Tryz.prog 19 #[.string p, .int .i64 (i : Int), v] w fun e w' => e = .returned (outS (fitI l i 0 vs) (LM.build (newI l i 0 vs))) ∧ Below w.heap.size w w' := by
  have HRH : Hid _ := rWalk_free p l h w
  have HWT : Hid (∀ lv W, Free W lv (valsOf l) → SRow W v vs → Calls Tryz.prog 35 #[lv, .int .i64 (i : Int), .int .i64 0, v] W fun e w' => ∃ v', e = .returned v' ∧ w'.ownsRow W.heap.size 9 1 v' (withV (valsOf l) i 0 vs).length ((withV (valsOf l) i 0 vs).map Value.string) ∧ Below W.heap.size W w') := fun lv W h1 h2 =>
    rwith_any lv (valsOf l) W h1 i 0 (by rw [vals_len]; omega) v vs h2 hnil (by rw [vals_len]; exact hvl)
  have HNW : Hid (∀ v' B W, W.ownsRow B 9 1 v' (withV (valsOf l) i 0 vs).length ((withV (valsOf l) i 0 vs).map Value.string) → Calls Tryz.prog 34 #[v'] W fun e w' => e = .returned (outS (fitI l i 0 vs) (LM.build (newI l i 0 vs))) ∧ Below W.heap.size W w') := fun v' B W ho => with_new h (by omega) vs hvl v' B W ho
  obtain ⟨Z, x, hZ⟩ := outS_two (fitI l i 0 vs) (LM.build (newI l i 0 vs))
  rw [hZ] at HNW ⊢
  have HV : Hid (SRow w v vs) := hv
  have hL := vals_len l
  have hd1 : decide ((i : Int) < 0) = false := by simp
  have hd2 : i ≤ (valsOf l).length := by omega
  have hd3 : (valsOf l).length ≤ 1048576 := by rw [hL]; exact h.len
  obtain ⟨PV, CV, hve⟩ := hv.form
  subst hve
  clear hZ hv hnil hvl h hL hi
  generalize withV (valsOf l) i 0 vs = WV at *
  generalize valsOf l = ls at *
  go_enter Tryz.func19, Tryz.ntmps19
  go_wp2_with fail
  refine (show Calls _ _ _ _ _ from HRH.out).mono ?_
  rintro e w1 ⟨⟨lv, rfl, hf1⟩, hb1⟩
  obtain ⟨LP, LC, hle⟩ := hf1.form
  subst hle
  have HF1 : Hid (Free w1 (.slice LP ls.length LC) ls) := hf1
  have HB1 : Hid (Below w.heap.size w w1) := hb1
  clear hf1 hb1
  go_wp2_with fail
  refine (show Calls _ _ _ _ _ from HWT.out _ _ HF1.out (HV.out.on HB1.out)).mono ?_
  rintro e w2 ⟨v2, rfl, ho2, hb2⟩
  have HO2 : Hid _ := ho2
  have HB2 : Hid (Below w.heap.size w w2) := bel_to HB1.out hb2 (Nat.le_refl _)
  clear ho2 hb2
  go_wp2_with fail
  refine (show Calls _ _ _ _ _ from HNW.out _ _ _ HO2.out).mono ?_
  rintro e w3 ⟨rfl, hb3⟩
  have HB3 : Hid (Below w.heap.size w w3) := bel_to HB2.out hb3 (Nat.le_refl _)
  clear hb3
  go_wp2
  go_ret2
  exact ⟨rfl, HB3.out⟩
set_option maxHeartbeats 1000000 in
set_option maxRecDepth 100000 in
theorem rInsert_out (p : ByteArray) (l : List LM.Item) (h : LM.Pk p.data.toList l) (i : Int) (hi : ¬ (0 ≤ i ∧ i ≤ (l.length : Int))) (v : Value) (vs : List ByteArray) (w : World) (hv : SRow w v vs) :
    Calls Tryz.prog 19 #[.string p, .int .i64 i, v] w fun e w' => e = .returned (.tuple #[.string ⟨#[]⟩, .int .i64 1]) ∧ Below w.heap.size w w' := by
  have HRH : Hid _ := rWalk_free p l h w
  have hL := vals_len l
  have HI : Hid (decide (i < 0) = true ∨ (decide (i < 0) = false ∧ decide (((valsOf l).length : Int) < i) = true)) := by
    by_cases c : i < 0
    · exact Or.inl (by simpa using c)
    · exact Or.inr ⟨by simpa using c, by rw [hL]; simp; omega⟩
  obtain ⟨PV, CV, hve⟩ := hv.form
  subst hve
  clear h hi hL hv
  generalize valsOf l = ls at *
  rcases HI.out with hd | ⟨hd, hd2⟩
  all_goals
    go_enter Tryz.func19, Tryz.ntmps19
    go_wp2_with fail
    refine (show Calls _ _ _ _ _ from HRH.out).mono ?_
    rintro e w1 ⟨⟨lv, rfl, hf1⟩, hb1⟩
    obtain ⟨LP, LC, hle⟩ := hf1.form
    subst hle
    have HB : Hid (Below w.heap.size w w1) := hb1
    clear hb1 hf1
    go_wp2
    go_ret2
    exact ⟨rfl, HB.out⟩
theorem rInsert_bad (p : ByteArray) (hp : p.size ≤ 140737488351232) (h : ∀ l, ¬ LM.Pk p.data.toList l) (i : Int) (v : Value) (vs : List ByteArray) (w : World) (hv : SRow w v vs) :
    Calls Tryz.prog 19 #[.string p, .int .i64 i, v] w fun e w' => e = .returned (.tuple #[.string ⟨#[]⟩, .int .i64 60]) ∧ Below w.heap.size w w' := by
  have HRH : Hid _ := rWalk_bad p hp h false w
  obtain ⟨PV, CV, hve⟩ := hv.form
  subst hve
  clear h hp hv
  go_enter Tryz.func19, Tryz.ntmps19
  go_wp2_with fail
  refine (show Calls _ _ _ _ _ from HRH.out).mono ?_
  rintro e w1 ⟨rfl, hb1⟩
  have HB : Hid (Below w.heap.size w w1) := hb1
  clear hb1
  go_wp2
  go_ret2
  exact ⟨rfl, HB.out⟩
open Classical in
set_option maxHeartbeats 1000000 in
set_option maxRecDepth 100000 in
theorem rSet_in (p : ByteArray) (l : List LM.Item) (h : LM.Pk p.data.toList l) (i : Nat) (hi : i < l.length) (y : ByteArray) (w : World) :
    Calls Tryz.prog 21 #[.string p, .int .i64 (i : Int), .string y] w fun e w' => e = .returned (outS (fitI l i 1 [y]) (LM.build (newI l i 1 [y]))) ∧ Below w.heap.size w w' := by
  have hbd : l.length + [y].length ≤ 9000000000000 := by have := h.len; simp; omega
  have HRH : Hid _ := rWalk_free p l h w
  have HWT : Hid (∀ lv v W, Free W lv (valsOf l) → SRow W v [y] → (∀ c, v = .slice none 0 c → c = 0) → Calls Tryz.prog 35 #[lv, .int .i64 (i : Int), .int .i64 1, v] W fun e w' => ∃ v', e = .returned v' ∧ w'.ownsRow W.heap.size 9 1 v' (withV (valsOf l) i 1 [y]).length ((withV (valsOf l) i 1 [y]).map Value.string) ∧ Below W.heap.size W w') := fun lv v W h1 h2 hnil =>
    rwith_any lv (valsOf l) W h1 i 1 (by rw [vals_len]; omega) v [y] h2 hnil (by rw [vals_len]; exact hbd)
  have HNW : Hid (∀ v' B W, W.ownsRow B 9 1 v' (withV (valsOf l) i 1 [y]).length ((withV (valsOf l) i 1 [y]).map Value.string) → Calls Tryz.prog 34 #[v'] W fun e w' => e = .returned (outS (fitI l i 1 [y]) (LM.build (newI l i 1 [y]))) ∧ Below W.heap.size W w') := fun v' B W ho => with_new h (by omega) [y] hbd v' B W ho
  obtain ⟨Z, x, hZ⟩ := outS_two (fitI l i 1 [y]) (LM.build (newI l i 1 [y]))
  rw [hZ] at HNW ⊢
  have hL := vals_len l
  have hd1 : decide ((i : Int) < 0) = false := by simp
  have hd2 : i < (valsOf l).length := by omega
  have hd3 : (valsOf l).length ≤ 1048576 := by rw [hL]; exact h.len
  clear hZ h hL hi hbd
  generalize withV (valsOf l) i 1 [y] = WV at *
  generalize valsOf l = ls at *
  go_enter Tryz.func21, Tryz.ntmps21
  go_wp2_with fail
  refine (show Calls _ _ _ _ _ from HRH.out).mono ?_
  rintro e w1 ⟨⟨lv, rfl, hf1⟩, hb1⟩
  obtain ⟨LP, LC, hle⟩ := hf1.form
  subst hle
  have HF1 : Hid (Free w1 (.slice LP ls.length LC) ls) := hf1
  have HB1 : Hid (Below w.heap.size w w1) := hb1
  clear hf1 hb1
  have HBA : Hid (Below w1.heap.size w1 (w1.alloc (.cells #[.string y] 9))) := (Below.refl _ w1).alloc (Nat.le_refl _) _
  have HSY : Hid (SRow (w1.alloc (.cells #[.string y] 9)) (.slice (some ⟨w1.heap.size, 0, none⟩) 1 1) [y]) := Or.inr ⟨w1.heap.size, 0, 1, rfl, fun j hj => by
    have h2 := row1 (one_alloc w1 (.cells #[.string y] 9))
    match j, hj with
    | 0, _ => exact h2.1⟩
  go_wp2_with fail
  refine (show Calls _ _ _ _ _ from HWT.out _ _ _ (HF1.out.on HBA.out) HSY.out (fun c h => by cases h)).mono ?_
  rintro e w2 ⟨v2, rfl, ho2, hb2⟩
  have HO2 : Hid _ := ho2
  have HB2 : Hid (Below w.heap.size w w2) := bel_to (bel_to HB1.out HBA.out (Nat.le_refl _)) hb2 (Nat.le_refl _)
  clear ho2 hb2
  go_wp2_with fail
  refine (show Calls _ _ _ _ _ from HNW.out _ _ _ HO2.out).mono ?_
  rintro e w3 ⟨rfl, hb3⟩
  have HB3 : Hid (Below w.heap.size w w3) := bel_to HB2.out hb3 (Nat.le_refl _)
  clear hb3
  go_wp2
  go_ret2
  exact ⟨rfl, HB3.out⟩
set_option maxHeartbeats 1000000 in
set_option maxRecDepth 100000 in
theorem rSet_out (p : ByteArray) (l : List LM.Item) (h : LM.Pk p.data.toList l) (i : Int) (hi : ¬ (0 ≤ i ∧ i < (l.length : Int))) (y : ByteArray) (w : World) :
    Calls Tryz.prog 21 #[.string p, .int .i64 i, .string y] w fun e w' => e = .returned (.tuple #[.string ⟨#[]⟩, .int .i64 6]) ∧ Below w.heap.size w w' := by
  have HRH : Hid _ := rWalk_free p l h w
  have hL := vals_len l
  have HI : Hid (decide (i < 0) = true ∨ (decide (i < 0) = false ∧ decide (((valsOf l).length : Int) ≤ i) = true)) := by
    by_cases c : i < 0
    · exact Or.inl (by simpa using c)
    · exact Or.inr ⟨by simpa using c, by rw [hL]; simp; omega⟩
  clear h hi hL
  generalize valsOf l = ls at *
  rcases HI.out with hd | ⟨hd, hd2⟩
  all_goals
    go_enter Tryz.func21, Tryz.ntmps21
    go_wp2_with fail
    refine (show Calls _ _ _ _ _ from HRH.out).mono ?_
    rintro e w1 ⟨⟨lv, rfl, hf1⟩, hb1⟩
    obtain ⟨LP, LC, hle⟩ := hf1.form
    subst hle
    have HB : Hid (Below w.heap.size w w1) := hb1
    clear hb1 hf1
    go_wp2
    go_ret2
    exact ⟨rfl, HB.out⟩
theorem rSet_bad (p : ByteArray) (hp : p.size ≤ 140737488351232) (h : ∀ l, ¬ LM.Pk p.data.toList l) (i : Int) (y : ByteArray) (w : World) :
    Calls Tryz.prog 21 #[.string p, .int .i64 i, .string y] w fun e w' => e = .returned (.tuple #[.string ⟨#[]⟩, .int .i64 60]) ∧ Below w.heap.size w w' := by
  have HRH : Hid _ := rWalk_bad p hp h false w
  clear h hp
  go_enter Tryz.func21, Tryz.ntmps21
  go_wp2_with fail
  refine (show Calls _ _ _ _ _ from HRH.out).mono ?_
  rintro e w1 ⟨rfl, hb1⟩
  have HB : Hid (Below w.heap.size w w1) := hb1
  clear hb1
  go_wp2
  go_ret2
  exact ⟨rfl, HB.out⟩
open Classical in
set_option maxHeartbeats 1000000 in
set_option maxRecDepth 100000 in
theorem rDelete_in (p : ByteArray) (l : List LM.Item) (h : LM.Pk p.data.toList l) (i n : Nat) (hi64 : i ≤ 9223372036854775807) (hn64 : n ≤ 9223372036854775807) (w : World) :
    Calls Tryz.prog 23 #[.string p, .int .i64 (i : Int), .int .i64 (n : Int)] w fun e w' => e = .returned (outS (fitI l (min i l.length) (min n (l.length - min i l.length)) []) (LM.build (newI l (min i l.length) (min n (l.length - min i l.length)) []))) ∧ Below w.heap.size w w' := by
  obtain ⟨i', hi'⟩ : ∃ i' : Nat, min i l.length = i' := ⟨_, rfl⟩
  obtain ⟨n', hn'⟩ : ∃ n' : Nat, min n (l.length - i') = n' := ⟨_, rfl⟩
  rw [hi', hn']
  have hin : i' + n' ≤ l.length := by omega
  have hbd : l.length + ([] : List ByteArray).length ≤ 9000000000000 := by have := h.len; simp; omega
  have HRH : Hid _ := rWalk_free p l h w
  have HWT : Hid (∀ lv W, Free W lv (valsOf l) → Calls Tryz.prog 35 #[lv, .int .i64 (i' : Int), .int .i64 (n' : Int), .slice none 0 0] W fun e w' => ∃ v', e = .returned v' ∧ w'.ownsRow W.heap.size 9 1 v' (withV (valsOf l) i' n' []).length ((withV (valsOf l) i' n' []).map Value.string) ∧ Below W.heap.size W w') := fun lv W h1 =>
    rwith_any lv (valsOf l) W h1 i' n' (by rw [vals_len]; omega) (.slice none 0 0) [] (Or.inl ⟨rfl, none, 0, rfl⟩) (fun c h => nil_cap h) (by rw [vals_len]; exact hbd)
  have HNW : Hid (∀ v' B W, W.ownsRow B 9 1 v' (withV (valsOf l) i' n' []).length ((withV (valsOf l) i' n' []).map Value.string) → Calls Tryz.prog 34 #[v'] W fun e w' => e = .returned (outS (fitI l i' n' []) (LM.build (newI l i' n' []))) ∧ Below W.heap.size W w') := fun v' B W ho => with_new h hin [] hbd v' B W ho
  obtain ⟨Z, x, hZ⟩ := outS_two (fitI l i' n' []) (LM.build (newI l i' n' []))
  rw [hZ] at HNW ⊢
  have hL := vals_len l
  have hlen := h.len
  have hm1 : min (i : Int) ((valsOf l).length : Int) = (i' : Int) := by omega
  have hm3 : ((valsOf l).length : Int) - (i' : Int) = ((l.length - i' : Nat) : Int) := by omega
  have hm2 : min (n : Int) ((l.length - i' : Nat) : Int) = (n' : Int) := by omega
  have hd1 : decide ((i : Int) < 0) = false := by simp
  have hd2 : decide ((n : Int) < 0) = false := by simp
  have hvl : (valsOf l).length ≤ 1048576 := by omega
  have hil : i' ≤ (valsOf l).length := by omega
  clear hZ h hL hbd hi' hn' hin hlen
  generalize withV (valsOf l) i' n' [] = WV at *
  generalize valsOf l = ls at *
  generalize l.length - i' = D at *
  go_enter Tryz.func23, Tryz.ntmps23
  go_wp2_with fail
  refine (show Calls _ _ _ _ _ from HRH.out).mono ?_
  rintro e w1 ⟨⟨lv, rfl, hf1⟩, hb1⟩
  obtain ⟨LP, LC, hle⟩ := hf1.form
  subst hle
  have HF1 : Hid (Free w1 (.slice LP ls.length LC) ls) := hf1
  have HB1 : Hid (Below w.heap.size w w1) := hb1
  clear hf1 hb1
  go_wp2_with fail
  refine (show Calls _ _ _ _ _ from HWT.out _ _ HF1.out).mono ?_
  rintro e w2 ⟨v2, rfl, ho2, hb2⟩
  have HO2 : Hid _ := ho2
  have HB2 : Hid (Below w.heap.size w w2) := bel_to HB1.out hb2 (Nat.le_refl _)
  clear ho2 hb2
  go_wp2_with fail
  refine (show Calls _ _ _ _ _ from HNW.out _ _ _ HO2.out).mono ?_
  rintro e w3 ⟨rfl, hb3⟩
  have HB3 : Hid (Below w.heap.size w w3) := bel_to HB2.out hb3 (Nat.le_refl _)
  clear hb3
  go_wp2
  go_ret2
  exact ⟨rfl, HB3.out⟩
set_option maxHeartbeats 1000000 in
set_option maxRecDepth 100000 in
theorem rDelete_out (p : ByteArray) (l : List LM.Item) (h : LM.Pk p.data.toList l) (i n : Int) (hi : i < 0 ∨ n < 0) (w : World) :
    Calls Tryz.prog 23 #[.string p, .int .i64 i, .int .i64 n] w fun e w' => e = .returned (.tuple #[.string ⟨#[]⟩, .int .i64 1]) ∧ Below w.heap.size w w' := by
  have HRH : Hid _ := rWalk_free p l h w
  have HI : Hid (decide (i < 0) = true ∨ (decide (i < 0) = false ∧ decide (n < 0) = true)) := by
    by_cases c : i < 0
    · exact Or.inl (by simpa using c)
    · exact Or.inr ⟨by simpa using c, by simp; omega⟩
  clear h hi
  generalize valsOf l = ls at *
  rcases HI.out with hd | ⟨hd, hd2⟩
  all_goals
    go_enter Tryz.func23, Tryz.ntmps23
    go_wp2_with fail
    refine (show Calls _ _ _ _ _ from HRH.out).mono ?_
    rintro e w1 ⟨⟨lv, rfl, hf1⟩, hb1⟩
    obtain ⟨LP, LC, hle⟩ := hf1.form
    subst hle
    have HB : Hid (Below w.heap.size w w1) := hb1
    clear hb1 hf1
    go_wp2
    go_ret2
    exact ⟨rfl, HB.out⟩
theorem rDelete_bad (p : ByteArray) (hp : p.size ≤ 140737488351232) (h : ∀ l, ¬ LM.Pk p.data.toList l) (i n : Int) (w : World) :
    Calls Tryz.prog 23 #[.string p, .int .i64 i, .int .i64 n] w fun e w' => e = .returned (.tuple #[.string ⟨#[]⟩, .int .i64 60]) ∧ Below w.heap.size w w' := by
  have HRH : Hid _ := rWalk_bad p hp h false w
  clear h hp
  go_enter Tryz.func23, Tryz.ntmps23
  go_wp2_with fail
  refine (show Calls _ _ _ _ _ from HRH.out).mono ?_
  rintro e w1 ⟨rfl, hb1⟩
  have HB : Hid (Below w.heap.size w w1) := hb1
  clear hb1
  go_wp2
  go_ret2
  exact ⟨rfl, HB.out⟩
end Go.Proofs.YtadihhngegimkaaGreatDoor
